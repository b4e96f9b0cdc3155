/- Contracts: the law LeaseGrantsAsSpecified. -/
import Derived.Test.YteblnmhaohbkkaaDoorRLeY
import Derived.Test.YteblnmhaohbkkaaDoorRLeB
namespace Go.Proofs.YteblnmhaohbkkaaDoor
set_option linter.unusedVariables false
set_option linter.unusedSimpArgs false
namespace Le
open Go.RowKit Go.Sort
theorem lease_size20 {LC : Array Value} (h : BigR 38 LC) : LC.size = 20 := by
  have h1 := h.info
  have h2 : (Tryd.prog.info? 38).map (·.size) = some 20 := by kernel_rfl
  exact (Option.some.inj (h2.symm.trans h1)).symm
theorem granted_at {X : World} {g : Nat} {t : TypeId} {C : Array Value} {L : List Value} (hl : C.toList = L) (h : Blk X g t C) {i : Nat} {v : Value} (hv : L[i]? = some v) : X.cell? ⟨g, i, none⟩ = some v := by
  have q := World.rangeAt_of_block h 0 C.size
  have e : (C.extract 0 (0 + C.size)).toList = L := by rw [← hl]; simp
  rw [e] at q
  have := q i v hv
  rwa [Nat.zero_add] at this
theorem granted_cells {X : World} {g : Nat} {t : TypeId} {C LC : Array Value} {v0 v1 v2 v3 : Value} (hl : C.toList = [v0, v1, v2] ++ LC.toList ++ [v3]) (hz : LC.size = 20) (h : Blk X g t C) : X.cell? ⟨g, 0, none⟩ = some v0 ∧ X.cell? ⟨g, 1, none⟩ = some v1 ∧ X.cell? ⟨g, 2, none⟩ = some v2 ∧ X.cell? ⟨g, 23, none⟩ = some v3 :=
  ⟨granted_at hl h rfl, granted_at hl h rfl, granted_at hl h rfl, granted_at hl h (by rw [List.getElem?_append_right (by simp [hz])]; simp [hz])⟩
theorem granted_mid {X : World} {g : Nat} {t : TypeId} {C LC : Array Value} {v0 v1 v2 v3 : Value} (hl : C.toList = [v0, v1, v2] ++ LC.toList ++ [v3]) (hz : LC.size = 20) (h : Blk X g t C) : X.rangeAt g 3 LC.toList := fun j v hv => by
  refine granted_at hl h ?_
  have hj : j < LC.toList.length := (List.getElem?_eq_some_iff.1 hv).1
  rw [List.getElem?_append_left (by simp at hj ⊢; omega), List.getElem?_append_right (by simp)]
  simpa using hv
theorem wpList_load_midw {P : Program} {a : Act} {w : World} {op : Oper} {Q : Exit → Act → World → Prop} {ops : Array Oper} {rest : List Oper} (hw : Region.wanted op (yielded ops a.tmps) = true) (ty : TypeId) (x : Operand) (ho : op.op = .load ty x) (b o : Nat) (hx : a.eval x = .pointer (some ⟨b, o, none⟩)) (C : Array Value) (d : TypeDesc)
    (hc : w.rangeAt b o C.toList) (hu : P.underlying ty = some d) (hd : d.isRow = true) (hi : (P.info? ty).map (·.size) = some C.size) (h : wpList P ops Q rest (a.put op.dst (.agg C)) w) : wpList P ops Q (op :: rest) a w :=
  BigFrame.wpList_want hw fun _ hK => wp_load_mid ty x ho b o hx C.toList d hc hu hd (by rw [Array.length_toList]; exact hi) (by rw [Array.toArray_toList]; exact hK _ _ h)
set_option maxRecDepth 100000 in
set_option maxHeartbeats 4000000 in
theorem gs_many (la mo : Int) (a : Option Addr) (c : Nat) (l : List Gr) (k1 k2 : Int) (k3 : ByteArray) (k4 k5 n ep lo hi len : Int) (w : World) (hp : GrA w a l) (hm : l.length ≤ 9223372036854775807) (hla : Hs.LaidC w) (hlk : Hs.LaidK w) (h0 : 70 < l.length) : Calls Tryd.prog 3 #[.agg #[.int .i64 la, .int .i64 mo, .slice a l.length c], .agg #[.int .i64 k1, .int .i64 k2, .string k3, .int .i64 k4, .int .i64 k5], .int .i64 n, .int .i64 ep, per lo hi, .int .i64 len] w fun e w' => e = .returned (.bool true) ∧ Below w.heap.size w w' := by
  have HLA := Lib.hid hla
  have HLK := Lib.hid hlk
  have HP := Lib.hid hp
  have SNT := Lib.hid (fun (X : World) (h : Hs.LaidC X) => sanity_any X h)
  obtain ⟨N, hN⟩ : ∃ N, l.length = N := ⟨_, rfl⟩
  have HE := Lib.hid hN
  rw [hN]
  rw [hN] at h0
  have t0 : decide ((70 : Int) < (N : Int)) = true := decide_eq_true (by omega)
  clear h0
  clear hN hla hlk hp hm
  obtain ⟨G, hG⟩ : ∃ G, w.heap.size = G := ⟨_, rfl⟩
  have HG := Lib.hid hG
  obtain ⟨w0, hw0, Kg, Kk, Kp, B⟩ : ∃ X, (((w.alloc (.cells #[.int .i64 la, .int .i64 mo, .slice a N c] 24)).alloc (.cells #[.int .i64 k1, .int .i64 k2, .string k3, .int .i64 k4, .int .i64 k5] 26)).alloc (.cells #[.int .i64 lo, .int .i64 hi] 28)) = X ∧ Hid (Blk X (G) 24 #[.int .i64 la, .int .i64 mo, .slice a N c]) ∧ Hid (Blk X (G + 1) 26 #[.int .i64 k1, .int .i64 k2, .string k3, .int .i64 k4, .int .i64 k5]) ∧ Hid (Blk X (G + 1 + 1) 28 #[.int .i64 lo, .int .i64 hi]) ∧ Hid (Below w.heap.size w X) := ⟨_, rfl, Lib.hid (((Blk.new' _ _ _ _ hG rfl).alloc _).alloc _), Lib.hid ((Blk.new' _ _ _ _ (by rw [World.size_alloc, hG]) rfl).alloc _), Lib.hid (Blk.new' _ _ _ _ (by rw [World.size_alloc, World.size_alloc, hG]) rfl), Lib.hid (by (repeat' (first | (with_reducible exact Below.refl _ _) | (with_reducible assumption) | (with_reducible refine Below.alloc ?_ ?_ _) | (with_reducible refine Below.drew ?_) | (with_reducible refine below_dn ?_) | (with_reducible refine Below.setCell ?_ ?_ _) | (with_reducible exact Nat.le_refl _) | omega | (simp only [World.size_alloc, World.size_setCell, World.size_drew]; omega) | (simp; omega) | (simp; done))))⟩
  go_enter Tryd.func3, Tryd.ntmps3
  go_upto_region 1 with (fail)
  try rw [hG]
  try rw [hw0]
  clear hw0 hG
  obtain ⟨bgc0, bgc1, bgc2⟩ := three Kg.out
  obtain ⟨bkc0, bkc1, bkc2, bkc3, bkc4⟩ := five Kk.out
  obtain ⟨bpc0, bpc1⟩ := twob Kp.out
  go_wp2_with (fail)
  refine (SNT.out _ (HLA.out.below B.out)).mono ?_
  rintro e w1 ⟨rfl, hb⟩
  replace Kg := Lib.hid (Kg.out.below hb Kg.out.lt)
  replace Kk := Lib.hid (Kk.out.below hb Kk.out.lt)
  replace Kp := Lib.hid (Kp.out.below hb Kp.out.lt)
  replace B := Lib.hid (B.out.trans (hb.mono B.out.size))
  clear bgc0 bgc1 bgc2 bkc0 bkc1 bkc2 bkc3 bkc4 bpc0 bpc1
  clear hb
  obtain ⟨bgc0, bgc1, bgc2⟩ := three Kg.out
  obtain ⟨bkc0, bkc1, bkc2, bkc3, bkc4⟩ := five Kk.out
  obtain ⟨bpc0, bpc1⟩ := twob Kp.out
  go_wp2
  go_ret
  exact ⟨rfl, B.out⟩
set_option maxRecDepth 100000 in
set_option maxHeartbeats 4000000 in
theorem gs_long (la mo : Int) (a : Option Addr) (c : Nat) (l : List Gr) (k1 k2 : Int) (k3 : ByteArray) (k4 k5 n ep lo hi len : Int) (w : World) (hp : GrA w a l) (hm : l.length ≤ 9223372036854775807) (hla : Hs.LaidC w) (hlk : Hs.LaidK w) (h0 : ¬ 70 < l.length) (h1 : 100 < k3.size) : Calls Tryd.prog 3 #[.agg #[.int .i64 la, .int .i64 mo, .slice a l.length c], .agg #[.int .i64 k1, .int .i64 k2, .string k3, .int .i64 k4, .int .i64 k5], .int .i64 n, .int .i64 ep, per lo hi, .int .i64 len] w fun e w' => e = .returned (.bool true) ∧ Below w.heap.size w w' := by
  have HLA := Lib.hid hla
  have HLK := Lib.hid hlk
  have HP := Lib.hid hp
  have SNT := Lib.hid (fun (X : World) (h : Hs.LaidC X) => sanity_any X h)
  obtain ⟨N, hN⟩ : ∃ N, l.length = N := ⟨_, rfl⟩
  have HE := Lib.hid hN
  rw [hN]
  rw [hN] at h0
  have t0 : decide ((70 : Int) < (N : Int)) = false := decide_eq_false (by omega)
  have t1 : decide ((100 : Int) < (k3.size : Int)) = true := decide_eq_true (by omega)
  clear h0 h1
  clear hN hla hlk hp hm
  obtain ⟨G, hG⟩ : ∃ G, w.heap.size = G := ⟨_, rfl⟩
  have HG := Lib.hid hG
  obtain ⟨w0, hw0, Kg, Kk, Kp, B⟩ : ∃ X, (((w.alloc (.cells #[.int .i64 la, .int .i64 mo, .slice a N c] 24)).alloc (.cells #[.int .i64 k1, .int .i64 k2, .string k3, .int .i64 k4, .int .i64 k5] 26)).alloc (.cells #[.int .i64 lo, .int .i64 hi] 28)) = X ∧ Hid (Blk X (G) 24 #[.int .i64 la, .int .i64 mo, .slice a N c]) ∧ Hid (Blk X (G + 1) 26 #[.int .i64 k1, .int .i64 k2, .string k3, .int .i64 k4, .int .i64 k5]) ∧ Hid (Blk X (G + 1 + 1) 28 #[.int .i64 lo, .int .i64 hi]) ∧ Hid (Below w.heap.size w X) := ⟨_, rfl, Lib.hid (((Blk.new' _ _ _ _ hG rfl).alloc _).alloc _), Lib.hid ((Blk.new' _ _ _ _ (by rw [World.size_alloc, hG]) rfl).alloc _), Lib.hid (Blk.new' _ _ _ _ (by rw [World.size_alloc, World.size_alloc, hG]) rfl), Lib.hid (by (repeat' (first | (with_reducible exact Below.refl _ _) | (with_reducible assumption) | (with_reducible refine Below.alloc ?_ ?_ _) | (with_reducible refine Below.drew ?_) | (with_reducible refine below_dn ?_) | (with_reducible refine Below.setCell ?_ ?_ _) | (with_reducible exact Nat.le_refl _) | omega | (simp only [World.size_alloc, World.size_setCell, World.size_drew]; omega) | (simp; omega) | (simp; done))))⟩
  go_enter Tryd.func3, Tryd.ntmps3
  go_upto_region 1 with (fail)
  try rw [hG]
  try rw [hw0]
  clear hw0 hG
  obtain ⟨bgc0, bgc1, bgc2⟩ := three Kg.out
  obtain ⟨bkc0, bkc1, bkc2, bkc3, bkc4⟩ := five Kk.out
  obtain ⟨bpc0, bpc1⟩ := twob Kp.out
  go_wp2_with (fail)
  refine (SNT.out _ (HLA.out.below B.out)).mono ?_
  rintro e w1 ⟨rfl, hb⟩
  replace Kg := Lib.hid (Kg.out.below hb Kg.out.lt)
  replace Kk := Lib.hid (Kk.out.below hb Kk.out.lt)
  replace Kp := Lib.hid (Kp.out.below hb Kp.out.lt)
  replace B := Lib.hid (B.out.trans (hb.mono B.out.size))
  clear bgc0 bgc1 bgc2 bkc0 bkc1 bkc2 bkc3 bkc4 bpc0 bpc1
  clear hb
  obtain ⟨bgc0, bgc1, bgc2⟩ := three Kg.out
  obtain ⟨bkc0, bkc1, bkc2, bkc3, bkc4⟩ := five Kk.out
  obtain ⟨bpc0, bpc1⟩ := twob Kp.out
  go_wp2
  go_ret
  exact ⟨rfl, B.out⟩
set_option maxRecDepth 100000 in
set_option maxHeartbeats 4000000 in
theorem gs_ok (la mo : Int) (a : Option Addr) (c : Nat) (l : List Gr) (k1 k2 : Int) (k3 : ByteArray) (k4 k5 n ep lo hi len : Int) (w : World) (hp : GrA w a l) (hm : l.length ≤ 9223372036854775807) (hla : Hs.LaidC w) (hlk : Hs.LaidK w) (h0 : ¬ 70 < l.length) (h1 : ¬ 100 < k3.size) : Calls Tryd.prog 3 #[.agg #[.int .i64 la, .int .i64 mo, .slice a l.length c], .agg #[.int .i64 k1, .int .i64 k2, .string k3, .int .i64 k4, .int .i64 k5], .int .i64 n, .int .i64 ep, per lo hi, .int .i64 len] w fun e w' => e = .returned (.bool true) ∧ Below w.heap.size w w' := by
  have HLA := Lib.hid hla
  have HLK := Lib.hid hlk
  have HP := Lib.hid hp
  have SNT := Lib.hid (fun (X : World) (h : Hs.LaidC X) => sanity_any X h)
  obtain ⟨la1, mo1, e1, m1, hm1, P1, Q1⟩ := both_new mo
  obtain ⟨la2, mo2, e2, m2, hm2, P2, Q2⟩ := both_issue la mo a c l (by omega)
  obtain ⟨la3, mo3, e3, m3, hm3, P3, Q3⟩ := both_confirm la mo a c l (by omega) n ep
  obtain ⟨la4, mo4, e4, m4, LC, hm4, SL4, P4, Q4⟩ := both_grant la mo a c l (by omega) k1 k2 k3 k4 k5 n lo hi len
  obtain ⟨n5, e5, P5, Q5⟩ := both_dead la mo a c l (by omega) ep
  obtain ⟨m6, e6, hm6, P6, Q6⟩ := both_wait la mo a c l (by omega) ep lo hi
  replace P1 := Lib.hid P1
  replace P2 := Lib.hid P2
  replace P3 := Lib.hid P3
  replace P4 := Lib.hid P4
  replace P5 := Lib.hid P5
  replace P6 := Lib.hid P6
  replace Q1 := Lib.hid Q1
  replace Q2 := Lib.hid Q2
  replace Q3 := Lib.hid Q3
  replace Q4 := Lib.hid Q4
  replace Q5 := Lib.hid Q5
  replace Q6 := Lib.hid Q6
  replace hm1 := Lib.hid hm1
  replace hm2 := Lib.hid hm2
  replace hm3 := Lib.hid hm3
  replace hm4 := Lib.hid hm4
  replace hm6 := Lib.hid hm6
  replace SL4 := Lib.hid SL4
  have BNl := Lib.hid SL4.out.big
  have SZ := Lib.hid (lease_size20 BNl.out)
  have VA := Lib.hid (fun (X : World) (h : GrA X a l) => valid_any la mo a c l X h (by omega))
  have VR := Lib.hid (fun (X : World) (h : GrA X a l) => Le.rvalid_any la mo a c l X h (by omega))
  obtain ⟨vb, hvb⟩ : ∃ b, validB la mo l = b := ⟨_, rfl⟩
  simp only [hvb] at VA VR
  clear hvb
  obtain ⟨N, hN⟩ : ∃ N, l.length = N := ⟨_, rfl⟩
  have HE := Lib.hid hN
  simp only [hN] at VA VR P2 P3 P4 P5 P6 Q2 Q3 Q4 Q5 Q6
  rw [hN]
  rw [hN] at h0
  have t0 : decide ((70 : Int) < (N : Int)) = false := decide_eq_false (by omega)
  have t1 : decide ((100 : Int) < (k3.size : Int)) = false := decide_eq_false (by omega)
  clear h0 h1
  clear hN hla hlk hp hm
  obtain ⟨G, hG⟩ : ∃ G, w.heap.size = G := ⟨_, rfl⟩
  have HG := Lib.hid hG
  obtain ⟨w0, hw0, Kg, Kk, Kp, B⟩ : ∃ X, (((w.alloc (.cells #[.int .i64 la, .int .i64 mo, .slice a N c] 24)).alloc (.cells #[.int .i64 k1, .int .i64 k2, .string k3, .int .i64 k4, .int .i64 k5] 26)).alloc (.cells #[.int .i64 lo, .int .i64 hi] 28)) = X ∧ Hid (Blk X (G) 24 #[.int .i64 la, .int .i64 mo, .slice a N c]) ∧ Hid (Blk X (G + 1) 26 #[.int .i64 k1, .int .i64 k2, .string k3, .int .i64 k4, .int .i64 k5]) ∧ Hid (Blk X (G + 1 + 1) 28 #[.int .i64 lo, .int .i64 hi]) ∧ Hid (Below w.heap.size w X) := ⟨_, rfl, Lib.hid (((Blk.new' _ _ _ _ hG rfl).alloc _).alloc _), Lib.hid ((Blk.new' _ _ _ _ (by rw [World.size_alloc, hG]) rfl).alloc _), Lib.hid (Blk.new' _ _ _ _ (by rw [World.size_alloc, World.size_alloc, hG]) rfl), Lib.hid (by (repeat' (first | (with_reducible exact Below.refl _ _) | (with_reducible assumption) | (with_reducible refine Below.alloc ?_ ?_ _) | (with_reducible refine Below.drew ?_) | (with_reducible refine below_dn ?_) | (with_reducible refine Below.setCell ?_ ?_ _) | (with_reducible exact Nat.le_refl _) | omega | (simp only [World.size_alloc, World.size_setCell, World.size_drew]; omega) | (simp; omega) | (simp; done))))⟩
  go_enter Tryd.func3, Tryd.ntmps3
  go_upto_region 1 with (fail)
  try rw [hG]
  try rw [hw0]
  clear hw0 hG
  obtain ⟨bgc0, bgc1, bgc2⟩ := three Kg.out
  obtain ⟨bkc0, bkc1, bkc2, bkc3, bkc4⟩ := five Kk.out
  obtain ⟨bpc0, bpc1⟩ := twob Kp.out
  go_wp2_with fail
  refine (P1.out _ (RowsA.nil _ _ _ _)).mono ?_
  rintro e w1 ⟨⟨a1, c1, rfl, hr⟩, hb⟩
  have R1 := Lib.hid hr
  replace Kg := Lib.hid (Kg.out.below hb Kg.out.lt)
  replace Kk := Lib.hid (Kk.out.below hb Kk.out.lt)
  replace Kp := Lib.hid (Kp.out.below hb Kp.out.lt)
  replace B := Lib.hid (B.out.trans (hb.mono B.out.size))
  clear bgc0 bgc1 bgc2 bkc0 bkc1 bkc2 bkc3 bkc4 bpc0 bpc1
  clear hb hr
  obtain ⟨bgc0, bgc1, bgc2⟩ := three Kg.out
  obtain ⟨bkc0, bkc1, bkc2, bkc3, bkc4⟩ := five Kk.out
  obtain ⟨bpc0, bpc1⟩ := twob Kp.out
  obtain ⟨gs, hgs⟩ : ∃ G, w1.heap.size = G := ⟨_, rfl⟩
  have Ks := Lib.hid (show Blk (w1.alloc (.cells #[.int .i64 la1, .int .i64 mo1, .slice a1 m1.length c1] 24)) gs 24 #[.int .i64 la1, .int .i64 mo1, .slice a1 m1.length c1] from Blk.new' w1 _ _ _ hgs rfl)
  have Ngs := Lib.hid (show G < gs from by rw [← hgs]; exact Kg.out.lt)
  replace Kg := Lib.hid (Kg.out.alloc (.cells #[.int .i64 la1, .int .i64 mo1, .slice a1 m1.length c1] 24))
  have Nks := Lib.hid (show G + 1 < gs from by rw [← hgs]; exact Kk.out.lt)
  replace Kk := Lib.hid (Kk.out.alloc (.cells #[.int .i64 la1, .int .i64 mo1, .slice a1 m1.length c1] 24))
  have Nps := Lib.hid (show G + 1 + 1 < gs from by rw [← hgs]; exact Kp.out.lt)
  replace Kp := Lib.hid (Kp.out.alloc (.cells #[.int .i64 la1, .int .i64 mo1, .slice a1 m1.length c1] 24))
  replace R1 := Lib.hid (R1.out.mono ((Below.refl _ w1).alloc (Nat.le_refl _) (.cells #[.int .i64 la1, .int .i64 mo1, .slice a1 m1.length c1] 24)))
  have Ls := Lib.hid (show w.heap.size ≤ gs from by rw [← hgs]; exact B.out.size)
  replace B := Lib.hid (B.out.alloc B.out.size (.cells #[.int .i64 la1, .int .i64 mo1, .slice a1 m1.length c1] 24))
  go_upto_region 4 with (fail)
  try rw [hgs]
  generalize hw : w1.alloc (.cells #[.int .i64 la1, .int .i64 mo1, .slice a1 m1.length c1] 24) = w2 at Kg Kk Kp Ks R1 B ⊢
  clear bgc0 bgc1 bgc2 bkc0 bkc1 bkc2 bkc3 bkc4 bpc0 bpc1
  clear hw hgs
  obtain ⟨bgc0, bgc1, bgc2⟩ := three Kg.out
  obtain ⟨bkc0, bkc1, bkc2, bkc3, bkc4⟩ := five Kk.out
  obtain ⟨bpc0, bpc1⟩ := twob Kp.out
  obtain ⟨bsc0, bsc1, bsc2⟩ := three Ks.out
  go_wp2_with fail
  refine (P2.out _ (HP.out.mono B.out)).mono ?_
  rintro e w3 ⟨⟨a2, c2, rfl, hr⟩, hb⟩
  have R2 := Lib.hid hr
  replace Kg := Lib.hid (Kg.out.below hb Kg.out.lt)
  replace Kk := Lib.hid (Kk.out.below hb Kk.out.lt)
  replace Kp := Lib.hid (Kp.out.below hb Kp.out.lt)
  replace Ks := Lib.hid (Ks.out.below hb Ks.out.lt)
  replace R1 := Lib.hid (R1.out.mono hb)
  replace B := Lib.hid (B.out.trans (hb.mono B.out.size))
  clear bgc0 bgc1 bgc2 bkc0 bkc1 bkc2 bkc3 bkc4 bpc0 bpc1 bsc0 bsc1 bsc2
  clear hb hr
  obtain ⟨bgc0, bgc1, bgc2⟩ := three Kg.out
  obtain ⟨bkc0, bkc1, bkc2, bkc3, bkc4⟩ := five Kk.out
  obtain ⟨bpc0, bpc1⟩ := twob Kp.out
  obtain ⟨bsc0, bsc1, bsc2⟩ := three Ks.out
  obtain ⟨gt, hgt⟩ : ∃ G, w3.heap.size = G := ⟨_, rfl⟩
  have Kt := Lib.hid (show Blk (w3.alloc (.cells #[.int .i64 la2, .int .i64 mo2, .slice a2 m2.length c2] 24)) gt 24 #[.int .i64 la2, .int .i64 mo2, .slice a2 m2.length c2] from Blk.new' w3 _ _ _ hgt rfl)
  have Ngt := Lib.hid (show G < gt from by rw [← hgt]; exact Kg.out.lt)
  replace Kg := Lib.hid (Kg.out.alloc (.cells #[.int .i64 la2, .int .i64 mo2, .slice a2 m2.length c2] 24))
  have Nkt := Lib.hid (show G + 1 < gt from by rw [← hgt]; exact Kk.out.lt)
  replace Kk := Lib.hid (Kk.out.alloc (.cells #[.int .i64 la2, .int .i64 mo2, .slice a2 m2.length c2] 24))
  have Npt := Lib.hid (show G + 1 + 1 < gt from by rw [← hgt]; exact Kp.out.lt)
  replace Kp := Lib.hid (Kp.out.alloc (.cells #[.int .i64 la2, .int .i64 mo2, .slice a2 m2.length c2] 24))
  have Nst := Lib.hid (show gs < gt from by rw [← hgt]; exact Ks.out.lt)
  replace Ks := Lib.hid (Ks.out.alloc (.cells #[.int .i64 la2, .int .i64 mo2, .slice a2 m2.length c2] 24))
  replace R1 := Lib.hid (R1.out.mono ((Below.refl _ w3).alloc (Nat.le_refl _) (.cells #[.int .i64 la2, .int .i64 mo2, .slice a2 m2.length c2] 24)))
  replace R2 := Lib.hid (R2.out.mono ((Below.refl _ w3).alloc (Nat.le_refl _) (.cells #[.int .i64 la2, .int .i64 mo2, .slice a2 m2.length c2] 24)))
  have Lt := Lib.hid (show w.heap.size ≤ gt from by rw [← hgt]; exact B.out.size)
  replace B := Lib.hid (B.out.alloc B.out.size (.cells #[.int .i64 la2, .int .i64 mo2, .slice a2 m2.length c2] 24))
  go_upto_region 5 with (fail)
  try rw [hgt]
  generalize hw : w3.alloc (.cells #[.int .i64 la2, .int .i64 mo2, .slice a2 m2.length c2] 24) = w4 at Kg Kk Kp Ks Kt R1 R2 B ⊢
  clear bgc0 bgc1 bgc2 bkc0 bkc1 bkc2 bkc3 bkc4 bpc0 bpc1 bsc0 bsc1 bsc2
  clear hw hgt
  obtain ⟨bgc0, bgc1, bgc2⟩ := three Kg.out
  obtain ⟨bkc0, bkc1, bkc2, bkc3, bkc4⟩ := five Kk.out
  obtain ⟨bpc0, bpc1⟩ := twob Kp.out
  obtain ⟨bsc0, bsc1, bsc2⟩ := three Ks.out
  obtain ⟨btc0, btc1, btc2⟩ := three Kt.out
  go_wp2_with fail
  refine (P3.out _ (HP.out.mono B.out)).mono ?_
  rintro e w5 ⟨⟨a3, c3, rfl, hr⟩, hb⟩
  have R3 := Lib.hid hr
  replace Kg := Lib.hid (Kg.out.below hb Kg.out.lt)
  replace Kk := Lib.hid (Kk.out.below hb Kk.out.lt)
  replace Kp := Lib.hid (Kp.out.below hb Kp.out.lt)
  replace Ks := Lib.hid (Ks.out.below hb Ks.out.lt)
  replace Kt := Lib.hid (Kt.out.below hb Kt.out.lt)
  replace R1 := Lib.hid (R1.out.mono hb)
  replace R2 := Lib.hid (R2.out.mono hb)
  replace B := Lib.hid (B.out.trans (hb.mono B.out.size))
  clear bgc0 bgc1 bgc2 bkc0 bkc1 bkc2 bkc3 bkc4 bpc0 bpc1 bsc0 bsc1 bsc2 btc0 btc1 btc2
  clear hb hr
  obtain ⟨bgc0, bgc1, bgc2⟩ := three Kg.out
  obtain ⟨bkc0, bkc1, bkc2, bkc3, bkc4⟩ := five Kk.out
  obtain ⟨bpc0, bpc1⟩ := twob Kp.out
  obtain ⟨bsc0, bsc1, bsc2⟩ := three Ks.out
  obtain ⟨btc0, btc1, btc2⟩ := three Kt.out
  obtain ⟨gu, hgu⟩ : ∃ G, w5.heap.size = G := ⟨_, rfl⟩
  have Ku := Lib.hid (show Blk (w5.alloc (.cells #[.int .i64 la3, .int .i64 mo3, .slice a3 m3.length c3] 24)) gu 24 #[.int .i64 la3, .int .i64 mo3, .slice a3 m3.length c3] from Blk.new' w5 _ _ _ hgu rfl)
  have Ngu := Lib.hid (show G < gu from by rw [← hgu]; exact Kg.out.lt)
  replace Kg := Lib.hid (Kg.out.alloc (.cells #[.int .i64 la3, .int .i64 mo3, .slice a3 m3.length c3] 24))
  have Nku := Lib.hid (show G + 1 < gu from by rw [← hgu]; exact Kk.out.lt)
  replace Kk := Lib.hid (Kk.out.alloc (.cells #[.int .i64 la3, .int .i64 mo3, .slice a3 m3.length c3] 24))
  have Npu := Lib.hid (show G + 1 + 1 < gu from by rw [← hgu]; exact Kp.out.lt)
  replace Kp := Lib.hid (Kp.out.alloc (.cells #[.int .i64 la3, .int .i64 mo3, .slice a3 m3.length c3] 24))
  have Nsu := Lib.hid (show gs < gu from by rw [← hgu]; exact Ks.out.lt)
  replace Ks := Lib.hid (Ks.out.alloc (.cells #[.int .i64 la3, .int .i64 mo3, .slice a3 m3.length c3] 24))
  have Ntu := Lib.hid (show gt < gu from by rw [← hgu]; exact Kt.out.lt)
  replace Kt := Lib.hid (Kt.out.alloc (.cells #[.int .i64 la3, .int .i64 mo3, .slice a3 m3.length c3] 24))
  replace R1 := Lib.hid (R1.out.mono ((Below.refl _ w5).alloc (Nat.le_refl _) (.cells #[.int .i64 la3, .int .i64 mo3, .slice a3 m3.length c3] 24)))
  replace R2 := Lib.hid (R2.out.mono ((Below.refl _ w5).alloc (Nat.le_refl _) (.cells #[.int .i64 la3, .int .i64 mo3, .slice a3 m3.length c3] 24)))
  replace R3 := Lib.hid (R3.out.mono ((Below.refl _ w5).alloc (Nat.le_refl _) (.cells #[.int .i64 la3, .int .i64 mo3, .slice a3 m3.length c3] 24)))
  have Lu := Lib.hid (show w.heap.size ≤ gu from by rw [← hgu]; exact B.out.size)
  replace B := Lib.hid (B.out.alloc B.out.size (.cells #[.int .i64 la3, .int .i64 mo3, .slice a3 m3.length c3] 24))
  go_upto_region 6 with (fail)
  try rw [hgu]
  generalize hw : w5.alloc (.cells #[.int .i64 la3, .int .i64 mo3, .slice a3 m3.length c3] 24) = w6 at Kg Kk Kp Ks Kt Ku R1 R2 R3 B ⊢
  clear bgc0 bgc1 bgc2 bkc0 bkc1 bkc2 bkc3 bkc4 bpc0 bpc1 bsc0 bsc1 bsc2 btc0 btc1 btc2
  clear hw hgu
  obtain ⟨bgc0, bgc1, bgc2⟩ := three Kg.out
  obtain ⟨bkc0, bkc1, bkc2, bkc3, bkc4⟩ := five Kk.out
  obtain ⟨bpc0, bpc1⟩ := twob Kp.out
  obtain ⟨bsc0, bsc1, bsc2⟩ := three Ks.out
  obtain ⟨btc0, btc1, btc2⟩ := three Kt.out
  obtain ⟨buc0, buc1, buc2⟩ := three Ku.out
  go_wp2_with fail
  refine (P4.out _ (HP.out.mono B.out) (HLA.out.below B.out)).mono ?_
  rintro e w7 ⟨⟨a4, c4, rfl, hr⟩, hb⟩
  have R4 := Lib.hid hr
  replace Kg := Lib.hid (Kg.out.below hb Kg.out.lt)
  replace Kk := Lib.hid (Kk.out.below hb Kk.out.lt)
  replace Kp := Lib.hid (Kp.out.below hb Kp.out.lt)
  replace Ks := Lib.hid (Ks.out.below hb Ks.out.lt)
  replace Kt := Lib.hid (Kt.out.below hb Kt.out.lt)
  replace Ku := Lib.hid (Ku.out.below hb Ku.out.lt)
  replace R1 := Lib.hid (R1.out.mono hb)
  replace R2 := Lib.hid (R2.out.mono hb)
  replace R3 := Lib.hid (R3.out.mono hb)
  replace B := Lib.hid (B.out.trans (hb.mono B.out.size))
  clear bgc0 bgc1 bgc2 bkc0 bkc1 bkc2 bkc3 bkc4 bpc0 bpc1 bsc0 bsc1 bsc2 btc0 btc1 btc2 buc0 buc1 buc2
  clear hb hr
  obtain ⟨bgc0, bgc1, bgc2⟩ := three Kg.out
  obtain ⟨bkc0, bkc1, bkc2, bkc3, bkc4⟩ := five Kk.out
  obtain ⟨bpc0, bpc1⟩ := twob Kp.out
  obtain ⟨bsc0, bsc1, bsc2⟩ := three Ks.out
  obtain ⟨btc0, btc1, btc2⟩ := three Kt.out
  obtain ⟨buc0, buc1, buc2⟩ := three Ku.out
  obtain ⟨gd, hg⟩ : ∃ G, w7.heap.size = G := ⟨_, rfl⟩
  have Zd := Lib.hid (show Blk ((w7.alloc (.cells #[.int .i64 0, .int .i64 0, .slice none 0 0] 24)).alloc (.cells leaseZ 38)) gd 24 #[.int .i64 0, .int .i64 0, .slice none 0 0] from (Blk.new' _ _ _ _ hg rfl).alloc _)
  have Zl := Lib.hid (show Blk ((w7.alloc (.cells #[.int .i64 0, .int .i64 0, .slice none 0 0] 24)).alloc (.cells leaseZ 38)) (gd + 1) 38 leaseZ from Blk.new' _ _ _ _ (by rw [World.size_alloc, hg]) rfl)
  have Yd := Zd
  replace Zd := Lib.hid (show Blk (((w7.alloc (.cells #[.int .i64 0, .int .i64 0, .slice none 0 0] 24)).alloc (.cells leaseZ 38)).setRow gd #[.int .i64 la4, .int .i64 mo4, .slice a4 m4.length c4]) gd 24 #[.int .i64 la4, .int .i64 mo4, .slice a4 m4.length c4] from Zd.out.row_ _)
  replace Zl := Lib.hid (show Blk (((w7.alloc (.cells #[.int .i64 0, .int .i64 0, .slice none 0 0] 24)).alloc (.cells leaseZ 38)).setRow gd #[.int .i64 la4, .int .i64 mo4, .slice a4 m4.length c4]) (gd + 1) 38 leaseZ from Zl.out.rowfar (by omega) _)
  have Yl := Zl
  replace Zd := Lib.hid (show Blk ((((w7.alloc (.cells #[.int .i64 0, .int .i64 0, .slice none 0 0] 24)).alloc (.cells leaseZ 38)).setRow gd #[.int .i64 la4, .int .i64 mo4, .slice a4 m4.length c4]).setRow (gd + 1) LC) gd 24 #[.int .i64 la4, .int .i64 mo4, .slice a4 m4.length c4] from Zd.out.rowfar (by omega) _)
  replace Zl := Lib.hid (show Blk ((((w7.alloc (.cells #[.int .i64 0, .int .i64 0, .slice none 0 0] 24)).alloc (.cells leaseZ 38)).setRow gd #[.int .i64 la4, .int .i64 mo4, .slice a4 m4.length c4]).setRow (gd + 1) LC) (gd + 1) 38 LC from Zl.out.row_ _)
  have hb : Below w7.heap.size w7 ((((w7.alloc (.cells #[.int .i64 0, .int .i64 0, .slice none 0 0] 24)).alloc (.cells leaseZ 38)).setRow gd #[.int .i64 la4, .int .i64 mo4, .slice a4 m4.length c4]).setRow (gd + 1) LC) := (below_setRow (below_setRow (((Below.refl _ w7).alloc (Nat.le_refl _) _).alloc (by simp only [World.size_alloc]; omega) _) (show w7.heap.size ≤ gd by omega) _) (show w7.heap.size ≤ (gd + 1) by omega) _)
  have Ld := Lib.hid (show w.heap.size ≤ gd from by rw [← hg]; exact B.out.size)
  replace Kg := Lib.hid (Kg.out.below hb Kg.out.lt)
  replace Kk := Lib.hid (Kk.out.below hb Kk.out.lt)
  replace Kp := Lib.hid (Kp.out.below hb Kp.out.lt)
  replace Ks := Lib.hid (Ks.out.below hb Ks.out.lt)
  replace Kt := Lib.hid (Kt.out.below hb Kt.out.lt)
  replace Ku := Lib.hid (Ku.out.below hb Ku.out.lt)
  replace R1 := Lib.hid (R1.out.mono hb)
  replace R2 := Lib.hid (R2.out.mono hb)
  replace R3 := Lib.hid (R3.out.mono hb)
  replace R4 := Lib.hid (R4.out.mono hb)
  replace B := Lib.hid (B.out.trans (hb.mono B.out.size))
  go_upto_region 7 with (first | (with_reducible refine Hs.wpList_store_blk rfl 24 _ _ rfl gd 24 #[.int .i64 0, .int .i64 0, .slice none 0 0] #[.int .i64 la4, .int .i64 mo4, .slice a4 m4.length c4] rfl rfl (Blk.hs Yd.out) (big_grants _ _ _ _ _).info ((big_grants _ _ _ _ _).same (big_grants _ _ _ _ _)) (big_grants _ _ _ _ _).one rfl ?_) | (with_reducible refine Hs.wpList_store_blk rfl 38 _ _ rfl (gd + 1) 38 leaseZ LC rfl rfl (Blk.hs Yl.out) BNl.out.info (big_leaseZ.same BNl.out) BNl.out.one rfl ?_))
  try rw [hg]
  generalize hw : ((((w7.alloc (.cells #[.int .i64 0, .int .i64 0, .slice none 0 0] 24)).alloc (.cells leaseZ 38)).setRow gd #[.int .i64 la4, .int .i64 mo4, .slice a4 m4.length c4]).setRow (gd + 1) LC) = w8 at Zd Zl Kg Kk Kp Ks Kt Ku R1 R2 R3 R4 B ⊢
  clear bgc0 bgc1 bgc2 bkc0 bkc1 bkc2 bkc3 bkc4 bpc0 bpc1 bsc0 bsc1 bsc2 btc0 btc1 btc2 buc0 buc1 buc2
  have Kd := Zd
  have Kl := Zl
  clear hb hw hg Zd Yd Zl Yl
  have BGl := BNl
  obtain ⟨bgc0, bgc1, bgc2⟩ := three Kg.out
  obtain ⟨bkc0, bkc1, bkc2, bkc3, bkc4⟩ := five Kk.out
  obtain ⟨bpc0, bpc1⟩ := twob Kp.out
  obtain ⟨bsc0, bsc1, bsc2⟩ := three Ks.out
  obtain ⟨btc0, btc1, btc2⟩ := three Kt.out
  obtain ⟨buc0, buc1, buc2⟩ := three Ku.out
  obtain ⟨bdc0, bdc1, bdc2⟩ := three Kd.out
  go_wp2_with (fail)
  refine (P5.out _ (HP.out.mono B.out)).mono ?_
  rintro e w9 ⟨rfl, hb⟩
  replace Kg := Lib.hid (Kg.out.below hb Kg.out.lt)
  replace Kk := Lib.hid (Kk.out.below hb Kk.out.lt)
  replace Kp := Lib.hid (Kp.out.below hb Kp.out.lt)
  replace Ks := Lib.hid (Ks.out.below hb Ks.out.lt)
  replace Kt := Lib.hid (Kt.out.below hb Kt.out.lt)
  replace Ku := Lib.hid (Ku.out.below hb Ku.out.lt)
  replace Kd := Lib.hid (Kd.out.below hb Kd.out.lt)
  replace Kl := Lib.hid (Kl.out.below hb Kl.out.lt)
  replace R1 := Lib.hid (R1.out.mono hb)
  replace R2 := Lib.hid (R2.out.mono hb)
  replace R3 := Lib.hid (R3.out.mono hb)
  replace R4 := Lib.hid (R4.out.mono hb)
  replace B := Lib.hid (B.out.trans (hb.mono B.out.size))
  clear bgc0 bgc1 bgc2 bkc0 bkc1 bkc2 bkc3 bkc4 bpc0 bpc1 bsc0 bsc1 bsc2 btc0 btc1 btc2 buc0 buc1 buc2 bdc0 bdc1 bdc2
  clear hb
  obtain ⟨bgc0, bgc1, bgc2⟩ := three Kg.out
  obtain ⟨bkc0, bkc1, bkc2, bkc3, bkc4⟩ := five Kk.out
  obtain ⟨bpc0, bpc1⟩ := twob Kp.out
  obtain ⟨bsc0, bsc1, bsc2⟩ := three Ks.out
  obtain ⟨btc0, btc1, btc2⟩ := three Kt.out
  obtain ⟨buc0, buc1, buc2⟩ := three Ku.out
  obtain ⟨bdc0, bdc1, bdc2⟩ := three Kd.out
  go_wp2_with fail
  refine (P6.out _ (HP.out.mono B.out)).mono ?_
  rintro e w10 ⟨⟨a6, c6, rfl, hr⟩, hb⟩
  have R6 := Lib.hid hr
  replace Kg := Lib.hid (Kg.out.below hb Kg.out.lt)
  replace Kk := Lib.hid (Kk.out.below hb Kk.out.lt)
  replace Kp := Lib.hid (Kp.out.below hb Kp.out.lt)
  replace Ks := Lib.hid (Ks.out.below hb Ks.out.lt)
  replace Kt := Lib.hid (Kt.out.below hb Kt.out.lt)
  replace Ku := Lib.hid (Ku.out.below hb Ku.out.lt)
  replace Kd := Lib.hid (Kd.out.below hb Kd.out.lt)
  replace Kl := Lib.hid (Kl.out.below hb Kl.out.lt)
  replace R1 := Lib.hid (R1.out.mono hb)
  replace R2 := Lib.hid (R2.out.mono hb)
  replace R3 := Lib.hid (R3.out.mono hb)
  replace R4 := Lib.hid (R4.out.mono hb)
  replace B := Lib.hid (B.out.trans (hb.mono B.out.size))
  clear bgc0 bgc1 bgc2 bkc0 bkc1 bkc2 bkc3 bkc4 bpc0 bpc1 bsc0 bsc1 bsc2 btc0 btc1 btc2 buc0 buc1 buc2 bdc0 bdc1 bdc2
  clear hb hr
  obtain ⟨bgc0, bgc1, bgc2⟩ := three Kg.out
  obtain ⟨bkc0, bkc1, bkc2, bkc3, bkc4⟩ := five Kk.out
  obtain ⟨bpc0, bpc1⟩ := twob Kp.out
  obtain ⟨bsc0, bsc1, bsc2⟩ := three Ks.out
  obtain ⟨btc0, btc1, btc2⟩ := three Kt.out
  obtain ⟨buc0, buc1, buc2⟩ := three Ku.out
  obtain ⟨bdc0, bdc1, bdc2⟩ := three Kd.out
  clear bgc0 bgc1 bgc2 bkc0 bkc1 bkc2 bkc3 bkc4 bpc0 bpc1 bsc0 bsc1 bsc2 btc0 btc1 btc2 buc0 buc1 buc2 bdc0 bdc1 bdc2
  obtain ⟨bgc0, bgc1, bgc2⟩ := three Kg.out
  obtain ⟨bkc0, bkc1, bkc2, bkc3, bkc4⟩ := five Kk.out
  obtain ⟨bpc0, bpc1⟩ := twob Kp.out
  obtain ⟨bsc0, bsc1, bsc2⟩ := three Ks.out
  obtain ⟨btc0, btc1, btc2⟩ := three Kt.out
  obtain ⟨buc0, buc1, buc2⟩ := three Ku.out
  obtain ⟨bdc0, bdc1, bdc2⟩ := three Kd.out
  go_wp2_with fail
  refine (Q1.out _ (RowsA.nil _ _ _ _)).mono ?_
  rintro e w11 ⟨⟨a7, c7, rfl, hr⟩, hb⟩
  have R7 := Lib.hid hr
  replace Kg := Lib.hid (Kg.out.below hb Kg.out.lt)
  replace Kk := Lib.hid (Kk.out.below hb Kk.out.lt)
  replace Kp := Lib.hid (Kp.out.below hb Kp.out.lt)
  replace Ks := Lib.hid (Ks.out.below hb Ks.out.lt)
  replace Kt := Lib.hid (Kt.out.below hb Kt.out.lt)
  replace Ku := Lib.hid (Ku.out.below hb Ku.out.lt)
  replace Kd := Lib.hid (Kd.out.below hb Kd.out.lt)
  replace Kl := Lib.hid (Kl.out.below hb Kl.out.lt)
  replace R1 := Lib.hid (R1.out.mono hb)
  replace R2 := Lib.hid (R2.out.mono hb)
  replace R3 := Lib.hid (R3.out.mono hb)
  replace R4 := Lib.hid (R4.out.mono hb)
  replace R6 := Lib.hid (R6.out.mono hb)
  replace B := Lib.hid (B.out.trans (hb.mono B.out.size))
  clear bgc0 bgc1 bgc2 bkc0 bkc1 bkc2 bkc3 bkc4 bpc0 bpc1 bsc0 bsc1 bsc2 btc0 btc1 btc2 buc0 buc1 buc2 bdc0 bdc1 bdc2
  clear hb hr
  obtain ⟨bgc0, bgc1, bgc2⟩ := three Kg.out
  obtain ⟨bkc0, bkc1, bkc2, bkc3, bkc4⟩ := five Kk.out
  obtain ⟨bpc0, bpc1⟩ := twob Kp.out
  obtain ⟨bsc0, bsc1, bsc2⟩ := three Ks.out
  obtain ⟨btc0, btc1, btc2⟩ := three Kt.out
  obtain ⟨buc0, buc1, buc2⟩ := three Ku.out
  obtain ⟨bdc0, bdc1, bdc2⟩ := three Kd.out
  obtain ⟨gv, hgv⟩ : ∃ G, w11.heap.size = G := ⟨_, rfl⟩
  have Kv := Lib.hid (show Blk (w11.alloc (.cells #[.int .i64 la1, .int .i64 mo1, .slice a7 m1.length c7, .int .i64 e1] 47)) gv 47 #[.int .i64 la1, .int .i64 mo1, .slice a7 m1.length c7, .int .i64 e1] from Blk.new' w11 _ _ _ hgv rfl)
  have Ngv := Lib.hid (show G < gv from by rw [← hgv]; exact Kg.out.lt)
  replace Kg := Lib.hid (Kg.out.alloc (.cells #[.int .i64 la1, .int .i64 mo1, .slice a7 m1.length c7, .int .i64 e1] 47))
  have Nkv := Lib.hid (show G + 1 < gv from by rw [← hgv]; exact Kk.out.lt)
  replace Kk := Lib.hid (Kk.out.alloc (.cells #[.int .i64 la1, .int .i64 mo1, .slice a7 m1.length c7, .int .i64 e1] 47))
  have Npv := Lib.hid (show G + 1 + 1 < gv from by rw [← hgv]; exact Kp.out.lt)
  replace Kp := Lib.hid (Kp.out.alloc (.cells #[.int .i64 la1, .int .i64 mo1, .slice a7 m1.length c7, .int .i64 e1] 47))
  have Nsv := Lib.hid (show gs < gv from by rw [← hgv]; exact Ks.out.lt)
  replace Ks := Lib.hid (Ks.out.alloc (.cells #[.int .i64 la1, .int .i64 mo1, .slice a7 m1.length c7, .int .i64 e1] 47))
  have Ntv := Lib.hid (show gt < gv from by rw [← hgv]; exact Kt.out.lt)
  replace Kt := Lib.hid (Kt.out.alloc (.cells #[.int .i64 la1, .int .i64 mo1, .slice a7 m1.length c7, .int .i64 e1] 47))
  have Nuv := Lib.hid (show gu < gv from by rw [← hgv]; exact Ku.out.lt)
  replace Ku := Lib.hid (Ku.out.alloc (.cells #[.int .i64 la1, .int .i64 mo1, .slice a7 m1.length c7, .int .i64 e1] 47))
  have Ndv := Lib.hid (show gd < gv from by rw [← hgv]; exact Kd.out.lt)
  replace Kd := Lib.hid (Kd.out.alloc (.cells #[.int .i64 la1, .int .i64 mo1, .slice a7 m1.length c7, .int .i64 e1] 47))
  have Nlv := Lib.hid (show (gd + 1) < gv from by rw [← hgv]; exact Kl.out.lt)
  replace Kl := Lib.hid (Kl.out.alloc (.cells #[.int .i64 la1, .int .i64 mo1, .slice a7 m1.length c7, .int .i64 e1] 47))
  replace R1 := Lib.hid (R1.out.mono ((Below.refl _ w11).alloc (Nat.le_refl _) (.cells #[.int .i64 la1, .int .i64 mo1, .slice a7 m1.length c7, .int .i64 e1] 47)))
  replace R2 := Lib.hid (R2.out.mono ((Below.refl _ w11).alloc (Nat.le_refl _) (.cells #[.int .i64 la1, .int .i64 mo1, .slice a7 m1.length c7, .int .i64 e1] 47)))
  replace R3 := Lib.hid (R3.out.mono ((Below.refl _ w11).alloc (Nat.le_refl _) (.cells #[.int .i64 la1, .int .i64 mo1, .slice a7 m1.length c7, .int .i64 e1] 47)))
  replace R4 := Lib.hid (R4.out.mono ((Below.refl _ w11).alloc (Nat.le_refl _) (.cells #[.int .i64 la1, .int .i64 mo1, .slice a7 m1.length c7, .int .i64 e1] 47)))
  replace R6 := Lib.hid (R6.out.mono ((Below.refl _ w11).alloc (Nat.le_refl _) (.cells #[.int .i64 la1, .int .i64 mo1, .slice a7 m1.length c7, .int .i64 e1] 47)))
  replace R7 := Lib.hid (R7.out.mono ((Below.refl _ w11).alloc (Nat.le_refl _) (.cells #[.int .i64 la1, .int .i64 mo1, .slice a7 m1.length c7, .int .i64 e1] 47)))
  have Lv := Lib.hid (show w.heap.size ≤ gv from by rw [← hgv]; exact B.out.size)
  replace B := Lib.hid (B.out.alloc B.out.size (.cells #[.int .i64 la1, .int .i64 mo1, .slice a7 m1.length c7, .int .i64 e1] 47))
  go_upto_region 10 with (fail)
  try rw [hgv]
  generalize hw : w11.alloc (.cells #[.int .i64 la1, .int .i64 mo1, .slice a7 m1.length c7, .int .i64 e1] 47) = w12 at Kg Kk Kp Ks Kt Ku Kd Kl Kv R1 R2 R3 R4 R6 R7 B ⊢
  clear bgc0 bgc1 bgc2 bkc0 bkc1 bkc2 bkc3 bkc4 bpc0 bpc1 bsc0 bsc1 bsc2 btc0 btc1 btc2 buc0 buc1 buc2 bdc0 bdc1 bdc2
  clear hw hgv
  obtain ⟨bgc0, bgc1, bgc2⟩ := three Kg.out
  obtain ⟨bkc0, bkc1, bkc2, bkc3, bkc4⟩ := five Kk.out
  obtain ⟨bpc0, bpc1⟩ := twob Kp.out
  obtain ⟨bsc0, bsc1, bsc2⟩ := three Ks.out
  obtain ⟨btc0, btc1, btc2⟩ := three Kt.out
  obtain ⟨buc0, buc1, buc2⟩ := three Ku.out
  obtain ⟨bdc0, bdc1, bdc2⟩ := three Kd.out
  obtain ⟨bvc0, bvc1, bvc2, bvc3⟩ := four Kv.out
  go_wp2_with fail
  refine (Q2.out _ (HP.out.mono B.out)).mono ?_
  rintro e w13 ⟨⟨a8, c8, rfl, hr⟩, hb⟩
  have R8 := Lib.hid hr
  replace Kg := Lib.hid (Kg.out.below hb Kg.out.lt)
  replace Kk := Lib.hid (Kk.out.below hb Kk.out.lt)
  replace Kp := Lib.hid (Kp.out.below hb Kp.out.lt)
  replace Ks := Lib.hid (Ks.out.below hb Ks.out.lt)
  replace Kt := Lib.hid (Kt.out.below hb Kt.out.lt)
  replace Ku := Lib.hid (Ku.out.below hb Ku.out.lt)
  replace Kd := Lib.hid (Kd.out.below hb Kd.out.lt)
  replace Kl := Lib.hid (Kl.out.below hb Kl.out.lt)
  replace Kv := Lib.hid (Kv.out.below hb Kv.out.lt)
  replace R1 := Lib.hid (R1.out.mono hb)
  replace R2 := Lib.hid (R2.out.mono hb)
  replace R3 := Lib.hid (R3.out.mono hb)
  replace R4 := Lib.hid (R4.out.mono hb)
  replace R6 := Lib.hid (R6.out.mono hb)
  replace R7 := Lib.hid (R7.out.mono hb)
  replace B := Lib.hid (B.out.trans (hb.mono B.out.size))
  clear bgc0 bgc1 bgc2 bkc0 bkc1 bkc2 bkc3 bkc4 bpc0 bpc1 bsc0 bsc1 bsc2 btc0 btc1 btc2 buc0 buc1 buc2 bdc0 bdc1 bdc2 bvc0 bvc1 bvc2 bvc3
  clear hb hr
  obtain ⟨bgc0, bgc1, bgc2⟩ := three Kg.out
  obtain ⟨bkc0, bkc1, bkc2, bkc3, bkc4⟩ := five Kk.out
  obtain ⟨bpc0, bpc1⟩ := twob Kp.out
  obtain ⟨bsc0, bsc1, bsc2⟩ := three Ks.out
  obtain ⟨btc0, btc1, btc2⟩ := three Kt.out
  obtain ⟨buc0, buc1, buc2⟩ := three Ku.out
  obtain ⟨bdc0, bdc1, bdc2⟩ := three Kd.out
  obtain ⟨bvc0, bvc1, bvc2, bvc3⟩ := four Kv.out
  obtain ⟨gx, hgx⟩ : ∃ G, w13.heap.size = G := ⟨_, rfl⟩
  have Kx := Lib.hid (show Blk (w13.alloc (.cells #[.int .i64 la2, .int .i64 mo2, .slice a8 m2.length c8, .int .i64 e2] 47)) gx 47 #[.int .i64 la2, .int .i64 mo2, .slice a8 m2.length c8, .int .i64 e2] from Blk.new' w13 _ _ _ hgx rfl)
  have Ngx := Lib.hid (show G < gx from by rw [← hgx]; exact Kg.out.lt)
  replace Kg := Lib.hid (Kg.out.alloc (.cells #[.int .i64 la2, .int .i64 mo2, .slice a8 m2.length c8, .int .i64 e2] 47))
  have Nkx := Lib.hid (show G + 1 < gx from by rw [← hgx]; exact Kk.out.lt)
  replace Kk := Lib.hid (Kk.out.alloc (.cells #[.int .i64 la2, .int .i64 mo2, .slice a8 m2.length c8, .int .i64 e2] 47))
  have Npx := Lib.hid (show G + 1 + 1 < gx from by rw [← hgx]; exact Kp.out.lt)
  replace Kp := Lib.hid (Kp.out.alloc (.cells #[.int .i64 la2, .int .i64 mo2, .slice a8 m2.length c8, .int .i64 e2] 47))
  have Nsx := Lib.hid (show gs < gx from by rw [← hgx]; exact Ks.out.lt)
  replace Ks := Lib.hid (Ks.out.alloc (.cells #[.int .i64 la2, .int .i64 mo2, .slice a8 m2.length c8, .int .i64 e2] 47))
  have Ntx := Lib.hid (show gt < gx from by rw [← hgx]; exact Kt.out.lt)
  replace Kt := Lib.hid (Kt.out.alloc (.cells #[.int .i64 la2, .int .i64 mo2, .slice a8 m2.length c8, .int .i64 e2] 47))
  have Nux := Lib.hid (show gu < gx from by rw [← hgx]; exact Ku.out.lt)
  replace Ku := Lib.hid (Ku.out.alloc (.cells #[.int .i64 la2, .int .i64 mo2, .slice a8 m2.length c8, .int .i64 e2] 47))
  have Ndx := Lib.hid (show gd < gx from by rw [← hgx]; exact Kd.out.lt)
  replace Kd := Lib.hid (Kd.out.alloc (.cells #[.int .i64 la2, .int .i64 mo2, .slice a8 m2.length c8, .int .i64 e2] 47))
  have Nlx := Lib.hid (show (gd + 1) < gx from by rw [← hgx]; exact Kl.out.lt)
  replace Kl := Lib.hid (Kl.out.alloc (.cells #[.int .i64 la2, .int .i64 mo2, .slice a8 m2.length c8, .int .i64 e2] 47))
  have Nvx := Lib.hid (show gv < gx from by rw [← hgx]; exact Kv.out.lt)
  replace Kv := Lib.hid (Kv.out.alloc (.cells #[.int .i64 la2, .int .i64 mo2, .slice a8 m2.length c8, .int .i64 e2] 47))
  replace R1 := Lib.hid (R1.out.mono ((Below.refl _ w13).alloc (Nat.le_refl _) (.cells #[.int .i64 la2, .int .i64 mo2, .slice a8 m2.length c8, .int .i64 e2] 47)))
  replace R2 := Lib.hid (R2.out.mono ((Below.refl _ w13).alloc (Nat.le_refl _) (.cells #[.int .i64 la2, .int .i64 mo2, .slice a8 m2.length c8, .int .i64 e2] 47)))
  replace R3 := Lib.hid (R3.out.mono ((Below.refl _ w13).alloc (Nat.le_refl _) (.cells #[.int .i64 la2, .int .i64 mo2, .slice a8 m2.length c8, .int .i64 e2] 47)))
  replace R4 := Lib.hid (R4.out.mono ((Below.refl _ w13).alloc (Nat.le_refl _) (.cells #[.int .i64 la2, .int .i64 mo2, .slice a8 m2.length c8, .int .i64 e2] 47)))
  replace R6 := Lib.hid (R6.out.mono ((Below.refl _ w13).alloc (Nat.le_refl _) (.cells #[.int .i64 la2, .int .i64 mo2, .slice a8 m2.length c8, .int .i64 e2] 47)))
  replace R7 := Lib.hid (R7.out.mono ((Below.refl _ w13).alloc (Nat.le_refl _) (.cells #[.int .i64 la2, .int .i64 mo2, .slice a8 m2.length c8, .int .i64 e2] 47)))
  replace R8 := Lib.hid (R8.out.mono ((Below.refl _ w13).alloc (Nat.le_refl _) (.cells #[.int .i64 la2, .int .i64 mo2, .slice a8 m2.length c8, .int .i64 e2] 47)))
  have Lx := Lib.hid (show w.heap.size ≤ gx from by rw [← hgx]; exact B.out.size)
  replace B := Lib.hid (B.out.alloc B.out.size (.cells #[.int .i64 la2, .int .i64 mo2, .slice a8 m2.length c8, .int .i64 e2] 47))
  go_upto_region 11 with (fail)
  try rw [hgx]
  generalize hw : w13.alloc (.cells #[.int .i64 la2, .int .i64 mo2, .slice a8 m2.length c8, .int .i64 e2] 47) = w14 at Kg Kk Kp Ks Kt Ku Kd Kl Kv Kx R1 R2 R3 R4 R6 R7 R8 B ⊢
  clear bgc0 bgc1 bgc2 bkc0 bkc1 bkc2 bkc3 bkc4 bpc0 bpc1 bsc0 bsc1 bsc2 btc0 btc1 btc2 buc0 buc1 buc2 bdc0 bdc1 bdc2 bvc0 bvc1 bvc2 bvc3
  clear hw hgx
  obtain ⟨bgc0, bgc1, bgc2⟩ := three Kg.out
  obtain ⟨bkc0, bkc1, bkc2, bkc3, bkc4⟩ := five Kk.out
  obtain ⟨bpc0, bpc1⟩ := twob Kp.out
  obtain ⟨bsc0, bsc1, bsc2⟩ := three Ks.out
  obtain ⟨btc0, btc1, btc2⟩ := three Kt.out
  obtain ⟨buc0, buc1, buc2⟩ := three Ku.out
  obtain ⟨bdc0, bdc1, bdc2⟩ := three Kd.out
  obtain ⟨bvc0, bvc1, bvc2, bvc3⟩ := four Kv.out
  obtain ⟨bxc0, bxc1, bxc2, bxc3⟩ := four Kx.out
  go_wp2_with fail
  refine (Q3.out _ (HP.out.mono B.out)).mono ?_
  rintro e w15 ⟨⟨a9, c9, rfl, hr⟩, hb⟩
  have R9 := Lib.hid hr
  replace Kg := Lib.hid (Kg.out.below hb Kg.out.lt)
  replace Kk := Lib.hid (Kk.out.below hb Kk.out.lt)
  replace Kp := Lib.hid (Kp.out.below hb Kp.out.lt)
  replace Ks := Lib.hid (Ks.out.below hb Ks.out.lt)
  replace Kt := Lib.hid (Kt.out.below hb Kt.out.lt)
  replace Ku := Lib.hid (Ku.out.below hb Ku.out.lt)
  replace Kd := Lib.hid (Kd.out.below hb Kd.out.lt)
  replace Kl := Lib.hid (Kl.out.below hb Kl.out.lt)
  replace Kv := Lib.hid (Kv.out.below hb Kv.out.lt)
  replace Kx := Lib.hid (Kx.out.below hb Kx.out.lt)
  replace R1 := Lib.hid (R1.out.mono hb)
  replace R2 := Lib.hid (R2.out.mono hb)
  replace R3 := Lib.hid (R3.out.mono hb)
  replace R4 := Lib.hid (R4.out.mono hb)
  replace R6 := Lib.hid (R6.out.mono hb)
  replace R7 := Lib.hid (R7.out.mono hb)
  replace R8 := Lib.hid (R8.out.mono hb)
  replace B := Lib.hid (B.out.trans (hb.mono B.out.size))
  clear bgc0 bgc1 bgc2 bkc0 bkc1 bkc2 bkc3 bkc4 bpc0 bpc1 bsc0 bsc1 bsc2 btc0 btc1 btc2 buc0 buc1 buc2 bdc0 bdc1 bdc2 bvc0 bvc1 bvc2 bvc3 bxc0 bxc1 bxc2 bxc3
  clear hb hr
  obtain ⟨bgc0, bgc1, bgc2⟩ := three Kg.out
  obtain ⟨bkc0, bkc1, bkc2, bkc3, bkc4⟩ := five Kk.out
  obtain ⟨bpc0, bpc1⟩ := twob Kp.out
  obtain ⟨bsc0, bsc1, bsc2⟩ := three Ks.out
  obtain ⟨btc0, btc1, btc2⟩ := three Kt.out
  obtain ⟨buc0, buc1, buc2⟩ := three Ku.out
  obtain ⟨bdc0, bdc1, bdc2⟩ := three Kd.out
  obtain ⟨bvc0, bvc1, bvc2, bvc3⟩ := four Kv.out
  obtain ⟨bxc0, bxc1, bxc2, bxc3⟩ := four Kx.out
  obtain ⟨gy, hgy⟩ : ∃ G, w15.heap.size = G := ⟨_, rfl⟩
  have Ky := Lib.hid (show Blk (w15.alloc (.cells #[.int .i64 la3, .int .i64 mo3, .slice a9 m3.length c9, .int .i64 e3] 47)) gy 47 #[.int .i64 la3, .int .i64 mo3, .slice a9 m3.length c9, .int .i64 e3] from Blk.new' w15 _ _ _ hgy rfl)
  have Ngy := Lib.hid (show G < gy from by rw [← hgy]; exact Kg.out.lt)
  replace Kg := Lib.hid (Kg.out.alloc (.cells #[.int .i64 la3, .int .i64 mo3, .slice a9 m3.length c9, .int .i64 e3] 47))
  have Nky := Lib.hid (show G + 1 < gy from by rw [← hgy]; exact Kk.out.lt)
  replace Kk := Lib.hid (Kk.out.alloc (.cells #[.int .i64 la3, .int .i64 mo3, .slice a9 m3.length c9, .int .i64 e3] 47))
  have Npy := Lib.hid (show G + 1 + 1 < gy from by rw [← hgy]; exact Kp.out.lt)
  replace Kp := Lib.hid (Kp.out.alloc (.cells #[.int .i64 la3, .int .i64 mo3, .slice a9 m3.length c9, .int .i64 e3] 47))
  have Nsy := Lib.hid (show gs < gy from by rw [← hgy]; exact Ks.out.lt)
  replace Ks := Lib.hid (Ks.out.alloc (.cells #[.int .i64 la3, .int .i64 mo3, .slice a9 m3.length c9, .int .i64 e3] 47))
  have Nty := Lib.hid (show gt < gy from by rw [← hgy]; exact Kt.out.lt)
  replace Kt := Lib.hid (Kt.out.alloc (.cells #[.int .i64 la3, .int .i64 mo3, .slice a9 m3.length c9, .int .i64 e3] 47))
  have Nuy := Lib.hid (show gu < gy from by rw [← hgy]; exact Ku.out.lt)
  replace Ku := Lib.hid (Ku.out.alloc (.cells #[.int .i64 la3, .int .i64 mo3, .slice a9 m3.length c9, .int .i64 e3] 47))
  have Ndy := Lib.hid (show gd < gy from by rw [← hgy]; exact Kd.out.lt)
  replace Kd := Lib.hid (Kd.out.alloc (.cells #[.int .i64 la3, .int .i64 mo3, .slice a9 m3.length c9, .int .i64 e3] 47))
  have Nly := Lib.hid (show (gd + 1) < gy from by rw [← hgy]; exact Kl.out.lt)
  replace Kl := Lib.hid (Kl.out.alloc (.cells #[.int .i64 la3, .int .i64 mo3, .slice a9 m3.length c9, .int .i64 e3] 47))
  have Nvy := Lib.hid (show gv < gy from by rw [← hgy]; exact Kv.out.lt)
  replace Kv := Lib.hid (Kv.out.alloc (.cells #[.int .i64 la3, .int .i64 mo3, .slice a9 m3.length c9, .int .i64 e3] 47))
  have Nxy := Lib.hid (show gx < gy from by rw [← hgy]; exact Kx.out.lt)
  replace Kx := Lib.hid (Kx.out.alloc (.cells #[.int .i64 la3, .int .i64 mo3, .slice a9 m3.length c9, .int .i64 e3] 47))
  replace R1 := Lib.hid (R1.out.mono ((Below.refl _ w15).alloc (Nat.le_refl _) (.cells #[.int .i64 la3, .int .i64 mo3, .slice a9 m3.length c9, .int .i64 e3] 47)))
  replace R2 := Lib.hid (R2.out.mono ((Below.refl _ w15).alloc (Nat.le_refl _) (.cells #[.int .i64 la3, .int .i64 mo3, .slice a9 m3.length c9, .int .i64 e3] 47)))
  replace R3 := Lib.hid (R3.out.mono ((Below.refl _ w15).alloc (Nat.le_refl _) (.cells #[.int .i64 la3, .int .i64 mo3, .slice a9 m3.length c9, .int .i64 e3] 47)))
  replace R4 := Lib.hid (R4.out.mono ((Below.refl _ w15).alloc (Nat.le_refl _) (.cells #[.int .i64 la3, .int .i64 mo3, .slice a9 m3.length c9, .int .i64 e3] 47)))
  replace R6 := Lib.hid (R6.out.mono ((Below.refl _ w15).alloc (Nat.le_refl _) (.cells #[.int .i64 la3, .int .i64 mo3, .slice a9 m3.length c9, .int .i64 e3] 47)))
  replace R7 := Lib.hid (R7.out.mono ((Below.refl _ w15).alloc (Nat.le_refl _) (.cells #[.int .i64 la3, .int .i64 mo3, .slice a9 m3.length c9, .int .i64 e3] 47)))
  replace R8 := Lib.hid (R8.out.mono ((Below.refl _ w15).alloc (Nat.le_refl _) (.cells #[.int .i64 la3, .int .i64 mo3, .slice a9 m3.length c9, .int .i64 e3] 47)))
  replace R9 := Lib.hid (R9.out.mono ((Below.refl _ w15).alloc (Nat.le_refl _) (.cells #[.int .i64 la3, .int .i64 mo3, .slice a9 m3.length c9, .int .i64 e3] 47)))
  have Ly := Lib.hid (show w.heap.size ≤ gy from by rw [← hgy]; exact B.out.size)
  replace B := Lib.hid (B.out.alloc B.out.size (.cells #[.int .i64 la3, .int .i64 mo3, .slice a9 m3.length c9, .int .i64 e3] 47))
  go_upto_region 12 with (fail)
  try rw [hgy]
  generalize hw : w15.alloc (.cells #[.int .i64 la3, .int .i64 mo3, .slice a9 m3.length c9, .int .i64 e3] 47) = w16 at Kg Kk Kp Ks Kt Ku Kd Kl Kv Kx Ky R1 R2 R3 R4 R6 R7 R8 R9 B ⊢
  clear bgc0 bgc1 bgc2 bkc0 bkc1 bkc2 bkc3 bkc4 bpc0 bpc1 bsc0 bsc1 bsc2 btc0 btc1 btc2 buc0 buc1 buc2 bdc0 bdc1 bdc2 bvc0 bvc1 bvc2 bvc3 bxc0 bxc1 bxc2 bxc3
  clear hw hgy
  obtain ⟨bgc0, bgc1, bgc2⟩ := three Kg.out
  obtain ⟨bkc0, bkc1, bkc2, bkc3, bkc4⟩ := five Kk.out
  obtain ⟨bpc0, bpc1⟩ := twob Kp.out
  obtain ⟨bsc0, bsc1, bsc2⟩ := three Ks.out
  obtain ⟨btc0, btc1, btc2⟩ := three Kt.out
  obtain ⟨buc0, buc1, buc2⟩ := three Ku.out
  obtain ⟨bdc0, bdc1, bdc2⟩ := three Kd.out
  obtain ⟨bvc0, bvc1, bvc2, bvc3⟩ := four Kv.out
  obtain ⟨bxc0, bxc1, bxc2, bxc3⟩ := four Kx.out
  obtain ⟨byc0, byc1, byc2, byc3⟩ := four Ky.out
  go_wp2_with fail
  refine (Q4.out _ (HP.out.mono B.out) (HLK.out.mono B.out)).mono ?_
  rintro e w17 ⟨⟨a10, c10, C4, rfl, hbg, hcl, hr⟩, hb⟩
  have R10 := Lib.hid hr
  have BNz := Lib.hid hbg
  have CLz := Lib.hid hcl
  replace Kg := Lib.hid (Kg.out.below hb Kg.out.lt)
  replace Kk := Lib.hid (Kk.out.below hb Kk.out.lt)
  replace Kp := Lib.hid (Kp.out.below hb Kp.out.lt)
  replace Ks := Lib.hid (Ks.out.below hb Ks.out.lt)
  replace Kt := Lib.hid (Kt.out.below hb Kt.out.lt)
  replace Ku := Lib.hid (Ku.out.below hb Ku.out.lt)
  replace Kd := Lib.hid (Kd.out.below hb Kd.out.lt)
  replace Kl := Lib.hid (Kl.out.below hb Kl.out.lt)
  replace Kv := Lib.hid (Kv.out.below hb Kv.out.lt)
  replace Kx := Lib.hid (Kx.out.below hb Kx.out.lt)
  replace Ky := Lib.hid (Ky.out.below hb Ky.out.lt)
  replace R1 := Lib.hid (R1.out.mono hb)
  replace R2 := Lib.hid (R2.out.mono hb)
  replace R3 := Lib.hid (R3.out.mono hb)
  replace R4 := Lib.hid (R4.out.mono hb)
  replace R6 := Lib.hid (R6.out.mono hb)
  replace R7 := Lib.hid (R7.out.mono hb)
  replace R8 := Lib.hid (R8.out.mono hb)
  replace R9 := Lib.hid (R9.out.mono hb)
  replace B := Lib.hid (B.out.trans (hb.mono B.out.size))
  clear bgc0 bgc1 bgc2 bkc0 bkc1 bkc2 bkc3 bkc4 bpc0 bpc1 bsc0 bsc1 bsc2 btc0 btc1 btc2 buc0 buc1 buc2 bdc0 bdc1 bdc2 bvc0 bvc1 bvc2 bvc3 bxc0 bxc1 bxc2 bxc3 byc0 byc1 byc2 byc3
  clear hb hr hbg hcl
  obtain ⟨bgc0, bgc1, bgc2⟩ := three Kg.out
  obtain ⟨bkc0, bkc1, bkc2, bkc3, bkc4⟩ := five Kk.out
  obtain ⟨bpc0, bpc1⟩ := twob Kp.out
  obtain ⟨bsc0, bsc1, bsc2⟩ := three Ks.out
  obtain ⟨btc0, btc1, btc2⟩ := three Kt.out
  obtain ⟨buc0, buc1, buc2⟩ := three Ku.out
  obtain ⟨bdc0, bdc1, bdc2⟩ := three Kd.out
  obtain ⟨bvc0, bvc1, bvc2, bvc3⟩ := four Kv.out
  obtain ⟨bxc0, bxc1, bxc2, bxc3⟩ := four Kx.out
  obtain ⟨byc0, byc1, byc2, byc3⟩ := four Ky.out
  obtain ⟨gz, hg⟩ : ∃ G, w17.heap.size = G := ⟨_, rfl⟩
  have Zz := Lib.hid (show Blk (w17.alloc (.cells (grantedE 0) 52)) gz 52 (grantedE 0) from Blk.new' _ _ _ _ hg rfl)
  have Yz := Zz
  replace Zz := Lib.hid (show Blk ((w17.alloc (.cells (grantedE 0) 52)).setRow gz C4) gz 52 C4 from Zz.out.row_ _)
  have hb : Below w17.heap.size w17 ((w17.alloc (.cells (grantedE 0) 52)).setRow gz C4) := (below_setRow ((Below.refl _ w17).alloc (Nat.le_refl _) _) (show w17.heap.size ≤ gz by omega) _)
  have Lz := Lib.hid (show w.heap.size ≤ gz from by rw [← hg]; exact B.out.size)
  replace Kg := Lib.hid (Kg.out.below hb Kg.out.lt)
  replace Kk := Lib.hid (Kk.out.below hb Kk.out.lt)
  replace Kp := Lib.hid (Kp.out.below hb Kp.out.lt)
  replace Ks := Lib.hid (Ks.out.below hb Ks.out.lt)
  replace Kt := Lib.hid (Kt.out.below hb Kt.out.lt)
  replace Ku := Lib.hid (Ku.out.below hb Ku.out.lt)
  replace Kd := Lib.hid (Kd.out.below hb Kd.out.lt)
  replace Kl := Lib.hid (Kl.out.below hb Kl.out.lt)
  replace Kv := Lib.hid (Kv.out.below hb Kv.out.lt)
  replace Kx := Lib.hid (Kx.out.below hb Kx.out.lt)
  replace Ky := Lib.hid (Ky.out.below hb Ky.out.lt)
  replace R1 := Lib.hid (R1.out.mono hb)
  replace R2 := Lib.hid (R2.out.mono hb)
  replace R3 := Lib.hid (R3.out.mono hb)
  replace R4 := Lib.hid (R4.out.mono hb)
  replace R6 := Lib.hid (R6.out.mono hb)
  replace R7 := Lib.hid (R7.out.mono hb)
  replace R8 := Lib.hid (R8.out.mono hb)
  replace R9 := Lib.hid (R9.out.mono hb)
  replace R10 := Lib.hid (R10.out.mono hb)
  replace B := Lib.hid (B.out.trans (hb.mono B.out.size))
  go_upto_region 13 with (first | (with_reducible refine Hs.wpList_store_blk rfl 52 _ _ rfl gz 52 (grantedE 0) C4 rfl rfl (Blk.hs Yz.out) BNz.out.info ((big_grantedE 0).same BNz.out) BNz.out.one rfl ?_))
  try rw [hg]
  generalize hw : ((w17.alloc (.cells (grantedE 0) 52)).setRow gz C4) = w18 at Zz Kg Kk Kp Ks Kt Ku Kd Kl Kv Kx Ky R1 R2 R3 R4 R6 R7 R8 R9 R10 B ⊢
  clear bgc0 bgc1 bgc2 bkc0 bkc1 bkc2 bkc3 bkc4 bpc0 bpc1 bsc0 bsc1 bsc2 btc0 btc1 btc2 buc0 buc1 buc2 bdc0 bdc1 bdc2 bvc0 bvc1 bvc2 bvc3 bxc0 bxc1 bxc2 bxc3 byc0 byc1 byc2 byc3
  have Kz := Zz
  clear hb hw hg Zz Yz
  have BGz := BNz
  obtain ⟨bgc0, bgc1, bgc2⟩ := three Kg.out
  obtain ⟨bkc0, bkc1, bkc2, bkc3, bkc4⟩ := five Kk.out
  obtain ⟨bpc0, bpc1⟩ := twob Kp.out
  obtain ⟨bsc0, bsc1, bsc2⟩ := three Ks.out
  obtain ⟨btc0, btc1, btc2⟩ := three Kt.out
  obtain ⟨buc0, buc1, buc2⟩ := three Ku.out
  obtain ⟨bdc0, bdc1, bdc2⟩ := three Kd.out
  obtain ⟨bvc0, bvc1, bvc2, bvc3⟩ := four Kv.out
  obtain ⟨bxc0, bxc1, bxc2, bxc3⟩ := four Kx.out
  obtain ⟨byc0, byc1, byc2, byc3⟩ := four Ky.out
  obtain ⟨bzc0, bzc1, bzc2, bzc3⟩ := granted_cells CLz.out SZ.out Kz.out
  go_wp2_with (fail)
  refine (Q5.out _ (HP.out.mono B.out)).mono ?_
  rintro e w19 ⟨rfl, hb⟩
  replace Kg := Lib.hid (Kg.out.below hb Kg.out.lt)
  replace Kk := Lib.hid (Kk.out.below hb Kk.out.lt)
  replace Kp := Lib.hid (Kp.out.below hb Kp.out.lt)
  replace Ks := Lib.hid (Ks.out.below hb Ks.out.lt)
  replace Kt := Lib.hid (Kt.out.below hb Kt.out.lt)
  replace Ku := Lib.hid (Ku.out.below hb Ku.out.lt)
  replace Kd := Lib.hid (Kd.out.below hb Kd.out.lt)
  replace Kl := Lib.hid (Kl.out.below hb Kl.out.lt)
  replace Kv := Lib.hid (Kv.out.below hb Kv.out.lt)
  replace Kx := Lib.hid (Kx.out.below hb Kx.out.lt)
  replace Ky := Lib.hid (Ky.out.below hb Ky.out.lt)
  replace Kz := Lib.hid (Kz.out.below hb Kz.out.lt)
  replace R1 := Lib.hid (R1.out.mono hb)
  replace R2 := Lib.hid (R2.out.mono hb)
  replace R3 := Lib.hid (R3.out.mono hb)
  replace R4 := Lib.hid (R4.out.mono hb)
  replace R6 := Lib.hid (R6.out.mono hb)
  replace R7 := Lib.hid (R7.out.mono hb)
  replace R8 := Lib.hid (R8.out.mono hb)
  replace R9 := Lib.hid (R9.out.mono hb)
  replace R10 := Lib.hid (R10.out.mono hb)
  replace B := Lib.hid (B.out.trans (hb.mono B.out.size))
  clear bgc0 bgc1 bgc2 bkc0 bkc1 bkc2 bkc3 bkc4 bpc0 bpc1 bsc0 bsc1 bsc2 btc0 btc1 btc2 buc0 buc1 buc2 bdc0 bdc1 bdc2 bvc0 bvc1 bvc2 bvc3 bxc0 bxc1 bxc2 bxc3 byc0 byc1 byc2 byc3 bzc0 bzc1 bzc2 bzc3
  clear hb
  obtain ⟨bgc0, bgc1, bgc2⟩ := three Kg.out
  obtain ⟨bkc0, bkc1, bkc2, bkc3, bkc4⟩ := five Kk.out
  obtain ⟨bpc0, bpc1⟩ := twob Kp.out
  obtain ⟨bsc0, bsc1, bsc2⟩ := three Ks.out
  obtain ⟨btc0, btc1, btc2⟩ := three Kt.out
  obtain ⟨buc0, buc1, buc2⟩ := three Ku.out
  obtain ⟨bdc0, bdc1, bdc2⟩ := three Kd.out
  obtain ⟨bvc0, bvc1, bvc2, bvc3⟩ := four Kv.out
  obtain ⟨bxc0, bxc1, bxc2, bxc3⟩ := four Kx.out
  obtain ⟨byc0, byc1, byc2, byc3⟩ := four Ky.out
  obtain ⟨bzc0, bzc1, bzc2, bzc3⟩ := granted_cells CLz.out SZ.out Kz.out
  clear bgc0 bgc1 bgc2 bkc0 bkc1 bkc2 bkc3 bkc4 bpc0 bpc1 bsc0 bsc1 bsc2 btc0 btc1 btc2 buc0 buc1 buc2 bdc0 bdc1 bdc2 bvc0 bvc1 bvc2 bvc3 bxc0 bxc1 bxc2 bxc3 byc0 byc1 byc2 byc3 bzc0 bzc1 bzc2 bzc3
  obtain ⟨bgc0, bgc1, bgc2⟩ := three Kg.out
  obtain ⟨bkc0, bkc1, bkc2, bkc3, bkc4⟩ := five Kk.out
  obtain ⟨bpc0, bpc1⟩ := twob Kp.out
  obtain ⟨bsc0, bsc1, bsc2⟩ := three Ks.out
  obtain ⟨btc0, btc1, btc2⟩ := three Kt.out
  obtain ⟨buc0, buc1, buc2⟩ := three Ku.out
  obtain ⟨bdc0, bdc1, bdc2⟩ := three Kd.out
  obtain ⟨bvc0, bvc1, bvc2, bvc3⟩ := four Kv.out
  obtain ⟨bxc0, bxc1, bxc2, bxc3⟩ := four Kx.out
  obtain ⟨byc0, byc1, byc2, byc3⟩ := four Ky.out
  obtain ⟨bzc0, bzc1, bzc2, bzc3⟩ := granted_cells CLz.out SZ.out Kz.out
  obtain ⟨gq, hgq⟩ : ∃ G, w19.heap.size = G := ⟨_, rfl⟩
  have Kq := Lib.hid (show Blk (w19.alloc (.cells #[.int .i64 n5, .int .i64 e5] 55)) gq 55 #[.int .i64 n5, .int .i64 e5] from Blk.new' w19 _ _ _ hgq rfl)
  have Ngq := Lib.hid (show G < gq from by rw [← hgq]; exact Kg.out.lt)
  replace Kg := Lib.hid (Kg.out.alloc (.cells #[.int .i64 n5, .int .i64 e5] 55))
  have Nkq := Lib.hid (show G + 1 < gq from by rw [← hgq]; exact Kk.out.lt)
  replace Kk := Lib.hid (Kk.out.alloc (.cells #[.int .i64 n5, .int .i64 e5] 55))
  have Npq := Lib.hid (show G + 1 + 1 < gq from by rw [← hgq]; exact Kp.out.lt)
  replace Kp := Lib.hid (Kp.out.alloc (.cells #[.int .i64 n5, .int .i64 e5] 55))
  have Nsq := Lib.hid (show gs < gq from by rw [← hgq]; exact Ks.out.lt)
  replace Ks := Lib.hid (Ks.out.alloc (.cells #[.int .i64 n5, .int .i64 e5] 55))
  have Ntq := Lib.hid (show gt < gq from by rw [← hgq]; exact Kt.out.lt)
  replace Kt := Lib.hid (Kt.out.alloc (.cells #[.int .i64 n5, .int .i64 e5] 55))
  have Nuq := Lib.hid (show gu < gq from by rw [← hgq]; exact Ku.out.lt)
  replace Ku := Lib.hid (Ku.out.alloc (.cells #[.int .i64 n5, .int .i64 e5] 55))
  have Ndq := Lib.hid (show gd < gq from by rw [← hgq]; exact Kd.out.lt)
  replace Kd := Lib.hid (Kd.out.alloc (.cells #[.int .i64 n5, .int .i64 e5] 55))
  have Nlq := Lib.hid (show (gd + 1) < gq from by rw [← hgq]; exact Kl.out.lt)
  replace Kl := Lib.hid (Kl.out.alloc (.cells #[.int .i64 n5, .int .i64 e5] 55))
  have Nvq := Lib.hid (show gv < gq from by rw [← hgq]; exact Kv.out.lt)
  replace Kv := Lib.hid (Kv.out.alloc (.cells #[.int .i64 n5, .int .i64 e5] 55))
  have Nxq := Lib.hid (show gx < gq from by rw [← hgq]; exact Kx.out.lt)
  replace Kx := Lib.hid (Kx.out.alloc (.cells #[.int .i64 n5, .int .i64 e5] 55))
  have Nyq := Lib.hid (show gy < gq from by rw [← hgq]; exact Ky.out.lt)
  replace Ky := Lib.hid (Ky.out.alloc (.cells #[.int .i64 n5, .int .i64 e5] 55))
  have Nzq := Lib.hid (show gz < gq from by rw [← hgq]; exact Kz.out.lt)
  replace Kz := Lib.hid (Kz.out.alloc (.cells #[.int .i64 n5, .int .i64 e5] 55))
  replace R1 := Lib.hid (R1.out.mono ((Below.refl _ w19).alloc (Nat.le_refl _) (.cells #[.int .i64 n5, .int .i64 e5] 55)))
  replace R2 := Lib.hid (R2.out.mono ((Below.refl _ w19).alloc (Nat.le_refl _) (.cells #[.int .i64 n5, .int .i64 e5] 55)))
  replace R3 := Lib.hid (R3.out.mono ((Below.refl _ w19).alloc (Nat.le_refl _) (.cells #[.int .i64 n5, .int .i64 e5] 55)))
  replace R4 := Lib.hid (R4.out.mono ((Below.refl _ w19).alloc (Nat.le_refl _) (.cells #[.int .i64 n5, .int .i64 e5] 55)))
  replace R6 := Lib.hid (R6.out.mono ((Below.refl _ w19).alloc (Nat.le_refl _) (.cells #[.int .i64 n5, .int .i64 e5] 55)))
  replace R7 := Lib.hid (R7.out.mono ((Below.refl _ w19).alloc (Nat.le_refl _) (.cells #[.int .i64 n5, .int .i64 e5] 55)))
  replace R8 := Lib.hid (R8.out.mono ((Below.refl _ w19).alloc (Nat.le_refl _) (.cells #[.int .i64 n5, .int .i64 e5] 55)))
  replace R9 := Lib.hid (R9.out.mono ((Below.refl _ w19).alloc (Nat.le_refl _) (.cells #[.int .i64 n5, .int .i64 e5] 55)))
  replace R10 := Lib.hid (R10.out.mono ((Below.refl _ w19).alloc (Nat.le_refl _) (.cells #[.int .i64 n5, .int .i64 e5] 55)))
  have Lq := Lib.hid (show w.heap.size ≤ gq from by rw [← hgq]; exact B.out.size)
  replace B := Lib.hid (B.out.alloc B.out.size (.cells #[.int .i64 n5, .int .i64 e5] 55))
  go_upto_region 14 with (fail)
  try rw [hgq]
  generalize hw : w19.alloc (.cells #[.int .i64 n5, .int .i64 e5] 55) = w20 at Kg Kk Kp Ks Kt Ku Kd Kl Kv Kx Ky Kz Kq R1 R2 R3 R4 R6 R7 R8 R9 R10 B ⊢
  clear bgc0 bgc1 bgc2 bkc0 bkc1 bkc2 bkc3 bkc4 bpc0 bpc1 bsc0 bsc1 bsc2 btc0 btc1 btc2 buc0 buc1 buc2 bdc0 bdc1 bdc2 bvc0 bvc1 bvc2 bvc3 bxc0 bxc1 bxc2 bxc3 byc0 byc1 byc2 byc3 bzc0 bzc1 bzc2 bzc3
  clear hw hgq
  obtain ⟨bgc0, bgc1, bgc2⟩ := three Kg.out
  obtain ⟨bkc0, bkc1, bkc2, bkc3, bkc4⟩ := five Kk.out
  obtain ⟨bpc0, bpc1⟩ := twob Kp.out
  obtain ⟨bsc0, bsc1, bsc2⟩ := three Ks.out
  obtain ⟨btc0, btc1, btc2⟩ := three Kt.out
  obtain ⟨buc0, buc1, buc2⟩ := three Ku.out
  obtain ⟨bdc0, bdc1, bdc2⟩ := three Kd.out
  obtain ⟨bvc0, bvc1, bvc2, bvc3⟩ := four Kv.out
  obtain ⟨bxc0, bxc1, bxc2, bxc3⟩ := four Kx.out
  obtain ⟨byc0, byc1, byc2, byc3⟩ := four Ky.out
  obtain ⟨bzc0, bzc1, bzc2, bzc3⟩ := granted_cells CLz.out SZ.out Kz.out
  obtain ⟨bqc0, bqc1⟩ := twob Kq.out
  go_wp2_with fail
  refine (Q6.out _ (HP.out.mono B.out)).mono ?_
  rintro e w21 ⟨⟨a11, c11, rfl, hr⟩, hb⟩
  have R11 := Lib.hid hr
  replace Kg := Lib.hid (Kg.out.below hb Kg.out.lt)
  replace Kk := Lib.hid (Kk.out.below hb Kk.out.lt)
  replace Kp := Lib.hid (Kp.out.below hb Kp.out.lt)
  replace Ks := Lib.hid (Ks.out.below hb Ks.out.lt)
  replace Kt := Lib.hid (Kt.out.below hb Kt.out.lt)
  replace Ku := Lib.hid (Ku.out.below hb Ku.out.lt)
  replace Kd := Lib.hid (Kd.out.below hb Kd.out.lt)
  replace Kl := Lib.hid (Kl.out.below hb Kl.out.lt)
  replace Kv := Lib.hid (Kv.out.below hb Kv.out.lt)
  replace Kx := Lib.hid (Kx.out.below hb Kx.out.lt)
  replace Ky := Lib.hid (Ky.out.below hb Ky.out.lt)
  replace Kz := Lib.hid (Kz.out.below hb Kz.out.lt)
  replace Kq := Lib.hid (Kq.out.below hb Kq.out.lt)
  replace R1 := Lib.hid (R1.out.mono hb)
  replace R2 := Lib.hid (R2.out.mono hb)
  replace R3 := Lib.hid (R3.out.mono hb)
  replace R4 := Lib.hid (R4.out.mono hb)
  replace R6 := Lib.hid (R6.out.mono hb)
  replace R7 := Lib.hid (R7.out.mono hb)
  replace R8 := Lib.hid (R8.out.mono hb)
  replace R9 := Lib.hid (R9.out.mono hb)
  replace R10 := Lib.hid (R10.out.mono hb)
  replace B := Lib.hid (B.out.trans (hb.mono B.out.size))
  clear bgc0 bgc1 bgc2 bkc0 bkc1 bkc2 bkc3 bkc4 bpc0 bpc1 bsc0 bsc1 bsc2 btc0 btc1 btc2 buc0 buc1 buc2 bdc0 bdc1 bdc2 bvc0 bvc1 bvc2 bvc3 bxc0 bxc1 bxc2 bxc3 byc0 byc1 byc2 byc3 bzc0 bzc1 bzc2 bzc3 bqc0 bqc1
  clear hb hr
  obtain ⟨bgc0, bgc1, bgc2⟩ := three Kg.out
  obtain ⟨bkc0, bkc1, bkc2, bkc3, bkc4⟩ := five Kk.out
  obtain ⟨bpc0, bpc1⟩ := twob Kp.out
  obtain ⟨bsc0, bsc1, bsc2⟩ := three Ks.out
  obtain ⟨btc0, btc1, btc2⟩ := three Kt.out
  obtain ⟨buc0, buc1, buc2⟩ := three Ku.out
  obtain ⟨bdc0, bdc1, bdc2⟩ := three Kd.out
  obtain ⟨bvc0, bvc1, bvc2, bvc3⟩ := four Kv.out
  obtain ⟨bxc0, bxc1, bxc2, bxc3⟩ := four Kx.out
  obtain ⟨byc0, byc1, byc2, byc3⟩ := four Ky.out
  obtain ⟨bzc0, bzc1, bzc2, bzc3⟩ := granted_cells CLz.out SZ.out Kz.out
  obtain ⟨bqc0, bqc1⟩ := twob Kq.out
  clear bgc0 bgc1 bgc2 bkc0 bkc1 bkc2 bkc3 bkc4 bpc0 bpc1 bsc0 bsc1 bsc2 btc0 btc1 btc2 buc0 buc1 buc2 bdc0 bdc1 bdc2 bvc0 bvc1 bvc2 bvc3 bxc0 bxc1 bxc2 bxc3 byc0 byc1 byc2 byc3 bzc0 bzc1 bzc2 bzc3 bqc0 bqc1
  obtain ⟨bgc0, bgc1, bgc2⟩ := three Kg.out
  obtain ⟨bkc0, bkc1, bkc2, bkc3, bkc4⟩ := five Kk.out
  obtain ⟨bpc0, bpc1⟩ := twob Kp.out
  obtain ⟨bsc0, bsc1, bsc2⟩ := three Ks.out
  obtain ⟨btc0, btc1, btc2⟩ := three Kt.out
  obtain ⟨buc0, buc1, buc2⟩ := three Ku.out
  obtain ⟨bdc0, bdc1, bdc2⟩ := three Kd.out
  obtain ⟨bvc0, bvc1, bvc2, bvc3⟩ := four Kv.out
  obtain ⟨bxc0, bxc1, bxc2, bxc3⟩ := four Kx.out
  obtain ⟨byc0, byc1, byc2, byc3⟩ := four Ky.out
  obtain ⟨bzc0, bzc1, bzc2, bzc3⟩ := granted_cells CLz.out SZ.out Kz.out
  obtain ⟨bqc0, bqc1⟩ := twob Kq.out
  obtain ⟨gr, hgr⟩ : ∃ G, w21.heap.size = G := ⟨_, rfl⟩
  have Kr := Lib.hid (show Blk (w21.alloc (.cells #[.slice a11 m6.length c11, .int .i64 e6] 58)) gr 58 #[.slice a11 m6.length c11, .int .i64 e6] from Blk.new' w21 _ _ _ hgr rfl)
  have Ngr := Lib.hid (show G < gr from by rw [← hgr]; exact Kg.out.lt)
  replace Kg := Lib.hid (Kg.out.alloc (.cells #[.slice a11 m6.length c11, .int .i64 e6] 58))
  have Nkr := Lib.hid (show G + 1 < gr from by rw [← hgr]; exact Kk.out.lt)
  replace Kk := Lib.hid (Kk.out.alloc (.cells #[.slice a11 m6.length c11, .int .i64 e6] 58))
  have Npr := Lib.hid (show G + 1 + 1 < gr from by rw [← hgr]; exact Kp.out.lt)
  replace Kp := Lib.hid (Kp.out.alloc (.cells #[.slice a11 m6.length c11, .int .i64 e6] 58))
  have Nsr := Lib.hid (show gs < gr from by rw [← hgr]; exact Ks.out.lt)
  replace Ks := Lib.hid (Ks.out.alloc (.cells #[.slice a11 m6.length c11, .int .i64 e6] 58))
  have Ntr := Lib.hid (show gt < gr from by rw [← hgr]; exact Kt.out.lt)
  replace Kt := Lib.hid (Kt.out.alloc (.cells #[.slice a11 m6.length c11, .int .i64 e6] 58))
  have Nur := Lib.hid (show gu < gr from by rw [← hgr]; exact Ku.out.lt)
  replace Ku := Lib.hid (Ku.out.alloc (.cells #[.slice a11 m6.length c11, .int .i64 e6] 58))
  have Ndr := Lib.hid (show gd < gr from by rw [← hgr]; exact Kd.out.lt)
  replace Kd := Lib.hid (Kd.out.alloc (.cells #[.slice a11 m6.length c11, .int .i64 e6] 58))
  have Nlr := Lib.hid (show (gd + 1) < gr from by rw [← hgr]; exact Kl.out.lt)
  replace Kl := Lib.hid (Kl.out.alloc (.cells #[.slice a11 m6.length c11, .int .i64 e6] 58))
  have Nvr := Lib.hid (show gv < gr from by rw [← hgr]; exact Kv.out.lt)
  replace Kv := Lib.hid (Kv.out.alloc (.cells #[.slice a11 m6.length c11, .int .i64 e6] 58))
  have Nxr := Lib.hid (show gx < gr from by rw [← hgr]; exact Kx.out.lt)
  replace Kx := Lib.hid (Kx.out.alloc (.cells #[.slice a11 m6.length c11, .int .i64 e6] 58))
  have Nyr := Lib.hid (show gy < gr from by rw [← hgr]; exact Ky.out.lt)
  replace Ky := Lib.hid (Ky.out.alloc (.cells #[.slice a11 m6.length c11, .int .i64 e6] 58))
  have Nzr := Lib.hid (show gz < gr from by rw [← hgr]; exact Kz.out.lt)
  replace Kz := Lib.hid (Kz.out.alloc (.cells #[.slice a11 m6.length c11, .int .i64 e6] 58))
  have Nqr := Lib.hid (show gq < gr from by rw [← hgr]; exact Kq.out.lt)
  replace Kq := Lib.hid (Kq.out.alloc (.cells #[.slice a11 m6.length c11, .int .i64 e6] 58))
  replace R1 := Lib.hid (R1.out.mono ((Below.refl _ w21).alloc (Nat.le_refl _) (.cells #[.slice a11 m6.length c11, .int .i64 e6] 58)))
  replace R2 := Lib.hid (R2.out.mono ((Below.refl _ w21).alloc (Nat.le_refl _) (.cells #[.slice a11 m6.length c11, .int .i64 e6] 58)))
  replace R3 := Lib.hid (R3.out.mono ((Below.refl _ w21).alloc (Nat.le_refl _) (.cells #[.slice a11 m6.length c11, .int .i64 e6] 58)))
  replace R4 := Lib.hid (R4.out.mono ((Below.refl _ w21).alloc (Nat.le_refl _) (.cells #[.slice a11 m6.length c11, .int .i64 e6] 58)))
  replace R6 := Lib.hid (R6.out.mono ((Below.refl _ w21).alloc (Nat.le_refl _) (.cells #[.slice a11 m6.length c11, .int .i64 e6] 58)))
  replace R7 := Lib.hid (R7.out.mono ((Below.refl _ w21).alloc (Nat.le_refl _) (.cells #[.slice a11 m6.length c11, .int .i64 e6] 58)))
  replace R8 := Lib.hid (R8.out.mono ((Below.refl _ w21).alloc (Nat.le_refl _) (.cells #[.slice a11 m6.length c11, .int .i64 e6] 58)))
  replace R9 := Lib.hid (R9.out.mono ((Below.refl _ w21).alloc (Nat.le_refl _) (.cells #[.slice a11 m6.length c11, .int .i64 e6] 58)))
  replace R10 := Lib.hid (R10.out.mono ((Below.refl _ w21).alloc (Nat.le_refl _) (.cells #[.slice a11 m6.length c11, .int .i64 e6] 58)))
  replace R11 := Lib.hid (R11.out.mono ((Below.refl _ w21).alloc (Nat.le_refl _) (.cells #[.slice a11 m6.length c11, .int .i64 e6] 58)))
  have Lr := Lib.hid (show w.heap.size ≤ gr from by rw [← hgr]; exact B.out.size)
  replace B := Lib.hid (B.out.alloc B.out.size (.cells #[.slice a11 m6.length c11, .int .i64 e6] 58))
  go_upto_region 15 with (fail)
  try rw [hgr]
  generalize hw : w21.alloc (.cells #[.slice a11 m6.length c11, .int .i64 e6] 58) = w22 at Kg Kk Kp Ks Kt Ku Kd Kl Kv Kx Ky Kz Kq Kr R1 R2 R3 R4 R6 R7 R8 R9 R10 R11 B ⊢
  clear bgc0 bgc1 bgc2 bkc0 bkc1 bkc2 bkc3 bkc4 bpc0 bpc1 bsc0 bsc1 bsc2 btc0 btc1 btc2 buc0 buc1 buc2 bdc0 bdc1 bdc2 bvc0 bvc1 bvc2 bvc3 bxc0 bxc1 bxc2 bxc3 byc0 byc1 byc2 byc3 bzc0 bzc1 bzc2 bzc3 bqc0 bqc1
  clear hw hgr
  have x1 : (e1 == e1) = true := by simp
  have x2 : (e2 == e2) = true := by simp
  have x3 : (e3 == e3) = true := by simp
  have x4 : (e4 == e4) = true := by simp
  have x5 : (e5 == e5) = true := by simp
  have x6 : (e6 == e6) = true := by simp
  have x7 : (n5 == n5) = true := by simp
  have V1 := Lib.hid (fun (d : Nat) (os : Array Obj) => VA.out (grow (redrawn w22 d) os) (HP.out.mono (bt B.out (below_regrown w22 d os))))
  have V2 := Lib.hid (fun (d : Nat) (os : Array Obj) => VR.out (grow (redrawn w22 d) os) (HP.out.mono (bt B.out (below_regrown w22 d os))))
  have S1 := Lib.hid (fun (d : Nat) (os : Array Obj) => same_any la1 mo1 a1 a7 c1 c7 m1 (grow (redrawn w22 d) os) (R1.out.mono (below_regrown w22 d os)) (R7.out.mono (below_regrown w22 d os)) hm1.out)
  have S2 := Lib.hid (fun (d : Nat) (os : Array Obj) => same_any la2 mo2 a2 a8 c2 c8 m2 (grow (redrawn w22 d) os) (R2.out.mono (below_regrown w22 d os)) (R8.out.mono (below_regrown w22 d os)) hm2.out)
  have S3 := Lib.hid (fun (d : Nat) (os : Array Obj) => same_any la3 mo3 a3 a9 c3 c9 m3 (grow (redrawn w22 d) os) (R3.out.mono (below_regrown w22 d os)) (R9.out.mono (below_regrown w22 d os)) hm3.out)
  obtain ⟨bgc0, bgc1, bgc2⟩ := three Kg.out
  obtain ⟨bkc0, bkc1, bkc2, bkc3, bkc4⟩ := five Kk.out
  obtain ⟨bpc0, bpc1⟩ := twob Kp.out
  obtain ⟨bsc0, bsc1, bsc2⟩ := three Ks.out
  obtain ⟨btc0, btc1, btc2⟩ := three Kt.out
  obtain ⟨buc0, buc1, buc2⟩ := three Ku.out
  obtain ⟨bdc0, bdc1, bdc2⟩ := three Kd.out
  obtain ⟨bvc0, bvc1, bvc2, bvc3⟩ := four Kv.out
  obtain ⟨bxc0, bxc1, bxc2, bxc3⟩ := four Kx.out
  obtain ⟨byc0, byc1, byc2, byc3⟩ := four Ky.out
  obtain ⟨bzc0, bzc1, bzc2, bzc3⟩ := granted_cells CLz.out SZ.out Kz.out
  obtain ⟨bqc0, bqc1⟩ := twob Kq.out
  obtain ⟨brc0, brc1⟩ := twob Kr.out
  have gc := grow_cell3
  have zzg := Kg.out.lt
  have zzk := Kk.out.lt
  have zzp := Kp.out.lt
  have zzs := Ks.out.lt
  have zzt := Kt.out.lt
  have zzu := Ku.out.lt
  have zzd := Kd.out.lt
  have zzl := Kl.out.lt
  have zzv := Kv.out.lt
  have zzx := Kx.out.lt
  have zzy := Ky.out.lt
  have zzz := Kz.out.lt
  have zzq := Kq.out.lt
  have zzr := Kr.out.lt
  go_wp2_with fail
  refine wp_region_quiet_below (by kernel_rfl) (by kernel_rfl) ?_
  repeat (go_big_quiet_step (first | (with_reducible exact Calls.regrown_of (V1.out _ _)) | (with_reducible exact Calls.regrown_of (V2.out _ _)) | (with_reducible exact Calls.regrown_of (S1.out _ _)) | (with_reducible exact Calls.regrown_of (S2.out _ _)) | (with_reducible exact Calls.regrown_of (S3.out _ _))))
  refine wpQuiet_nil ?_
  intro w23 hw'
  obtain ⟨⟨dq, osq⟩, hw''⟩ := hw'
  have hb := below_of_grow3 hw''
  clear hw'' gc zzg zzk zzp zzs zzt zzu zzd zzl zzv zzx zzy zzz zzq zzr
  replace Kg := Lib.hid (Kg.out.below hb Kg.out.lt)
  replace Kk := Lib.hid (Kk.out.below hb Kk.out.lt)
  replace Kp := Lib.hid (Kp.out.below hb Kp.out.lt)
  replace Ks := Lib.hid (Ks.out.below hb Ks.out.lt)
  replace Kt := Lib.hid (Kt.out.below hb Kt.out.lt)
  replace Ku := Lib.hid (Ku.out.below hb Ku.out.lt)
  replace Kd := Lib.hid (Kd.out.below hb Kd.out.lt)
  replace Kl := Lib.hid (Kl.out.below hb Kl.out.lt)
  replace Kv := Lib.hid (Kv.out.below hb Kv.out.lt)
  replace Kx := Lib.hid (Kx.out.below hb Kx.out.lt)
  replace Ky := Lib.hid (Ky.out.below hb Ky.out.lt)
  replace Kz := Lib.hid (Kz.out.below hb Kz.out.lt)
  replace Kq := Lib.hid (Kq.out.below hb Kq.out.lt)
  replace Kr := Lib.hid (Kr.out.below hb Kr.out.lt)
  replace R1 := Lib.hid (R1.out.mono hb)
  replace R2 := Lib.hid (R2.out.mono hb)
  replace R3 := Lib.hid (R3.out.mono hb)
  replace R4 := Lib.hid (R4.out.mono hb)
  replace R6 := Lib.hid (R6.out.mono hb)
  replace R7 := Lib.hid (R7.out.mono hb)
  replace R8 := Lib.hid (R8.out.mono hb)
  replace R9 := Lib.hid (R9.out.mono hb)
  replace R10 := Lib.hid (R10.out.mono hb)
  replace R11 := Lib.hid (R11.out.mono hb)
  replace B := Lib.hid (B.out.trans (hb.mono B.out.size))
  clear hb
  clear bgc0 bgc1 bgc2 bkc0 bkc1 bkc2 bkc3 bkc4 bpc0 bpc1 bsc0 bsc1 bsc2 btc0 btc1 btc2 buc0 buc1 buc2 bdc0 bdc1 bdc2 bvc0 bvc1 bvc2 bvc3 bxc0 bxc1 bxc2 bxc3 byc0 byc1 byc2 byc3 bzc0 bzc1 bzc2 bzc3 bqc0 bqc1 brc0 brc1
  clear V1 V2 S1 S2 S3
  obtain ⟨bgc0, bgc1, bgc2⟩ := three Kg.out
  obtain ⟨bkc0, bkc1, bkc2, bkc3, bkc4⟩ := five Kk.out
  obtain ⟨bpc0, bpc1⟩ := twob Kp.out
  obtain ⟨bsc0, bsc1, bsc2⟩ := three Ks.out
  obtain ⟨btc0, btc1, btc2⟩ := three Kt.out
  obtain ⟨buc0, buc1, buc2⟩ := three Ku.out
  obtain ⟨bdc0, bdc1, bdc2⟩ := three Kd.out
  obtain ⟨bvc0, bvc1, bvc2, bvc3⟩ := four Kv.out
  obtain ⟨bxc0, bxc1, bxc2, bxc3⟩ := four Kx.out
  obtain ⟨byc0, byc1, byc2, byc3⟩ := four Ky.out
  obtain ⟨bzc0, bzc1, bzc2, bzc3⟩ := granted_cells CLz.out SZ.out Kz.out
  obtain ⟨bqc0, bqc1⟩ := twob Kq.out
  obtain ⟨brc0, brc1⟩ := twob Kr.out
  go_wp2_with (fail)
  refine (SNT.out _ (HLA.out.below B.out)).mono ?_
  rintro e w24 ⟨rfl, hb⟩
  replace Kg := Lib.hid (Kg.out.below hb Kg.out.lt)
  replace Kk := Lib.hid (Kk.out.below hb Kk.out.lt)
  replace Kp := Lib.hid (Kp.out.below hb Kp.out.lt)
  replace Ks := Lib.hid (Ks.out.below hb Ks.out.lt)
  replace Kt := Lib.hid (Kt.out.below hb Kt.out.lt)
  replace Ku := Lib.hid (Ku.out.below hb Ku.out.lt)
  replace Kd := Lib.hid (Kd.out.below hb Kd.out.lt)
  replace Kl := Lib.hid (Kl.out.below hb Kl.out.lt)
  replace Kv := Lib.hid (Kv.out.below hb Kv.out.lt)
  replace Kx := Lib.hid (Kx.out.below hb Kx.out.lt)
  replace Ky := Lib.hid (Ky.out.below hb Ky.out.lt)
  replace Kz := Lib.hid (Kz.out.below hb Kz.out.lt)
  replace Kq := Lib.hid (Kq.out.below hb Kq.out.lt)
  replace Kr := Lib.hid (Kr.out.below hb Kr.out.lt)
  replace R1 := Lib.hid (R1.out.mono hb)
  replace R2 := Lib.hid (R2.out.mono hb)
  replace R3 := Lib.hid (R3.out.mono hb)
  replace R4 := Lib.hid (R4.out.mono hb)
  replace R6 := Lib.hid (R6.out.mono hb)
  replace R7 := Lib.hid (R7.out.mono hb)
  replace R8 := Lib.hid (R8.out.mono hb)
  replace R9 := Lib.hid (R9.out.mono hb)
  replace R10 := Lib.hid (R10.out.mono hb)
  replace R11 := Lib.hid (R11.out.mono hb)
  replace B := Lib.hid (B.out.trans (hb.mono B.out.size))
  clear bgc0 bgc1 bgc2 bkc0 bkc1 bkc2 bkc3 bkc4 bpc0 bpc1 bsc0 bsc1 bsc2 btc0 btc1 btc2 buc0 buc1 buc2 bdc0 bdc1 bdc2 bvc0 bvc1 bvc2 bvc3 bxc0 bxc1 bxc2 bxc3 byc0 byc1 byc2 byc3 bzc0 bzc1 bzc2 bzc3 bqc0 bqc1 brc0 brc1
  clear hb
  obtain ⟨bgc0, bgc1, bgc2⟩ := three Kg.out
  obtain ⟨bkc0, bkc1, bkc2, bkc3, bkc4⟩ := five Kk.out
  obtain ⟨bpc0, bpc1⟩ := twob Kp.out
  obtain ⟨bsc0, bsc1, bsc2⟩ := three Ks.out
  obtain ⟨btc0, btc1, btc2⟩ := three Kt.out
  obtain ⟨buc0, buc1, buc2⟩ := three Ku.out
  obtain ⟨bdc0, bdc1, bdc2⟩ := three Kd.out
  obtain ⟨bvc0, bvc1, bvc2, bvc3⟩ := four Kv.out
  obtain ⟨bxc0, bxc1, bxc2, bxc3⟩ := four Kx.out
  obtain ⟨byc0, byc1, byc2, byc3⟩ := four Ky.out
  obtain ⟨bzc0, bzc1, bzc2, bzc3⟩ := granted_cells CLz.out SZ.out Kz.out
  obtain ⟨bqc0, bqc1⟩ := twob Kq.out
  obtain ⟨brc0, brc1⟩ := twob Kr.out
  go_wp2_with (fail)
  refine (same_any la4 mo4 a4 a10 c4 c10 m4 _ R4.out R10.out hm4.out).mono ?_
  rintro e w25 ⟨rfl, hb⟩
  replace Kg := Lib.hid (Kg.out.below hb Kg.out.lt)
  replace Kk := Lib.hid (Kk.out.below hb Kk.out.lt)
  replace Kp := Lib.hid (Kp.out.below hb Kp.out.lt)
  replace Ks := Lib.hid (Ks.out.below hb Ks.out.lt)
  replace Kt := Lib.hid (Kt.out.below hb Kt.out.lt)
  replace Ku := Lib.hid (Ku.out.below hb Ku.out.lt)
  replace Kd := Lib.hid (Kd.out.below hb Kd.out.lt)
  replace Kl := Lib.hid (Kl.out.below hb Kl.out.lt)
  replace Kv := Lib.hid (Kv.out.below hb Kv.out.lt)
  replace Kx := Lib.hid (Kx.out.below hb Kx.out.lt)
  replace Ky := Lib.hid (Ky.out.below hb Ky.out.lt)
  replace Kz := Lib.hid (Kz.out.below hb Kz.out.lt)
  replace Kq := Lib.hid (Kq.out.below hb Kq.out.lt)
  replace Kr := Lib.hid (Kr.out.below hb Kr.out.lt)
  replace R1 := Lib.hid (R1.out.mono hb)
  replace R2 := Lib.hid (R2.out.mono hb)
  replace R3 := Lib.hid (R3.out.mono hb)
  replace R4 := Lib.hid (R4.out.mono hb)
  replace R6 := Lib.hid (R6.out.mono hb)
  replace R7 := Lib.hid (R7.out.mono hb)
  replace R8 := Lib.hid (R8.out.mono hb)
  replace R9 := Lib.hid (R9.out.mono hb)
  replace R10 := Lib.hid (R10.out.mono hb)
  replace R11 := Lib.hid (R11.out.mono hb)
  replace B := Lib.hid (B.out.trans (hb.mono B.out.size))
  clear bgc0 bgc1 bgc2 bkc0 bkc1 bkc2 bkc3 bkc4 bpc0 bpc1 bsc0 bsc1 bsc2 btc0 btc1 btc2 buc0 buc1 buc2 bdc0 bdc1 bdc2 bvc0 bvc1 bvc2 bvc3 bxc0 bxc1 bxc2 bxc3 byc0 byc1 byc2 byc3 bzc0 bzc1 bzc2 bzc3 bqc0 bqc1 brc0 brc1
  clear hb
  obtain ⟨bgc0, bgc1, bgc2⟩ := three Kg.out
  obtain ⟨bkc0, bkc1, bkc2, bkc3, bkc4⟩ := five Kk.out
  obtain ⟨bpc0, bpc1⟩ := twob Kp.out
  obtain ⟨bsc0, bsc1, bsc2⟩ := three Ks.out
  obtain ⟨btc0, btc1, btc2⟩ := three Kt.out
  obtain ⟨buc0, buc1, buc2⟩ := three Ku.out
  obtain ⟨bdc0, bdc1, bdc2⟩ := three Kd.out
  obtain ⟨bvc0, bvc1, bvc2, bvc3⟩ := four Kv.out
  obtain ⟨bxc0, bxc1, bxc2, bxc3⟩ := four Kx.out
  obtain ⟨byc0, byc1, byc2, byc3⟩ := four Ky.out
  obtain ⟨bzc0, bzc1, bzc2, bzc3⟩ := granted_cells CLz.out SZ.out Kz.out
  obtain ⟨bqc0, bqc1⟩ := twob Kq.out
  obtain ⟨brc0, brc1⟩ := twob Kr.out
  have eql := SL4.out.eq
  go_wp2_with (first | (with_reducible refine wpList_load_midw (by kernel_rfl) 38 _ rfl gz 3 rfl LC _ (granted_mid CLz.out SZ.out Kz.out) Tryd.underlying38 rfl BNl.out.info ?_) | (with_reducible refine wpList_load_want (by kernel_rfl) 38 _ rfl ((gd + 1)) rfl 38 (LC) _ Kl.out Tryd.underlying38 rfl BGl.out.info ?_))
  refine (sites_any a6 a11 c6 c11 m6 _ R6.out R11.out hm6.out).mono ?_
  rintro e w26 ⟨rfl, hb⟩
  replace Kg := Lib.hid (Kg.out.below hb Kg.out.lt)
  replace Kk := Lib.hid (Kk.out.below hb Kk.out.lt)
  replace Kp := Lib.hid (Kp.out.below hb Kp.out.lt)
  replace Ks := Lib.hid (Ks.out.below hb Ks.out.lt)
  replace Kt := Lib.hid (Kt.out.below hb Kt.out.lt)
  replace Ku := Lib.hid (Ku.out.below hb Ku.out.lt)
  replace Kd := Lib.hid (Kd.out.below hb Kd.out.lt)
  replace Kl := Lib.hid (Kl.out.below hb Kl.out.lt)
  replace Kv := Lib.hid (Kv.out.below hb Kv.out.lt)
  replace Kx := Lib.hid (Kx.out.below hb Kx.out.lt)
  replace Ky := Lib.hid (Ky.out.below hb Ky.out.lt)
  replace Kz := Lib.hid (Kz.out.below hb Kz.out.lt)
  replace Kq := Lib.hid (Kq.out.below hb Kq.out.lt)
  replace Kr := Lib.hid (Kr.out.below hb Kr.out.lt)
  replace R1 := Lib.hid (R1.out.mono hb)
  replace R2 := Lib.hid (R2.out.mono hb)
  replace R3 := Lib.hid (R3.out.mono hb)
  replace R4 := Lib.hid (R4.out.mono hb)
  replace R6 := Lib.hid (R6.out.mono hb)
  replace R7 := Lib.hid (R7.out.mono hb)
  replace R8 := Lib.hid (R8.out.mono hb)
  replace R9 := Lib.hid (R9.out.mono hb)
  replace R10 := Lib.hid (R10.out.mono hb)
  replace R11 := Lib.hid (R11.out.mono hb)
  replace B := Lib.hid (B.out.trans (hb.mono B.out.size))
  clear bgc0 bgc1 bgc2 bkc0 bkc1 bkc2 bkc3 bkc4 bpc0 bpc1 bsc0 bsc1 bsc2 btc0 btc1 btc2 buc0 buc1 buc2 bdc0 bdc1 bdc2 bvc0 bvc1 bvc2 bvc3 bxc0 bxc1 bxc2 bxc3 byc0 byc1 byc2 byc3 bzc0 bzc1 bzc2 bzc3 bqc0 bqc1 brc0 brc1
  clear hb
  obtain ⟨bgc0, bgc1, bgc2⟩ := three Kg.out
  obtain ⟨bkc0, bkc1, bkc2, bkc3, bkc4⟩ := five Kk.out
  obtain ⟨bpc0, bpc1⟩ := twob Kp.out
  obtain ⟨bsc0, bsc1, bsc2⟩ := three Ks.out
  obtain ⟨btc0, btc1, btc2⟩ := three Kt.out
  obtain ⟨buc0, buc1, buc2⟩ := three Ku.out
  obtain ⟨bdc0, bdc1, bdc2⟩ := three Kd.out
  obtain ⟨bvc0, bvc1, bvc2, bvc3⟩ := four Kv.out
  obtain ⟨bxc0, bxc1, bxc2, bxc3⟩ := four Kx.out
  obtain ⟨byc0, byc1, byc2, byc3⟩ := four Ky.out
  obtain ⟨bzc0, bzc1, bzc2, bzc3⟩ := granted_cells CLz.out SZ.out Kz.out
  obtain ⟨bqc0, bqc1⟩ := twob Kq.out
  obtain ⟨brc0, brc1⟩ := twob Kr.out
  go_wp2
  go_ret
  exact ⟨rfl, B.out⟩
theorem law3 (la mo : Int) (a : Option Addr) (c : Nat) (l : List Gr) (k1 k2 : Int) (k3 : ByteArray) (k4 k5 n ep lo hi len : Int) (w : World) (hp : GrA w a l) (hm : l.length ≤ 9223372036854775807) (hla : Hs.LaidC w) (hlk : Hs.LaidK w) : Calls Tryd.prog 3 #[.agg #[.int .i64 la, .int .i64 mo, .slice a l.length c], .agg #[.int .i64 k1, .int .i64 k2, .string k3, .int .i64 k4, .int .i64 k5], .int .i64 n, .int .i64 ep, per lo hi, .int .i64 len] w fun e w' => e = .returned (.bool true) ∧ Below w.heap.size w w' := by
  by_cases h0 : 70 < l.length
  · exact gs_many la mo a c l k1 k2 k3 k4 k5 n ep lo hi len w hp hm hla hlk h0
  by_cases h1 : 100 < k3.size
  · exact gs_long la mo a c l k1 k2 k3 k4 k5 n ep lo hi len w hp hm hla hlk h0 h1
  · exact gs_ok la mo a c l k1 k2 k3 k4 k5 n ep lo hi len w hp hm hla hlk h0 h1
end Le
end Go.Proofs.YteblnmhaohbkkaaDoor
