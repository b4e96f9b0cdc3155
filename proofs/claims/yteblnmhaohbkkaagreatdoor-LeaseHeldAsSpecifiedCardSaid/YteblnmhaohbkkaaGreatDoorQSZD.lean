/- Short, Make and Check of the reference (SH, RM, RC in one text) -/
import Derived.Test.YteblnmhaohbkkaaGreatDoorQSZA
import Derived.Test.YteblnmhaohbkkaaGreatDoorQHNN
import Derived.Test.YteblnmhaohbkkaaGreatDoorQP6
import Derived.Deep.MidRow
namespace Go.Proofs.YteblnmhaohbkkaaGreatDoor
set_option linter.unusedVariables false
set_option linter.unusedSimpArgs false
section
open Go.RowKit Go.Sort
def shortB (l : List ByteArray) (n : Int) : Bool := decide ((∀ k, k < l.length → (l.getD k ⟨#[]⟩).size ≤ 200) ∧ (l.length : Int) ≤ n)
theorem StR.at_ {W : World} {a : Option Addr} {l : List ByteArray} (h : StR W a l) {k : Nat} (hk : k < l.length) : ∃ b off, a = some ⟨b, off, none⟩ ∧ W.cell? ⟨b, off + k, none⟩ = some (.string (l.getD k ⟨#[]⟩)) := by
  obtain ⟨b, off, e, q⟩ := h k (l.getD k ⟨#[]⟩) (by rw [List.getD_eq_getElem?_getD, List.getElem?_eq_getElem hk]; rfl)
  have := q 0 _ rfl
  rw [Nat.mul_one, Nat.add_zero] at this
  exact ⟨b, off, e, this⟩
end
section
open Go.RowKit Go.Sort
theorem one_own (w : World) (s : ByteArray) : OwnS (w.alloc (.cells #[.string s] 9)) w.heap.size (.slice (some ⟨w.heap.size, 0, none⟩) 1 1) [s] :=
  ⟨rfl, .inr ⟨w.heap.size, 1, #[.string s], rfl, Nat.le_refl _, heap_alloc_new w _, Nat.le_refl _, by decide, rfl, rfl⟩⟩
set_option maxRecDepth 100000 in
set_option maxHeartbeats 600000 in
theorem rmake_any (k : Rw) (tag : Int) (t : Nat) (a : Option Addr) (c : Nat) (parts : List ByteArray) (w : World) (ht : tag % 256 = t) (hp : StR w a parts) (hf : parts.length ≤ 36 ∧ ∀ x ∈ parts, x.size ≤ 400) (hs : k.2.2.1.size ≤ 400) (hla : Hs.LaidK w) :
    Calls Tryz.prog 66 #[.agg (encR k).toArray, .int .i64 tag, .slice a parts.length c] w fun e w' => e = .returned (.agg (Hs.bvs (mkS t k.2.2.1 parts))) ∧ Below w.heap.size w w' := by
  have HP := Lib.hid hp
  have HL := Lib.hid hla
  obtain ⟨k1, k2, k3, k4, k5⟩ := k
  simp only at hs
  obtain ⟨n, hn⟩ : ∃ n, parts.length = n := ⟨_, rfl⟩
  have HE := Lib.hid hn
  obtain ⟨L, hL⟩ : ∃ L, [k3] ++ parts ++ [k3] = L := ⟨_, rfl⟩
  have hLl : L.length = n + 2 := by rw [← hL]; simp; omega
  have HFW := Lib.hid (show Hs.Few L from by
    refine ⟨by rw [hLl]; omega, fun x hx => ?_⟩
    rw [← hL] at hx
    simp only [List.mem_append, List.mem_singleton] at hx
    rcases hx with (rfl | hx) | rfl
    · omega
    · exact hf.2 x hx
    · omega)
  have HM := Lib.hid (show mkS t k3 parts = (Hs.sha (Hs.inL t L)).take 16 by unfold mkS; rw [hL])
  have HOF := Lib.hid (fun (a' : Option Addr) (c' : Nat) (X : World) (h : StR X a' L) (hla : Hs.LaidK X) => Hs.ofref_any tag t a' c' L X ht (strs_of h) HFW.out (fun a2 cap2 X2 h2 hb2 => Hs.sumref_any a2 cap2 _ X2 h2 (by have := Hs.inL_len t L HFW.out.2; have := HFW.out.1; omega) (hla.mono hb2)))
  simp only [← HM.out, hLl] at HOF
  simp only [encR]
  rw [hn]
  have VI : (Tryz.prog.info? 24).map (·.size) = some (Hs.bvs (mkS t k3 parts)).size := by rw [Hs.bvs_size, mkS_len]; kernel_rfl
  have VS : (#[Value.int .u8 0, .int .u8 0, .int .u8 0, .int .u8 0, .int .u8 0, .int .u8 0, .int .u8 0, .int .u8 0, .int .u8 0, .int .u8 0, .int .u8 0, .int .u8 0, .int .u8 0, .int .u8 0, .int .u8 0, .int .u8 0] : Array Value).size = (Hs.bvs (mkS t k3 parts)).size := by rw [Hs.bvs_size, mkS_len]; rfl
  have VO := Hs.bvs_one (mkS t k3 parts)
  obtain ⟨V, hV⟩ : ∃ V, Hs.bvs (mkS t k3 parts) = V := ⟨_, rfl⟩
  rw [hV] at VI VS VO ⊢
  simp only [hV] at HOF
  have VI := Lib.hid VI
  have VS := Lib.hid VS
  have VO := Lib.hid VO
  have HLe := Lib.hid hL
  have HNb := Lib.hid (show n ≤ 36 by omega)
  clear hp hla hn hL hLl HM hf hV
  go_enter Tryz.func66, Tryz.ntmps66
  obtain ⟨G, hG⟩ : ∃ G, w.heap.size = G := ⟨_, rfl⟩
  have HG := Lib.hid hG
  have Kk := Lib.hid (show Blk ((w.alloc (.cells #[.int .i64 k1, .int .i64 k2, .string k3, .int .i64 k4, .int .i64 k5] 52)).alloc (.cells #[.int .u8 0, .int .u8 0, .int .u8 0, .int .u8 0, .int .u8 0, .int .u8 0, .int .u8 0, .int .u8 0, .int .u8 0, .int .u8 0, .int .u8 0, .int .u8 0, .int .u8 0, .int .u8 0, .int .u8 0, .int .u8 0] 24)) (G) 52 #[.int .i64 k1, .int .i64 k2, .string k3, .int .i64 k4, .int .i64 k5] from (Blk.new' _ _ _ _ hG rfl).alloc _)
  have Kr := Lib.hid (show Blk ((w.alloc (.cells #[.int .i64 k1, .int .i64 k2, .string k3, .int .i64 k4, .int .i64 k5] 52)).alloc (.cells #[.int .u8 0, .int .u8 0, .int .u8 0, .int .u8 0, .int .u8 0, .int .u8 0, .int .u8 0, .int .u8 0, .int .u8 0, .int .u8 0, .int .u8 0, .int .u8 0, .int .u8 0, .int .u8 0, .int .u8 0, .int .u8 0] 24)) (G + 1) 24 #[.int .u8 0, .int .u8 0, .int .u8 0, .int .u8 0, .int .u8 0, .int .u8 0, .int .u8 0, .int .u8 0, .int .u8 0, .int .u8 0, .int .u8 0, .int .u8 0, .int .u8 0, .int .u8 0, .int .u8 0, .int .u8 0] from Blk.new' _ _ _ _ (by rw [World.size_alloc, hG]) rfl)
  have B := Lib.hid (show Below w.heap.size w ((w.alloc (.cells #[.int .i64 k1, .int .i64 k2, .string k3, .int .i64 k4, .int .i64 k5] 52)).alloc (.cells #[.int .u8 0, .int .u8 0, .int .u8 0, .int .u8 0, .int .u8 0, .int .u8 0, .int .u8 0, .int .u8 0, .int .u8 0, .int .u8 0, .int .u8 0, .int .u8 0, .int .u8 0, .int .u8 0, .int .u8 0, .int .u8 0] 24)) by (repeat' (first | (with_reducible exact Below.refl _ _) | (with_reducible assumption) | (with_reducible refine Below.alloc ?_ ?_ _) | (with_reducible refine Below.drew ?_) | (with_reducible refine below_dn ?_) | (with_reducible refine Below.setCell ?_ ?_ _) | (with_reducible exact Nat.le_refl _) | omega | (simp only [World.size_alloc, World.size_setCell, World.size_drew]; omega) | (simp; omega) | (simp; done))))
  go_upto_region 1 with (fail)
  try rw [hG]
  generalize hw0 : ((w.alloc (.cells #[.int .i64 k1, .int .i64 k2, .string k3, .int .i64 k4, .int .i64 k5] 52)).alloc (.cells #[.int .u8 0, .int .u8 0, .int .u8 0, .int .u8 0, .int .u8 0, .int .u8 0, .int .u8 0, .int .u8 0, .int .u8 0, .int .u8 0, .int .u8 0, .int .u8 0, .int .u8 0, .int .u8 0, .int .u8 0, .int .u8 0] 24)) = w0 at Kk Kr B ⊢
  clear hw0 hG
  obtain ⟨bkc0, bkc1, bkc2, bkc3, bkc4⟩ := five Kk.out
  obtain ⟨brc0, brc1, brc2, brc3, brc4, brc5, brc6, brc7, brc8, brc9, brc10, brc11, brc12, brc13, brc14, brc15⟩ := sixteen Kr.out
  obtain ⟨-, -, kc2, -, -⟩ := five (Kk.out.alloc (.cells #[.string k3] 9))
  obtain ⟨b1, n1, d1, w1, hr1, ho1, hb1⟩ := app_S 93 (w0.alloc (.cells #[.string k3] 9)) w0.heap.size (.slice (some ⟨w0.heap.size, 0, none⟩) 1 1) [k3] (one_own w0 k3) a c parts (HP.out.mono (B.out.trans (((Below.refl _ w0).alloc (Nat.le_refl _) (.cells #[.string k3] 9)).mono B.out.size))) (by simp) (by have := HNb.out; rw [HE.out]; omega) (by rw [World.size_alloc]; omega)
  rw [HE.out] at hr1
  have HR1 := Lib.hid hr1
  have O1 := Lib.hid ho1
  have hb := ((Below.refl _ w0).alloc (Nat.le_refl _) (.cells #[.string k3] 9)).trans hb1
  clear hr1 ho1 hb1
  have Z1 := Lib.hid (show w0.heap.size ≤ w1.heap.size from hb.size)
  obtain ⟨b2, n2, d2, w2, hr2, ho2, hb2⟩ := app_S 93 (w1.alloc (.cells #[.string k3] 9)) w0.heap.size (.slice b1 n1 d1) ([k3] ++ parts) (O1.out.alloc _) (some ⟨w1.heap.size, 0, none⟩) 1 [k3] (rows_one (enc := encT) (e := 9) w1 k3) (by have := HNb.out; have := HE.out; simp; omega) (by simp) (by rw [World.size_alloc]; have := Z1.out; omega)
  have HR2 := Lib.hid hr2
  have hbb := (hb.alloc hb.size (.cells #[.string k3] 9)).trans hb2
  rw [HLe.out] at ho2
  obtain ⟨a9, c9, e9, -, h9⟩ := OwnR.view encT_len ho2
  injection e9 with e91 e92 e93
  subst e91
  subst e93
  have H9 := Lib.hid h9
  have N2 := Lib.hid (show n2 = n + 2 by rw [e92, ← HLe.out]; simp; have := HE.out; omega)
  clear hr2 ho2 h9 e92 HLe
  have Kk1 := Lib.hid (Kk.out.below hb Kk.out.lt)
  obtain ⟨-, -, kd2, -, -⟩ := five Kk1.out
  go_wp2_with (at_builtin; first | (refine wpList_app_run rfl _ _ _ _ rfl _ _ _ w1 rfl rfl HR1.out ?_) | (refine wpList_app_run rfl _ _ _ _ rfl _ _ _ w2 rfl rfl HR2.out ?_))
  have hn2 := N2.out
  subst hn2
  replace Kk := Lib.hid (Kk.out.below hbb Kk.out.lt)
  replace Kr := Lib.hid (Kr.out.below hbb Kr.out.lt)
  replace B := Lib.hid (B.out.trans (hbb.mono B.out.size))
  clear hbb hb hb2 kc2 kd2 Kk1
  clear bkc0 bkc1 bkc2 bkc3 bkc4 brc0 brc1 brc2 brc3 brc4 brc5 brc6 brc7 brc8 brc9 brc10 brc11 brc12 brc13 brc14 brc15
  obtain ⟨bkc0, bkc1, bkc2, bkc3, bkc4⟩ := five Kk.out
  obtain ⟨brc0, brc1, brc2, brc3, brc4, brc5, brc6, brc7, brc8, brc9, brc10, brc11, brc12, brc13, brc14, brc15⟩ := sixteen Kr.out
  go_wp2_with fail
  refine (HOF.out _ _ _ H9.out (HL.out.mono B.out)).mono ?_
  rintro e w1 ⟨rfl, hb⟩
  replace Kk := Lib.hid (Kk.out.below hb Kk.out.lt)
  replace Kr := Lib.hid (Kr.out.below hb Kr.out.lt)
  replace B := Lib.hid (B.out.trans (hb.mono B.out.size))
  clear bkc0 bkc1 bkc2 bkc3 bkc4 brc0 brc1 brc2 brc3 brc4 brc5 brc6 brc7 brc8 brc9 brc10 brc11 brc12 brc13 brc14 brc15
  clear hb
  obtain ⟨bkc0, bkc1, bkc2, bkc3, bkc4⟩ := five Kk.out
  obtain ⟨brc0, brc1, brc2, brc3, brc4, brc5, brc6, brc7, brc8, brc9, brc10, brc11, brc12, brc13, brc14, brc15⟩ := sixteen Kr.out
  clear bkc0 bkc1 bkc2 bkc3 bkc4 brc0 brc1 brc2 brc3 brc4 brc5 brc6 brc7 brc8 brc9 brc10 brc11 brc12 brc13 brc14 brc15
  go_wp2_with (refine Hs.wpList_store_blk rfl 24 _ _ rfl (G + 1) 24 _ V rfl rfl Kr.out VI.out VS.out VO.out rfl ?_)
  refine bodyPost_ret (v := .agg V) (results_cell_row rfl _ _ _ 24 _ (0, 0) _ rfl (Kr.out.row_ _) Tryz.underlying24 rfl VI.out) rfl ⟨rfl, below_setRow B.out (show w.heap.size ≤ G + 1 by have := HG.out; omega) _⟩
end
section
open Go.RowKit Go.Sort
set_option maxRecDepth 100000 in
set_option maxHeartbeats 1000000 in
theorem rcheck_no (a : Option Addr) (c : Nat) (l : List Rw) (p s tag : Int) (t : Nat) (b : Option Addr) (c2 : Nat) (parts : List ByteArray) (S : List Nat) (lo hi : Int) (w : World) (hp : RwA w a l) (hq : StR w b parts) (ok : RingOk l) (ht : tag % 256 = t) (hf : parts.length ≤ 36 ∧ ∀ x ∈ parts, x.size ≤ 400) (hS : S.length = 16) (hla : Hs.LaidK w) (hh : ¬ hasC (cR p s) l = true) :
    Calls Tryz.prog 51 #[.slice a l.length c, .int .i64 p, .int .i64 s, .int .i64 tag, .slice b parts.length c2, .agg (Hs.bvs S), per lo hi] w fun e w' => e = .returned (.int .i64 (chkE l p s t parts S lo hi)) ∧ Below w.heap.size w w' := by
  have HP := Lib.hid hp
  have HQ := Lib.hid hq
  have HLA := Lib.hid hla
  have FI := Lib.hid (fun (X : World) (h : RwA X a l) => rfind_any a c l p s X h ok.ord (by have := ok.few; omega))
  unfold chkE
  rw [if_neg hh]
  obtain ⟨z1, z2⟩ := find_no hh
  simp only [z1, z2, encR, List.cons_append, List.nil_append] at FI
  obtain ⟨N, hN⟩ : ∃ N, l.length = N := ⟨_, rfl⟩
  obtain ⟨n, hn⟩ : ∃ n, parts.length = n := ⟨_, rfl⟩
  simp only [hN] at FI
  rw [hN, hn]
  obtain ⟨SV, hSV⟩ : ∃ V, Hs.bvs S = V := ⟨_, rfl⟩
  rw [hSV]
  clear hp hq hla ok ht hf hS hh z1 z2 hN hn hSV HQ HLA
  obtain ⟨G, hG⟩ : ∃ G, w.heap.size = G := ⟨_, rfl⟩
  have HG := Lib.hid hG
  have Kg := Lib.hid (show Blk ((w.alloc (.cells SV 24)).alloc (.cells #[.int .i64 lo, .int .i64 hi] 30)) G 24 SV from (Blk.new' w _ _ _ hG rfl).alloc _)
  have Kp := Lib.hid (show Blk ((w.alloc (.cells SV 24)).alloc (.cells #[.int .i64 lo, .int .i64 hi] 30)) (G + 1) 30 #[.int .i64 lo, .int .i64 hi] from Blk.new' _ _ _ _ (by rw [World.size_alloc, hG]) rfl)
  have B := Lib.hid (show Below w.heap.size w ((w.alloc (.cells SV 24)).alloc (.cells #[.int .i64 lo, .int .i64 hi] 30)) by (repeat' (first | (with_reducible exact Below.refl _ _) | (with_reducible assumption) | (with_reducible refine Below.alloc ?_ ?_ _) | (with_reducible refine Below.drew ?_) | (with_reducible refine below_dn ?_) | (with_reducible refine Below.setCell ?_ ?_ _) | (with_reducible exact Nat.le_refl _) | omega | (simp only [World.size_alloc, World.size_setCell, World.size_drew]; omega) | (simp; omega) | (simp; done))))
  go_enter Tryz.func51, Tryz.ntmps51
  go_upto_region 1 with (fail)
  try rw [hG]
  generalize hw0 : ((w.alloc (.cells SV 24)).alloc (.cells #[.int .i64 lo, .int .i64 hi] 30)) = w0 at Kg Kp B ⊢
  clear hw0 hG
  go_wp2_with fail
  refine (FI.out _ (HP.out.mono B.out)).mono ?_
  rintro e w1 ⟨rfl, hb⟩
  replace Kg := Lib.hid (Kg.out.below hb Kg.out.lt)
  replace Kp := Lib.hid (Kp.out.below hb Kp.out.lt)
  replace B := Lib.hid (B.out.trans (hb.mono B.out.size))
  clear hb FI
  obtain ⟨gk, hgk⟩ : ∃ G, w1.heap.size = G := ⟨_, rfl⟩
  have Kk := Lib.hid (show Blk (w1.alloc (.cells #[.int .i64 0, .int .i64 0, .string ⟨#[]⟩, .int .i64 0, .int .i64 0, .int .i64 5] 90)) gk 90 #[.int .i64 0, .int .i64 0, .string ⟨#[]⟩, .int .i64 0, .int .i64 0, .int .i64 5] from Blk.new' w1 _ _ _ hgk rfl)
  replace Kg := Lib.hid (Kg.out.alloc (.cells #[.int .i64 0, .int .i64 0, .string ⟨#[]⟩, .int .i64 0, .int .i64 0, .int .i64 5] 90))
  replace Kp := Lib.hid (Kp.out.alloc (.cells #[.int .i64 0, .int .i64 0, .string ⟨#[]⟩, .int .i64 0, .int .i64 0, .int .i64 5] 90))
  replace B := Lib.hid (B.out.alloc B.out.size (.cells #[.int .i64 0, .int .i64 0, .string ⟨#[]⟩, .int .i64 0, .int .i64 0, .int .i64 5] 90))
  go_upto_region 2 with (fail)
  try rw [hgk]
  generalize hw : w1.alloc (.cells #[.int .i64 0, .int .i64 0, .string ⟨#[]⟩, .int .i64 0, .int .i64 0, .int .i64 5] 90) = w2 at Kg Kp Kk B ⊢
  clear hw hgk
  obtain ⟨q0, q1, q2, q3, q4, q5⟩ := six Kk.out
  obtain ⟨p0, p1⟩ := twob Kp.out
  go_wp2
  go_ret
  exact ⟨rfl, B.out⟩
set_option maxRecDepth 100000 in
set_option maxHeartbeats 1000000 in
theorem rcheck_time (a : Option Addr) (c : Nat) (l : List Rw) (p s tag : Int) (t : Nat) (b : Option Addr) (c2 : Nat) (parts : List ByteArray) (S : List Nat) (lo hi : Int) (w : World) (hp : RwA w a l) (hq : StR w b parts) (ok : RingOk l) (ht : tag % 256 = t) (hf : parts.length ≤ 36 ∧ ∀ x ∈ parts, x.size ≤ 400) (hS : S.length = 16) (hla : Hs.LaidK w) (hh : hasC (cR p s) l = true) (hc : ¬ countsB (findL l p s) lo hi = true) :
    Calls Tryz.prog 51 #[.slice a l.length c, .int .i64 p, .int .i64 s, .int .i64 tag, .slice b parts.length c2, .agg (Hs.bvs S), per lo hi] w fun e w' => e = .returned (.int .i64 (chkE l p s t parts S lo hi)) ∧ Below w.heap.size w w' := by
  have HP := Lib.hid hp
  have HQ := Lib.hid hq
  have HLA := Lib.hid hla
  have FI := Lib.hid (fun (X : World) (h : RwA X a l) => rfind_any a c l p s X h ok.ord (by have := ok.few; omega))
  unfold chkE
  rw [if_pos hh]
  obtain ⟨z1, z2⟩ := find_yes hh
  simp only [z2] at FI
  have hkey : keyOk (findL l p s) := by rw [z1]; exact ok.keys _ ((hasC_iff _ _).1 hh).1
  obtain ⟨x, hx⟩ : ∃ y, findL l p s = y := ⟨_, rfl⟩
  simp only [hx] at FI
  rw [hx] at hkey hc ⊢
  have CO := Lib.hid (fun W : World => rcounts_any x lo hi W)
  rw [if_neg hc]
  have hc2 : countsB x lo hi = false := by simpa using hc
  rw [hc2] at CO
  obtain ⟨f1, f2, f3, f4, f5⟩ := x
  simp only [encR, List.cons_append, List.nil_append] at FI CO
  obtain ⟨N, hN⟩ : ∃ N, l.length = N := ⟨_, rfl⟩
  obtain ⟨n, hn⟩ : ∃ n, parts.length = n := ⟨_, rfl⟩
  simp only [hN] at FI
  rw [hN, hn]
  obtain ⟨SV, hSV⟩ : ∃ V, Hs.bvs S = V := ⟨_, rfl⟩
  rw [hSV]
  clear hp hq hla ok ht hf hS hh z1 z2 hN hn hSV HQ HLA hkey hx hc hc2
  obtain ⟨G, hG⟩ : ∃ G, w.heap.size = G := ⟨_, rfl⟩
  have HG := Lib.hid hG
  have Kg := Lib.hid (show Blk ((w.alloc (.cells SV 24)).alloc (.cells #[.int .i64 lo, .int .i64 hi] 30)) G 24 SV from (Blk.new' w _ _ _ hG rfl).alloc _)
  have Kp := Lib.hid (show Blk ((w.alloc (.cells SV 24)).alloc (.cells #[.int .i64 lo, .int .i64 hi] 30)) (G + 1) 30 #[.int .i64 lo, .int .i64 hi] from Blk.new' _ _ _ _ (by rw [World.size_alloc, hG]) rfl)
  have B := Lib.hid (show Below w.heap.size w ((w.alloc (.cells SV 24)).alloc (.cells #[.int .i64 lo, .int .i64 hi] 30)) by (repeat' (first | (with_reducible exact Below.refl _ _) | (with_reducible assumption) | (with_reducible refine Below.alloc ?_ ?_ _) | (with_reducible refine Below.drew ?_) | (with_reducible refine below_dn ?_) | (with_reducible refine Below.setCell ?_ ?_ _) | (with_reducible exact Nat.le_refl _) | omega | (simp only [World.size_alloc, World.size_setCell, World.size_drew]; omega) | (simp; omega) | (simp; done))))
  go_enter Tryz.func51, Tryz.ntmps51
  go_upto_region 1 with (fail)
  try rw [hG]
  generalize hw0 : ((w.alloc (.cells SV 24)).alloc (.cells #[.int .i64 lo, .int .i64 hi] 30)) = w0 at Kg Kp B ⊢
  clear hw0 hG
  go_wp2_with fail
  refine (FI.out _ (HP.out.mono B.out)).mono ?_
  rintro e w1 ⟨rfl, hb⟩
  replace Kg := Lib.hid (Kg.out.below hb Kg.out.lt)
  replace Kp := Lib.hid (Kp.out.below hb Kp.out.lt)
  replace B := Lib.hid (B.out.trans (hb.mono B.out.size))
  clear hb FI
  obtain ⟨gk, hgk⟩ : ∃ G, w1.heap.size = G := ⟨_, rfl⟩
  have Kk := Lib.hid (show Blk (w1.alloc (.cells #[.int .i64 f1, .int .i64 f2, .string f3, .int .i64 f4, .int .i64 f5, .int .i64 0] 90)) gk 90 #[.int .i64 f1, .int .i64 f2, .string f3, .int .i64 f4, .int .i64 f5, .int .i64 0] from Blk.new' w1 _ _ _ hgk rfl)
  replace Kg := Lib.hid (Kg.out.alloc (.cells #[.int .i64 f1, .int .i64 f2, .string f3, .int .i64 f4, .int .i64 f5, .int .i64 0] 90))
  replace Kp := Lib.hid (Kp.out.alloc (.cells #[.int .i64 f1, .int .i64 f2, .string f3, .int .i64 f4, .int .i64 f5, .int .i64 0] 90))
  replace B := Lib.hid (B.out.alloc B.out.size (.cells #[.int .i64 f1, .int .i64 f2, .string f3, .int .i64 f4, .int .i64 f5, .int .i64 0] 90))
  go_upto_region 2 with (fail)
  try rw [hgk]
  generalize hw : w1.alloc (.cells #[.int .i64 f1, .int .i64 f2, .string f3, .int .i64 f4, .int .i64 f5, .int .i64 0] 90) = w2 at Kg Kp Kk B ⊢
  clear hw hgk
  obtain ⟨q0, q1, q2, q3, q4, q5⟩ := six Kk.out
  obtain ⟨p0, p1⟩ := twob Kp.out
  go_wp2_with fail
  refine (CO.out _).mono ?_
  rintro e w3 ⟨rfl, hb⟩
  replace B := Lib.hid (B.out.trans (hb.mono B.out.size))
  clear hb
  go_wp2
  go_ret
  exact ⟨rfl, B.out⟩
set_option maxRecDepth 100000 in
set_option maxHeartbeats 1000000 in
theorem rcheck_seal (a : Option Addr) (c : Nat) (l : List Rw) (p s tag : Int) (t : Nat) (b : Option Addr) (c2 : Nat) (parts : List ByteArray) (S : List Nat) (lo hi : Int) (w : World) (hp : RwA w a l) (hq : StR w b parts) (ok : RingOk l) (ht : tag % 256 = t) (hf : parts.length ≤ 36 ∧ ∀ x ∈ parts, x.size ≤ 400) (hS : S.length = 16) (hla : Hs.LaidK w) (hh : hasC (cR p s) l = true) (hc : countsB (findL l p s) lo hi = true) (hv : ¬ mkS t (findL l p s).2.2.1 parts = S) :
    Calls Tryz.prog 51 #[.slice a l.length c, .int .i64 p, .int .i64 s, .int .i64 tag, .slice b parts.length c2, .agg (Hs.bvs S), per lo hi] w fun e w' => e = .returned (.int .i64 (chkE l p s t parts S lo hi)) ∧ Below w.heap.size w w' := by
  have HP := Lib.hid hp
  have HQ := Lib.hid hq
  have HLA := Lib.hid hla
  have FI := Lib.hid (fun (X : World) (h : RwA X a l) => rfind_any a c l p s X h ok.ord (by have := ok.few; omega))
  unfold chkE
  rw [if_pos hh]
  obtain ⟨z1, z2⟩ := find_yes hh
  simp only [z2] at FI
  have hkey : keyOk (findL l p s) := by rw [z1]; exact ok.keys _ ((hasC_iff _ _).1 hh).1
  obtain ⟨x, hx⟩ : ∃ y, findL l p s = y := ⟨_, rfl⟩
  simp only [hx] at FI
  rw [hx] at hkey hc hv ⊢
  have CO := Lib.hid (fun W : World => rcounts_any x lo hi W)
  rw [if_pos hc, if_neg hv]
  rw [hc] at CO
  have HM := Lib.hid (fun (X : World) (h : StR X b parts) (hla : Hs.LaidK X) => rmake_any x tag t b c2 parts X ht h hf (by have := hkey.2.2.1.2; omega) hla)
  have EQ := Hs.equalIn_16d (mkS t x.2.2.1 parts) S (mkS_len _ _ _) hS
  have SI := Lib.hid (show (Tryz.prog.info? 24).map (·.size) = some (Hs.bvs S).size by rw [Hs.bvs_size, hS]; kernel_rfl)
  simp only [decide_eq_false hv] at EQ
  obtain ⟨f1, f2, f3, f4, f5⟩ := x
  simp only [encR, List.cons_append, List.nil_append] at FI CO HM
  have KI := Lib.hid (show (Tryz.prog.info? 52).map (·.size) = some (#[.int .i64 f1, .int .i64 f2, .string f3, .int .i64 f4, .int .i64 f5] : Array Value).size from by kernel_rfl)
  simp only at EQ
  obtain ⟨V, hV⟩ : ∃ V, Hs.bvs (mkS t f3 parts) = V := ⟨_, rfl⟩
  simp only [hV] at HM EQ
  obtain ⟨N, hN⟩ : ∃ N, l.length = N := ⟨_, rfl⟩
  obtain ⟨n, hn⟩ : ∃ n, parts.length = n := ⟨_, rfl⟩
  simp only [hN] at FI
  simp only [hn] at HM
  rw [hN, hn]
  obtain ⟨SV, hSV⟩ : ∃ V, Hs.bvs S = V := ⟨_, rfl⟩
  rw [hSV] at SI ⊢
  simp only [hSV] at EQ
  clear hp hq hla ok ht hf hS hh z1 z2 hN hn hSV hkey hx hc hv hV
  obtain ⟨G, hG⟩ : ∃ G, w.heap.size = G := ⟨_, rfl⟩
  have HG := Lib.hid hG
  have Kg := Lib.hid (show Blk ((w.alloc (.cells SV 24)).alloc (.cells #[.int .i64 lo, .int .i64 hi] 30)) G 24 SV from (Blk.new' w _ _ _ hG rfl).alloc _)
  have Kp := Lib.hid (show Blk ((w.alloc (.cells SV 24)).alloc (.cells #[.int .i64 lo, .int .i64 hi] 30)) (G + 1) 30 #[.int .i64 lo, .int .i64 hi] from Blk.new' _ _ _ _ (by rw [World.size_alloc, hG]) rfl)
  have B := Lib.hid (show Below w.heap.size w ((w.alloc (.cells SV 24)).alloc (.cells #[.int .i64 lo, .int .i64 hi] 30)) by (repeat' (first | (with_reducible exact Below.refl _ _) | (with_reducible assumption) | (with_reducible refine Below.alloc ?_ ?_ _) | (with_reducible refine Below.drew ?_) | (with_reducible refine below_dn ?_) | (with_reducible refine Below.setCell ?_ ?_ _) | (with_reducible exact Nat.le_refl _) | omega | (simp only [World.size_alloc, World.size_setCell, World.size_drew]; omega) | (simp; omega) | (simp; done))))
  go_enter Tryz.func51, Tryz.ntmps51
  go_upto_region 1 with (fail)
  try rw [hG]
  generalize hw0 : ((w.alloc (.cells SV 24)).alloc (.cells #[.int .i64 lo, .int .i64 hi] 30)) = w0 at Kg Kp B ⊢
  clear hw0 hG
  go_wp2_with fail
  refine (FI.out _ (HP.out.mono B.out)).mono ?_
  rintro e w1 ⟨rfl, hb⟩
  replace Kg := Lib.hid (Kg.out.below hb Kg.out.lt)
  replace Kp := Lib.hid (Kp.out.below hb Kp.out.lt)
  replace B := Lib.hid (B.out.trans (hb.mono B.out.size))
  clear hb FI
  obtain ⟨gk, hgk⟩ : ∃ G, w1.heap.size = G := ⟨_, rfl⟩
  have Kk := Lib.hid (show Blk (w1.alloc (.cells #[.int .i64 f1, .int .i64 f2, .string f3, .int .i64 f4, .int .i64 f5, .int .i64 0] 90)) gk 90 #[.int .i64 f1, .int .i64 f2, .string f3, .int .i64 f4, .int .i64 f5, .int .i64 0] from Blk.new' w1 _ _ _ hgk rfl)
  replace Kg := Lib.hid (Kg.out.alloc (.cells #[.int .i64 f1, .int .i64 f2, .string f3, .int .i64 f4, .int .i64 f5, .int .i64 0] 90))
  replace Kp := Lib.hid (Kp.out.alloc (.cells #[.int .i64 f1, .int .i64 f2, .string f3, .int .i64 f4, .int .i64 f5, .int .i64 0] 90))
  replace B := Lib.hid (B.out.alloc B.out.size (.cells #[.int .i64 f1, .int .i64 f2, .string f3, .int .i64 f4, .int .i64 f5, .int .i64 0] 90))
  go_upto_region 2 with (fail)
  try rw [hgk]
  generalize hw : w1.alloc (.cells #[.int .i64 f1, .int .i64 f2, .string f3, .int .i64 f4, .int .i64 f5, .int .i64 0] 90) = w2 at Kg Kp Kk B ⊢
  clear hw hgk
  obtain ⟨q0, q1, q2, q3, q4, q5⟩ := six Kk.out
  obtain ⟨p0, p1⟩ := twob Kp.out
  go_wp2_with fail
  refine (CO.out _).mono ?_
  rintro e w3 ⟨rfl, hb⟩
  replace Kg := Lib.hid (Kg.out.below hb Kg.out.lt)
  replace Kk := Lib.hid (Kk.out.below hb Kk.out.lt)
  replace B := Lib.hid (B.out.trans (hb.mono B.out.size))
  clear hb Kp q0 q1 q2 q3 q4 p0 p1 CO
  go_upto_region 7 with (fail)
  refine wp_region_held_drew (S := fun W => Blk W gk 90 #[.int .i64 f1, .int .i64 f2, .string f3, .int .i64 f4, .int .i64 f5, .int .i64 0] ∧ Blk W G 24 SV) (by kernel_rfl) ⟨Kk.out.drew, Kg.out.drew⟩ (fun hHeld => ?_)
  replace B := Lib.hid B.out.drew
  generalize w3.drew = w4 at B hHeld ⊢
  refine wpAnyH_take (i := 0) (v := .pointer (some ⟨gk, 0, none⟩)) rfl (by kernel_rfl) (by kernel_rfl) (by kernel_rfl) (fun _ _ _ h => h) (Or.inl ⟨by rfl, fun W hW => by go_simp⟩) (by assumption) ?_
  (try simp only [Act.put, List.getElem_toArray, List.getElem_cons_succ, List.getElem_cons_zero, List.setIfInBounds_toArray, List.set_cons_zero, List.set_cons_succ])
  refine wpAnyH_take (i := 1) (v := .agg #[.int .i64 f1, .int .i64 f2, .string f3, .int .i64 f4, .int .i64 f5]) rfl (by kernel_rfl) (by kernel_rfl) (by kernel_rfl) (fun _ _ _ h => h) (Or.inl ⟨by rfl, fun W hW => (by obtain ⟨q0, q1, q2, q3, q4, q5⟩ := six hW.1; go_simp)⟩) (by assumption) ?_
  (try simp only [Act.put, List.getElem_toArray, List.getElem_cons_succ, List.getElem_cons_zero, List.setIfInBounds_toArray, List.set_cons_zero, List.set_cons_succ])
  refine wpAnyH_take (i := 2) (v := .int .i64 tag) rfl (by kernel_rfl) (by kernel_rfl) (by kernel_rfl) (fun _ _ _ h => h) (Or.inl ⟨by rfl, fun W hW => by go_simp⟩) (by assumption) ?_
  (try simp only [Act.put, List.getElem_toArray, List.getElem_cons_succ, List.getElem_cons_zero, List.setIfInBounds_toArray, List.set_cons_zero, List.set_cons_succ])
  refine wpAnyH_take (i := 3) (v := .slice b n c2) rfl (by kernel_rfl) (by kernel_rfl) (by kernel_rfl) (fun _ _ _ h => h) (Or.inl ⟨by rfl, fun W hW => by go_simp⟩) (by assumption) ?_
  (try simp only [Act.put, List.getElem_toArray, List.getElem_cons_succ, List.getElem_cons_zero, List.setIfInBounds_toArray, List.set_cons_zero, List.set_cons_succ])
  refine wpAnyH_take (i := 5) (v := .agg SV) rfl (by kernel_rfl) (by kernel_rfl) (by kernel_rfl) (fun _ _ _ h => h) (Or.inl ⟨by rfl, fun W hW => exec_load_row 24 _ rfl G rfl 24 SV (0, 0) _ hW.2 Tryz.underlying24 rfl SI.out⟩) (by assumption) ?_
  (try simp only [Act.put, List.getElem_toArray, List.getElem_cons_succ, List.getElem_cons_zero, List.setIfInBounds_toArray, List.set_cons_zero, List.set_cons_succ])
  refine wpAnyH_ready (rs := [4]) (by kernel_rfl) (by simp) (AllReadyH.cons rfl (fun K hK => ?_) AllReadyH.nil)
  go_simp
  refine (HM.out _ (HQ.out.mono B.out) (HLA.out.mono B.out)).mono ?_
  rintro e w5 ⟨rfl, hb⟩
  have hB5 := Lib.hid hb
  replace B := Lib.hid (B.out.trans (hb.mono B.out.size))
  clear hb
  go_wp2_with fail
  refine hK _ _ ⟨hHeld.1.below hB5.out hHeld.1.lt, hHeld.2.below hB5.out hHeld.2.lt⟩ (fun hHeld2 => ?_)
  clear hK K
  (try simp only [Act.put, List.getElem_toArray, List.getElem_cons_succ, List.getElem_cons_zero, List.setIfInBounds_toArray, List.set_cons_zero, List.set_cons_succ])
  refine wpAnyH_take (i := 6) (v := .bool true) rfl (by kernel_rfl) (by kernel_rfl) (by kernel_rfl) (fun _ _ _ h => h) (Or.inl ⟨by rfl, fun W hW => by go_simp⟩) (by assumption) ?_
  (try simp only [Act.put, List.getElem_toArray, List.getElem_cons_succ, List.getElem_cons_zero, List.setIfInBounds_toArray, List.set_cons_zero, List.set_cons_succ])
  refine wpAnyH_done (by kernel_rfl) ?_ _
  go_wp2
  go_ret
  exact ⟨rfl, B.out⟩
set_option maxRecDepth 100000 in
set_option maxHeartbeats 1000000 in
theorem rcheck_ok (a : Option Addr) (c : Nat) (l : List Rw) (p s tag : Int) (t : Nat) (b : Option Addr) (c2 : Nat) (parts : List ByteArray) (S : List Nat) (lo hi : Int) (w : World) (hp : RwA w a l) (hq : StR w b parts) (ok : RingOk l) (ht : tag % 256 = t) (hf : parts.length ≤ 36 ∧ ∀ x ∈ parts, x.size ≤ 400) (hS : S.length = 16) (hla : Hs.LaidK w) (hh : hasC (cR p s) l = true) (hc : countsB (findL l p s) lo hi = true) (hv : mkS t (findL l p s).2.2.1 parts = S) :
    Calls Tryz.prog 51 #[.slice a l.length c, .int .i64 p, .int .i64 s, .int .i64 tag, .slice b parts.length c2, .agg (Hs.bvs S), per lo hi] w fun e w' => e = .returned (.int .i64 (chkE l p s t parts S lo hi)) ∧ Below w.heap.size w w' := by
  have HP := Lib.hid hp
  have HQ := Lib.hid hq
  have HLA := Lib.hid hla
  have FI := Lib.hid (fun (X : World) (h : RwA X a l) => rfind_any a c l p s X h ok.ord (by have := ok.few; omega))
  unfold chkE
  rw [if_pos hh]
  obtain ⟨z1, z2⟩ := find_yes hh
  simp only [z2] at FI
  have hkey : keyOk (findL l p s) := by rw [z1]; exact ok.keys _ ((hasC_iff _ _).1 hh).1
  obtain ⟨x, hx⟩ : ∃ y, findL l p s = y := ⟨_, rfl⟩
  simp only [hx] at FI
  rw [hx] at hkey hc hv ⊢
  have CO := Lib.hid (fun W : World => rcounts_any x lo hi W)
  rw [if_pos hc, if_pos hv]
  rw [hc] at CO
  have HM := Lib.hid (fun (X : World) (h : StR X b parts) (hla : Hs.LaidK X) => rmake_any x tag t b c2 parts X ht h hf (by have := hkey.2.2.1.2; omega) hla)
  have EQ := Hs.equalIn_16d (mkS t x.2.2.1 parts) S (mkS_len _ _ _) hS
  have SI := Lib.hid (show (Tryz.prog.info? 24).map (·.size) = some (Hs.bvs S).size by rw [Hs.bvs_size, hS]; kernel_rfl)
  simp only [decide_eq_true hv] at EQ
  obtain ⟨f1, f2, f3, f4, f5⟩ := x
  simp only [encR, List.cons_append, List.nil_append] at FI CO HM
  have KI := Lib.hid (show (Tryz.prog.info? 52).map (·.size) = some (#[.int .i64 f1, .int .i64 f2, .string f3, .int .i64 f4, .int .i64 f5] : Array Value).size from by kernel_rfl)
  simp only at EQ
  obtain ⟨V, hV⟩ : ∃ V, Hs.bvs (mkS t f3 parts) = V := ⟨_, rfl⟩
  simp only [hV] at HM EQ
  obtain ⟨N, hN⟩ : ∃ N, l.length = N := ⟨_, rfl⟩
  obtain ⟨n, hn⟩ : ∃ n, parts.length = n := ⟨_, rfl⟩
  simp only [hN] at FI
  simp only [hn] at HM
  rw [hN, hn]
  obtain ⟨SV, hSV⟩ : ∃ V, Hs.bvs S = V := ⟨_, rfl⟩
  rw [hSV] at SI ⊢
  simp only [hSV] at EQ
  clear hp hq hla ok ht hf hS hh z1 z2 hN hn hSV hkey hx hc hv hV
  obtain ⟨G, hG⟩ : ∃ G, w.heap.size = G := ⟨_, rfl⟩
  have HG := Lib.hid hG
  have Kg := Lib.hid (show Blk ((w.alloc (.cells SV 24)).alloc (.cells #[.int .i64 lo, .int .i64 hi] 30)) G 24 SV from (Blk.new' w _ _ _ hG rfl).alloc _)
  have Kp := Lib.hid (show Blk ((w.alloc (.cells SV 24)).alloc (.cells #[.int .i64 lo, .int .i64 hi] 30)) (G + 1) 30 #[.int .i64 lo, .int .i64 hi] from Blk.new' _ _ _ _ (by rw [World.size_alloc, hG]) rfl)
  have B := Lib.hid (show Below w.heap.size w ((w.alloc (.cells SV 24)).alloc (.cells #[.int .i64 lo, .int .i64 hi] 30)) by (repeat' (first | (with_reducible exact Below.refl _ _) | (with_reducible assumption) | (with_reducible refine Below.alloc ?_ ?_ _) | (with_reducible refine Below.drew ?_) | (with_reducible refine below_dn ?_) | (with_reducible refine Below.setCell ?_ ?_ _) | (with_reducible exact Nat.le_refl _) | omega | (simp only [World.size_alloc, World.size_setCell, World.size_drew]; omega) | (simp; omega) | (simp; done))))
  go_enter Tryz.func51, Tryz.ntmps51
  go_upto_region 1 with (fail)
  try rw [hG]
  generalize hw0 : ((w.alloc (.cells SV 24)).alloc (.cells #[.int .i64 lo, .int .i64 hi] 30)) = w0 at Kg Kp B ⊢
  clear hw0 hG
  go_wp2_with fail
  refine (FI.out _ (HP.out.mono B.out)).mono ?_
  rintro e w1 ⟨rfl, hb⟩
  replace Kg := Lib.hid (Kg.out.below hb Kg.out.lt)
  replace Kp := Lib.hid (Kp.out.below hb Kp.out.lt)
  replace B := Lib.hid (B.out.trans (hb.mono B.out.size))
  clear hb FI
  obtain ⟨gk, hgk⟩ : ∃ G, w1.heap.size = G := ⟨_, rfl⟩
  have Kk := Lib.hid (show Blk (w1.alloc (.cells #[.int .i64 f1, .int .i64 f2, .string f3, .int .i64 f4, .int .i64 f5, .int .i64 0] 90)) gk 90 #[.int .i64 f1, .int .i64 f2, .string f3, .int .i64 f4, .int .i64 f5, .int .i64 0] from Blk.new' w1 _ _ _ hgk rfl)
  replace Kg := Lib.hid (Kg.out.alloc (.cells #[.int .i64 f1, .int .i64 f2, .string f3, .int .i64 f4, .int .i64 f5, .int .i64 0] 90))
  replace Kp := Lib.hid (Kp.out.alloc (.cells #[.int .i64 f1, .int .i64 f2, .string f3, .int .i64 f4, .int .i64 f5, .int .i64 0] 90))
  replace B := Lib.hid (B.out.alloc B.out.size (.cells #[.int .i64 f1, .int .i64 f2, .string f3, .int .i64 f4, .int .i64 f5, .int .i64 0] 90))
  go_upto_region 2 with (fail)
  try rw [hgk]
  generalize hw : w1.alloc (.cells #[.int .i64 f1, .int .i64 f2, .string f3, .int .i64 f4, .int .i64 f5, .int .i64 0] 90) = w2 at Kg Kp Kk B ⊢
  clear hw hgk
  obtain ⟨q0, q1, q2, q3, q4, q5⟩ := six Kk.out
  obtain ⟨p0, p1⟩ := twob Kp.out
  go_wp2_with fail
  refine (CO.out _).mono ?_
  rintro e w3 ⟨rfl, hb⟩
  replace Kg := Lib.hid (Kg.out.below hb Kg.out.lt)
  replace Kk := Lib.hid (Kk.out.below hb Kk.out.lt)
  replace B := Lib.hid (B.out.trans (hb.mono B.out.size))
  clear hb Kp q0 q1 q2 q3 q4 p0 p1 CO
  go_upto_region 7 with (fail)
  refine wp_region_held_drew (S := fun W => Blk W gk 90 #[.int .i64 f1, .int .i64 f2, .string f3, .int .i64 f4, .int .i64 f5, .int .i64 0] ∧ Blk W G 24 SV) (by kernel_rfl) ⟨Kk.out.drew, Kg.out.drew⟩ (fun hHeld => ?_)
  replace B := Lib.hid B.out.drew
  generalize w3.drew = w4 at B hHeld ⊢
  refine wpAnyH_take (i := 0) (v := .pointer (some ⟨gk, 0, none⟩)) rfl (by kernel_rfl) (by kernel_rfl) (by kernel_rfl) (fun _ _ _ h => h) (Or.inl ⟨by rfl, fun W hW => by go_simp⟩) (by assumption) ?_
  (try simp only [Act.put, List.getElem_toArray, List.getElem_cons_succ, List.getElem_cons_zero, List.setIfInBounds_toArray, List.set_cons_zero, List.set_cons_succ])
  refine wpAnyH_take (i := 1) (v := .agg #[.int .i64 f1, .int .i64 f2, .string f3, .int .i64 f4, .int .i64 f5]) rfl (by kernel_rfl) (by kernel_rfl) (by kernel_rfl) (fun _ _ _ h => h) (Or.inl ⟨by rfl, fun W hW => (by obtain ⟨q0, q1, q2, q3, q4, q5⟩ := six hW.1; go_simp)⟩) (by assumption) ?_
  (try simp only [Act.put, List.getElem_toArray, List.getElem_cons_succ, List.getElem_cons_zero, List.setIfInBounds_toArray, List.set_cons_zero, List.set_cons_succ])
  refine wpAnyH_take (i := 2) (v := .int .i64 tag) rfl (by kernel_rfl) (by kernel_rfl) (by kernel_rfl) (fun _ _ _ h => h) (Or.inl ⟨by rfl, fun W hW => by go_simp⟩) (by assumption) ?_
  (try simp only [Act.put, List.getElem_toArray, List.getElem_cons_succ, List.getElem_cons_zero, List.setIfInBounds_toArray, List.set_cons_zero, List.set_cons_succ])
  refine wpAnyH_take (i := 3) (v := .slice b n c2) rfl (by kernel_rfl) (by kernel_rfl) (by kernel_rfl) (fun _ _ _ h => h) (Or.inl ⟨by rfl, fun W hW => by go_simp⟩) (by assumption) ?_
  (try simp only [Act.put, List.getElem_toArray, List.getElem_cons_succ, List.getElem_cons_zero, List.setIfInBounds_toArray, List.set_cons_zero, List.set_cons_succ])
  refine wpAnyH_take (i := 5) (v := .agg SV) rfl (by kernel_rfl) (by kernel_rfl) (by kernel_rfl) (fun _ _ _ h => h) (Or.inl ⟨by rfl, fun W hW => exec_load_row 24 _ rfl G rfl 24 SV (0, 0) _ hW.2 Tryz.underlying24 rfl SI.out⟩) (by assumption) ?_
  (try simp only [Act.put, List.getElem_toArray, List.getElem_cons_succ, List.getElem_cons_zero, List.setIfInBounds_toArray, List.set_cons_zero, List.set_cons_succ])
  refine wpAnyH_ready (rs := [4]) (by kernel_rfl) (by simp) (AllReadyH.cons rfl (fun K hK => ?_) AllReadyH.nil)
  go_simp
  refine (HM.out _ (HQ.out.mono B.out) (HLA.out.mono B.out)).mono ?_
  rintro e w5 ⟨rfl, hb⟩
  have hB5 := Lib.hid hb
  replace B := Lib.hid (B.out.trans (hb.mono B.out.size))
  clear hb
  go_wp2_with fail
  refine hK _ _ ⟨hHeld.1.below hB5.out hHeld.1.lt, hHeld.2.below hB5.out hHeld.2.lt⟩ (fun hHeld2 => ?_)
  clear hK K
  (try simp only [Act.put, List.getElem_toArray, List.getElem_cons_succ, List.getElem_cons_zero, List.setIfInBounds_toArray, List.set_cons_zero, List.set_cons_succ])
  refine wpAnyH_take (i := 6) (v := .bool false) rfl (by kernel_rfl) (by kernel_rfl) (by kernel_rfl) (fun _ _ _ h => h) (Or.inl ⟨by rfl, fun W hW => by go_simp⟩) (by assumption) ?_
  (try simp only [Act.put, List.getElem_toArray, List.getElem_cons_succ, List.getElem_cons_zero, List.setIfInBounds_toArray, List.set_cons_zero, List.set_cons_succ])
  refine wpAnyH_done (by kernel_rfl) ?_ _
  go_wp2
  go_ret
  exact ⟨rfl, B.out⟩
theorem rcheck_any (a : Option Addr) (c : Nat) (l : List Rw) (p s tag : Int) (t : Nat) (b : Option Addr) (c2 : Nat) (parts : List ByteArray) (S : List Nat) (lo hi : Int) (w : World) (hp : RwA w a l) (hq : StR w b parts) (ok : RingOk l) (ht : tag % 256 = t) (hf : parts.length ≤ 36 ∧ ∀ x ∈ parts, x.size ≤ 400) (hS : S.length = 16) (hla : Hs.LaidK w) :
    Calls Tryz.prog 51 #[.slice a l.length c, .int .i64 p, .int .i64 s, .int .i64 tag, .slice b parts.length c2, .agg (Hs.bvs S), per lo hi] w fun e w' => e = .returned (.int .i64 (chkE l p s t parts S lo hi)) ∧ Below w.heap.size w w' := by
  by_cases hh : hasC (cR p s) l = true
  · by_cases hc : countsB (findL l p s) lo hi = true
    · by_cases hv : mkS t (findL l p s).2.2.1 parts = S
      · exact rcheck_ok a c l p s tag t b c2 parts S lo hi w hp hq ok ht hf hS hla hh hc hv
      · exact rcheck_seal a c l p s tag t b c2 parts S lo hi w hp hq ok ht hf hS hla hh hc hv
    · exact rcheck_time a c l p s tag t b c2 parts S lo hi w hp hq ok ht hf hS hla hh hc
  · exact rcheck_no a c l p s tag t b c2 parts S lo hi w hp hq ok ht hf hS hla hh
end
end Go.Proofs.YteblnmhaohbkkaaGreatDoor
