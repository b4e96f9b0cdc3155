/- The sanity of chapter 4; the mathematics of rotation (SX, SN, SA, M4 in one text) -/
import Derived.Test.YtcdcnklfcmoiiaaDoorQZA
import Derived.Test.YtcdcnklfcmoiiaaDoorQZB
import Derived.Test.YtcdcnklfcmoiiaaDoorQA
namespace Go.Proofs.YtcdcnklfcmoiiaaDoor
set_option linter.unusedVariables false
set_option linter.unusedSimpArgs false
section
def kS : ByteArray := ⟨#[115]⟩
def kT : ByteArray := ⟨#[116]⟩
def k0 : Rw := (1, 1, kS, 0, 100)
def k1 : Rw := (1, 1, kS, 0, 60)
def k2 : Rw := (1, 2, kT, 50, 1099511627776)
theorem k0_ok : keyOk k0 := by unfold keyOk k0 kS; decide
theorem ring0 : RingOk [] := by decide +kernel
theorem ring1 : RingOk [k0] := by decide +kernel
theorem sv_add1 : addL [] k0 = ([k0], 0) := by decide +kernel
theorem sv_add2 : addL [k0] k0 = ([], 6) := by decide +kernel
theorem sv_add3 : addL [k0] (1, 2, kS, 5, 5) = ([], 1) := by decide +kernel
theorem sv_cur1 : curL [k0] 1 3 99 = (k0, 0) := by decide +kernel
theorem sv_cur2 : curL [k0] 1 3 100 = (r0, 9) := by decide +kernel
theorem sv_cur3 : curL [k0] 2 3 99 = (r0, 5) := by decide +kernel
theorem sv_rot : rotL [k0] 1 kT 50 10 = ([k1, k2], 0) := by decide +kernel
def D0 : List Nat := mkS 43 kS [leaseP 3 7 100 1]
theorem D0_len : D0.length = 16 := rfl
theorem sv_chk1 : chkE [k0] 1 1 43 [leaseP 3 7 100 1] D0 99 99 = 0 := by
  unfold chkE D0
  rw [if_pos (by decide +kernel), if_pos (by decide +kernel), if_pos (by rw [show (findL [k0] 1 1).2.2.1 = kS by decide +kernel])]
theorem sv_chk3 : chkE [k0] 1 1 43 [leaseP 3 7 101 1] D0 100 100 = 9 := by
  unfold chkE
  rw [if_pos (by decide +kernel), if_neg (by decide +kernel)]
theorem sv_chk2 : chkE [k0] 1 1 43 [leaseP 3 8 100 1] D0 99 99 = 8 := by
  unfold chkE
  rw [if_pos (by decide +kernel), if_pos (by decide +kernel), if_neg (by rw [show (findL [k0] 1 1).2.2.1 = kS by decide +kernel]; unfold D0; decide +kernel)]
end
section
open Go.RowKit Go.Sort
theorem sn_add1 (X : World) : Calls Tryd.prog 13 #[.slice none 0 0, .agg #[.int .i64 1, .int .i64 1, .string ⟨#[115]⟩, .int .i64 0, .int .i64 100]] X fun e w' => (∃ a' c', e = .returned (.tuple #[.slice a' 1 c', .int .i64 0]) ∧ RwA w' a' [k0]) ∧ Below X.heap.size X w' := by
  have h := add_any none 0 [] k0 X (RowsA.nil _ _ _ _) ring0
  rw [sv_add1] at h
  exact h
theorem sn_add2 (a : Option Addr) (c : Nat) (X : World) (h : RwA X a [k0]) : Calls Tryd.prog 13 #[.slice a 1 c, .agg #[.int .i64 1, .int .i64 1, .string ⟨#[115]⟩, .int .i64 0, .int .i64 100]] X fun e w' => (∃ a' c', e = .returned (.tuple #[.slice a' 0 c', .int .i64 6])) ∧ Below X.heap.size X w' := by
  have h := add_any a c [k0] k0 X h ring1
  rw [sv_add2] at h
  exact h.mono fun e w' ⟨⟨a', c', e1, _⟩, hb⟩ => ⟨⟨a', c', e1⟩, hb⟩
theorem sn_add3 (a : Option Addr) (c : Nat) (X : World) (h : RwA X a [k0]) : Calls Tryd.prog 13 #[.slice a 1 c, .agg #[.int .i64 1, .int .i64 2, .string ⟨#[115]⟩, .int .i64 5, .int .i64 5]] X fun e w' => (∃ a' c', e = .returned (.tuple #[.slice a' 0 c', .int .i64 1])) ∧ Below X.heap.size X w' := by
  have h := add_any a c [k0] (1, 2, kS, 5, 5) X h ring1
  rw [sv_add3] at h
  exact h.mono fun e w' ⟨⟨a', c', e1, _⟩, hb⟩ => ⟨⟨a', c', e1⟩, hb⟩
theorem sn_cur1 (a : Option Addr) (c : Nat) (X : World) (h : RwA X a [k0]) : Calls Tryd.prog 18 #[.slice a 1 c, .int .i64 1, .agg #[.int .i64 3, .int .i64 99]] X fun e w' => e = .returned (.tuple #[.agg #[.int .i64 1, .int .i64 1, .string ⟨#[115]⟩, .int .i64 0, .int .i64 100], .int .i64 0]) ∧ Below X.heap.size X w' := by
  have h := cur_any a c [k0] 1 3 99 X h ring1
  rw [sv_cur1] at h
  exact h
theorem sn_cur2 (a : Option Addr) (c : Nat) (X : World) (h : RwA X a [k0]) : Calls Tryd.prog 18 #[.slice a 1 c, .int .i64 1, .agg #[.int .i64 3, .int .i64 100]] X fun e w' => e = .returned (.tuple #[.agg #[.int .i64 0, .int .i64 0, .string ⟨#[]⟩, .int .i64 0, .int .i64 0], .int .i64 9]) ∧ Below X.heap.size X w' := by
  have h := cur_any a c [k0] 1 3 100 X h ring1
  rw [sv_cur2] at h
  exact h
theorem sn_cur3 (a : Option Addr) (c : Nat) (X : World) (h : RwA X a [k0]) : Calls Tryd.prog 18 #[.slice a 1 c, .int .i64 2, .agg #[.int .i64 3, .int .i64 99]] X fun e w' => e = .returned (.tuple #[.agg #[.int .i64 0, .int .i64 0, .string ⟨#[]⟩, .int .i64 0, .int .i64 0], .int .i64 5]) ∧ Below X.heap.size X w' := by
  have h := cur_any a c [k0] 2 3 99 X h ring1
  rw [sv_cur3] at h
  exact h
def Two (W : World) (b off : Nat) : Prop := W.cell? (⟨b, off + 4, none⟩ : Addr) = some (.int .i64 60) ∧ W.cell? (⟨b, off + 5, none⟩ : Addr) = some (.int .i64 1) ∧ W.cell? (⟨b, off + 6, none⟩ : Addr) = some (.int .i64 2) ∧ W.cell? (⟨b, off + 7, none⟩ : Addr) = some (.string ⟨#[116]⟩) ∧ W.cell? (⟨b, off + 8, none⟩ : Addr) = some (.int .i64 50) ∧ W.cell? (⟨b, off + 9, none⟩ : Addr) = some (.int .i64 1099511627776)
theorem Two.mono {W W' : World} {b off : Nat} (h : Two W b off) (hb : Below W.heap.size W W') : Two W' b off := by
  obtain ⟨h0, h1, h2, h3, h4, h5⟩ := h
  exact ⟨keep h0 hb, keep h1 hb, keep h2 hb, keep h3 hb, keep h4 hb, keep h5 hb⟩
theorem sn_rot (a : Option Addr) (c : Nat) (X : World) (h : RwA X a [k0]) : Calls Tryd.prog 20 #[.slice a 1 c, .int .i64 1, .string ⟨#[116]⟩, .int .i64 50, .int .i64 10] X fun e w' => (∃ b off c', e = .returned (.tuple #[.slice (some ⟨b, off, none⟩) 2 c', .int .i64 0]) ∧ Two w' b off) ∧ Below X.heap.size X w' := by
  have h := rot_any a c [k0] 1 kT 50 10 X h ring1
  rw [sv_rot] at h
  refine h.mono fun e w' ⟨⟨a', c', e1, h1⟩, hb⟩ => ⟨?_, hb⟩
  obtain ⟨b, off, e2, q⟩ := h1 0 k1 rfl
  obtain ⟨b', off', e3, q'⟩ := h1 1 k2 rfl
  subst e2
  cases e3
  have g0 := q 4 _ rfl
  have g1 := q' 0 _ rfl
  have g2 := q' 1 _ rfl
  have g3 := q' 2 _ rfl
  have g4 := q' 3 _ rfl
  have g5 := q' 4 _ rfl
  simp only [Nat.zero_mul, Nat.one_mul, Nat.add_zero, Nat.add_assoc, Nat.reduceAdd] at g0 g1 g2 g3 g4 g5
  exact ⟨b, off, c', e1, g0, g1, g2, g3, g4, g5⟩
theorem sn_seal (X : World) (hla : Hs.LaidC X) : Calls Tryd.prog 43 #[.agg #[.int .i64 1, .int .i64 1, .string ⟨#[115]⟩, .int .i64 0, .int .i64 100], .agg #[.int .i64 3, .int .i64 7, .int .i64 100, .int .i64 0, .int .u8 0, .int .u8 0, .int .u8 0, .int .u8 0, .int .u8 0, .int .u8 0, .int .u8 0, .int .u8 0, .int .u8 0, .int .u8 0, .int .u8 0, .int .u8 0, .int .u8 0, .int .u8 0, .int .u8 0, .int .u8 0]] X fun e w' => e = .returned (.agg (leaseC 3 7 100 1 D0)) ∧ Below X.heap.size X w' :=
  sealLease_any k0 3 7 100 0 [0, 0, 0, 0, 0, 0, 0, 0, 0, 0, 0, 0, 0, 0, 0, 0] X rfl (by unfold i64Ok; decide) (by unfold i64Ok; decide) (by unfold i64Ok; decide) (by unfold i64Ok k0; decide) (by decide) hla
theorem sn_chk1 (a : Option Addr) (c : Nat) (X : World) (h : RwA X a [k0]) (hla : Hs.LaidC X) : Calls Tryd.prog 51 #[.slice a 1 c, .agg (leaseC 3 7 100 1 D0)] X fun e w' => e = .returned (.int .i64 0) ∧ Below X.heap.size X w' := by
  have h := checkLease_any a c [k0] 3 7 100 1 D0 X h ring1 D0_len (by decide) (by unfold i64Ok; decide) (by unfold i64Ok; decide) (by unfold i64Ok; decide) (by unfold i64Ok; decide) hla
  rw [show (100 - 1 : Int) = 99 from rfl, sv_chk1] at h
  exact h
theorem sn_chk2 (a : Option Addr) (c : Nat) (X : World) (h : RwA X a [k0]) (hla : Hs.LaidC X) : Calls Tryd.prog 51 #[.slice a 1 c, .agg (leaseC 3 8 100 1 D0)] X fun e w' => e = .returned (.int .i64 8) ∧ Below X.heap.size X w' := by
  have h := checkLease_any a c [k0] 3 8 100 1 D0 X h ring1 D0_len (by decide) (by unfold i64Ok; decide) (by unfold i64Ok; decide) (by unfold i64Ok; decide) (by unfold i64Ok; decide) hla
  rw [show (100 - 1 : Int) = 99 from rfl, sv_chk2] at h
  exact h
theorem sn_chk3 (a : Option Addr) (c : Nat) (X : World) (h : RwA X a [k0]) (hla : Hs.LaidC X) : Calls Tryd.prog 51 #[.slice a 1 c, .agg (leaseC 3 7 101 1 D0)] X fun e w' => e = .returned (.int .i64 9) ∧ Below X.heap.size X w' := by
  have h := checkLease_any a c [k0] 3 7 101 1 D0 X h ring1 D0_len (by decide) (by unfold i64Ok; decide) (by unfold i64Ok; decide) (by unfold i64Ok; decide) (by unfold i64Ok; decide) hla
  rw [show (101 - 1 : Int) = 100 from rfl, sv_chk3] at h
  exact h
end
section
open Go.RowKit Go.Sort
theorem wpList_load_want {P : Program} {a : Act} {w : World} {op : Oper} {Q : Exit → Act → World → Prop} {ops : Array Oper} {rest : List Oper} (hw : Region.wanted op (yielded ops a.tmps) = true) (ty : TypeId) (x : Operand) (ho : op.op = .load ty x) (g : Nat) (hx : a.eval x = .pointer (some ⟨g, 0, none⟩)) (t : TypeId) (cs : Array Value) (d : TypeDesc)
    (hg : Blk w g t cs) (hu : P.underlying ty = some d) (hd : (match d with | .struct _ | .array _ _ => true | _ => false) = true) (hi : (P.info? ty).map (·.size) = some cs.size) (h : wpList P ops Q rest (a.put op.dst (.agg cs)) w) : wpList P ops Q (op :: rest) a w :=
  BigFrame.wpList_want hw fun _ hK => wp_load_row ty x ho g hx t cs d hg hu hd hi (hK _ _ h)
set_option maxRecDepth 100000 in
set_option maxHeartbeats 1000000 in
theorem sanity_any (w : World) (hla : Hs.LaidC w) : Calls Tryd.prog 12 #[] w fun e w' => e = .returned (.bool true) ∧ Below w.heap.size w w' := by
  have HLA := Lib.hid hla
  clear hla
  go_enter Tryd.func12, Tryd.ntmps12
  have B := Lib.hid (Below.refl w.heap.size w)
  obtain ⟨gk, hgk⟩ : ∃ G, w.heap.size = G := ⟨_, rfl⟩
  have Kk := Lib.hid (show Blk (w.alloc (.cells #[.int .i64 1, .int .i64 1, .string ⟨#[115]⟩, .int .i64 0, .int .i64 100] 24)) gk 24 #[.int .i64 1, .int .i64 1, .string ⟨#[115]⟩, .int .i64 0, .int .i64 100] from Blk.new' w _ _ _ hgk rfl)
  have Lk := Lib.hid (show w.heap.size ≤ gk from by rw [← hgk]; exact B.out.size)
  replace B := Lib.hid (B.out.alloc B.out.size (.cells #[.int .i64 1, .int .i64 1, .string ⟨#[115]⟩, .int .i64 0, .int .i64 100] 24))
  go_upto_region 2 with (fail)
  try rw [hgk]
  generalize hw : w.alloc (.cells #[.int .i64 1, .int .i64 1, .string ⟨#[115]⟩, .int .i64 0, .int .i64 100] 24) = w1 at Kk  B ⊢
  clear hw hgk
  obtain ⟨bkc0, bkc1, bkc2, bkc3, bkc4⟩ := five Kk.out
  go_wp2_with fail
  refine (sn_add1 _).mono ?_
  rintro e w2 ⟨⟨a1, c1, rfl, hr⟩, hb⟩
  have R1 := Lib.hid hr
  replace Kk := Lib.hid (Kk.out.below hb Kk.out.lt)
  replace B := Lib.hid (B.out.trans (hb.mono B.out.size))
  clear bkc0 bkc1 bkc2 bkc3 bkc4
  clear hb hr
  obtain ⟨bkc0, bkc1, bkc2, bkc3, bkc4⟩ := five Kk.out
  go_wp2_with fail
  refine (sn_add2 a1 c1 _ R1.out).mono ?_
  rintro e w3 ⟨⟨a2, c2, rfl⟩, hb⟩
  replace Kk := Lib.hid (Kk.out.below hb Kk.out.lt)
  replace R1 := Lib.hid (R1.out.mono hb)
  replace B := Lib.hid (B.out.trans (hb.mono B.out.size))
  clear bkc0 bkc1 bkc2 bkc3 bkc4
  clear hb
  obtain ⟨bkc0, bkc1, bkc2, bkc3, bkc4⟩ := five Kk.out
  go_wp2_with fail
  refine (sn_add3 a1 c1 _ R1.out).mono ?_
  rintro e w4 ⟨⟨a3, c3, rfl⟩, hb⟩
  replace Kk := Lib.hid (Kk.out.below hb Kk.out.lt)
  replace R1 := Lib.hid (R1.out.mono hb)
  replace B := Lib.hid (B.out.trans (hb.mono B.out.size))
  clear bkc0 bkc1 bkc2 bkc3 bkc4
  clear hb
  obtain ⟨bkc0, bkc1, bkc2, bkc3, bkc4⟩ := five Kk.out
  go_wp2_with fail
  refine (sn_cur1 a1 c1 _ R1.out).mono ?_
  rintro e w5 ⟨rfl, hb⟩
  replace Kk := Lib.hid (Kk.out.below hb Kk.out.lt)
  replace R1 := Lib.hid (R1.out.mono hb)
  replace B := Lib.hid (B.out.trans (hb.mono B.out.size))
  clear bkc0 bkc1 bkc2 bkc3 bkc4
  clear hb
  obtain ⟨bkc0, bkc1, bkc2, bkc3, bkc4⟩ := five Kk.out
  obtain ⟨gc, hgc⟩ : ∃ G, w5.heap.size = G := ⟨_, rfl⟩
  have Kc := Lib.hid (show Blk (w5.alloc (.cells #[.int .i64 1, .int .i64 1, .string ⟨#[115]⟩, .int .i64 0, .int .i64 100] 24)) gc 24 #[.int .i64 1, .int .i64 1, .string ⟨#[115]⟩, .int .i64 0, .int .i64 100] from Blk.new' w5 _ _ _ hgc rfl)
  have Nkc := Lib.hid (show gk < gc from by rw [← hgc]; exact Kk.out.lt)
  replace Kk := Lib.hid (Kk.out.alloc (.cells #[.int .i64 1, .int .i64 1, .string ⟨#[115]⟩, .int .i64 0, .int .i64 100] 24))
  replace R1 := Lib.hid (R1.out.mono ((Below.refl _ w5).alloc (Nat.le_refl _) (.cells #[.int .i64 1, .int .i64 1, .string ⟨#[115]⟩, .int .i64 0, .int .i64 100] 24)))
  have Lc := Lib.hid (show w.heap.size ≤ gc from by rw [← hgc]; exact B.out.size)
  replace B := Lib.hid (B.out.alloc B.out.size (.cells #[.int .i64 1, .int .i64 1, .string ⟨#[115]⟩, .int .i64 0, .int .i64 100] 24))
  go_upto_region 8 with (fail)
  try rw [hgc]
  generalize hw : w5.alloc (.cells #[.int .i64 1, .int .i64 1, .string ⟨#[115]⟩, .int .i64 0, .int .i64 100] 24) = w6 at Kk Kc R1 B ⊢
  clear bkc0 bkc1 bkc2 bkc3 bkc4
  clear hw hgc
  obtain ⟨bkc0, bkc1, bkc2, bkc3, bkc4⟩ := five Kk.out
  obtain ⟨bcc0, bcc1, bcc2, bcc3, bcc4⟩ := five Kc.out
  go_wp2_with fail
  refine (sn_cur2 a1 c1 _ R1.out).mono ?_
  rintro e w7 ⟨rfl, hb⟩
  replace Kk := Lib.hid (Kk.out.below hb Kk.out.lt)
  replace Kc := Lib.hid (Kc.out.below hb Kc.out.lt)
  replace R1 := Lib.hid (R1.out.mono hb)
  replace B := Lib.hid (B.out.trans (hb.mono B.out.size))
  clear bkc0 bkc1 bkc2 bkc3 bkc4 bcc0 bcc1 bcc2 bcc3 bcc4
  clear hb
  obtain ⟨bkc0, bkc1, bkc2, bkc3, bkc4⟩ := five Kk.out
  obtain ⟨bcc0, bcc1, bcc2, bcc3, bcc4⟩ := five Kc.out
  obtain ⟨gd, hgd⟩ : ∃ G, w7.heap.size = G := ⟨_, rfl⟩
  have Kd := Lib.hid (show Blk (w7.alloc (.cells #[.int .i64 0, .int .i64 0, .string ⟨#[]⟩, .int .i64 0, .int .i64 0] 24)) gd 24 #[.int .i64 0, .int .i64 0, .string ⟨#[]⟩, .int .i64 0, .int .i64 0] from Blk.new' w7 _ _ _ hgd rfl)
  have Nkd := Lib.hid (show gk < gd from by rw [← hgd]; exact Kk.out.lt)
  replace Kk := Lib.hid (Kk.out.alloc (.cells #[.int .i64 0, .int .i64 0, .string ⟨#[]⟩, .int .i64 0, .int .i64 0] 24))
  have Ncd := Lib.hid (show gc < gd from by rw [← hgd]; exact Kc.out.lt)
  replace Kc := Lib.hid (Kc.out.alloc (.cells #[.int .i64 0, .int .i64 0, .string ⟨#[]⟩, .int .i64 0, .int .i64 0] 24))
  replace R1 := Lib.hid (R1.out.mono ((Below.refl _ w7).alloc (Nat.le_refl _) (.cells #[.int .i64 0, .int .i64 0, .string ⟨#[]⟩, .int .i64 0, .int .i64 0] 24)))
  have Ld := Lib.hid (show w.heap.size ≤ gd from by rw [← hgd]; exact B.out.size)
  replace B := Lib.hid (B.out.alloc B.out.size (.cells #[.int .i64 0, .int .i64 0, .string ⟨#[]⟩, .int .i64 0, .int .i64 0] 24))
  go_upto_region 9 with (fail)
  try rw [hgd]
  generalize hw : w7.alloc (.cells #[.int .i64 0, .int .i64 0, .string ⟨#[]⟩, .int .i64 0, .int .i64 0] 24) = w8 at Kk Kc Kd R1 B ⊢
  clear bkc0 bkc1 bkc2 bkc3 bkc4 bcc0 bcc1 bcc2 bcc3 bcc4
  clear hw hgd
  obtain ⟨bkc0, bkc1, bkc2, bkc3, bkc4⟩ := five Kk.out
  obtain ⟨bcc0, bcc1, bcc2, bcc3, bcc4⟩ := five Kc.out
  obtain ⟨bdc0, bdc1, bdc2, bdc3, bdc4⟩ := five Kd.out
  go_wp2_with fail
  refine (sn_cur3 a1 c1 _ R1.out).mono ?_
  rintro e w9 ⟨rfl, hb⟩
  replace Kk := Lib.hid (Kk.out.below hb Kk.out.lt)
  replace Kc := Lib.hid (Kc.out.below hb Kc.out.lt)
  replace Kd := Lib.hid (Kd.out.below hb Kd.out.lt)
  replace R1 := Lib.hid (R1.out.mono hb)
  replace B := Lib.hid (B.out.trans (hb.mono B.out.size))
  clear bkc0 bkc1 bkc2 bkc3 bkc4 bcc0 bcc1 bcc2 bcc3 bcc4 bdc0 bdc1 bdc2 bdc3 bdc4
  clear hb
  obtain ⟨bkc0, bkc1, bkc2, bkc3, bkc4⟩ := five Kk.out
  obtain ⟨bcc0, bcc1, bcc2, bcc3, bcc4⟩ := five Kc.out
  obtain ⟨bdc0, bdc1, bdc2, bdc3, bdc4⟩ := five Kd.out
  obtain ⟨ge, hge⟩ : ∃ G, w9.heap.size = G := ⟨_, rfl⟩
  have Ke := Lib.hid (show Blk (w9.alloc (.cells #[.int .i64 0, .int .i64 0, .string ⟨#[]⟩, .int .i64 0, .int .i64 0] 24)) ge 24 #[.int .i64 0, .int .i64 0, .string ⟨#[]⟩, .int .i64 0, .int .i64 0] from Blk.new' w9 _ _ _ hge rfl)
  have Nke := Lib.hid (show gk < ge from by rw [← hge]; exact Kk.out.lt)
  replace Kk := Lib.hid (Kk.out.alloc (.cells #[.int .i64 0, .int .i64 0, .string ⟨#[]⟩, .int .i64 0, .int .i64 0] 24))
  have Nce := Lib.hid (show gc < ge from by rw [← hge]; exact Kc.out.lt)
  replace Kc := Lib.hid (Kc.out.alloc (.cells #[.int .i64 0, .int .i64 0, .string ⟨#[]⟩, .int .i64 0, .int .i64 0] 24))
  have Nde := Lib.hid (show gd < ge from by rw [← hge]; exact Kd.out.lt)
  replace Kd := Lib.hid (Kd.out.alloc (.cells #[.int .i64 0, .int .i64 0, .string ⟨#[]⟩, .int .i64 0, .int .i64 0] 24))
  replace R1 := Lib.hid (R1.out.mono ((Below.refl _ w9).alloc (Nat.le_refl _) (.cells #[.int .i64 0, .int .i64 0, .string ⟨#[]⟩, .int .i64 0, .int .i64 0] 24)))
  have Le := Lib.hid (show w.heap.size ≤ ge from by rw [← hge]; exact B.out.size)
  replace B := Lib.hid (B.out.alloc B.out.size (.cells #[.int .i64 0, .int .i64 0, .string ⟨#[]⟩, .int .i64 0, .int .i64 0] 24))
  go_upto_region 10 with (fail)
  try rw [hge]
  generalize hw : w9.alloc (.cells #[.int .i64 0, .int .i64 0, .string ⟨#[]⟩, .int .i64 0, .int .i64 0] 24) = w10 at Kk Kc Kd Ke R1 B ⊢
  clear bkc0 bkc1 bkc2 bkc3 bkc4 bcc0 bcc1 bcc2 bcc3 bcc4 bdc0 bdc1 bdc2 bdc3 bdc4
  clear hw hge
  obtain ⟨bkc0, bkc1, bkc2, bkc3, bkc4⟩ := five Kk.out
  obtain ⟨bcc0, bcc1, bcc2, bcc3, bcc4⟩ := five Kc.out
  obtain ⟨bdc0, bdc1, bdc2, bdc3, bdc4⟩ := five Kd.out
  obtain ⟨bec0, bec1, bec2, bec3, bec4⟩ := five Ke.out
  go_wp2_with fail
  refine (sn_rot a1 c1 _ R1.out).mono ?_
  rintro e w11 ⟨⟨b4, o4, c4, rfl, h2⟩, hb⟩
  have R2 := Lib.hid h2
  replace Kk := Lib.hid (Kk.out.below hb Kk.out.lt)
  replace Kc := Lib.hid (Kc.out.below hb Kc.out.lt)
  replace Kd := Lib.hid (Kd.out.below hb Kd.out.lt)
  replace Ke := Lib.hid (Ke.out.below hb Ke.out.lt)
  replace R1 := Lib.hid (R1.out.mono hb)
  replace B := Lib.hid (B.out.trans (hb.mono B.out.size))
  clear bkc0 bkc1 bkc2 bkc3 bkc4 bcc0 bcc1 bcc2 bcc3 bcc4 bdc0 bdc1 bdc2 bdc3 bdc4 bec0 bec1 bec2 bec3 bec4
  clear hb h2
  obtain ⟨bkc0, bkc1, bkc2, bkc3, bkc4⟩ := five Kk.out
  obtain ⟨bcc0, bcc1, bcc2, bcc3, bcc4⟩ := five Kc.out
  obtain ⟨bdc0, bdc1, bdc2, bdc3, bdc4⟩ := five Kd.out
  obtain ⟨bec0, bec1, bec2, bec3, bec4⟩ := five Ke.out
  obtain ⟨q0, q1, q2, q3, q4, q5⟩ := R2.out
  go_wp2_with fail
  refine (sn_seal _ (HLA.out.below B.out)).mono ?_
  rintro e w12 ⟨rfl, hb⟩
  replace R1 := Lib.hid (R1.out.mono hb)
  replace B := Lib.hid (B.out.trans (hb.mono B.out.size))
  clear bkc0 bkc1 bkc2 bkc3 bkc4 bcc0 bcc1 bcc2 bcc3 bcc4 bdc0 bdc1 bdc2 bdc3 bdc4 bec0 bec1 bec2 bec3 bec4
  clear hb q0 q1 q2 q3 q4 q5 R2 Kk Kc Kd Ke Nkc Nkd Nke Ncd Nce Nde Lk Lc Ld Le
  have LJ := Lib.hid (show (Tryd.prog.info? 64).map (·.size) = some (leaseC 3 7 100 1 D0).size by rw [lease_size _ _ _ _ _ D0_len]; kernel_rfl)
  have LS := Lib.hid (show (#[.int .i64 0, .int .i64 0, .int .i64 0, .int .i64 0, .int .u8 0, .int .u8 0, .int .u8 0, .int .u8 0, .int .u8 0, .int .u8 0, .int .u8 0, .int .u8 0, .int .u8 0, .int .u8 0, .int .u8 0, .int .u8 0, .int .u8 0, .int .u8 0, .int .u8 0, .int .u8 0] : Array Value).size = (leaseC 3 7 100 1 D0).size by rw [lease_size _ _ _ _ _ D0_len]; rfl)
  have LO := Lib.hid (lease_one 3 7 100 1 D0)
  obtain ⟨gl, hgl⟩ : ∃ G, w12.heap.size = G := ⟨_, rfl⟩
  have Kz := Lib.hid (show Hs.Blk (w12.alloc (.cells #[.int .i64 0, .int .i64 0, .int .i64 0, .int .i64 0, .int .u8 0, .int .u8 0, .int .u8 0, .int .u8 0, .int .u8 0, .int .u8 0, .int .u8 0, .int .u8 0, .int .u8 0, .int .u8 0, .int .u8 0, .int .u8 0, .int .u8 0, .int .u8 0, .int .u8 0, .int .u8 0] 64)) gl 64 #[.int .i64 0, .int .i64 0, .int .i64 0, .int .i64 0, .int .u8 0, .int .u8 0, .int .u8 0, .int .u8 0, .int .u8 0, .int .u8 0, .int .u8 0, .int .u8 0, .int .u8 0, .int .u8 0, .int .u8 0, .int .u8 0, .int .u8 0, .int .u8 0, .int .u8 0, .int .u8 0] from Blk.new' w12 _ _ _ hgl rfl)
  go_wp2_with (first | (with_reducible refine Hs.wpList_store_blk rfl 64 _ _ rfl gl 64 _ (leaseC 3 7 100 1 D0) rfl rfl Kz.out LJ.out LS.out LO.out rfl ?_) | (rw [hgl]; with_reducible refine Hs.wpList_store_blk rfl 64 _ _ rfl gl 64 _ (leaseC 3 7 100 1 D0) rfl rfl Kz.out LJ.out LS.out LO.out rfl ?_))
  have hb : Below w12.heap.size w12 ((w12.alloc (.cells #[.int .i64 0, .int .i64 0, .int .i64 0, .int .i64 0, .int .u8 0, .int .u8 0, .int .u8 0, .int .u8 0, .int .u8 0, .int .u8 0, .int .u8 0, .int .u8 0, .int .u8 0, .int .u8 0, .int .u8 0, .int .u8 0, .int .u8 0, .int .u8 0, .int .u8 0, .int .u8 0] 64)).setRow gl (leaseC 3 7 100 1 D0)) := below_setRow ((Below.refl _ w12).alloc (Nat.le_refl _) _) (Nat.le_of_eq hgl) _
  have Kl := Lib.hid (show Blk ((w12.alloc (.cells #[.int .i64 0, .int .i64 0, .int .i64 0, .int .i64 0, .int .u8 0, .int .u8 0, .int .u8 0, .int .u8 0, .int .u8 0, .int .u8 0, .int .u8 0, .int .u8 0, .int .u8 0, .int .u8 0, .int .u8 0, .int .u8 0, .int .u8 0, .int .u8 0, .int .u8 0, .int .u8 0] 64)).setRow gl (leaseC 3 7 100 1 D0)) gl 64 (leaseC 3 7 100 1 D0) from Kz.out.row_ _)
  replace R1 := Lib.hid (R1.out.mono hb)
  replace B := Lib.hid (B.out.trans (hb.mono B.out.size))
  clear hb
  generalize ((w12.alloc (.cells #[.int .i64 0, .int .i64 0, .int .i64 0, .int .i64 0, .int .u8 0, .int .u8 0, .int .u8 0, .int .u8 0, .int .u8 0, .int .u8 0, .int .u8 0, .int .u8 0, .int .u8 0, .int .u8 0, .int .u8 0, .int .u8 0, .int .u8 0, .int .u8 0, .int .u8 0, .int .u8 0] 64)).setRow gl (leaseC 3 7 100 1 D0)) = w13 at Kl R1 B ⊢
  clear Kz hgl
  refine wp_region_held_drew (S := fun W => Blk W gl 64 (leaseC 3 7 100 1 D0)) (by kernel_rfl) Kl.out.drew (fun hHeld => ?_)
  replace R1 := Lib.hid (R1.out.mono ((Below.refl _ w13).drew))
  replace B := Lib.hid B.out.drew
  clear Kl
  generalize w13.drew = w14 at R1 B hHeld ⊢
  have Kl := Lib.hid hHeld
  refine wpAnyH_take (i := 0) (v := .agg (leaseC 3 7 100 1 D0)) rfl (by kernel_rfl) (by kernel_rfl) (by kernel_rfl) (fun _ _ _ h => h) (Or.inl ⟨by rfl, fun W hW => exec_load_row 64 _ rfl gl rfl 64 (leaseC 3 7 100 1 D0) (0, 0) _ hW Tryd.underlying64 rfl LJ.out⟩) (by assumption) ?_
  (try simp only [Act.put, List.getElem_toArray, List.getElem_cons_succ, List.getElem_cons_zero, List.setIfInBounds_toArray, List.set_cons_zero, List.set_cons_succ])
  refine wpAnyH_take (i := 1) (v := .agg (leaseC 3 7 100 1 D0)) rfl (by kernel_rfl) (by kernel_rfl) (by kernel_rfl) (fun _ _ _ h => h) (Or.inl ⟨by rfl, fun W hW => exec_load_row 64 _ rfl gl rfl 64 (leaseC 3 7 100 1 D0) (0, 0) _ hW Tryd.underlying64 rfl LJ.out⟩) (by assumption) ?_
  (try simp only [Act.put, List.getElem_toArray, List.getElem_cons_succ, List.getElem_cons_zero, List.setIfInBounds_toArray, List.set_cons_zero, List.set_cons_succ])
  obtain ⟨G, hG⟩ : ∃ G, w14.heap.size = G := ⟨_, rfl⟩
  have NG := Lib.hid (show gl < G from by rw [← hG]; exact Kl.out.lt)
  refine wpAnyH_ready (rs := [2, 3]) (by kernel_rfl) (by simp) (AllReadyH.cons rfl (fun K hK => ?_) (AllReadyH.cons rfl (fun K hK => ?_) AllReadyH.nil))
  · go_simp
    try rw [hG]
    refine hK _ _ (Kl.out.alloc _) (fun hHeld1 => ?_)
    clear hK K
    (try simp only [Act.put, List.getElem_toArray, List.getElem_cons_succ, List.getElem_cons_zero, List.setIfInBounds_toArray, List.set_cons_zero, List.set_cons_succ])
    have hG2 : (w14.alloc (.cells #[.int .i64 0, .int .i64 0, .int .i64 0, .int .i64 0, .int .u8 0, .int .u8 0, .int .u8 0, .int .u8 0, .int .u8 0, .int .u8 0, .int .u8 0, .int .u8 0, .int .u8 0, .int .u8 0, .int .u8 0, .int .u8 0, .int .u8 0, .int .u8 0, .int .u8 0, .int .u8 0] 64)).heap.size = G + 1 := by rw [World.size_alloc, hG]
    refine wpAnyH_ready (rs := [3]) (by kernel_rfl) (by simp) (AllReadyH.cons rfl (fun K hK => ?_) AllReadyH.nil)
    go_simp
    try rw [hG2]
    try rw [hG]
    refine hK _ _ ((Kl.out.alloc _).alloc _) (fun hHeld2 => ?_)
    clear hK K
    (try simp only [Act.put, List.getElem_toArray, List.getElem_cons_succ, List.getElem_cons_zero, List.setIfInBounds_toArray, List.set_cons_zero, List.set_cons_succ])
    have Z1 : Blk ((w14.alloc (.cells #[.int .i64 0, .int .i64 0, .int .i64 0, .int .i64 0, .int .u8 0, .int .u8 0, .int .u8 0, .int .u8 0, .int .u8 0, .int .u8 0, .int .u8 0, .int .u8 0, .int .u8 0, .int .u8 0, .int .u8 0, .int .u8 0, .int .u8 0, .int .u8 0, .int .u8 0, .int .u8 0] 64)).alloc (.cells #[.int .i64 0, .int .i64 0, .int .i64 0, .int .i64 0, .int .u8 0, .int .u8 0, .int .u8 0, .int .u8 0, .int .u8 0, .int .u8 0, .int .u8 0, .int .u8 0, .int .u8 0, .int .u8 0, .int .u8 0, .int .u8 0, .int .u8 0, .int .u8 0, .int .u8 0, .int .u8 0] 64)) G 64 #[.int .i64 0, .int .i64 0, .int .i64 0, .int .i64 0, .int .u8 0, .int .u8 0, .int .u8 0, .int .u8 0, .int .u8 0, .int .u8 0, .int .u8 0, .int .u8 0, .int .u8 0, .int .u8 0, .int .u8 0, .int .u8 0, .int .u8 0, .int .u8 0, .int .u8 0, .int .u8 0] := (Blk.new' w14 _ _ _ hG rfl).alloc _
    have Z2 : Blk ((w14.alloc (.cells #[.int .i64 0, .int .i64 0, .int .i64 0, .int .i64 0, .int .u8 0, .int .u8 0, .int .u8 0, .int .u8 0, .int .u8 0, .int .u8 0, .int .u8 0, .int .u8 0, .int .u8 0, .int .u8 0, .int .u8 0, .int .u8 0, .int .u8 0, .int .u8 0, .int .u8 0, .int .u8 0] 64)).alloc (.cells #[.int .i64 0, .int .i64 0, .int .i64 0, .int .i64 0, .int .u8 0, .int .u8 0, .int .u8 0, .int .u8 0, .int .u8 0, .int .u8 0, .int .u8 0, .int .u8 0, .int .u8 0, .int .u8 0, .int .u8 0, .int .u8 0, .int .u8 0, .int .u8 0, .int .u8 0, .int .u8 0] 64)) (G + 1) 64 #[.int .i64 0, .int .i64 0, .int .i64 0, .int .i64 0, .int .u8 0, .int .u8 0, .int .u8 0, .int .u8 0, .int .u8 0, .int .u8 0, .int .u8 0, .int .u8 0, .int .u8 0, .int .u8 0, .int .u8 0, .int .u8 0, .int .u8 0, .int .u8 0, .int .u8 0, .int .u8 0] := Blk.new' _ _ _ _ hG2 rfl
    refine wpAnyH_ready (rs := [4]) (by kernel_rfl) (by simp) (AllReadyH.cons rfl (fun K hK => ?_) AllReadyH.nil)
    rw [if_pos (by rfl)]
    refine wp_store_row 64 _ _ rfl G (leaseC 3 7 100 1 D0) rfl rfl 64 _ Z1 LJ.out LS.out LO.out ?_
    refine hK _ _ (((Kl.out.alloc _).alloc _).rowfar (by have := NG.out; omega) _) (fun hHeld3 => ?_)
    clear hK K
    (try simp only [Act.put, List.getElem_toArray, List.getElem_cons_succ, List.getElem_cons_zero, List.setIfInBounds_toArray, List.set_cons_zero, List.set_cons_succ])
    refine wpAnyH_ready (rs := [5]) (by kernel_rfl) (by simp) (AllReadyH.cons rfl (fun K hK => ?_) AllReadyH.nil)
    rw [if_pos (by rfl)]
    refine wp_store_row 64 _ _ rfl (G + 1) (leaseC 3 7 100 1 D0) rfl rfl 64 _ (Z2.rowfar (by omega) _) LJ.out LS.out LO.out ?_
    refine hK _ _ ((((Kl.out.alloc _).alloc _).rowfar (by have := NG.out; omega) _).rowfar (by have := NG.out; omega) _) (fun hHeld4 => ?_)
    clear hK K
    (try simp only [Act.put, List.getElem_toArray, List.getElem_cons_succ, List.getElem_cons_zero, List.setIfInBounds_toArray, List.set_cons_zero, List.set_cons_succ])
    refine wpAnyH_done (by kernel_rfl) ?_ _
    have hb : Below w14.heap.size w14 ((((w14.alloc (.cells #[.int .i64 0, .int .i64 0, .int .i64 0, .int .i64 0, .int .u8 0, .int .u8 0, .int .u8 0, .int .u8 0, .int .u8 0, .int .u8 0, .int .u8 0, .int .u8 0, .int .u8 0, .int .u8 0, .int .u8 0, .int .u8 0, .int .u8 0, .int .u8 0, .int .u8 0, .int .u8 0] 64)).alloc (.cells #[.int .i64 0, .int .i64 0, .int .i64 0, .int .i64 0, .int .u8 0, .int .u8 0, .int .u8 0, .int .u8 0, .int .u8 0, .int .u8 0, .int .u8 0, .int .u8 0, .int .u8 0, .int .u8 0, .int .u8 0, .int .u8 0, .int .u8 0, .int .u8 0, .int .u8 0, .int .u8 0] 64)).setRow G (leaseC 3 7 100 1 D0)).setRow (G + 1) (leaseC 3 7 100 1 D0)) := below_setRow (below_setRow (((Below.refl _ w14).alloc (Nat.le_refl _) _).alloc (by rw [hG2, hG]; omega) _) (by omega) _) (by omega) _
    have Kp := Lib.hid (show Blk ((((w14.alloc (.cells #[.int .i64 0, .int .i64 0, .int .i64 0, .int .i64 0, .int .u8 0, .int .u8 0, .int .u8 0, .int .u8 0, .int .u8 0, .int .u8 0, .int .u8 0, .int .u8 0, .int .u8 0, .int .u8 0, .int .u8 0, .int .u8 0, .int .u8 0, .int .u8 0, .int .u8 0, .int .u8 0] 64)).alloc (.cells #[.int .i64 0, .int .i64 0, .int .i64 0, .int .i64 0, .int .u8 0, .int .u8 0, .int .u8 0, .int .u8 0, .int .u8 0, .int .u8 0, .int .u8 0, .int .u8 0, .int .u8 0, .int .u8 0, .int .u8 0, .int .u8 0, .int .u8 0, .int .u8 0, .int .u8 0, .int .u8 0] 64)).setRow G (leaseC 3 7 100 1 D0)).setRow (G + 1) (leaseC 3 7 100 1 D0)) G 64 (leaseC 3 7 100 1 D0) from (Z1.row_ _).rowfar (by omega) _)
    have Kq := Lib.hid (show Blk ((((w14.alloc (.cells #[.int .i64 0, .int .i64 0, .int .i64 0, .int .i64 0, .int .u8 0, .int .u8 0, .int .u8 0, .int .u8 0, .int .u8 0, .int .u8 0, .int .u8 0, .int .u8 0, .int .u8 0, .int .u8 0, .int .u8 0, .int .u8 0, .int .u8 0, .int .u8 0, .int .u8 0, .int .u8 0] 64)).alloc (.cells #[.int .i64 0, .int .i64 0, .int .i64 0, .int .i64 0, .int .u8 0, .int .u8 0, .int .u8 0, .int .u8 0, .int .u8 0, .int .u8 0, .int .u8 0, .int .u8 0, .int .u8 0, .int .u8 0, .int .u8 0, .int .u8 0, .int .u8 0, .int .u8 0, .int .u8 0, .int .u8 0] 64)).setRow G (leaseC 3 7 100 1 D0)).setRow (G + 1) (leaseC 3 7 100 1 D0)) (G + 1) 64 (leaseC 3 7 100 1 D0) from (Z2.rowfar (by omega) _).row_ _)
    have Npq := Lib.hid (show G ≠ (G + 1) by omega)
    have Nlp := Lib.hid (show gl ≠ G by have := NG.out; omega)
    have Nlq := Lib.hid (show gl ≠ (G + 1) by have := NG.out; omega)
    have Lp := Lib.hid (show w.heap.size ≤ G by have := B.out.size; omega)
    have Lq := Lib.hid (show w.heap.size ≤ (G + 1) by have := B.out.size; omega)
    replace Kl := Lib.hid (Kl.out.below hb Kl.out.lt)
    have BX := Lib.hid hb
    have LGp := Lib.hid (show w14.heap.size ≤ G by omega)
    have LGq := Lib.hid (show w14.heap.size ≤ (G + 1) by omega)
    replace B := Lib.hid (B.out.trans (hb.mono B.out.size))
    clear hb Z1 Z2 hHeld hHeld1 hHeld2 hHeld3 hHeld4
    generalize ((((w14.alloc (.cells #[.int .i64 0, .int .i64 0, .int .i64 0, .int .i64 0, .int .u8 0, .int .u8 0, .int .u8 0, .int .u8 0, .int .u8 0, .int .u8 0, .int .u8 0, .int .u8 0, .int .u8 0, .int .u8 0, .int .u8 0, .int .u8 0, .int .u8 0, .int .u8 0, .int .u8 0, .int .u8 0] 64)).alloc (.cells #[.int .i64 0, .int .i64 0, .int .i64 0, .int .i64 0, .int .u8 0, .int .u8 0, .int .u8 0, .int .u8 0, .int .u8 0, .int .u8 0, .int .u8 0, .int .u8 0, .int .u8 0, .int .u8 0, .int .u8 0, .int .u8 0, .int .u8 0, .int .u8 0, .int .u8 0, .int .u8 0] 64)).setRow G (leaseC 3 7 100 1 D0)).setRow (G + 1) (leaseC 3 7 100 1 D0)) = w18 at Kl Kp Kq BX B ⊢
    clear hG2 hG NG
    generalize G + 1 = gq at Kq Npq Nlq Lq LGq ⊢
    generalize G = gp at Kp Npq Nlp Lp LGp ⊢
    obtain ⟨x0, x1, x2, x3⟩ := lease_cells Kp.out
    obtain ⟨y0, y1, y2, y3⟩ := lease_cells Kq.out
    have fp := fun q => Kp.out.frozen q
    have fq := fun q => Kq.out.frozen q
    have Y2 : (w18.setCell ⟨gp, 1, none⟩ (.int .i64 8)).cell? ⟨gq, 2, none⟩ = some (.int .i64 100) := (lease_cells (Kq.out.far (p := ⟨gp, 1, none⟩) (show gq ≠ gp from fun h => Npq.out h.symm) (.int .i64 8))).2.2.1
    have fq2 := fun q => (Kq.out.far (p := ⟨gp, 1, none⟩) (show gq ≠ gp from fun h => Npq.out h.symm) (.int .i64 8)).frozen q
    replace Kl := Lib.hid (show Blk ((w18.setCell ⟨gp, 1, none⟩ (.int .i64 8)).setCell ⟨gq, 2, none⟩ (.int .i64 101)) gl 64 (leaseC 3 7 100 1 D0) from (Kl.out.far (p := ⟨gp, 1, none⟩) (show gl ≠ gp from Nlp.out) (.int .i64 8)).far (p := ⟨gq, 2, none⟩) (show gl ≠ gq from Nlq.out) (.int .i64 101))
    replace Kp := Lib.hid (show Blk ((w18.setCell ⟨gp, 1, none⟩ (.int .i64 8)).setCell ⟨gq, 2, none⟩ (.int .i64 101)) gp 64 (leaseC 3 8 100 1 D0) from (Kp.out.set_ 1 (.int .i64 8)).far (p := ⟨gq, 2, none⟩) (show gp ≠ gq from Npq.out) (.int .i64 101))
    replace Kq := Lib.hid (show Blk ((w18.setCell ⟨gp, 1, none⟩ (.int .i64 8)).setCell ⟨gq, 2, none⟩ (.int .i64 101)) gq 64 (leaseC 3 7 101 1 D0) from (Kq.out.far (p := ⟨gp, 1, none⟩) (show gq ≠ gp from fun h => Npq.out h.symm) (.int .i64 8)).set_ 2 (.int .i64 101))
    have B2 := Lib.hid (show Below w.heap.size w ((w18.setCell ⟨gp, 1, none⟩ (.int .i64 8)).setCell ⟨gq, 2, none⟩ (.int .i64 101)) from (B.out.setCell (p := ⟨gp, 1, none⟩) Lp.out (.int .i64 8)).setCell (p := ⟨gq, 2, none⟩) Lq.out (.int .i64 101))
    replace R1 := Lib.hid (R1.out.mono (show Below w14.heap.size w14 ((w18.setCell ⟨gp, 1, none⟩ (.int .i64 8)).setCell ⟨gq, 2, none⟩ (.int .i64 101)) from (BX.out.setCell (p := ⟨gp, 1, none⟩) LGp.out (.int .i64 8)).setCell (p := ⟨gq, 2, none⟩) LGq.out (.int .i64 101)))
    replace B := B2
    clear BX B2
    go_upto_region 17 with (fail)
    generalize ((w18.setCell ⟨gp, 1, none⟩ (.int .i64 8)).setCell ⟨gq, 2, none⟩ (.int .i64 101)) = w19 at Kl Kp Kq R1 B ⊢
    clear x0 x1 x2 x3 y0 y1 y2 y3 fp fq Y2 fq2
    have LJp := Lib.hid (show (Tryd.prog.info? 64).map (·.size) = some (leaseC 3 8 100 1 D0).size by rw [lease_size _ _ _ _ _ D0_len]; kernel_rfl)
    have LJq := Lib.hid (show (Tryd.prog.info? 64).map (·.size) = some (leaseC 3 7 101 1 D0).size by rw [lease_size _ _ _ _ _ D0_len]; kernel_rfl)
    obtain ⟨z0, z1, z2, z3⟩ := lease_cells Kl.out
    go_wp2_with (first | (with_reducible refine wpList_load_want (by kernel_rfl) 64 _ rfl gl rfl 64 (leaseC 3 7 100 1 D0) _ Kl.out Tryd.underlying64 rfl LJ.out ?_))
    refine (sn_chk1 a1 c1 _ R1.out (HLA.out.below B.out)).mono ?_
    rintro e w21 ⟨rfl, hb⟩
    replace Kl := Lib.hid (Kl.out.below hb Kl.out.lt)
    replace Kp := Lib.hid (Kp.out.below hb Kp.out.lt)
    replace Kq := Lib.hid (Kq.out.below hb Kq.out.lt)
    replace R1 := Lib.hid (R1.out.mono hb)
    replace B := Lib.hid (B.out.trans (hb.mono B.out.size))
    clear hb
    go_wp2_with (first | (with_reducible refine wpList_load_want (by kernel_rfl) 64 _ rfl gp rfl 64 (leaseC 3 8 100 1 D0) _ Kp.out Tryd.underlying64 rfl LJp.out ?_))
    refine (sn_chk2 a1 c1 _ R1.out (HLA.out.below B.out)).mono ?_
    rintro e w22 ⟨rfl, hb⟩
    replace Kl := Lib.hid (Kl.out.below hb Kl.out.lt)
    replace Kp := Lib.hid (Kp.out.below hb Kp.out.lt)
    replace Kq := Lib.hid (Kq.out.below hb Kq.out.lt)
    replace R1 := Lib.hid (R1.out.mono hb)
    replace B := Lib.hid (B.out.trans (hb.mono B.out.size))
    clear hb
    go_wp2_with (first | (with_reducible refine wpList_load_want (by kernel_rfl) 64 _ rfl gq rfl 64 (leaseC 3 7 101 1 D0) _ Kq.out Tryd.underlying64 rfl LJq.out ?_))
    refine (sn_chk3 a1 c1 _ R1.out (HLA.out.below B.out)).mono ?_
    rintro e w23 ⟨rfl, hb⟩
    replace Kl := Lib.hid (Kl.out.below hb Kl.out.lt)
    replace Kp := Lib.hid (Kp.out.below hb Kp.out.lt)
    replace Kq := Lib.hid (Kq.out.below hb Kq.out.lt)
    replace R1 := Lib.hid (R1.out.mono hb)
    replace B := Lib.hid (B.out.trans (hb.mono B.out.size))
    clear hb
    go_wp2
    go_ret
    exact ⟨rfl, B.out⟩
  · go_simp
    try rw [hG]
    refine hK _ _ (Kl.out.alloc _) (fun hHeld1 => ?_)
    clear hK K
    (try simp only [Act.put, List.getElem_toArray, List.getElem_cons_succ, List.getElem_cons_zero, List.setIfInBounds_toArray, List.set_cons_zero, List.set_cons_succ])
    have hG2 : (w14.alloc (.cells #[.int .i64 0, .int .i64 0, .int .i64 0, .int .i64 0, .int .u8 0, .int .u8 0, .int .u8 0, .int .u8 0, .int .u8 0, .int .u8 0, .int .u8 0, .int .u8 0, .int .u8 0, .int .u8 0, .int .u8 0, .int .u8 0, .int .u8 0, .int .u8 0, .int .u8 0, .int .u8 0] 64)).heap.size = G + 1 := by rw [World.size_alloc, hG]
    refine wpAnyH_ready (rs := [2]) (by kernel_rfl) (by simp) (AllReadyH.cons rfl (fun K hK => ?_) AllReadyH.nil)
    go_simp
    try rw [hG2]
    try rw [hG]
    refine hK _ _ ((Kl.out.alloc _).alloc _) (fun hHeld2 => ?_)
    clear hK K
    (try simp only [Act.put, List.getElem_toArray, List.getElem_cons_succ, List.getElem_cons_zero, List.setIfInBounds_toArray, List.set_cons_zero, List.set_cons_succ])
    have Z1 : Blk ((w14.alloc (.cells #[.int .i64 0, .int .i64 0, .int .i64 0, .int .i64 0, .int .u8 0, .int .u8 0, .int .u8 0, .int .u8 0, .int .u8 0, .int .u8 0, .int .u8 0, .int .u8 0, .int .u8 0, .int .u8 0, .int .u8 0, .int .u8 0, .int .u8 0, .int .u8 0, .int .u8 0, .int .u8 0] 64)).alloc (.cells #[.int .i64 0, .int .i64 0, .int .i64 0, .int .i64 0, .int .u8 0, .int .u8 0, .int .u8 0, .int .u8 0, .int .u8 0, .int .u8 0, .int .u8 0, .int .u8 0, .int .u8 0, .int .u8 0, .int .u8 0, .int .u8 0, .int .u8 0, .int .u8 0, .int .u8 0, .int .u8 0] 64)) G 64 #[.int .i64 0, .int .i64 0, .int .i64 0, .int .i64 0, .int .u8 0, .int .u8 0, .int .u8 0, .int .u8 0, .int .u8 0, .int .u8 0, .int .u8 0, .int .u8 0, .int .u8 0, .int .u8 0, .int .u8 0, .int .u8 0, .int .u8 0, .int .u8 0, .int .u8 0, .int .u8 0] := (Blk.new' w14 _ _ _ hG rfl).alloc _
    have Z2 : Blk ((w14.alloc (.cells #[.int .i64 0, .int .i64 0, .int .i64 0, .int .i64 0, .int .u8 0, .int .u8 0, .int .u8 0, .int .u8 0, .int .u8 0, .int .u8 0, .int .u8 0, .int .u8 0, .int .u8 0, .int .u8 0, .int .u8 0, .int .u8 0, .int .u8 0, .int .u8 0, .int .u8 0, .int .u8 0] 64)).alloc (.cells #[.int .i64 0, .int .i64 0, .int .i64 0, .int .i64 0, .int .u8 0, .int .u8 0, .int .u8 0, .int .u8 0, .int .u8 0, .int .u8 0, .int .u8 0, .int .u8 0, .int .u8 0, .int .u8 0, .int .u8 0, .int .u8 0, .int .u8 0, .int .u8 0, .int .u8 0, .int .u8 0] 64)) (G + 1) 64 #[.int .i64 0, .int .i64 0, .int .i64 0, .int .i64 0, .int .u8 0, .int .u8 0, .int .u8 0, .int .u8 0, .int .u8 0, .int .u8 0, .int .u8 0, .int .u8 0, .int .u8 0, .int .u8 0, .int .u8 0, .int .u8 0, .int .u8 0, .int .u8 0, .int .u8 0, .int .u8 0] := Blk.new' _ _ _ _ hG2 rfl
    refine wpAnyH_ready (rs := [4]) (by kernel_rfl) (by simp) (AllReadyH.cons rfl (fun K hK => ?_) AllReadyH.nil)
    rw [if_pos (by rfl)]
    refine wp_store_row 64 _ _ rfl (G + 1) (leaseC 3 7 100 1 D0) rfl rfl 64 _ Z2 LJ.out LS.out LO.out ?_
    refine hK _ _ (((Kl.out.alloc _).alloc _).rowfar (by have := NG.out; omega) _) (fun hHeld3 => ?_)
    clear hK K
    (try simp only [Act.put, List.getElem_toArray, List.getElem_cons_succ, List.getElem_cons_zero, List.setIfInBounds_toArray, List.set_cons_zero, List.set_cons_succ])
    refine wpAnyH_ready (rs := [5]) (by kernel_rfl) (by simp) (AllReadyH.cons rfl (fun K hK => ?_) AllReadyH.nil)
    rw [if_pos (by rfl)]
    refine wp_store_row 64 _ _ rfl G (leaseC 3 7 100 1 D0) rfl rfl 64 _ (Z1.rowfar (by omega) _) LJ.out LS.out LO.out ?_
    refine hK _ _ ((((Kl.out.alloc _).alloc _).rowfar (by have := NG.out; omega) _).rowfar (by have := NG.out; omega) _) (fun hHeld4 => ?_)
    clear hK K
    (try simp only [Act.put, List.getElem_toArray, List.getElem_cons_succ, List.getElem_cons_zero, List.setIfInBounds_toArray, List.set_cons_zero, List.set_cons_succ])
    refine wpAnyH_done (by kernel_rfl) ?_ _
    have hb : Below w14.heap.size w14 ((((w14.alloc (.cells #[.int .i64 0, .int .i64 0, .int .i64 0, .int .i64 0, .int .u8 0, .int .u8 0, .int .u8 0, .int .u8 0, .int .u8 0, .int .u8 0, .int .u8 0, .int .u8 0, .int .u8 0, .int .u8 0, .int .u8 0, .int .u8 0, .int .u8 0, .int .u8 0, .int .u8 0, .int .u8 0] 64)).alloc (.cells #[.int .i64 0, .int .i64 0, .int .i64 0, .int .i64 0, .int .u8 0, .int .u8 0, .int .u8 0, .int .u8 0, .int .u8 0, .int .u8 0, .int .u8 0, .int .u8 0, .int .u8 0, .int .u8 0, .int .u8 0, .int .u8 0, .int .u8 0, .int .u8 0, .int .u8 0, .int .u8 0] 64)).setRow (G + 1) (leaseC 3 7 100 1 D0)).setRow G (leaseC 3 7 100 1 D0)) := below_setRow (below_setRow (((Below.refl _ w14).alloc (Nat.le_refl _) _).alloc (by rw [hG2, hG]; omega) _) (by omega) _) (by omega) _
    have Kp := Lib.hid (show Blk ((((w14.alloc (.cells #[.int .i64 0, .int .i64 0, .int .i64 0, .int .i64 0, .int .u8 0, .int .u8 0, .int .u8 0, .int .u8 0, .int .u8 0, .int .u8 0, .int .u8 0, .int .u8 0, .int .u8 0, .int .u8 0, .int .u8 0, .int .u8 0, .int .u8 0, .int .u8 0, .int .u8 0, .int .u8 0] 64)).alloc (.cells #[.int .i64 0, .int .i64 0, .int .i64 0, .int .i64 0, .int .u8 0, .int .u8 0, .int .u8 0, .int .u8 0, .int .u8 0, .int .u8 0, .int .u8 0, .int .u8 0, .int .u8 0, .int .u8 0, .int .u8 0, .int .u8 0, .int .u8 0, .int .u8 0, .int .u8 0, .int .u8 0] 64)).setRow (G + 1) (leaseC 3 7 100 1 D0)).setRow G (leaseC 3 7 100 1 D0)) (G + 1) 64 (leaseC 3 7 100 1 D0) from (Z2.row_ _).rowfar (by omega) _)
    have Kq := Lib.hid (show Blk ((((w14.alloc (.cells #[.int .i64 0, .int .i64 0, .int .i64 0, .int .i64 0, .int .u8 0, .int .u8 0, .int .u8 0, .int .u8 0, .int .u8 0, .int .u8 0, .int .u8 0, .int .u8 0, .int .u8 0, .int .u8 0, .int .u8 0, .int .u8 0, .int .u8 0, .int .u8 0, .int .u8 0, .int .u8 0] 64)).alloc (.cells #[.int .i64 0, .int .i64 0, .int .i64 0, .int .i64 0, .int .u8 0, .int .u8 0, .int .u8 0, .int .u8 0, .int .u8 0, .int .u8 0, .int .u8 0, .int .u8 0, .int .u8 0, .int .u8 0, .int .u8 0, .int .u8 0, .int .u8 0, .int .u8 0, .int .u8 0, .int .u8 0] 64)).setRow (G + 1) (leaseC 3 7 100 1 D0)).setRow G (leaseC 3 7 100 1 D0)) G 64 (leaseC 3 7 100 1 D0) from (Z1.rowfar (by omega) _).row_ _)
    have Npq := Lib.hid (show (G + 1) ≠ G by omega)
    have Nlp := Lib.hid (show gl ≠ (G + 1) by have := NG.out; omega)
    have Nlq := Lib.hid (show gl ≠ G by have := NG.out; omega)
    have Lp := Lib.hid (show w.heap.size ≤ (G + 1) by have := B.out.size; omega)
    have Lq := Lib.hid (show w.heap.size ≤ G by have := B.out.size; omega)
    replace Kl := Lib.hid (Kl.out.below hb Kl.out.lt)
    have BX := Lib.hid hb
    have LGp := Lib.hid (show w14.heap.size ≤ (G + 1) by omega)
    have LGq := Lib.hid (show w14.heap.size ≤ G by omega)
    replace B := Lib.hid (B.out.trans (hb.mono B.out.size))
    clear hb Z1 Z2 hHeld hHeld1 hHeld2 hHeld3 hHeld4
    generalize ((((w14.alloc (.cells #[.int .i64 0, .int .i64 0, .int .i64 0, .int .i64 0, .int .u8 0, .int .u8 0, .int .u8 0, .int .u8 0, .int .u8 0, .int .u8 0, .int .u8 0, .int .u8 0, .int .u8 0, .int .u8 0, .int .u8 0, .int .u8 0, .int .u8 0, .int .u8 0, .int .u8 0, .int .u8 0] 64)).alloc (.cells #[.int .i64 0, .int .i64 0, .int .i64 0, .int .i64 0, .int .u8 0, .int .u8 0, .int .u8 0, .int .u8 0, .int .u8 0, .int .u8 0, .int .u8 0, .int .u8 0, .int .u8 0, .int .u8 0, .int .u8 0, .int .u8 0, .int .u8 0, .int .u8 0, .int .u8 0, .int .u8 0] 64)).setRow (G + 1) (leaseC 3 7 100 1 D0)).setRow G (leaseC 3 7 100 1 D0)) = w18 at Kl Kp Kq BX B ⊢
    clear hG2 hG NG
    generalize G + 1 = gp at Kp Npq Nlp Lp LGp ⊢
    generalize G = gq at Kq Npq Nlq Lq LGq ⊢
    obtain ⟨x0, x1, x2, x3⟩ := lease_cells Kp.out
    obtain ⟨y0, y1, y2, y3⟩ := lease_cells Kq.out
    have fp := fun q => Kp.out.frozen q
    have fq := fun q => Kq.out.frozen q
    have Y2 : (w18.setCell ⟨gp, 1, none⟩ (.int .i64 8)).cell? ⟨gq, 2, none⟩ = some (.int .i64 100) := (lease_cells (Kq.out.far (p := ⟨gp, 1, none⟩) (show gq ≠ gp from fun h => Npq.out h.symm) (.int .i64 8))).2.2.1
    have fq2 := fun q => (Kq.out.far (p := ⟨gp, 1, none⟩) (show gq ≠ gp from fun h => Npq.out h.symm) (.int .i64 8)).frozen q
    replace Kl := Lib.hid (show Blk ((w18.setCell ⟨gp, 1, none⟩ (.int .i64 8)).setCell ⟨gq, 2, none⟩ (.int .i64 101)) gl 64 (leaseC 3 7 100 1 D0) from (Kl.out.far (p := ⟨gp, 1, none⟩) (show gl ≠ gp from Nlp.out) (.int .i64 8)).far (p := ⟨gq, 2, none⟩) (show gl ≠ gq from Nlq.out) (.int .i64 101))
    replace Kp := Lib.hid (show Blk ((w18.setCell ⟨gp, 1, none⟩ (.int .i64 8)).setCell ⟨gq, 2, none⟩ (.int .i64 101)) gp 64 (leaseC 3 8 100 1 D0) from (Kp.out.set_ 1 (.int .i64 8)).far (p := ⟨gq, 2, none⟩) (show gp ≠ gq from Npq.out) (.int .i64 101))
    replace Kq := Lib.hid (show Blk ((w18.setCell ⟨gp, 1, none⟩ (.int .i64 8)).setCell ⟨gq, 2, none⟩ (.int .i64 101)) gq 64 (leaseC 3 7 101 1 D0) from (Kq.out.far (p := ⟨gp, 1, none⟩) (show gq ≠ gp from fun h => Npq.out h.symm) (.int .i64 8)).set_ 2 (.int .i64 101))
    have B2 := Lib.hid (show Below w.heap.size w ((w18.setCell ⟨gp, 1, none⟩ (.int .i64 8)).setCell ⟨gq, 2, none⟩ (.int .i64 101)) from (B.out.setCell (p := ⟨gp, 1, none⟩) Lp.out (.int .i64 8)).setCell (p := ⟨gq, 2, none⟩) Lq.out (.int .i64 101))
    replace R1 := Lib.hid (R1.out.mono (show Below w14.heap.size w14 ((w18.setCell ⟨gp, 1, none⟩ (.int .i64 8)).setCell ⟨gq, 2, none⟩ (.int .i64 101)) from (BX.out.setCell (p := ⟨gp, 1, none⟩) LGp.out (.int .i64 8)).setCell (p := ⟨gq, 2, none⟩) LGq.out (.int .i64 101)))
    replace B := B2
    clear BX B2
    go_upto_region 17 with (fail)
    generalize ((w18.setCell ⟨gp, 1, none⟩ (.int .i64 8)).setCell ⟨gq, 2, none⟩ (.int .i64 101)) = w19 at Kl Kp Kq R1 B ⊢
    clear x0 x1 x2 x3 y0 y1 y2 y3 fp fq Y2 fq2
    have LJp := Lib.hid (show (Tryd.prog.info? 64).map (·.size) = some (leaseC 3 8 100 1 D0).size by rw [lease_size _ _ _ _ _ D0_len]; kernel_rfl)
    have LJq := Lib.hid (show (Tryd.prog.info? 64).map (·.size) = some (leaseC 3 7 101 1 D0).size by rw [lease_size _ _ _ _ _ D0_len]; kernel_rfl)
    obtain ⟨z0, z1, z2, z3⟩ := lease_cells Kl.out
    go_wp2_with (first | (with_reducible refine wpList_load_want (by kernel_rfl) 64 _ rfl gl rfl 64 (leaseC 3 7 100 1 D0) _ Kl.out Tryd.underlying64 rfl LJ.out ?_))
    refine (sn_chk1 a1 c1 _ R1.out (HLA.out.below B.out)).mono ?_
    rintro e w21 ⟨rfl, hb⟩
    replace Kl := Lib.hid (Kl.out.below hb Kl.out.lt)
    replace Kp := Lib.hid (Kp.out.below hb Kp.out.lt)
    replace Kq := Lib.hid (Kq.out.below hb Kq.out.lt)
    replace R1 := Lib.hid (R1.out.mono hb)
    replace B := Lib.hid (B.out.trans (hb.mono B.out.size))
    clear hb
    go_wp2_with (first | (with_reducible refine wpList_load_want (by kernel_rfl) 64 _ rfl gp rfl 64 (leaseC 3 8 100 1 D0) _ Kp.out Tryd.underlying64 rfl LJp.out ?_))
    refine (sn_chk2 a1 c1 _ R1.out (HLA.out.below B.out)).mono ?_
    rintro e w22 ⟨rfl, hb⟩
    replace Kl := Lib.hid (Kl.out.below hb Kl.out.lt)
    replace Kp := Lib.hid (Kp.out.below hb Kp.out.lt)
    replace Kq := Lib.hid (Kq.out.below hb Kq.out.lt)
    replace R1 := Lib.hid (R1.out.mono hb)
    replace B := Lib.hid (B.out.trans (hb.mono B.out.size))
    clear hb
    go_wp2_with (first | (with_reducible refine wpList_load_want (by kernel_rfl) 64 _ rfl gq rfl 64 (leaseC 3 7 101 1 D0) _ Kq.out Tryd.underlying64 rfl LJq.out ?_))
    refine (sn_chk3 a1 c1 _ R1.out (HLA.out.below B.out)).mono ?_
    rintro e w23 ⟨rfl, hb⟩
    replace Kl := Lib.hid (Kl.out.below hb Kl.out.lt)
    replace Kp := Lib.hid (Kp.out.below hb Kp.out.lt)
    replace Kq := Lib.hid (Kq.out.below hb Kq.out.lt)
    replace R1 := Lib.hid (R1.out.mono hb)
    replace B := Lib.hid (B.out.trans (hb.mono B.out.size))
    clear hb
    go_wp2
    go_ret
    exact ⟨rfl, B.out⟩
end
section
theorem ins_ring {l : List Rw} {x : Rw} (ok : RingOk l) (hx : keyOk x) (hh : ¬ hasC (cR x.1 x.2.1) l = true) (hl : l.length < 1000) : RingOk (insL l (posC (cR x.1 x.2.1) l) x) := by
  have hle := posC_le (cR x.1 x.2.1) l
  have lo : ∀ a ∈ l.take (posC (cR x.1 x.2.1) l), ltR a x := fun a ha => by
    obtain ⟨j, hj, rfl⟩ := List.mem_iff_getElem.1 ha
    rw [List.length_take] at hj
    rw [List.getElem_take]
    have h := posC_below (cR x.1 x.2.1) l j (by omega)
    rw [cR_neg, getEl (by omega)] at h
    exact h
  have hi : ∀ b ∈ l.drop (posC (cR x.1 x.2.1) l), ltR x b := fun b hb => by
    obtain ⟨j, hj, rfl⟩ := List.mem_iff_getElem.1 hb
    rw [List.length_drop] at hj
    rw [List.getElem_drop]
    have h := posC_at (cR x.1 x.2.1) l (by omega)
    rw [cR_neg] at h
    have h0 : ¬ cR x.1 x.2.1 (l.getD (posC (cR x.1 x.2.1) l) r0) = 0 := fun e => hh ((hasC_iff _ _).2 ⟨by omega, e⟩)
    rw [cR_zero] at h0
    have h1 : ltR x (l.getD (posC (cR x.1 x.2.1) l) r0) := by unfold ltR; omega
    rcases Nat.eq_zero_or_pos j with e | e
    · subst e
      rw [getEl (by omega)] at h1
      exact h1
    · have h2 := ok.ord.lt (show posC (cR x.1 x.2.1) l < posC (cR x.1 x.2.1) l + j by omega) (by omega)
      rw [getEl (k := posC (cR x.1 x.2.1) l + j) (by omega)] at h2
      unfold ltR at h1 h2 ⊢
      omega
  have mem : ∀ y ∈ insL l (posC (cR x.1 x.2.1) l) x, keyOk y := fun y hy => by
    unfold insL at hy
    rw [List.mem_append, List.mem_cons] at hy
    rcases hy with h | rfl | h
    · exact ok.mem (List.mem_of_mem_take h)
    · exact hx
    · exact ok.mem (List.mem_of_mem_drop h)
  refine ⟨fun k hk => mem _ (by rw [getEl hk]; exact List.getElem_mem _), pair_ord ?_, by rw [insL_len _ _ _ hle]; omega⟩
  unfold insL
  have pw := ok.ord.pair
  rw [List.pairwise_append]
  refine ⟨pw.sublist (List.take_sublist _ _), List.pairwise_cons.2 ⟨hi, pw.sublist (List.drop_sublist _ _)⟩, fun a ha b hb => ?_⟩
  rw [List.mem_cons] at hb
  rcases hb with rfl | hb
  · exact lo a ha
  · have h1 := lo a ha
    have h2 := hi b hb
    unfold ltR at h1 h2 ⊢
    omega
theorem ring_nil : ringB [] = true := rfl
theorem add_ring {l : List Rw} {x : Rw} (ok : RingOk l) (hl : l.length ≤ 30) : ringB (addL l x).1 = true := by
  unfold addL
  split
  · rename_i hx
    split
    · exact ring_nil
    · rename_i hh
      rw [if_neg (by omega)]
      exact decide_eq_true (ins_ring ok hx hh (by omega))
  · exact ring_nil
/-- The good case of a rotation. -/
theorem rot_good {l : List Rw} {p : Int} {s : ByteArray} {at_ ov : Int} (ok : RingOk l) (h0 : (rotL l p s at_ ov).2 = 0) :
    ∃ F i y x, KeysAt l p F (i + 1) ∧ F ≤ i ∧ (rotL l p s at_ ov).1 = insL (l.set i y) (i + 1) x ∧ y.1 = (l.getD i r0).1 ∧ y.2.1 = (l.getD i r0).2.1 ∧ y.2.2.1 = (l.getD i r0).2.2.1 ∧ y.2.2.2.1 = (l.getD i r0).2.2.2.1 ∧ y.2.2.2.2 = min (l.getD i r0).2.2.2.2 (at_ + ov) ∧
      x = (p, (l.getD i r0).2.1 + 1, s, at_, 1099511627776) ∧ keyOk x ∧ 0 ≤ ov ∧ (l.getD i r0).2.2.2.1 < at_ + ov := by
  obtain ⟨T, ka⟩ := keys_ex ok p
  unfold rotL at h0 ⊢
  by_cases h1 : lastL l p < 0
  · rw [if_pos h1] at h0; exact absurd h0 (by decide)
  · rw [if_neg h1] at h0 ⊢
    have hft : posC (cR p 1) l < T := by
      rcases Nat.eq_or_lt_of_le ka.le with e | e
      · subst e
        rw [last_none ka] at h1
        exact absurd h1 (by decide)
      · exact e
    obtain ⟨i, rfl⟩ : ∃ i, T = i + 1 := ⟨T - 1, by omega⟩
    have hi : (lastL l p).toNat = i := by rw [last_some ka hft]; omega
    rw [hi] at h0 ⊢
    by_cases h2 : argBad (p, (l.getD i r0).2.1 + 1, s, at_, 1099511627776) at_ ov
    · rw [if_pos h2] at h0; exact absurd h0 (by decide)
    · rw [if_neg h2] at h0 ⊢
      by_cases h3 : at_ + ov ≤ (l.getD i r0).2.2.2.1 ∨ (l.getD i r0).2.2.2.2 < at_
      · rw [if_pos h3] at h0; exact absurd h0 (by decide)
      · rw [if_neg h3] at h0 ⊢
        by_cases h4 : 1000 ≤ l.length
        · rw [if_pos h4] at h0; exact absurd h0 (by decide)
        · rw [if_neg h4]
          have hk : keyOk (p, (l.getD i r0).2.1 + 1, s, at_, 1099511627776) := Decidable.byContradiction fun q => h2 (by unfold argBad; exact Or.inr (Or.inr (Or.inr (Or.inr q))))
          have ho : 0 ≤ ov := by unfold argBad at h2; omega
          exact ⟨_, i, _, _, ka, by omega, rfl, rfl, rfl, rfl, rfl, rfl, rfl, hk, ho, by omega⟩
theorem rot_ring {l : List Rw} {p : Int} {s : ByteArray} {at_ ov : Int} (ok : RingOk l) (hl : l.length ≤ 30) : ringB (rotL l p s at_ ov).1 = true := by
  by_cases h0 : (rotL l p s at_ ov).2 = 0
  · obtain ⟨F, i, y, x, ka, hF, e, y1, y2, y3, y4, y5, hx, kx, ho, hlt⟩ := rot_good ok h0
    rw [e]
    have hi : i < l.length := by have := ka.len; omega
    have ko := ok.keys i hi
    have ky : keyOk y := by
      unfold keyOk at ko ⊢
      rw [y1, y2, y3, y4, y5]
      omega
    have ok2 : RingOk (l.set i y) := ⟨fun k hk => by
      rw [List.length_set] at hk
      by_cases q : i = k
      · subst q; rw [getD_set_eq l i y hi]; exact ky
      · rw [getD_set_ne l i k y q]; exact ok.keys k hk, set_ord ok.ord y1 y2, by rw [List.length_set]; exact ok.few⟩
    have ka2 := keys_set ka y1 y2
    have hp := rot_pos ok2.ord ka2 hF
    rw [getD_set_eq l i y hi, y2] at hp
    have q : x.1 = p ∧ x.2.1 = (l.getD i r0).2.1 + 1 := by rw [hx]; exact ⟨rfl, rfl⟩
    have := ins_ring ok2 kx (by rw [q.1, q.2]; exact hp.2) (by rw [List.length_set]; omega)
    rw [q.1, q.2, hp.1] at this
    exact decide_eq_true this
  · have : (rotL l p s at_ ov).1 = [] := by
      unfold rotL at h0 ⊢
      split
      · rfl
      · rename_i h1
        rw [if_neg h1] at h0
        split
        · rfl
        · rename_i h2
          rw [if_neg h2] at h0
          split
          · rfl
          · rename_i h3
            rw [if_neg h3] at h0
            split
            · rfl
            · rename_i h4
              rw [if_neg h4] at h0
              exact absurd rfl h0
    rw [this]
    rfl
theorem ins_getD_lt {l : List Rw} {T j : Nat} {x : Rw} (hT : T ≤ l.length) (h : j < T) : (insL l T x).getD j r0 = l.getD j r0 := ins_at_lt l T j x hT h
theorem ins_getD_at {l : List Rw} {T : Nat} {x : Rw} (hT : T ≤ l.length) : (insL l T x).getD T r0 = x := by
  rw [List.getD_eq_getElem?_getD, insL_at l T x hT]; rfl
theorem ins_getD_gt {l : List Rw} {T j : Nat} {x : Rw} (hT : T ≤ l.length) (h : T ≤ j) : (insL l T x).getD (j + 1) r0 = l.getD j r0 := by
  rw [List.getD_eq_getElem?_getD, insL_past l T x j hT h, ← List.getD_eq_getElem?_getD]
theorem keys_ins {l : List Rw} {p : Int} {F T : Nat} {x : Rw} (h : KeysAt l p F T) (hx : x.1 = p) : KeysAt (insL l T x) p F (T + 1) := by
  refine ⟨by have := h.le; omega, by rw [insL_len _ _ _ h.len]; have := h.len; omega, fun j h1 h2 => ?_, fun j h1 h2 => ?_⟩
  · rcases Nat.lt_or_ge j T with q | q
    · rw [ins_getD_lt h.len q]; exact h.inn j h1 q
    · obtain rfl : j = T := by omega
      rw [ins_getD_at h.len]; exact hx
  · rw [insL_len _ _ _ h.len] at h1
    rcases h2 with q | q
    · rw [ins_getD_lt h.len (by have := h.le; omega)]; exact h.out j (by have := h.len; have := h.le; omega) (Or.inl q)
    · obtain ⟨k, rfl⟩ : ∃ k, j = k + 1 := ⟨j - 1, by omega⟩
      rw [ins_getD_gt h.len (by omega)]; exact h.out k (by omega) (Or.inr (by omega))
theorem rot_new {l : List Rw} {p : Int} {s : ByteArray} {at_ ov lo hi : Int} (ok : RingOk l) (h0 : (rotL l p s at_ ov).2 = 0) (h1 : 0 ≤ lo) (h2 : lo ≤ hi) (h3 : hi < 1099511627776) (h4 : at_ ≤ lo) :
    ∃ n : Int, curL (rotL l p s at_ ov).1 p lo hi = ((p, n, s, at_, 1099511627776), 0) := by
  obtain ⟨F, i, y, x, ka, hF, e, y1, y2, y3, y4, y5, hx, kx, ho, hlt⟩ := rot_good ok h0
  rw [e]
  have ka2 := keys_ins (x := x) (keys_set ka y1 y2) (by rw [hx])
  have g := ins_getD_at (x := x) (keys_set ka y1 y2).len
  have := cur_at (lo := lo) (hi := hi) ka2 (i := i + 1) (by omega) (by omega) (by rw [g, hx]; exact decide_eq_true (by unfold countsP; exact ⟨h1, h2, by omega, h4, h3⟩)) (fun j a b => absurd a (by omega))
  rw [g] at this
  exact ⟨_, by rw [this, hx]⟩
theorem newest (l : List Rw) (lo hi : Int) (F : Nat) : ∀ n, (∃ i, F ≤ i ∧ i < F + n ∧ countsB (l.getD i r0) lo hi = true ∧ ∀ j, i < j → j < F + n → countsB (l.getD j r0) lo hi = false) ∨ (∀ j, F ≤ j → j < F + n → countsB (l.getD j r0) lo hi = false)
  | 0 => Or.inr fun j h1 h2 => absurd h1 (by omega)
  | n + 1 => by
    cases q : countsB (l.getD (F + n) r0) lo hi with
    | true => exact Or.inl ⟨F + n, by omega, by omega, q, fun j a b => absurd a (by omega)⟩
    | false =>
      rcases newest l lo hi F n with ⟨i, h1, h2, h3, h4⟩ | h
      · exact Or.inl ⟨i, h1, by omega, h3, fun j a b => by
          rcases Nat.lt_or_ge j (F + n) with z | z
          · exact h4 j a z
          · obtain rfl : j = F + n := by omega
            exact q⟩
      · exact Or.inr fun j a b => by
          rcases Nat.lt_or_ge j (F + n) with z | z
          · exact h j a z
          · obtain rfl : j = F + n := by omega
            exact q
theorem rot_old {l : List Rw} {p : Int} {s : ByteArray} {at_ ov lo hi : Int} (ok : RingOk l) (h0 : (rotL l p s at_ ov).2 = 0) (h4 : lo < at_) (h5 : hi < at_) (h6 : (curL l p lo hi).2 = 0) :
    (curL (rotL l p s at_ ov).1 p lo hi).2 = 0 ∧ (curL (rotL l p s at_ ov).1 p lo hi).1.2.1 = (curL l p lo hi).1.2.1 := by
  obtain ⟨F, i, y, x, ka, hF, e, y1, y2, y3, y4, y5, hx, kx, ho, hlt⟩ := rot_good ok h0
  rw [e]
  have hi' : i < l.length := by have := ka.len; omega
  have kb := keys_set ka y1 y2
  have ka2 := keys_ins (x := x) kb (by rw [hx])
  have same : ∀ j, countsB ((l.set i y).getD j r0) lo hi = countsB (l.getD j r0) lo hi := fun j => by
    by_cases q : i = j
    · subst q
      rw [getD_set_eq l i y hi']
      unfold countsB
      apply decide_eq_decide.mpr
      unfold countsP
      rw [y4, y5]
      omega
    · rw [getD_set_ne l i j y q]
  have nx : countsB x lo hi = false := decide_eq_false (by rw [hx]; unfold countsP; simp only; omega)
  rcases newest l lo hi F (i + 1 - F) with ⟨k, h1, h2, h3, h7⟩ | h
  · have hk : k < i + 1 := by omega
    have a := cur_at ka h1 hk h3 (fun j a b => h7 j a (by omega))
    have b := cur_at (lo := lo) (hi := hi) ka2 (i := k) h1 (by omega) (by rw [ins_getD_lt kb.len hk, same]; exact h3) (fun j a b => by
      rcases Nat.lt_or_ge j (i + 1) with z | z
      · rw [ins_getD_lt kb.len z, same]; exact h7 j a (by omega)
      · obtain rfl : j = i + 1 := by omega
        rw [ins_getD_at kb.len]; exact nx)
    rw [a, b]
    refine ⟨rfl, ?_⟩
    show ((insL (l.set i y) (i + 1) x).getD k r0).2.1 = (l.getD k r0).2.1
    rw [ins_getD_lt kb.len hk]
    exact (set_key y1 y2 k).2
  · have a := cur_time (lo := lo) (hi := hi) ka (by omega) (fun j a b => h j a (by omega))
    rw [a] at h6
    exact absurd h6 (by decide)
end
end Go.Proofs.YtcdcnklfcmoiiaaDoor
