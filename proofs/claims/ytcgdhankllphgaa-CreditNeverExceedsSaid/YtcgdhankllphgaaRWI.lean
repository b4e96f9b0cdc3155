import Derived.Test.YtcgdhankllphgaaRP
import Derived.Test.YtcgdhankllphgaaRY4
import Derived.Deep.Cut
namespace Go.Proofs.Ytcgdhankllphgaa
set_option linter.unusedVariables false
set_option linter.unusedSimpArgs false
set_option linter.unusedSectionVars false
open Go.RowKit
theorem eq_coins_no (x1 x2 x3 x4 : Int) (W : World) (h : ¬ (x2 = 0 ∧ x3 = 0 ∧ x4 = 0)) : (binOp .eql 89 (.agg #[.int .i64 x1, .int .i64 x2, .int .i64 x3, .int .i64 x4]) (.agg #[.int .i64 x1, .int .i64 0, .int .i64 0, .int .i64 0])).run Try.prog W = .ok (.bool false) W := by
  go_simp
  exact fun a b c => h ⟨a, b, c⟩
theorem getD_set (l : List Rw) (i : Nat) (x : Rw) (h : i < l.length) : (l.set i x).getD i r0 = x := by rw [List.getD_eq_getElem?_getD, List.getElem?_set_self h]; rfl
set_option maxRecDepth 100000 in
set_option maxHeartbeats 4000000 in
theorem with_found (len : Int) (a : Option Addr) (c : Nat) (l : List Rw) (x : Rw) (w : World) (hp : RwA w a l) (ord : OrdW l) (hm : l.length ≤ 10000) (h : hasC (cW x.1) l = true) :
    Calls Try.prog 62 #[.agg #[.int .i64 len, .slice a l.length c], .agg (encR x).toArray] w fun e w' => (∃ a' c', e = .returned (.tuple #[.agg #[.int .i64 len, .slice a' (withL l x).length c'], .int .i64 0]) ∧ RwA w' a' (withL l x) ∧ ∀ p, a' = some p → w.heap.size ≤ p.block) ∧ Below w.heap.size w w' := by
  have HP := Lib.hid hp
  have PL := Lib.hid (fun (a6 : Option Addr) (c6 : Nat) (X : World) (h : RwA X a6 l) => place_any len a6 c6 l x.1 X h (by omega))
  have FV := Lib.hid (fun (i : Nat) (f : Bool) (h : Found (cW x.1) l (.returned (.tuple #[.int .i64 i, .bool f]))) => (h.val.2.2 (ord.mono x.1) : i = posC (cW x.1) l ∧ f = hasC (cW x.1) l))
  have FL := Lib.hid (fun (i : Nat) (f : Bool) (h : Found (cW x.1) l (.returned (.tuple #[.int .i64 i, .bool f]))) => And.intro h.val.1 h.val.2.1)
  have CL := Lib.hid (fun (X : World) (h : RwA X a l) => Co.clone_any a c l X h (by omega))
  have HWL := Lib.hid (show withL l x = if hasC (cW x.1) l = true then l.set (posC (cW x.1) l) x else if x = (x.1, 0, 0, 0) then l else insL l (posC (cW x.1) l) x from rfl)
  obtain ⟨N, hN⟩ : ∃ N, l.length = N := ⟨_, rfl⟩
  have HE := Lib.hid hN
  simp only [hN] at PL FL CL
  try rw [hN] at h3
  rw [hN] at hm ⊢
  obtain ⟨x1, x2, x3, x4⟩ := x
  simp only [encR] at PL FV FL HWL h ⊢
  have HH := Lib.hid h
  clear hp hN ord h
  go_enter Try.func62, Try.ntmps62
  obtain ⟨G, hG⟩ : ∃ G, w.heap.size = G := ⟨_, rfl⟩
  have K1 := Lib.hid (show Blk ((((w.alloc (.cells #[.int .i64 len, .slice a N c] 45)).alloc (.cells #[.int .i64 x1, .int .i64 x2, .int .i64 x3, .int .i64 x4] 89)).alloc (.cells #[.int .i64 0, .slice none 0 0] 45))) G 45 #[.int .i64 len, .slice a N c] from ((Blk.new' w _ _ _ hG rfl).alloc _).alloc _)
  have K2 := Lib.hid (show Blk ((((w.alloc (.cells #[.int .i64 len, .slice a N c] 45)).alloc (.cells #[.int .i64 x1, .int .i64 x2, .int .i64 x3, .int .i64 x4] 89)).alloc (.cells #[.int .i64 0, .slice none 0 0] 45))) (G + 1) 89 #[.int .i64 x1, .int .i64 x2, .int .i64 x3, .int .i64 x4] from (Blk.new' _ _ _ _ (by rw [World.size_alloc, hG]) rfl).alloc _)
  have K3 := Lib.hid (show Blk ((((w.alloc (.cells #[.int .i64 len, .slice a N c] 45)).alloc (.cells #[.int .i64 x1, .int .i64 x2, .int .i64 x3, .int .i64 x4] 89)).alloc (.cells #[.int .i64 0, .slice none 0 0] 45))) (G + 1 + 1) 45 #[.int .i64 0, .slice none 0 0] from Blk.new' _ _ _ _ (by rw [World.size_alloc, World.size_alloc, hG]) rfl)
  have B := Lib.hid (show Below G w ((((w.alloc (.cells #[.int .i64 len, .slice a N c] 45)).alloc (.cells #[.int .i64 x1, .int .i64 x2, .int .i64 x3, .int .i64 x4] 89)).alloc (.cells #[.int .i64 0, .slice none 0 0] 45))) by rw [← hG]; (repeat' (first | (with_reducible exact Below.refl _ _) | (with_reducible assumption) | (with_reducible refine Below.alloc ?_ ?_ _) | (with_reducible refine Below.drew ?_) | (with_reducible refine below_dn ?_) | (with_reducible refine Below.setCell ?_ ?_ _) | (with_reducible exact Nat.le_refl _) | omega | (simp only [World.size_alloc, World.size_setCell, World.size_drew]; omega) | (simp; omega) | (simp; done))))
  have HG := Lib.hid hG
  have H0 := Lib.hid (HP.out.mono (show Below w.heap.size w ((((w.alloc (.cells #[.int .i64 len, .slice a N c] 45)).alloc (.cells #[.int .i64 x1, .int .i64 x2, .int .i64 x3, .int .i64 x4] 89)).alloc (.cells #[.int .i64 0, .slice none 0 0] 45))) by (repeat' (first | (with_reducible exact Below.refl _ _) | (with_reducible assumption) | (with_reducible refine Below.alloc ?_ ?_ _) | (with_reducible refine Below.drew ?_) | (with_reducible refine below_dn ?_) | (with_reducible refine Below.setCell ?_ ?_ _) | (with_reducible exact Nat.le_refl _) | omega | (simp only [World.size_alloc, World.size_setCell, World.size_drew]; omega) | (simp; omega) | (simp; done)))))
  go_upto_region 1 with (fail)
  try rw [hG]
  generalize hw0 : ((((w.alloc (.cells #[.int .i64 len, .slice a N c] 45)).alloc (.cells #[.int .i64 x1, .int .i64 x2, .int .i64 x3, .int .i64 x4] 89)).alloc (.cells #[.int .i64 0, .slice none 0 0] 45))) = w0 at K1 K2 K3 B H0 ⊢
  clear hw0 hG
  obtain ⟨d0, d1⟩ := twob K1.out
  obtain ⟨m0, m1, m2, m3⟩ := four K2.out
  obtain ⟨h0, h1⟩ := twob K3.out
  have fz := fun q => K3.out.frozen q
  have fw := fun q => K1.out.frozen q
  go_wp2_with fail
  refine (CL.out _ H0.out).mono ?_
  rintro e w6 ⟨v6, rfl, ho, hb⟩
  obtain ⟨Z, hZ⟩ : ∃ Z, w0.heap.size = Z := ⟨_, rfl⟩
  have HZ := Lib.hid (show G + 3 ≤ Z by have := K3.out.lt; omega)
  have O6 := Lib.hid (show OwnR 89 4 encR w6 Z v6 l by rw [← hZ]; exact ho)
  have B6Z := Lib.hid (show Z ≤ w6.heap.size by rw [← hZ]; exact hb.size)
  replace K1 := Lib.hid (K1.out.below hb K1.out.lt)
  replace K2 := Lib.hid (K2.out.below hb K2.out.lt)
  replace K3 := Lib.hid (K3.out.below hb K3.out.lt)
  replace B := Lib.hid (B.out.trans (hb.mono (by have := B.out.size; have := HG.out; omega)))
  clear hb ho CL H0
  clear d0 d1 m0 m1 m2 m3 h0 h1 fz fw
  obtain ⟨d0, d1⟩ := twob K1.out
  obtain ⟨m0, m1, m2, m3⟩ := four K2.out
  obtain ⟨h0, h1⟩ := twob K3.out
  have fz := fun q => K3.out.frozen q
  have fw := fun q => K1.out.frozen q
  obtain ⟨a6, c6, rfl, -, -⟩ := OwnR.view encR_len O6.out
  rw [HE.out] at O6 ⊢
  replace O6 := Lib.hid (OwnR.far O6.out (p := ⟨G, 1, none⟩) (show G < Z by have := HZ.out; omega) (.slice a6 N c6))
  replace K1 := Lib.hid (show Blk (w6.setCell ⟨G, 1, none⟩ (.slice a6 N c6)) G 45 #[.int .i64 len, .slice a6 N c6] from K1.out.set_ 1 _)
  replace K2 := Lib.hid (K2.out.far (p := ⟨G, 1, none⟩) (by simp) (.slice a6 N c6))
  replace K3 := Lib.hid (K3.out.far (p := ⟨G, 1, none⟩) (by simp; omega) (.slice a6 N c6))
  replace B := Lib.hid (B.out.setCell (p := ⟨G, 1, none⟩) (Nat.le_refl _) (.slice a6 N c6))
  replace B6Z := Lib.hid (show Z ≤ (w6.setCell ⟨G, 1, none⟩ (.slice a6 N c6)).heap.size by have := B6Z.out; simp; omega)
  go_upto_region 2 with (fail)
  generalize hw7 : w6.setCell ⟨G, 1, none⟩ (.slice a6 N c6) = w7 at O6 K1 K2 K3 B B6Z ⊢
  clear hw7 hZ
  clear d0 d1 m0 m1 m2 m3 h0 h1 fz fw
  obtain ⟨d0, d1⟩ := twob K1.out
  obtain ⟨m0, m1, m2, m3⟩ := four K2.out
  obtain ⟨h0, h1⟩ := twob K3.out
  have fz := fun q => K3.out.frozen q
  have fw := fun q => K1.out.frozen q
  have HR6 := Lib.hid (show RwA w7 a6 l by
    have h6 := O6.out
    rw [← HE.out] at h6
    obtain ⟨av, cv, ev, -, hv⟩ := OwnR.view encR_len h6
    injection ev with ev1
    subst ev1
    exact hv)
  go_wp2_with fail
  refine (PL.out a6 c6 _ HR6.out).mono ?_
  rintro e w8 ⟨hf, hb⟩
  obtain ⟨i, f, rfl, H0⟩ := hf.tell
  have V := Lib.hid (FV.out i f H0)
  have fl := FL.out i f H0
  replace K1 := Lib.hid (K1.out.below hb K1.out.lt)
  replace K2 := Lib.hid (K2.out.below hb K2.out.lt)
  replace K3 := Lib.hid (K3.out.below hb K3.out.lt)
  replace B := Lib.hid (B.out.trans (hb.mono (by have := B.out.size; have := HG.out; omega)))
  have O7 := Lib.hid (OwnR.below O6.out hb)
  replace B6Z := Lib.hid (Nat.le_trans B6Z.out hb.size)
  clear hb hf H0 HR6 O6 PL FV FL
  clear d0 d1 m0 m1 m2 m3 h0 h1 fz fw
  obtain ⟨d0, d1⟩ := twob K1.out
  obtain ⟨m0, m1, m2, m3⟩ := four K2.out
  obtain ⟨h0, h1⟩ := twob K3.out
  have fz := fun q => K3.out.frozen q
  have fw := fun q => K1.out.frozen q
  obtain rfl : f = true := by rw [V.out.2]; exact HH.out
  have HI := Lib.hid (fl.2 rfl)
  have hi7 : i < l.length := by rw [HE.out]; exact HI.out
  obtain ⟨g7, rfl, -, hB7, q0, q1, q2, q3, fz7⟩ := own_at O7.out hi7
  have ST1 := own_set (j := 0) O7.out hi7 (by decide) (.int .i64 x1) (x1, (l.getD i r0).2.1, (l.getD i r0).2.2.1, (l.getD i r0).2.2.2) rfl
  have ST2 := own_set (j := 1) ST1 (by rw [List.length_set]; exact hi7) (by decide) (.int .i64 x2) (x1, x2, (l.getD i r0).2.2.1, (l.getD i r0).2.2.2) (by rw [getD_set _ _ _ hi7]; rfl)
  have ST3 := own_set (j := 2) ST2 (by rw [List.length_set, List.length_set]; exact hi7) (by decide) (.int .i64 x3) (x1, x2, x3, (l.getD i r0).2.2.2) (by rw [getD_set _ _ _ (by rw [List.length_set]; exact hi7)]; rfl)
  have ST4 := own_set (j := 3) ST3 (by rw [List.length_set, List.length_set, List.length_set]; exact hi7) (by decide) (.int .i64 x4) (x1, x2, x3, x4) (by rw [getD_set _ _ _ (by rw [List.length_set, List.length_set]; exact hi7)]; rfl)
  rw [List.set_set, List.set_set, List.set_set] at ST4
  simp only [Nat.add_zero] at ST4
  have EQ := Lib.hid (show l.set i (x1, x2, x3, x4) = withL l (x1, x2, x3, x4) from by rw [HWL.out, ← V.out.2, ← V.out.1, if_pos rfl])
  have LQ := Lib.hid (show (withL l (x1, x2, x3, x4)).length = N by rw [← EQ.out, List.length_set]; exact HE.out)
  have i0 : (0 : Int) ≤ (i : Int) := by omega
  have iN : (i : Int) < (N : Int) := by have := HI.out; omega
  have zz := HZ.out
  have ne1 : G ≠ g7 := by omega
  have ne2 : G + 1 ≠ g7 := by omega
  have ne3 : G + 1 + 1 ≠ g7 := by omega
  have ST := Lib.hid ST4
  have far4 : ∀ (Y : World) (k : Nat) (t : TypeId) (cs : Array Value), k ≠ g7 → Blk Y k t cs → Blk ((((Y.setCell ⟨g7, i * 4, none⟩ (.int .i64 x1)).setCell ⟨g7, i * 4 + 1, none⟩ (.int .i64 x2)).setCell ⟨g7, i * 4 + 2, none⟩ (.int .i64 x3)).setCell ⟨g7, i * 4 + 3, none⟩ (.int .i64 x4)) k t cs := fun Y k t cs hk h => (((h.far hk _).far hk _).far hk _).far hk _
  replace K1 := Lib.hid (far4 _ _ _ _ ne1 K1.out)
  replace K2 := Lib.hid (far4 _ _ _ _ ne2 K2.out)
  replace K3 := Lib.hid (far4 _ _ _ _ ne3 K3.out)
  replace B := Lib.hid ((((B.out.setCell (p := ⟨g7, i * 4, none⟩) (show G ≤ g7 by omega) (.int .i64 x1)).setCell (p := ⟨g7, i * 4 + 1, none⟩) (show G ≤ g7 by omega) (.int .i64 x2)).setCell (p := ⟨g7, i * 4 + 2, none⟩) (show G ≤ g7 by omega) (.int .i64 x3)).setCell (p := ⟨g7, i * 4 + 3, none⟩) (show G ≤ g7 by omega) (.int .i64 x4))
  clear fl hi7 O7 ST1 ST2 ST3 ST4 far4 zz
  go_upto_region 9 with (fail)
  generalize hw7 : (((w8.setCell ⟨g7, i * 4, none⟩ (.int .i64 x1)).setCell ⟨g7, i * 4 + 1, none⟩ (.int .i64 x2)).setCell ⟨g7, i * 4 + 2, none⟩ (.int .i64 x3)).setCell ⟨g7, i * 4 + 3, none⟩ (.int .i64 x4) = w10 at ST K1 K2 K3 B ⊢
  clear hw7 q0 q1 q2 q3 fz7
  have O7 := ST
  clear d0 d1 m0 m1 m2 m3 h0 h1 fz fw
  obtain ⟨d0, d1⟩ := twob K1.out
  obtain ⟨m0, m1, m2, m3⟩ := four K2.out
  obtain ⟨h0, h1⟩ := twob K3.out
  have fz := fun q => K3.out.frozen q
  have fw := fun q => K1.out.frozen q
  go_wp2
  have K9 := Lib.hid (K3.out.set2 (.int .i64 len) (.slice (some ⟨g7, 0, none⟩) N c6))
  have B9 := Lib.hid ((B.out.setCell (p := ⟨G + 1 + 1, 0, none⟩) (by simp; omega) (.int .i64 len)).setCell (p := ⟨G + 1 + 1, 1, none⟩) (by simp; omega) (.slice (some ⟨g7, 0, none⟩) N c6))
  have O9 := Lib.hid (OwnR.far (OwnR.far O7.out (p := ⟨G + 1 + 1, 0, none⟩) (show G + 1 + 1 < Z by have := HZ.out; omega) (.int .i64 len)) (p := ⟨G + 1 + 1, 1, none⟩) (show G + 1 + 1 < Z by have := HZ.out; omega) (.slice (some ⟨g7, 0, none⟩) N c6))
  generalize hw2 : (w10.setCell ⟨G + 1 + 1, 0, none⟩ (.int .i64 len)).setCell ⟨G + 1 + 1, 1, none⟩ (.slice (some ⟨g7, 0, none⟩) N c6) = w9 at K9 B9 O9 ⊢
  clear hw2
  clear d0 d1 m0 m1 m2 m3 h0 h1 fz fw
  obtain ⟨d0, d1⟩ := twob K9.out
  refine bodyPost_ret (by simp [results, Try.results62, go_sem, d0, d1]; try rfl) rfl ?_
  refine ⟨⟨some ⟨g7, 0, none⟩, c6, by rw [LQ.out], ?_, fun p hp => by have := OwnR.block O9.out p hp; have := HZ.out; have := HG.out; omega⟩, by rw [HG.out]; exact B9.out⟩
  have h9 := O9.out
  rw [show N = (l.set i (x1, x2, x3, x4)).length by rw [List.length_set]; exact HE.out.symm] at h9
  obtain ⟨av, cv, ev, -, hv⟩ := OwnR.view encR_len h9
  injection ev with ev1
  subst ev1
  rw [← EQ.out]
  exact hv
set_option maxRecDepth 100000 in
set_option maxHeartbeats 4000000 in
theorem with_empty (len : Int) (a : Option Addr) (c : Nat) (l : List Rw) (x : Rw) (w : World) (hp : RwA w a l) (ord : OrdW l) (hm : l.length ≤ 10000) (h : hasC (cW x.1) l = false) (h2 : x = (x.1, 0, 0, 0)) :
    Calls Try.prog 62 #[.agg #[.int .i64 len, .slice a l.length c], .agg (encR x).toArray] w fun e w' => (∃ a' c', e = .returned (.tuple #[.agg #[.int .i64 len, .slice a' (withL l x).length c'], .int .i64 0]) ∧ RwA w' a' (withL l x) ∧ ∀ p, a' = some p → w.heap.size ≤ p.block) ∧ Below w.heap.size w w' := by
  have HP := Lib.hid hp
  have PL := Lib.hid (fun (a6 : Option Addr) (c6 : Nat) (X : World) (h : RwA X a6 l) => place_any len a6 c6 l x.1 X h (by omega))
  have FV := Lib.hid (fun (i : Nat) (f : Bool) (h : Found (cW x.1) l (.returned (.tuple #[.int .i64 i, .bool f]))) => (h.val.2.2 (ord.mono x.1) : i = posC (cW x.1) l ∧ f = hasC (cW x.1) l))
  have FL := Lib.hid (fun (i : Nat) (f : Bool) (h : Found (cW x.1) l (.returned (.tuple #[.int .i64 i, .bool f]))) => And.intro h.val.1 h.val.2.1)
  have CL := Lib.hid (fun (X : World) (h : RwA X a l) => Co.clone_any a c l X h (by omega))
  have HWL := Lib.hid (show withL l x = if hasC (cW x.1) l = true then l.set (posC (cW x.1) l) x else if x = (x.1, 0, 0, 0) then l else insL l (posC (cW x.1) l) x from rfl)
  obtain ⟨N, hN⟩ : ∃ N, l.length = N := ⟨_, rfl⟩
  have HE := Lib.hid hN
  simp only [hN] at PL FL CL
  try rw [hN] at h3
  rw [hN] at hm ⊢
  obtain ⟨x1, x2, x3, x4⟩ := x
  simp only [encR] at PL FV FL HWL h h2 ⊢
  have HH := Lib.hid h
  injection h2 with _ h2; injection h2 with ha h2; injection h2 with hb0 hc0
  subst ha; subst hb0; subst hc0
  clear hp hN ord h
  go_enter Try.func62, Try.ntmps62
  obtain ⟨G, hG⟩ : ∃ G, w.heap.size = G := ⟨_, rfl⟩
  have K1 := Lib.hid (show Blk ((((w.alloc (.cells #[.int .i64 len, .slice a N c] 45)).alloc (.cells #[.int .i64 x1, .int .i64 0, .int .i64 0, .int .i64 0] 89)).alloc (.cells #[.int .i64 0, .slice none 0 0] 45))) G 45 #[.int .i64 len, .slice a N c] from ((Blk.new' w _ _ _ hG rfl).alloc _).alloc _)
  have K2 := Lib.hid (show Blk ((((w.alloc (.cells #[.int .i64 len, .slice a N c] 45)).alloc (.cells #[.int .i64 x1, .int .i64 0, .int .i64 0, .int .i64 0] 89)).alloc (.cells #[.int .i64 0, .slice none 0 0] 45))) (G + 1) 89 #[.int .i64 x1, .int .i64 0, .int .i64 0, .int .i64 0] from (Blk.new' _ _ _ _ (by rw [World.size_alloc, hG]) rfl).alloc _)
  have K3 := Lib.hid (show Blk ((((w.alloc (.cells #[.int .i64 len, .slice a N c] 45)).alloc (.cells #[.int .i64 x1, .int .i64 0, .int .i64 0, .int .i64 0] 89)).alloc (.cells #[.int .i64 0, .slice none 0 0] 45))) (G + 1 + 1) 45 #[.int .i64 0, .slice none 0 0] from Blk.new' _ _ _ _ (by rw [World.size_alloc, World.size_alloc, hG]) rfl)
  have B := Lib.hid (show Below G w ((((w.alloc (.cells #[.int .i64 len, .slice a N c] 45)).alloc (.cells #[.int .i64 x1, .int .i64 0, .int .i64 0, .int .i64 0] 89)).alloc (.cells #[.int .i64 0, .slice none 0 0] 45))) by rw [← hG]; (repeat' (first | (with_reducible exact Below.refl _ _) | (with_reducible assumption) | (with_reducible refine Below.alloc ?_ ?_ _) | (with_reducible refine Below.drew ?_) | (with_reducible refine below_dn ?_) | (with_reducible refine Below.setCell ?_ ?_ _) | (with_reducible exact Nat.le_refl _) | omega | (simp only [World.size_alloc, World.size_setCell, World.size_drew]; omega) | (simp; omega) | (simp; done))))
  have HG := Lib.hid hG
  have H0 := Lib.hid (HP.out.mono (show Below w.heap.size w ((((w.alloc (.cells #[.int .i64 len, .slice a N c] 45)).alloc (.cells #[.int .i64 x1, .int .i64 0, .int .i64 0, .int .i64 0] 89)).alloc (.cells #[.int .i64 0, .slice none 0 0] 45))) by (repeat' (first | (with_reducible exact Below.refl _ _) | (with_reducible assumption) | (with_reducible refine Below.alloc ?_ ?_ _) | (with_reducible refine Below.drew ?_) | (with_reducible refine below_dn ?_) | (with_reducible refine Below.setCell ?_ ?_ _) | (with_reducible exact Nat.le_refl _) | omega | (simp only [World.size_alloc, World.size_setCell, World.size_drew]; omega) | (simp; omega) | (simp; done)))))
  go_upto_region 1 with (fail)
  try rw [hG]
  generalize hw0 : ((((w.alloc (.cells #[.int .i64 len, .slice a N c] 45)).alloc (.cells #[.int .i64 x1, .int .i64 0, .int .i64 0, .int .i64 0] 89)).alloc (.cells #[.int .i64 0, .slice none 0 0] 45))) = w0 at K1 K2 K3 B H0 ⊢
  clear hw0 hG
  obtain ⟨d0, d1⟩ := twob K1.out
  obtain ⟨m0, m1, m2, m3⟩ := four K2.out
  obtain ⟨h0, h1⟩ := twob K3.out
  have fz := fun q => K3.out.frozen q
  have fw := fun q => K1.out.frozen q
  go_wp2_with fail
  refine (CL.out _ H0.out).mono ?_
  rintro e w6 ⟨v6, rfl, ho, hb⟩
  obtain ⟨Z, hZ⟩ : ∃ Z, w0.heap.size = Z := ⟨_, rfl⟩
  have HZ := Lib.hid (show G + 3 ≤ Z by have := K3.out.lt; omega)
  have O6 := Lib.hid (show OwnR 89 4 encR w6 Z v6 l by rw [← hZ]; exact ho)
  have B6Z := Lib.hid (show Z ≤ w6.heap.size by rw [← hZ]; exact hb.size)
  replace K1 := Lib.hid (K1.out.below hb K1.out.lt)
  replace K2 := Lib.hid (K2.out.below hb K2.out.lt)
  replace K3 := Lib.hid (K3.out.below hb K3.out.lt)
  replace B := Lib.hid (B.out.trans (hb.mono (by have := B.out.size; have := HG.out; omega)))
  clear hb ho CL H0
  clear d0 d1 m0 m1 m2 m3 h0 h1 fz fw
  obtain ⟨d0, d1⟩ := twob K1.out
  obtain ⟨m0, m1, m2, m3⟩ := four K2.out
  obtain ⟨h0, h1⟩ := twob K3.out
  have fz := fun q => K3.out.frozen q
  have fw := fun q => K1.out.frozen q
  obtain ⟨a6, c6, rfl, -, -⟩ := OwnR.view encR_len O6.out
  rw [HE.out] at O6 ⊢
  replace O6 := Lib.hid (OwnR.far O6.out (p := ⟨G, 1, none⟩) (show G < Z by have := HZ.out; omega) (.slice a6 N c6))
  replace K1 := Lib.hid (show Blk (w6.setCell ⟨G, 1, none⟩ (.slice a6 N c6)) G 45 #[.int .i64 len, .slice a6 N c6] from K1.out.set_ 1 _)
  replace K2 := Lib.hid (K2.out.far (p := ⟨G, 1, none⟩) (by simp) (.slice a6 N c6))
  replace K3 := Lib.hid (K3.out.far (p := ⟨G, 1, none⟩) (by simp; omega) (.slice a6 N c6))
  replace B := Lib.hid (B.out.setCell (p := ⟨G, 1, none⟩) (Nat.le_refl _) (.slice a6 N c6))
  replace B6Z := Lib.hid (show Z ≤ (w6.setCell ⟨G, 1, none⟩ (.slice a6 N c6)).heap.size by have := B6Z.out; simp; omega)
  go_upto_region 2 with (fail)
  generalize hw7 : w6.setCell ⟨G, 1, none⟩ (.slice a6 N c6) = w7 at O6 K1 K2 K3 B B6Z ⊢
  clear hw7 hZ
  clear d0 d1 m0 m1 m2 m3 h0 h1 fz fw
  obtain ⟨d0, d1⟩ := twob K1.out
  obtain ⟨m0, m1, m2, m3⟩ := four K2.out
  obtain ⟨h0, h1⟩ := twob K3.out
  have fz := fun q => K3.out.frozen q
  have fw := fun q => K1.out.frozen q
  have HR6 := Lib.hid (show RwA w7 a6 l by
    have h6 := O6.out
    rw [← HE.out] at h6
    obtain ⟨av, cv, ev, -, hv⟩ := OwnR.view encR_len h6
    injection ev with ev1
    subst ev1
    exact hv)
  go_wp2_with fail
  refine (PL.out a6 c6 _ HR6.out).mono ?_
  rintro e w8 ⟨hf, hb⟩
  obtain ⟨i, f, rfl, H0⟩ := hf.tell
  have V := Lib.hid (FV.out i f H0)
  have fl := FL.out i f H0
  replace K1 := Lib.hid (K1.out.below hb K1.out.lt)
  replace K2 := Lib.hid (K2.out.below hb K2.out.lt)
  replace K3 := Lib.hid (K3.out.below hb K3.out.lt)
  replace B := Lib.hid (B.out.trans (hb.mono (by have := B.out.size; have := HG.out; omega)))
  have O7 := Lib.hid (OwnR.below O6.out hb)
  replace B6Z := Lib.hid (Nat.le_trans B6Z.out hb.size)
  clear hb hf H0 HR6 O6 PL FV FL
  clear d0 d1 m0 m1 m2 m3 h0 h1 fz fw
  obtain ⟨d0, d1⟩ := twob K1.out
  obtain ⟨m0, m1, m2, m3⟩ := four K2.out
  obtain ⟨h0, h1⟩ := twob K3.out
  have fz := fun q => K3.out.frozen q
  have fw := fun q => K1.out.frozen q
  obtain rfl : f = false := by rw [V.out.2]; exact HH.out
  have EQ := Lib.hid (show l = withL l (x1, 0, 0, 0) from by rw [HWL.out, ← V.out.2]; simp)
  have LQ := Lib.hid (show (withL l (x1, 0, 0, 0)).length = N by rw [← EQ.out]; exact HE.out)
  clear fl
  go_wp2
  have K9 := Lib.hid (K3.out.set2 (.int .i64 len) (.slice a6 N c6))
  have B9 := Lib.hid ((B.out.setCell (p := ⟨G + 1 + 1, 0, none⟩) (by simp; omega) (.int .i64 len)).setCell (p := ⟨G + 1 + 1, 1, none⟩) (by simp; omega) (.slice a6 N c6))
  have O9 := Lib.hid (OwnR.far (OwnR.far O7.out (p := ⟨G + 1 + 1, 0, none⟩) (show G + 1 + 1 < Z by have := HZ.out; omega) (.int .i64 len)) (p := ⟨G + 1 + 1, 1, none⟩) (show G + 1 + 1 < Z by have := HZ.out; omega) (.slice a6 N c6))
  generalize hw2 : (w8.setCell ⟨G + 1 + 1, 0, none⟩ (.int .i64 len)).setCell ⟨G + 1 + 1, 1, none⟩ (.slice a6 N c6) = w9 at K9 B9 O9 ⊢
  clear hw2
  clear d0 d1 m0 m1 m2 m3 h0 h1 fz fw
  obtain ⟨d0, d1⟩ := twob K9.out
  refine bodyPost_ret (by simp [results, Try.results62, go_sem, d0, d1]; try rfl) rfl ?_
  refine ⟨⟨a6, c6, by rw [LQ.out], ?_, fun p hp => by have := OwnR.block O9.out p hp; have := HZ.out; have := HG.out; omega⟩, by rw [HG.out]; exact B9.out⟩
  have h9 := O9.out
  rw [← HE.out] at h9
  obtain ⟨av, cv, ev, -, hv⟩ := OwnR.view encR_len h9
  injection ev with ev1
  subst ev1
  rw [← EQ.out]
  exact hv
set_option maxRecDepth 100000 in
set_option maxHeartbeats 4000000 in
theorem with_ins (len : Int) (a : Option Addr) (c : Nat) (l : List Rw) (x : Rw) (w : World) (hp : RwA w a l) (ord : OrdW l) (hm : l.length ≤ 10000) (h : hasC (cW x.1) l = false) (h2 : ¬ x = (x.1, 0, 0, 0)) (h3 : l.length < 10000) :
    Calls Try.prog 62 #[.agg #[.int .i64 len, .slice a l.length c], .agg (encR x).toArray] w fun e w' => (∃ a' c', e = .returned (.tuple #[.agg #[.int .i64 len, .slice a' (withL l x).length c'], .int .i64 0]) ∧ RwA w' a' (withL l x) ∧ ∀ p, a' = some p → w.heap.size ≤ p.block) ∧ Below w.heap.size w w' := by
  have HP := Lib.hid hp
  have PL := Lib.hid (fun (a6 : Option Addr) (c6 : Nat) (X : World) (h : RwA X a6 l) => place_any len a6 c6 l x.1 X h (by omega))
  have FV := Lib.hid (fun (i : Nat) (f : Bool) (h : Found (cW x.1) l (.returned (.tuple #[.int .i64 i, .bool f]))) => (h.val.2.2 (ord.mono x.1) : i = posC (cW x.1) l ∧ f = hasC (cW x.1) l))
  have FL := Lib.hid (fun (i : Nat) (f : Bool) (h : Found (cW x.1) l (.returned (.tuple #[.int .i64 i, .bool f]))) => And.intro h.val.1 h.val.2.1)
  have CL := Lib.hid (fun (X : World) (h : RwA X a l) => Co.clone_any a c l X h (by omega))
  have HWL := Lib.hid (show withL l x = if hasC (cW x.1) l = true then l.set (posC (cW x.1) l) x else if x = (x.1, 0, 0, 0) then l else insL l (posC (cW x.1) l) x from rfl)
  obtain ⟨N, hN⟩ : ∃ N, l.length = N := ⟨_, rfl⟩
  have HE := Lib.hid hN
  simp only [hN] at PL FL CL
  try rw [hN] at h3
  rw [hN] at hm ⊢
  obtain ⟨x1, x2, x3, x4⟩ := x
  simp only [encR] at PL FV FL HWL h h2 ⊢
  have HH := Lib.hid h
  have H2 := Lib.hid h2
  have heq : ∀ W : World, (binOp .eql 89 (.agg #[.int .i64 x1, .int .i64 x2, .int .i64 x3, .int .i64 x4]) (.agg #[.int .i64 x1, .int .i64 0, .int .i64 0, .int .i64 0])).run Try.prog W = .ok (.bool false) W := fun W => eq_coins_no x1 x2 x3 x4 W (fun q => h2 (by rw [q.1, q.2.1, q.2.2]))
  clear hp hN ord h h2
  go_enter Try.func62, Try.ntmps62
  obtain ⟨G, hG⟩ : ∃ G, w.heap.size = G := ⟨_, rfl⟩
  have K1 := Lib.hid (show Blk ((((w.alloc (.cells #[.int .i64 len, .slice a N c] 45)).alloc (.cells #[.int .i64 x1, .int .i64 x2, .int .i64 x3, .int .i64 x4] 89)).alloc (.cells #[.int .i64 0, .slice none 0 0] 45))) G 45 #[.int .i64 len, .slice a N c] from ((Blk.new' w _ _ _ hG rfl).alloc _).alloc _)
  have K2 := Lib.hid (show Blk ((((w.alloc (.cells #[.int .i64 len, .slice a N c] 45)).alloc (.cells #[.int .i64 x1, .int .i64 x2, .int .i64 x3, .int .i64 x4] 89)).alloc (.cells #[.int .i64 0, .slice none 0 0] 45))) (G + 1) 89 #[.int .i64 x1, .int .i64 x2, .int .i64 x3, .int .i64 x4] from (Blk.new' _ _ _ _ (by rw [World.size_alloc, hG]) rfl).alloc _)
  have K3 := Lib.hid (show Blk ((((w.alloc (.cells #[.int .i64 len, .slice a N c] 45)).alloc (.cells #[.int .i64 x1, .int .i64 x2, .int .i64 x3, .int .i64 x4] 89)).alloc (.cells #[.int .i64 0, .slice none 0 0] 45))) (G + 1 + 1) 45 #[.int .i64 0, .slice none 0 0] from Blk.new' _ _ _ _ (by rw [World.size_alloc, World.size_alloc, hG]) rfl)
  have B := Lib.hid (show Below G w ((((w.alloc (.cells #[.int .i64 len, .slice a N c] 45)).alloc (.cells #[.int .i64 x1, .int .i64 x2, .int .i64 x3, .int .i64 x4] 89)).alloc (.cells #[.int .i64 0, .slice none 0 0] 45))) by rw [← hG]; (repeat' (first | (with_reducible exact Below.refl _ _) | (with_reducible assumption) | (with_reducible refine Below.alloc ?_ ?_ _) | (with_reducible refine Below.drew ?_) | (with_reducible refine below_dn ?_) | (with_reducible refine Below.setCell ?_ ?_ _) | (with_reducible exact Nat.le_refl _) | omega | (simp only [World.size_alloc, World.size_setCell, World.size_drew]; omega) | (simp; omega) | (simp; done))))
  have HG := Lib.hid hG
  have H0 := Lib.hid (HP.out.mono (show Below w.heap.size w ((((w.alloc (.cells #[.int .i64 len, .slice a N c] 45)).alloc (.cells #[.int .i64 x1, .int .i64 x2, .int .i64 x3, .int .i64 x4] 89)).alloc (.cells #[.int .i64 0, .slice none 0 0] 45))) by (repeat' (first | (with_reducible exact Below.refl _ _) | (with_reducible assumption) | (with_reducible refine Below.alloc ?_ ?_ _) | (with_reducible refine Below.drew ?_) | (with_reducible refine below_dn ?_) | (with_reducible refine Below.setCell ?_ ?_ _) | (with_reducible exact Nat.le_refl _) | omega | (simp only [World.size_alloc, World.size_setCell, World.size_drew]; omega) | (simp; omega) | (simp; done)))))
  go_upto_region 1 with (fail)
  try rw [hG]
  generalize hw0 : ((((w.alloc (.cells #[.int .i64 len, .slice a N c] 45)).alloc (.cells #[.int .i64 x1, .int .i64 x2, .int .i64 x3, .int .i64 x4] 89)).alloc (.cells #[.int .i64 0, .slice none 0 0] 45))) = w0 at K1 K2 K3 B H0 ⊢
  clear hw0 hG
  obtain ⟨d0, d1⟩ := twob K1.out
  obtain ⟨m0, m1, m2, m3⟩ := four K2.out
  obtain ⟨h0, h1⟩ := twob K3.out
  have fz := fun q => K3.out.frozen q
  have fw := fun q => K1.out.frozen q
  go_wp2_with fail
  refine (CL.out _ H0.out).mono ?_
  rintro e w6 ⟨v6, rfl, ho, hb⟩
  obtain ⟨Z, hZ⟩ : ∃ Z, w0.heap.size = Z := ⟨_, rfl⟩
  have HZ := Lib.hid (show G + 3 ≤ Z by have := K3.out.lt; omega)
  have O6 := Lib.hid (show OwnR 89 4 encR w6 Z v6 l by rw [← hZ]; exact ho)
  have B6Z := Lib.hid (show Z ≤ w6.heap.size by rw [← hZ]; exact hb.size)
  replace K1 := Lib.hid (K1.out.below hb K1.out.lt)
  replace K2 := Lib.hid (K2.out.below hb K2.out.lt)
  replace K3 := Lib.hid (K3.out.below hb K3.out.lt)
  replace B := Lib.hid (B.out.trans (hb.mono (by have := B.out.size; have := HG.out; omega)))
  clear hb ho CL H0
  clear d0 d1 m0 m1 m2 m3 h0 h1 fz fw
  obtain ⟨d0, d1⟩ := twob K1.out
  obtain ⟨m0, m1, m2, m3⟩ := four K2.out
  obtain ⟨h0, h1⟩ := twob K3.out
  have fz := fun q => K3.out.frozen q
  have fw := fun q => K1.out.frozen q
  obtain ⟨a6, c6, rfl, -, -⟩ := OwnR.view encR_len O6.out
  rw [HE.out] at O6 ⊢
  replace O6 := Lib.hid (OwnR.far O6.out (p := ⟨G, 1, none⟩) (show G < Z by have := HZ.out; omega) (.slice a6 N c6))
  replace K1 := Lib.hid (show Blk (w6.setCell ⟨G, 1, none⟩ (.slice a6 N c6)) G 45 #[.int .i64 len, .slice a6 N c6] from K1.out.set_ 1 _)
  replace K2 := Lib.hid (K2.out.far (p := ⟨G, 1, none⟩) (by simp) (.slice a6 N c6))
  replace K3 := Lib.hid (K3.out.far (p := ⟨G, 1, none⟩) (by simp; omega) (.slice a6 N c6))
  replace B := Lib.hid (B.out.setCell (p := ⟨G, 1, none⟩) (Nat.le_refl _) (.slice a6 N c6))
  replace B6Z := Lib.hid (show Z ≤ (w6.setCell ⟨G, 1, none⟩ (.slice a6 N c6)).heap.size by have := B6Z.out; simp; omega)
  go_upto_region 2 with (fail)
  generalize hw7 : w6.setCell ⟨G, 1, none⟩ (.slice a6 N c6) = w7 at O6 K1 K2 K3 B B6Z ⊢
  clear hw7 hZ
  clear d0 d1 m0 m1 m2 m3 h0 h1 fz fw
  obtain ⟨d0, d1⟩ := twob K1.out
  obtain ⟨m0, m1, m2, m3⟩ := four K2.out
  obtain ⟨h0, h1⟩ := twob K3.out
  have fz := fun q => K3.out.frozen q
  have fw := fun q => K1.out.frozen q
  have HR6 := Lib.hid (show RwA w7 a6 l by
    have h6 := O6.out
    rw [← HE.out] at h6
    obtain ⟨av, cv, ev, -, hv⟩ := OwnR.view encR_len h6
    injection ev with ev1
    subst ev1
    exact hv)
  go_wp2_with fail
  refine (PL.out a6 c6 _ HR6.out).mono ?_
  rintro e w8 ⟨hf, hb⟩
  obtain ⟨i, f, rfl, H0⟩ := hf.tell
  have V := Lib.hid (FV.out i f H0)
  have fl := FL.out i f H0
  replace K1 := Lib.hid (K1.out.below hb K1.out.lt)
  replace K2 := Lib.hid (K2.out.below hb K2.out.lt)
  replace K3 := Lib.hid (K3.out.below hb K3.out.lt)
  replace B := Lib.hid (B.out.trans (hb.mono (by have := B.out.size; have := HG.out; omega)))
  have O7 := Lib.hid (OwnR.below O6.out hb)
  replace B6Z := Lib.hid (Nat.le_trans B6Z.out hb.size)
  clear hb hf H0 HR6 O6 PL FV FL
  clear d0 d1 m0 m1 m2 m3 h0 h1 fz fw
  obtain ⟨d0, d1⟩ := twob K1.out
  obtain ⟨m0, m1, m2, m3⟩ := four K2.out
  obtain ⟨h0, h1⟩ := twob K3.out
  have fz := fun q => K3.out.frozen q
  have fw := fun q => K1.out.frozen q
  obtain rfl : f = false := by rw [V.out.2]; exact HH.out
  have t3 : decide ((10000 : Int) ≤ (N : Int)) = false := decide_eq_false (by omega)
  have HI := Lib.hid fl.1
  clear fl
  have IN := Lib.hid (fun (X : World) (vb : Nat) (o : OwnR 89 4 encR X Z (.slice a6 N c6) l) (hB : Z ≤ X.heap.size) (hx : Blk X vb 89 (encR (x1, x2, x3, x4)).toArray) (hvb : ∀ k, (Value.slice a6 N c6).ownBlock = some k → vb ≠ k) => Co.ins_any (.slice a6 N c6) l i (x1, x2, x3, x4) vb Z X o (by rw [HE.out]; exact HI.out) (by rw [HE.out]; omega) hB hx hvb)
  have OLT := Lib.hid (fun k hk => (own_lt O7.out k hk).2)
  go_wp2_with fail
  refine (IN.out _ w8.heap.size (OwnR.alloc O7.out _) (by have := B6Z.out; simp; omega) (Blk.new w8 _ _) (fun k hk => by have := OLT.out k hk; omega)).mono ?_
  rintro e w9 ⟨v9, rfl, ho9, hb9⟩
  have zz := HZ.out
  have K1' := Lib.hid ((K1.out.alloc (.cells #[.int .i64 x1, .int .i64 x2, .int .i64 x3, .int .i64 x4] 89)).below hb9 (by omega))
  have K2' := Lib.hid ((K2.out.alloc (.cells #[.int .i64 x1, .int .i64 x2, .int .i64 x3, .int .i64 x4] 89)).below hb9 (by omega))
  have K3' := Lib.hid ((K3.out.alloc (.cells #[.int .i64 x1, .int .i64 x2, .int .i64 x3, .int .i64 x4] 89)).below hb9 (by omega))
  have B' := Lib.hid ((B.out.alloc (by have := B.out.size; have := HG.out; omega) (.cells #[.int .i64 x1, .int .i64 x2, .int .i64 x3, .int .i64 x4] 89)).trans (hb9.mono (by omega)))
  have O8 := Lib.hid ho9
  clear zz hb9 ho9 IN O7 OLT
  clear d0 d1 m0 m1 m2 m3 h0 h1 fz fw
  clear K1 K2 K3 B
  have K1 := K1'; have K2 := K2'; have K3 := K3'; have B := B'
  obtain ⟨d0, d1⟩ := twob K1.out
  obtain ⟨m0, m1, m2, m3⟩ := four K2.out
  obtain ⟨h0, h1⟩ := twob K3.out
  have fz := fun q => K3.out.frozen q
  have fw := fun q => K1.out.frozen q
  obtain ⟨a7, c7, rfl, -, -⟩ := OwnR.view encR_len O8.out
  obtain ⟨l7, hl7⟩ : ∃ l7, insL l i (x1, x2, x3, x4) = l7 := ⟨_, rfl⟩
  try rw [hl7] at O8
  have O9 := Lib.hid (OwnR.far O8.out (p := ⟨G, 1, none⟩) (show G < Z by have := HZ.out; omega) (.slice a7 l7.length c7))
  have K1n := Lib.hid (show Blk (w9.setCell ⟨G, 1, none⟩ (.slice a7 l7.length c7)) G 45 #[.int .i64 len, .slice a7 l7.length c7] from K1.out.set_ 1 _)
  have K2n := Lib.hid (K2.out.far (p := ⟨G, 1, none⟩) (by simp) (.slice a7 l7.length c7))
  have K3n := Lib.hid (K3.out.far (p := ⟨G, 1, none⟩) (by simp; omega) (.slice a7 l7.length c7))
  have Bn := Lib.hid (B.out.setCell (p := ⟨G, 1, none⟩) (Nat.le_refl _) (.slice a7 l7.length c7))
  have EQ := Lib.hid (show l7 = withL l (x1, x2, x3, x4) from by rw [HWL.out, ← V.out.2, if_neg (by simp), if_neg (by have := H2.out; exact this), ← V.out.1, hl7])
  have LQ := Lib.hid (show (withL l (x1, x2, x3, x4)).length = l7.length by rw [← EQ.out])
  try rw [hl7]
  go_upto_region 9 with (fail)
  try rw [hl7]
  generalize hw7 : w9.setCell ⟨G, 1, none⟩ (.slice a7 l7.length c7) = w10 at O9 K1n K2n K3n Bn ⊢
  clear hw7 O8 K1 K2 K3 B K1' K2' K3' B' hl7
  clear d0 d1 m0 m1 m2 m3 h0 h1 fz fw
  have K1 := K1n; have K2 := K2n; have K3 := K3n; have B := Bn; have O7 := O9
  clear K1n K2n K3n Bn O9
  obtain ⟨d0, d1⟩ := twob K1.out
  obtain ⟨m0, m1, m2, m3⟩ := four K2.out
  obtain ⟨h0, h1⟩ := twob K3.out
  have fz := fun q => K3.out.frozen q
  have fw := fun q => K1.out.frozen q
  go_wp2
  have K9 := Lib.hid (K3.out.set2 (.int .i64 len) (.slice a7 l7.length c7))
  have B9 := Lib.hid ((B.out.setCell (p := ⟨G + 1 + 1, 0, none⟩) (by simp; omega) (.int .i64 len)).setCell (p := ⟨G + 1 + 1, 1, none⟩) (by simp; omega) (.slice a7 l7.length c7))
  have O9 := Lib.hid (OwnR.far (OwnR.far O7.out (p := ⟨G + 1 + 1, 0, none⟩) (show G + 1 + 1 < Z by have := HZ.out; omega) (.int .i64 len)) (p := ⟨G + 1 + 1, 1, none⟩) (show G + 1 + 1 < Z by have := HZ.out; omega) (.slice a7 l7.length c7))
  generalize hw2 : (w10.setCell ⟨G + 1 + 1, 0, none⟩ (.int .i64 len)).setCell ⟨G + 1 + 1, 1, none⟩ (.slice a7 l7.length c7) = w9 at K9 B9 O9 ⊢
  clear hw2
  clear d0 d1 m0 m1 m2 m3 h0 h1 fz fw
  obtain ⟨d0, d1⟩ := twob K9.out
  refine bodyPost_ret (by simp [results, Try.results62, go_sem, d0, d1]; try rfl) rfl ?_
  refine ⟨⟨a7, c7, by rw [LQ.out], ?_, fun p hp => by have := OwnR.block O9.out p hp; have := HZ.out; have := HG.out; omega⟩, by rw [HG.out]; exact B9.out⟩
  have h9 := O9.out
  obtain ⟨av, cv, ev, -, hv⟩ := OwnR.view encR_len h9
  injection ev with ev1
  subst ev1
  rw [← EQ.out]
  exact hv
end Go.Proofs.Ytcgdhankllphgaa
