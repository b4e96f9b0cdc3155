import Derived.Test.YtcgdhankllphgaaRRT
import Derived.Test.YtcgdhankllphgaaRVP
import Derived.Test.YtcgdhankllphgaaRY5
import Derived.Test.YtcgdhankllphgaaRPE
namespace Go.Proofs.Ytcgdhankllphgaa
set_option linter.unusedVariables false
set_option linter.unusedSimpArgs false
set_option linter.unusedSectionVars false
open Go.RowKit
def goneB (len lo : Int) (x : Rw) : Bool := decide ((x.1 + 1) * len ≤ lo)
set_option maxHeartbeats 400000 in
theorem goneB_any (x : Rw) (g0 g1 : Nat) (cap len lo hi : Int) (s : Value) (w : World) (h0 : Blk w g0 24 #[.int .i64 cap, .int .i64 len, s]) (h1 : Blk w g1 26 #[.int .i64 lo, .int .i64 hi]) (hx : winOk x.1) (hl : 1 ≤ len ∧ len ≤ 3600000) :
    Calls Try.prog 51 #[.agg (encR x).toArray, .pointer (some ⟨g0, 0, none⟩), .pointer (some ⟨g1, 0, none⟩)] w fun e w' => e = .returned (.bool (goneB len lo x)) ∧ Below w.heap.size w w' := by
  have OV := Lib.hid (fun X : World => over_any x.1 len lo hi X hx hl)
  obtain ⟨r, hr⟩ : ∃ r, goneB len lo x = r := ⟨_, rfl⟩
  have e : decide ((x.1 + 1) * len ≤ lo) = r := hr
  rw [e] at OV
  rw [hr]
  obtain ⟨x1, x2, x3, x4⟩ := x
  simp only [encR] at OV ⊢
  clear e hr hx hl
  have K0 := Lib.hid (h0.alloc (.cells #[.int .i64 x1, .int .i64 x2, .int .i64 x3, .int .i64 x4] 72))
  have K1 := Lib.hid (h1.alloc (.cells #[.int .i64 x1, .int .i64 x2, .int .i64 x3, .int .i64 x4] 72))
  have KX := Lib.hid (show Blk (w.alloc (.cells #[.int .i64 x1, .int .i64 x2, .int .i64 x3, .int .i64 x4] 72)) w.heap.size 72 #[.int .i64 x1, .int .i64 x2, .int .i64 x3, .int .i64 x4] from Blk.new' w _ _ _ rfl rfl)
  have B := Lib.hid (show Below w.heap.size w (w.alloc (.cells #[.int .i64 x1, .int .i64 x2, .int .i64 x3, .int .i64 x4] 72)) by (repeat' (first | (with_reducible exact Below.refl _ _) | (with_reducible assumption) | (with_reducible refine Below.alloc ?_ ?_ _) | (with_reducible refine Below.drew ?_) | (with_reducible refine below_dn ?_) | (with_reducible refine Below.setCell ?_ ?_ _) | (with_reducible exact Nat.le_refl _) | omega | (simp only [World.size_alloc, World.size_setCell, World.size_drew]; omega) | (simp; omega) | (simp; done))))
  clear h0 h1
  go_enter Try.func51, Try.ntmps51
  go_upto_region 1 with (fail)
  generalize hw : w.alloc (.cells #[.int .i64 x1, .int .i64 x2, .int .i64 x3, .int .i64 x4] 72) = w1 at K0 K1 KX B ⊢
  clear hw
  obtain ⟨d0, d1, d2⟩ := three K0.out
  obtain ⟨t0, t1⟩ := twob K1.out
  obtain ⟨m0, m1, m2, m3⟩ := four KX.out
  go_wp2_with fail
  refine (OV.out _).mono ?_
  rintro e w5 ⟨rfl, hb⟩
  have B5 := Lib.hid (B.out.trans (hb.mono B.out.size))
  clear hb
  go_wp2
  go_ret
  exact ⟨rfl, B5.out⟩
set_option maxRecDepth 100000 in
set_option maxHeartbeats 4000000 in
theorem forget_ok (cap len : Int) (a : Option Addr) (c : Nat) (l : List Rw) (lo hi : Int) (w : World) (hp : RwA w a l) (ok : OkB cap len l) (p1 : perB lo hi = true) (hwn : ∀ x ∈ l, winOk x.1) :
    Calls Try.prog 12 #[.agg #[.int .i64 cap, .int .i64 len, .slice a l.length c], per lo hi] w fun e w' => (∃ a' c', e = .returned (.tuple #[.agg #[.int .i64 cap, .int .i64 len, .slice a' (forgetL l len lo).length c'], .int .i64 0]) ∧ RwA w' a' (forgetL l len lo) ∧ ∀ p, a' = some p → w.heap.size ≤ p.block) ∧ Below w.heap.size w w' := by
  have HP := Lib.hid hp
  have hl : 1 ≤ len ∧ len ≤ 3600000 := ok.head.2.1
  have hm : l.length ≤ 10000 := ok.head.2.2
  have C := Lib.hid (fun (X : World) (h : RwA X a l) => valid_yes ok a c X h)
  have CV := Lib.hid (fun X : World => cvalid_any lo hi X)
  rw [p1] at CV
  have WO := Lib.hid (fun (G : Nat) (X : World) (h : RwA X a l) (h1 : Blk X G 24 #[.int .i64 cap, .int .i64 len, .slice a l.length c] ∧ Blk X (G + 1) 26 #[.int .i64 lo, .int .i64 hi]) (h2 : G + 1 + 1 ≤ X.heap.size) =>
    Ro.without_any a c l (.pointer (some ⟨G, 0, none⟩)) (.pointer (some ⟨G + 1, 0, none⟩)) (G + 1 + 1) (fun Y => Blk Y G 24 #[.int .i64 cap, .int .i64 len, .slice a l.length c] ∧ Blk Y (G + 1) 26 #[.int .i64 lo, .int .i64 hi])
      (fun Y Y' k hb => ⟨(hb.block G (by omega)).trans k.1, (hb.block (G + 1) (by omega)).trans k.2⟩) (goneB len lo) X (fun x W k hx => goneB_any x G (G + 1) cap len lo hi _ W k.1 k.2 (hwn x hx) hl) h1 h2 h (by omega))
  have HFL := Lib.hid (show (l.filter fun x => ! goneB len lo x) = forgetL l len lo from rfl)
  simp only [HFL.out] at WO
  obtain ⟨F, hF⟩ : ∃ F, forgetL l len lo = F := ⟨_, rfl⟩
  simp only [hF] at WO
  rw [hF]
  obtain ⟨N, hN⟩ : ∃ N, l.length = N := ⟨_, rfl⟩
  simp only [hN] at C WO
  rw [hN]
  clear hp hF hN hl hm HFL hwn ok p1
  go_enter Try.func12, Try.ntmps12
  obtain ⟨G, hG⟩ : ∃ G, w.heap.size = G := ⟨_, rfl⟩
  have K1 := Lib.hid (show Blk (((w.alloc (.cells #[.int .i64 cap, .int .i64 len, .slice a N c] 24)).alloc (.cells #[.int .i64 lo, .int .i64 hi] 26)).alloc (.cells #[.int .i64 0, .int .i64 0, .slice none 0 0] 24)) G 24 #[.int .i64 cap, .int .i64 len, .slice a N c] from ((Blk.new' w _ _ _ hG rfl).alloc _).alloc _)
  have KT := Lib.hid (show Blk (((w.alloc (.cells #[.int .i64 cap, .int .i64 len, .slice a N c] 24)).alloc (.cells #[.int .i64 lo, .int .i64 hi] 26)).alloc (.cells #[.int .i64 0, .int .i64 0, .slice none 0 0] 24)) (G + 1) 26 #[.int .i64 lo, .int .i64 hi] from (Blk.new' _ _ _ _ (by rw [World.size_alloc, hG]) rfl).alloc _)
  have K3 := Lib.hid (show Blk (((w.alloc (.cells #[.int .i64 cap, .int .i64 len, .slice a N c] 24)).alloc (.cells #[.int .i64 lo, .int .i64 hi] 26)).alloc (.cells #[.int .i64 0, .int .i64 0, .slice none 0 0] 24)) (G + 1 + 1) 24 #[.int .i64 0, .int .i64 0, .slice none 0 0] from Blk.new' _ _ _ _ (by rw [World.size_alloc, World.size_alloc, hG]) rfl)
  have B := Lib.hid (show Below G w (((w.alloc (.cells #[.int .i64 cap, .int .i64 len, .slice a N c] 24)).alloc (.cells #[.int .i64 lo, .int .i64 hi] 26)).alloc (.cells #[.int .i64 0, .int .i64 0, .slice none 0 0] 24)) by rw [← hG]; (repeat' (first | (with_reducible exact Below.refl _ _) | (with_reducible assumption) | (with_reducible refine Below.alloc ?_ ?_ _) | (with_reducible refine Below.drew ?_) | (with_reducible refine below_dn ?_) | (with_reducible refine Below.setCell ?_ ?_ _) | (with_reducible exact Nat.le_refl _) | omega | (simp only [World.size_alloc, World.size_setCell, World.size_drew]; omega) | (simp; omega) | (simp; done))))
  have HG := Lib.hid hG
  have H0 := Lib.hid (HP.out.mono (show Below w.heap.size w (((w.alloc (.cells #[.int .i64 cap, .int .i64 len, .slice a N c] 24)).alloc (.cells #[.int .i64 lo, .int .i64 hi] 26)).alloc (.cells #[.int .i64 0, .int .i64 0, .slice none 0 0] 24)) by (repeat' (first | (with_reducible exact Below.refl _ _) | (with_reducible assumption) | (with_reducible refine Below.alloc ?_ ?_ _) | (with_reducible refine Below.drew ?_) | (with_reducible refine below_dn ?_) | (with_reducible refine Below.setCell ?_ ?_ _) | (with_reducible exact Nat.le_refl _) | omega | (simp only [World.size_alloc, World.size_setCell, World.size_drew]; omega) | (simp; omega) | (simp; done)))))
  go_upto_region 1 with (fail)
  try rw [hG]
  generalize hw0 : (((w.alloc (.cells #[.int .i64 cap, .int .i64 len, .slice a N c] 24)).alloc (.cells #[.int .i64 lo, .int .i64 hi] 26)).alloc (.cells #[.int .i64 0, .int .i64 0, .slice none 0 0] 24)) = w0 at K1 KT K3 B H0 ⊢
  clear hw0 hG
  obtain ⟨d0, d1, d2⟩ := three K1.out
  obtain ⟨t0, t1⟩ := twob KT.out
  obtain ⟨h0, h1, h2⟩ := three K3.out
  have fz := fun q => K3.out.frozen q
  have fw := fun q => K1.out.frozen q
  go_wp2_with fail
  refine (C.out _ H0.out).mono ?_
  rintro e w1 ⟨rfl, hb⟩
  replace K1 := Lib.hid (K1.out.below hb K1.out.lt)
  replace KT := Lib.hid (KT.out.below hb KT.out.lt)
  replace K3 := Lib.hid (K3.out.below hb K3.out.lt)
  replace B := Lib.hid (B.out.trans (hb.mono (by have := B.out.size; have := HG.out; omega)))
  replace H0 := Lib.hid (H0.out.mono hb)
  clear hb
  clear d0 d1 d2 t0 t1 h0 h1 h2 fz fw
  obtain ⟨d0, d1, d2⟩ := three K1.out
  obtain ⟨t0, t1⟩ := twob KT.out
  obtain ⟨h0, h1, h2⟩ := three K3.out
  have fz := fun q => K3.out.frozen q
  have fw := fun q => K1.out.frozen q
  go_wp2_with fail
  refine (CV.out _).mono ?_
  rintro e w2 ⟨rfl, hb⟩
  replace K1 := Lib.hid (K1.out.below hb K1.out.lt)
  replace KT := Lib.hid (KT.out.below hb KT.out.lt)
  replace K3 := Lib.hid (K3.out.below hb K3.out.lt)
  replace B := Lib.hid (B.out.trans (hb.mono (by have := B.out.size; have := HG.out; omega)))
  replace H0 := Lib.hid (H0.out.mono hb)
  clear hb
  clear d0 d1 d2 t0 t1 h0 h1 h2 fz fw
  obtain ⟨d0, d1, d2⟩ := three K1.out
  obtain ⟨t0, t1⟩ := twob KT.out
  obtain ⟨h0, h1, h2⟩ := three K3.out
  have fz := fun q => K3.out.frozen q
  have fw := fun q => K1.out.frozen q
  have JJ := Lib.hid (And.intro K1.out KT.out)
  go_wp2_with fail
  refine (WO.out G w2 H0.out JJ.out (by have := K3.out.lt; omega)).mono ?_
  rintro e w6 ⟨⟨v6, rfl, ho⟩, hb⟩
  obtain ⟨Z, hZ⟩ : ∃ Z, w2.heap.size = Z := ⟨_, rfl⟩
  have HZ := Lib.hid (show G + 3 ≤ Z by have := K3.out.lt; omega)
  have O6 := Lib.hid (show OwnR 72 4 encR w6 Z v6 F by rw [← hZ]; exact ho)
  replace K1 := Lib.hid (K1.out.below hb K1.out.lt)
  replace KT := Lib.hid (KT.out.below hb KT.out.lt)
  replace K3 := Lib.hid (K3.out.below hb K3.out.lt)
  replace B := Lib.hid (B.out.trans (hb.mono (by have := B.out.size; have := HG.out; omega)))
  clear hb ho H0 JJ WO hZ
  clear d0 d1 d2 t0 t1 h0 h1 h2 fz fw
  obtain ⟨d0, d1, d2⟩ := three K1.out
  obtain ⟨t0, t1⟩ := twob KT.out
  obtain ⟨h0, h1, h2⟩ := three K3.out
  have fz := fun q => K3.out.frozen q
  have fw := fun q => K1.out.frozen q
  obtain ⟨a6, c6, rfl, -, -⟩ := OwnR.view encR_len O6.out
  replace O6 := Lib.hid (OwnR.far O6.out (p := ⟨G, 2, none⟩) (show G < Z by have := HZ.out; omega) (.slice a6 F.length c6))
  replace K1 := Lib.hid (show Blk (w6.setCell ⟨G, 2, none⟩ (.slice a6 F.length c6)) G 24 #[.int .i64 cap, .int .i64 len, .slice a6 F.length c6] from K1.out.set_ 2 _)
  replace K3 := Lib.hid (K3.out.far (p := ⟨G, 2, none⟩) (by simp; omega) (.slice a6 F.length c6))
  replace B := Lib.hid (B.out.setCell (p := ⟨G, 2, none⟩) (Nat.le_refl _) (.slice a6 F.length c6))
  go_upto_region 4 with (fail)
  generalize hw7 : w6.setCell ⟨G, 2, none⟩ (.slice a6 F.length c6) = w7 at O6 K1 K3 B ⊢
  clear hw7 KT
  clear d0 d1 d2 t0 t1 h0 h1 h2 fz fw
  obtain ⟨d0, d1, d2⟩ := three K1.out
  obtain ⟨h0, h1, h2⟩ := three K3.out
  have fz := fun q => K3.out.frozen q
  go_wp2
  have K9 := Lib.hid (K3.out.set3 (.int .i64 cap) (.int .i64 len) (.slice a6 F.length c6))
  have B9 := Lib.hid (((((((B.out).setCell (p := ⟨G + 1 + 1, 0, none⟩) (by simp; omega) (.int .i64 cap))).setCell (p := ⟨G + 1 + 1, 1, none⟩) (by simp; omega) (.int .i64 len))).setCell (p := ⟨G + 1 + 1, 2, none⟩) (by simp; omega) (.slice a6 F.length c6)))
  have O9 := Lib.hid ((OwnR.far (OwnR.far (OwnR.far O6.out (p := ⟨G + 1 + 1, 0, none⟩) (show G + 1 + 1 < Z by have := HZ.out; omega) (.int .i64 cap)) (p := ⟨G + 1 + 1, 1, none⟩) (show G + 1 + 1 < Z by have := HZ.out; omega) (.int .i64 len)) (p := ⟨G + 1 + 1, 2, none⟩) (show G + 1 + 1 < Z by have := HZ.out; omega) (.slice a6 F.length c6)))
  simp only [set3] at K9
  generalize hw2 : (((w7).setCell ⟨G + 1 + 1, 0, none⟩ (.int .i64 cap)).setCell ⟨G + 1 + 1, 1, none⟩ (.int .i64 len)).setCell ⟨G + 1 + 1, 2, none⟩ (.slice a6 F.length c6) = w9 at K9 B9 O9 ⊢
  clear hw2 d0 d1 d2 h0 h1 h2 fz
  obtain ⟨d0, d1, d2⟩ := three K9.out
  refine bodyPost_ret (by simp [results, Try.results12, go_sem, d0, d1, d2]; try rfl) rfl ?_
  refine ⟨⟨a6, c6, rfl, ?_, fun p hp => by have := OwnR.block O9.out p hp; have := HZ.out; have := HG.out; omega⟩, by rw [HG.out]; exact B9.out⟩
  obtain ⟨av, cv, ev, -, hv⟩ := OwnR.view encR_len O9.out
  injection ev with ev1
  subst ev1
  exact hv
end Go.Proofs.Ytcgdhankllphgaa
