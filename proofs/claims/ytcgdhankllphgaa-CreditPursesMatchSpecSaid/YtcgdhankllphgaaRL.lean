/- Contracts: Receive where the purse is full. -/
import Derived.Test.YtcgdhankllphgaaRV
namespace Go.Proofs.Ytcgdhankllphgaa
set_option linter.unusedVariables false
set_option linter.unusedSimpArgs false
open Go.RowKit
set_option maxRecDepth 100000 in
set_option maxHeartbeats 4000000 in
theorem recv_limit (len : Int) (a : Option Addr) (c : Nat) (l : List Rw) (wi n : Int) (w : World) (hp : RwA w a l) (ok : OkP len l) (p1 : winOk wi) (p2 : 0 ≤ n ∧ n ≤ 1099511627776) (h : hasC (cW wi) l = false) (hn : 0 < n) (h2 : 10000 ≤ l.length) :
    Calls Try.prog 25 #[.agg #[.int .i64 len, .slice a l.length c], .int .i64 wi, .int .i64 n] w fun e w' => e = .returned (.tuple #[.agg #[.int .i64 0, .slice none 0 0], .int .i64 2]) ∧ Below w.heap.size w w' := by
  have HP := Lib.hid hp
  have hm := ok.head.2
  have C := Lib.hid (fun (X : World) (h : RwA X a l) => validp_yes ok a c X h)
  have C1 := Lib.hid (fun W => win_yes p1 W)
  have C2 := Lib.hid (fun W => within_yes (n := n) (a := 0) (b := 1099511627776) p2 W)
  have CO := Lib.hid (fun (X : World) (h : RwA X a l) => coin_any len a c l wi X h ok)
  have bd := coinL_ok ok wi
  have cw := coinL_w (l := l) wi
  have he : coinL l wi = (wi, 0, 0, 0) := by unfold coinL; rw [h]; rfl
  have WI := Lib.hid (fun (X : World) (q : RwA X a l) => with_limit len a c l (wi, n, 0, 0) X q ok.ord (by omega) h (by simp; omega) h2)
  obtain ⟨N, hN⟩ : ∃ N, l.length = N := ⟨_, rfl⟩
  simp only [hN] at C CO WI
  rw [hN]
  rw [he] at CO
  simp only [encR] at CO WI
  obtain ⟨x1, hx1⟩ : ∃ z, wi = z := ⟨_, rfl⟩
  obtain ⟨x2, hx2⟩ : ∃ z : Int, 0 = z := ⟨_, rfl⟩
  have t1 : decide ((0 : Int) < n) = true := decide_eq_true hn
  clear hp ok hN h h2 hn p1 p2 bd cw he hx1 hx2 x1 x2
  go_enter Try.func25, Try.ntmps25
  obtain ⟨G, hG⟩ : ∃ G, w.heap.size = G := ⟨_, rfl⟩
  have K1 := Lib.hid (show Blk ((w.alloc (.cells #[.int .i64 len, .slice a N c] 45)).alloc (.cells #[.int .i64 0, .slice none 0 0] 45)) G 45 #[.int .i64 len, .slice a N c] from (Blk.new' w _ _ _ hG rfl).alloc _)
  have K2 := Lib.hid (show Blk ((w.alloc (.cells #[.int .i64 len, .slice a N c] 45)).alloc (.cells #[.int .i64 0, .slice none 0 0] 45)) (G + 1) 45 #[.int .i64 0, .slice none 0 0] from Blk.new' _ _ _ _ (by rw [World.size_alloc, hG]) rfl)
  have B := Lib.hid (show Below G w ((w.alloc (.cells #[.int .i64 len, .slice a N c] 45)).alloc (.cells #[.int .i64 0, .slice none 0 0] 45)) by rw [← hG]; (repeat' (first | (with_reducible exact Below.refl _ _) | (with_reducible assumption) | (with_reducible refine Below.alloc ?_ ?_ _) | (with_reducible refine Below.drew ?_) | (with_reducible refine below_dn ?_) | (with_reducible refine Below.setCell ?_ ?_ _) | (with_reducible exact Nat.le_refl _) | omega | (simp only [World.size_alloc, World.size_setCell, World.size_drew]; omega) | (simp; omega) | (simp; done))))
  have HG := Lib.hid hG
  have H0 := Lib.hid (HP.out.mono (show Below w.heap.size w ((w.alloc (.cells #[.int .i64 len, .slice a N c] 45)).alloc (.cells #[.int .i64 0, .slice none 0 0] 45)) by (repeat' (first | (with_reducible exact Below.refl _ _) | (with_reducible assumption) | (with_reducible refine Below.alloc ?_ ?_ _) | (with_reducible refine Below.drew ?_) | (with_reducible refine below_dn ?_) | (with_reducible refine Below.setCell ?_ ?_ _) | (with_reducible exact Nat.le_refl _) | omega | (simp only [World.size_alloc, World.size_setCell, World.size_drew]; omega) | (simp; omega) | (simp; done)))))
  go_upto_region 1 with (fail)
  try rw [hG]
  generalize hw0 : ((w.alloc (.cells #[.int .i64 len, .slice a N c] 45)).alloc (.cells #[.int .i64 0, .slice none 0 0] 45)) = w0 at K1 K2 B H0 ⊢
  clear hw0 hG
  obtain ⟨d0, d1⟩ := twob K1.out
  obtain ⟨h0, h1⟩ := twob K2.out
  have fz := fun q => K2.out.frozen q
  go_wp2_with fail
  refine (C.out _ H0.out).mono ?_
  rintro e w1 ⟨rfl, hb⟩
  replace K1 := Lib.hid (K1.out.below hb K1.out.lt)
  replace K2 := Lib.hid (K2.out.below hb K2.out.lt)
  replace B := Lib.hid (B.out.trans (hb.mono (by have := B.out.size; have := HG.out; omega)))
  have H1 := Lib.hid (H0.out.mono hb)
  clear hb H0
  clear d0 d1 h0 h1 fz
  obtain ⟨d0, d1⟩ := twob K1.out
  obtain ⟨h0, h1⟩ := twob K2.out
  have fz := fun q => K2.out.frozen q
  go_wp2_with fail
  refine (C1.out _).mono ?_
  rintro e wz ⟨rfl, rfl⟩
  go_wp2_with fail
  refine (C2.out _).mono ?_
  rintro e wz ⟨rfl, rfl⟩
  go_wp2_with fail
  refine (CO.out _ H1.out).mono ?_
  rintro e w2 ⟨rfl, hb⟩
  replace K1 := Lib.hid (K1.out.below hb K1.out.lt)
  replace K2 := Lib.hid (K2.out.below hb K2.out.lt)
  replace B := Lib.hid (B.out.trans (hb.mono (by have := B.out.size; have := HG.out; omega)))
  have KL := Lib.hid K2.out.lt
  replace H1 := Lib.hid (H1.out.mono hb)
  clear hb
  clear d0 d1 h0 h1 fz
  obtain ⟨g, hg⟩ : ∃ g, w2.heap.size = g := ⟨_, rfl⟩
  have KC := Lib.hid (show Blk (w2.alloc (.cells #[.int .i64 wi, .int .i64 0, .int .i64 0, .int .i64 0] 89)) g 89 #[.int .i64 wi, .int .i64 0, .int .i64 0, .int .i64 0] from Blk.new' w2 _ _ _ hg rfl)
  replace K1 := Lib.hid (K1.out.alloc (.cells #[.int .i64 wi, .int .i64 0, .int .i64 0, .int .i64 0] 89))
  replace K2 := Lib.hid (K2.out.alloc (.cells #[.int .i64 wi, .int .i64 0, .int .i64 0, .int .i64 0] 89))
  have GL := Lib.hid (show G + 1 < g by rw [← hg]; have := K2.out.lt; simp at this; rcases Nat.lt_or_ge (G + 1) w2.heap.size with q | q; exact q; exact absurd q (by have := KL.out; omega))
  replace B := Lib.hid (B.out.alloc (by have := B.out.size; have := HG.out; omega) (.cells #[.int .i64 wi, .int .i64 0, .int .i64 0, .int .i64 0] 89))
  replace H1 := Lib.hid (H1.out.mono ((Below.refl _ w2).alloc (Nat.le_refl _) (.cells #[.int .i64 wi, .int .i64 0, .int .i64 0, .int .i64 0] 89)))
  go_upto_region 4 with (fail)
  try rw [hg]
  generalize hw3 : w2.alloc (.cells #[.int .i64 wi, .int .i64 0, .int .i64 0, .int .i64 0] 89) = w3 at KC K1 K2 B H1 ⊢
  clear hw3 hg
  obtain ⟨m0, m1, m2, m3⟩ := four KC.out
  obtain ⟨d0, d1⟩ := twob K1.out
  obtain ⟨h0, h1⟩ := twob K2.out
  have fz := fun q => K2.out.frozen q
  have fq := KC.out.frozen
  have KC2 := Lib.hid (show Blk (w3.setCell ⟨g, 1, none⟩ (.int .i64 n)) g 89 #[.int .i64 wi, .int .i64 n, .int .i64 0, .int .i64 0] from KC.out.set_ 1 _)
  have K1n := Lib.hid (K1.out.far (p := ⟨g, 1, none⟩) (show G ≠ g by have := GL.out; omega) (.int .i64 n))
  have K2n := Lib.hid (K2.out.far (p := ⟨g, 1, none⟩) (show G + 1 ≠ g by have := GL.out; omega) (.int .i64 n))
  have Bn := Lib.hid (B.out.setCell (p := ⟨g, 1, none⟩) (show G ≤ g by have := GL.out; omega) (.int .i64 n))
  have Hn := Lib.hid (show RwA (w3.setCell ⟨g, 1, none⟩ (.int .i64 n)) a l from HP.out.mono (by rw [HG.out]; exact Bn.out))
  go_upto_region 6 with (fail)
  generalize hw4 : w3.setCell ⟨g, 1, none⟩ (.int .i64 n) = w4 at KC2 K1n K2n Bn Hn ⊢
  clear hw4 m0 m1 m2 m3 fq H1 K1 K2 B KC
  clear d0 d1 h0 h1 fz
  have K1 := K1n; have K2 := K2n; have B := Bn; have H1 := Hn
  clear K1n K2n Bn Hn
  obtain ⟨m0, m1, m2, m3⟩ := four KC2.out
  obtain ⟨d0, d1⟩ := twob K1.out
  obtain ⟨h0, h1⟩ := twob K2.out
  have fz := fun q => K2.out.frozen q
  have HLG := Lib.hid (show G + 1 < w4.heap.size from K2.out.lt)
  have HLW := Lib.hid (show w.heap.size ≤ w4.heap.size from B.out.size)
  go_wp2_with fail
  refine (WI.out _ H1.out).mono ?_
  rintro e w5 ⟨rfl, hb⟩
  replace K1 := Lib.hid (K1.out.below hb K1.out.lt)
  replace K2 := Lib.hid (K2.out.below hb K2.out.lt)
  replace B := Lib.hid (B.out.trans (hb.mono (by have := B.out.size; have := HG.out; omega)))
  clear d0 d1 h0 h1 fz
  clear m0 m1 m2 m3
  obtain ⟨d0, d1⟩ := twob K1.out
  obtain ⟨h0, h1⟩ := twob K2.out
  have fz := fun q => K2.out.frozen q
  go_wp2
  have K9 := Lib.hid (K2.out.set2 (.int .i64 0) (.slice none 0 0))
  have B9 := Lib.hid ((B.out.setCell (p := ⟨G + 1, 0, none⟩) (by simp; try omega) (.int .i64 0)).setCell (p := ⟨G + 1, 1, none⟩) (by simp; try omega) (.slice none 0 0))
  generalize hw2 : (w5.setCell ⟨G + 1, 0, none⟩ (.int .i64 0)).setCell ⟨G + 1, 1, none⟩ (.slice none 0 0) = w9 at K9 B9 ⊢
  clear hw2
  clear d0 d1 h0 h1 fz
  obtain ⟨d0, d1⟩ := twob K9.out
  refine bodyPost_ret (by simp [results, Try.results25, go_sem, d0, d1]; try rfl) rfl ?_
  exact ⟨rfl, by rw [HG.out]; exact B9.out⟩
end Go.Proofs.Ytcgdhankllphgaa
