import Derived.Test.YtcgdhankllphgaaRWI
namespace Go.Proofs.Ytcgdhankllphgaa
set_option linter.unusedVariables false
set_option linter.unusedSimpArgs false
set_option linter.unusedSectionVars false
open Go.RowKit
theorem with_ok (len : Int) (a : Option Addr) (c : Nat) (l : List Rw) (x : Rw) (w : World) (hp : RwA w a l) (ord : OrdW l) (hm : l.length ≤ 10000) (h : hasC (cW x.1) l = true ∨ x = (x.1, 0, 0, 0) ∨ l.length < 10000) :
    Calls Try.prog 62 #[.agg #[.int .i64 len, .slice a l.length c], .agg (encR x).toArray] w fun e w' => (∃ a' c', e = .returned (.tuple #[.agg #[.int .i64 len, .slice a' (withL l x).length c'], .int .i64 0]) ∧ RwA w' a' (withL l x) ∧ ∀ p, a' = some p → w.heap.size ≤ p.block) ∧ Below w.heap.size w w' := by
  cases hh : hasC (cW x.1) l
  · by_cases h2 : x = (x.1, 0, 0, 0)
    · exact with_empty len a c l x w hp ord hm hh h2
    · refine with_ins len a c l x w hp ord hm hh h2 ?_
      rcases h with h | h | h
      · rw [hh] at h; cases h
      · exact absurd h h2
      · exact h
  · exact with_found len a c l x w hp ord hm hh
def recvX (x : Rw) (t : Int) : Rw := if x.2.1 < t then (x.1, t, x.2.2.1, x.2.2.2) else x
def recvL (l : List Rw) (wi t : Int) : List Rw := withL l (recvX (coinL l wi) t)
theorem recvYtcgdhankllphgaaw (x : Rw) (t : Int) : (recvX x t).1 = x.1 := by unfold recvX; split <;> rfl
def giveL (l : List Rw) (wi n : Int) : List Rw := withL l ((coinL l wi).1, (coinL l wi).2.1, (coinL l wi).2.2.1, (coinL l wi).2.2.2 + n)
set_option maxRecDepth 100000 in
set_option maxHeartbeats 4000000 in
theorem recv_ok (len : Int) (a : Option Addr) (c : Nat) (l : List Rw) (wi n : Int) (w : World) (hp : RwA w a l) (ok : OkP len l) (p1 : winOk wi) (p2 : 0 ≤ n ∧ n ≤ 1099511627776) (h : hasC (cW wi) l = true ∨ n = 0 ∨ l.length < 10000) :
    Calls Try.prog 25 #[.agg #[.int .i64 len, .slice a l.length c], .int .i64 wi, .int .i64 n] w fun e w' => (∃ a' c', e = .returned (.tuple #[.agg #[.int .i64 len, .slice a' (recvL l wi n).length c'], .int .i64 0]) ∧ RwA w' a' (recvL l wi n) ∧ ∀ p, a' = some p → w.heap.size ≤ p.block) ∧ Below w.heap.size w w' := by
  have HP := Lib.hid hp
  have hm := ok.head.2
  have C := Lib.hid (fun (X : World) (h : RwA X a l) => validp_yes ok a c X h)
  have C1 := Lib.hid (fun W => win_yes p1 W)
  have C2 := Lib.hid (fun W => within_yes (n := n) (a := 0) (b := 1099511627776) p2 W)
  have CO := Lib.hid (fun (X : World) (h : RwA X a l) => coin_any len a c l wi X h ok)
  have bd := coinL_ok ok wi
  have cw := coinL_w (l := l) wi
  have hw : hasC (cW (recvX (coinL l wi) n).1) l = true ∨ recvX (coinL l wi) n = ((recvX (coinL l wi) n).1, 0, 0, 0) ∨ l.length < 10000 := by
    rw [recvYtcgdhankllphgaaw, coinL_w]
    by_cases hh : hasC (cW wi) l = true
    · exact Or.inl hh
    rcases h with h | h | h
    · exact absurd h hh
    · right; left
      subst h
      have e : coinL l wi = (wi, 0, 0, 0) := by unfold coinL; rw [if_neg hh]
      rw [e]
      unfold recvX
      rw [if_neg (by simp)]
    · exact Or.inr (Or.inr h)
  have WI := Lib.hid (fun (X : World) (h : RwA X a l) => with_ok len a c l (recvX (coinL l wi) n) X h ok.ord (by omega) hw)
  have HRL := Lib.hid (show withL l (recvX (coinL l wi) n) = recvL l wi n from rfl)
  obtain ⟨N, hN⟩ : ∃ N, l.length = N := ⟨_, rfl⟩
  simp only [hN] at C CO WI
  rw [hN]
  rw [HRL.out] at WI
  obtain ⟨x, hx⟩ : ∃ x, coinL l wi = x := ⟨_, rfl⟩
  rw [hx] at CO bd WI cw
  obtain ⟨x1, x2, x3, x4⟩ := x
  simp only at bd cw
  subst cw
  have RX := Lib.hid (show recvX (x1, x2, x3, x4) n = if x2 < n then (x1, n, x3, x4) else (x1, x2, x3, x4) from rfl)
  obtain ⟨R, hR⟩ : ∃ R, recvL l x1 n = R := ⟨_, rfl⟩
  rw [hR] at WI ⊢
  simp only [encR] at CO
  clear hp ok p1 hN hx h hw hR HRL
  go_enter Try.func25, Try.ntmps25
  obtain ⟨G, hG⟩ : ∃ G, w.heap.size = G := ⟨_, rfl⟩
  have K1 := Lib.hid (show Blk ((w.alloc (.cells #[.int .i64 len, .slice a N c] 45)).alloc (.cells #[.int .i64 0, .slice none 0 0] 45)) G 45 #[.int .i64 len, .slice a N c] from (Blk.new' w _ _ _ hG rfl).alloc _)
  have K2 := Lib.hid (show Blk ((w.alloc (.cells #[.int .i64 len, .slice a N c] 45)).alloc (.cells #[.int .i64 0, .slice none 0 0] 45)) (G + 1) 45 #[.int .i64 0, .slice none 0 0] from Blk.new' _ _ _ _ (by rw [World.size_alloc, hG]) rfl)
  have B := Lib.hid (show Below G w ((w.alloc (.cells #[.int .i64 len, .slice a N c] 45)).alloc (.cells #[.int .i64 0, .slice none 0 0] 45)) by rw [← hG]; (repeat' (first | (with_reducible exact Below.refl _ _) | (with_reducible assumption) | (with_reducible refine Below.alloc ?_ ?_ _) | (with_reducible refine Below.drew ?_) | (with_reducible refine below_dn ?_) | (with_reducible refine Below.setCell ?_ ?_ _) | (with_reducible exact Nat.le_refl _) | omega | (simp only [World.size_alloc, World.size_setCell, World.size_drew]; omega) | (simp; omega) | (simp; done))))
  have HG := Lib.hid hG
  have H0 := Lib.hid (HP.out.mono (show Below w.heap.size w ((w.alloc (.cells #[.int .i64 len, .slice a N c] 45)).alloc (.cells #[.int .i64 0, .slice none 0 0] 45)) by (repeat' (first | (with_reducible exact Below.refl _ _) | (with_reducible assumption) | (with_reducible refine Below.alloc ?_ ?_ _) | (with_reducible refine Below.drew ?_) | (with_reducible refine below_dn ?_) | (with_reducible refine Below.setCell ?_ ?_ _) | (with_reducible exact Nat.le_refl _) | omega | (simp only [World.size_alloc, World.size_setCell, World.size_drew]; omega) | (simp; omega) | (simp; done)))))
  go_upto_region 1 with (fail)
  try rw [hG]
  generalize hw0 : ((w.alloc (.cells #[.int .i64 len, .slice a N c] 45)).alloc (.cells #[.int .i64 0, .slice none 0 0] 45)) = w0 at K1 K2 B H0 ⊢
  clear hw0 hG
  obtain ⟨d0, d1⟩ := twob K1.out
  obtain ⟨h0, h1⟩ := twob K2.out
  have fz := fun q => K2.out.frozen q
  go_wp2_with fail
  refine (C.out _ H0.out).mono ?_
  rintro e w1 ⟨rfl, hb⟩
  replace K1 := Lib.hid (K1.out.below hb K1.out.lt)
  replace K2 := Lib.hid (K2.out.below hb K2.out.lt)
  replace B := Lib.hid (B.out.trans (hb.mono (by have := B.out.size; have := HG.out; omega)))
  have H1 := Lib.hid (H0.out.mono hb)
  clear hb H0
  clear d0 d1 h0 h1 fz
  obtain ⟨d0, d1⟩ := twob K1.out
  obtain ⟨h0, h1⟩ := twob K2.out
  have fz := fun q => K2.out.frozen q
  go_wp2_with fail
  refine (C1.out _).mono ?_
  rintro e wz ⟨rfl, rfl⟩
  go_wp2_with fail
  refine (C2.out _).mono ?_
  rintro e wz ⟨rfl, rfl⟩
  go_wp2_with fail
  refine (CO.out _ H1.out).mono ?_
  rintro e w2 ⟨rfl, hb⟩
  replace K1 := Lib.hid (K1.out.below hb K1.out.lt)
  replace K2 := Lib.hid (K2.out.below hb K2.out.lt)
  replace B := Lib.hid (B.out.trans (hb.mono (by have := B.out.size; have := HG.out; omega)))
  have KL := Lib.hid K2.out.lt
  replace H1 := Lib.hid (H1.out.mono hb)
  clear hb
  clear d0 d1 h0 h1 fz
  obtain ⟨g, hg⟩ : ∃ g, w2.heap.size = g := ⟨_, rfl⟩
  have KC := Lib.hid (show Blk (w2.alloc (.cells #[.int .i64 x1, .int .i64 x2, .int .i64 x3, .int .i64 x4] 89)) g 89 #[.int .i64 x1, .int .i64 x2, .int .i64 x3, .int .i64 x4] from Blk.new' w2 _ _ _ hg rfl)
  replace K1 := Lib.hid (K1.out.alloc (.cells #[.int .i64 x1, .int .i64 x2, .int .i64 x3, .int .i64 x4] 89))
  replace K2 := Lib.hid (K2.out.alloc (.cells #[.int .i64 x1, .int .i64 x2, .int .i64 x3, .int .i64 x4] 89))
  have GL := Lib.hid (show G + 1 < g by rw [← hg]; have := K2.out.lt; simp at this; rcases Nat.lt_or_ge (G + 1) w2.heap.size with q | q; exact q; exact absurd q (by have := KL.out; omega))
  replace B := Lib.hid (B.out.alloc (by have := B.out.size; have := HG.out; omega) (.cells #[.int .i64 x1, .int .i64 x2, .int .i64 x3, .int .i64 x4] 89))
  replace H1 := Lib.hid (H1.out.mono ((Below.refl _ w2).alloc (Nat.le_refl _) (.cells #[.int .i64 x1, .int .i64 x2, .int .i64 x3, .int .i64 x4] 89)))
  go_upto_region 4 with (fail)
  try rw [hg]
  generalize hw3 : w2.alloc (.cells #[.int .i64 x1, .int .i64 x2, .int .i64 x3, .int .i64 x4] 89) = w3 at KC K1 K2 B H1 ⊢
  clear hw3 hg
  obtain ⟨m0, m1, m2, m3⟩ := four KC.out
  obtain ⟨d0, d1⟩ := twob K1.out
  obtain ⟨h0, h1⟩ := twob K2.out
  have fz := fun q => K2.out.frozen q
  by_cases hlt : x2 < n
  · have t1 : decide (x2 < n) = true := decide_eq_true hlt
    have rx := RX.out
    rw [if_pos hlt] at rx
    rw [rx] at WI
    simp only [encR] at WI
    clear hlt
    have fq := KC.out.frozen
    have KC2 := Lib.hid (show Blk (w3.setCell ⟨g, 1, none⟩ (.int .i64 n)) g 89 #[.int .i64 x1, .int .i64 n, .int .i64 x3, .int .i64 x4] from KC.out.set_ 1 _)
    have K1n := Lib.hid (K1.out.far (p := ⟨g, 1, none⟩) (show G ≠ g by have := GL.out; omega) (.int .i64 n))
    have K2n := Lib.hid (K2.out.far (p := ⟨g, 1, none⟩) (show G + 1 ≠ g by have := GL.out; omega) (.int .i64 n))
    have Bn := Lib.hid (B.out.setCell (p := ⟨g, 1, none⟩) (show G ≤ g by have := GL.out; omega) (.int .i64 n))
    have Hn := Lib.hid (show RwA (w3.setCell ⟨g, 1, none⟩ (.int .i64 n)) a l from HP.out.mono (by rw [HG.out]; exact Bn.out))
    go_upto_region 6 with (fail)
    generalize hw4 : w3.setCell ⟨g, 1, none⟩ (.int .i64 n) = w4 at KC2 K1n K2n Bn Hn ⊢
    clear hw4 m0 m1 m2 m3 fq H1 K1 K2 B KC
    clear d0 d1 h0 h1 fz
    have K1 := K1n; have K2 := K2n; have B := Bn; have H1 := Hn
    clear K1n K2n Bn Hn
    obtain ⟨m0, m1, m2, m3⟩ := four KC2.out
    obtain ⟨d0, d1⟩ := twob K1.out
    obtain ⟨h0, h1⟩ := twob K2.out
    have fz := fun q => K2.out.frozen q
    have HLG := Lib.hid (show G + 1 < w4.heap.size from K2.out.lt)
    have HLW := Lib.hid (show w.heap.size ≤ w4.heap.size from B.out.size)
    go_wp2_with fail
    refine (WI.out _ H1.out).mono ?_
    rintro e w5 ⟨⟨a5, c5, rfl, hr5, hf5⟩, hb⟩
    have F5 := Lib.hid (show ∀ p, a5 = some p → w.heap.size ≤ p.block from fun p hp => by have h9 := hf5 p hp; have := HLW.out; omega)
    have R5 := Lib.hid (RowsA.far (RowsA.far hr5 (p := ⟨G + 1, 0, none⟩) (fun p hp => by have h9 := hf5 p hp; have := HLG.out; show p.block ≠ G + 1; omega) (.int .i64 len)) (p := ⟨G + 1, 1, none⟩) (fun p hp => by have h9 := hf5 p hp; have := HLG.out; show p.block ≠ G + 1; omega) (.slice a5 R.length c5))
    replace K1 := Lib.hid (K1.out.below hb K1.out.lt)
    replace K2 := Lib.hid (K2.out.below hb K2.out.lt)
    replace B := Lib.hid (B.out.trans (hb.mono (by have := B.out.size; have := HG.out; omega)))
    clear d0 d1 h0 h1 fz
    clear m0 m1 m2 m3
    obtain ⟨d0, d1⟩ := twob K1.out
    obtain ⟨h0, h1⟩ := twob K2.out
    have fz := fun q => K2.out.frozen q
    go_wp2
    have K9 := Lib.hid (K2.out.set2 (.int .i64 len) (.slice a5 R.length c5))
    have B9 := Lib.hid ((B.out.setCell (p := ⟨G + 1, 0, none⟩) (by simp; try omega) (.int .i64 len)).setCell (p := ⟨G + 1, 1, none⟩) (by simp; try omega) (.slice a5 R.length c5))
    generalize hw2 : (w5.setCell ⟨G + 1, 0, none⟩ (.int .i64 len)).setCell ⟨G + 1, 1, none⟩ (.slice a5 R.length c5) = w9 at K9 B9 R5 ⊢
    clear hw2
    clear d0 d1 h0 h1 fz
    obtain ⟨d0, d1⟩ := twob K9.out
    refine bodyPost_ret (by simp [results, Try.results25, go_sem, d0, d1]; try rfl) rfl ?_
    exact ⟨⟨a5, c5, rfl, R5.out, F5.out⟩, by rw [HG.out]; exact B9.out⟩
  · have t1 : decide (x2 < n) = false := decide_eq_false hlt
    have rx := RX.out
    rw [if_neg hlt] at rx
    rw [rx] at WI
    simp only [encR] at WI
    clear hlt
    have HLG := Lib.hid (show G + 1 < w3.heap.size from K2.out.lt)
    have HLW := Lib.hid (show w.heap.size ≤ w3.heap.size from B.out.size)
    go_wp2_with fail
    refine (WI.out _ H1.out).mono ?_
    rintro e w5 ⟨⟨a5, c5, rfl, hr5, hf5⟩, hb⟩
    have F5 := Lib.hid (show ∀ p, a5 = some p → w.heap.size ≤ p.block from fun p hp => by have h9 := hf5 p hp; have := HLW.out; omega)
    have R5 := Lib.hid (RowsA.far (RowsA.far hr5 (p := ⟨G + 1, 0, none⟩) (fun p hp => by have h9 := hf5 p hp; have := HLG.out; show p.block ≠ G + 1; omega) (.int .i64 len)) (p := ⟨G + 1, 1, none⟩) (fun p hp => by have h9 := hf5 p hp; have := HLG.out; show p.block ≠ G + 1; omega) (.slice a5 R.length c5))
    replace K1 := Lib.hid (K1.out.below hb K1.out.lt)
    replace K2 := Lib.hid (K2.out.below hb K2.out.lt)
    replace B := Lib.hid (B.out.trans (hb.mono (by have := B.out.size; have := HG.out; omega)))
    clear d0 d1 h0 h1 fz
    clear m0 m1 m2 m3
    obtain ⟨d0, d1⟩ := twob K1.out
    obtain ⟨h0, h1⟩ := twob K2.out
    have fz := fun q => K2.out.frozen q
    go_wp2
    have K9 := Lib.hid (K2.out.set2 (.int .i64 len) (.slice a5 R.length c5))
    have B9 := Lib.hid ((B.out.setCell (p := ⟨G + 1, 0, none⟩) (by simp; try omega) (.int .i64 len)).setCell (p := ⟨G + 1, 1, none⟩) (by simp; try omega) (.slice a5 R.length c5))
    generalize hw2 : (w5.setCell ⟨G + 1, 0, none⟩ (.int .i64 len)).setCell ⟨G + 1, 1, none⟩ (.slice a5 R.length c5) = w9 at K9 B9 R5 ⊢
    clear hw2
    clear d0 d1 h0 h1 fz
    obtain ⟨d0, d1⟩ := twob K9.out
    refine bodyPost_ret (by simp [results, Try.results25, go_sem, d0, d1]; try rfl) rfl ?_
    exact ⟨⟨a5, c5, rfl, R5.out, F5.out⟩, by rw [HG.out]; exact B9.out⟩
end Go.Proofs.Ytcgdhankllphgaa
