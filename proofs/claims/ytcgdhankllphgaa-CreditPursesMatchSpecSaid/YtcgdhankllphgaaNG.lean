/- Contracts: Dealt of any bank; NewPurse and NewBank of bad numbers. -/
import Derived.Test.YtcgdhankllphgaaP
import Derived.Test.YtcgdhankllphgaaD
namespace Go.Proofs.Ytcgdhankllphgaa
set_option linter.unusedVariables false
set_option linter.unusedSimpArgs false
open Go.RowKit
set_option maxRecDepth 100000 in
set_option maxHeartbeats 1000000 in
theorem dealt_no (cap len : Int) (a : Option Addr) (c : Nat) (l : List Rw) (wi ga : Int) (w : World) (hp : RwA w a l) (no : ¬ OkB cap len l) (hm : l.length ≤ 1000000) :
    Calls Try.prog 20 #[.agg #[.int .i64 cap, .int .i64 len, .slice a l.length c], .int .i64 wi, .int .i64 ga] w fun e w' => e = .returned (.int .i64 0) ∧ Below w.heap.size w w' := by
  have HP := Lib.hid hp
  have C := Lib.hid (fun (X : World) (h : RwA X a l) => valid_no no (by omega) a c X h)
  have R := Lib.hid (fun (X : World) (h : RwA X a l) => row_any cap len a c l wi ga X h (by omega))
  obtain ⟨N, hN⟩ : ∃ N, l.length = N := ⟨_, rfl⟩
  simp only [hN] at C R
  rw [hN]
  clear hp hN no hm
  go_enter Try.func20, Try.ntmps20
  go_wp2_with fail
  refine (R.out _ (HP.out.mono (by (repeat' (first | (with_reducible exact Below.refl _ _) | (with_reducible assumption) | (with_reducible refine Below.alloc ?_ ?_ _) | (with_reducible refine Below.drew ?_) | (with_reducible refine below_dn ?_) | (with_reducible refine Below.setCell ?_ ?_ _) | (with_reducible exact Nat.le_refl _) | omega | (simp only [World.size_alloc, World.size_setCell, World.size_drew]; omega) | (simp; omega) | (simp; done)))))).mono ?_
  rintro e w1 ⟨hf, hb⟩
  obtain ⟨i, f, rfl, H0⟩ := hf.tell
  have K := Lib.hid (show Blk w1 w.heap.size 24 #[.int .i64 cap, .int .i64 len, .slice a N c] from (Blk.new' w _ _ _ rfl rfl).below hb (by simp))
  have B := Lib.hid (bt (show Below w.heap.size w (w.alloc (.cells #[.int .i64 cap, .int .i64 len, .slice a N c] 24)) by (repeat' (first | (with_reducible exact Below.refl _ _) | (with_reducible assumption) | (with_reducible refine Below.alloc ?_ ?_ _) | (with_reducible refine Below.drew ?_) | (with_reducible refine below_dn ?_) | (with_reducible refine Below.setCell ?_ ?_ _) | (with_reducible exact Nat.le_refl _) | omega | (simp only [World.size_alloc, World.size_setCell, World.size_drew]; omega) | (simp; omega) | (simp; done)))) hb)
  obtain ⟨d0, d1, d2⟩ := three K.out
  clear hb hf H0 R
  go_wp2_with fail
  refine (C.out _ (HP.out.mono B.out)).mono ?_
  rintro e w2 ⟨rfl, hb⟩
  replace K := Lib.hid (K.out.below hb K.out.lt)
  replace B := Lib.hid (bt B.out hb)
  clear hb C d0 d1 d2
  go_wp2
  go_ret
  exact ⟨rfl, B.out⟩
def dealtB (cap len : Int) (l : List Rw) (wi ga : Int) : Int := if OkB cap len l then dealtL l wi ga else 0
theorem dealt_all (cap len : Int) (a : Option Addr) (c : Nat) (l : List Rw) (wi ga : Int) (w : World) (hp : RwA w a l) (hm : l.length ≤ 1000000) :
    Calls Try.prog 20 #[.agg #[.int .i64 cap, .int .i64 len, .slice a l.length c], .int .i64 wi, .int .i64 ga] w fun e w' => e = .returned (.int .i64 (dealtB cap len l wi ga)) ∧ Below w.heap.size w w' := by
  by_cases ok : OkB cap len l
  · rw [show dealtB cap len l wi ga = dealtL l wi ga from if_pos ok]; exact dealt_any cap len a c l wi ga w hp ok
  · rw [show dealtB cap len l wi ga = 0 from if_neg ok]; exact dealt_no cap len a c l wi ga w hp ok hm
set_option maxRecDepth 100000 in
set_option maxHeartbeats 400000 in
theorem newpurse_no (len : Int) (w : World) (no : ¬ OkP len []) :
    Calls Try.prog 24 #[.int .i64 len] w fun e w' => e = .returned (.tuple #[.agg #[.int .i64 0, .slice none 0 0], .int .i64 1]) ∧ Below w.heap.size w w' := by
  have C := Lib.hid (fun X : World => validp_no no (by simp) none 0 X (RowsA.nil _ _ _ _))
  simp only [List.length_nil] at C
  clear no
  go_enter Try.func24, Try.ntmps24
  go_wp2_with fail
  refine (C.out _).mono ?_
  rintro e w1 ⟨rfl, hb⟩
  have K1 := Lib.hid (show Blk w1 w.heap.size 45 #[.int .i64 0, .slice none 0 0] from ((Blk.new' w _ _ _ rfl rfl).alloc _).below hb (by simp; omega))
  have K2 := Lib.hid (show Blk w1 (w.heap.size + 1) 45 #[.int .i64 len, .slice none 0 0] from (Blk.new' _ _ _ _ (World.size_alloc _ _) rfl).below hb (by simp))
  have B := Lib.hid (bt (show Below w.heap.size w ((w.alloc (.cells #[.int .i64 0, .slice none 0 0] 45)).alloc (.cells #[.int .i64 len, .slice none 0 0] 45)) by (repeat' (first | (with_reducible exact Below.refl _ _) | (with_reducible assumption) | (with_reducible refine Below.alloc ?_ ?_ _) | (with_reducible refine Below.drew ?_) | (with_reducible refine below_dn ?_) | (with_reducible refine Below.setCell ?_ ?_ _) | (with_reducible exact Nat.le_refl _) | omega | (simp only [World.size_alloc, World.size_setCell, World.size_drew]; omega) | (simp; omega) | (simp; done)))) hb)
  obtain ⟨d0, d1⟩ := twob K1.out
  obtain ⟨h0, h1⟩ := twob K2.out
  have fz := fun q => K1.out.frozen q
  clear hb C
  go_wp2
  have K3 := Lib.hid (K1.out.set2 (.int .i64 0) (.slice none 0 0))
  have B3 := Lib.hid ((B.out.setCell (p := ⟨w.heap.size, 0, none⟩) (Nat.le_refl _) (.int .i64 0)).setCell (p := ⟨w.heap.size, 1, none⟩) (Nat.le_refl _) (.slice none 0 0))
  generalize hw2 : (w1.setCell ⟨w.heap.size, 0, none⟩ (.int .i64 0)).setCell ⟨w.heap.size, 1, none⟩ (.slice none 0 0) = w2 at K3 B3 ⊢
  clear hw2 d0 d1 h0 h1 fz K1 K2 B
  obtain ⟨d0, d1⟩ := twob K3.out
  refine bodyPost_ret (by simp [results, Try.results24, go_sem, d0, d1]; try rfl) rfl ?_
  exact ⟨rfl, B3.out⟩
def okNP (len : Int) : Bool := decide (OkP len [])
theorem newpurse_all (len : Int) (w : World) :
    Calls Try.prog 24 #[.int .i64 len] w fun e w' => (∃ p q, e = .returned (.tuple #[.agg #[.int .i64 p, .slice none 0 0], .int .i64 q]) ∧ (OkP len [] → p = len ∧ q = 0)) ∧ Below w.heap.size w w' := by
  by_cases ok : OkP len []
  · exact (newpurse_yes len w ok).mono fun e w' h => ⟨⟨len, 0, h.1, fun _ => ⟨rfl, rfl⟩⟩, h.2⟩
  · exact (newpurse_no len w ok).mono fun e w' h => ⟨⟨0, 1, h.1, fun q => absurd q ok⟩, h.2⟩
end Go.Proofs.Ytcgdhankllphgaa
