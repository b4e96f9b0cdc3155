/- Contracts: Open of both. -/
import Derived.Test.YtjmegfejnocegaaN
namespace Go.Proofs.Ytjmegfejnocegaa
set_option linter.unusedVariables false
set_option linter.unusedSimpArgs false
open Go.RowKit
def openE (l : List Ac) (x wt : Int) : Int := if x < 1 ∨ wt < 1 ∨ 1048576 < wt then 1 else if hasA l x = true then 6 else if 1000 ≤ l.length then 2 else 0
def openL (l : List Ac) (x wt : Int) : List Ac := if openE l x wt = 0 then insL l (posA l x) (x, wt, 0) else []
/-- What a function gives that returns accounts and an error. -/
def GivesA (B : Nat) (w : World) (l : List Ac) (er : Int) (e : Ending) (w' : World) : Prop := ∃ b c, e = .returned (.tuple #[.slice b l.length c, .int .i64 er]) ∧ AcA w' b l ∧ Below B w w'
def GivesK (B : Nat) (w : World) (l : List Ac) (er : Int) (e : Ending) (w' : World) : Prop := ∃ b c, e = .returned (.agg #[.slice b l.length c, .int .i64 er]) ∧ AcA w' b l ∧ Below B w w'
theorem openL_no {l : List Ac} {x wt er : Int} (h : openE l x wt = er) (h0 : er ≠ 0) : openL l x wt = [] := if_neg (by rw [h]; exact h0)
theorem gives_none {B : Nat} {w w' : World} {l : List Ac} {x wt er : Int} {b : Option Addr} {c : Nat} (h : openE l x wt = er) (h0 : er ≠ 0) (hb : Below B w w') : GivesA B w (openL l x wt) (openE l x wt) (.returned (.tuple #[.slice none 0 0, .int .i64 er])) w' := by
  rw [openL_no h h0, h]; exact ⟨none, 0, rfl, RowsA.nil _ _ _ _, hb⟩
theorem app_one (w : World) (B : Nat) (v : Value) (l : List Ac) (x1 x2 x3 : Int) (hown : OwnA w B v l) (hl : l.length ≤ 1000000) (hB : B ≤ w.heap.size) :
    ∃ b n c w', (Builtin.append_ #[35, 35] 35 #[v, .slice (some ⟨w.heap.size, 0, none⟩) 1 1]).run Try.prog (w.alloc (.cells #[.int .i64 x1, .int .i64 x2, .int .i64 x3] 53)) = .ok (.slice b n c) w' ∧ OwnA w' B (.slice b n c) (l ++ [(x1, x2, x3)]) ∧ Below B w w' := by
  obtain ⟨b, n, c, w', hr, ho, hb⟩ := app_A 35 (w.alloc (.cells (encA (x1, x2, x3)).toArray 53)) B v l (hown.alloc _) (some ⟨w.heap.size, 0, none⟩) 1 [(x1, x2, x3)] (rows_one (enc := encA) w (x1, x2, x3)) (by omega) (by simp) (by simp; omega)
  exact ⟨b, n, c, w', hr, ho, ((Below.refl _ _).alloc hB _).trans hb⟩
set_option maxRecDepth 100000 in
set_option maxHeartbeats 1000000 in
theorem open_any (a : Option Addr) (cap : Nat) (l : List Ac) (x wt : Int) (w : World) (hp : AcA w a l) (hok : OkA l) :
    Calls Try.prog 22 #[.slice a l.length cap, .int .i64 x, .int .i64 wt] w (GivesA w.heap.size w (openL l x wt) (openE l x wt)) := by
  have CW := Lib.hid (fun W => isWeight_any wt W)
  have CF := Lib.hid (fun W (hb : Below w.heap.size w W) => find_any a cap l x W (hp.mono hb) hok)
  have CC := Lib.hid (fun W (hb : Below w.heap.size w W) => clone_any a cap l W (hp.mono hb) (by have := hok.2; omega))
  have hm := hok.2
  have hle := posA_le l x
  have EQ : openE l x wt = if x < 1 ∨ wt < 1 ∨ 1048576 < wt then 1 else if hasA l x = true then 6 else if 1000 ≤ l.length then 2 else 0 := rfl
  by_cases c1 : x < 1
  · rw [if_pos (by omega)] at EQ
    have G := Lib.hid (fun W hb => gives_none (B := w.heap.size) (w := w) (w' := W) (b := none) (c := 0) EQ (by decide) hb)
    have d1 : decide (x < 1) = true := decide_eq_true c1
    clear hp hok EQ CW CF CC
    go_enter Try.func22, Try.ntmps22
    go_wp2
    refine bodyPost_ret (by simp [results, Try.results22, go_sem]; try rfl) rfl ?_
    exact G.out _ (Below.refl _ _)
  have d1 : decide (x < 1) = false := decide_eq_false c1
  by_cases c2 : 1 ≤ wt ∧ wt ≤ 1048576
  case neg =>
    rw [if_pos (by omega)] at EQ
    have G := Lib.hid (fun W hb => gives_none (B := w.heap.size) (w := w) (w' := W) (b := none) (c := 0) EQ (by decide) hb)
    rw [decide_eq_false c2] at CW
    clear hp hok EQ CF CC c1 c2
    go_enter Try.func22, Try.ntmps22
    go_wp2_with fail
    refine (CW.out _).mono ?_
    rintro e w1 ⟨rfl, rfl⟩
    go_wp2
    refine bodyPost_ret (by simp [results, Try.results22, go_sem]; try rfl) rfl ?_
    exact G.out _ (Below.refl _ _)
  rw [if_neg (by omega)] at EQ
  rw [decide_eq_true c2] at CW
  by_cases c3 : hasA l x = true
  · rw [if_pos c3] at EQ
    rw [c3] at CF
    have G := Lib.hid (fun W hb => gives_none (B := w.heap.size) (w := w) (w' := W) (b := none) (c := 0) EQ (by decide) hb)
    clear hp hok EQ CC c1 c2 c3
    go_enter Try.func22, Try.ntmps22
    go_wp2_with fail
    refine (CW.out _).mono ?_
    rintro e w1 ⟨rfl, rfl⟩
    go_wp2_with fail
    refine (CF.out _ (Below.refl _ _)).mono ?_
    rintro e w1 ⟨rfl, hb⟩
    have B1 := Lib.hid hb
    clear hb
    go_wp2
    refine bodyPost_ret (by simp [results, Try.results22, go_sem]; try rfl) rfl ?_
    exact G.out _ B1.out
  rw [if_neg c3] at EQ
  rw [show hasA l x = false by simpa using c3] at CF
  by_cases c4 : 1000 ≤ l.length
  · rw [if_pos c4] at EQ
    have G := Lib.hid (fun W hb => gives_none (B := w.heap.size) (w := w) (w' := W) (b := none) (c := 0) EQ (by decide) hb)
    obtain ⟨N, hN⟩ : ∃ N, l.length = N := ⟨_, rfl⟩
    rw [hN] at CF c4 hm ⊢
    clear hp hok EQ CC c1 c2 c3 hN
    go_enter Try.func22, Try.ntmps22
    go_wp2_with fail
    refine (CW.out _).mono ?_
    rintro e w1 ⟨rfl, rfl⟩
    go_wp2_with fail
    refine (CF.out _ (Below.refl _ _)).mono ?_
    rintro e w1 ⟨rfl, hb⟩
    have B1 := Lib.hid hb
    clear hb
    go_wp2
    refine bodyPost_ret (by simp [results, Try.results22, go_sem]; try rfl) rfl ?_
    exact G.out _ B1.out
  rw [if_neg c4] at EQ
  have G := Lib.hid (show ∀ W b c, AcA W b (insL l (posA l x) (x, wt, 0)) → Below w.heap.size w W → GivesA w.heap.size w (openL l x wt) (openE l x wt) (.returned (.tuple #[.slice b (insL l (posA l x) (x, wt, 0)).length c, .int .i64 0])) W from fun W b c h hb => by
    rw [EQ, show openL l x wt = insL l (posA l x) (x, wt, 0) from if_pos EQ]; exact ⟨b, c, rfl, h, hb⟩)
  have CI := Lib.hid (fun v vb B W h1 h2 h3 h4 => ins_any v l (posA l x) (x, wt, 0) vb B W h1 hle (by omega) h2 h3 h4)
  obtain ⟨N, hN⟩ : ∃ N, l.length = N := ⟨_, rfl⟩
  rw [hN] at CF CC c4 hm ⊢
  clear hp hok EQ c1 c2 c3 hN
  go_enter Try.func22, Try.ntmps22
  go_wp2_with fail
  refine (CW.out _).mono ?_
  rintro e w1 ⟨rfl, rfl⟩
  go_wp2_with fail
  refine (CF.out _ (Below.refl _ _)).mono ?_
  rintro e w1 ⟨rfl, hb⟩
  have B1 := Lib.hid hb
  clear hb
  go_wp2_with fail
  refine (CC.out _ B1.out).mono ?_
  rintro e w2 ⟨v, rfl, ho, hb⟩
  have B2 := Lib.hid (show Below w.heap.size w w2 from bt B1.out hb)
  have O2 := Lib.hid ho
  have z2 : w1.heap.size ≤ w2.heap.size := hb.size
  clear hb ho
  go_wp2_with fail
  refine (CI.out v w2.heap.size w1.heap.size _ (O2.out.alloc _) (by simp; omega) (Blk.new' w2 _ _ _ rfl rfl) (fun k hk e => by have := (own_lt O2.out k hk).2; omega)).mono ?_
  rintro e w3 ⟨v3, rfl, ho, hb⟩
  obtain ⟨b3, c3, rfl, -, hi⟩ := ho.view encA_len
  have HI := Lib.hid hi
  have z1 : w.heap.size ≤ w1.heap.size := B1.out.size
  have B3 := Lib.hid (show Below w.heap.size w w3 from (B2.out.alloc B2.out.size _).trans (hb.mono z1))
  clear ho hi hb
  go_wp2
  refine bodyPost_ret (by simp [results, Try.results22, go_sem]; try rfl) rfl ?_
  exact G.out _ _ _ HI.out B3.out
end Go.Proofs.Ytjmegfejnocegaa
