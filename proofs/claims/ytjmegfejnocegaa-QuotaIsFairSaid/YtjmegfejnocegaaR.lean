/- Contracts: Use of both. -/
import Derived.Test.YtjmegfejnocegaaQ
namespace Go.Proofs.Ytjmegfejnocegaa
set_option linter.unusedVariables false
set_option linter.unusedSimpArgs false
open Go.RowKit
def useN (l : List Ac) (x m : Int) : Int := (l.getD (posA l x) (0, 0, 0)).2.2 + m
def useE (l : List Ac) (x m : Int) : Int := if hasA l x = true then (if m < -1099511627776 ∨ 1099511627776 < m ∨ useN l x m < 0 ∨ 1099511627776 < useN l x m then 1 else 0) else 5
def useLL (l : List Ac) (x m : Int) : List Ac := if useE l x m = 0 then useL l (posA l x) (useN l x m) else []
theorem useLL_no {l : List Ac} {x m er : Int} (h : useE l x m = er) (h0 : er ≠ 0) : useLL l x m = [] := if_neg (by rw [h]; exact h0)
theorem use_none {B : Nat} {w w' : World} {l : List Ac} {x m er : Int} (h : useE l x m = er) (h0 : er ≠ 0) (hb : Below B w w') : GivesA B w (useLL l x m) (useE l x m) (.returned (.tuple #[.slice none 0 0, .int .i64 er])) w' := by
  rw [useLL_no h h0, h]; exact ⟨none, 0, rfl, RowsA.nil _ _ _ _, hb⟩
theorem usek_none {B : Nat} {w w' : World} {l : List Ac} {x m er : Int} (h : useE l x m = er) (h0 : er ≠ 0) (hb : Below B w w') : GivesK B w (useLL l x m) (useE l x m) (.returned (.agg #[.slice none 0 0, .int .i64 er])) w' := by
  rw [useLL_no h h0, h]; exact ⟨none, 0, rfl, RowsA.nil _ _ _ _, hb⟩
theorem AcA.use {W : World} {g : Nat} {l : List Ac} (h : AcA W (some ⟨g, 0, none⟩) l) {k : Nat} (hk : k < l.length) (u : Int) : AcA (W.setCell ⟨g, k * 3 + 2, none⟩ (.int .i64 u)) (some ⟨g, 0, none⟩) (useL l k u) := by
  intro i y hy
  have hik : i < l.length := by have := (List.getElem?_eq_some_iff.1 hy).1; rwa [useL_len] at this
  obtain ⟨b, off, e, h1⟩ := h i _ (List.getElem?_eq_getElem hik)
  obtain ⟨b2, off2, e2, c0⟩ := h k _ (List.getElem?_eq_getElem hk)
  injection e with e; injection e with e3 e4; subst e3; subst e4
  injection e2 with e2; injection e2 with e5 e6; subst e5; subst e6
  have hc : W.cell? ⟨g, k * 3 + 2, none⟩ = some (.int .i64 (l[k]).2.2) := by have := c0 2 _ rfl; rwa [Nat.zero_add] at this
  refine ⟨g, 0, rfl, fun j v hv => ?_⟩
  by_cases hjk : i = k ∧ j = 2
  · obtain ⟨rfl, rfl⟩ := hjk
    rw [Nat.zero_add, World.cell?_setCell_same' W _ _ (by rw [hc]; rfl)]
    have : y = ((l.getD i (0, 0, 0)).1, (l.getD i (0, 0, 0)).2.1, u) := by
      have h2 := hy
      unfold useL at h2
      rw [List.getElem?_set_self hik] at h2
      exact (Option.some.inj h2).symm
    subst this
    exact hv
  · have hne : (⟨g, k * 3 + 2, none⟩ : Addr) ≠ ⟨g, 0 + i * 3 + j, none⟩ := by
      have hj : j < 3 := by have := (List.getElem?_eq_some_iff.1 hv).1; simpa [encA] using this
      intro e
      injection e with _ e _
      omega
    rw [World.cell?_setCell_other _ _ _ _ hne]
    by_cases hi : i = k
    · subst hi
      have h2 := hy
      unfold useL at h2
      rw [List.getElem?_set_self hik] at h2
      obtain rfl := Option.some.inj h2
      refine h1 j v ?_
      rw [getD_at (0, 0, 0) hik] at hv
      match j, hv, hjk with
      | 0, hv, _ => exact hv
      | 1, hv, _ => exact hv
      | 2, _, hjk => exact absurd ⟨rfl, rfl⟩ hjk
      | j + 3, hv, _ => simp [encA] at hv
    · have h2 := hy
      unfold useL at h2
      rw [List.getElem?_set_ne (by omega), List.getElem?_eq_getElem hik] at h2
      obtain rfl := Option.some.inj h2
      exact h1 j v hv
set_option maxRecDepth 100000 in
set_option maxHeartbeats 1000000 in
theorem use_any (a : Option Addr) (cap : Nat) (l : List Ac) (x m : Int) (w : World) (hp : AcA w a l) (hok : OkA l) :
    Calls Try.prog 24 #[.slice a l.length cap, .int .i64 x, .int .i64 m] w (GivesA w.heap.size w (useLL l x m) (useE l x m)) := by
  have CF := Lib.hid (fun W (hb : Below w.heap.size w W) => find_any a cap l x W (hp.mono hb) hok)
  have CC := Lib.hid (fun W (hb : Below w.heap.size w W) => clone_any a cap l W (hp.mono hb) (by have := hok.2; omega))
  have hm := hok.2
  have HP := Lib.hid hp
  have EQ : useE l x m = if hasA l x = true then (if m < -1099511627776 ∨ 1099511627776 < m ∨ useN l x m < 0 ∨ 1099511627776 < useN l x m then 1 else 0) else 5 := rfl
  have EN : useN l x m = (l.getD (posA l x) (0, 0, 0)).2.2 + m := rfl
  by_cases c3 : hasA l x = true
  case neg =>
    rw [if_neg c3] at EQ
    rw [show hasA l x = false by simpa using c3] at CF
    have G := Lib.hid (fun W hb => use_none (B := w.heap.size) (w := w) (w' := W) EQ (by decide) hb)
    obtain ⟨N, hN⟩ : ∃ N, l.length = N := ⟨_, rfl⟩
    rw [hN] at CF hm ⊢
    clear hp hok EQ EN CC c3 hN HP
    go_enter Try.func24, Try.ntmps24
    go_wp2_with fail
    refine (CF.out _ (Below.refl _ _)).mono ?_
    rintro e w1 ⟨rfl, hb⟩
    have B1 := Lib.hid hb
    clear hb
    go_wp2
    refine bodyPost_ret (by simp [results, Try.results24, go_sem]; try rfl) rfl ?_
    exact G.out _ B1.out
  rw [if_pos c3] at EQ
  rw [c3] at CF
  obtain ⟨hpl, -⟩ := (hasA_iff l x).1 c3
  obtain ⟨-, -, o3, o4⟩ := hok.w hpl
  clear c3
  by_cases c1 : m < -1099511627776
  · rw [if_pos (Or.inl c1)] at EQ
    have G := Lib.hid (fun W hb => use_none (B := w.heap.size) (w := w) (w' := W) EQ (by decide) hb)
    have d1 : decide (m < -1099511627776) = true := decide_eq_true c1
    obtain ⟨N, hN⟩ : ∃ N, l.length = N := ⟨_, rfl⟩
    rw [hN] at CF hm hpl ⊢
    clear hp hok EQ EN CC hN HP
    go_enter Try.func24, Try.ntmps24
    go_wp2_with fail
    refine (CF.out _ (Below.refl _ _)).mono ?_
    rintro e w1 ⟨rfl, hb⟩
    have B1 := Lib.hid hb
    clear hb
    go_wp2
    refine bodyPost_ret (by simp [results, Try.results24, go_sem]; try rfl) rfl ?_
    exact G.out _ B1.out
  have d1 : decide (m < -1099511627776) = false := decide_eq_false c1
  by_cases c2 : 1099511627776 < m
  · rw [if_pos (by omega)] at EQ
    have G := Lib.hid (fun W hb => use_none (B := w.heap.size) (w := w) (w' := W) EQ (by decide) hb)
    have d2 : decide (1099511627776 < m) = true := decide_eq_true c2
    obtain ⟨N, hN⟩ : ∃ N, l.length = N := ⟨_, rfl⟩
    rw [hN] at CF hm hpl ⊢
    clear hp hok EQ EN CC hN HP
    go_enter Try.func24, Try.ntmps24
    go_wp2_with fail
    refine (CF.out _ (Below.refl _ _)).mono ?_
    rintro e w1 ⟨rfl, hb⟩
    have B1 := Lib.hid hb
    clear hb
    go_wp2
    refine bodyPost_ret (by simp [results, Try.results24, go_sem]; try rfl) rfl ?_
    exact G.out _ B1.out
  have d2 : decide (1099511627776 < m) = false := decide_eq_false c2
  have AU := Lib.hid (fun (W : World) (g : Nat) (h : AcA W (some ⟨g, 0, none⟩) l) => AcA.use h hpl (useN l x m))
  have HR := Lib.hid (show ∀ W a, AcA W a (useL l (posA l x) (useN l x m)) → useE l x m = 0 → Below w.heap.size w W → ∀ c, GivesA w.heap.size w (useLL l x m) (useE l x m) (.returned (.tuple #[.slice a l.length c, .int .i64 0])) W from fun W a h he hb c => by
    rw [he, show useLL l x m = _ from if_pos he]; exact ⟨a, c, by rw [useL_len], h, hb⟩)
  obtain ⟨p, hpp⟩ : ∃ p, posA l x = p := ⟨_, rfl⟩
  rw [hpp] at EN CF hpl o3 o4 AU HR
  have PC := Lib.hid (fun W (hb : Below w.heap.size w W) => AcA.at_ (HP.out.mono hb) (k := p) hpl)
  obtain ⟨y, hy⟩ : ∃ y, l.getD p (0, 0, 0) = y := ⟨_, rfl⟩
  rw [hy] at EN o3 o4 PC
  obtain ⟨y1, y2, y3⟩ := y
  simp only at EN o3 o4 PC
  rw [EN] at EQ AU HR
  have CV := Lib.hid (fun W => isVolume_any (y3 + m) W)
  by_cases c4 : 0 ≤ y3 + m ∧ y3 + m ≤ 1099511627776
  case neg =>
    rw [if_pos (by omega)] at EQ
    rw [decide_eq_false c4] at CV
    have G := Lib.hid (fun W hb => use_none (B := w.heap.size) (w := w) (w' := W) EQ (by decide) hb)
    obtain ⟨N, hN⟩ : ∃ N, l.length = N := ⟨_, rfl⟩
    rw [hN] at CF hm hpl ⊢
    clear hp hok EQ EN CC hN HP hy hpp c4 AU HR
    go_enter Try.func24, Try.ntmps24
    go_wp2_with fail
    refine (CF.out _ (Below.refl _ _)).mono ?_
    rintro e w1 ⟨rfl, hb⟩
    have B1 := Lib.hid hb
    obtain ⟨b, off, rfl, q0, q1, q2⟩ := PC.out _ B1.out
    clear hb
    go_wp2_with fail
    refine (CV.out _).mono ?_
    rintro e w2 ⟨rfl, rfl⟩
    go_wp2
    refine bodyPost_ret (by simp [results, Try.results24, go_sem]; try rfl) rfl ?_
    exact G.out _ B1.out
  rw [if_neg (by omega)] at EQ
  rw [decide_eq_true c4] at CV
  have EZ := Lib.hid EQ
  obtain ⟨N, hN⟩ : ∃ N, l.length = N := ⟨_, rfl⟩
  have HE := Lib.hid hN
  have HY := Lib.hid hy
  rw [hN] at CF CC hm hpl HR ⊢
  clear hp hok EQ EN hN HP hy hpp
  go_enter Try.func24, Try.ntmps24
  go_wp2_with fail
  refine (CF.out _ (Below.refl _ _)).mono ?_
  rintro e w1 ⟨rfl, hb⟩
  have B1 := Lib.hid hb
  obtain ⟨b, off, rfl, q0, q1, q2⟩ := PC.out _ B1.out
  clear hb
  go_wp2_with fail
  refine (CV.out _).mono ?_
  rintro e w2 ⟨rfl, rfl⟩
  go_wp2_with fail
  refine (CC.out _ B1.out).mono ?_
  rintro e w2 ⟨v, rfl, ho, hb⟩
  have B2 := Lib.hid (show Below w.heap.size w w2 from bt B1.out hb)
  obtain ⟨g, cap2, cur, rfl, hBg, hnc, hcm, hg, hsz, htk⟩ := ho.row (by rw [HE.out]; omega)
  rw [HE.out] at hnc ⊢
  have K2 := Lib.hid (show Blk w2 g 53 cur from hg)
  obtain ⟨a2, c2, e2, -, hi⟩ := ho.view encA_len
  injection e2 with e3 e4 e5
  subst e3; subst e5
  have HI := Lib.hid hi
  obtain ⟨b3, off3, e6, r0, r1, r2⟩ := AcA.at_ hi (k := p) (by rw [HE.out]; exact hpl)
  injection e6 with e6; injection e6 with e7 e8; subst e7; subst e8
  rw [HY.out] at r0 r1 r2
  rw [Nat.zero_add] at r0 r1 r2
  simp only at r0 r1 r2
  have fz : w2.frozen? ⟨g, p * 3 + 2, none⟩ = false := K2.out.frozen _
  have z1 : w.heap.size ≤ g := Nat.le_trans B1.out.size hBg
  have hc63 : cap2 ≤ 9223372036854775807 := by unfold maxLen at hcm; omega
  clear ho hb hg hsz htk hi hcm
  go_wp2
  refine bodyPost_ret (by simp [results, Try.results24, go_sem]; try rfl) rfl ?_
  exact HR.out _ _ (AU.out _ _ HI.out) EZ.out (B2.out.setCell z1 _) _
end Go.Proofs.Ytjmegfejnocegaa
