/- Contracts: Victim, what it says before it divides; shares that are laid out. -/
import Derived.Test.YtjmegfejnocegaaT
import Derived.Test.YtjmegfejnocegaaG
namespace Go.Proofs.Ytjmegfejnocegaa
set_option linter.unusedVariables false
set_option linter.unusedSimpArgs false
open Go.RowKit Go.Shelf
def GivesV (w : World) (c : Int) (l : List Ac) (x m : Int) (e : Ending) (w' : World) : Prop := ∃ r : Int × Int, e = .returned (.tuple #[.int .i64 r.1, .int .i64 r.2]) ∧ VictR c l x m r ∧ Below w.heap.size w w'
theorem vict_early {w w' : World} {c : Int} {l : List Ac} {x m v er : Int} (h : earlyV c l x m = some (v, er)) (hb : Below w.heap.size w w') : GivesV w c l x m (.returned (.tuple #[.int .i64 v, .int .i64 er])) w' := ⟨(v, er), rfl, VictR.early h, hb⟩
theorem used_bd {l : List Ac} (h : OkA l) : 0 ≤ used l ∧ used l ≤ 1099511627776 * l.length := by
  refine sumF_bound _ _ l fun a ha => ?_
  obtain ⟨i, hi, rfl⟩ := List.getElem_of_mem ha
  obtain ⟨-, -, c, d⟩ := h.w hi
  rw [getD_at (0, 0, 0) hi] at c d
  exact ⟨c, d⟩
set_option maxRecDepth 100000 in
set_option maxHeartbeats 1000000 in
theorem victim_early (c : Int) (a : Option Addr) (cap : Nat) (l : List Ac) (x m : Int) (w : World) (hp : AcA w a l) (hok : OkA l) (hc : 0 ≤ c) (hcM : c ≤ 1099511627776) (h : earlyV c l x m ≠ none) :
    Calls Try.prog 29 #[.int .i64 c, .slice a l.length cap, .int .i64 x, .int .i64 m] w (GivesV w c l x m) := by
  have CF := Lib.hid (fun W (hb : Below w.heap.size w W) => find_any a cap l x W (hp.mono hb) hok)
  have CT := Lib.hid (fun W (hb : Below w.heap.size w W) => total_any a cap l W (hp.mono hb) hok)
  have CV := Lib.hid (fun W => isVolume_any m W)
  have hm := hok.2
  obtain ⟨u0, u1⟩ := used_bd hok
  by_cases c3 : hasA l x = true
  case neg =>
    have G := Lib.hid (fun W hb => vict_early (w := w) (w' := W) (early_5 (c := c) (m := m) c3) hb)
    rw [show hasA l x = false by simpa using c3] at CF
    obtain ⟨N, hN⟩ : ∃ N, l.length = N := ⟨_, rfl⟩
    rw [hN] at CF hm ⊢
    clear hp hok c3 hN CT h
    go_enter Try.func29, Try.ntmps29
    go_wp2_with fail
    refine (CF.out _ (Below.refl _ _)).mono ?_
    rintro e w1 ⟨rfl, hb⟩
    have B1 := Lib.hid hb
    clear hb
    go_wp2
    refine bodyPost_ret (by simp [results, Try.results29, go_sem]; try rfl) rfl ?_
    exact G.out _ B1.out
  by_cases c4 : 0 ≤ m ∧ m ≤ 1099511627776
  case neg =>
    have G := Lib.hid (fun W hb => vict_early (w := w) (w' := W) (early_1 (c := c) (m := m) c3 (by omega)) hb)
    rw [c3] at CF
    rw [decide_eq_false c4] at CV
    obtain ⟨N, hN⟩ : ∃ N, l.length = N := ⟨_, rfl⟩
    rw [hN] at CF hm ⊢
    clear hp hok c3 hN CT h c4
    go_enter Try.func29, Try.ntmps29
    go_wp2_with fail
    refine (CF.out _ (Below.refl _ _)).mono ?_
    rintro e w1 ⟨rfl, hb⟩
    have B1 := Lib.hid hb
    clear hb
    go_wp2_with fail
    refine (CV.out _).mono ?_
    rintro e w2 ⟨rfl, rfl⟩
    go_wp2
    refine bodyPost_ret (by simp [results, Try.results29, go_sem]; try rfl) rfl ?_
    exact G.out _ B1.out
  by_cases c5 : used l + m ≤ c
  · have G := Lib.hid (fun W hb => vict_early (w := w) (w' := W) (early_0 (c := c) (m := m) c3 (by omega) c5) hb)
    rw [c3] at CF
    rw [decide_eq_true c4] at CV
    obtain ⟨U, hU⟩ : ∃ U, used l = U := ⟨_, rfl⟩
    rw [hU] at CT c5 u0 u1
    obtain ⟨N, hN⟩ : ∃ N, l.length = N := ⟨_, rfl⟩
    rw [hN] at CF CT hm u1 ⊢
    obtain ⟨c6, c7⟩ := c4
    clear hp hok c3 hN h hU
    go_enter Try.func29, Try.ntmps29
    go_wp2_with fail
    refine (CF.out _ (Below.refl _ _)).mono ?_
    rintro e w1 ⟨rfl, hb⟩
    have B1 := Lib.hid hb
    clear hb
    go_wp2_with fail
    refine (CV.out _).mono ?_
    rintro e w2 ⟨rfl, rfl⟩
    go_wp2_with fail
    refine (CT.out _ B1.out).mono ?_
    rintro e w2 ⟨rfl, hb⟩
    have B2 := Lib.hid (show Below w.heap.size w w2 from bt B1.out hb)
    clear hb
    go_wp2
    refine bodyPost_ret (by simp [results, Try.results29, go_sem]; try rfl) rfl ?_
    exact G.out _ B2.out
  · exact absurd (early_n c3 (by omega) c5) h
/-- A block that holds just these shares. -/
def RowS (W : World) (g : Nat) (s : List Sh) : Prop := Blk W g 32 (s.flatMap encS).toArray
theorem encS_len (s : Sh) : (encS s).length = 2 := rfl
theorem RowS.sh {W : World} {g : Nat} {s : List Sh} (h : RowS W g s) : ShA W (some ⟨g, 0, none⟩) s := by
  intro i x hx
  refine ⟨g, 0, rfl, fun j u hu => ?_⟩
  have hj : j < 2 := by have := (List.getElem?_eq_some_iff.1 hu).1; simpa [encS] using this
  have h1 := Blk.cell h (i * 2 + j)
  rw [show 0 + i * 2 + j = i * 2 + j by omega, h1, List.getElem?_toArray, flat_at encS_len s i j hj, hx]
  exact hu
theorem flatS_set (s : List Sh) (k : Nat) (x : Sh) (h : k < s.length) : ((s.flatMap encS).set (k * 2) (.int .i64 x.1)).set (k * 2 + 1) (.int .i64 x.2) = (s.set k x).flatMap encS := by
  induction s generalizing k with
  | nil => simp at h
  | cons y s ih =>
    cases k with
    | zero => simp [encS]
    | succ k =>
      have := ih k (by simpa using h)
      rw [show (k + 1) * 2 = k * 2 + 1 + 1 by omega, show k * 2 + 1 + 1 + 1 = (k * 2 + 1) + 1 + 1 by omega]
      simp only [List.flatMap_cons, encS, List.cons_append, List.nil_append, List.set_cons_succ]
      rw [← this]
theorem RowS.set_ {W : World} {g : Nat} {s : List Sh} (h : RowS W g s) (k : Nat) (x : Sh) (hk : k < s.length) : RowS ((W.setCell ⟨g, k * 2, none⟩ (.int .i64 x.1)).setCell ⟨g, k * 2 + 1, none⟩ (.int .i64 x.2)) g (s.set k x) := by
  have := Blk.set_ (Blk.set_ h (k * 2) (.int .i64 x.1)) (k * 2 + 1) (.int .i64 x.2)
  rw [List.setIfInBounds_toArray, List.setIfInBounds_toArray, flatS_set s k x hk] at this
  exact this
theorem RowS.want {W : World} {g : Nat} {s : List Sh} (h : RowS W g s) (k : Nat) (u : Int) (hk : k < s.length) : RowS (W.setCell ⟨g, k * 2 + 1, none⟩ (.int .i64 u)) g (s.set k ((s.getD k (0, 0)).1, u)) := by
  have h1 := Blk.set_ h (k * 2 + 1) (.int .i64 u)
  rw [List.setIfInBounds_toArray] at h1
  have e := flatS_set s k ((s.getD k (0, 0)).1, u) hk
  have e2 : (s.flatMap encS).set (k * 2) (.int .i64 (s.getD k (0, 0)).1) = s.flatMap encS := by
    have hx : (s.flatMap encS)[k * 2]? = some (.int .i64 (s.getD k (0, 0)).1) := by
      have := flat_at encS_len s k 0 (by decide)
      rw [Nat.add_zero] at this
      rw [this, List.getElem?_eq_getElem hk, getD_at (0, 0) hk]; rfl
    have hlt := (List.getElem?_eq_some_iff.1 hx).1
    have hv := (List.getElem?_eq_some_iff.1 hx).2
    rw [← hv]
    exact List.set_getElem_self hlt
  rw [e2] at e
  rw [e] at h1
  exact h1
theorem infoS : (Try.prog.info? 32).map (fun i => (i.zero, i.size, i.bytes)) = some (some (.agg #[.int .i64 0, .int .i64 0]), 2, 16) := by kernel_rfl
theorem flatS_zeros (n : Nat) : (madeCells #[Value.int .i64 0, .int .i64 0] (n * 2)) = ((List.replicate n ((0, 0) : Sh)).flatMap encS).toArray := by
  refine Array.ext_getElem? fun q => ?_
  rcases Nat.lt_or_ge q (n * 2) with h | h
  · have hd : q = q / 2 * 2 + q % 2 := by omega
    conv => rhs; rw [List.getElem?_toArray, hd, flat_at encS_len _ _ _ (Nat.mod_lt _ (by decide))]
    rw [List.getElem?_replicate, if_pos (by omega)]
    unfold madeCells
    rw [Array.getElem?_map, Array.getElem?_range, if_pos h]
    have h2 : q % 2 = 0 ∨ q % 2 = 1 := by omega
    rcases h2 with h2 | h2 <;> simp [h2, encS]
  · rw [Array.getElem?_eq_none (by rw [size_madeCells]; exact h), List.getElem?_toArray, List.getElem?_eq_none (by rw [flat_len encS_len, List.length_replicate]; exact h)]
theorem run_mkS (n : Nat) (hn : n ≤ 1000000) (X : World) : (Instr.makeSlice 22 (.int .i64 (n : Int)) (.int .i64 (n : Int))).run Try.prog X = .ok (.slice (some ⟨X.heap.size, 0, none⟩) n n) (X.alloc (.cells ((List.replicate n ((0, 0) : Sh)).flatMap encS).toArray 32)) := by
  obtain ⟨i, hi, hzz⟩ := Option.map_eq_some_iff.1 infoS
  simp only [Prod.mk.injEq] at hzz
  obtain ⟨hz, hs, hb⟩ := hzz
  have := run_make (P := Try.prog) X 22 32 i _ Try.underlying22 hi hz .i64 .i64 n n (by omega) (by omega) (by rw [hb]; omega) (by omega)
  rw [← flatS_zeros]
  simpa [hs, Value.cells] using this
end Go.Proofs.Ytjmegfejnocegaa
