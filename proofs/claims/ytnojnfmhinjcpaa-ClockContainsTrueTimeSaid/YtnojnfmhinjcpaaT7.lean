/- Plain arithmetic: a true clock is within its drift, so what Read says contains the true instant. -/
import Derived.Test.YtnojnfmhinjcpaaQ
namespace Go.Proofs.Ytnojnfmhinjcpaa
set_option linter.unusedVariables false
set_option linter.unusedSimpArgs false
/-- The parts that have passed at an instant. -/
def pt (t : Int) (ps : List (Int × Int)) : Int := (run (0, t) ps).1 + (run (0, t) ps).2 * 1000000
theorem pt_cons (t : Int) (p : Int × Int) (ps : List (Int × Int)) : pt t (p :: ps) = min p.1 t * (1000000 + p.2) + pt (t - min p.1 t) ps := by
  unfold pt
  have e : run (0, t) (p :: ps) = run (0 + min p.1 t * (1000000 + p.2), t - min p.1 t) ps := rfl
  rw [e, run_shift]
  simp only
  omega
theorem prod_two (m y d : Int) (hm : 0 ≤ m) (h1 : y ≤ d) (h2 : -d ≤ y) : m * (1000000 - d) ≤ m * (1000000 + y) ∧ m * (1000000 + y) ≤ m * (1000000 + d) :=
  ⟨Int.mul_le_mul_of_nonneg_left (by omega) hm, Int.mul_le_mul_of_nonneg_left (by omega) hm⟩
theorem pt_lip (d : Int) (ps : List (Int × Int)) : ∀ (s t : Int), 0 ≤ s → s ≤ t → ps.all (near d) = true → ps.all okPace = true → 0 ≤ d → (t - s) * (1000000 - d) ≤ pt t ps - pt s ps ∧ pt t ps - pt s ps ≤ (t - s) * (1000000 + d) := by
  induction ps with
  | nil =>
    intro s t h0 h1 _ _ hd
    have e : ∀ x, pt x [] = x * 1000000 := fun x => by unfold pt run; simp
    rw [e, e]
    obtain ⟨a, b⟩ := prod_two (t - s) 0 d (by omega) (by omega) (by omega)
    have : (t - s) * (1000000 + 0) = t * 1000000 - s * 1000000 := by rw [Int.add_zero, Int.sub_mul]
    omega
  | cons p ps ih =>
    intro s t h0 h1 hn hr hd
    simp only [List.all_cons, Bool.and_eq_true] at hn hr
    obtain ⟨n1, n2⟩ := hn
    obtain ⟨r1, r2⟩ := hr
    simp only [near, okPace, decide_eq_true_eq] at n1 r1
    rw [pt_cons, pt_cons]
    obtain ⟨m, hm⟩ : ∃ m, min p.1 t = m := ⟨_, rfl⟩
    obtain ⟨q, hq⟩ : ∃ q, min p.1 s = q := ⟨_, rfl⟩
    rw [hm, hq]
    obtain ⟨a, b⟩ := ih (s - q) (t - m) (by omega) (by omega) n2 r2 hd
    obtain ⟨c, e⟩ := prod_two (m - q) p.2 d (by omega) (by omega) (by omega)
    have e1 : (m - q) * (1000000 + p.2) = m * (1000000 + p.2) - q * (1000000 + p.2) := Int.sub_mul _ _ _
    have e2 : (t - s) * (1000000 - d) = (m - q) * (1000000 - d) + (t - m - (s - q)) * (1000000 - d) := by rw [← Int.add_mul]; congr 1; omega
    have e3 : (t - s) * (1000000 + d) = (m - q) * (1000000 + d) + (t - m - (s - q)) * (1000000 + d) := by rw [← Int.add_mul]; congr 1; omega
    omega
theorem showT_pt (base t : Int) (ps : List (Int × Int)) : showT base t ps = base * 1000000 + pt t ps := showT_eq base t ps
theorem contain (base d s t lo hi : Int) (ps : List (Int × Int)) (hn : ps.all (near d) = true) (hr : ps.all okPace = true) (d0 : 0 ≤ d) (d1 : d ≤ 100000) (s0 : 0 ≤ s) (s1 : s ≤ t) (t1 : t ≤ 1099511627776) (h1 : lo ≤ s) (h2 : s ≤ hi) :
    showT base s ps / 1000000 ≤ showT base t ps / 1000000 ∧ rdLo lo d (showT base t ps / 1000000 - showT base s ps / 1000000) ≤ t ∧ t ≤ rdHi hi d (showT base t ps / 1000000 - showT base s ps / 1000000) := by
  obtain ⟨a, b⟩ := pt_lip d ps s t s0 s1 hn hr d0
  have eA := showT_pt base s ps
  have eB := showT_pt base t ps
  obtain ⟨A, hA⟩ : ∃ A, showT base s ps = A := ⟨_, rfl⟩
  obtain ⟨B, hB⟩ : ∃ B, showT base t ps = B := ⟨_, rfl⟩
  rw [hA] at eA ⊢
  rw [hB] at eB ⊢
  have a' : (t - s) * (1000000 - d) ≤ B - A := by omega
  have b' : B - A ≤ (t - s) * (1000000 + d) := by omega
  have p0 : 0 ≤ (t - s) * (1000000 - d) := Int.mul_nonneg (by omega) (by omega)
  clear eA eB a b hA hB
  have hle : A / 1000000 ≤ B / 1000000 := by omega
  obtain ⟨n, hn'⟩ : ∃ n, B / 1000000 - A / 1000000 = n := ⟨_, rfl⟩
  rw [hn']
  refine ⟨hle, ?_, ?_⟩
  · unfold rdLo least
    split
    · have : ((n - 1) * 1000000 + (1000000 + d) - 1) / (1000000 + d) < t - s + 1 := Int.ediv_lt_of_lt_mul (by omega) (by
        rw [Int.add_mul (t - s) 1, Int.one_mul]
        omega)
      omega
    · omega
  · unfold rdHi
    have : t - s ≤ (n + 1) * 1000000 / (1000000 - d) := (Int.le_ediv_iff_mul_le (by omega)).2 (by omega)
    omega
/-- What holds of a clock between two rounds: it was set at a true instant that its period contains. -/
def Inv (base d t l lo hi s : Int) (ps : List (Int × Int)) : Prop := 0 ≤ s ∧ s ≤ t ∧ lo ≤ s ∧ s ≤ hi ∧ l = showT base s ps / 1000000 ∧ OkClk l lo hi d
end Go.Proofs.Ytnojnfmhinjcpaa
