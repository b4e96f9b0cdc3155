/- Contracts: the parts of stamps and heads. -/
import Derived.Test.YteblnmhaohbkkaaGreatDoorQSRE
namespace Go.Proofs.YteblnmhaohbkkaaGreatDoor
set_option linter.unusedVariables false
set_option linter.unusedSimpArgs false
open Go.RowKit Go.Sort
theorem exec_conv (a : Act) (W : World) (o : Oper) (ty tt : TypeId) (x : Operand) (v r : Value) (ho : o.op = .convert ty tt x) (hx : a.eval x = v) (h : (convert ty tt v).run Tryz.prog W = .ok r W) : (execOp a.eval o).run Tryz.prog W = .ok (.value r) W := by
  unfold execOp
  simp only [ho, hx, Sem.run_bind, Sem.run_pure, Result.andThen_ok, h]
theorem conv16 {X : World} {g n : Nat} {B : List Nat} (hB : B.length = 16) (h : Hs.BytesA X (some ⟨g, n, none⟩) B) : (convert 115 9 (.slice (some ⟨g, n, none⟩) 16 16)).run Tryz.prog X = .ok (.string (Hs.strB B)) X := by
  have := Hs.conv_str B (some ⟨g, n, none⟩) 16 X h
  rw [hB] at this
  exact this
theorem stamp_cells {X : World} {g : Nat} {t : TypeId} {ad va tg : ByteArray} {st sz lo hi ga se : Int} {B : List Nat} {S : List Nat} (hB : B.length = 16) (h : Blk X g t (recC [.string ad, .string va, .int .i64 st, .int .i64 sz] B [.string tg, .int .i64 lo, .int .i64 hi, .int .i64 ga, .int .i64 se] S)) : X.cell? ⟨g, 0, none⟩ = some (.string ad) ∧ X.cell? ⟨g, 1, none⟩ = some (.string va) ∧ X.cell? ⟨g, 2, none⟩ = some (.int .i64 st) ∧ X.cell? ⟨g, 3, none⟩ = some (.int .i64 sz) ∧ X.cell? ⟨g, 20, none⟩ = some (.string tg) ∧ X.cell? ⟨g, 21, none⟩ = some (.int .i64 lo) ∧ X.cell? ⟨g, 22, none⟩ = some (.int .i64 hi) ∧ X.cell? ⟨g, 23, none⟩ = some (.int .i64 ga) ∧ X.cell? ⟨g, 24, none⟩ = some (.int .i64 se) := ⟨rec_at h (i := 0) rfl, rec_at h (i := 1) rfl, rec_at h (i := 2) rfl, rec_at h (i := 3) rfl, rec_on h hB (j := 0) rfl, rec_on h hB (j := 1) rfl, rec_on h hB (j := 2) rfl, rec_on h hB (j := 3) rfl, rec_on h hB (j := 4) rfl⟩
theorem head_cells {X : World} {g : Nat} {t : TypeId} {si sz lo hi se : Int} {B : List Nat} {S : List Nat} (hB : B.length = 16) (h : Blk X g t (recC [.int .i64 si, .int .i64 sz] B [.int .i64 lo, .int .i64 hi, .int .i64 se] S)) : X.cell? ⟨g, 0, none⟩ = some (.int .i64 si) ∧ X.cell? ⟨g, 1, none⟩ = some (.int .i64 sz) ∧ X.cell? ⟨g, 18, none⟩ = some (.int .i64 lo) ∧ X.cell? ⟨g, 19, none⟩ = some (.int .i64 hi) ∧ X.cell? ⟨g, 20, none⟩ = some (.int .i64 se) := ⟨rec_at h (i := 0) rfl, rec_at h (i := 1) rfl, rec_on h hB (j := 0) rfl, rec_on h hB (j := 1) rfl, rec_on h hB (j := 2) rfl⟩
def headP (si sz lo hi se : Int) (B : List Nat) : List ByteArray := [numP [si, sz, lo, hi, se], Hs.strB B]
def stampP (ad va tg : ByteArray) (st sz lo hi ga se : Int) (B : List Nat) : List ByteArray := [ad, va, numP [st, sz, lo, hi, ga, se], Hs.strB B, tg]
theorem headP_le {si sz lo hi se : Int} {B : List Nat} (hB : B.length = 16) (hsi : i64Ok si) (hsz : i64Ok sz) (hlo : i64Ok lo) (hhi : i64Ok hi) (hse : i64Ok se) : ∀ x ∈ headP si sz lo hi se B, x.size ≤ 400 := fun x hx => by
  unfold headP at hx
  simp only [List.mem_cons, List.not_mem_nil, or_false] at hx
  rcases hx with rfl | rfl
  · refine numP_le _ (fun y hy => ?_) (by simp)
    simp only [List.mem_cons, List.not_mem_nil, or_false] at hy
    rcases hy with rfl | rfl | rfl | rfl | rfl <;> assumption
  · rw [Hs.strB_size, hB]; omega
theorem stampP_le {ad va tg : ByteArray} {st sz lo hi ga se : Int} {B : List Nat} (hB : B.length = 16) (hst : i64Ok st) (hsz : i64Ok sz) (hlo : i64Ok lo) (hhi : i64Ok hi) (hga : i64Ok ga) (hse : i64Ok se) (hT : ad.size ≤ 200 ∧ va.size ≤ 200 ∧ tg.size ≤ 200) : ∀ x ∈ stampP ad va tg st sz lo hi ga se B, x.size ≤ 400 := fun x hx => by
  obtain ⟨t1, t2, t3⟩ := hT
  unfold stampP at hx
  simp only [List.mem_cons, List.not_mem_nil, or_false] at hx
  rcases hx with rfl | rfl | rfl | rfl | rfl
  · omega
  · omega
  · refine numP_le _ (fun y hy => ?_) (by simp)
    simp only [List.mem_cons, List.not_mem_nil, or_false] at hy
    rcases hy with rfl | rfl | rfl | rfl | rfl | rfl <;> assumption
  · rw [Hs.strB_size, hB]; omega
  · omega
end Go.Proofs.YteblnmhaohbkkaaGreatDoor
