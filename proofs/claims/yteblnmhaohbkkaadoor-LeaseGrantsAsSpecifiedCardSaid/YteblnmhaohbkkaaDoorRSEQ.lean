/- A stamp, a lease, a head equal themselves. -/
import Derived.Test.YteblnmhaohbkkaaDoorRSRE
import Derived.Laws.StructEq
namespace Go.Proofs.YteblnmhaohbkkaaDoor
set_option linter.unusedVariables false
set_option linter.unusedSimpArgs false
open Go.RowKit Go.Sort
set_option maxRecDepth 100000 in
theorem equalIn_16g {t : TypeId} (ht : Tryd.prog.underlying t = some (.array 16 5)) (d : Nat) (xs ys : List Nat) (hx : xs.length = 16) (hy : ys.length = 16) (W : World) : (Op.equalIn (d + 1 + 1) t (.agg (Hs.bvs xs)) (.agg (Hs.bvs ys))).run Tryd.prog W = .ok (decide (xs = ys)) W := by
  obtain ⟨i, hi⟩ : ∃ i, Tryd.prog.info? 5 = some i := by
    obtain ⟨i0, hi, -⟩ := info_parts Hs.infoB
    exact ⟨_, hi⟩
  rw [run_equalIn_array W (d + 1) (n := 16) (Hs.bvs xs) (Hs.bvs ys) ht hi, Hs.eqItems_all d xs ys 16 W hx hy _ (fun i hi => by simpa using hi)]
  congr 1
  by_cases h : xs = ys
  · rw [h, decide_eq_true rfl]; simp
  · rw [decide_eq_false h, List.all_eq_false]
    apply Classical.byContradiction
    intro hn
    apply h
    apply List.ext_getElem (by omega)
    intro k h1 h2
    apply Classical.byContradiction
    intro hk
    apply hn
    refine ⟨k, by simp; omega, ?_⟩
    rw [List.getD_eq_getElem?_getD, List.getElem?_eq_getElem h1, List.getD_eq_getElem?_getD, List.getElem?_eq_getElem h2]
    simpa using hk
theorem eqFields_self (d : Nat) (xs : Array Value) (W : World) : ∀ fs : List Field, (∀ f ∈ fs, ∃ a, (part f.type xs f.offset).run Tryd.prog W = .ok a W ∧ (Op.equalIn d f.type a a).run Tryd.prog W = .ok true W) → (Op.eqFields d xs xs fs).run Tryd.prog W = .ok true W
  | [], _ => by simp [Op.eqFields]
  | f :: fs, h => by
    obtain ⟨a, h1, h2⟩ := h f (by simp)
    have ih := eqFields_self d xs W fs (fun g hg => h g (by simp [hg]))
    simp only [Op.eqFields, Sem.run_ite, Sem.run_bind, h1, h2, Result.andThen_ok, Bool.not_true, Bool.false_eq_true, if_false, ih]
    split <;> rfl
theorem part_one {t : TypeId} {W : World} (ha : (isAgg t).run Tryd.prog W = .ok false W) {xs : Array Value} {off : Nat} {v : Value} (hv : xs[off]? = some v) : (part t xs off).run Tryd.prog W = .ok v W := by simp [part, ha, hv]
theorem part_many {t n : Nat} {W : World} (ha : (isAgg t).run Tryd.prog W = .ok true W) (hz : (sizeOf t).run Tryd.prog W = .ok n W) {xs ys : Array Value} {off : Nat} (h : xs.extract off (off + n) = ys) : (part t xs off).run Tryd.prog W = .ok (.agg ys) W := by simp [part, ha, hz, h]
theorem agg3 (W : World) : (isAgg 3).run Tryd.prog W = .ok false W := by kernel_rfl
theorem aggS (W : World) : (isAgg 36).run Tryd.prog W = .ok true W := by kernel_rfl
theorem sizeS (W : World) : (sizeOf 36).run Tryd.prog W = .ok 16 W := by kernel_rfl
theorem eqI (d : Nat) (n : Int) (W : World) : (Op.equalIn (d + 1) 3 (.int .i64 n) (.int .i64 n)).run Tryd.prog W = .ok true W := by rw [run_equalIn_int W d 3 .i64 .i64 n n Tryd.underlying3, beq_self_eq_true]
theorem extract_of (L M R : List Value) (n k : Nat) (hn : L.length = n) (hk : M.length = k) : (L ++ M ++ R).toArray.extract n (n + k) = M.toArray := by
  subst hn
  subst hk
  apply Array.ext'
  rw [Array.toList_extract]
  simp [List.extract]
set_option maxRecDepth 100000 in
theorem lease_self (s e u r : Int) (D : List Nat) (W : World) (hD : D.length = 16) : (Op.equalIn 10000 38 (.agg (leaseC s e u r D)) (.agg (leaseC s e u r D))).run Tryd.prog W = .ok true W := by
  show (Op.equalIn (9999 + 1) 38 (.agg (leaseC s e u r D)) (.agg (leaseC s e u r D))).run Tryd.prog W = _
  rw [run_equalIn_agg W 9999 38 _ _ (by kernel_rfl) (by kernel_rfl)]
  refine eqFields_self _ _ W _ fun f hf => ?_
  simp only [Program.fieldsOf, Tryd.underlying38] at hf
  simp only [List.mem_cons, List.not_mem_nil, or_false] at hf
  obtain ⟨h0, h1, h2, h3⟩ := lease_at s e u r D
  have h4 : (leaseC s e u r D).extract 4 (4 + 16) = Hs.bvs D := by
    have := extract_of [.int .i64 s, .int .i64 e, .int .i64 u, .int .i64 r] (D.map Hs.bv) [] 4 16 rfl (by simp [hD])
    rw [List.append_nil] at this
    exact this
  rcases hf with rfl | rfl | rfl | rfl | rfl
  · exact ⟨_, part_one (agg3 W) h0, eqI 9998 _ _⟩
  · exact ⟨_, part_one (agg3 W) h1, eqI 9998 _ _⟩
  · exact ⟨_, part_one (agg3 W) h2, eqI 9998 _ _⟩
  · exact ⟨_, part_one (agg3 W) h3, eqI 9998 _ _⟩
  · exact ⟨_, part_many (aggS W) (sizeS W) h4, by rw [show (9999 : Nat) = 9997 + 1 + 1 from rfl, equalIn_16g Tryd.underlying36 9997 D D hD hD W, decide_eq_true rfl]⟩
end Go.Proofs.YteblnmhaohbkkaaDoor
