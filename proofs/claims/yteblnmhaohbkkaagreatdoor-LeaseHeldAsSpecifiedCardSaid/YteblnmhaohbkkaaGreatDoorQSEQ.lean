/- A stamp, a lease, a head equal themselves. -/
import Derived.Test.YteblnmhaohbkkaaGreatDoorQSRE
import Derived.Laws.StructEq
namespace Go.Proofs.YteblnmhaohbkkaaGreatDoor
set_option linter.unusedVariables false
set_option linter.unusedSimpArgs false
open Go.RowKit Go.Sort
set_option maxRecDepth 100000 in
theorem equalIn_16g {t : TypeId} (ht : Tryz.prog.underlying t = some (.array 16 5)) (d : Nat) (xs ys : List Nat) (hx : xs.length = 16) (hy : ys.length = 16) (W : World) : (Op.equalIn (d + 1 + 1) t (.agg (Hs.bvs xs)) (.agg (Hs.bvs ys))).run Tryz.prog W = .ok (decide (xs = ys)) W := by
  obtain ⟨i, hi⟩ : ∃ i, Tryz.prog.info? 5 = some i := by
    obtain ⟨i0, hi, -⟩ := info_parts Hs.infoB
    exact ⟨_, hi⟩
  rw [run_equalIn_array W (d + 1) (n := 16) (Hs.bvs xs) (Hs.bvs ys) ht hi, Hs.eqItems_all d xs ys 16 W hx hy _ (fun i hi => by simpa using hi)]
  congr 1
  by_cases h : xs = ys
  · rw [h, decide_eq_true rfl]; simp
  · rw [decide_eq_false h, List.all_eq_false]
    apply Classical.byContradiction
    intro hn
    apply h
    apply List.ext_getElem (by omega)
    intro k h1 h2
    apply Classical.byContradiction
    intro hk
    apply hn
    refine ⟨k, by simp; omega, ?_⟩
    rw [List.getD_eq_getElem?_getD, List.getElem?_eq_getElem h1, List.getD_eq_getElem?_getD, List.getElem?_eq_getElem h2]
    simpa using hk
theorem eqFields_self (d : Nat) (xs : Array Value) (W : World) : ∀ fs : List Field, (∀ f ∈ fs, ∃ a, (part f.type xs f.offset).run Tryz.prog W = .ok a W ∧ (Op.equalIn d f.type a a).run Tryz.prog W = .ok true W) → (Op.eqFields d xs xs fs).run Tryz.prog W = .ok true W
  | [], _ => by simp [Op.eqFields]
  | f :: fs, h => by
    obtain ⟨a, h1, h2⟩ := h f (by simp)
    have ih := eqFields_self d xs W fs (fun g hg => h g (by simp [hg]))
    simp only [Op.eqFields, Sem.run_ite, Sem.run_bind, h1, h2, Result.andThen_ok, Bool.not_true, Bool.false_eq_true, if_false, ih]
    split <;> rfl
theorem part_one {t : TypeId} {W : World} (ha : (isAgg t).run Tryz.prog W = .ok false W) {xs : Array Value} {off : Nat} {v : Value} (hv : xs[off]? = some v) : (part t xs off).run Tryz.prog W = .ok v W := by simp [part, ha, hv]
theorem part_many {t n : Nat} {W : World} (ha : (isAgg t).run Tryz.prog W = .ok true W) (hz : (sizeOf t).run Tryz.prog W = .ok n W) {xs ys : Array Value} {off : Nat} (h : xs.extract off (off + n) = ys) : (part t xs off).run Tryz.prog W = .ok (.agg ys) W := by simp [part, ha, hz, h]
theorem agg9 (W : World) : (isAgg 9).run Tryz.prog W = .ok false W := by kernel_rfl
theorem agg3 (W : World) : (isAgg 3).run Tryz.prog W = .ok false W := by kernel_rfl
theorem aggD (W : World) : (isAgg 108).run Tryz.prog W = .ok true W := by kernel_rfl
theorem aggS (W : World) : (isAgg 24).run Tryz.prog W = .ok true W := by kernel_rfl
theorem aggP (W : World) : (isAgg 30).run Tryz.prog W = .ok true W := by kernel_rfl
theorem sizeD (W : World) : (sizeOf 108).run Tryz.prog W = .ok 16 W := by kernel_rfl
theorem sizeS (W : World) : (sizeOf 24).run Tryz.prog W = .ok 16 W := by kernel_rfl
theorem sizeP (W : World) : (sizeOf 30).run Tryz.prog W = .ok 2 W := by kernel_rfl
theorem eqI (d : Nat) (n : Int) (W : World) : (Op.equalIn (d + 1) 3 (.int .i64 n) (.int .i64 n)).run Tryz.prog W = .ok true W := by rw [run_equalIn_int W d 3 .i64 .i64 n n Tryz.underlying3, beq_self_eq_true]
theorem eqS (d : Nat) (s : ByteArray) (W : World) : (Op.equalIn (d + 1) 9 (.string s) (.string s)).run Tryz.prog W = .ok true W := by rw [run_equalIn_string W d 9 s s Tryz.underlying9, beq_self_eq_true]
theorem recC_A {A C : List Value} {B S : List Nat} {i : Nat} {v : Value} (hv : A[i]? = some v) : (recC A B C S)[i]? = some v := by
  unfold recC recL
  have hi := (List.getElem?_eq_some_iff.1 hv).1
  simp only [List.getElem?_toArray]
  rw [List.append_assoc, List.getElem?_append_left hi]
  exact hv
theorem recC_C {A C : List Value} {B S : List Nat} (hB : B.length = 16) {n j : Nat} {v : Value} (hv : C[j]? = some v) (hn : n = A.length + 16 + j) : (recC A B C S)[n]? = some v := by
  subst hn
  unfold recC recL
  have hi := (List.getElem?_eq_some_iff.1 hv).1
  simp only [List.getElem?_toArray]
  rw [List.getElem?_append_right (by simp [hB]; try omega), List.getElem?_append_left (by simp [hB]; try omega)]
  simpa [hB, Nat.add_sub_cancel_left] using hv
theorem extract_of (L M R : List Value) (n k : Nat) (hn : L.length = n) (hk : M.length = k) : (L ++ M ++ R).toArray.extract n (n + k) = M.toArray := by
  subst hn
  subst hk
  apply Array.ext'
  rw [Array.toList_extract]
  simp [List.extract]
theorem recC_B {A C : List Value} {B S : List Nat} (hB : B.length = 16) {n : Nat} (hn : A.length = n) : (recC A B C S).extract n (n + 16) = Hs.bvs B := extract_of A (B.map Hs.bv) (C ++ S.map Hs.bv) n 16 hn (by simp [hB])
theorem recC_S {A C : List Value} {B S : List Nat} (hB : B.length = 16) (hS : S.length = 16) {n : Nat} (hn : A.length + 16 + C.length = n) : (recC A B C S).extract n (n + 16) = Hs.bvs S := by
  have := extract_of (A ++ B.map Hs.bv ++ C) (S.map Hs.bv) [] n 16 (by simp [hB]; try omega) (by simp [hS])
  rw [List.append_nil] at this
  unfold recC recL
  rw [← List.append_assoc]
  exact this
theorem recC_P {A L M R : List Value} {B S : List Nat} (hB : B.length = 16) {n k : Nat} (hn : A.length + 16 + L.length = n) (hk : M.length = k) : (recC A B (L ++ M ++ R) S).extract n (n + k) = M.toArray := by
  have := extract_of (A ++ B.map Hs.bv ++ L) M (R ++ S.map Hs.bv) n k (by simp [hB]; try omega) hk
  unfold recC recL
  rw [← this]
  simp [List.append_assoc]
theorem eqPer (d : Nat) (lo hi : Int) (W : World) : (Op.equalIn (d + 1 + 1) 30 (.agg #[.int .i64 lo, .int .i64 hi]) (.agg #[.int .i64 lo, .int .i64 hi])).run Tryz.prog W = .ok true W := by
  rw [run_equalIn_agg W (d + 1) 30 _ _ (by kernel_rfl) (by kernel_rfl)]
  refine eqFields_self _ _ W _ fun f hf => ?_
  simp only [Program.fieldsOf, Tryz.underlying30] at hf
  simp only [List.mem_cons, List.not_mem_nil, or_false] at hf
  rcases hf with rfl | rfl
  · exact ⟨_, part_one (agg3 W) (v := .int .i64 lo) rfl, eqI _ _ _⟩
  · exact ⟨_, part_one (agg3 W) (v := .int .i64 hi) rfl, eqI _ _ _⟩
set_option maxRecDepth 100000 in
theorem lease_self (s e u r : Int) (D : List Nat) (W : World) (hD : D.length = 16) : (Op.equalIn 10000 26 (.agg (leaseC s e u r D)) (.agg (leaseC s e u r D))).run Tryz.prog W = .ok true W := by
  show (Op.equalIn (9999 + 1) 26 (.agg (leaseC s e u r D)) (.agg (leaseC s e u r D))).run Tryz.prog W = _
  rw [run_equalIn_agg W 9999 26 _ _ (by kernel_rfl) (by kernel_rfl)]
  refine eqFields_self _ _ W _ fun f hf => ?_
  simp only [Program.fieldsOf, Tryz.underlying26] at hf
  simp only [List.mem_cons, List.not_mem_nil, or_false] at hf
  obtain ⟨h0, h1, h2, h3⟩ := lease_at s e u r D
  have h4 : (leaseC s e u r D).extract 4 (4 + 16) = Hs.bvs D := by
    have := extract_of [.int .i64 s, .int .i64 e, .int .i64 u, .int .i64 r] (D.map Hs.bv) [] 4 16 rfl (by simp [hD])
    rw [List.append_nil] at this
    exact this
  rcases hf with rfl | rfl | rfl | rfl | rfl
  · exact ⟨_, part_one (agg3 W) h0, eqI 9998 _ _⟩
  · exact ⟨_, part_one (agg3 W) h1, eqI 9998 _ _⟩
  · exact ⟨_, part_one (agg3 W) h2, eqI 9998 _ _⟩
  · exact ⟨_, part_one (agg3 W) h3, eqI 9998 _ _⟩
  · exact ⟨_, part_many (aggS W) (sizeS W) h4, by rw [show (9999 : Nat) = 9997 + 1 + 1 from rfl, equalIn_16g Tryz.underlying24 9997 D D hD hD W, decide_eq_true rfl]⟩
end Go.Proofs.YteblnmhaohbkkaaGreatDoor
