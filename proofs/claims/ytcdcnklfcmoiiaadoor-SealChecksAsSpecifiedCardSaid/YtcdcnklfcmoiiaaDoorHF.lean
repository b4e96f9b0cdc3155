/- Ported from another seat (wip/hash/F.src, by wip/port.py): contracts that this chapter calls. -/
import Derived.Test.YtcdcnklfcmoiiaaDoorHD
import Derived.Test.YtcdcnklfcmoiiaaDoorHE
import Derived.Laws.CopyRow
namespace Go.Proofs.YtcdcnklfcmoiiaaDoor
set_option linter.unusedVariables false
set_option linter.unusedSimpArgs false
namespace Hs
open Go.RowKit
def St.list (s : St) : List Value := [wv s.a, wv s.b, wv s.c, wv s.d, wv s.e, wv s.f, wv s.g, wv s.h]
/-- The cells of a stream. -/
def svL (s : St) (r : List Nat) (n : Nat) : List Value := s.list ++ (r.map bv ++ [.int .u64 (n : Int)])
def svA (s : St) (r : List Nat) (n : Nat) : Array Value := (svL s r n).toArray
set_option maxRecDepth 100000 in
theorem svL_len (s : St) (r : List Nat) (n : Nat) (h : r.length = 64) : (svL s r n).length = 73 := by unfold svL St.list; simp; omega
set_option maxRecDepth 100000 in
theorem svA_size (s : St) (r : List Nat) (n : Nat) (h : r.length = 64) : (svA s r n).size = 73 := by unfold svA; simp [svL_len s r n h]
set_option maxRecDepth 100000 in
theorem list_len (s : St) : s.list.length = 8 := rfl
set_option maxRecDepth 100000 in
theorem svL_st (s s' : St) (r : List Nat) (n : Nat) : splice (svL s r n) 0 s'.list = svL s' r n := by
  unfold splice svL
  rw [List.take_zero, List.nil_append, list_len, Nat.zero_add, List.drop_append_of_le_length (by rw [list_len]; omega), List.drop_of_length_le (by rw [list_len]; omega), List.nil_append]
set_option maxRecDepth 100000 in
theorem svL_rest (s : St) (r x : List Nat) (n u : Nat) (h : u + x.length ≤ r.length) : splice (svL s r n) (8 + u) (x.map bv) = svL s (splice r u x) n := by
  unfold splice svL
  rw [List.take_append, list_len, List.take_of_length_le (by rw [list_len]; omega), show 8 + u - 8 = u by omega, List.take_append_of_le_length (by simp; omega), List.drop_append, list_len, List.drop_of_length_le (by rw [list_len, List.length_map]; omega), List.nil_append, List.length_map, show 8 + u + x.length - 8 = u + x.length by omega, List.drop_append_of_le_length (by simp; omega)]
  simp only [List.map_append, List.map_take, List.map_drop, List.append_assoc]
set_option maxRecDepth 100000 in
theorem svL_size (s : St) (r : List Nat) (n n' : Nat) (h : r.length = 64) : (svL s r n).set 72 (.int .u64 (n' : Int)) = svL s r n' := by
  unfold svL
  rw [List.set_append_right _ _ (by rw [list_len]; omega), List.set_append_right _ _ (by rw [list_len, List.length_map]; omega), list_len, List.length_map, h]
  rfl
set_option maxRecDepth 100000 in
theorem svL_byte (s : St) (r : List Nat) (n k x : Nat) (h : k < r.length) : (svL s r n).set (8 + k) (bv x) = svL s (r.set k x) n := by
  unfold svL
  rw [List.set_append_right _ _ (by rw [list_len]; omega), list_len, show 8 + k - 8 = k by omega, List.set_append_left _ _ (by simp; omega), List.map_set]
set_option maxRecDepth 100000 in
theorem svA_st_at (s : St) (r : List Nat) (n j : Nat) (v : Value) (h : s.list[j]? = some v) : (svA s r n)[j]? = some v := by
  unfold svA svL
  have hj : j < s.list.length := by
    rcases Nat.lt_or_ge j s.list.length with hj | hj
    · exact hj
    · rw [List.getElem?_eq_none hj] at h; cases h
  rw [List.getElem?_toArray, List.getElem?_append_left hj]
  exact h
set_option maxRecDepth 100000 in
theorem svA_at (s : St) (r : List Nat) (n k : Nat) (h : k < r.length) : (svA s r n)[8 + k]? = some (bv (r.getD k 0)) := by
  unfold svA svL
  rw [List.getElem?_toArray, List.getElem?_append_right (by rw [list_len]; omega), list_len, show 8 + k - 8 = k by omega, List.getElem?_append_left (by simp; omega), List.getElem?_map, List.getElem?_eq_getElem h, List.getD_eq_getElem?_getD, List.getElem?_eq_getElem h]
  rfl
set_option maxRecDepth 100000 in
theorem svA_n (s : St) (r : List Nat) (n : Nat) (h : r.length = 64) : (svA s r n)[72]? = some (.int .u64 (n : Int)) := by
  unfold svA svL
  rw [List.getElem?_toArray, List.getElem?_append_right (by rw [list_len]; omega), list_len, List.getElem?_append_right (by simp; omega), List.length_map, h]
  rfl
set_option maxRecDepth 100000 in
theorem svL_one (s : St) (r : List Nat) (n : Nat) : ∀ v ∈ svL s r n, v.oneCell' = true := by
  intro v hv
  unfold svL St.list at hv
  simp only [List.mem_append, List.mem_map, List.mem_cons, List.not_mem_nil, or_false] at hv
  rcases hv with (h | h | h | h | h | h | h | h) | (⟨x, _, h⟩ | h) <;> subst h <;> rfl
set_option maxRecDepth 100000 in
theorem svA_one (s : St) (r : List Nat) (n : Nat) : (svA s r n).all (·.oneCell') = true := by
  unfold svA
  exact all_oneCell_toArray (svL_one s r n)
section
variable {P : Program} {ops : Array Oper} {rest : List Oper} {op : Oper} {a : Act} {w : World} {Q : Exit → Act → World → Prop}
set_option maxRecDepth 100000 in
theorem wpList_load_bytes (hgd : op.guard = none) (ty : TypeId) (x : Operand) (ho : op.op = .load ty x)
    (g o : Nat) (hx : a.eval x = .pointer (some ⟨g, o, none⟩)) (l : List Nat) (n : Nat) (e : TypeId) (hg : ∀ k, k < l.length → w.cell? ⟨g, o + k, none⟩ = some (bv (l.getD k 0)))
    (hu : P.underlying ty = some (.array n e)) (hi : (P.info? ty).map (·.size) = some l.length)
    (h : wpList P ops Q rest (a.put op.dst (.agg (bvs l))) w) : wpList P ops Q (op :: rest) a w :=
  wpList_load_mid hgd ty x ho g o hx (l.map bv) (.array n e) (fun j v hv => by
    rw [List.getElem?_map] at hv
    by_cases hj : j < l.length
    · rw [hg j hj, ← hv, List.getElem?_eq_getElem hj, List.getD_eq_getElem?_getD, List.getElem?_eq_getElem hj]; rfl
    · rw [List.getElem?_eq_none (by omega)] at hv; cases hv) hu rfl (by rw [List.length_map]; exact hi) h
set_option maxRecDepth 100000 in
theorem wpList_load_rest (hgd : op.guard = none) (ty : TypeId) (x : Operand) (ho : op.op = .load ty x)
    (g : Nat) (hx : a.eval x = .pointer (some ⟨g, 8, none⟩)) (t : TypeId) (s : St) (r : List Nat) (m n : Nat) (e : TypeId) (hg : Blk w g t (svA s r m))
    (hu : P.underlying ty = some (.array n e)) (hi : (P.info? ty).map (·.size) = some r.length)
    (h : wpList P ops Q rest (a.put op.dst (.agg (bvs r))) w) : wpList P ops Q (op :: rest) a w :=
  wpList_load_bytes hgd ty x ho g 8 hx r n e (fun k hk => (hg.cell (8 + k)).trans (svA_at s r m k hk)) hu hi h
set_option maxRecDepth 100000 in
theorem wpList_load_st (hgd : op.guard = none) (ty : TypeId) (x : Operand) (ho : op.op = .load ty x)
    (g : Nat) (hx : a.eval x = .pointer (some ⟨g, 0, none⟩)) (t : TypeId) (s : St) (r : List Nat) (m n : Nat) (e : TypeId) (hg : Blk w g t (svA s r m))
    (hu : P.underlying ty = some (.array n e)) (hi : (P.info? ty).map (·.size) = some 8)
    (h : wpList P ops Q rest (a.put op.dst (.agg s.arr)) w) : wpList P ops Q (op :: rest) a w :=
  wpList_load_mid hgd ty x ho g 0 hx s.list (.array n e) (fun j v hv => by rw [Nat.zero_add]; exact (hg.cell j).trans (svA_st_at s r m j v hv)) hu rfl hi h
set_option maxRecDepth 100000 in
theorem wpList_load_all (hgd : op.guard = none) (ty : TypeId) (x : Operand) (ho : op.op = .load ty x)
    (g : Nat) (hx : a.eval x = .pointer (some ⟨g, 0, none⟩)) (t : TypeId) (cs : Array Value) (fs : Array Field) (hg : Blk w g t cs)
    (hu : P.underlying ty = some (.struct fs)) (hi : (P.info? ty).map (·.size) = some cs.size)
    (h : wpList P ops Q rest (a.put op.dst (.agg cs)) w) : wpList P ops Q (op :: rest) a w :=
  wpList_load_row hgd ty x ho g hx t cs (0, 0) (.struct fs) hg hu rfl hi h
set_option maxRecDepth 100000 in
theorem run_storeVar_mid_row (w : World) (g o : Nat) (t ty : TypeId) (cur : List Value) (cells : Array Value) (hg : Blk w g t cur.toArray) (hi : (P.info? ty).map (·.size) = some cells.size)
    (hf : o + cells.size ≤ cur.length) (h1 : cells.all (·.oneCell') = true) :
    (storeVar ty ⟨g, o, none⟩ (.agg cells)).run P w = .ok () (w.setRow g (splice cur o cells.toList).toArray) := by
  have := run_storeCells_at (P := P) g o t cells.toList 0 cur.toArray w hg (by simpa using hf) (fun v hv => (Array.all_eq_true_iff_forall_mem.1 h1) v (by simpa using hv))
  cases hq : P.info? ty with
  | none => simp [hq] at hi
  | some i =>
    have hs : cells.size = i.size := by simp [hq] at hi; omega
    simp only [Nat.add_zero, List.append_assoc] at this
    simp [storeVar, sizeOf, typeInfo, hq, Value.cells, hs, this, splice]
set_option maxRecDepth 100000 in
theorem wpList_store_mid_blk (hgd : op.guard = none) (ty : TypeId) (x y : Operand) (ho : op.op = .store ty x y)
    (g o : Nat) (t : TypeId) (cur : List Value) (cells : Array Value) (hx : a.eval x = .pointer (some ⟨g, o, none⟩)) (hy : a.eval y = .agg cells)
    (hg : Blk w g t cur.toArray) (hi : (P.info? ty).map (·.size) = some cells.size) (hf : o + cells.size ≤ cur.length) (h1 : cells.all (·.oneCell') = true)
    (hd : op.dst = none) (h : wpList P ops Q rest a (w.setRow g (splice cur o cells.toList).toArray)) : wpList P ops Q (op :: rest) a w := by
  refine wpList_plain hgd fun K hK => ?_
  unfold Oper.wp execOp
  simp only [ho, hx, hy, Instr.storeAt, Instr.sureAddr, Sem.run_bind, Sem.run_pure, Result.andThen_ok, run_storeVar_mid_row w g o t ty cur cells hg hi hf h1]
  have e : a.put op.dst undef = a := by rw [hd]; rfl
  have := hK _ _ h
  rw [← e] at this
  exact this
set_option maxRecDepth 100000 in
theorem arr_one (s : St) : s.arr.all (·.oneCell') = true := by simp [St.arr, Value.oneCell']
set_option maxRecDepth 100000 in
/-- The state is stored into a stream. -/
theorem wpList_store_st (hgd : op.guard = none) (ty : TypeId) (x y : Operand) (ho : op.op = .store ty x y)
    (g : Nat) (t : TypeId) (s s' : St) (r : List Nat) (n : Nat) (hx : a.eval x = .pointer (some ⟨g, 0, none⟩)) (hy : a.eval y = .agg s'.arr)
    (hg : Blk w g t (svA s r n)) (hr : r.length = 64) (hi : (P.info? ty).map (·.size) = some 8)
    (hd : op.dst = none) (h : wpList P ops Q rest a (w.setRow g (svA s' r n))) : wpList P ops Q (op :: rest) a w :=
  wpList_store_mid_blk hgd ty x y ho g 0 t (svL s r n) s'.arr hx hy hg hi (by rw [svL_len s r n hr]; show 0 + 8 ≤ 73; omega) (arr_one s') hd (by
    have e : s'.arr.toList = s'.list := rfl
    rw [e, svL_st]; exact h)
set_option maxRecDepth 100000 in
/-- Bytes are stored into a stream's block, all of it. -/
theorem wpList_store_rest (hgd : op.guard = none) (ty : TypeId) (x y : Operand) (ho : op.op = .store ty x y)
    (g : Nat) (t : TypeId) (s : St) (r r' : List Nat) (n : Nat) (hx : a.eval x = .pointer (some ⟨g, 8, none⟩)) (hy : a.eval y = .agg (bvs r'))
    (hg : Blk w g t (svA s r n)) (hr : r.length = 64) (hr' : r'.length = 64) (hi : (P.info? ty).map (·.size) = some r'.length)
    (hd : op.dst = none) (h : wpList P ops Q rest a (w.setRow g (svA s r' n))) : wpList P ops Q (op :: rest) a w :=
  wpList_store_mid_blk hgd ty x y ho g 8 t (svL s r n) (bvs r') hx hy hg (by rw [bvs_size]; exact hi) (by rw [svL_len s r n hr, bvs_size]; omega) (bvs_one r') hd (by
    have e : (bvs r').toList = r'.map bv := rfl
    have k := svL_rest s r r' n 0 (by omega)
    have k2 : splice r 0 r' = r' := by rw [splice_whole (by omega), List.take_zero, List.nil_append]
    rw [Nat.add_zero, k2] at k
    rw [e, k]; exact h)
set_option maxRecDepth 100000 in
/-- Bytes are copied into a stream. -/
theorem wpList_copy_rest (hgd : op.guard = none) (d sx : Operand) (dT sT : TypeId)
    (ho : op.op = .call { callee := .builtin .copy, args := #[d, sx], argTypes := #[dT, sT] }) (elem : TypeId) (hu : P.underlying dT = some (.slice elem)) (hsz : (P.info? elem).map (·.size) = some 1)
    (g u dLen dCap : Nat) (ad : Option Addr) (sLen sCap : Nat) (t : TypeId) (s : St) (r l x : List Nat) (n : Nat) (hd : a.eval d = .slice (some ⟨g, 8 + u, none⟩) dLen dCap) (hs : a.eval sx = .slice ad sLen sCap)
    (hg : Blk w g t (svA s r n)) (hr : r.length = 64) (hb : BytesA w ad l) (hx : x = l.take (Nat.min sLen dLen)) (hl : sLen = l.length) (hpos : 0 < x.length) (hfit : u + x.length ≤ 64) (nx : Nat) (hnx : x.length = nx) (r2 : List Nat) (hr2 : splice r u x = r2)
    (h : wpList P ops Q rest (a.put op.dst (.int .i64 (nx : Int))) (w.setRow g (svA s r2 n))) : wpList P ops Q (op :: rest) a w := by
  subst hnx; subst hr2
  obtain ⟨b, off, rfl, -, -⟩ := hb 0 (by rw [hx, List.length_take] at hpos; omega)
  have hxl : x.length = Nat.min sLen dLen := by
    rw [hx, List.length_take, Nat.min_eq_left]
    rw [← hl]; exact Nat.min_le_left _ _
  refine wpList_copy_own hgd d sx dT sT ho elem hu hsz g (8 + u) dLen dCap ⟨b, off, none⟩ sLen sCap hd hs (svA s r n) t hg (x.map bv) (by rw [List.length_map]; exact hxl) (fun j v hv => ?_) (by rw [svA_size s r n hr, List.length_map]; omega) (fun v hv => ?_) ?_
  · rw [List.getElem?_map] at hv
    by_cases hj : j < x.length
    · obtain ⟨b', off', e, h1, h2⟩ := hb j (by rw [hx, List.length_take] at hj; omega)
      injection e with e
      injection e with e1 e2
      subst e1; subst e2
      rw [List.getElem?_eq_getElem hj] at hv
      have e3 : x[j] = l.getD j 0 := by
        subst hx
        rw [List.getElem_take, List.getD_eq_getElem?_getD, List.getElem?_eq_getElem (by rw [List.length_take] at hj; omega)]
        rfl
      rw [← hv, e3]
      have : (⟨b, off, none⟩ : Addr).add j = ⟨b, off + j, none⟩ := Addr.add_mid b off j
      rw [this]
      exact h1
    · rw [List.getElem?_eq_none (by omega)] at hv; cases hv
  · rw [List.mem_map] at hv
    obtain ⟨y, _, rfl⟩ := hv
    rfl
  · have k := svL_rest s r x n u (by omega)
    unfold splice at k
    have e : (svA s r n).toList = svL s r n := rfl
    rw [e, k, List.length_map]
    exact h
end
set_option maxRecDepth 100000 in
theorem compress_arr (s : St) (b : List Nat) (w : World) (hs : s.Ok) (hb : b.length = 64) (hlt : ∀ x ∈ b, x < 256) (hla : LaidC w) :
    Calls Tryd.prog 97 #[.agg s.arr, .agg (bvs b)] w fun e w' => e = .returned (.agg (comp s b).arr) ∧ Below w.heap.size w w' :=
  compress_any s b w hs hb (getD_lt (by decide) hlt) hla
end Hs
end Go.Proofs.YtcdcnklfcmoiiaaDoor
