/- The frame that all the laws of the seat share: from 'it returns true, and below the heap nothing has changed' to the form of the statement. -/
import Derived.Test.YteblnmhaohbkkaaGreatDoorQBR
import Derived.Test.YteblnmhaohbkkaaGreatDoorQBI
import Derived.Deep.Slices
import Derived.Deep.Fields
import Derived.ChangeSame
import Derived.ChangeSlices
import Derived.OpenShut
import Derived.Lib.SmallJoins
import Derived.ProofKit
import Derived.Carry
import Derived.Below
import Derived.Test.YteblnmhaohbkkaaGreatDoorQG1
import Derived.Test.YteblnmhaohbkkaaGreatDoorQLMs
import Derived.ChangeMaps5
import Derived.Test.YteblnmhaohbkkaaGreatDoorQLeX
import Derived.ChangeArms
namespace Go.Proofs.YteblnmhaohbkkaaGreatDoor
section
set_option linter.unusedVariables false
set_option linter.unusedSimpArgs false
open Go.ChangeShapes Go.WideShapes Go.ChangeAt Go.RowKit Go.Joins Go.Deep
set_option maxRecDepth 100000
theorem own : ownKnob Tryz.prog.godebug = none := by kernel_rfl
theorem laidOut : laidOutB Tryz.prog = true := by kernel_rfl
section
variable {H : Type} {enc : TypeId × Value → H} {P : Program}
theorem trodAll_stays (hl : laidOutB P = true) {W W' : World} (hb : Below W.heap.size W W') : ∀ {ts : List TypeId} {vs : List Value} {ds : List (DataW H)} {ps : List MemPlace},
    (∀ t ∈ ts, P.readableRec t = true ∧ t < P.types.size) → DataW.TrodAll enc P W 0 (fun _ => true) true ts vs ds ps → DataW.TrodAll enc P W' 0 (fun b => decide (b < W.heap.size)) true ts vs ds ps
  | [], [], [], _, _, h => h
  | t :: ts, v :: vs, d :: ds, ps, ht, ⟨p, q, h1, h2, e⟩ =>
    ⟨p, q, Below.trod hl (ht t (by simp)).1 (ht t (by simp)).2 h1 hb (by obtain ⟨m, hm⟩ := h1; exact DataW.trod_lt m _ _ _ hm), trodAll_stays hl hb (fun t' h' => ht t' (by simp [h'])) h2, e⟩
theorem law_post {fn : Func} {s : ChangeSpec} {W W' : World} {args : Array Value} {ds gs : List (DataW H)} {before : List MemPlace} (hl : laidOutB P = true)
    (hp : ∀ t ∈ fn.params.toList, P.readableRec t = true ∧ t < P.types.size) (hres : fn.resultTypes = #[4]) (h4 : P.underlying 4 = some .bool) (hv : s.vars = [])
    (hs : s.fn H (ds ++ gs) = { results := [.lit (.bool true)], args := ds })
    (hvs : (s.fn H (ds ++ gs)).vars = [])
    (hW : DataW.Whole enc P fn.params.toList s.vars false W args.toList ds gs before) (hb : Below W.heap.size W W') :
    s.post enc P fn false true false false W args (.bool true) W' := by
  have hW' := hW
  obtain ⟨p, q, hA, hV, rfl, hfz, hnd⟩ := hW
  refine ⟨ds, gs, _, [], p, [], hW', ?_, ?_, ?_, hb.frame _, fun h => by cases h⟩
  · rw [hres, hs]
    exact trodAll_mk1 (shut_bool h4 true)
  · rw [hs]
    exact trodAll_stays hl hb hp hA
  · rw [hv, hvs]; rfl
end
section
variable {H : Type} {encT : TypeId × Value → H} {W : World} {base : Nat} {v : Value} {d : DataW H} {p : List MemPlace}
theorem open_num (hv : Value.okWide Tryz.prog W .any base 3 v) (h : DataW.Trod encT Tryz.prog W 0 (fun _ => true) true 3 v d p) : ∃ t : Int, v = .int .i64 t ∧ -9223372036854775808 ≤ t ∧ t ≤ 9223372036854775807 := by
  obtain ⟨t, rfl, rfl, rfl, w2⟩ := open_int Tryz.underlying3 hv h
  exact ⟨t, rfl, (bounds_i64 w2).1, (bounds_i64 w2).2⟩
/-- A slice of structs that came in, each with k cells that read as an x. -/
theorem open_rows {α : Type} [Inhabited α] {P : Program} {t e k : Nat} {enc : α → List Value} {Q : α → Prop} (ht : P.underlying t = some (.slice e)) (hC : P.cellsOf e = k) (hk0 : 0 < k) (hk : ∀ x, (enc x).length = k)
    (hel : ∀ fuel cs y, cs.length = k → DataW.trod encT P W 0 (fun _ => true) true fuel e cs = some y → ∃ x, cs = enc x ∧ Q x)
    (hv : Value.okWide P W .any base t v) (h : DataW.Trod encT P W 0 (fun _ => true) true t v d p) :
    ∃ (a : Option Addr) (cap : Nat) (l : List α), v = .slice a l.length cap ∧ RowsA k enc W a l ∧ l.length ≤ 9223372036854775807 ∧ ∀ x ∈ l, Q x := by
  obtain ⟨a0, len, cap, rfl⟩ := okWide_slice ht hv
  obtain ⟨fuel, hf⟩ := h
  simp only [Value.cells] at hf
  rcases open_slice ht hf with ⟨hcs, hx⟩ | ⟨a, len', cap', m, n, D, Pl, hcs, hb, hl, hm, hmm, hx, hi⟩
  · simp only [List.cons.injEq, Value.slice.injEq, and_true] at hcs
    obtain ⟨rfl, rfl, rfl⟩ := hcs
    exact ⟨none, 0, [], rfl, RowsA.nil _ _ _ _, by simp, by simp⟩
  · simp only [List.cons.injEq, Value.slice.injEq, and_true] at hcs
    obtain ⟨rfl, rfl, rfl⟩ := hcs
    have hmm' : m = cap := by simpa using hmm
    subst hmm'
    obtain ⟨f, hf⟩ := choose_lt (α := α) (n := len) (p := fun i x => Q x ∧ ∀ j u, (enc x)[j]? = some u → W.cell? ((a.add (i * k)).add j) = some u) (fun i hlt => by
      obtain ⟨cs', h1, h2⟩ := hi i (by omega)
      rw [hC] at h1
      obtain ⟨_, hlen, hat⟩ := World.cells?_some h1
      obtain ⟨x, rfl, hq⟩ := hel n cs' _ hlen h2
      exact ⟨x, hq, fun j u hu => by
        have hj : j < k := by have := (List.getElem?_eq_some_iff.1 hu).1; rwa [hk] at this
        rw [hat j hj]; exact hu⟩)
    refine ⟨some a, m, (List.range len).map f, by simp, ?_, by simp; unfold maxLen at hm; omega, fun x hx => ?_⟩
    · intro i x hx
      have hil : i < len := by have := (List.getElem?_eq_some_iff.1 hx).1; simpa using this
      rw [List.getElem?_map, List.getElem?_range hil] at hx
      obtain rfl : f i = x := by simpa using hx
      obtain ⟨b, off, spot⟩ := a
      obtain ⟨u, hu⟩ : ∃ u, (enc (f 0))[0]? = some u := ⟨_, List.getElem?_eq_getElem (by rw [hk]; exact hk0)⟩
      have h0 := (hf 0 (by omega)).2 0 u hu
      have hspot : spot = none := by simpa [Addr.add] using World.cell?_spot h0
      subst hspot
      refine ⟨b, off, rfl, fun j u hu => ?_⟩
      have := (hf i hil).2 j u hu
      rwa [add_off, add_off] at this
    · obtain ⟨i, hi', rfl⟩ := List.mem_map.1 hx
      exact (hf i (List.mem_range.1 hi')).1
theorem cellsI : Tryz.prog.cellsOf 3 = 1 := by kernel_rfl
/-- A slice of integers that came in. -/
theorem open_nums (hv : Value.okWide Tryz.prog W .any base 64 v) (h : DataW.Trod encT Tryz.prog W 0 (fun _ => true) true 64 v d p) :
    ∃ (a : Option Addr) (cap : Nat) (zs : List Int), v = .slice a zs.length cap ∧ IntsA W a zs ∧ zs.length ≤ 9223372036854775807 ∧ ∀ x ∈ zs, -9223372036854775808 ≤ x ∧ x ≤ 9223372036854775807 := by
  obtain ⟨a, cap, l, rfl, hl, hm, hq⟩ := open_rows (α := Int) (k := 1) (enc := fun x => [.int .i64 x]) (Q := fun x => -9223372036854775808 ≤ x ∧ x ≤ 9223372036854775807) Tryz.underlying64 cellsI (by decide) (fun _ => rfl)
    (fun fuel cs y hc h => by
      match cs, hc with
      | [c0], _ =>
        obtain ⟨t, e1, e2, w1⟩ := DataW.trod_int Tryz.underlying3 h
        exact ⟨t, e1, (bounds_i64 w1).1, (bounds_i64 w1).2⟩) hv h
  refine ⟨a, cap, l, rfl, fun k hk => ?_, hm, hq⟩
  obtain ⟨b, off, e, h1⟩ := hl k _ (List.getElem?_eq_getElem hk)
  refine ⟨b, off, e, ?_⟩
  have := h1 0 _ rfl
  rw [getD_at 0 hk, ← this]
  congr 2
  omega
end
end
section
set_option linter.unusedVariables false
set_option linter.unusedSimpArgs false
namespace Le
open Go.ChangeShapes Go.WideShapes Go.ChangeAt Go.RowKit Go.Joins Go.Deep Go.ChangeMaps
set_option maxRecDepth 100000
theorem cellsKey : Tryz.prog.cellsOf 52 = 5 := by kernel_rfl
theorem cellsInt : Tryz.prog.cellsOf 3 = 1 := by kernel_rfl
theorem cellsStr : Tryz.prog.cellsOf 9 = 1 := by kernel_rfl
theorem cellsGrant : Tryz.prog.cellsOf 79 = 3 := by kernel_rfl
section
variable {H : Type} {encT : TypeId × Value → H} {W : World} {base : Nat} {v : Value} {d : DataW H} {p : List MemPlace}
theorem key_cells {fuel : Nat} {cs : List Value} {y : DataW H × List MemPlace} (hc : cs.length = 5) (h : DataW.trod encT Tryz.prog W 0 (fun _ => true) true fuel 52 cs = some y) : ∃ x : Rw, cs = encR x ∧ True := by
  obtain ⟨xs, n, _, hx, hl, hlen, hg⟩ := DataW.trod_struct Tryz.underlying52 h
  match cs, hc with
  | [c0, c1, c2, c3, c4], _ =>
    match xs, hlen with
    | [y0, y1, y2, y3, y4], _ =>
      have g0 := hg 0 _ rfl
      have g1 := hg 1 _ rfl
      have g2 := hg 2 _ rfl
      have g3 := hg 3 _ rfl
      have g4 := hg 4 _ rfl
      simp [cellsInt, cellsStr] at g0 g1 g2 g3 g4
      obtain ⟨a, e0, -, -⟩ := DataW.trod_int Tryz.underlying3 g0
      obtain ⟨b, e1, -, -⟩ := DataW.trod_int Tryz.underlying3 g1
      obtain ⟨c, e2, -, -⟩ := DataW.trod_string Tryz.underlying9 g2
      obtain ⟨e, e3, -, -⟩ := DataW.trod_int Tryz.underlying3 g3
      obtain ⟨f, e4, -, -⟩ := DataW.trod_int Tryz.underlying3 g4
      simp only [List.cons.injEq, and_true] at e0 e1 e2 e3 e4
      subst e0 e1 e2 e3 e4
      exact ⟨(a, b, c, e, f), rfl, trivial⟩
theorem open_key (hv : Value.okWide Tryz.prog W .any base 52 v) (h : DataW.Trod encT Tryz.prog W 0 (fun _ => true) true 52 v d p) :
    ∃ (k1 k2 : Int) (k3 : ByteArray) (k4 k5 : Int), v = .agg #[.int .i64 k1, .int .i64 k2, .string k3, .int .i64 k4, .int .i64 k5] := by
  obtain ⟨cs, rfl, hsz⟩ := okWide_struct Tryz.underlying52 hv
  obtain ⟨fuel, hf⟩ := h
  obtain ⟨⟨k1, k2, k3, k4, k5⟩, e, -⟩ := key_cells (by simpa [Value.cells] using hsz.trans cellsKey) hf
  refine ⟨k1, k2, k3, k4, k5, ?_⟩
  have e2 : cs.toList = [.int .i64 k1, .int .i64 k2, .string k3, .int .i64 k4, .int .i64 k5] := by simpa [Value.cells, encR] using e
  rw [← Array.toArray_toList (xs := cs), e2]
/-- A slice of structs that came in within a struct, each with k cells that read as an x. -/
theorem open_rowsF {α : Type} [Inhabited α] {P : Program} {t e k : Nat} {enc : α → List Value} {Q : α → Prop} (ht : P.underlying t = some (.slice e)) (hC : P.cellsOf e = k) (hk0 : 0 < k) (hk : ∀ x, (enc x).length = k)
    (hel : ∀ fuel cs y, cs.length = k → DataW.trod encT P W 0 (fun _ => true) true fuel e cs = some y → ∃ x, cs = enc x ∧ Q x)
    {n0 : Nat} {y : DataW H × List MemPlace} (hf : DataW.trod encT P W 0 (fun _ => true) true n0 t [v] = some y) :
    ∃ (a : Option Addr) (cap : Nat) (l : List α), v = .slice a l.length cap ∧ RowsA k enc W a l ∧ l.length ≤ 9223372036854775807 ∧ ∀ x ∈ l, Q x := by
  obtain ⟨a0, len, cap, e0⟩ := slice_form ht hf
  simp only [List.cons.injEq, and_true] at e0
  subst e0
  rcases open_slice ht hf with ⟨hcs, hx⟩ | ⟨a, len', cap', m, n, D, Pl, hcs, hb, hl, hm, hmm, hx, hi⟩
  · simp only [List.cons.injEq, Value.slice.injEq, and_true] at hcs
    obtain ⟨rfl, rfl, rfl⟩ := hcs
    exact ⟨none, 0, [], rfl, RowsA.nil _ _ _ _, by simp, by simp⟩
  · simp only [List.cons.injEq, Value.slice.injEq, and_true] at hcs
    obtain ⟨rfl, rfl, rfl⟩ := hcs
    have hmm' : m = cap := by simpa using hmm
    subst hmm'
    obtain ⟨f, hf⟩ := choose_lt (α := α) (n := len) (p := fun i x => Q x ∧ ∀ j u, (enc x)[j]? = some u → W.cell? ((a.add (i * k)).add j) = some u) (fun i hlt => by
      obtain ⟨cs', h1, h2⟩ := hi i (by omega)
      rw [hC] at h1
      obtain ⟨_, hlen, hat⟩ := World.cells?_some h1
      obtain ⟨x, rfl, hq⟩ := hel n cs' _ hlen h2
      exact ⟨x, hq, fun j u hu => by
        have hj : j < k := by have := (List.getElem?_eq_some_iff.1 hu).1; rwa [hk] at this
        rw [hat j hj]; exact hu⟩)
    refine ⟨some a, m, (List.range len).map f, by simp, ?_, by simp; unfold maxLen at hm; omega, fun x hx => ?_⟩
    · intro i x hx
      have hil : i < len := by have := (List.getElem?_eq_some_iff.1 hx).1; simpa using this
      rw [List.getElem?_map, List.getElem?_range hil] at hx
      obtain rfl : f i = x := by simpa using hx
      obtain ⟨b, off, spot⟩ := a
      obtain ⟨u, hu⟩ : ∃ u, (enc (f 0))[0]? = some u := ⟨_, List.getElem?_eq_getElem (by rw [hk]; exact hk0)⟩
      have h0 := (hf 0 (by omega)).2 0 u hu
      have hspot : spot = none := by simpa [Addr.add] using World.cell?_spot h0
      subst hspot
      refine ⟨b, off, rfl, fun j u hu => ?_⟩
      have := (hf i hil).2 j u hu
      rwa [add_off, add_off] at this
    · obtain ⟨i, hi', rfl⟩ := List.mem_map.1 hx
      exact (hf i (List.mem_range.1 hi')).1
theorem open_i {n : Nat} {v : Value} {y : DataW H × List MemPlace} (hf : DataW.trod encT Tryz.prog W 0 (fun _ => true) true n 3 [v] = some y) : ∃ t : Int, v = .int .i64 t ∧ -9223372036854775808 ≤ t ∧ t ≤ 9223372036854775807 := by
  obtain ⟨t, e1, e2, w1⟩ := DataW.trod_int Tryz.underlying3 hf
  simp only [List.cons.injEq, and_true] at e1
  exact ⟨t, e1, (bounds_i64 w1).1, (bounds_i64 w1).2⟩
theorem open_period (hv : Value.okWide Tryz.prog W .any base 30 v) (h : DataW.Trod encT Tryz.prog W 0 (fun _ => true) true 30 v d p) :
    ∃ (lo hi : Int), v = .agg #[.int .i64 lo, .int .i64 hi] ∧ (-9223372036854775808 ≤ lo ∧ lo ≤ 9223372036854775807) ∧ (-9223372036854775808 ≤ hi ∧ hi ≤ 9223372036854775807) := by
  obtain ⟨v0, v1, y0, y1, n, rfl, -, -, h0, h1⟩ := open_agg2 Tryz.underlying30 (by kernel_rfl) (by kernel_rfl) hv h
  obtain ⟨lo, rfl, b0⟩ := open_i h0
  obtain ⟨hi, rfl, b1⟩ := open_i h1
  exact ⟨lo, hi, rfl, b0, b1⟩
theorem grant_cells {fuel : Nat} {cs : List Value} {y : DataW H × List MemPlace} (hc : cs.length = 3) (h : DataW.trod encT Tryz.prog W 0 (fun _ => true) true fuel 79 cs = some y) : ∃ x : Gr, cs = encG x ∧ True := by
  obtain ⟨xs, n, _, hx, hl, hlen, hg⟩ := DataW.trod_struct Tryz.underlying79 h
  match cs, hc with
  | [c0, c1, c2], _ =>
    match xs, hlen with
    | [y0, y1, y2], _ =>
      have g0 := hg 0 _ rfl
      have g1 := hg 1 _ rfl
      have g2 := hg 2 _ rfl
      simp [cellsInt] at g0 g1 g2
      obtain ⟨a, e0, -, -⟩ := DataW.trod_int Tryz.underlying3 g0
      obtain ⟨b, e1, -, -⟩ := DataW.trod_int Tryz.underlying3 g1
      obtain ⟨c, e2, -, -⟩ := DataW.trod_int Tryz.underlying3 g2
      simp only [List.cons.injEq, and_true] at e0 e1 e2
      subst e0 e1 e2
      exact ⟨(a, b, c), rfl, trivial⟩
theorem open_grants (hv : Value.okWide Tryz.prog W .any base 56 v) (h : DataW.Trod encT Tryz.prog W 0 (fun _ => true) true 56 v d p) :
    ∃ (la mo : Int) (a : Option Addr) (c : Nat) (l : List Gr), v = .agg #[.int .i64 la, .int .i64 mo, .slice a l.length c] ∧ GrA W a l ∧ l.length ≤ 9223372036854775807 ∧ (-9223372036854775808 ≤ la ∧ la ≤ 9223372036854775807) ∧ (-9223372036854775808 ≤ mo ∧ mo ≤ 9223372036854775807) := by
  obtain ⟨v0, v1, v2, y0, y1, y2, n, rfl, -, -, h0, h1, h2⟩ := open_agg3 Tryz.underlying56 (by kernel_rfl) (by kernel_rfl) hv h
  obtain ⟨la, rfl, b0⟩ := open_i h0
  obtain ⟨mo, rfl, b1⟩ := open_i h1
  obtain ⟨a, c, l, rfl, hl, hm, -⟩ := open_rowsF (α := Gr) (k := 3) (enc := encG) (Q := fun _ => True) Tryz.underlying54 cellsGrant (by decide) encG_len (fun fuel cs y hc h => grant_cells hc h) h2
  exact ⟨la, mo, a, c, l, rfl, hl, hm, b0, b1⟩
theorem open_byte (hv : Value.okWide Tryz.prog W .any base 5 v) (h : DataW.Trod encT Tryz.prog W 0 (fun _ => true) true 5 v d p) : ∃ t : Int, v = .int .u8 t ∧ 0 ≤ t ∧ t < 256 := by
  obtain ⟨t, rfl, rfl, rfl, w2⟩ := open_int Tryz.underlying5 hv h
  have b := bounds_u8 w2
  exact ⟨t, rfl, by omega, by omega⟩
end
end Le
end
section
set_option linter.unusedVariables false
set_option linter.unusedSimpArgs false
namespace Le
open Go.ChangeShapes Go.WideShapes Go.ChangeAt Go.RowKit Go.Joins Go.Deep Go.ChangeMaps
set_option maxRecDepth 100000
theorem cellsPer : Tryz.prog.cellsOf 30 = 2 := by kernel_rfl
theorem cellsSeal : Tryz.prog.cellsOf 24 = 16 := by kernel_rfl
theorem cellsByte : Tryz.prog.cellsOf 5 = 1 := by kernel_rfl
theorem cellsLease : Tryz.prog.cellsOf 26 = 20 := by kernel_rfl
theorem cellsHeld : Tryz.prog.cellsOf 28 = 22 := by kernel_rfl
theorem cellsClock : Tryz.prog.cellsOf 32 = 4 := by kernel_rfl
theorem seg_of {cs S : List Value} {o n k : Nat} (h : (cs.drop o).take n = S) (hk : o + n = k) : cs.drop o = S ++ cs.drop k := by
  subst hk
  rw [← h, ← List.drop_drop, List.take_append_drop]
section
variable {H : Type} {enc : TypeId × Value → H} {W : World} {base : Nat} {v : Value} {d : DataW H} {p : List MemPlace}
theorem int_cells {fuel : Nat} {cs : List Value} {y : DataW H × List MemPlace} (h : DataW.trod enc Tryz.prog W 0 (fun _ => true) true fuel 3 cs = some y) : ∃ n : Int, cs = [.int .i64 n] ∧ i64Ok n := by
  obtain ⟨n, e, -, w⟩ := DataW.trod_int Tryz.underlying3 h
  exact ⟨n, e, bounds_i64 w⟩
theorem bytes_cells {t fuel : Nat} {cs : List Value} {y : DataW H × List MemPlace} (ht : Tryz.prog.underlying t = some (.array 16 5)) (hc : cs.length = 16) (h : DataW.trod enc Tryz.prog W 0 (fun _ => true) true fuel t cs = some y) :
    ∃ S : List Nat, cs = S.map Hs.bv ∧ S.length = 16 ∧ ∀ x ∈ S, x < 256 := by
  obtain ⟨xs, m, -, -, -, hl, hx⟩ := DataW.trod_array ht h
  have g : ∀ i, i < 16 → ∃ n : Nat, cs[i]? = some (Hs.bv n) ∧ n < 256 := fun i hi => by
    have h0 := hx i hi
    rw [List.getElem?_eq_getElem (by omega)] at h0
    obtain ⟨n0, e0, -, w0⟩ := DataW.trod_int Tryz.underlying5 h0
    rw [cellsByte, Nat.mul_one] at e0
    have e1 : cs[i]? = some (Value.int .u8 n0) := by have := congrArg (·[0]?) e0; simpa [List.getElem?_take, List.getElem?_drop] using this
    have b0 := bounds_u8 w0
    refine ⟨n0.toNat, ?_, by omega⟩
    rw [e1]
    unfold Hs.bv
    rw [Int.toNat_of_nonneg b0.1]
  obtain ⟨f, hf⟩ := choose_lt (α := Nat) g
  refine ⟨(List.range 16).map f, List.ext_getElem? fun i => ?_, by simp, fun x hx => ?_⟩
  · by_cases hi : i < 16
    · rw [(hf i hi).1]
      simp [hi]
    · rw [List.getElem?_eq_none (by omega), List.getElem?_eq_none (by simp; omega)]
  · obtain ⟨i, hi, rfl⟩ := List.mem_map.1 hx
    exact (hf i (List.mem_range.1 hi)).2
theorem per_cells {fuel : Nat} {cs : List Value} {y : DataW H × List MemPlace} (h : DataW.trod enc Tryz.prog W 0 (fun _ => true) true fuel 30 cs = some y) : ∃ lo hi : Int, cs = [.int .i64 lo, .int .i64 hi] ∧ i64Ok lo ∧ i64Ok hi := by
  obtain ⟨xs, n, _, -, hl, hlen, hg⟩ := DataW.trod_struct Tryz.underlying30 h
  rw [cellsPer] at hl
  match cs, hl with
  | [c0, c1], _ =>
    match xs, hlen with
    | [y0, y1], _ =>
      have g0 := hg 0 _ rfl
      have g1 := hg 1 _ rfl
      simp [cellsInt] at g0 g1
      obtain ⟨a, e0, o0⟩ := int_cells g0
      obtain ⟨b, e1, o1⟩ := int_cells g1
      simp only [List.cons.injEq, and_true] at e0 e1
      subst e0 e1
      exact ⟨a, b, rfl, o0, o1⟩
theorem lease_trod {fuel : Nat} {cs : List Value} {y : DataW H × List MemPlace} (hf : DataW.trod enc Tryz.prog W 0 (fun _ => true) true fuel 26 cs = some y) : ∃ (st eo un re : Int) (S : List Nat), cs = leaseL st eo un re S ∧ S.length = 16 ∧ (∀ x ∈ S, x < 256) ∧ i64Ok st ∧ i64Ok eo ∧ i64Ok un ∧ i64Ok re := by
  obtain ⟨xs, n, _, -, hl, hlen, hg⟩ := DataW.trod_struct Tryz.underlying26 hf
  rw [cellsLease] at hl
  have ex : ∀ i, i < 5 → ∃ y, xs[i]? = some y := fun i hi => ⟨_, List.getElem?_eq_getElem (by rw [hlen]; exact hi)⟩
  obtain ⟨y0, e0⟩ := ex 0 (by decide)
  have g0 : DataW.trod enc Tryz.prog W 0 (fun _ => true) true n 3 ((cs.drop 0).take (Tryz.prog.cellsOf 3)) = xs[0]? := hg 0 _ rfl
  rw [cellsInt, e0] at g0
  obtain ⟨st, s0, o0⟩ := int_cells g0
  have t0 := seg_of s0 (k := 1) rfl
  obtain ⟨y1, e1⟩ := ex 1 (by decide)
  have g1 : DataW.trod enc Tryz.prog W 0 (fun _ => true) true n 3 ((cs.drop 1).take (Tryz.prog.cellsOf 3)) = xs[1]? := hg 1 _ rfl
  rw [cellsInt, e1] at g1
  obtain ⟨eo, s1, o1⟩ := int_cells g1
  have t1 := seg_of s1 (k := 2) rfl
  obtain ⟨y2, e2⟩ := ex 2 (by decide)
  have g2 : DataW.trod enc Tryz.prog W 0 (fun _ => true) true n 3 ((cs.drop 2).take (Tryz.prog.cellsOf 3)) = xs[2]? := hg 2 _ rfl
  rw [cellsInt, e2] at g2
  obtain ⟨un, s2, o2⟩ := int_cells g2
  have t2 := seg_of s2 (k := 3) rfl
  obtain ⟨y3, e3⟩ := ex 3 (by decide)
  have g3 : DataW.trod enc Tryz.prog W 0 (fun _ => true) true n 3 ((cs.drop 3).take (Tryz.prog.cellsOf 3)) = xs[3]? := hg 3 _ rfl
  rw [cellsInt, e3] at g3
  obtain ⟨re, s3, o3⟩ := int_cells g3
  have t3 := seg_of s3 (k := 4) rfl
  obtain ⟨y4, e4⟩ := ex 4 (by decide)
  have g4 : DataW.trod enc Tryz.prog W 0 (fun _ => true) true n 24 ((cs.drop 4).take (Tryz.prog.cellsOf 24)) = xs[4]? := hg 4 _ rfl
  rw [cellsSeal, e4] at g4
  obtain ⟨S, s4, hS, hS2⟩ := bytes_cells Tryz.underlying24 (by rw [List.length_take, List.length_drop, hl]; decide) g4
  have t4 := seg_of s4 (k := 20) rfl
  have tz : cs.drop 20 = [] := List.drop_eq_nil_of_le (by rw [hl]; exact Nat.le_refl _)
  have ee : cs = leaseL st eo un re S := by
    have z : cs = cs.drop 0 := rfl
    rw [z, t0, t1, t2, t3, t4, tz]
    simp [leaseL]
  exact ⟨st, eo, un, re, S, ee, hS, hS2, o0, o1, o2, o3⟩
theorem open_held (hv : Value.okWide Tryz.prog W .any base 28 v) (h : DataW.Trod enc Tryz.prog W 0 (fun _ => true) true 28 v d p) : ∃ (st he ls le lu lr : Int) (S : List Nat), v = .agg (heldC st he ls le lu lr S) ∧ S.length = 16 := by
  obtain ⟨cs0, rfl, hsz⟩ := okWide_struct Tryz.underlying28 hv
  obtain ⟨fuel, hf⟩ := h
  simp only [Value.cells] at hf
  obtain ⟨cs, hcs⟩ : ∃ l, cs0.toList = l := ⟨_, rfl⟩
  rw [hcs] at hf
  obtain ⟨xs, n, _, -, hl, hlen, hg⟩ := DataW.trod_struct Tryz.underlying28 hf
  rw [cellsHeld] at hl
  have ex : ∀ i, i < 3 → ∃ y, xs[i]? = some y := fun i hi => ⟨_, List.getElem?_eq_getElem (by rw [hlen]; exact hi)⟩
  obtain ⟨y0, e0⟩ := ex 0 (by decide)
  have g0 : DataW.trod enc Tryz.prog W 0 (fun _ => true) true n 3 ((cs.drop 0).take (Tryz.prog.cellsOf 3)) = xs[0]? := hg 0 _ rfl
  rw [cellsInt, e0] at g0
  obtain ⟨st, s0, o0⟩ := int_cells g0
  have t0 := seg_of s0 (k := 1) rfl
  obtain ⟨y1, e1⟩ := ex 1 (by decide)
  have g1 : DataW.trod enc Tryz.prog W 0 (fun _ => true) true n 3 ((cs.drop 1).take (Tryz.prog.cellsOf 3)) = xs[1]? := hg 1 _ rfl
  rw [cellsInt, e1] at g1
  obtain ⟨he, s1, o1⟩ := int_cells g1
  have t1 := seg_of s1 (k := 2) rfl
  obtain ⟨y2, e2⟩ := ex 2 (by decide)
  have g2 : DataW.trod enc Tryz.prog W 0 (fun _ => true) true n 26 ((cs.drop 2).take (Tryz.prog.cellsOf 26)) = xs[2]? := hg 2 _ rfl
  rw [cellsLease, e2] at g2
  obtain ⟨ls, le, lu, lr, S, s2, hS, hS2, -⟩ := lease_trod g2
  have t2 := seg_of s2 (k := 22) rfl
  have tz : cs.drop 22 = [] := List.drop_eq_nil_of_le (by rw [hl]; exact Nat.le_refl _)
  have ee : heldC st he ls le lu lr S = cs.toArray := by
    have z : cs = cs.drop 0 := rfl
    conv => rhs; rw [z, t0, t1, t2, tz]
    simp [heldC, heldL]
  exact ⟨st, he, ls, le, lu, lr, S, by rw [ee, ← hcs], hS⟩
theorem open_clock (hv : Value.okWide Tryz.prog W .any base 32 v) (h : DataW.Trod enc Tryz.prog W 0 (fun _ => true) true 32 v d p) : ∃ (cl lo hi cd : Int), v = .agg #[.int .i64 cl, .int .i64 lo, .int .i64 hi, .int .i64 cd] := by
  obtain ⟨cs0, rfl, hsz⟩ := okWide_struct Tryz.underlying32 hv
  obtain ⟨fuel, hf⟩ := h
  simp only [Value.cells] at hf
  obtain ⟨cs, hcs⟩ : ∃ l, cs0.toList = l := ⟨_, rfl⟩
  rw [hcs] at hf
  obtain ⟨xs, n, _, -, hl, hlen, hg⟩ := DataW.trod_struct Tryz.underlying32 hf
  rw [cellsClock] at hl
  have ex : ∀ i, i < 3 → ∃ y, xs[i]? = some y := fun i hi => ⟨_, List.getElem?_eq_getElem (by rw [hlen]; exact hi)⟩
  obtain ⟨y0, e0⟩ := ex 0 (by decide)
  have g0 : DataW.trod enc Tryz.prog W 0 (fun _ => true) true n 3 ((cs.drop 0).take (Tryz.prog.cellsOf 3)) = xs[0]? := hg 0 _ rfl
  rw [cellsInt, e0] at g0
  obtain ⟨cl, s0, o0⟩ := int_cells g0
  have t0 := seg_of s0 (k := 1) rfl
  obtain ⟨y1, e1⟩ := ex 1 (by decide)
  have g1 : DataW.trod enc Tryz.prog W 0 (fun _ => true) true n 30 ((cs.drop 1).take (Tryz.prog.cellsOf 30)) = xs[1]? := hg 1 _ rfl
  rw [cellsPer, e1] at g1
  obtain ⟨lo, hi, s1, olo, ohi⟩ := per_cells g1
  have t1 := seg_of s1 (k := 3) rfl
  obtain ⟨y2, e2⟩ := ex 2 (by decide)
  have g2 : DataW.trod enc Tryz.prog W 0 (fun _ => true) true n 3 ((cs.drop 3).take (Tryz.prog.cellsOf 3)) = xs[2]? := hg 2 _ rfl
  rw [cellsInt, e2] at g2
  obtain ⟨cd, s2, o2⟩ := int_cells g2
  have t2 := seg_of s2 (k := 4) rfl
  have tz : cs.drop 4 = [] := List.drop_eq_nil_of_le (by rw [hl]; exact Nat.le_refl _)
  have ee : (#[.int .i64 cl, .int .i64 lo, .int .i64 hi, .int .i64 cd] : Array Value) = cs.toArray := by
    have z : cs = cs.drop 0 := rfl
    conv => rhs; rw [z, t0, t1, t2, tz]
    rfl
  exact ⟨cl, lo, hi, cd, by rw [ee, ← hcs]⟩
theorem open_lease (hv : Value.okWide Tryz.prog W .any base 26 v) (h : DataW.Trod enc Tryz.prog W 0 (fun _ => true) true 26 v d p) : ∃ (st eo un re : Int) (S : List Nat), v = .agg (leaseC st eo un re S) ∧ S.length = 16 ∧ i64Ok st ∧ i64Ok eo ∧ i64Ok un ∧ i64Ok re := by
  obtain ⟨cs0, rfl, hsz⟩ := okWide_struct Tryz.underlying26 hv
  obtain ⟨fuel, hf⟩ := h
  simp only [Value.cells] at hf
  obtain ⟨st, eo, un, re, S, e, hS, -, h1, h2, h3, h4⟩ := lease_trod hf
  refine ⟨st, eo, un, re, S, ?_, hS, h1, h2, h3, h4⟩
  rw [← Array.toArray_toList (xs := cs0), e]
  rfl
theorem open_ring (hv : Value.okWide Tryz.prog W .any base 22 v) (h : DataW.Trod enc Tryz.prog W 0 (fun _ => true) true 22 v d p) :
    ∃ (a : Option Addr) (c : Nat) (l : List Rw), v = .slice a l.length c ∧ RwA W a l ∧ l.length ≤ 9223372036854775807 := by
  obtain ⟨a, c, l, e, hl, hm, -⟩ := open_rows (α := Rw) (k := 5) (enc := encR) (Q := fun _ => True) Tryz.underlying22 cellsKey (by decide) encR_len (fun fuel cs y hc h => key_cells hc h) hv h
  exact ⟨a, c, l, e, hl, hm⟩
end
end Le
end
end Go.Proofs.YteblnmhaohbkkaaGreatDoor
