/- The arguments of the laws of chapter 4, opened: rings, keys, texts, periods. -/
import Derived.Test.YtcdcnklfcmoiiaaDoorQBO
import Derived.Test.YtcdcnklfcmoiiaaDoorQM
import Derived.ChangeMaps5
import Derived.Test.YtcdcnklfcmoiiaaDoorQZA
import Derived.OpenShut
import Derived.Test.YtcdcnklfcmoiiaaDoorQCE
import Derived.ChangeArms
namespace Go.Proofs.YtcdcnklfcmoiiaaDoor
section
set_option linter.unusedVariables false
set_option linter.unusedSimpArgs false
open Go.ChangeShapes Go.WideShapes Go.ChangeAt Go.RowKit Go.Joins Go.Deep Go.ChangeMaps
set_option maxRecDepth 100000
theorem cellsKey : Tryd.prog.cellsOf 24 = 5 := by kernel_rfl
theorem cellsInt : Tryd.prog.cellsOf 3 = 1 := by kernel_rfl
theorem cellsStr : Tryd.prog.cellsOf 9 = 1 := by kernel_rfl
section
variable {H : Type} {encT : TypeId × Value → H} {W : World} {base : Nat} {v : Value} {d : DataW H} {p : List MemPlace}
theorem key_cells {fuel : Nat} {cs : List Value} {y : DataW H × List MemPlace} (hc : cs.length = 5) (h : DataW.trod encT Tryd.prog W 0 (fun _ => true) true fuel 24 cs = some y) : ∃ x : Rw, cs = encR x ∧ True := by
  obtain ⟨xs, n, _, hx, hl, hlen, hg⟩ := DataW.trod_struct Tryd.underlying24 h
  match cs, hc with
  | [c0, c1, c2, c3, c4], _ =>
    match xs, hlen with
    | [y0, y1, y2, y3, y4], _ =>
      have g0 := hg 0 _ rfl
      have g1 := hg 1 _ rfl
      have g2 := hg 2 _ rfl
      have g3 := hg 3 _ rfl
      have g4 := hg 4 _ rfl
      simp [cellsInt, cellsStr] at g0 g1 g2 g3 g4
      obtain ⟨a, e0, -, -⟩ := DataW.trod_int Tryd.underlying3 g0
      obtain ⟨b, e1, -, -⟩ := DataW.trod_int Tryd.underlying3 g1
      obtain ⟨c, e2, -, -⟩ := DataW.trod_string Tryd.underlying9 g2
      obtain ⟨e, e3, -, -⟩ := DataW.trod_int Tryd.underlying3 g3
      obtain ⟨f, e4, -, -⟩ := DataW.trod_int Tryd.underlying3 g4
      simp only [List.cons.injEq, and_true] at e0 e1 e2 e3 e4
      subst e0 e1 e2 e3 e4
      exact ⟨(a, b, c, e, f), rfl, trivial⟩
theorem open_ring (hv : Value.okWide Tryd.prog W .any base 22 v) (h : DataW.Trod encT Tryd.prog W 0 (fun _ => true) true 22 v d p) :
    ∃ (a : Option Addr) (c : Nat) (l : List Rw), v = .slice a l.length c ∧ RwA W a l ∧ l.length ≤ 9223372036854775807 := by
  obtain ⟨a, c, l, e, hl, hm, -⟩ := open_rows (α := Rw) (k := 5) (enc := encR) (Q := fun _ => True) Tryd.underlying22 cellsKey (by decide) encR_len (fun fuel cs y hc h => key_cells hc h) hv h
  exact ⟨a, c, l, e, hl, hm⟩
theorem open_key (hv : Value.okWide Tryd.prog W .any base 24 v) (h : DataW.Trod encT Tryd.prog W 0 (fun _ => true) true 24 v d p) :
    ∃ (k1 k2 : Int) (k3 : ByteArray) (k4 k5 : Int), v = .agg #[.int .i64 k1, .int .i64 k2, .string k3, .int .i64 k4, .int .i64 k5] := by
  obtain ⟨cs, rfl, hsz⟩ := okWide_struct Tryd.underlying24 hv
  obtain ⟨fuel, hf⟩ := h
  obtain ⟨⟨k1, k2, k3, k4, k5⟩, e, -⟩ := key_cells (by simpa [Value.cells] using hsz.trans cellsKey) hf
  refine ⟨k1, k2, k3, k4, k5, ?_⟩
  have e2 : cs.toList = [.int .i64 k1, .int .i64 k2, .string k3, .int .i64 k4, .int .i64 k5] := by simpa [Value.cells, encR] using e
  rw [← Array.toArray_toList (xs := cs), e2]
theorem open_str (hv : Value.okWide Tryd.prog W .any base 9 v) (h : DataW.Trod encT Tryd.prog W 0 (fun _ => true) true 9 v d p) : ∃ s : ByteArray, v = .string s ∧ s.size ≤ 9223372036854775807 := by
  obtain ⟨s, h1, h2, -, h3⟩ := open_string Tryd.underlying9 hv h
  exact ⟨s, h1, h3⟩
theorem open_i {n : Nat} {v : Value} {y : DataW H × List MemPlace} (hf : DataW.trod encT Tryd.prog W 0 (fun _ => true) true n 3 [v] = some y) : ∃ t : Int, v = .int .i64 t ∧ -9223372036854775808 ≤ t ∧ t ≤ 9223372036854775807 := by
  obtain ⟨t, e1, e2, w1⟩ := DataW.trod_int Tryd.underlying3 hf
  simp only [List.cons.injEq, and_true] at e1
  exact ⟨t, e1, (bounds_i64 w1).1, (bounds_i64 w1).2⟩
theorem open_period (hv : Value.okWide Tryd.prog W .any base 26 v) (h : DataW.Trod encT Tryd.prog W 0 (fun _ => true) true 26 v d p) :
    ∃ (lo hi : Int), v = .agg #[.int .i64 lo, .int .i64 hi] ∧ (-9223372036854775808 ≤ lo ∧ lo ≤ 9223372036854775807) ∧ (-9223372036854775808 ≤ hi ∧ hi ≤ 9223372036854775807) := by
  obtain ⟨v0, v1, y0, y1, n, rfl, -, -, h0, h1⟩ := open_agg2 Tryd.underlying26 (by kernel_rfl) (by kernel_rfl) hv h
  obtain ⟨lo, rfl, b0⟩ := open_i h0
  obtain ⟨hi, rfl, b1⟩ := open_i h1
  exact ⟨lo, hi, rfl, b0, b1⟩
end
end
section
set_option linter.unusedVariables false
set_option linter.unusedSimpArgs false
open Go.ChangeShapes Go.WideShapes Go.ChangeAt Go.RowKit Go.Joins Go.Deep Go.ChangeMaps
set_option maxRecDepth 100000
theorem cellsByte : Tryd.prog.cellsOf 5 = 1 := by kernel_rfl
theorem cellsSeal : Tryd.prog.cellsOf 50 = 16 := by kernel_rfl
section
variable {H : Type} {enc : TypeId × Value → H} {W : World} {base : Nat} {v : Value} {d : DataW H} {p : List MemPlace}
theorem seal_cells {fuel : Nat} {cs : List Value} {y : DataW H × List MemPlace} (hc : cs.length = 16) (h : DataW.trod enc Tryd.prog W 0 (fun _ => true) true fuel 50 cs = some y) :
    ∃ S : List Nat, cs = S.map Hs.bv ∧ S.length = 16 ∧ ∀ x ∈ S, x < 256 := by
  obtain ⟨xs, m, -, -, -, hl, hx⟩ := DataW.trod_array Tryd.underlying50 h
  have g : ∀ i, i < 16 → ∃ n : Nat, cs[i]? = some (Hs.bv n) ∧ n < 256 := fun i hi => by
    have h0 := hx i hi
    rw [List.getElem?_eq_getElem (by omega)] at h0
    obtain ⟨n0, e0, -, w0⟩ := DataW.trod_int Tryd.underlying5 h0
    rw [cellsByte, Nat.mul_one] at e0
    have e1 : cs[i]? = some (Value.int .u8 n0) := by have := congrArg (·[0]?) e0; simpa [List.getElem?_take, List.getElem?_drop] using this
    have b0 := bounds_u8 w0
    refine ⟨n0.toNat, ?_, by omega⟩
    rw [e1]
    unfold Hs.bv
    rw [Int.toNat_of_nonneg b0.1]
  obtain ⟨f, hf⟩ := choose_lt (α := Nat) g
  refine ⟨(List.range 16).map f, List.ext_getElem? fun i => ?_, by simp, fun x hx => ?_⟩
  · by_cases hi : i < 16
    · rw [(hf i hi).1]
      simp [hi]
    · rw [List.getElem?_eq_none (by omega), List.getElem?_eq_none (by simp; omega)]
  · obtain ⟨i, hi, rfl⟩ := List.mem_map.1 hx
    exact (hf i (List.mem_range.1 hi)).2
theorem open_seal (hv : Value.okWide Tryd.prog W .any base 50 v) (h : DataW.Trod enc Tryd.prog W 0 (fun _ => true) true 50 v d p) :
    ∃ S : List Nat, v = .agg (Hs.bvs S) ∧ S.length = 16 := by
  simp only [Value.okWide, Tryd.underlying50] at hv
  obtain ⟨cs, rfl, hsz, -⟩ := hv
  obtain ⟨fuel, hf⟩ := h
  obtain ⟨S, e, hl, -⟩ := seal_cells (by simpa [Value.cells] using hsz.trans cellsSeal) hf
  refine ⟨S, ?_, hl⟩
  have e2 : cs.toList = S.map Hs.bv := by simpa [Value.cells] using e
  rw [← Array.toArray_toList (xs := cs), e2]
  rfl
theorem open_parts (hv : Value.okWide Tryd.prog W .any base 48 v) (h : DataW.Trod enc Tryd.prog W 0 (fun _ => true) true 48 v d p) :
    ∃ (a : Option Addr) (c : Nat) (l : List ByteArray), v = .slice a l.length c ∧ StR W a l ∧ l.length ≤ 9223372036854775807 := by
  obtain ⟨a, c, l, e, hl, hm, -⟩ := open_rows (α := ByteArray) (k := 1) (enc := encT) (Q := fun _ => True) Tryd.underlying48 cellsStr (by decide) encT_len (fun fuel cs y hc h => by
    obtain ⟨s, e2, -, -⟩ := DataW.trod_string Tryd.underlying9 h
    exact ⟨s, e2, trivial⟩) hv h
  exact ⟨a, c, l, e, hl, hm⟩
end
end
section
set_option linter.unusedVariables false
set_option linter.unusedSimpArgs false
open Go.ChangeShapes Go.WideShapes Go.ChangeAt Go.RowKit Go.Joins Go.Deep Go.ChangeMaps
set_option maxRecDepth 100000
theorem cellsDg : Tryd.prog.cellsOf 56 = 16 := by kernel_rfl
theorem cellsPer : Tryd.prog.cellsOf 26 = 2 := by kernel_rfl
theorem cellsPu : Tryd.prog.cellsOf 99 = 3 := by kernel_rfl
theorem cellsB : Tryd.prog.cellsOf 4 = 1 := by kernel_rfl
theorem cellsL1 : Tryd.prog.cellsOf 59 = 1 := by kernel_rfl
theorem cellsL2 : Tryd.prog.cellsOf 60 = 1 := by kernel_rfl
instance : Inhabited Dg := ⟨dg0⟩
theorem seg_of {cs S : List Value} {o n k : Nat} (h : (cs.drop o).take n = S) (hk : o + n = k) : cs.drop o = S ++ cs.drop k := by
  subst hk
  rw [← h, ← List.drop_drop, List.take_append_drop]
section
variable {H : Type} {enc : TypeId × Value → H} {W : World} {base : Nat} {v : Value} {d : DataW H} {p : List MemPlace}
theorem int_cells {fuel : Nat} {cs : List Value} {y : DataW H × List MemPlace} (h : DataW.trod enc Tryd.prog W 0 (fun _ => true) true fuel 3 cs = some y) : ∃ n : Int, cs = [.int .i64 n] ∧ i64Ok n := by
  obtain ⟨n, e, -, w⟩ := DataW.trod_int Tryd.underlying3 h
  exact ⟨n, e, bounds_i64 w⟩
theorem bytes_cells {t fuel : Nat} {cs : List Value} {y : DataW H × List MemPlace} (ht : Tryd.prog.underlying t = some (.array 16 5)) (hc : cs.length = 16) (h : DataW.trod enc Tryd.prog W 0 (fun _ => true) true fuel t cs = some y) :
    ∃ S : List Nat, cs = S.map Hs.bv ∧ S.length = 16 ∧ ∀ x ∈ S, x < 256 := by
  obtain ⟨xs, m, -, -, -, hl, hx⟩ := DataW.trod_array ht h
  have g : ∀ i, i < 16 → ∃ n : Nat, cs[i]? = some (Hs.bv n) ∧ n < 256 := fun i hi => by
    have h0 := hx i hi
    rw [List.getElem?_eq_getElem (by omega)] at h0
    obtain ⟨n0, e0, -, w0⟩ := DataW.trod_int Tryd.underlying5 h0
    rw [cellsByte, Nat.mul_one] at e0
    have e1 : cs[i]? = some (Value.int .u8 n0) := by have := congrArg (·[0]?) e0; simpa [List.getElem?_take, List.getElem?_drop] using this
    have b0 := bounds_u8 w0
    refine ⟨n0.toNat, ?_, by omega⟩
    rw [e1]
    unfold Hs.bv
    rw [Int.toNat_of_nonneg b0.1]
  obtain ⟨f, hf⟩ := choose_lt (α := Nat) g
  refine ⟨(List.range 16).map f, List.ext_getElem? fun i => ?_, by simp, fun x hx => ?_⟩
  · by_cases hi : i < 16
    · rw [(hf i hi).1]
      simp [hi]
    · rw [List.getElem?_eq_none (by omega), List.getElem?_eq_none (by simp; omega)]
  · obtain ⟨i, hi, rfl⟩ := List.mem_map.1 hx
    exact (hf i (List.mem_range.1 hi)).2
theorem per_cells {fuel : Nat} {cs : List Value} {y : DataW H × List MemPlace} (h : DataW.trod enc Tryd.prog W 0 (fun _ => true) true fuel 26 cs = some y) : ∃ lo hi : Int, cs = [.int .i64 lo, .int .i64 hi] ∧ i64Ok lo ∧ i64Ok hi := by
  obtain ⟨xs, n, _, -, hl, hlen, hg⟩ := DataW.trod_struct Tryd.underlying26 h
  rw [cellsPer] at hl
  match cs, hl with
  | [c0, c1], _ =>
    match xs, hlen with
    | [y0, y1], _ =>
      have g0 := hg 0 _ rfl
      have g1 := hg 1 _ rfl
      simp [cellsInt] at g0 g1
      obtain ⟨a, e0, o0⟩ := int_cells g0
      obtain ⟨b, e1, o1⟩ := int_cells g1
      simp only [List.cons.injEq, and_true] at e0 e1
      subst e0 e1
      exact ⟨a, b, rfl, o0, o1⟩
theorem pu_cells {fuel : Nat} {cs : List Value} {y : DataW H × List MemPlace} (hc : cs.length = 3) (h : DataW.trod enc Tryd.prog W 0 (fun _ => true) true fuel 99 cs = some y) : ∃ x : Pu, cs = encPu x ∧ i64Ok x.1 := by
  obtain ⟨xs, n, _, -, hl, hlen, hg⟩ := DataW.trod_struct Tryd.underlying99 h
  match cs, hc with
  | [c0, c1, c2], _ =>
    match xs, hlen with
    | [y0, y1, y2], _ =>
      have g0 := hg 0 _ rfl
      have g1 := hg 1 _ rfl
      have g2 := hg 2 _ rfl
      simp [cellsInt, cellsStr, cellsB] at g0 g1 g2
      obtain ⟨a, e0, o0⟩ := int_cells g0
      obtain ⟨b, e1, -, -⟩ := DataW.trod_string Tryd.underlying9 g1
      obtain ⟨c, e2, -⟩ := DataW.trod_bool Tryd.underlying4 g2
      simp only [List.cons.injEq, and_true] at e0 e1 e2
      subst e0 e1 e2
      exact ⟨(a, b, c), rfl, o0⟩
theorem dg_cells {fuel : Nat} {cs : List Value} {y : DataW H × List MemPlace} (hc : cs.length = 16) (h : DataW.trod enc Tryd.prog W 0 (fun _ => true) true fuel 56 cs = some y) : ∃ x : Dg, cs = encDg x ∧ True := by
  obtain ⟨S, e, hl, hb⟩ := bytes_cells Tryd.underlying56 hc h
  exact ⟨⟨S, hl, hb⟩, e, trivial⟩
/-- A slice of structs inside a struct that came in. -/
theorem rows_trod {α : Type} [Inhabited α] {P : Program} {t e k fuel : Nat} {enc2 : α → List Value} {Q : α → Prop} {cs : List Value} {y : DataW H × List MemPlace} (ht : P.underlying t = some (.slice e)) (hC : P.cellsOf e = k) (hk0 : 0 < k) (hk : ∀ x, (enc2 x).length = k)
    (hel : ∀ fuel cs y, cs.length = k → DataW.trod enc P W 0 (fun _ => true) true fuel e cs = some y → ∃ x, cs = enc2 x ∧ Q x)
    (hf : DataW.trod enc P W 0 (fun _ => true) true fuel t cs = some y) :
    ∃ (a : Option Addr) (cap : Nat) (l : List α), cs = [.slice a l.length cap] ∧ RowsA k enc2 W a l ∧ l.length ≤ 9223372036854775807 ∧ ∀ x ∈ l, Q x := by
  rcases open_slice ht hf with ⟨rfl, hx⟩ | ⟨a, len, cap, m, n, D, Pl, rfl, hb, hl, hm, hmm, hx, hi⟩
  · exact ⟨none, 0, [], rfl, RowsA.nil _ _ _ _, by simp, by simp⟩
  · have hmm' : m = cap := by simpa using hmm
    subst hmm'
    obtain ⟨f, hf⟩ := choose_lt (α := α) (n := len) (p := fun i x => Q x ∧ ∀ j u, (enc2 x)[j]? = some u → W.cell? ((a.add (i * k)).add j) = some u) (fun i hlt => by
      obtain ⟨cs', h1, h2⟩ := hi i (by omega)
      rw [hC] at h1
      obtain ⟨_, hlen, hat⟩ := World.cells?_some h1
      obtain ⟨x, rfl, hq⟩ := hel n cs' _ hlen h2
      exact ⟨x, hq, fun j u hu => by
        have hj : j < k := by have := (List.getElem?_eq_some_iff.1 hu).1; rwa [hk] at this
        rw [hat j hj]; exact hu⟩)
    refine ⟨some a, m, (List.range len).map f, by simp, ?_, by simp; unfold maxLen at hm; omega, fun x hx => ?_⟩
    · intro i x hx
      have hil : i < len := by have := (List.getElem?_eq_some_iff.1 hx).1; simpa using this
      rw [List.getElem?_map, List.getElem?_range hil] at hx
      obtain rfl : f i = x := by simpa using hx
      obtain ⟨b, off, spot⟩ := a
      obtain ⟨u, hu⟩ : ∃ u, (enc2 (f 0))[0]? = some u := ⟨_, List.getElem?_eq_getElem (by rw [hk]; exact hk0)⟩
      have h0 := (hf 0 (by omega)).2 0 u hu
      have hspot : spot = none := by simpa [Addr.add] using World.cell?_spot h0
      subst hspot
      refine ⟨b, off, rfl, fun j u hu => ?_⟩
      have := (hf i hil).2 j u hu
      rwa [add_off, add_off] at this
    · obtain ⟨i, hi', rfl⟩ := List.mem_map.1 hx
      exact (hf i (List.mem_range.1 hi')).1
theorem cells_stamp : Tryd.prog.cellsOf 58 = 41 := by kernel_rfl
theorem open_stamp (hv : Value.okWide Tryd.prog W .any base 58 v) (h : DataW.Trod enc Tryd.prog W 0 (fun _ => true) true 58 v d p) :
    ∃ (ad va tg : ByteArray) (st sz ga se lo hi : Int) (B S : List Nat), v = .agg (recC [.string ad, .string va, .int .i64 st, .int .i64 sz] B [.string tg, .int .i64 lo, .int .i64 hi, .int .i64 ga, .int .i64 se] S) ∧ B.length = 16 ∧ (∀ x ∈ B, x < 256) ∧ S.length = 16 ∧ (∀ x ∈ S, x < 256) ∧ i64Ok st ∧ i64Ok sz ∧ i64Ok ga ∧ i64Ok se ∧ i64Ok lo ∧ i64Ok hi := by
  obtain ⟨cs0, rfl, hsz⟩ := okWide_struct Tryd.underlying58 hv
  obtain ⟨fuel, hf⟩ := h
  simp only [Value.cells] at hf
  obtain ⟨xs, n, _, -, hl, hlen, hg⟩ := DataW.trod_struct Tryd.underlying58 hf
  rw [cells_stamp] at hl
  obtain ⟨cs, hcs⟩ : ∃ l, cs0.toList = l := ⟨_, rfl⟩
  rw [hcs] at hl hg
  have ex : ∀ i, i < 10 → ∃ y, xs[i]? = some y := fun i hi => ⟨_, List.getElem?_eq_getElem (by rw [hlen]; exact hi)⟩
  obtain ⟨y0, e0⟩ := ex 0 (by decide)
  have g0 : DataW.trod enc Tryd.prog W 0 (fun _ => true) true n 9 ((cs.drop 0).take (Tryd.prog.cellsOf 9)) = xs[0]? := hg 0 _ rfl
  rw [cellsStr, e0] at g0
  obtain ⟨ad, s0, -, -⟩ := DataW.trod_string Tryd.underlying9 g0
  have t0 := seg_of s0 (k := 1) rfl
  obtain ⟨y1, e1⟩ := ex 1 (by decide)
  have g1 : DataW.trod enc Tryd.prog W 0 (fun _ => true) true n 9 ((cs.drop 1).take (Tryd.prog.cellsOf 9)) = xs[1]? := hg 1 _ rfl
  rw [cellsStr, e1] at g1
  obtain ⟨va, s1, -, -⟩ := DataW.trod_string Tryd.underlying9 g1
  have t1 := seg_of s1 (k := 2) rfl
  obtain ⟨y2, e2⟩ := ex 2 (by decide)
  have g2 : DataW.trod enc Tryd.prog W 0 (fun _ => true) true n 3 ((cs.drop 2).take (Tryd.prog.cellsOf 3)) = xs[2]? := hg 2 _ rfl
  rw [cellsInt, e2] at g2
  obtain ⟨st, s2, o2⟩ := int_cells g2
  have t2 := seg_of s2 (k := 3) rfl
  obtain ⟨y3, e3⟩ := ex 3 (by decide)
  have g3 : DataW.trod enc Tryd.prog W 0 (fun _ => true) true n 3 ((cs.drop 3).take (Tryd.prog.cellsOf 3)) = xs[3]? := hg 3 _ rfl
  rw [cellsInt, e3] at g3
  obtain ⟨sz, s3, o3⟩ := int_cells g3
  have t3 := seg_of s3 (k := 4) rfl
  obtain ⟨y4, e4⟩ := ex 4 (by decide)
  have g4 : DataW.trod enc Tryd.prog W 0 (fun _ => true) true n 56 ((cs.drop 4).take (Tryd.prog.cellsOf 56)) = xs[4]? := hg 4 _ rfl
  rw [cellsDg, e4] at g4
  obtain ⟨B, s4, hB, hB2⟩ := bytes_cells Tryd.underlying56 (by rw [List.length_take, List.length_drop, hl]; decide) g4
  have t4 := seg_of s4 (k := 20) rfl
  obtain ⟨y5, e5⟩ := ex 5 (by decide)
  have g5 : DataW.trod enc Tryd.prog W 0 (fun _ => true) true n 9 ((cs.drop 20).take (Tryd.prog.cellsOf 9)) = xs[5]? := hg 5 _ rfl
  rw [cellsStr, e5] at g5
  obtain ⟨tg, s5, -, -⟩ := DataW.trod_string Tryd.underlying9 g5
  have t5 := seg_of s5 (k := 21) rfl
  obtain ⟨y6, e6⟩ := ex 6 (by decide)
  have g6 : DataW.trod enc Tryd.prog W 0 (fun _ => true) true n 26 ((cs.drop 21).take (Tryd.prog.cellsOf 26)) = xs[6]? := hg 6 _ rfl
  rw [cellsPer, e6] at g6
  obtain ⟨lo, hi, s6, olo, ohi⟩ := per_cells g6
  have t6 := seg_of s6 (k := 23) rfl
  obtain ⟨y7, e7⟩ := ex 7 (by decide)
  have g7 : DataW.trod enc Tryd.prog W 0 (fun _ => true) true n 3 ((cs.drop 23).take (Tryd.prog.cellsOf 3)) = xs[7]? := hg 7 _ rfl
  rw [cellsInt, e7] at g7
  obtain ⟨ga, s7, o7⟩ := int_cells g7
  have t7 := seg_of s7 (k := 24) rfl
  obtain ⟨y8, e8⟩ := ex 8 (by decide)
  have g8 : DataW.trod enc Tryd.prog W 0 (fun _ => true) true n 3 ((cs.drop 24).take (Tryd.prog.cellsOf 3)) = xs[8]? := hg 8 _ rfl
  rw [cellsInt, e8] at g8
  obtain ⟨se, s8, o8⟩ := int_cells g8
  have t8 := seg_of s8 (k := 25) rfl
  obtain ⟨y9, e9⟩ := ex 9 (by decide)
  have g9 : DataW.trod enc Tryd.prog W 0 (fun _ => true) true n 50 ((cs.drop 25).take (Tryd.prog.cellsOf 50)) = xs[9]? := hg 9 _ rfl
  rw [cellsSeal, e9] at g9
  obtain ⟨S, s9, hS, hS2⟩ := bytes_cells Tryd.underlying50 (by rw [List.length_take, List.length_drop, hl]; decide) g9
  have t9 := seg_of s9 (k := 41) rfl
  have tz : cs.drop 41 = [] := List.drop_eq_nil_of_le (by rw [hl]; exact Nat.le_refl _)
  have ee : (recC [.string ad, .string va, .int .i64 st, .int .i64 sz] B [.string tg, .int .i64 lo, .int .i64 hi, .int .i64 ga, .int .i64 se] S) = cs.toArray := by
    have z : cs = cs.drop 0 := rfl
    conv => rhs; rw [z, t0, t1, t2, t3, t4, t5, t6, t7, t8, t9, tz]
    simp [recC, recL]
  exact ⟨ad, va, tg, st, sz, ga, se, lo, hi, B, S, by rw [ee, ← hcs], hB, hB2, hS, hS2, o2, o3, o7, o8, olo, ohi⟩
theorem cells_head : Tryd.prog.cellsOf 66 = 37 := by kernel_rfl
theorem open_head (hv : Value.okWide Tryd.prog W .any base 66 v) (h : DataW.Trod enc Tryd.prog W 0 (fun _ => true) true 66 v d p) :
    ∃ (si sz se lo hi : Int) (B S : List Nat), v = .agg (recC [.int .i64 si, .int .i64 sz] B [.int .i64 lo, .int .i64 hi, .int .i64 se] S) ∧ B.length = 16 ∧ (∀ x ∈ B, x < 256) ∧ S.length = 16 ∧ (∀ x ∈ S, x < 256) ∧ i64Ok si ∧ i64Ok sz ∧ i64Ok se ∧ i64Ok lo ∧ i64Ok hi := by
  obtain ⟨cs0, rfl, hsz⟩ := okWide_struct Tryd.underlying66 hv
  obtain ⟨fuel, hf⟩ := h
  simp only [Value.cells] at hf
  obtain ⟨xs, n, _, -, hl, hlen, hg⟩ := DataW.trod_struct Tryd.underlying66 hf
  rw [cells_head] at hl
  obtain ⟨cs, hcs⟩ : ∃ l, cs0.toList = l := ⟨_, rfl⟩
  rw [hcs] at hl hg
  have ex : ∀ i, i < 6 → ∃ y, xs[i]? = some y := fun i hi => ⟨_, List.getElem?_eq_getElem (by rw [hlen]; exact hi)⟩
  obtain ⟨y0, e0⟩ := ex 0 (by decide)
  have g0 : DataW.trod enc Tryd.prog W 0 (fun _ => true) true n 3 ((cs.drop 0).take (Tryd.prog.cellsOf 3)) = xs[0]? := hg 0 _ rfl
  rw [cellsInt, e0] at g0
  obtain ⟨si, s0, o0⟩ := int_cells g0
  have t0 := seg_of s0 (k := 1) rfl
  obtain ⟨y1, e1⟩ := ex 1 (by decide)
  have g1 : DataW.trod enc Tryd.prog W 0 (fun _ => true) true n 3 ((cs.drop 1).take (Tryd.prog.cellsOf 3)) = xs[1]? := hg 1 _ rfl
  rw [cellsInt, e1] at g1
  obtain ⟨sz, s1, o1⟩ := int_cells g1
  have t1 := seg_of s1 (k := 2) rfl
  obtain ⟨y2, e2⟩ := ex 2 (by decide)
  have g2 : DataW.trod enc Tryd.prog W 0 (fun _ => true) true n 56 ((cs.drop 2).take (Tryd.prog.cellsOf 56)) = xs[2]? := hg 2 _ rfl
  rw [cellsDg, e2] at g2
  obtain ⟨B, s2, hB, hB2⟩ := bytes_cells Tryd.underlying56 (by rw [List.length_take, List.length_drop, hl]; decide) g2
  have t2 := seg_of s2 (k := 18) rfl
  obtain ⟨y3, e3⟩ := ex 3 (by decide)
  have g3 : DataW.trod enc Tryd.prog W 0 (fun _ => true) true n 26 ((cs.drop 18).take (Tryd.prog.cellsOf 26)) = xs[3]? := hg 3 _ rfl
  rw [cellsPer, e3] at g3
  obtain ⟨lo, hi, s3, olo, ohi⟩ := per_cells g3
  have t3 := seg_of s3 (k := 20) rfl
  obtain ⟨y4, e4⟩ := ex 4 (by decide)
  have g4 : DataW.trod enc Tryd.prog W 0 (fun _ => true) true n 3 ((cs.drop 20).take (Tryd.prog.cellsOf 3)) = xs[4]? := hg 4 _ rfl
  rw [cellsInt, e4] at g4
  obtain ⟨se, s4, o4⟩ := int_cells g4
  have t4 := seg_of s4 (k := 21) rfl
  obtain ⟨y5, e5⟩ := ex 5 (by decide)
  have g5 : DataW.trod enc Tryd.prog W 0 (fun _ => true) true n 50 ((cs.drop 21).take (Tryd.prog.cellsOf 50)) = xs[5]? := hg 5 _ rfl
  rw [cellsSeal, e5] at g5
  obtain ⟨S, s5, hS, hS2⟩ := bytes_cells Tryd.underlying50 (by rw [List.length_take, List.length_drop, hl]; decide) g5
  have t5 := seg_of s5 (k := 37) rfl
  have tz : cs.drop 37 = [] := List.drop_eq_nil_of_le (by rw [hl]; exact Nat.le_refl _)
  have ee : (recC [.int .i64 si, .int .i64 sz] B [.int .i64 lo, .int .i64 hi, .int .i64 se] S) = cs.toArray := by
    have z : cs = cs.drop 0 := rfl
    conv => rhs; rw [z, t0, t1, t2, t3, t4, t5, tz]
    simp [recC, recL]
  exact ⟨si, sz, se, lo, hi, B, S, by rw [ee, ← hcs], hB, hB2, hS, hS2, o0, o1, o4, olo, ohi⟩
theorem cells_epoch : Tryd.prog.cellsOf 62 = 38 := by kernel_rfl
theorem open_epoch (hv : Value.okWide Tryd.prog W .any base 62 v) (h : DataW.Trod enc Tryd.prog W 0 (fun _ => true) true 62 v d p) :
    ∃ (nu se lo hi : Int) (B S : List Nat) (pa : Option Addr) (pc : Nat) (pl : List Pu) (ra : Option Addr) (rc : Nat) (rl : List Dg), v = .agg (recC [.int .i64 nu] B [.int .i64 lo, .int .i64 hi, .slice pa pl.length pc, .slice ra rl.length rc, .int .i64 se] S) ∧ B.length = 16 ∧ (∀ x ∈ B, x < 256) ∧ S.length = 16 ∧ (∀ x ∈ S, x < 256) ∧ i64Ok nu ∧ i64Ok se ∧ i64Ok lo ∧ i64Ok hi ∧ EpM W pa pl ra rl ∧ pl.length ≤ 9223372036854775807 ∧ rl.length ≤ 9223372036854775807 ∧ (∀ x ∈ pl, i64Ok x.1) := by
  obtain ⟨cs0, rfl, hsz⟩ := okWide_struct Tryd.underlying62 hv
  obtain ⟨fuel, hf⟩ := h
  simp only [Value.cells] at hf
  obtain ⟨xs, n, _, -, hl, hlen, hg⟩ := DataW.trod_struct Tryd.underlying62 hf
  rw [cells_epoch] at hl
  obtain ⟨cs, hcs⟩ : ∃ l, cs0.toList = l := ⟨_, rfl⟩
  rw [hcs] at hl hg
  have ex : ∀ i, i < 7 → ∃ y, xs[i]? = some y := fun i hi => ⟨_, List.getElem?_eq_getElem (by rw [hlen]; exact hi)⟩
  obtain ⟨y0, e0⟩ := ex 0 (by decide)
  have g0 : DataW.trod enc Tryd.prog W 0 (fun _ => true) true n 3 ((cs.drop 0).take (Tryd.prog.cellsOf 3)) = xs[0]? := hg 0 _ rfl
  rw [cellsInt, e0] at g0
  obtain ⟨nu, s0, o0⟩ := int_cells g0
  have t0 := seg_of s0 (k := 1) rfl
  obtain ⟨y1, e1⟩ := ex 1 (by decide)
  have g1 : DataW.trod enc Tryd.prog W 0 (fun _ => true) true n 56 ((cs.drop 1).take (Tryd.prog.cellsOf 56)) = xs[1]? := hg 1 _ rfl
  rw [cellsDg, e1] at g1
  obtain ⟨B, s1, hB, hB2⟩ := bytes_cells Tryd.underlying56 (by rw [List.length_take, List.length_drop, hl]; decide) g1
  have t1 := seg_of s1 (k := 17) rfl
  obtain ⟨y2, e2⟩ := ex 2 (by decide)
  have g2 : DataW.trod enc Tryd.prog W 0 (fun _ => true) true n 26 ((cs.drop 17).take (Tryd.prog.cellsOf 26)) = xs[2]? := hg 2 _ rfl
  rw [cellsPer, e2] at g2
  obtain ⟨lo, hi, s2, olo, ohi⟩ := per_cells g2
  have t2 := seg_of s2 (k := 19) rfl
  obtain ⟨y3, e3⟩ := ex 3 (by decide)
  have g3 : DataW.trod enc Tryd.prog W 0 (fun _ => true) true n 59 ((cs.drop 19).take (Tryd.prog.cellsOf 59)) = xs[3]? := hg 3 _ rfl
  rw [cellsL1, e3] at g3
  obtain ⟨pa, pc, pl, s3, mP, lP, qP⟩ := rows_trod (α := Pu) (k := 3) (enc2 := encPu) (Q := fun x => i64Ok x.1) Tryd.underlying59 cellsPu (by decide) encPu_len (fun fuel cs y hc h => pu_cells hc h) g3
  have t3 := seg_of s3 (k := 20) rfl
  obtain ⟨y4, e4⟩ := ex 4 (by decide)
  have g4 : DataW.trod enc Tryd.prog W 0 (fun _ => true) true n 60 ((cs.drop 20).take (Tryd.prog.cellsOf 60)) = xs[4]? := hg 4 _ rfl
  rw [cellsL2, e4] at g4
  obtain ⟨ra, rc, rl, s4, mR, lR, -⟩ := rows_trod (α := Dg) (k := 16) (enc2 := encDg) (Q := fun _ => True) Tryd.underlying60 cellsDg (by decide) encDg_len (fun fuel cs y hc h => dg_cells hc h) g4
  have t4 := seg_of s4 (k := 21) rfl
  obtain ⟨y5, e5⟩ := ex 5 (by decide)
  have g5 : DataW.trod enc Tryd.prog W 0 (fun _ => true) true n 3 ((cs.drop 21).take (Tryd.prog.cellsOf 3)) = xs[5]? := hg 5 _ rfl
  rw [cellsInt, e5] at g5
  obtain ⟨se, s5, o5⟩ := int_cells g5
  have t5 := seg_of s5 (k := 22) rfl
  obtain ⟨y6, e6⟩ := ex 6 (by decide)
  have g6 : DataW.trod enc Tryd.prog W 0 (fun _ => true) true n 50 ((cs.drop 22).take (Tryd.prog.cellsOf 50)) = xs[6]? := hg 6 _ rfl
  rw [cellsSeal, e6] at g6
  obtain ⟨S, s6, hS, hS2⟩ := bytes_cells Tryd.underlying50 (by rw [List.length_take, List.length_drop, hl]; decide) g6
  have t6 := seg_of s6 (k := 38) rfl
  have tz : cs.drop 38 = [] := List.drop_eq_nil_of_le (by rw [hl]; exact Nat.le_refl _)
  have ee : (recC [.int .i64 nu] B [.int .i64 lo, .int .i64 hi, .slice pa pl.length pc, .slice ra rl.length rc, .int .i64 se] S) = cs.toArray := by
    have z : cs = cs.drop 0 := rfl
    conv => rhs; rw [z, t0, t1, t2, t3, t4, t5, t6, tz]
    simp [recC, recL]
  exact ⟨nu, se, lo, hi, B, S, pa, pc, pl, ra, rc, rl, by rw [ee, ← hcs], hB, hB2, hS, hS2, o0, o5, olo, ohi, ⟨mP, mR⟩, lP, lR, qP⟩
theorem cells_lease : Tryd.prog.cellsOf 64 = 20 := by kernel_rfl
theorem open_lease (hv : Value.okWide Tryd.prog W .any base 64 v) (h : DataW.Trod enc Tryd.prog W 0 (fun _ => true) true 64 v d p) :
    ∃ (st eo un re : Int) (S : List Nat), v = .agg (leaseC st eo un re S) ∧ S.length = 16 ∧ (∀ x ∈ S, x < 256) ∧ i64Ok st ∧ i64Ok eo ∧ i64Ok un ∧ i64Ok re := by
  obtain ⟨cs0, rfl, hsz⟩ := okWide_struct Tryd.underlying64 hv
  obtain ⟨fuel, hf⟩ := h
  simp only [Value.cells] at hf
  obtain ⟨xs, n, _, -, hl, hlen, hg⟩ := DataW.trod_struct Tryd.underlying64 hf
  rw [cells_lease] at hl
  obtain ⟨cs, hcs⟩ : ∃ l, cs0.toList = l := ⟨_, rfl⟩
  rw [hcs] at hl hg
  have ex : ∀ i, i < 5 → ∃ y, xs[i]? = some y := fun i hi => ⟨_, List.getElem?_eq_getElem (by rw [hlen]; exact hi)⟩
  obtain ⟨y0, e0⟩ := ex 0 (by decide)
  have g0 : DataW.trod enc Tryd.prog W 0 (fun _ => true) true n 3 ((cs.drop 0).take (Tryd.prog.cellsOf 3)) = xs[0]? := hg 0 _ rfl
  rw [cellsInt, e0] at g0
  obtain ⟨st, s0, o0⟩ := int_cells g0
  have t0 := seg_of s0 (k := 1) rfl
  obtain ⟨y1, e1⟩ := ex 1 (by decide)
  have g1 : DataW.trod enc Tryd.prog W 0 (fun _ => true) true n 3 ((cs.drop 1).take (Tryd.prog.cellsOf 3)) = xs[1]? := hg 1 _ rfl
  rw [cellsInt, e1] at g1
  obtain ⟨eo, s1, o1⟩ := int_cells g1
  have t1 := seg_of s1 (k := 2) rfl
  obtain ⟨y2, e2⟩ := ex 2 (by decide)
  have g2 : DataW.trod enc Tryd.prog W 0 (fun _ => true) true n 3 ((cs.drop 2).take (Tryd.prog.cellsOf 3)) = xs[2]? := hg 2 _ rfl
  rw [cellsInt, e2] at g2
  obtain ⟨un, s2, o2⟩ := int_cells g2
  have t2 := seg_of s2 (k := 3) rfl
  obtain ⟨y3, e3⟩ := ex 3 (by decide)
  have g3 : DataW.trod enc Tryd.prog W 0 (fun _ => true) true n 3 ((cs.drop 3).take (Tryd.prog.cellsOf 3)) = xs[3]? := hg 3 _ rfl
  rw [cellsInt, e3] at g3
  obtain ⟨re, s3, o3⟩ := int_cells g3
  have t3 := seg_of s3 (k := 4) rfl
  obtain ⟨y4, e4⟩ := ex 4 (by decide)
  have g4 : DataW.trod enc Tryd.prog W 0 (fun _ => true) true n 50 ((cs.drop 4).take (Tryd.prog.cellsOf 50)) = xs[4]? := hg 4 _ rfl
  rw [cellsSeal, e4] at g4
  obtain ⟨S, s4, hS, hS2⟩ := bytes_cells Tryd.underlying50 (by rw [List.length_take, List.length_drop, hl]; decide) g4
  have t4 := seg_of s4 (k := 20) rfl
  have tz : cs.drop 20 = [] := List.drop_eq_nil_of_le (by rw [hl]; exact Nat.le_refl _)
  have ee : (leaseC st eo un re S) = cs.toArray := by
    have z : cs = cs.drop 0 := rfl
    conv => rhs; rw [z, t0, t1, t2, t3, t4, tz]
    simp [leaseC]
  exact ⟨st, eo, un, re, S, by rw [ee, ← hcs], hS, hS2, o0, o1, o2, o3⟩
end
end
section
set_option linter.unusedVariables false
set_option linter.unusedSimpArgs false
set_option maxRecDepth 100000
open Go.ChangeShapes Go.WideShapes Go.ChangeAt Go.RowKit Go.Joins Go.Deep Go.ChangeMaps
theorem open_byte {H : Type} {enc : TypeId × Value → H} {W : World} {base : Nat} {v : Value} {d : DataW H} {p : List MemPlace} (hv : Value.okWide Tryd.prog W .any base 5 v) (h : DataW.Trod enc Tryd.prog W 0 (fun _ => true) true 5 v d p) : ∃ t : Nat, v = .int .u8 t ∧ t < 256 := by
  obtain ⟨t, rfl, rfl, rfl, w2⟩ := open_int Tryd.underlying5 hv h
  have b := bounds_u8 w2
  exact ⟨t.toNat, by rw [Int.toNat_of_nonneg b.1], by omega⟩
end
end Go.Proofs.YtcdcnklfcmoiiaaDoor
