/- Contracts: the parts of an epoch. -/
import Derived.Test.YtcdcnklfcmoiiaaDoorQPT
import Derived.Test.YtcdcnklfcmoiiaaDoorQZB
namespace Go.Proofs.YtcdcnklfcmoiiaaDoor
set_option linter.unusedVariables false
set_option linter.unusedSimpArgs false
open Go.RowKit Go.Sort
/-- A purge: kind, what, soft. -/
abbrev Pu := Int × ByteArray × Bool
def encPu (x : Pu) : List Value := [.int .i64 x.1, .string x.2.1, .bool x.2.2]
abbrev pu0 : Pu := (0, ⟨#[]⟩, false)
/-- A digest. -/
abbrev Dg := { D : List Nat // D.length = 16 ∧ ∀ x ∈ D, x < 256 }
def encDg (x : Dg) : List Value := x.1.map Hs.bv
def dg0 : Dg := ⟨List.replicate 16 0, by simp, fun x hx => by rw [List.eq_of_mem_replicate hx]; omega⟩
theorem encPu_len (x : Pu) : (encPu x).length = 3 := rfl
theorem encDg_len (x : Dg) : (encDg x).length = 16 := by unfold encDg; rw [List.length_map]; exact x.2.1
def EpM (W : World) (pa : Option Addr) (pl : List Pu) (ra : Option Addr) (rl : List Dg) : Prop := RowsA 3 encPu W pa pl ∧ RowsA 16 encDg W ra rl
theorem EpM.mono {W W' : World} {pa ra : Option Addr} {pl : List Pu} {rl : List Dg} (h : EpM W pa pl ra rl) (hb : Below W.heap.size W W') : EpM W' pa pl ra rl := ⟨h.1.mono hb, h.2.mono hb⟩
def EpOk (pl : List Pu) (rl : List Dg) : Prop := pl.length ≤ 10 ∧ rl.length ≤ 10 ∧ ∀ x ∈ pl, i64Ok x.1 ∧ x.2.1.size ≤ 200
def puP (x : Pu) : List ByteArray := [numP [x.1, if x.2.2 then 1 else 0], x.2.1]
def dgP (x : Dg) : ByteArray := Hs.strB x.1
def epochP (nu lo hi se : Int) (B : List Nat) (pl : List Pu) (rl : List Dg) : List ByteArray := [numP [nu, lo, hi, se, pl.length], Hs.strB B] ++ pl.flatMap puP ++ rl.map dgP
theorem puP_len (l : List Pu) : (l.flatMap puP).length = 2 * l.length := by
  induction l with
  | nil => rfl
  | cons x l ih => simp only [List.flatMap_cons, List.length_append, ih, List.length_cons]; simp [puP]; omega
theorem epochP_len (nu lo hi se : Int) (B : List Nat) (pl : List Pu) (rl : List Dg) : (epochP nu lo hi se B pl rl).length = 2 + 2 * pl.length + rl.length := by
  unfold epochP
  simp only [List.length_append, List.length_map, puP_len, List.length_cons, List.length_nil]
theorem epochP_le {nu lo hi se : Int} {B : List Nat} {pl : List Pu} {rl : List Dg} (hB : B.length = 16) (hnu : i64Ok nu) (hlo : i64Ok lo) (hhi : i64Ok hi) (hse : i64Ok se) (hT : EpOk pl rl) : ∀ x ∈ epochP nu lo hi se B pl rl, x.size ≤ 400 := fun x hx => by
  unfold epochP at hx
  simp only [List.mem_append, List.mem_cons, List.not_mem_nil, or_false, List.mem_flatMap, List.mem_map] at hx
  rcases hx with ((rfl | rfl) | ⟨y, hy, hx⟩) | ⟨y, hy, rfl⟩
  · refine numP_le _ (fun z hz => ?_) (by simp)
    simp only [List.mem_cons, List.not_mem_nil, or_false] at hz
    rcases hz with rfl | rfl | rfl | rfl | rfl
    · assumption
    · assumption
    · assumption
    · assumption
    · have := hT.1; unfold i64Ok; omega
  · rw [Hs.strB_size, hB]; omega
  · unfold puP at hx
    simp only [List.mem_cons, List.not_mem_nil, or_false] at hx
    rcases hx with rfl | rfl
    · refine numP_le _ (fun z hz => ?_) (by simp)
      simp only [List.mem_cons, List.not_mem_nil, or_false] at hz
      rcases hz with rfl | rfl
      · exact (hT.2.2 y hy).1
      · unfold i64Ok; split <;> omega
    · have := (hT.2.2 y hy).2; omega
  · unfold dgP; rw [Hs.strB_size, y.2.1]; omega
theorem pu_at {W : World} {a : Option Addr} {l : List Pu} (h : RowsA 3 encPu W a l) {k : Nat} (hk : k < l.length) : ∃ b off, a = some ⟨b, off, none⟩ ∧ W.cell? ⟨b, off + k * 3, none⟩ = some (.int .i64 (l.getD k pu0).1) ∧ W.cell? ⟨b, off + k * 3 + 1, none⟩ = some (.string (l.getD k pu0).2.1) ∧ W.cell? ⟨b, off + k * 3 + 2, none⟩ = some (.bool (l.getD k pu0).2.2) := by
  obtain ⟨b, off, e, q⟩ := h k (l.getD k pu0) (by rw [List.getD_eq_getElem?_getD, List.getElem?_eq_getElem hk]; rfl)
  exact ⟨b, off, e, q 0 _ rfl, q 1 _ rfl, q 2 _ rfl⟩
theorem dg_at {W : World} {a : Option Addr} {l : List Dg} (h : RowsA 16 encDg W a l) {k : Nat} (hk : k < l.length) : ∃ b off, a = some ⟨b, off, none⟩ ∧ W.rangeAt b (off + k * 16) ((l.getD k dg0).1.map Hs.bv) := by
  obtain ⟨b, off, e, q⟩ := h k (l.getD k dg0) (by rw [List.getD_eq_getElem?_getD, List.getElem?_eq_getElem hk]; rfl)
  exact ⟨b, off, e, q⟩
theorem own_two {W : World} {g Z : Nat} {x y : ByteArray} (h : Blk W g 9 #[.string x, .string y]) (hz : Z ≤ g) : OwnS W Z (.slice (some ⟨g, 0, none⟩) 2 2) [x, y] :=
  ⟨rfl, .inr ⟨g, 2, #[.string x, .string y], rfl, hz, h, Nat.le_refl _, by decide, rfl, rfl⟩⟩
theorem app_SK (ty : TypeId) (w : World) (B : Nat) (v : Value) (l : List ByteArray) (hown : OwnS w B v l) (a : Option Addr) (cap : Nat) (m : List ByteArray) (hm : StR w a m) (hl : l.length ≤ 1000000000) (hml : m.length ≤ 1000000000) (hB : B ≤ w.heap.size) :
    ∃ b n c w', (Builtin.append_ #[48, 48] ty #[v, .slice a m.length cap]).run Tryd.prog w = .ok (.slice b n c) w' ∧ OwnS w' B (.slice b n c) (l ++ m) ∧ Below B w w' ∧ ∀ g o, w.heap[g]? = some o → v.ownBlock ≠ some g → w'.heap[g]? = some o :=
  run_app_rowsK Tryd.underlying48 Tryd.underlying48 infoT rfl (by decide) (by decide) encT_len encT_one w B v l hown a cap m hm hl hml hB
theorem take_step {α β : Type} (f : α → List β) (l : List α) (d : α) (k : Nat) (h : k < l.length) : (l.take (k + 1)).flatMap f = (l.take k).flatMap f ++ f (l.getD k d) := by
  rw [List.take_add_one, List.flatMap_append, List.getElem?_eq_getElem h, List.getD_eq_getElem?_getD, List.getElem?_eq_getElem h]
  simp
theorem take_stepm {α β : Type} (f : α → β) (l : List α) (d : α) (k : Nat) (h : k < l.length) : (l.take (k + 1)).map f = (l.take k).map f ++ [f (l.getD k d)] := by
  rw [List.take_add_one, List.map_append, List.getElem?_eq_getElem h, List.getD_eq_getElem?_getD, List.getElem?_eq_getElem h]
  simp
theorem epoch_cells {X : World} {g : Nat} {t : TypeId} {nu lo hi se : Int} {B S : List Nat} {vpu vre : Value} (hB : B.length = 16) (h : Blk X g t (recC [.int .i64 nu] B [.int .i64 lo, .int .i64 hi, vpu, vre, .int .i64 se] S)) : X.cell? ⟨g, 0, none⟩ = some (.int .i64 nu) ∧ X.cell? ⟨g, 17, none⟩ = some (.int .i64 lo) ∧ X.cell? ⟨g, 18, none⟩ = some (.int .i64 hi) ∧ X.cell? ⟨g, 19, none⟩ = some (vpu) ∧ X.cell? ⟨g, 20, none⟩ = some (vre) ∧ X.cell? ⟨g, 21, none⟩ = some (.int .i64 se) := ⟨rec_at h (i := 0) rfl, rec_on h hB (j := 0) rfl, rec_on h hB (j := 1) rfl, rec_on h hB (j := 2) rfl, rec_on h hB (j := 3) rfl, rec_on h hB (j := 4) rfl⟩
set_option maxRecDepth 100000 in
set_option maxHeartbeats 2000000 in
theorem epochParts_any (nu lo hi se : Int) (B : List Nat) (S : List Nat) (pa : Option Addr) (pc : Nat) (pl : List Pu) (ra : Option Addr) (rc : Nat) (rl : List Dg) (w : World) (hB : B.length = 16) (hb : ∀ x ∈ B, x < 256) (hnu : i64Ok nu) (hlo : i64Ok lo) (hhi : i64Ok hi) (hse : i64Ok se) (hT : EpOk pl rl) (hm : EpM w pa pl ra rl) :
    Calls Tryd.prog 32 #[.agg (recC [.int .i64 nu] B [.int .i64 lo, .int .i64 hi, .slice pa pl.length pc, .slice ra rl.length rc, .int .i64 se] S)] w fun e' w' => (∃ a c, e' = .returned (.slice a (epochP nu lo hi se B pl rl).length c) ∧ StR w' a (epochP nu lo hi se B pl rl)) ∧ Below w.heap.size w w' := by
  unfold epochP
  have HOK := Lib.hid hT
  have HM := Lib.hid hm
  have hN1 := hT.1
  have hN2 := hT.2.1
  obtain ⟨N, hN⟩ : ∃ n, pl.length = n := ⟨_, rfl⟩
  obtain ⟨M, hM⟩ : ∃ n, rl.length = n := ⟨_, rfl⟩
  have HN := Lib.hid hN
  have HMl := Lib.hid hM
  rw [hN, hM]
  rw [hN] at hN1
  rw [hM] at hN2
  have N1 := Lib.hid hN1
  have N2 := Lib.hid hN2
  have hNL : ∀ x ∈ [nu, lo, hi, se, (N : Int)], i64Ok x := fun x hx => by
    simp only [List.mem_cons, List.not_mem_nil, or_false] at hx
    rcases hx with rfl | rfl | rfl | rfl | rfl
    · exact hnu
    · exact hlo
    · exact hhi
    · exact hse
    · unfold i64Ok; omega
  have NU := Lib.hid (fun (g : Nat) (X : World) (h : Blk X g 3 #[.int .i64 nu, .int .i64 lo, .int .i64 hi, .int .i64 se, .int .i64 (N : Int)]) => nums_any [nu, lo, hi, se, (N : Int)] 5 rfl hNL (by decide) g X h)
  have NU2 := Lib.hid (fun (x u : Int) (hx : i64Ok x ∧ i64Ok u) (g : Nat) (X : World) (h : Blk X g 3 #[.int .i64 x, .int .i64 u]) => nums_any [x, u] 2 rfl (fun y hy => by
    simp only [List.mem_cons, List.not_mem_nil, or_false] at hy
    rcases hy with rfl | rfl
    · exact hx.1
    · exact hx.2) (by decide) g X h)
  obtain ⟨P, hP⟩ : ∃ P, numP [nu, lo, hi, se, (N : Int)] = P := ⟨_, rfl⟩
  simp only [hP] at NU
  rw [hP]
  obtain ⟨G, hG⟩ : ∃ G, w.heap.size = G := ⟨_, rfl⟩
  have HG := Lib.hid hG
  have CV := Lib.hid (fun (X : World) (n : Nat) (h : X.rangeAt G n (B.map Hs.bv)) => conv16 hB (bytes_at h hb))
  have CD := Lib.hid (fun (x : Dg) (g n : Nat) (X : World) (h : X.rangeAt g n (x.1.map Hs.bv)) => show (convert 102 9 (.slice (some ⟨g, n, none⟩) 16 16)).run Tryd.prog X = .ok (.string (dgP x)) X from conv16 x.2.1 (bytes_at h x.2.2))
  obtain ⟨Q, hQ⟩ : ∃ Q, Hs.strB B = Q := ⟨_, rfl⟩
  simp only [hQ] at CV
  rw [hQ]
  have LI := Lib.hid (fun (v : Value) (X : World) => list_any v X)
  have HB := Lib.hid hB
  clear hP hQ hNL hN hM hN1 hN2 hB hb hT hm hnu hlo hhi hse
  obtain ⟨C, hC⟩ : ∃ C, (recC [.int .i64 nu] B [.int .i64 lo, .int .i64 hi, .slice pa N pc, .slice ra M rc, .int .i64 se] S) = C := ⟨_, rfl⟩
  have K1 := Lib.hid (show Blk (w.alloc (.cells C 62)) G 62 (recC [.int .i64 nu] B [.int .i64 lo, .int .i64 hi, .slice pa N pc, .slice ra M rc, .int .i64 se] S) from by rw [hC]; exact Blk.new' w _ _ _ hG rfl)
  have BW := Lib.hid (show Below w.heap.size w (w.alloc (.cells C 62)) by (repeat' (first | (with_reducible exact Below.refl _ _) | (with_reducible assumption) | (with_reducible refine Below.alloc ?_ ?_ _) | (with_reducible refine Below.drew ?_) | (with_reducible refine below_dn ?_) | (with_reducible refine Below.setCell ?_ ?_ _) | (with_reducible exact Nat.le_refl _) | omega | (simp only [World.size_alloc, World.size_setCell, World.size_drew]; omega) | (simp; omega) | (simp; done))))
  rw [hC]
  clear hC
  go_enter Tryd.func32, Tryd.ntmps32
  go_upto_region 1 with (fail)
  try rw [hG]
  generalize hw0 : (w.alloc (.cells C 62)) = w0 at K1 BW ⊢
  clear hw0 hG
  have GZ := Lib.hid K1.out.lt
  have B0 := Lib.hid (Below.refl w0.heap.size w0)
  refine wp_region_held_drew (S := fun W => Blk W G 62 (recC [.int .i64 nu] B [.int .i64 lo, .int .i64 hi, .slice pa N pc, .slice ra M rc, .int .i64 se] S)) (by kernel_rfl) K1.out.drew (fun hHeld => ?_)
  replace B0 := Lib.hid B0.out.drew
  generalize w0.drew = w1 at B0 hHeld ⊢
  refine wpAnyH_take (i := 0) (v := .pointer (some ⟨G, 0, none⟩)) rfl (by kernel_rfl) (by kernel_rfl) (by kernel_rfl) (fun _ _ _ h => h) (Or.inl ⟨by rfl, fun W hW => by go_simp⟩) (by assumption) ?_
  (try simp only [Act.put, List.getElem_toArray, List.getElem_cons_succ, List.getElem_cons_zero, List.setIfInBounds_toArray, List.set_cons_zero, List.set_cons_succ])
  refine wpAnyH_take (i := 1) (v := .int .i64 nu) rfl (by kernel_rfl) (by kernel_rfl) (by kernel_rfl) (fun _ _ _ h => h) (Or.inl ⟨by rfl, fun W hW => (by obtain ⟨ca0, cc0, cc1, cc2, cc3, cc4⟩ := epoch_cells HB.out hW; go_simp)⟩) (by assumption) ?_
  (try simp only [Act.put, List.getElem_toArray, List.getElem_cons_succ, List.getElem_cons_zero, List.setIfInBounds_toArray, List.set_cons_zero, List.set_cons_succ])
  refine wpAnyH_take (i := 2) (v := .pointer (some ⟨G, 17, none⟩)) rfl (by kernel_rfl) (by kernel_rfl) (by kernel_rfl) (fun _ _ _ h => h) (Or.inl ⟨by rfl, fun W hW => by go_simp⟩) (by assumption) ?_
  (try simp only [Act.put, List.getElem_toArray, List.getElem_cons_succ, List.getElem_cons_zero, List.setIfInBounds_toArray, List.set_cons_zero, List.set_cons_succ])
  refine wpAnyH_take (i := 3) (v := .pointer (some ⟨G, 17, none⟩)) rfl (by kernel_rfl) (by kernel_rfl) (by kernel_rfl) (fun _ _ _ h => h) (Or.inl ⟨by rfl, fun W hW => by go_simp⟩) (by assumption) ?_
  (try simp only [Act.put, List.getElem_toArray, List.getElem_cons_succ, List.getElem_cons_zero, List.setIfInBounds_toArray, List.set_cons_zero, List.set_cons_succ])
  refine wpAnyH_take (i := 4) (v := .int .i64 lo) rfl (by kernel_rfl) (by kernel_rfl) (by kernel_rfl) (fun _ _ _ h => h) (Or.inl ⟨by rfl, fun W hW => (by obtain ⟨ca0, cc0, cc1, cc2, cc3, cc4⟩ := epoch_cells HB.out hW; go_simp)⟩) (by assumption) ?_
  (try simp only [Act.put, List.getElem_toArray, List.getElem_cons_succ, List.getElem_cons_zero, List.setIfInBounds_toArray, List.set_cons_zero, List.set_cons_succ])
  refine wpAnyH_take (i := 5) (v := .pointer (some ⟨G, 17, none⟩)) rfl (by kernel_rfl) (by kernel_rfl) (by kernel_rfl) (fun _ _ _ h => h) (Or.inl ⟨by rfl, fun W hW => by go_simp⟩) (by assumption) ?_
  (try simp only [Act.put, List.getElem_toArray, List.getElem_cons_succ, List.getElem_cons_zero, List.setIfInBounds_toArray, List.set_cons_zero, List.set_cons_succ])
  refine wpAnyH_take (i := 6) (v := .pointer (some ⟨G, 18, none⟩)) rfl (by kernel_rfl) (by kernel_rfl) (by kernel_rfl) (fun _ _ _ h => h) (Or.inl ⟨by rfl, fun W hW => by go_simp⟩) (by assumption) ?_
  (try simp only [Act.put, List.getElem_toArray, List.getElem_cons_succ, List.getElem_cons_zero, List.setIfInBounds_toArray, List.set_cons_zero, List.set_cons_succ])
  refine wpAnyH_take (i := 7) (v := .int .i64 hi) rfl (by kernel_rfl) (by kernel_rfl) (by kernel_rfl) (fun _ _ _ h => h) (Or.inl ⟨by rfl, fun W hW => (by obtain ⟨ca0, cc0, cc1, cc2, cc3, cc4⟩ := epoch_cells HB.out hW; go_simp)⟩) (by assumption) ?_
  (try simp only [Act.put, List.getElem_toArray, List.getElem_cons_succ, List.getElem_cons_zero, List.setIfInBounds_toArray, List.set_cons_zero, List.set_cons_succ])
  refine wpAnyH_take (i := 8) (v := .pointer (some ⟨G, 21, none⟩)) rfl (by kernel_rfl) (by kernel_rfl) (by kernel_rfl) (fun _ _ _ h => h) (Or.inl ⟨by rfl, fun W hW => by go_simp⟩) (by assumption) ?_
  (try simp only [Act.put, List.getElem_toArray, List.getElem_cons_succ, List.getElem_cons_zero, List.setIfInBounds_toArray, List.set_cons_zero, List.set_cons_succ])
  refine wpAnyH_take (i := 9) (v := .int .i64 se) rfl (by kernel_rfl) (by kernel_rfl) (by kernel_rfl) (fun _ _ _ h => h) (Or.inl ⟨by rfl, fun W hW => (by obtain ⟨ca0, cc0, cc1, cc2, cc3, cc4⟩ := epoch_cells HB.out hW; go_simp)⟩) (by assumption) ?_
  (try simp only [Act.put, List.getElem_toArray, List.getElem_cons_succ, List.getElem_cons_zero, List.setIfInBounds_toArray, List.set_cons_zero, List.set_cons_succ])
  refine wpAnyH_take (i := 10) (v := .pointer (some ⟨G, 19, none⟩)) rfl (by kernel_rfl) (by kernel_rfl) (by kernel_rfl) (fun _ _ _ h => h) (Or.inl ⟨by rfl, fun W hW => by go_simp⟩) (by assumption) ?_
  (try simp only [Act.put, List.getElem_toArray, List.getElem_cons_succ, List.getElem_cons_zero, List.setIfInBounds_toArray, List.set_cons_zero, List.set_cons_succ])
  refine wpAnyH_take (i := 11) (v := .slice pa N pc) rfl (by kernel_rfl) (by kernel_rfl) (by kernel_rfl) (fun _ _ _ h => h) (Or.inl ⟨by rfl, fun W hW => (by obtain ⟨ca0, cc0, cc1, cc2, cc3, cc4⟩ := epoch_cells HB.out hW; go_simp)⟩) (by assumption) ?_
  (try simp only [Act.put, List.getElem_toArray, List.getElem_cons_succ, List.getElem_cons_zero, List.setIfInBounds_toArray, List.set_cons_zero, List.set_cons_succ])
  refine wpAnyH_take (i := 12) (v := .int .i64 (N : Int)) rfl (by kernel_rfl) (by kernel_rfl) (by kernel_rfl) (fun _ _ _ h => h) (Or.inl ⟨by rfl, fun W hW => by go_simp⟩) (by assumption) ?_
  (try simp only [Act.put, List.getElem_toArray, List.getElem_cons_succ, List.getElem_cons_zero, List.setIfInBounds_toArray, List.set_cons_zero, List.set_cons_succ])
  refine wpAnyH_take (i := 15) (v := .pointer (some ⟨G, 1, none⟩)) rfl (by kernel_rfl) (by kernel_rfl) (by kernel_rfl) (fun _ _ _ h => h) (Or.inl ⟨by rfl, fun W hW => by go_simp⟩) (by assumption) ?_
  (try simp only [Act.put, List.getElem_toArray, List.getElem_cons_succ, List.getElem_cons_zero, List.setIfInBounds_toArray, List.set_cons_zero, List.set_cons_succ])
  refine wpAnyH_take (i := 16) (v := .slice (some ⟨G, 1, none⟩) 16 16) rfl (by kernel_rfl) (by kernel_rfl) (by kernel_rfl) (fun _ _ _ h => h) (Or.inl ⟨by rfl, fun W hW => by go_simp⟩) (by assumption) ?_
  (try simp only [Act.put, List.getElem_toArray, List.getElem_cons_succ, List.getElem_cons_zero, List.setIfInBounds_toArray, List.set_cons_zero, List.set_cons_succ])
  refine wpAnyH_take (i := 17) (v := .string Q) rfl (by kernel_rfl) (by kernel_rfl) (by kernel_rfl) (fun _ _ _ h => h) (Or.inl ⟨by rfl, fun W hW => exec_conv _ _ _ _ _ _ _ _ rfl rfl (CV.out _ 1 (rec_B hW))⟩) (by assumption) ?_
  (try simp only [Act.put, List.getElem_toArray, List.getElem_cons_succ, List.getElem_cons_zero, List.setIfInBounds_toArray, List.set_cons_zero, List.set_cons_succ])
  refine wpAnyH_ready (rs := [13]) (by kernel_rfl) (by simp) (AllReadyH.cons rfl (fun K hK => ?_) AllReadyH.nil)
  go_simp
  obtain ⟨g1, hg1⟩ : ∃ G, w1.heap.size = G := ⟨_, rfl⟩
  have Kg1 := Lib.hid (show Blk (w1.alloc (.cells #[.int .i64 nu, .int .i64 lo, .int .i64 hi, .int .i64 se, .int .i64 (N : Int)] 3)) g1 3 #[.int .i64 nu, .int .i64 lo, .int .i64 hi, .int .i64 se, .int .i64 (N : Int)] from Blk.new' w1 _ _ _ hg1 rfl)
  have hb := (Below.refl _ w1).alloc (Nat.le_refl _) (.cells #[.int .i64 nu, .int .i64 lo, .int .i64 hi, .int .i64 se, .int .i64 (N : Int)] 3)
  replace B0 := Lib.hid (B0.out.trans (hb.mono B0.out.size))
  rw [hg1]
  refine hK _ _ (hHeld.below hb hHeld.lt) (fun heldwa1 => ?_)
  clear hK K hHeld
  (try simp only [Act.put, List.getElem_toArray, List.getElem_cons_succ, List.getElem_cons_zero, List.setIfInBounds_toArray, List.set_cons_zero, List.set_cons_succ])
  clear hb
  generalize hw2 : w1.alloc (.cells #[.int .i64 nu, .int .i64 lo, .int .i64 hi, .int .i64 se, .int .i64 (N : Int)] 3) = wa1 at Kg1 B0 heldwa1 ⊢
  clear hw2 hg1
  refine wpAnyH_ready (rs := [14]) (by kernel_rfl) (by simp) (AllReadyH.cons rfl (fun K hK => ?_) AllReadyH.nil)
  go_simp
  refine (NU.out g1 _ Kg1.out).mono ?_
  rintro e9 wa3 ⟨rfl, hb⟩
  replace B0 := Lib.hid (B0.out.trans (hb.mono B0.out.size))
  go_wp2_with fail
  refine hK _ _ (heldwa1.below hb heldwa1.lt) (fun heldwa3 => ?_)
  clear hK K heldwa1
  (try simp only [Act.put, List.getElem_toArray, List.getElem_cons_succ, List.getElem_cons_zero, List.setIfInBounds_toArray, List.set_cons_zero, List.set_cons_succ])
  clear hb
  clear Kg1
  have LZ := Lib.hid (show w0.heap.size ≤ wa3.heap.size from B0.out.size)
  refine wpAnyH_ready (rs := [18]) (by kernel_rfl) (by simp) (AllReadyH.cons rfl (fun K hK => ?_) AllReadyH.nil)
  go_simp
  obtain ⟨g2, hg2⟩ : ∃ G, wa3.heap.size = G := ⟨_, rfl⟩
  have Kg2 := Lib.hid (show Blk (wa3.alloc (.cells #[.string P, .string Q] 9)) g2 9 #[.string P, .string Q] from Blk.new' wa3 _ _ _ hg2 rfl)
  have hb := (Below.refl _ wa3).alloc (Nat.le_refl _) (.cells #[.string P, .string Q] 9)
  replace B0 := Lib.hid (B0.out.trans (hb.mono B0.out.size))
  rw [hg2]
  refine hK _ _ (heldwa3.below hb heldwa3.lt) (fun heldwa5 => ?_)
  clear hK K heldwa3
  (try simp only [Act.put, List.getElem_toArray, List.getElem_cons_succ, List.getElem_cons_zero, List.setIfInBounds_toArray, List.set_cons_zero, List.set_cons_succ])
  clear hb
  generalize hw2 : wa3.alloc (.cells #[.string P, .string Q] 9) = wa5 at Kg2 B0 heldwa5 ⊢
  have LZ2 := Lib.hid (show w0.heap.size ≤ g2 from by have := LZ.out; omega)
  clear hw2 hg2 LZ
  refine wpAnyH_ready (rs := [19]) (by kernel_rfl) (by simp) (AllReadyH.cons rfl (fun K hK => ?_) AllReadyH.nil)
  go_simp
  refine (LI.out _ _).mono ?_
  rintro e9 w9 ⟨rfl, rfl⟩
  go_wp2_with fail
  refine hK _ _ heldwa5 (fun heldwa6 => ?_)
  clear hK K heldwa5
  (try simp only [Act.put, List.getElem_toArray, List.getElem_cons_succ, List.getElem_cons_zero, List.setIfInBounds_toArray, List.set_cons_zero, List.set_cons_succ])
  refine wpAnyH_take (i := 20) (v := .slice (some ⟨g2, 0, none⟩) 2 2) rfl (by kernel_rfl) (by kernel_rfl) (by kernel_rfl) (fun _ _ _ h => h) (Or.inl ⟨by rfl, fun W hW => by go_simp⟩) (by assumption) ?_
  (try simp only [Act.put, List.getElem_toArray, List.getElem_cons_succ, List.getElem_cons_zero, List.setIfInBounds_toArray, List.set_cons_zero, List.set_cons_succ])
  refine wpAnyH_done (by kernel_rfl) ?_ _
  obtain ⟨ca0, cc0, cc1, cc2, cc3, cc4⟩ := epoch_cells HB.out heldwa6
  have Kx := Lib.hid heldwa6
  go_wp2
  go_loopw [3, 5, 6, 32] (fun u3 _ _ u32 wr => ∃ k : Nat, k ≤ N ∧ u32 = .int .i64 k ∧ Hid (OwnS wr w0.heap.size u3 ([P, Q] ++ (pl.take k).flatMap puP)) ∧ Hid (Blk wr G 62 (recC [.int .i64 nu] B [.int .i64 lo, .int .i64 hi, .slice pa N pc, .slice ra M rc, .int .i64 se] S)) ∧ Hid (Below w0.heap.size w0 wr)) (fun _ _ _ u32 _ => (N - intOf u32).toNat)
  case atStart => exact ⟨0, by omega, rfl, Lib.hid (own_two Kg2.out LZ2.out), Kx, B0⟩
  case round =>
    clear Kx B0 Kg2 LZ2 ca0 cc0 cc1 cc2 cc3 cc4 heldwa6
    obtain ⟨k, hk, rfl, HO, Kx, B0⟩ := hrel
    by_cases hlt : k < N
    · have t0 : decide ((k : Int) < (N : Int)) = true := decide_eq_true (by omega)
      have n1 := N1.out
      have wk : IntKind.i64.wrap ((k : Int) + 1) = (k : Int) + 1 := by rw [IntKind.wrap_i64]; omega
      obtain ⟨bp, fp, rfl, q0, q1, q2⟩ := pu_at (HM.out.mono (BW.out.trans (B0.out.mono BW.out.size))).1 (k := k) (by rw [HN.out]; exact hlt)
      have hok := (HOK.out.2.2 (pl.getD k pu0) (by rw [List.getD_eq_getElem?_getD, List.getElem?_eq_getElem (by rw [HN.out]; exact hlt)]; exact List.getElem_mem _)).1
      have NX := Lib.hid (show [P, Q] ++ (pl.take (k + 1)).flatMap puP = ([P, Q] ++ (pl.take k).flatMap puP) ++ puP (pl.getD k pu0) by rw [take_step puP pl pu0 k (by rw [HN.out]; exact hlt), List.append_assoc])
      have LN := Lib.hid (show ([P, Q] ++ (pl.take k).flatMap puP).length ≤ 1000000 by rw [List.length_append, puP_len, List.length_take]; simp; omega)
      obtain ⟨x, hx⟩ : ∃ y, pl.getD k pu0 = y := ⟨_, rfl⟩
      rw [hx] at q0 q1 q2 hok
      simp only [hx] at NX
      clear hx
      obtain ⟨x1, x2, x3⟩ := x
      simp only at q0 q1 q2 hok
      have k0 : (0 : Int) ≤ (k : Int) := by omega
      have kN : (k : Int) < (N : Int) := by omega
      have HOK1 := Lib.hid hok
      clear hok
      cases x3 with
      | false =>
        obtain ⟨g5, hg5⟩ : ∃ G, wr.heap.size = G := ⟨_, rfl⟩
        have K5 := Lib.hid (show Blk (wr.alloc (.cells #[.int .i64 x1, .string x2, .bool false] 99)) g5 99 #[.int .i64 x1, .string x2, .bool false] from Blk.new' wr _ _ _ hg5 rfl)
        have NE := Lib.hid (show u3.ownBlock ≠ some g5 from fun q => by have := (own_lt HO.out g5 q).2; omega)
        have Lg5 := Lib.hid (show w0.heap.size ≤ g5 from by rw [← hg5]; exact B0.out.size)
        replace HO := Lib.hid (HO.out.alloc (.cells #[.int .i64 x1, .string x2, .bool false] 99))
        replace Kx := Lib.hid (Kx.out.alloc (.cells #[.int .i64 x1, .string x2, .bool false] 99))
        replace B0 := Lib.hid (B0.out.alloc B0.out.size (.cells #[.int .i64 x1, .string x2, .bool false] 99))
        go_upto_region 5 with (fail)
        try rw [hg5]
        generalize hw : wr.alloc (.cells #[.int .i64 x1, .string x2, .bool false] 99) = w1 at K5 HO Kx B0 ⊢
        clear hw hg5 q0 q1 q2
        obtain ⟨m0, m1, m2⟩ := three K5.out
        go_upto_region 8 with (fail)
        clear m0 m1 m2
        refine wp_region_held_drew (S := fun W => Blk W g5 99 #[.int .i64 x1, .string x2, .bool false]) (by kernel_rfl) K5.out.drew (fun hHeld => ?_)
        replace HO := Lib.hid HO.out.drew
        replace Kx := Lib.hid Kx.out.drew
        replace B0 := Lib.hid B0.out.drew
        generalize w1.drew = w2 at HO Kx B0 hHeld ⊢
        clear K5
        refine wpAnyH_take (i := 0) (v := u3) rfl (by kernel_rfl) (by kernel_rfl) (by kernel_rfl) (fun _ _ _ h => h) (Or.inl ⟨by rfl, fun W hW => by go_simp⟩) (by assumption) ?_
        (try simp only [Act.put, List.getElem_toArray, List.getElem_cons_succ, List.getElem_cons_zero, List.setIfInBounds_toArray, List.set_cons_zero, List.set_cons_succ])
        refine wpAnyH_take (i := 1) (v := .pointer (some ⟨g5, 0, none⟩)) rfl (by kernel_rfl) (by kernel_rfl) (by kernel_rfl) (fun _ _ _ h => h) (Or.inl ⟨by rfl, fun W hW => by go_simp⟩) (by assumption) ?_
        (try simp only [Act.put, List.getElem_toArray, List.getElem_cons_succ, List.getElem_cons_zero, List.setIfInBounds_toArray, List.set_cons_zero, List.set_cons_succ])
        refine wpAnyH_take (i := 2) (v := .int .i64 x1) rfl (by kernel_rfl) (by kernel_rfl) (by kernel_rfl) (fun _ _ _ h => h) (Or.inl ⟨by rfl, fun W hW => (by obtain ⟨m0, m1, m2⟩ := three hW; go_simp)⟩) (by assumption) ?_
        (try simp only [Act.put, List.getElem_toArray, List.getElem_cons_succ, List.getElem_cons_zero, List.setIfInBounds_toArray, List.set_cons_zero, List.set_cons_succ])
        refine wpAnyH_take (i := 3) (v := .int .i64 0) rfl (by kernel_rfl) (by kernel_rfl) (by kernel_rfl) (fun _ _ _ h => h) (Or.inl ⟨by rfl, fun W hW => by go_simp⟩) (by assumption) ?_
        (try simp only [Act.put, List.getElem_toArray, List.getElem_cons_succ, List.getElem_cons_zero, List.setIfInBounds_toArray, List.set_cons_zero, List.set_cons_succ])
        refine wpAnyH_take (i := 6) (v := .pointer (some ⟨g5, 1, none⟩)) rfl (by kernel_rfl) (by kernel_rfl) (by kernel_rfl) (fun _ _ _ h => h) (Or.inl ⟨by rfl, fun W hW => by go_simp⟩) (by assumption) ?_
        (try simp only [Act.put, List.getElem_toArray, List.getElem_cons_succ, List.getElem_cons_zero, List.setIfInBounds_toArray, List.set_cons_zero, List.set_cons_succ])
        refine wpAnyH_take (i := 7) (v := .string x2) rfl (by kernel_rfl) (by kernel_rfl) (by kernel_rfl) (fun _ _ _ h => h) (Or.inl ⟨by rfl, fun W hW => (by obtain ⟨m0, m1, m2⟩ := three hW; go_simp)⟩) (by assumption) ?_
        (try simp only [Act.put, List.getElem_toArray, List.getElem_cons_succ, List.getElem_cons_zero, List.setIfInBounds_toArray, List.set_cons_zero, List.set_cons_succ])
        refine wpAnyH_ready (rs := [4]) (by kernel_rfl) (by simp) (AllReadyH.cons rfl (fun K hK => ?_) AllReadyH.nil)
        go_simp
        obtain ⟨g7, hg7⟩ : ∃ G, w2.heap.size = G := ⟨_, rfl⟩
        have Kg7 := Lib.hid (show Blk (w2.alloc (.cells #[.int .i64 x1, .int .i64 0] 3)) g7 3 #[.int .i64 x1, .int .i64 0] from Blk.new' w2 _ _ _ hg7 rfl)
        have hb := (Below.refl _ w2).alloc (Nat.le_refl _) (.cells #[.int .i64 x1, .int .i64 0] 3)
        replace B0 := Lib.hid (B0.out.trans (hb.mono B0.out.size))
        rw [hg7]
        replace Kx := Lib.hid (Kx.out.below hb Kx.out.lt)
        replace HO := Lib.hid (HO.out.below hb)
        refine hK _ _ (hHeld.below hb hHeld.lt) (fun heldwbf1 => ?_)
        clear hK K hHeld
        (try simp only [Act.put, List.getElem_toArray, List.getElem_cons_succ, List.getElem_cons_zero, List.setIfInBounds_toArray, List.set_cons_zero, List.set_cons_succ])
        clear hb
        generalize hw2 : w2.alloc (.cells #[.int .i64 x1, .int .i64 0] 3) = wbf1 at Kg7 B0 heldwbf1 Kx HO ⊢
        clear hw2 hg7
        refine wpAnyH_ready (rs := [5]) (by kernel_rfl) (by simp) (AllReadyH.cons rfl (fun K hK => ?_) AllReadyH.nil)
        go_simp
        refine (NU2.out x1 0 ⟨HOK1.out, by unfold i64Ok; omega⟩ g7 _ Kg7.out).mono ?_
        rintro e9 wbf3 ⟨rfl, hb⟩
        replace B0 := Lib.hid (B0.out.trans (hb.mono B0.out.size))
        replace Kx := Lib.hid (Kx.out.below hb Kx.out.lt)
        replace HO := Lib.hid (HO.out.below hb)
        go_wp2_with fail
        refine hK _ _ (heldwbf1.below hb heldwbf1.lt) (fun heldwbf3 => ?_)
        clear hK K heldwbf1
        (try simp only [Act.put, List.getElem_toArray, List.getElem_cons_succ, List.getElem_cons_zero, List.setIfInBounds_toArray, List.set_cons_zero, List.set_cons_succ])
        clear hb
        clear Kg7
        obtain ⟨Y, hY⟩ : ∃ Y, numP [x1, 0] = Y := ⟨_, rfl⟩
        have HY := Lib.hid (show puP (x1, x2, false) = [Y, x2] by rw [← hY]; rfl)
        try rw [hY]
        clear hY
        refine wpAnyH_ready (rs := [8]) (by kernel_rfl) (by simp) (AllReadyH.cons rfl (fun K hK => ?_) AllReadyH.nil)
        go_simp
        obtain ⟨g9, hg9⟩ : ∃ G, wbf3.heap.size = G := ⟨_, rfl⟩
        have Kg9 := Lib.hid (show Blk (wbf3.alloc (.cells #[.string Y, .string x2] 9)) g9 9 #[.string Y, .string x2] from Blk.new' wbf3 _ _ _ hg9 rfl)
        have hb := (Below.refl _ wbf3).alloc (Nat.le_refl _) (.cells #[.string Y, .string x2] 9)
        replace B0 := Lib.hid (B0.out.trans (hb.mono B0.out.size))
        rw [hg9]
        replace Kx := Lib.hid (Kx.out.below hb Kx.out.lt)
        replace HO := Lib.hid (HO.out.below hb)
        refine hK _ _ (heldwbf3.below hb heldwbf3.lt) (fun heldwbf5 => ?_)
        clear hK K heldwbf3
        (try simp only [Act.put, List.getElem_toArray, List.getElem_cons_succ, List.getElem_cons_zero, List.setIfInBounds_toArray, List.set_cons_zero, List.set_cons_succ])
        clear hb
        generalize hw2 : wbf3.alloc (.cells #[.string Y, .string x2] 9) = wbf5 at Kg9 B0 heldwbf5 Kx HO ⊢
        clear hw2 hg9
        obtain ⟨b1, n1_, c1, w8, hr, ho, hba, hkk⟩ := app_SK 48 wbf5 w0.heap.size u3 ([P, Q] ++ (pl.take k).flatMap puP) HO.out (some ⟨g9, 0, none⟩) 2 [Y, x2] (strs_blk (l := [Y, x2]) Kg9.out) (by have := LN.out; omega) (by simp) B0.out.size
        have HR1 := Lib.hid hr
        have HO2 := Lib.hid ho
        have HBA := Lib.hid hba
        have HKK := Lib.hid (hkk g5 _ heldwbf5 NE.out)
        clear hr ho hba hkk
        refine wpAnyH_ready (rs := [9]) (by kernel_rfl) (by simp) (AllReadyH.cons rfl (fun K hK => ?_) AllReadyH.nil)
        refine step_app_run rfl (.tmp 38) (.tmp 46) 48 rfl u3 (.slice (some ⟨g9, 0, none⟩) 2 2) (.slice b1 n1_ c1) w8 rfl rfl HR1.out ?_
        refine hK _ _ HKK.out (fun heldwbf6 => ?_)
        clear hK K heldwbf5
        (try simp only [Act.put, List.getElem_toArray, List.getElem_cons_succ, List.getElem_cons_zero, List.setIfInBounds_toArray, List.set_cons_zero, List.set_cons_succ])
        refine wpAnyH_take (i := 10) (v := .slice b1 n1_ c1) rfl (by kernel_rfl) (by kernel_rfl) (by kernel_rfl) (fun _ _ _ h => h) (Or.inl ⟨by rfl, fun W hW => by go_simp⟩) (by assumption) ?_
        (try simp only [Act.put, List.getElem_toArray, List.getElem_cons_succ, List.getElem_cons_zero, List.setIfInBounds_toArray, List.set_cons_zero, List.set_cons_succ])
        refine wpAnyH_done (by kernel_rfl) ?_ _
        replace Kx := Lib.hid (Kx.out.below HBA.out GZ.out)
        replace B0 := Lib.hid (B0.out.trans (HBA.out))
        have HO3 := Lib.hid (show OwnS w8 w0.heap.size (.slice b1 n1_ c1) ([P, Q] ++ (pl.take (k + 1)).flatMap puP) by rw [NX.out, HY.out]; exact HO2.out)
        go_wp2
        go_roundw
        case rel => exact ⟨k + 1, by omega, by go_num, HO3, Kx, B0⟩
        case measure => simp [intOf]; omega
      | true =>
        obtain ⟨g5, hg5⟩ : ∃ G, wr.heap.size = G := ⟨_, rfl⟩
        have K5 := Lib.hid (show Blk (wr.alloc (.cells #[.int .i64 x1, .string x2, .bool true] 99)) g5 99 #[.int .i64 x1, .string x2, .bool true] from Blk.new' wr _ _ _ hg5 rfl)
        have NE := Lib.hid (show u3.ownBlock ≠ some g5 from fun q => by have := (own_lt HO.out g5 q).2; omega)
        have Lg5 := Lib.hid (show w0.heap.size ≤ g5 from by rw [← hg5]; exact B0.out.size)
        replace HO := Lib.hid (HO.out.alloc (.cells #[.int .i64 x1, .string x2, .bool true] 99))
        replace Kx := Lib.hid (Kx.out.alloc (.cells #[.int .i64 x1, .string x2, .bool true] 99))
        replace B0 := Lib.hid (B0.out.alloc B0.out.size (.cells #[.int .i64 x1, .string x2, .bool true] 99))
        go_upto_region 5 with (fail)
        try rw [hg5]
        generalize hw : wr.alloc (.cells #[.int .i64 x1, .string x2, .bool true] 99) = w1 at K5 HO Kx B0 ⊢
        clear hw hg5 q0 q1 q2
        obtain ⟨m0, m1, m2⟩ := three K5.out
        go_upto_region 8 with (fail)
        clear m0 m1 m2
        refine wp_region_held_drew (S := fun W => Blk W g5 99 #[.int .i64 x1, .string x2, .bool true]) (by kernel_rfl) K5.out.drew (fun hHeld => ?_)
        replace HO := Lib.hid HO.out.drew
        replace Kx := Lib.hid Kx.out.drew
        replace B0 := Lib.hid B0.out.drew
        generalize w1.drew = w2 at HO Kx B0 hHeld ⊢
        clear K5
        refine wpAnyH_take (i := 0) (v := u3) rfl (by kernel_rfl) (by kernel_rfl) (by kernel_rfl) (fun _ _ _ h => h) (Or.inl ⟨by rfl, fun W hW => by go_simp⟩) (by assumption) ?_
        (try simp only [Act.put, List.getElem_toArray, List.getElem_cons_succ, List.getElem_cons_zero, List.setIfInBounds_toArray, List.set_cons_zero, List.set_cons_succ])
        refine wpAnyH_take (i := 1) (v := .pointer (some ⟨g5, 0, none⟩)) rfl (by kernel_rfl) (by kernel_rfl) (by kernel_rfl) (fun _ _ _ h => h) (Or.inl ⟨by rfl, fun W hW => by go_simp⟩) (by assumption) ?_
        (try simp only [Act.put, List.getElem_toArray, List.getElem_cons_succ, List.getElem_cons_zero, List.setIfInBounds_toArray, List.set_cons_zero, List.set_cons_succ])
        refine wpAnyH_take (i := 2) (v := .int .i64 x1) rfl (by kernel_rfl) (by kernel_rfl) (by kernel_rfl) (fun _ _ _ h => h) (Or.inl ⟨by rfl, fun W hW => (by obtain ⟨m0, m1, m2⟩ := three hW; go_simp)⟩) (by assumption) ?_
        (try simp only [Act.put, List.getElem_toArray, List.getElem_cons_succ, List.getElem_cons_zero, List.setIfInBounds_toArray, List.set_cons_zero, List.set_cons_succ])
        refine wpAnyH_take (i := 3) (v := .int .i64 1) rfl (by kernel_rfl) (by kernel_rfl) (by kernel_rfl) (fun _ _ _ h => h) (Or.inl ⟨by rfl, fun W hW => by go_simp⟩) (by assumption) ?_
        (try simp only [Act.put, List.getElem_toArray, List.getElem_cons_succ, List.getElem_cons_zero, List.setIfInBounds_toArray, List.set_cons_zero, List.set_cons_succ])
        refine wpAnyH_take (i := 6) (v := .pointer (some ⟨g5, 1, none⟩)) rfl (by kernel_rfl) (by kernel_rfl) (by kernel_rfl) (fun _ _ _ h => h) (Or.inl ⟨by rfl, fun W hW => by go_simp⟩) (by assumption) ?_
        (try simp only [Act.put, List.getElem_toArray, List.getElem_cons_succ, List.getElem_cons_zero, List.setIfInBounds_toArray, List.set_cons_zero, List.set_cons_succ])
        refine wpAnyH_take (i := 7) (v := .string x2) rfl (by kernel_rfl) (by kernel_rfl) (by kernel_rfl) (fun _ _ _ h => h) (Or.inl ⟨by rfl, fun W hW => (by obtain ⟨m0, m1, m2⟩ := three hW; go_simp)⟩) (by assumption) ?_
        (try simp only [Act.put, List.getElem_toArray, List.getElem_cons_succ, List.getElem_cons_zero, List.setIfInBounds_toArray, List.set_cons_zero, List.set_cons_succ])
        refine wpAnyH_ready (rs := [4]) (by kernel_rfl) (by simp) (AllReadyH.cons rfl (fun K hK => ?_) AllReadyH.nil)
        go_simp
        obtain ⟨g7, hg7⟩ : ∃ G, w2.heap.size = G := ⟨_, rfl⟩
        have Kg7 := Lib.hid (show Blk (w2.alloc (.cells #[.int .i64 x1, .int .i64 1] 3)) g7 3 #[.int .i64 x1, .int .i64 1] from Blk.new' w2 _ _ _ hg7 rfl)
        have hb := (Below.refl _ w2).alloc (Nat.le_refl _) (.cells #[.int .i64 x1, .int .i64 1] 3)
        replace B0 := Lib.hid (B0.out.trans (hb.mono B0.out.size))
        rw [hg7]
        replace Kx := Lib.hid (Kx.out.below hb Kx.out.lt)
        replace HO := Lib.hid (HO.out.below hb)
        refine hK _ _ (hHeld.below hb hHeld.lt) (fun heldwbt1 => ?_)
        clear hK K hHeld
        (try simp only [Act.put, List.getElem_toArray, List.getElem_cons_succ, List.getElem_cons_zero, List.setIfInBounds_toArray, List.set_cons_zero, List.set_cons_succ])
        clear hb
        generalize hw2 : w2.alloc (.cells #[.int .i64 x1, .int .i64 1] 3) = wbt1 at Kg7 B0 heldwbt1 Kx HO ⊢
        clear hw2 hg7
        refine wpAnyH_ready (rs := [5]) (by kernel_rfl) (by simp) (AllReadyH.cons rfl (fun K hK => ?_) AllReadyH.nil)
        go_simp
        refine (NU2.out x1 1 ⟨HOK1.out, by unfold i64Ok; omega⟩ g7 _ Kg7.out).mono ?_
        rintro e9 wbt3 ⟨rfl, hb⟩
        replace B0 := Lib.hid (B0.out.trans (hb.mono B0.out.size))
        replace Kx := Lib.hid (Kx.out.below hb Kx.out.lt)
        replace HO := Lib.hid (HO.out.below hb)
        go_wp2_with fail
        refine hK _ _ (heldwbt1.below hb heldwbt1.lt) (fun heldwbt3 => ?_)
        clear hK K heldwbt1
        (try simp only [Act.put, List.getElem_toArray, List.getElem_cons_succ, List.getElem_cons_zero, List.setIfInBounds_toArray, List.set_cons_zero, List.set_cons_succ])
        clear hb
        clear Kg7
        obtain ⟨Y, hY⟩ : ∃ Y, numP [x1, 1] = Y := ⟨_, rfl⟩
        have HY := Lib.hid (show puP (x1, x2, true) = [Y, x2] by rw [← hY]; rfl)
        try rw [hY]
        clear hY
        refine wpAnyH_ready (rs := [8]) (by kernel_rfl) (by simp) (AllReadyH.cons rfl (fun K hK => ?_) AllReadyH.nil)
        go_simp
        obtain ⟨g9, hg9⟩ : ∃ G, wbt3.heap.size = G := ⟨_, rfl⟩
        have Kg9 := Lib.hid (show Blk (wbt3.alloc (.cells #[.string Y, .string x2] 9)) g9 9 #[.string Y, .string x2] from Blk.new' wbt3 _ _ _ hg9 rfl)
        have hb := (Below.refl _ wbt3).alloc (Nat.le_refl _) (.cells #[.string Y, .string x2] 9)
        replace B0 := Lib.hid (B0.out.trans (hb.mono B0.out.size))
        rw [hg9]
        replace Kx := Lib.hid (Kx.out.below hb Kx.out.lt)
        replace HO := Lib.hid (HO.out.below hb)
        refine hK _ _ (heldwbt3.below hb heldwbt3.lt) (fun heldwbt5 => ?_)
        clear hK K heldwbt3
        (try simp only [Act.put, List.getElem_toArray, List.getElem_cons_succ, List.getElem_cons_zero, List.setIfInBounds_toArray, List.set_cons_zero, List.set_cons_succ])
        clear hb
        generalize hw2 : wbt3.alloc (.cells #[.string Y, .string x2] 9) = wbt5 at Kg9 B0 heldwbt5 Kx HO ⊢
        clear hw2 hg9
        obtain ⟨b1, n1_, c1, w8, hr, ho, hba, hkk⟩ := app_SK 48 wbt5 w0.heap.size u3 ([P, Q] ++ (pl.take k).flatMap puP) HO.out (some ⟨g9, 0, none⟩) 2 [Y, x2] (strs_blk (l := [Y, x2]) Kg9.out) (by have := LN.out; omega) (by simp) B0.out.size
        have HR1 := Lib.hid hr
        have HO2 := Lib.hid ho
        have HBA := Lib.hid hba
        have HKK := Lib.hid (hkk g5 _ heldwbt5 NE.out)
        clear hr ho hba hkk
        refine wpAnyH_ready (rs := [9]) (by kernel_rfl) (by simp) (AllReadyH.cons rfl (fun K hK => ?_) AllReadyH.nil)
        refine step_app_run rfl (.tmp 38) (.tmp 46) 48 rfl u3 (.slice (some ⟨g9, 0, none⟩) 2 2) (.slice b1 n1_ c1) w8 rfl rfl HR1.out ?_
        refine hK _ _ HKK.out (fun heldwbt6 => ?_)
        clear hK K heldwbt5
        (try simp only [Act.put, List.getElem_toArray, List.getElem_cons_succ, List.getElem_cons_zero, List.setIfInBounds_toArray, List.set_cons_zero, List.set_cons_succ])
        refine wpAnyH_take (i := 10) (v := .slice b1 n1_ c1) rfl (by kernel_rfl) (by kernel_rfl) (by kernel_rfl) (fun _ _ _ h => h) (Or.inl ⟨by rfl, fun W hW => by go_simp⟩) (by assumption) ?_
        (try simp only [Act.put, List.getElem_toArray, List.getElem_cons_succ, List.getElem_cons_zero, List.setIfInBounds_toArray, List.set_cons_zero, List.set_cons_succ])
        refine wpAnyH_done (by kernel_rfl) ?_ _
        replace Kx := Lib.hid (Kx.out.below HBA.out GZ.out)
        replace B0 := Lib.hid (B0.out.trans (HBA.out))
        have HO3 := Lib.hid (show OwnS w8 w0.heap.size (.slice b1 n1_ c1) ([P, Q] ++ (pl.take (k + 1)).flatMap puP) by rw [NX.out, HY.out]; exact HO2.out)
        go_wp2
        go_roundw
        case rel => exact ⟨k + 1, by omega, by go_num, HO3, Kx, B0⟩
        case measure => simp [intOf]; omega
    · have hkN : N = k := by omega
      subst hkN
      clear hlt hk
      have HO1 := Lib.hid (show OwnS wr w0.heap.size u3 ([P, Q] ++ pl.flatMap puP) by have h := HO.out; rw [← HN.out, List.take_length] at h; exact h)
      clear HO
      obtain ⟨ca0, cc0, cc1, cc2, cc3, cc4⟩ := epoch_cells HB.out Kx.out
      have HL1 := Lib.hid (show ([P, Q] ++ pl.flatMap puP).length ≤ 1000 by rw [List.length_append, puP_len, HN.out]; have := N1.out; simp; omega)
      go_wp2
      go_loopw [3, 8, 52] (fun u3 _ u52 wr => ∃ k : Nat, k ≤ M ∧ u52 = .int .i64 k ∧ Hid (OwnS wr w0.heap.size u3 (([P, Q] ++ pl.flatMap puP) ++ (rl.take k).map dgP)) ∧ Hid (Blk wr G 62 (recC [.int .i64 nu] B [.int .i64 lo, .int .i64 hi, .slice pa N pc, .slice ra M rc, .int .i64 se] S)) ∧ Hid (Below w0.heap.size w0 wr)) (fun _ _ u52 _ => (M - intOf u52).toNat)
      case atStart => exact ⟨0, by omega, rfl, Lib.hid (by simpa using HO1.out), Kx, B0⟩
      case round =>
        clear Kx B0 HO1 ca0 cc0 cc1 cc2 cc3 cc4
        obtain ⟨k, hk, rfl, HO, Kx, B0⟩ := hrel
        by_cases hlt : k < M
        · have t0 : decide ((k : Int) < (M : Int)) = true := decide_eq_true (by omega)
          have n2 := N2.out
          have wk : IntKind.i64.wrap ((k : Int) + 1) = (k : Int) + 1 := by rw [IntKind.wrap_i64]; omega
          obtain ⟨bq, fq, rfl, RQ⟩ := dg_at (HM.out.mono (BW.out.trans (B0.out.mono BW.out.size))).2 (k := k) (by rw [HMl.out]; exact hlt)
          have NX := Lib.hid (show ([P, Q] ++ pl.flatMap puP) ++ (rl.take (k + 1)).map dgP = (([P, Q] ++ pl.flatMap puP) ++ (rl.take k).map dgP) ++ [dgP (rl.getD k dg0)] by rw [take_stepm dgP rl dg0 k (by rw [HMl.out]; exact hlt)]; simp only [List.append_assoc])
          have LN := Lib.hid (show (([P, Q] ++ pl.flatMap puP) ++ (rl.take k).map dgP).length ≤ 1000000 by rw [List.length_append, List.length_map, List.length_take]; have := HL1.out; omega)
          obtain ⟨x, hx⟩ : ∃ y, rl.getD k dg0 = y := ⟨_, rfl⟩
          rw [hx] at RQ
          simp only [hx] at NX
          clear hx
          have HRQ := Lib.hid RQ
          clear RQ
          have SI := Lib.hid (show (Tryd.prog.info? 56).map (·.size) = some (x.1.map Hs.bv).length by rw [List.length_map, x.2.1]; kernel_rfl)
          have VI := Lib.hid (show (Tryd.prog.info? 56).map (·.size) = some (x.1.map Hs.bv).toArray.size by rw [List.size_toArray]; exact SI.out)
          have VS := Lib.hid (show (#[.int .u8 0, .int .u8 0, .int .u8 0, .int .u8 0, .int .u8 0, .int .u8 0, .int .u8 0, .int .u8 0, .int .u8 0, .int .u8 0, .int .u8 0, .int .u8 0, .int .u8 0, .int .u8 0, .int .u8 0, .int .u8 0] : Array Value).size = (x.1.map Hs.bv).toArray.size by simp [x.2.1])
          have VO := Lib.hid (show (x.1.map Hs.bv).toArray.all (·.oneCell') = true from Hs.bvs_one x.1)
          have K8 := Lib.hid (show Blk (wr.alloc (.cells #[.int .u8 0, .int .u8 0, .int .u8 0, .int .u8 0, .int .u8 0, .int .u8 0, .int .u8 0, .int .u8 0, .int .u8 0, .int .u8 0, .int .u8 0, .int .u8 0, .int .u8 0, .int .u8 0, .int .u8 0, .int .u8 0] 56)) wr.heap.size 56 #[.int .u8 0, .int .u8 0, .int .u8 0, .int .u8 0, .int .u8 0, .int .u8 0, .int .u8 0, .int .u8 0, .int .u8 0, .int .u8 0, .int .u8 0, .int .u8 0, .int .u8 0, .int .u8 0, .int .u8 0, .int .u8 0] from Blk.new' wr _ _ _ rfl rfl)
          have K8h := Lib.hid (show Hs.Blk (wr.alloc (.cells #[.int .u8 0, .int .u8 0, .int .u8 0, .int .u8 0, .int .u8 0, .int .u8 0, .int .u8 0, .int .u8 0, .int .u8 0, .int .u8 0, .int .u8 0, .int .u8 0, .int .u8 0, .int .u8 0, .int .u8 0, .int .u8 0] 56)) wr.heap.size 56 #[.int .u8 0, .int .u8 0, .int .u8 0, .int .u8 0, .int .u8 0, .int .u8 0, .int .u8 0, .int .u8 0, .int .u8 0, .int .u8 0, .int .u8 0, .int .u8 0, .int .u8 0, .int .u8 0, .int .u8 0, .int .u8 0] from K8.out)
          have k0 : (0 : Int) ≤ (k : Int) := by omega
          have kN : (k : Int) < (M : Int) := by omega
          go_upto_region 13 with (first | (with_reducible refine wpList_load_mid rfl 56 _ rfl bq (fq + k * 16) rfl (x.1.map Hs.bv) _ HRQ.out Tryd.underlying56 rfl SI.out ?_) | (with_reducible refine Hs.wpList_store_blk rfl 56 _ _ rfl wr.heap.size 56 _ (x.1.map Hs.bv).toArray rfl rfl K8h.out VI.out VS.out VO.out rfl ?_))
          obtain ⟨g8, hg8⟩ : ∃ G, wr.heap.size = G := ⟨_, rfl⟩
          rw [hg8] at K8
          try rw [hg8]
          have K9 := Lib.hid (show Blk ((wr.alloc (.cells #[.int .u8 0, .int .u8 0, .int .u8 0, .int .u8 0, .int .u8 0, .int .u8 0, .int .u8 0, .int .u8 0, .int .u8 0, .int .u8 0, .int .u8 0, .int .u8 0, .int .u8 0, .int .u8 0, .int .u8 0, .int .u8 0] 56)).setRow g8 (x.1.map Hs.bv).toArray) g8 56 (x.1.map Hs.bv).toArray from K8.out.row_ _)
          have hb := Lib.hid (show Below wr.heap.size wr ((wr.alloc (.cells #[.int .u8 0, .int .u8 0, .int .u8 0, .int .u8 0, .int .u8 0, .int .u8 0, .int .u8 0, .int .u8 0, .int .u8 0, .int .u8 0, .int .u8 0, .int .u8 0, .int .u8 0, .int .u8 0, .int .u8 0, .int .u8 0] 56)).setRow g8 (x.1.map Hs.bv).toArray) from below_setRow ((Below.refl _ wr).alloc (Nat.le_refl _) (.cells #[.int .u8 0, .int .u8 0, .int .u8 0, .int .u8 0, .int .u8 0, .int .u8 0, .int .u8 0, .int .u8 0, .int .u8 0, .int .u8 0, .int .u8 0, .int .u8 0, .int .u8 0, .int .u8 0, .int .u8 0, .int .u8 0] 56)) (by omega) _)
          replace HO := Lib.hid (HO.out.below hb.out)
          replace Kx := Lib.hid (Kx.out.below hb.out Kx.out.lt)
          replace B0 := Lib.hid (B0.out.trans (hb.out.mono B0.out.size))
          generalize hw : ((wr.alloc (.cells #[.int .u8 0, .int .u8 0, .int .u8 0, .int .u8 0, .int .u8 0, .int .u8 0, .int .u8 0, .int .u8 0, .int .u8 0, .int .u8 0, .int .u8 0, .int .u8 0, .int .u8 0, .int .u8 0, .int .u8 0, .int .u8 0] 56)).setRow g8 (x.1.map Hs.bv).toArray) = w1 at K9 HO Kx B0 ⊢
          clear hb hw hg8 K8 K8h
          have RG := range_of (A := []) (M := x.1.map Hs.bv) (Z := []) (W := w1) (g := g8) (t := 56) (by simpa using K9.out)
          have hcv := CD.out x g8 0 w1 RG
          clear RG
          obtain ⟨Y, hY⟩ : ∃ Y, dgP x = Y := ⟨_, rfl⟩
          rw [hY] at hcv
          simp only [hY] at NX
          clear hY
          obtain ⟨b1, n1_, c1, w8, hr, ho, hba, -⟩ := app_SK 48 (w1.alloc (.cells #[.string Y] 9)) w0.heap.size u3 (([P, Q] ++ pl.flatMap puP) ++ (rl.take k).map dgP) (HO.out.alloc _) (some ⟨w1.heap.size, 0, none⟩) 1 [Y] (rows_one (enc := encT) (e := 9) w1 Y) (by have := LN.out; omega) (by simp) (by rw [World.size_alloc]; have := B0.out.size; omega)
          have HR1 := Lib.hid hr
          have HO2 := Lib.hid ho
          have HBA := Lib.hid (show Below w0.heap.size w1 w8 from ((Below.refl _ w1).alloc B0.out.size _).trans hba)
          clear hr ho hba
          go_wp2_with (at_builtin; refine wpList_app_run rfl _ _ 48 48 rfl _ _ _ w8 rfl rfl HR1.out ?_)
          replace Kx := Lib.hid (Kx.out.below HBA.out GZ.out)
          replace B0 := Lib.hid (B0.out.trans HBA.out)
          have HO3 := Lib.hid (show OwnS w8 w0.heap.size (.slice b1 n1_ c1) (([P, Q] ++ pl.flatMap puP) ++ (rl.take (k + 1)).map dgP) by rw [NX.out]; exact HO2.out)
          go_roundw
          case rel => exact ⟨k + 1, by omega, by go_num, HO3, Kx, B0⟩
          case measure => simp [intOf]; omega
        · have hkN : M = k := by omega
          subst hkN
          clear hlt hk
          have HO1 := Lib.hid (show OwnS wr w0.heap.size u3 (([P, Q] ++ pl.flatMap puP) ++ rl.map dgP) by have h := HO.out; rw [← HMl.out, List.take_length] at h; exact h)
          clear HO
          obtain ⟨a9, c9, rfl, -, h9⟩ := OwnR.view encT_len HO1.out
          have H9 := Lib.hid h9
          clear h9 HO1
          go_wp2
          go_ret
          exact ⟨⟨_, _, rfl, H9.out⟩, BW.out.trans (B0.out.mono BW.out.size)⟩
end Go.Proofs.YtcdcnklfcmoiiaaDoor
