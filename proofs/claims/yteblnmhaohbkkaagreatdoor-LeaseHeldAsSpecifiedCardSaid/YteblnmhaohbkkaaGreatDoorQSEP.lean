/- Contracts: the parts of an epoch. -/
import Derived.Test.YteblnmhaohbkkaaGreatDoorQSPT
import Derived.Test.YteblnmhaohbkkaaGreatDoorQSZB
namespace Go.Proofs.YteblnmhaohbkkaaGreatDoor
set_option linter.unusedVariables false
set_option linter.unusedSimpArgs false
open Go.RowKit Go.Sort
/-- A purge: kind, what, soft. -/
abbrev Pu := Int × ByteArray × Bool
def encPu (x : Pu) : List Value := [.int .i64 x.1, .string x.2.1, .bool x.2.2]
abbrev pu0 : Pu := (0, ⟨#[]⟩, false)
/-- A digest. -/
abbrev Dg := { D : List Nat // D.length = 16 ∧ ∀ x ∈ D, x < 256 }
def encDg (x : Dg) : List Value := x.1.map Hs.bv
def dg0 : Dg := ⟨List.replicate 16 0, by simp, fun x hx => by rw [List.eq_of_mem_replicate hx]; omega⟩
theorem encPu_len (x : Pu) : (encPu x).length = 3 := rfl
theorem encDg_len (x : Dg) : (encDg x).length = 16 := by unfold encDg; rw [List.length_map]; exact x.2.1
def EpM (W : World) (pa : Option Addr) (pl : List Pu) (ra : Option Addr) (rl : List Dg) : Prop := RowsA 3 encPu W pa pl ∧ RowsA 16 encDg W ra rl
theorem EpM.mono {W W' : World} {pa ra : Option Addr} {pl : List Pu} {rl : List Dg} (h : EpM W pa pl ra rl) (hb : Below W.heap.size W W') : EpM W' pa pl ra rl := ⟨h.1.mono hb, h.2.mono hb⟩
def EpOk (pl : List Pu) (rl : List Dg) : Prop := pl.length ≤ 10 ∧ rl.length ≤ 10 ∧ ∀ x ∈ pl, i64Ok x.1 ∧ x.2.1.size ≤ 200
def puP (x : Pu) : List ByteArray := [numP [x.1, if x.2.2 then 1 else 0], x.2.1]
def dgP (x : Dg) : ByteArray := Hs.strB x.1
def epochP (nu lo hi se : Int) (B : List Nat) (pl : List Pu) (rl : List Dg) : List ByteArray := [numP [nu, lo, hi, se, pl.length], Hs.strB B] ++ pl.flatMap puP ++ rl.map dgP
theorem puP_len (l : List Pu) : (l.flatMap puP).length = 2 * l.length := by
  induction l with
  | nil => rfl
  | cons x l ih => simp only [List.flatMap_cons, List.length_append, ih, List.length_cons]; simp [puP]; omega
theorem epochP_len (nu lo hi se : Int) (B : List Nat) (pl : List Pu) (rl : List Dg) : (epochP nu lo hi se B pl rl).length = 2 + 2 * pl.length + rl.length := by
  unfold epochP
  simp only [List.length_append, List.length_map, puP_len, List.length_cons, List.length_nil]
theorem epochP_le {nu lo hi se : Int} {B : List Nat} {pl : List Pu} {rl : List Dg} (hB : B.length = 16) (hnu : i64Ok nu) (hlo : i64Ok lo) (hhi : i64Ok hi) (hse : i64Ok se) (hT : EpOk pl rl) : ∀ x ∈ epochP nu lo hi se B pl rl, x.size ≤ 400 := fun x hx => by
  unfold epochP at hx
  simp only [List.mem_append, List.mem_cons, List.not_mem_nil, or_false, List.mem_flatMap, List.mem_map] at hx
  rcases hx with ((rfl | rfl) | ⟨y, hy, hx⟩) | ⟨y, hy, rfl⟩
  · refine numP_le _ (fun z hz => ?_) (by simp)
    simp only [List.mem_cons, List.not_mem_nil, or_false] at hz
    rcases hz with rfl | rfl | rfl | rfl | rfl
    · assumption
    · assumption
    · assumption
    · assumption
    · have := hT.1; unfold i64Ok; omega
  · rw [Hs.strB_size, hB]; omega
  · unfold puP at hx
    simp only [List.mem_cons, List.not_mem_nil, or_false] at hx
    rcases hx with rfl | rfl
    · refine numP_le _ (fun z hz => ?_) (by simp)
      simp only [List.mem_cons, List.not_mem_nil, or_false] at hz
      rcases hz with rfl | rfl
      · exact (hT.2.2 y hy).1
      · unfold i64Ok; split <;> omega
    · have := (hT.2.2 y hy).2; omega
  · unfold dgP; rw [Hs.strB_size, y.2.1]; omega
theorem pu_at {W : World} {a : Option Addr} {l : List Pu} (h : RowsA 3 encPu W a l) {k : Nat} (hk : k < l.length) : ∃ b off, a = some ⟨b, off, none⟩ ∧ W.cell? ⟨b, off + k * 3, none⟩ = some (.int .i64 (l.getD k pu0).1) ∧ W.cell? ⟨b, off + k * 3 + 1, none⟩ = some (.string (l.getD k pu0).2.1) ∧ W.cell? ⟨b, off + k * 3 + 2, none⟩ = some (.bool (l.getD k pu0).2.2) := by
  obtain ⟨b, off, e, q⟩ := h k (l.getD k pu0) (by rw [List.getD_eq_getElem?_getD, List.getElem?_eq_getElem hk]; rfl)
  exact ⟨b, off, e, q 0 _ rfl, q 1 _ rfl, q 2 _ rfl⟩
theorem dg_at {W : World} {a : Option Addr} {l : List Dg} (h : RowsA 16 encDg W a l) {k : Nat} (hk : k < l.length) : ∃ b off, a = some ⟨b, off, none⟩ ∧ W.rangeAt b (off + k * 16) ((l.getD k dg0).1.map Hs.bv) := by
  obtain ⟨b, off, e, q⟩ := h k (l.getD k dg0) (by rw [List.getD_eq_getElem?_getD, List.getElem?_eq_getElem hk]; rfl)
  exact ⟨b, off, e, q⟩
theorem own_two {W : World} {g Z : Nat} {x y : ByteArray} (h : Blk W g 9 #[.string x, .string y]) (hz : Z ≤ g) : OwnS W Z (.slice (some ⟨g, 0, none⟩) 2 2) [x, y] :=
  ⟨rfl, .inr ⟨g, 2, #[.string x, .string y], rfl, hz, h, Nat.le_refl _, by decide, rfl, rfl⟩⟩
theorem app_SK (ty : TypeId) (w : World) (B : Nat) (v : Value) (l : List ByteArray) (hown : OwnS w B v l) (a : Option Addr) (cap : Nat) (m : List ByteArray) (hm : StR w a m) (hl : l.length ≤ 1000000000) (hml : m.length ≤ 1000000000) (hB : B ≤ w.heap.size) :
    ∃ b n c w', (Builtin.append_ #[93, 93] ty #[v, .slice a m.length cap]).run Tryz.prog w = .ok (.slice b n c) w' ∧ OwnS w' B (.slice b n c) (l ++ m) ∧ Below B w w' ∧ ∀ g o, w.heap[g]? = some o → v.ownBlock ≠ some g → w'.heap[g]? = some o :=
  run_app_rowsK Tryz.underlying93 Tryz.underlying93 infoT rfl (by decide) (by decide) encT_len encT_one w B v l hown a cap m hm hl hml hB
theorem take_step {α β : Type} (f : α → List β) (l : List α) (d : α) (k : Nat) (h : k < l.length) : (l.take (k + 1)).flatMap f = (l.take k).flatMap f ++ f (l.getD k d) := by
  rw [List.take_add_one, List.flatMap_append, List.getElem?_eq_getElem h, List.getD_eq_getElem?_getD, List.getElem?_eq_getElem h]
  simp
theorem take_stepm {α β : Type} (f : α → β) (l : List α) (d : α) (k : Nat) (h : k < l.length) : (l.take (k + 1)).map f = (l.take k).map f ++ [f (l.getD k d)] := by
  rw [List.take_add_one, List.map_append, List.getElem?_eq_getElem h, List.getD_eq_getElem?_getD, List.getElem?_eq_getElem h]
  simp
theorem epoch_cells {X : World} {g : Nat} {t : TypeId} {nu lo hi se : Int} {B S : List Nat} {vpu vre : Value} (hB : B.length = 16) (h : Blk X g t (recC [.int .i64 nu] B [.int .i64 lo, .int .i64 hi, vpu, vre, .int .i64 se] S)) : X.cell? ⟨g, 0, none⟩ = some (.int .i64 nu) ∧ X.cell? ⟨g, 17, none⟩ = some (.int .i64 lo) ∧ X.cell? ⟨g, 18, none⟩ = some (.int .i64 hi) ∧ X.cell? ⟨g, 19, none⟩ = some (vpu) ∧ X.cell? ⟨g, 20, none⟩ = some (vre) ∧ X.cell? ⟨g, 21, none⟩ = some (.int .i64 se) := ⟨rec_at h (i := 0) rfl, rec_on h hB (j := 0) rfl, rec_on h hB (j := 1) rfl, rec_on h hB (j := 2) rfl, rec_on h hB (j := 3) rfl, rec_on h hB (j := 4) rfl⟩
end Go.Proofs.YteblnmhaohbkkaaGreatDoor
