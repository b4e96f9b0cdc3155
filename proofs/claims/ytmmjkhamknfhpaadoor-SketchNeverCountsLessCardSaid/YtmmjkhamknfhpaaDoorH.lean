/- Contracts: Count of both. -/
import Derived.Test.YtmmjkhamknfhpaaDoorG
namespace Go.Proofs.YtmmjkhamknfhpaaDoor
set_option linter.unusedVariables false
set_option linter.unusedSimpArgs false
open Go.RowKit Go.Shelf
attribute [local go_sem] Oper.semAt_some
/-- What lies in memory between two rounds of Count. -/
structure MidN (w0 : World) (Bp Bs Bk : Nat) (box : Array Value) (key : ByteArray) (f : Nat → Int) (k : Nat) (X : World) : Prop where
  bp : Blk X Bp 3 #[.int .i64 (f k)]
  bs : Blk X Bs 24 box
  bk : Blk X Bk 9 #[.string key]
  bw : Below w0.heap.size w0 X
section
variable {w0 X : World} {Bp Bs Bk : Nat} {box : Array Value} {key : ByteArray} {f : Nat → Int} {k : Nat}
theorem Blk.put {X : World} {g : Nat} {t : TypeId} {cs : Array Value} (h : Blk X g t cs) (l : Nat) (o : Obj) (hl : g ≠ l) : Blk (X.putObj l o) g t cs := (World.putObj_heap_other hl).trans h
theorem MidN.put (h : MidN w0 Bp Bs Bk box key f k X) (l : Nat) (o : Obj) (h1 : Bp ≠ l) (h2 : Bs ≠ l) (h3 : Bk ≠ l) (h4 : w0.heap.size ≤ l) : MidN w0 Bp Bs Bk box key f k (X.putObj l o) :=
  ⟨h.bp.put l o h1, h.bs.put l o h2, h.bk.put l o h3, h.bw.trans ⟨rfl, rfl, rfl, by simp, fun k hk => World.putObj_heap_other (by omega)⟩⟩
theorem MidN.alloc (h : MidN w0 Bp Bs Bk box key f k X) (o : Obj) : MidN w0 Bp Bs Bk box key f k (X.alloc o) := ⟨h.bp.alloc o, h.bs.alloc o, h.bk.alloc o, h.bw.alloc h.bw.size o⟩
theorem MidN.below {X' : World} (h : MidN w0 Bp Bs Bk box key f k X) (hb : Below X.heap.size X X') : MidN w0 Bp Bs Bk box key f k X' := ⟨h.bp.below hb h.bp.lt, h.bs.below hb h.bs.lt, h.bk.below hb h.bk.lt, bt h.bw hb⟩
theorem MidN.setP (h : MidN w0 Bp Bs Bk box key f k X) (y : Int) (hy : y = f (k + 1)) (h1 : Bp ≠ Bs) (h2 : Bp ≠ Bk) (h4 : w0.heap.size ≤ Bp) : MidN w0 Bp Bs Bk box key f (k + 1) (X.setCell ⟨Bp, 0, none⟩ (.int .i64 y)) := by
  subst hy
  exact ⟨h.bp.set_ 0 _, h.bs.far (Ne.symm h1) _, h.bk.far (Ne.symm h2) _, h.bw.setCell h4 _⟩
end
set_option maxRecDepth 100000 in
set_option maxHeartbeats 1000000 in
theorem count_any (W : Nat) (S A : Int) (a : Option Addr) (cap : Nat) (l : List Int) (key : ByteArray) (w : World) (hp : IntsA w a l) (hl : l.length = 4 * W) (hk : key.size ≤ 400) (hW : ∃ k : Nat, k ≤ 12 ∧ W = 2 ^ k) (hla : LaidC w) :
    Calls Tryd.prog 15 #[.agg #[.int .i64 W, .int .i64 S, .int .i64 A, .slice a l.length cap], .string key] w fun e w' => e = .returned (.int .i64 (cnt W (pl key) l)) ∧ Below w.heap.size w w' := by
  have W0 : 0 < W := by obtain ⟨k, -, h2⟩ := hW; rw [h2]; exact Nat.two_pow_pos k
  obtain ⟨b, off, rfl, -⟩ := hp 0 (by omega)
  have HP := Lib.hid hp; have LA := Lib.hid hla; have HL := Lib.hid hl
  have HC := Lib.hid (show cnt W (pl key) l = cntK W (pl key) l 4 from rfl)
  have hIL : ∀ k, k < 4 → idx W (pl key) k < l.length := fun k h => by rw [hl]; exact idx_lt _ W0 h
  have hread : ∀ k, k < 4 → ∀ X, Below w.heap.size w X → X.cell? ⟨b, off + idx W (pl key) k, none⟩ = some (.int .i64 (l.getD (idx W (pl key) k) 0)) := fun k hk X hX => by
    obtain ⟨b', off', e, h1⟩ := (hp.mono hX) _ (hIL k hk)
    simp only [Option.some.injEq, Addr.mk.injEq, and_true] at e
    obtain ⟨rfl, rfl⟩ := e
    exact h1
  have RD := Lib.hid hread; have HW := Lib.hid hW
  obtain ⟨n, hn⟩ : ∃ n, l.length = n := ⟨_, rfl⟩
  rw [hn] at HL ⊢
  clear hp hla hl hIL hread hW W0 hn
  refine (callsIn_wide (n := 4)).1 ?_
  refine callsIn_of_wp_marks Tryd.func15 rfl trivial ?_ rfl
  simp only [Tryd.ntmps15, List.size_toArray, List.length_cons, List.length_nil, Nat.reduceAdd, Nat.reduceSub, Array.replicate_succ, Array.replicate_zero, List.push_toArray, List.append_toArray, List.nil_append, List.cons_append]
  gi_wp2_with (gi_at_call 32; fail)
  refine ⟨trivial, ?_⟩
  refine (callsIn_wide.2 (cells_mk _ _ _ _ _ _ _ _)).mono ?_
  rintro e w2 ⟨rfl, hw2⟩
  have M0 : MidN w (w.heap.size + 1) (w.heap.size + 1 + 1) (w.heap.size + 1 + 1 + 1) #[.int .i64 W, .int .i64 S, .int .i64 A, .slice (some ⟨b, off, none⟩) n cap] key (cntK W (pl key) l) 0 w2 := by
    rw [hw2]
    exact ⟨((Blk.new' _ _ _ _ (World.size_alloc _ _) rfl).alloc _).alloc _, (Blk.new' _ _ _ _ (by simp) rfl).alloc _, Blk.new' _ _ _ _ (by simp) rfl, by (repeat' (first | (with_reducible exact Below.refl _ _) | (with_reducible assumption) | (with_reducible refine Below.alloc ?_ ?_ _) | (with_reducible refine Below.drew ?_) | (with_reducible refine below_dn ?_) | (with_reducible refine Below.setCell ?_ ?_ _) | (with_reducible exact Nat.le_refl _) | omega | (simp only [World.size_alloc, World.size_setCell, World.size_drew]; omega) | (simp; omega) | (simp; done)))⟩
  have z2 : w2.heap.size = w.heap.size + 4 := by rw [hw2]; simp
  clear hw2
  have Z2 := Lib.hid z2; clear z2
  have MH := Lib.hid M0; clear M0
  gi_wp2
  refine range_run rfl (by omega) (gf := 36) (lb := #[.pointer (some ⟨w.heap.size + 1 + 1, 0, none⟩), .pointer (some ⟨w.heap.size + 1 + 1 + 1, 0, none⟩)]) rfl trivial (enters_of Tryd.func36 (by kernel_rfl) rfl)
    (MidN w (w.heap.size + 1) (w.heap.size + 1 + 1) (w.heap.size + 1 + 1 + 1) #[.int .i64 W, .int .i64 S, .int .i64 A, .slice (some ⟨b, off, none⟩) n cap] key (cntK W (pl key) l)) (fun _ y k => k < 4 ∧ y = l.getD (idx W (pl key) k) 0) (fun _ _ k => k + 1) 0 (fun k => k = 4)
    (fun s X j o o' hs hl hk ho => hs.put j o' (by have := Z2.out; omega) (by have := Z2.out; omega) (by have := Z2.out; omega) (by have := Z2.out; omega))
    (fun o o' => (MH.out.alloc o).alloc o')
    (cells_in 3 (by omega) (w.heap.size + 1 + 1) (w.heap.size + 1 + 1 + 1) b off n cap W key _ _ hk HW.out HL.out
      (fun k X h => ⟨h.bs.cell 0, h.bs.cell 3, h.bk.cell 0, LA.out.mono h.bw, fun hk => ⟨_, RD.out k hk X h.bw, hk, rfl⟩⟩) (fun k X X' h hb => h.below hb))
    ?a1 ?assign ?body ?done
  case assign =>
    intro l x y W K hK
    gi_wp2
    exact hK
  case body =>
    rintro j x y k X ⟨hk4, hy⟩ M
    have cp : X.cell? ⟨w.heap.size + 1, 0, none⟩ = some (.int .i64 (cntK W (pl key) l k)) := M.bp.cell 0
    have fp := M.bp.frozen 0
    have hs : min (cntK W (pl key) l k) y = cntK W (pl key) l (k + 1) := by rw [hy]; rfl
    have HS := Lib.hid hs
    have MM := Lib.hid M
    clear hs hy M
    gi_wp2
    exact ⟨KeepsOthers.setCell _ _ _, MM.out.setP _ HS.out (by omega) (by omega) (by omega)⟩
  case done =>
    rintro D k X hD hfin M hK
    have hb9 := (M.put D (.deferred none) (by have := Z2.out; omega) (by have := Z2.out; omega) (by have := Z2.out; omega) (by have := Z2.out; omega)).bw
    have cp : X.cell? ⟨w.heap.size + 1, 0, none⟩ = some (.int .i64 (cntK W (pl key) l k)) := M.bp.cell 0
    rw [show k = 4 from hfin, ← HC.out] at cp
    clear M
    gi_wp2
    refine ⟨by simp, .inl ⟨_, _, rfl, run_takeDeferred hK, ?_⟩⟩
    exact ⟨_, results_tmp rfl _ _ _, rfl, hb9⟩
end Go.Proofs.YtmmjkhamknfhpaaDoor
