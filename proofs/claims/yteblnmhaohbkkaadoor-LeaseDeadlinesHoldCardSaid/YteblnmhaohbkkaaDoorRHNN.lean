import Derived.Test.YteblnmhaohbkkaaDoorRP4
namespace Go.Proofs.YteblnmhaohbkkaaDoor
set_option linter.unusedVariables false
set_option linter.unusedSimpArgs false
set_option linter.unusedSectionVars false
namespace Hs
open Go.RowKit
structure LaidK (W : World) : Prop where
  ks : ∀ k, k < 64 → W.cell? ⟨1, k, none⟩ = some (wv (KS.getD k 0))
set_option maxRecDepth 100000 in
theorem LaidK.mono {W W' : World} (h : LaidK W) (hb : Below W.heap.size W W') : LaidK W' := ⟨fun k hk => keep (h.ks k hk) hb⟩
def plusL (x y : List Nat) : Nat → List Nat
  | 0 => x
  | j + 1 => (plusL x y j).set j (add32 (x.getD j 0) (y.getD j 0))
set_option maxRecDepth 100000 in
theorem OwnB.bytes {W : World} {B n cap : Nat} {a : Option Addr} {l : List Nat} (h : OwnB W B (.slice a n cap) l) (hb : ∀ x ∈ l, x < 256) : BytesA W a l := by
  obtain ⟨a', c', e, -, y⟩ := h.view hb
  injection e with e1
  subst e1
  exact y
set_option maxRecDepth 100000 in
theorem OwnB.rowfar {W : World} {B g : Nat} {v : Value} {l : List Nat} (h : OwnB W B v l) (hg : g < B) (cs : Array Value) : OwnB (W.setRow g cs) B v l :=
  own_keep h fun k h1 h2 => setRow_other W g k cs (by omega)
set_option maxRecDepth 100000 in
theorem OwnB.far {W : World} {B : Nat} {v : Value} {l : List Nat} (h : OwnB W B v l) {p : Addr} (hp : p.block < B) (u : Value) : OwnB (W.setCell p u) B v l :=
  own_keep h fun k h1 h2 => Below.heap_setCell W p u k (by omega)
end Hs
end Go.Proofs.YteblnmhaohbkkaaDoor
