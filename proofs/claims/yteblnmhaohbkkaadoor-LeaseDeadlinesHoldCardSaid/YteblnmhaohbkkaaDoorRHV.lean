import Derived.Test.YteblnmhaohbkkaaDoorRP2
import Derived.ProofKit
import Derived.Carry
import Derived.LaidMore
import Derived.OpenShut
import Derived.Stop.Joined
import Derived.Lib.LaidU8
namespace Go.Proofs.YteblnmhaohbkkaaDoor
set_option linter.unusedVariables false
set_option linter.unusedSimpArgs false
set_option linter.unusedSectionVars false
namespace Hs
open Go.ChangeShapes Go.WideShapes Go.ChangeAt Go.RowKit
set_option maxRecDepth 100000 in
theorem own : ownKnob Tryd.prog.godebug = none := by kernel_rfl
set_option maxRecDepth 100000 in
theorem var_ints {P : Program} {W : World} {name : String} {g t e n : Nat} {k : IntKind} {zs : List Int} (h : Lib.VarReads P W name (.agg (zs.map fun z => .lit (.int k z)))) (hg : P.globalNamed name = some g) (ht : (P.globals[g]?).map (·.type) = some t)
    (hu : P.underlying t = some (.array n e)) (he : P.underlying e = some (.int k)) (hc : P.cellsOf e = 1) (i : Nat) (hi : i < n) : W.cell? ⟨g, i, none⟩ = some (.int k (zs.getD i 0)) := by
  obtain ⟨g', t', cs, fuel, p, hg', hty, hvar, hd⟩ := h
  obtain rfl := Option.some.inj (hg.symm.trans hg')
  obtain rfl := Option.some.inj (ht.symm.trans hty)
  obtain ⟨f', d, q, hds, hd'⟩ := Lib.array_elem hu hd i hi
  rw [hc, Nat.mul_one] at hd'
  obtain ⟨k', e1, e2, _⟩ := DataW.trod_int he hd'
  have hz : (zs.map fun z => (DataW.lit (.int k z) : DataW Unit))[i]? = some d := hds
  rw [List.getElem?_map] at hz
  cases hq : zs[i]? with
  | none => rw [hq] at hz; cases hz
  | some z =>
    rw [hq] at hz
    have hzd : d = .lit (.int k z) := (Option.some.inj hz).symm
    have hk : k' = z := by
      have := congrArg Prod.fst e2
      rw [hzd] at this
      simpa using this.symm
    subst hk
    have hcell := World.var?_cell hg hvar i
    rw [hcell, List.getD_eq_getElem?_getD, hq]
    have : (cs.toList.drop i)[0]? = some (.int k k') := by
      have h1 : ((cs.toList.drop i).take 1)[0]? = some (.int k k') := by rw [e1]; rfl
      rw [List.getElem?_take] at h1
      simpa using h1
    rw [List.getElem?_drop] at this
    simpa using this
set_option maxRecDepth 100000 in
theorem zRounds_is (i : Nat) : (KS.map fun (n : Nat) => (n : Int)).getD i 0 = (KS.getD i 0 : Int) := by
  rw [List.getD_eq_getElem?_getD, List.getD_eq_getElem?_getD, List.getElem?_map]
  cases KS[i]? <;> rfl
set_option maxRecDepth 100000 in
theorem laidOut : laidOutB Tryd.prog = true := by kernel_rfl
section
variable {H : Type} {enc : TypeId × Value → H} {P : Program}
set_option maxRecDepth 100000 in
theorem trodAll_stays (hl : laidOutB P = true) {W W' : World} (hb : Below W.heap.size W W') : ∀ {ts : List TypeId} {vs : List Value} {ds : List (DataW H)} {ps : List MemPlace},
    (∀ t ∈ ts, P.readableRec t = true ∧ t < P.types.size) → DataW.TrodAll enc P W 0 (fun _ => true) true ts vs ds ps → DataW.TrodAll enc P W' 0 (fun b => decide (b < W.heap.size)) true ts vs ds ps
  | [], [], [], _, _, h => h
  | t :: ts, v :: vs, d :: ds, ps, ht, ⟨p, q, h1, h2, e⟩ =>
    ⟨p, q, Below.trod hl (ht t (by simp)).1 (ht t (by simp)).2 h1 hb (by obtain ⟨m, hm⟩ := h1; exact DataW.trod_lt m _ _ _ hm), trodAll_stays hl hb (fun t' h' => ht t' (by simp [h'])) h2, e⟩
set_option maxRecDepth 100000 in
theorem law_post {fn : Func} {s : ChangeSpec} {W W' : World} {args : Array Value} {ds gs : List (DataW H)} {before : List MemPlace} (hl : laidOutB P = true)
    (hp : ∀ t ∈ fn.params.toList, P.readableRec t = true ∧ t < P.types.size) (hres : fn.resultTypes = #[4]) (h4 : P.underlying 4 = some .bool) (hv : s.vars = [])
    (hs : s.fn H (ds ++ gs) = { results := [.lit (.bool true)], args := ds })
    (hvs : (s.fn H (ds ++ gs)).vars = [])
    (hW : DataW.Whole enc P fn.params.toList s.vars false W args.toList ds gs before) (hb : Below W.heap.size W W') :
    s.post enc P fn false true false false W args (.bool true) W' := by
  have hW' := hW
  obtain ⟨p, q, hA, hV, rfl, hfz, hnd⟩ := hW
  refine ⟨ds, gs, _, [], p, [], hW', ?_, ?_, ?_, hb.frame _, fun h => by cases h⟩
  · rw [hres, hs]
    exact trodAll_mk1 (shut_bool h4 true)
  · rw [hs]
    exact trodAll_stays hl hb hp hA
  · rw [hv, hvs]; rfl
end
end Hs
end Go.Proofs.YteblnmhaohbkkaaDoor
