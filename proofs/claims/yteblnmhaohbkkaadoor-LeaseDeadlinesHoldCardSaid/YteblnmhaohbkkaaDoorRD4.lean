import Derived.Test.YteblnmhaohbkkaaDoorRDlA
import Derived.Test.YteblnmhaohbkkaaDoorRLeY
import Derived.Test.YteblnmhaohbkkaaDoorRD1
import Derived.Test.YteblnmhaohbkkaaDoorRLeW
import Derived.Test.YteblnmhaohbkkaaDoorRA7
namespace Go.Proofs.YteblnmhaohbkkaaDoor
set_option linter.unusedVariables false
set_option linter.unusedSimpArgs false
set_option linter.unusedSectionVars false
section
namespace Am
open Go Le
set_option maxRecDepth 100000
section
variable [Base] {S : Nat → Prop} {F : Nat → Option Cn} {w : World}
theorem LR.inv {x : AV} {xs : List AV} {args : List Value} (h : LR S F w (x :: xs) args) : ∃ v vs, args = v :: vs ∧ VR S F w x v ∧ LR S F w xs vs := by
  cases args with
  | nil => exact absurd h.1 (by simp)
  | cons v vs => exact ⟨v, vs, rfl, h.2 0 x v rfl rfl, by have := h.1; simp at this; exact this, fun i c u h1 h2 => h.2 (i + 1) c u h1 h2⟩
theorem LR.inv0 {args : List Value} (h : LR S F w [] args) : args = [] := by
  have := h.1
  simp at this
  exact List.length_eq_zero_iff.1 this.symm
theorem LR.vals : ∀ {vs args : List Value}, LR S F w (vs.map .v) args → args = vs
  | [], args, h => LR.inv0 h
  | v :: vs, args, h => by
    obtain ⟨u, us, rfl, h1, h2⟩ := LR.inv h
    rw [h1.v_eq, LR.vals h2]
theorem VR.aggv {vs : List Value} {x : Value} (h : VR S F w (.agg (vs.map .v)) x) : x = .agg vs.toArray := by
  obtain ⟨us, rfl, q⟩ := h.agg_eq
  rw [LR.vals q]
theorem VR.ofAgg (vs : List Value) : VR S F w (.agg (vs.map .v)) (.agg vs.toArray) := (LR.plain vs).agg
theorem VR.tup' {cs : List AV} {vs : List Value} (h : LR S F w cs vs) : VR S F w (.tup cs) (.tuple vs.toArray) := .tup cs vs h.1 h.2
abbrev gsA (l : List Gr) : AV := .sl (l.map fun x => vrow (encG x))
theorem grants_at {la mo : Int} {l : List Gr} {v : Value} (h : VR S F0 w (.agg [iv la, iv mo, gsA l]) v) : ∃ a c, v = .agg #[.int .i64 la, .int .i64 mo, .slice a l.length c] ∧ GrA w a l := by
  obtain ⟨us, rfl, q⟩ := h.agg_eq
  obtain ⟨v1, r1, rfl, h1, q1⟩ := LR.inv q
  obtain ⟨v2, r2, rfl, h2, q2⟩ := LR.inv q1
  obtain ⟨v3, r3, rfl, h3, q3⟩ := LR.inv q2
  obtain ⟨a, c, rfl, -, hr, -⟩ := VR.rows (enc := encG) (by decide) encG_len h3
  rw [LR.inv0 q3, h1.v_eq, h2.v_eq]
  exact ⟨a, c, rfl, hr⟩
theorem new_ec (mo : Int) (h : 1 ≤ mo ∧ mo ≤ 3600000) : EC Tryd.prog 8 [] [iv mo] [] (.tup [.agg [iv 0, iv mo, .v (.slice none 0 0)], iv 0]) :=
  EC.ofBelow ⟨_, _, Tryd.func8, rfl, rfl⟩ fun S w args _ _ hx => by
    rw [show args = [.int .i64 mo] from LR.vals (vs := [.int .i64 mo]) hx]
    exact (new_ok mo w h).mono fun e w' ⟨he, hb⟩ => ⟨_, he, hb, VR.tup' (LR.cons (VR.ofAgg [.int .i64 0, .int .i64 mo, .slice none 0 0]) (LR.cons (.v _) LR.nil))⟩
theorem key_ec : EC Tryd.prog 31 [] [] [] (.agg (vrow [.int .i64 1, .int .i64 1, .string ⟨#[115]⟩, .int .i64 0, .int .i64 1099511627776])) :=
  EC.ofBelow ⟨_, _, Tryd.func31, rfl, rfl⟩ fun S w args _ _ hx => by
    rw [LR.inv0 hx]
    exact (key_any w).mono fun e w' ⟨he, hb⟩ => ⟨_, he, hb, VR.ofAgg _⟩
theorem deadline_ec (la mo : Int) (l : List Gr) (ep : Int) (hm : l.length ≤ 1000000) (ok : GsOk la mo l) (he : 1 ≤ ep ∧ ep ≤ la) : EC Tryd.prog 12 [] [.agg [iv la, iv mo, gsA l], iv ep] [] (.tup [iv (deadK l ep l.length), iv 0]) :=
  EC.ofBelow ⟨_, _, Tryd.func12, rfl, rfl⟩ fun S w args _ _ hx => by
    obtain ⟨v, r, rfl, h1, q⟩ := LR.inv hx
    obtain ⟨v2, r2, rfl, h2, q2⟩ := LR.inv q
    obtain ⟨a, c, rfl, hr⟩ := grants_at h1
    rw [LR.inv0 q2, h2.v_eq]
    exact (deadline_ok la mo a c l ep w hr hm ok he).mono fun e w' ⟨he, hb⟩ => ⟨_, he, hb, VR.tup' (LR.cons (.v _) (LR.cons (.v _) LR.nil))⟩
theorem valid_ec (la mo : Int) (l : List Gr) (hm : l.length ≤ 1000000) (ok : GsOk la mo l) : EC Tryd.prog 20 [] [.agg [iv la, iv mo, gsA l]] [] (bv true) :=
  EC.ofBelow ⟨_, _, Tryd.func20, rfl, rfl⟩ fun S w args _ _ hx => by
    obtain ⟨v, r, rfl, h1, q⟩ := LR.inv hx
    obtain ⟨a, c, rfl, hr⟩ := grants_at h1
    rw [LR.inv0 q]
    have e : validB la mo l = true := decide_eq_true ok
    exact (Le.valid_any la mo a c l w hr (by omega)).mono fun e' w' ⟨he, hb⟩ => ⟨_, he, hb, by rw [e]; exact .v _⟩
theorem serve_ec (st he ls le lu lr lo hi : Int) (D : List Nat) (hD : D.length = 16) : EC Tryd.prog 29 [] [.agg (vrow (heldL st he ls le lu lr D)), .agg [iv lo, iv hi]] [] (bv (serveB st he lu lo hi)) :=
  EC.ofBelow ⟨_, _, Tryd.func29, rfl, rfl⟩ fun S w args _ _ hx => by
    obtain ⟨v, r, rfl, h1, q⟩ := LR.inv hx
    obtain ⟨v2, r2, rfl, h2, q2⟩ := LR.inv q
    rw [LR.inv0 q2, VR.aggv h1, VR.aggv (vs := [.int .i64 lo, .int .i64 hi]) h2]
    exact (serve_any st he ls le lu lr lo hi D w hD).mono fun e w' ⟨he, hb⟩ => ⟨_, he, hb, .v _⟩
end
end Am
end
section
namespace Am
open Go
attribute [local go_sem] true_implies false_implies List.take_length bne_self_eq_false beq_self_eq_true List.forall_mem_cons List.not_mem_nil false_imp_iff allOne_nil allOne_cons iv bv Value.oneCell' astep aexe asem AS.put AS.app AS.ev look eff effIf binE unE convE lenE loadE storeE fieldAddrE fieldE indexAddrE indexE sliceE low bound extractE pickE minE allocE boxE buildE buildSliceE makeSliceE appendE elsOf aliveB pairs fillA litEls partOf tdesc TI.isAgg KD.row AV.cells AV.one guardV Option.map_some Option.map_none Option.getD_some Option.bind_some Option.bind_none List.map_cons List.map_nil List.nil_append List.cons_append List.append_nil true_and and_true cond_true cond_false Nat.zero_add Nat.add_zero Nat.zero_mul Nat.mul_zero List.getElem?_cons_zero List.getElem?_cons_succ List.getElem?_nil List.getElem?_toArray List.length_cons List.length_nil List.size_toArray List.take_succ_cons List.take_zero List.drop_succ_cons List.drop_zero List.drop_nil List.take_nil List.set_cons_zero List.set_cons_succ Bool.not_true Bool.not_false List.flatMap_cons List.flatMap_nil idA false_and forall_eq implies_true Bool.false_eq_true imp_false not_true_eq_false not_false_eq_true goInt Int.toNat_natCast ne_eq Nat.le_refl and_self List.append_assoc AV.ren AV.ren2 AV.ren1 AV.ren0 updC List.zipIdx_cons List.zipIdx_nil rho Blk.ren frzT frzB frzA ti_2 ti_3 ti_4 ti_5 ti_9 ti_12 ti_13 ti_21 ti_22 ti_23 ti_24 ti_25 ti_26 ti_27 ti_28 ti_30 ti_35 ti_36 ti_37 ti_38 ti_43 ti_46 ti_47 ti_51 ti_52 ti_54 ti_55 ti_57 ti_58 ti_64 ti_65 ti_66 ti_67 ti_68 ti_69 ti_70 ti_71 ti_75 ti_76 ti_79 ti_80 ti_87 ti_88 ti_92 ti_112 ti_117 ti_118 ti_122
set_option maxRecDepth 100000
theorem within_ec [Base] (x lo hi : Int) (h : lo ≤ x ∧ x ≤ hi) : EC Tryd.prog 35 [] [iv x, iv lo, iv hi] [] (bv true) := by
  have w1 : decide (lo ≤ x) = true := decide_eq_true h.1
  have w2 : decide (x ≤ hi) = true := decide_eq_true h.2
  have w3 := w1
  have w4 := w1
  have w5 := w1
  have w6 := w1
  refine EC_of_awp tiOk mixed Tryd.func35 rfl rfl (by kernel_rfl) (by simp [Tryd.f35]) ?_
  simp only [start, List.zipIdx_cons, List.zipIdx_nil, List.map_cons, List.map_nil, List.length_nil, List.length_cons, Nat.zero_add, Nat.reduceAdd]
  (repeat' (first | (with_reducible first | refine zqA (fun _ _ => ?_) | refine zqB ?_ | refine zqC ?_ | refine zqD ?_ | refine zqE ?_ | refine zqF ?_ | refine zqG ?_ | refine zqH ?_ | refine zqI ?_ | refine zqJ ?_ | refine zqK ?_ | refine zqL (by decide) ?_) | ((with_reducible first | refine zqM (fun _ _ => ?_) | refine zqN (fun _ _ => ?_)); simp only [go_sem, alist, adraw, seval, w1, w2, w3, w4, w5, w6]) | (with_reducible first | refine And.intro trivial ?_ | apply_assumption -exfalso -symm)))
  simp only [retQ, Tryd.f35]; refine ret_pure (by simp only [resAll, resA, go_sem, alist, adraw, seval]; rfl) rfl ?_ ?_ ?_ ?_
  all_goals first | trivial | rfl
theorem isSite_ec [Base] (n : Int) (h : 0 ≤ n ∧ n < 64) : EC Tryd.prog 34 [] [iv n] [] (bv true) := by
  refine EC_of_awp tiOk mixed Tryd.func34 rfl rfl (by kernel_rfl) (by simp [Tryd.f34]) ?_
  simp only [start, List.zipIdx_cons, List.zipIdx_nil, List.map_cons, List.map_nil, List.length_nil, List.length_cons, Nat.zero_add, Nat.reduceAdd]
  (repeat' (first | (with_reducible first | refine zqA (fun _ _ => ?_) | refine zqB ?_ | refine zqC ?_ | refine zqD ?_ | refine zqE ?_ | refine zqF ?_ | refine zqG ?_ | refine zqH ?_ | refine zqI ?_ | refine zqJ ?_ | refine zqK ?_ | refine zqL (by decide) ?_) | ((with_reducible first | refine zqM (fun _ _ => ?_) | refine zqN (fun _ _ => ?_)); simp only [go_sem, alist, adraw, seval]) | (with_reducible first | refine And.intro trivial ?_ | apply_assumption -exfalso -symm)))
  refine ⟨[], _, CallEff.pure (within_ec n 0 63 ⟨h.1, by omega⟩) (Nat.zero_le _) rfl rfl, ?_⟩; simp only [go_sem, alist, adraw, seval]
  (repeat' (first | (with_reducible first | refine zqA (fun _ _ => ?_) | refine zqB ?_ | refine zqC ?_ | refine zqD ?_ | refine zqE ?_ | refine zqF ?_ | refine zqG ?_ | refine zqH ?_ | refine zqI ?_ | refine zqJ ?_ | refine zqK ?_ | refine zqL (by decide) ?_) | ((with_reducible first | refine zqM (fun _ _ => ?_) | refine zqN (fun _ _ => ?_)); simp only [go_sem, alist, adraw, seval]) | (with_reducible first | refine And.intro trivial ?_ | apply_assumption -exfalso -symm)))
  simp only [retQ, Tryd.f34]; refine ret_pure (by simp only [resAll, resA, go_sem, alist, adraw, seval]; rfl) rfl ?_ ?_ ?_ ?_
  all_goals first | trivial | rfl
theorem isHeld_ec [Base] (st he lu : Int) (L : List AV) (pL : plain L) (lL : L.length = 20) (h4 : L[2]? = some (.v (.int .i64 lu))) (h1 : 0 ≤ st ∧ st < 64) (h2 : 0 ≤ he ∧ he ≤ 1099511627776) (h3 : 0 ≤ lu ∧ lu ≤ 1099511627776) :
    EC Tryd.prog 47 [] [.agg (iv st :: iv he :: L)] [] (bv true) := by
  have w1 := h4
  have w2 : List.take 20 L = L := List.take_of_length_le (by omega)
  have w3 := lL
  have w4 := pL.one
  have w5 := lL
  have w6 := lL
  refine EC_of_awp tiOk mixed Tryd.func47 rfl rfl (by kernel_rfl) (by simp [Tryd.f47]) ?_
  simp only [start, List.zipIdx_cons, List.zipIdx_nil, List.map_cons, List.map_nil, List.length_nil, List.length_cons, Nat.zero_add, Nat.reduceAdd]
  (repeat' (first | (with_reducible first | refine zqA (fun _ _ => ?_) | refine zqB ?_ | refine zqC ?_ | refine zqD ?_ | refine zqE ?_ | refine zqF ?_ | refine zqG ?_ | refine zqH ?_ | refine zqI ?_ | refine zqJ ?_ | refine zqK ?_ | refine zqL (by decide) ?_) | ((with_reducible first | refine zqM (fun _ _ => ?_) | refine zqN (fun _ _ => ?_)); simp only [go_sem, alist, adraw, seval, w1, w2, w3, w4, w5, w6]) | (with_reducible first | refine And.intro trivial ?_ | apply_assumption -exfalso -symm)))
  refine ⟨[], _, CallEff.pure (isSite_ec st h1) (Nat.zero_le _) rfl rfl, ?_⟩; simp only [go_sem, alist, adraw, seval]
  refine ⟨[], _, CallEff.pure (within_ec he 0 1099511627776 h2) (Nat.zero_le _) rfl rfl, ?_⟩; simp only [go_sem, alist, adraw, seval]
  simp only [w1, go_sem, alist, adraw, seval]
  try refine ⟨by omega, ?_⟩
  refine ⟨[], _, CallEff.pure (within_ec lu 0 1099511627776 h3) (Nat.zero_le _) rfl rfl, ?_⟩; simp only [go_sem, alist, adraw, seval]
  (repeat' (first | (with_reducible first | refine zqA (fun _ _ => ?_) | refine zqB ?_ | refine zqC ?_ | refine zqD ?_ | refine zqE ?_ | refine zqF ?_ | refine zqG ?_ | refine zqH ?_ | refine zqI ?_ | refine zqJ ?_ | refine zqK ?_ | refine zqL (by decide) ?_) | ((with_reducible first | refine zqM (fun _ _ => ?_) | refine zqN (fun _ _ => ?_)); simp only [go_sem, alist, adraw, seval, w1, w2, w3, w4, w5, w6]) | (with_reducible first | refine And.intro trivial ?_ | apply_assumption -exfalso -symm)))
  simp only [retQ, Tryd.f47]; refine ret_pure (by simp only [resAll, resA, go_sem, alist, adraw, seval]; rfl) rfl ?_ ?_ ?_ ?_
  all_goals first | trivial | rfl
set_option maxHeartbeats 2000000 in
theorem hear_ec [Base] (st he lu ep : Int) (L : List AV) (pL : plain L) (lL : L.length = 20) (h4 : L[2]? = some (.v (.int .i64 lu))) (h1 : 0 ≤ st ∧ st < 64) (h2 : 0 ≤ he ∧ he ≤ 1099511627776) (h3 : 0 ≤ lu ∧ lu ≤ 1099511627776) (h5 : 0 ≤ ep ∧ ep ≤ 1099511627776) :
    EC Tryd.prog 46 [] [.agg (iv st :: iv he :: L), iv ep] [] (.tup [.agg (iv st :: iv (max he ep) :: L), iv 0]) := by
  have w1 : (if ep > he then ep else he) = max he ep := by split <;> omega
  have w2 : List.take 20 L = L := List.take_of_length_le (by omega)
  have w3 := lL
  have w4 := pL.one
  have w5 := lL
  have w6 := lL
  have p0 : plain (iv st :: iv he :: L) := fun x hx => by
    rcases List.mem_cons.1 hx with rfl | hx
    · exact ⟨_, rfl, rfl⟩
    rcases List.mem_cons.1 hx with rfl | hx
    · exact ⟨_, rfl, rfl⟩
    exact pL x hx
  refine EC_of_awp tiOk mixed Tryd.func46 rfl rfl (by kernel_rfl) (by simp [Tryd.f46]) ?_
  simp only [start, List.zipIdx_cons, List.zipIdx_nil, List.map_cons, List.map_nil, List.length_nil, List.length_cons, Nat.zero_add, Nat.reduceAdd]
  (repeat' (first | (with_reducible first | refine zqA (fun _ _ => ?_) | refine zqB ?_ | refine zqC ?_ | refine zqD ?_ | refine zqE ?_ | refine zqF ?_ | refine zqG ?_ | refine zqH ?_ | refine zqI ?_ | refine zqJ ?_ | refine zqK ?_ | refine zqL (by decide) ?_) | ((with_reducible first | refine zqM (fun _ _ => ?_) | refine zqN (fun _ _ => ?_)); simp only [go_sem, alist, adraw, seval, w1, w2, w3, w4, w5, w6]) | (with_reducible first | refine And.intro trivial ?_ | apply_assumption -exfalso -symm)))
  refine ⟨[], _, CallEff.pure0 (isHeld_ec st he lu L pL lL h4 h1 h2 h3) (by simp only [List.map_cons, List.map_nil, AV.ren2, plain.map1 pL] <;> rfl) (by simp only [List.all_cons, List.all_nil, AV.ok2, plain.all1 pL] <;> rfl) rfl, ?_⟩
  simp only [go_sem, alist, adraw, seval]
  refine ⟨[], _, CallEff.pure (within_ec ep 0 1099511627776 h5) (Nat.zero_le _) rfl rfl, ?_⟩; simp only [go_sem, alist, adraw, seval]
  (repeat' (first | (with_reducible first | refine zqA (fun _ _ => ?_) | refine zqB ?_ | refine zqC ?_ | refine zqD ?_ | refine zqE ?_ | refine zqF ?_ | refine zqG ?_ | refine zqH ?_ | refine zqI ?_ | refine zqJ ?_ | refine zqK ?_ | refine zqL (by decide) ?_) | ((with_reducible first | refine zqM (fun _ _ => ?_) | refine zqN (fun _ _ => ?_)); simp only [go_sem, alist, adraw, seval, w1, w2, w3, w4, w5, w6]) | (with_reducible first | refine And.intro trivial ?_ | apply_assumption -exfalso -symm)))
  refine zqO (by simp only [go_sem, alist, adraw, seval] <;> rfl) (fun h => absurd h (by simp)) (fun _ => ?_)
  (repeat' (first | (with_reducible first | refine zqA (fun _ _ => ?_) | refine zqB ?_ | refine zqC ?_ | refine zqD ?_ | refine zqE ?_ | refine zqF ?_ | refine zqG ?_ | refine zqH ?_ | refine zqI ?_ | refine zqJ ?_ | refine zqK ?_ | refine zqL (by decide) ?_) | ((with_reducible first | refine zqM (fun _ _ => ?_) | refine zqN (fun _ _ => ?_)); simp only [go_sem, alist, adraw, seval, w1, w2, w3, w4, w5, w6]) | (with_reducible first | refine And.intro trivial ?_ | apply_assumption -exfalso -symm)))
  simp only [retQ, Tryd.f46]
  refine ret_pure (by simp only [resAll, resA, go_sem, alist, adraw, seval, w1, w2, w3, w4]; rfl) rfl ?_ ?_ ?_ ?_
  · simp only [go_sem, alist, adraw, seval, lL]
  · rfl
  · simp only [AV.ren, List.map_cons, List.map_nil, AV.ren2, plain.map1 pL] <;> rfl
  · simp only [AV.ok3, List.all_cons, List.all_nil, AV.ok2, plain.all1 pL] <;> rfl
end Am
end
section
namespace Le
open Go.RowKit
theorem own_cap {W : World} {B k cap : Nat} {a : Option Addr} {l : List Gr} (h : OwnA W B (.slice a k cap) l) : l.length ≤ cap := by
  obtain ⟨av, cv, ev, hc, hv⟩ := OwnR.view encG_len h
  injection ev with ev1 ev2 ev3
  rw [ev3]
  exact hc
set_option maxRecDepth 100000 in
set_option maxHeartbeats 4000000 in
theorem withC_found (la mo : Int) (a : Option Addr) (c : Nat) (l : List Gr) (x : Gr) (w : World) (hp : GrA w a l) (ord : OrdG l) (hm : l.length ≤ 10000) (hh : hasG x.1 l = true) :
    Calls Tryd.prog 37 #[.agg #[.int .i64 la, .int .i64 mo, .slice a l.length c], .agg (encG x).toArray] w fun e w' => (∃ a' c', e = .returned (.agg #[.int .i64 la, .int .i64 mo, .slice a' (withL x l).length c']) ∧ ((withL x l).length ≤ c' ∧ GrA w' a' (withL x l)) ∧ ∀ p, a' = some p → w.heap.size ≤ p.block) ∧ Below w.heap.size w w' := by
  have HP := Lib.hid hp
  have CL := Lib.hid (fun (X : World) (h : GrA X a l) => copied_any la mo a c l X h (by omega))
  have PL := Lib.hid (fun (a6 : Option Addr) (c6 : Nat) (X : World) (h : GrA X a6 l) => place_any la mo a6 c6 l x.1 X h ord (by omega))
  have HWL := Lib.hid (show withL x l = if hasG x.1 l = true then l.set (posG x.1 l) x else if x = (x.1, 0, 0) then l else insL l (posG x.1 l) x from rfl)
  have HI := Lib.hid (show posG x.1 l ≤ l.length ∧ (hasG x.1 l = true → posG x.1 l < l.length) from ⟨posG_le _ _, fun q => (has_yes q).1⟩)
  rw [hh] at PL HWL HI
  obtain ⟨i, hi⟩ : ∃ i, posG x.1 l = i := ⟨_, rfl⟩
  rw [hi] at PL HWL HI
  obtain ⟨N, hN⟩ : ∃ N, l.length = N := ⟨_, rfl⟩
  have HE := Lib.hid hN
  simp only [hN] at PL CL HI
  rw [hN] at hm ⊢
  obtain ⟨x1, x2, x3⟩ := x
  simp only [encG] at PL HWL ⊢
  have HMx := Lib.hid hm
  clear hp hN ord hh hi hm
  go_enter Tryd.func37, Tryd.ntmps37
  obtain ⟨G, hG⟩ : ∃ G, w.heap.size = G := ⟨_, rfl⟩
  have HG := Lib.hid hG
  obtain ⟨w0, hw0, Kg, Kx, Kr, B⟩ : ∃ X, (((w.alloc (.cells #[.int .i64 la, .int .i64 mo, .slice a N c] 24)).alloc (.cells #[.int .i64 x1, .int .i64 x2, .int .i64 x3] 88)).alloc (.cells #[.int .i64 0, .int .i64 0, .slice none 0 0] 24)) = X ∧ Hid (Blk X (G) 24 #[.int .i64 la, .int .i64 mo, .slice a N c]) ∧ Hid (Blk X (G + 1) 88 #[.int .i64 x1, .int .i64 x2, .int .i64 x3]) ∧ Hid (Blk X (G + 1 + 1) 24 #[.int .i64 0, .int .i64 0, .slice none 0 0]) ∧ Hid (Below w.heap.size w X) := ⟨_, rfl, Lib.hid (((Blk.new' _ _ _ _ hG rfl).alloc _).alloc _), Lib.hid ((Blk.new' _ _ _ _ (by rw [World.size_alloc, hG]) rfl).alloc _), Lib.hid (Blk.new' _ _ _ _ (by rw [World.size_alloc, World.size_alloc, hG]) rfl), Lib.hid (by (repeat' (first | (with_reducible exact Below.refl _ _) | (with_reducible assumption) | (with_reducible refine Below.alloc ?_ ?_ _) | (with_reducible refine Below.drew ?_) | (with_reducible refine below_dn ?_) | (with_reducible refine Below.setCell ?_ ?_ _) | (with_reducible exact Nat.le_refl _) | omega | (simp only [World.size_alloc, World.size_setCell, World.size_drew]; omega) | (simp; omega) | (simp; done))))⟩
  go_upto_region 1 with (fail)
  try rw [hG]
  try rw [hw0]
  clear hw0 hG
  obtain ⟨bgc0, bgc1, bgc2⟩ := three Kg.out
  obtain ⟨bxc0, bxc1, bxc2⟩ := three Kx.out
  obtain ⟨brc0, brc1, brc2⟩ := three Kr.out
  have fzg := fun q => Kg.out.frozen q
  have fzx := fun q => Kx.out.frozen q
  have fzr := fun q => Kr.out.frozen q
  have HW6 := Lib.hid (show G + 3 ≤ w0.heap.size by have := Kr.out.lt; omega)
  go_wp2_with fail
  refine (CL.out _ (HP.out.mono B.out)).mono ?_
  rintro e w1 ⟨⟨a6, c6, Z6, rfl, ho, hz1, hz2⟩, hb⟩
  have H6 := Lib.hid (show G + 3 ≤ Z6 from Nat.le_trans HW6.out hz1)
  have Y6 := Lib.hid hz2
  have O6 := Lib.hid ho
  replace Kg := Lib.hid (Kg.out.below hb Kg.out.lt)
  replace Kx := Lib.hid (Kx.out.below hb Kx.out.lt)
  replace Kr := Lib.hid (Kr.out.below hb Kr.out.lt)
  replace B := Lib.hid (B.out.trans (hb.mono B.out.size))
  clear bgc0 bgc1 bgc2 bxc0 bxc1 bxc2 brc0 brc1 brc2 fzg fzx fzr
  clear hb ho CL HW6 hz1 hz2
  obtain ⟨bgc0, bgc1, bgc2⟩ := three Kg.out
  obtain ⟨bxc0, bxc1, bxc2⟩ := three Kx.out
  obtain ⟨brc0, brc1, brc2⟩ := three Kr.out
  have fzg := fun q => Kg.out.frozen q
  have fzr := fun q => Kr.out.frozen q
  clear bgc0 bgc1 bgc2 bxc0 bxc1 bxc2 brc0 brc1 brc2 fzg fzr
  obtain ⟨bgc0, bgc1, bgc2⟩ := three Kg.out
  obtain ⟨bxc0, bxc1, bxc2⟩ := three Kx.out
  obtain ⟨brc0, brc1, brc2⟩ := three Kr.out
  have fzg := fun q => Kg.out.frozen q
  replace O6 := Lib.hid (OwnR.far O6.out (p := ⟨G, 0, none⟩) (show G < Z6 by have := H6.out; omega) (.int .i64 la))
  replace Y6 := Lib.hid (show Z6 ≤ (w1.setCell ⟨G, 0, none⟩ (.int .i64 la)).heap.size by have := Y6.out; simp only [World.size_setCell] at this ⊢; omega)
  replace Kg := Lib.hid (show Blk (w1.setCell ⟨G, 0, none⟩ (.int .i64 la)) (G) 24 #[.int .i64 la, .int .i64 mo, .slice a N c] from Kg.out.set_ 0 (.int .i64 la))
  replace Kx := Lib.hid (show Blk (w1.setCell ⟨G, 0, none⟩ (.int .i64 la)) (G + 1) _ _ from Kx.out.far (p := ⟨G, 0, none⟩) (by simp; try omega) (.int .i64 la))
  replace Kr := Lib.hid (show Blk (w1.setCell ⟨G, 0, none⟩ (.int .i64 la)) (G + 1 + 1) _ _ from Kr.out.far (p := ⟨G, 0, none⟩) (by simp; try omega) (.int .i64 la))
  replace B := Lib.hid (show Below w.heap.size w (w1.setCell ⟨G, 0, none⟩ (.int .i64 la)) from B.out.setCell (p := ⟨G, 0, none⟩) (show w.heap.size ≤ G by have := HG.out; omega) (.int .i64 la))
  replace O6 := Lib.hid (OwnR.far O6.out (p := ⟨G, 1, none⟩) (show G < Z6 by have := H6.out; omega) (.int .i64 mo))
  replace Y6 := Lib.hid (show Z6 ≤ ((w1.setCell ⟨G, 0, none⟩ (.int .i64 la)).setCell ⟨G, 1, none⟩ (.int .i64 mo)).heap.size by have := Y6.out; simp only [World.size_setCell] at this ⊢; omega)
  replace Kg := Lib.hid (show Blk ((w1.setCell ⟨G, 0, none⟩ (.int .i64 la)).setCell ⟨G, 1, none⟩ (.int .i64 mo)) (G) 24 #[.int .i64 la, .int .i64 mo, .slice a N c] from Kg.out.set_ 1 (.int .i64 mo))
  replace Kx := Lib.hid (show Blk ((w1.setCell ⟨G, 0, none⟩ (.int .i64 la)).setCell ⟨G, 1, none⟩ (.int .i64 mo)) (G + 1) _ _ from Kx.out.far (p := ⟨G, 1, none⟩) (by simp; try omega) (.int .i64 mo))
  replace Kr := Lib.hid (show Blk ((w1.setCell ⟨G, 0, none⟩ (.int .i64 la)).setCell ⟨G, 1, none⟩ (.int .i64 mo)) (G + 1 + 1) _ _ from Kr.out.far (p := ⟨G, 1, none⟩) (by simp; try omega) (.int .i64 mo))
  replace B := Lib.hid (show Below w.heap.size w ((w1.setCell ⟨G, 0, none⟩ (.int .i64 la)).setCell ⟨G, 1, none⟩ (.int .i64 mo)) from B.out.setCell (p := ⟨G, 1, none⟩) (show w.heap.size ≤ G by have := HG.out; omega) (.int .i64 mo))
  replace O6 := Lib.hid (OwnR.far O6.out (p := ⟨G, 2, none⟩) (show G < Z6 by have := H6.out; omega) (.slice a6 N c6))
  replace Y6 := Lib.hid (show Z6 ≤ (((w1.setCell ⟨G, 0, none⟩ (.int .i64 la)).setCell ⟨G, 1, none⟩ (.int .i64 mo)).setCell ⟨G, 2, none⟩ (.slice a6 N c6)).heap.size by have := Y6.out; simp only [World.size_setCell] at this ⊢; omega)
  replace Kg := Lib.hid (show Blk (((w1.setCell ⟨G, 0, none⟩ (.int .i64 la)).setCell ⟨G, 1, none⟩ (.int .i64 mo)).setCell ⟨G, 2, none⟩ (.slice a6 N c6)) (G) 24 #[.int .i64 la, .int .i64 mo, .slice a6 N c6] from Kg.out.set_ 2 (.slice a6 N c6))
  replace Kx := Lib.hid (show Blk (((w1.setCell ⟨G, 0, none⟩ (.int .i64 la)).setCell ⟨G, 1, none⟩ (.int .i64 mo)).setCell ⟨G, 2, none⟩ (.slice a6 N c6)) (G + 1) _ _ from Kx.out.far (p := ⟨G, 2, none⟩) (by simp; try omega) (.slice a6 N c6))
  replace Kr := Lib.hid (show Blk (((w1.setCell ⟨G, 0, none⟩ (.int .i64 la)).setCell ⟨G, 1, none⟩ (.int .i64 mo)).setCell ⟨G, 2, none⟩ (.slice a6 N c6)) (G + 1 + 1) _ _ from Kr.out.far (p := ⟨G, 2, none⟩) (by simp; try omega) (.slice a6 N c6))
  replace B := Lib.hid (show Below w.heap.size w (((w1.setCell ⟨G, 0, none⟩ (.int .i64 la)).setCell ⟨G, 1, none⟩ (.int .i64 mo)).setCell ⟨G, 2, none⟩ (.slice a6 N c6)) from B.out.setCell (p := ⟨G, 2, none⟩) (show w.heap.size ≤ G by have := HG.out; omega) (.slice a6 N c6))
  go_upto_region 2 with (fail)
  generalize hw : (((w1.setCell ⟨G, 0, none⟩ (.int .i64 la)).setCell ⟨G, 1, none⟩ (.int .i64 mo)).setCell ⟨G, 2, none⟩ (.slice a6 N c6)) = w2 at Kg Kx Kr O6 Y6 B ⊢
  clear bgc0 bgc1 bgc2 bxc0 bxc1 bxc2 brc0 brc1 brc2 fzg
  clear hw
  obtain ⟨bgc0, bgc1, bgc2⟩ := three Kg.out
  obtain ⟨bxc0, bxc1, bxc2⟩ := three Kx.out
  obtain ⟨brc0, brc1, brc2⟩ := three Kr.out
  have fzg := fun q => Kg.out.frozen q
  have fzr := fun q => Kr.out.frozen q
  go_wp2_with fail
  refine (PL.out a6 c6 _ (own_rows O6.out)).mono ?_
  rintro e w3 ⟨rfl, hb⟩
  replace Kg := Lib.hid (Kg.out.below hb Kg.out.lt)
  replace Kx := Lib.hid (Kx.out.below hb Kx.out.lt)
  replace Kr := Lib.hid (Kr.out.below hb Kr.out.lt)
  replace B := Lib.hid (B.out.trans (hb.mono B.out.size))
  replace O6 := Lib.hid (OwnR.below O6.out hb)
  replace Y6 := Lib.hid (Nat.le_trans Y6.out hb.size)
  clear bgc0 bgc1 bgc2 bxc0 bxc1 bxc2 brc0 brc1 brc2 fzg fzr
  clear hb PL
  obtain ⟨bgc0, bgc1, bgc2⟩ := three Kg.out
  obtain ⟨bxc0, bxc1, bxc2⟩ := three Kx.out
  obtain ⟨brc0, brc1, brc2⟩ := three Kr.out
  have fzg := fun q => Kg.out.frozen q
  have fzr := fun q => Kr.out.frozen q
  have hi7 : i < l.length := by rw [HE.out]; exact HI.out.2 (by first | rfl | trivial)
  obtain ⟨g7, rfl, -, hB7, q0, q1, q2, fz7⟩ := own_at O6.out hi7
  have ST1 := own_set (j := 0) O6.out hi7 (by decide) (.int .i64 x1) (x1, (l.getD i g0).2.1, (l.getD i g0).2.2) rfl
  have ST2 := own_set (j := 1) ST1 (by rw [List.length_set]; exact hi7) (by decide) (.int .i64 x2) (x1, x2, (l.getD i g0).2.2) (by rw [getD_set _ _ _ hi7]; rfl)
  have ST3 := own_set (j := 2) ST2 (by rw [List.length_set, List.length_set]; exact hi7) (by decide) (.int .i64 x3) (x1, x2, x3) (by rw [getD_set _ _ _ (by rw [List.length_set]; exact hi7)]; rfl)
  rw [List.set_set, List.set_set] at ST3
  simp only [Nat.add_zero] at ST3
  have EQ := Lib.hid (show l.set i (x1, x2, x3) = withL (x1, x2, x3) l from by rw [HWL.out, if_pos (by first | rfl | trivial)])
  have LQ := Lib.hid (show (withL (x1, x2, x3) l).length = N by rw [← EQ.out, List.length_set]; exact HE.out)
  have i0 : (0 : Int) ≤ (i : Int) := by omega
  have iN : (i : Int) < (N : Int) := by have := HI.out.2 (by first | rfl | trivial); omega
  have zz := H6.out
  have ne1 : G ≠ g7 := by omega
  have ne2 : G + 1 ≠ g7 := by omega
  have ne3 : G + 1 + 1 ≠ g7 := by omega
  have ST := Lib.hid ST3
  have far3 : ∀ (Y : World) (k : Nat) (t : TypeId) (cs : Array Value), k ≠ g7 → Blk Y k t cs → Blk (((Y.setCell ⟨g7, i * 3, none⟩ (.int .i64 x1)).setCell ⟨g7, i * 3 + 1, none⟩ (.int .i64 x2)).setCell ⟨g7, i * 3 + 2, none⟩ (.int .i64 x3)) k t cs := fun Y k t cs hk h => ((h.far hk _).far hk _).far hk _
  replace Kg := Lib.hid (far3 _ _ _ _ ne1 Kg.out)
  replace Kx := Lib.hid (far3 _ _ _ _ ne2 Kx.out)
  replace Kr := Lib.hid (far3 _ _ _ _ ne3 Kr.out)
  replace B := Lib.hid (((B.out.setCell (p := ⟨g7, i * 3, none⟩) (show w.heap.size ≤ g7 by have := HG.out; omega) (.int .i64 x1)).setCell (p := ⟨g7, i * 3 + 1, none⟩) (show w.heap.size ≤ g7 by have := HG.out; omega) (.int .i64 x2)).setCell (p := ⟨g7, i * 3 + 2, none⟩) (show w.heap.size ≤ g7 by have := HG.out; omega) (.int .i64 x3))
  replace Y6 := Lib.hid (show Z6 ≤ (((w3.setCell ⟨g7, i * 3, none⟩ (.int .i64 x1)).setCell ⟨g7, i * 3 + 1, none⟩ (.int .i64 x2)).setCell ⟨g7, i * 3 + 2, none⟩ (.int .i64 x3)).heap.size by have := Y6.out; simp; omega)
  clear hi7 O6 ST1 ST2 ST3 far3 zz
  go_upto_region 7 with (fail)
  generalize hw7 : (((w3.setCell ⟨g7, i * 3, none⟩ (.int .i64 x1)).setCell ⟨g7, i * 3 + 1, none⟩ (.int .i64 x2)).setCell ⟨g7, i * 3 + 2, none⟩ (.int .i64 x3)) = w4 at ST Kg Kx Kr B Y6 ⊢
  clear hw7 q0 q1 q2 fz7
  have O6 := ST
  clear ST
  clear bgc0 bgc1 bgc2 bxc0 bxc1 bxc2 brc0 brc1 brc2 fzg fzr
  obtain ⟨bgc0, bgc1, bgc2⟩ := three Kg.out
  obtain ⟨bxc0, bxc1, bxc2⟩ := three Kx.out
  obtain ⟨brc0, brc1, brc2⟩ := three Kr.out
  have fzg := fun q => Kg.out.frozen q
  have fzr := fun q => Kr.out.frozen q
  clear bgc0 bgc1 bgc2 bxc0 bxc1 bxc2 brc0 brc1 brc2 fzg fzr
  obtain ⟨bgc0, bgc1, bgc2⟩ := three Kg.out
  obtain ⟨bxc0, bxc1, bxc2⟩ := three Kx.out
  obtain ⟨brc0, brc1, brc2⟩ := three Kr.out
  have fzr := fun q => Kr.out.frozen q
  replace O6 := Lib.hid (OwnR.far O6.out (p := ⟨G + 1 + 1, 0, none⟩) (show G + 1 + 1 < Z6 by have := H6.out; omega) (.int .i64 la))
  replace Y6 := Lib.hid (show Z6 ≤ (w4.setCell ⟨G + 1 + 1, 0, none⟩ (.int .i64 la)).heap.size by have := Y6.out; simp only [World.size_setCell] at this ⊢; omega)
  replace Kr := Lib.hid (show Blk (w4.setCell ⟨G + 1 + 1, 0, none⟩ (.int .i64 la)) (G + 1 + 1) 24 #[.int .i64 la, .int .i64 0, .slice none 0 0] from Kr.out.set_ 0 (.int .i64 la))
  replace Kg := Lib.hid (show Blk (w4.setCell ⟨G + 1 + 1, 0, none⟩ (.int .i64 la)) (G) _ _ from Kg.out.far (p := ⟨G + 1 + 1, 0, none⟩) (by simp; try omega) (.int .i64 la))
  replace Kx := Lib.hid (show Blk (w4.setCell ⟨G + 1 + 1, 0, none⟩ (.int .i64 la)) (G + 1) _ _ from Kx.out.far (p := ⟨G + 1 + 1, 0, none⟩) (by simp; try omega) (.int .i64 la))
  replace B := Lib.hid (show Below w.heap.size w (w4.setCell ⟨G + 1 + 1, 0, none⟩ (.int .i64 la)) from B.out.setCell (p := ⟨G + 1 + 1, 0, none⟩) (show w.heap.size ≤ G + 1 + 1 by have := HG.out; omega) (.int .i64 la))
  replace O6 := Lib.hid (OwnR.far O6.out (p := ⟨G + 1 + 1, 1, none⟩) (show G + 1 + 1 < Z6 by have := H6.out; omega) (.int .i64 mo))
  replace Y6 := Lib.hid (show Z6 ≤ ((w4.setCell ⟨G + 1 + 1, 0, none⟩ (.int .i64 la)).setCell ⟨G + 1 + 1, 1, none⟩ (.int .i64 mo)).heap.size by have := Y6.out; simp only [World.size_setCell] at this ⊢; omega)
  replace Kr := Lib.hid (show Blk ((w4.setCell ⟨G + 1 + 1, 0, none⟩ (.int .i64 la)).setCell ⟨G + 1 + 1, 1, none⟩ (.int .i64 mo)) (G + 1 + 1) 24 #[.int .i64 la, .int .i64 mo, .slice none 0 0] from Kr.out.set_ 1 (.int .i64 mo))
  replace Kg := Lib.hid (show Blk ((w4.setCell ⟨G + 1 + 1, 0, none⟩ (.int .i64 la)).setCell ⟨G + 1 + 1, 1, none⟩ (.int .i64 mo)) (G) _ _ from Kg.out.far (p := ⟨G + 1 + 1, 1, none⟩) (by simp; try omega) (.int .i64 mo))
  replace Kx := Lib.hid (show Blk ((w4.setCell ⟨G + 1 + 1, 0, none⟩ (.int .i64 la)).setCell ⟨G + 1 + 1, 1, none⟩ (.int .i64 mo)) (G + 1) _ _ from Kx.out.far (p := ⟨G + 1 + 1, 1, none⟩) (by simp; try omega) (.int .i64 mo))
  replace B := Lib.hid (show Below w.heap.size w ((w4.setCell ⟨G + 1 + 1, 0, none⟩ (.int .i64 la)).setCell ⟨G + 1 + 1, 1, none⟩ (.int .i64 mo)) from B.out.setCell (p := ⟨G + 1 + 1, 1, none⟩) (show w.heap.size ≤ G + 1 + 1 by have := HG.out; omega) (.int .i64 mo))
  replace O6 := Lib.hid (OwnR.far O6.out (p := ⟨G + 1 + 1, 2, none⟩) (show G + 1 + 1 < Z6 by have := H6.out; omega) (.slice (some ⟨g7, 0, none⟩) N c6))
  replace Y6 := Lib.hid (show Z6 ≤ (((w4.setCell ⟨G + 1 + 1, 0, none⟩ (.int .i64 la)).setCell ⟨G + 1 + 1, 1, none⟩ (.int .i64 mo)).setCell ⟨G + 1 + 1, 2, none⟩ (.slice (some ⟨g7, 0, none⟩) N c6)).heap.size by have := Y6.out; simp only [World.size_setCell] at this ⊢; omega)
  replace Kr := Lib.hid (show Blk (((w4.setCell ⟨G + 1 + 1, 0, none⟩ (.int .i64 la)).setCell ⟨G + 1 + 1, 1, none⟩ (.int .i64 mo)).setCell ⟨G + 1 + 1, 2, none⟩ (.slice (some ⟨g7, 0, none⟩) N c6)) (G + 1 + 1) 24 #[.int .i64 la, .int .i64 mo, .slice (some ⟨g7, 0, none⟩) N c6] from Kr.out.set_ 2 (.slice (some ⟨g7, 0, none⟩) N c6))
  replace Kg := Lib.hid (show Blk (((w4.setCell ⟨G + 1 + 1, 0, none⟩ (.int .i64 la)).setCell ⟨G + 1 + 1, 1, none⟩ (.int .i64 mo)).setCell ⟨G + 1 + 1, 2, none⟩ (.slice (some ⟨g7, 0, none⟩) N c6)) (G) _ _ from Kg.out.far (p := ⟨G + 1 + 1, 2, none⟩) (by simp; try omega) (.slice (some ⟨g7, 0, none⟩) N c6))
  replace Kx := Lib.hid (show Blk (((w4.setCell ⟨G + 1 + 1, 0, none⟩ (.int .i64 la)).setCell ⟨G + 1 + 1, 1, none⟩ (.int .i64 mo)).setCell ⟨G + 1 + 1, 2, none⟩ (.slice (some ⟨g7, 0, none⟩) N c6)) (G + 1) _ _ from Kx.out.far (p := ⟨G + 1 + 1, 2, none⟩) (by simp; try omega) (.slice (some ⟨g7, 0, none⟩) N c6))
  replace B := Lib.hid (show Below w.heap.size w (((w4.setCell ⟨G + 1 + 1, 0, none⟩ (.int .i64 la)).setCell ⟨G + 1 + 1, 1, none⟩ (.int .i64 mo)).setCell ⟨G + 1 + 1, 2, none⟩ (.slice (some ⟨g7, 0, none⟩) N c6)) from B.out.setCell (p := ⟨G + 1 + 1, 2, none⟩) (show w.heap.size ≤ G + 1 + 1 by have := HG.out; omega) (.slice (some ⟨g7, 0, none⟩) N c6))
  go_wp2
  generalize hw : (((w4.setCell ⟨G + 1 + 1, 0, none⟩ (.int .i64 la)).setCell ⟨G + 1 + 1, 1, none⟩ (.int .i64 mo)).setCell ⟨G + 1 + 1, 2, none⟩ (.slice (some ⟨g7, 0, none⟩) N c6)) = w5 at Kg Kx Kr O6 Y6 B ⊢
  clear bgc0 bgc1 bgc2 bxc0 bxc1 bxc2 brc0 brc1 brc2 fzr
  clear hw
  obtain ⟨d0, d1, d2⟩ := three Kr.out
  refine bodyPost_ret (by simp [results, Tryd.results37, go_sem, d0, d1, d2]; try rfl) rfl ?_
  refine ⟨⟨some ⟨g7, 0, none⟩, c6, by rw [LQ.out], ⟨?_, ?_⟩, fun p hp => ?_⟩, B.out⟩
  · rw [← EQ.out]; exact own_cap O6.out
  · rw [← EQ.out]; exact own_rows O6.out
  · have := OwnR.block O6.out p hp; have := H6.out; have := HG.out; omega
set_option maxRecDepth 100000 in
set_option maxHeartbeats 4000000 in
theorem withC_empty (la mo : Int) (a : Option Addr) (c : Nat) (l : List Gr) (x : Gr) (w : World) (hp : GrA w a l) (ord : OrdG l) (hm : l.length ≤ 10000) (hh : hasG x.1 l = false) (h2 : x = (x.1, 0, 0)) :
    Calls Tryd.prog 37 #[.agg #[.int .i64 la, .int .i64 mo, .slice a l.length c], .agg (encG x).toArray] w fun e w' => (∃ a' c', e = .returned (.agg #[.int .i64 la, .int .i64 mo, .slice a' (withL x l).length c']) ∧ ((withL x l).length ≤ c' ∧ GrA w' a' (withL x l)) ∧ ∀ p, a' = some p → w.heap.size ≤ p.block) ∧ Below w.heap.size w w' := by
  have HP := Lib.hid hp
  have CL := Lib.hid (fun (X : World) (h : GrA X a l) => copied_any la mo a c l X h (by omega))
  have PL := Lib.hid (fun (a6 : Option Addr) (c6 : Nat) (X : World) (h : GrA X a6 l) => place_any la mo a6 c6 l x.1 X h ord (by omega))
  have HWL := Lib.hid (show withL x l = if hasG x.1 l = true then l.set (posG x.1 l) x else if x = (x.1, 0, 0) then l else insL l (posG x.1 l) x from rfl)
  have HI := Lib.hid (show posG x.1 l ≤ l.length ∧ (hasG x.1 l = true → posG x.1 l < l.length) from ⟨posG_le _ _, fun q => (has_yes q).1⟩)
  rw [hh] at PL HWL HI
  obtain ⟨i, hi⟩ : ∃ i, posG x.1 l = i := ⟨_, rfl⟩
  rw [hi] at PL HWL HI
  obtain ⟨N, hN⟩ : ∃ N, l.length = N := ⟨_, rfl⟩
  have HE := Lib.hid hN
  simp only [hN] at PL CL HI
  rw [hN] at hm ⊢
  obtain ⟨x1, x2, x3⟩ := x
  injection h2 with _ h2
  injection h2 with ha hb0
  subst ha
  subst hb0
  simp only [encG] at PL HWL ⊢
  have HMx := Lib.hid hm
  clear hp hN ord hh hi hm
  go_enter Tryd.func37, Tryd.ntmps37
  obtain ⟨G, hG⟩ : ∃ G, w.heap.size = G := ⟨_, rfl⟩
  have HG := Lib.hid hG
  obtain ⟨w0, hw0, Kg, Kx, Kr, B⟩ : ∃ X, (((w.alloc (.cells #[.int .i64 la, .int .i64 mo, .slice a N c] 24)).alloc (.cells #[.int .i64 x1, .int .i64 0, .int .i64 0] 88)).alloc (.cells #[.int .i64 0, .int .i64 0, .slice none 0 0] 24)) = X ∧ Hid (Blk X (G) 24 #[.int .i64 la, .int .i64 mo, .slice a N c]) ∧ Hid (Blk X (G + 1) 88 #[.int .i64 x1, .int .i64 0, .int .i64 0]) ∧ Hid (Blk X (G + 1 + 1) 24 #[.int .i64 0, .int .i64 0, .slice none 0 0]) ∧ Hid (Below w.heap.size w X) := ⟨_, rfl, Lib.hid (((Blk.new' _ _ _ _ hG rfl).alloc _).alloc _), Lib.hid ((Blk.new' _ _ _ _ (by rw [World.size_alloc, hG]) rfl).alloc _), Lib.hid (Blk.new' _ _ _ _ (by rw [World.size_alloc, World.size_alloc, hG]) rfl), Lib.hid (by (repeat' (first | (with_reducible exact Below.refl _ _) | (with_reducible assumption) | (with_reducible refine Below.alloc ?_ ?_ _) | (with_reducible refine Below.drew ?_) | (with_reducible refine below_dn ?_) | (with_reducible refine Below.setCell ?_ ?_ _) | (with_reducible exact Nat.le_refl _) | omega | (simp only [World.size_alloc, World.size_setCell, World.size_drew]; omega) | (simp; omega) | (simp; done))))⟩
  go_upto_region 1 with (fail)
  try rw [hG]
  try rw [hw0]
  clear hw0 hG
  obtain ⟨bgc0, bgc1, bgc2⟩ := three Kg.out
  obtain ⟨bxc0, bxc1, bxc2⟩ := three Kx.out
  obtain ⟨brc0, brc1, brc2⟩ := three Kr.out
  have fzg := fun q => Kg.out.frozen q
  have fzx := fun q => Kx.out.frozen q
  have fzr := fun q => Kr.out.frozen q
  have HW6 := Lib.hid (show G + 3 ≤ w0.heap.size by have := Kr.out.lt; omega)
  go_wp2_with fail
  refine (CL.out _ (HP.out.mono B.out)).mono ?_
  rintro e w1 ⟨⟨a6, c6, Z6, rfl, ho, hz1, hz2⟩, hb⟩
  have H6 := Lib.hid (show G + 3 ≤ Z6 from Nat.le_trans HW6.out hz1)
  have Y6 := Lib.hid hz2
  have O6 := Lib.hid ho
  replace Kg := Lib.hid (Kg.out.below hb Kg.out.lt)
  replace Kx := Lib.hid (Kx.out.below hb Kx.out.lt)
  replace Kr := Lib.hid (Kr.out.below hb Kr.out.lt)
  replace B := Lib.hid (B.out.trans (hb.mono B.out.size))
  clear bgc0 bgc1 bgc2 bxc0 bxc1 bxc2 brc0 brc1 brc2 fzg fzx fzr
  clear hb ho CL HW6 hz1 hz2
  obtain ⟨bgc0, bgc1, bgc2⟩ := three Kg.out
  obtain ⟨bxc0, bxc1, bxc2⟩ := three Kx.out
  obtain ⟨brc0, brc1, brc2⟩ := three Kr.out
  have fzg := fun q => Kg.out.frozen q
  have fzr := fun q => Kr.out.frozen q
  clear bgc0 bgc1 bgc2 bxc0 bxc1 bxc2 brc0 brc1 brc2 fzg fzr
  obtain ⟨bgc0, bgc1, bgc2⟩ := three Kg.out
  obtain ⟨bxc0, bxc1, bxc2⟩ := three Kx.out
  obtain ⟨brc0, brc1, brc2⟩ := three Kr.out
  have fzg := fun q => Kg.out.frozen q
  replace O6 := Lib.hid (OwnR.far O6.out (p := ⟨G, 0, none⟩) (show G < Z6 by have := H6.out; omega) (.int .i64 la))
  replace Y6 := Lib.hid (show Z6 ≤ (w1.setCell ⟨G, 0, none⟩ (.int .i64 la)).heap.size by have := Y6.out; simp only [World.size_setCell] at this ⊢; omega)
  replace Kg := Lib.hid (show Blk (w1.setCell ⟨G, 0, none⟩ (.int .i64 la)) (G) 24 #[.int .i64 la, .int .i64 mo, .slice a N c] from Kg.out.set_ 0 (.int .i64 la))
  replace Kx := Lib.hid (show Blk (w1.setCell ⟨G, 0, none⟩ (.int .i64 la)) (G + 1) _ _ from Kx.out.far (p := ⟨G, 0, none⟩) (by simp; try omega) (.int .i64 la))
  replace Kr := Lib.hid (show Blk (w1.setCell ⟨G, 0, none⟩ (.int .i64 la)) (G + 1 + 1) _ _ from Kr.out.far (p := ⟨G, 0, none⟩) (by simp; try omega) (.int .i64 la))
  replace B := Lib.hid (show Below w.heap.size w (w1.setCell ⟨G, 0, none⟩ (.int .i64 la)) from B.out.setCell (p := ⟨G, 0, none⟩) (show w.heap.size ≤ G by have := HG.out; omega) (.int .i64 la))
  replace O6 := Lib.hid (OwnR.far O6.out (p := ⟨G, 1, none⟩) (show G < Z6 by have := H6.out; omega) (.int .i64 mo))
  replace Y6 := Lib.hid (show Z6 ≤ ((w1.setCell ⟨G, 0, none⟩ (.int .i64 la)).setCell ⟨G, 1, none⟩ (.int .i64 mo)).heap.size by have := Y6.out; simp only [World.size_setCell] at this ⊢; omega)
  replace Kg := Lib.hid (show Blk ((w1.setCell ⟨G, 0, none⟩ (.int .i64 la)).setCell ⟨G, 1, none⟩ (.int .i64 mo)) (G) 24 #[.int .i64 la, .int .i64 mo, .slice a N c] from Kg.out.set_ 1 (.int .i64 mo))
  replace Kx := Lib.hid (show Blk ((w1.setCell ⟨G, 0, none⟩ (.int .i64 la)).setCell ⟨G, 1, none⟩ (.int .i64 mo)) (G + 1) _ _ from Kx.out.far (p := ⟨G, 1, none⟩) (by simp; try omega) (.int .i64 mo))
  replace Kr := Lib.hid (show Blk ((w1.setCell ⟨G, 0, none⟩ (.int .i64 la)).setCell ⟨G, 1, none⟩ (.int .i64 mo)) (G + 1 + 1) _ _ from Kr.out.far (p := ⟨G, 1, none⟩) (by simp; try omega) (.int .i64 mo))
  replace B := Lib.hid (show Below w.heap.size w ((w1.setCell ⟨G, 0, none⟩ (.int .i64 la)).setCell ⟨G, 1, none⟩ (.int .i64 mo)) from B.out.setCell (p := ⟨G, 1, none⟩) (show w.heap.size ≤ G by have := HG.out; omega) (.int .i64 mo))
  replace O6 := Lib.hid (OwnR.far O6.out (p := ⟨G, 2, none⟩) (show G < Z6 by have := H6.out; omega) (.slice a6 N c6))
  replace Y6 := Lib.hid (show Z6 ≤ (((w1.setCell ⟨G, 0, none⟩ (.int .i64 la)).setCell ⟨G, 1, none⟩ (.int .i64 mo)).setCell ⟨G, 2, none⟩ (.slice a6 N c6)).heap.size by have := Y6.out; simp only [World.size_setCell] at this ⊢; omega)
  replace Kg := Lib.hid (show Blk (((w1.setCell ⟨G, 0, none⟩ (.int .i64 la)).setCell ⟨G, 1, none⟩ (.int .i64 mo)).setCell ⟨G, 2, none⟩ (.slice a6 N c6)) (G) 24 #[.int .i64 la, .int .i64 mo, .slice a6 N c6] from Kg.out.set_ 2 (.slice a6 N c6))
  replace Kx := Lib.hid (show Blk (((w1.setCell ⟨G, 0, none⟩ (.int .i64 la)).setCell ⟨G, 1, none⟩ (.int .i64 mo)).setCell ⟨G, 2, none⟩ (.slice a6 N c6)) (G + 1) _ _ from Kx.out.far (p := ⟨G, 2, none⟩) (by simp; try omega) (.slice a6 N c6))
  replace Kr := Lib.hid (show Blk (((w1.setCell ⟨G, 0, none⟩ (.int .i64 la)).setCell ⟨G, 1, none⟩ (.int .i64 mo)).setCell ⟨G, 2, none⟩ (.slice a6 N c6)) (G + 1 + 1) _ _ from Kr.out.far (p := ⟨G, 2, none⟩) (by simp; try omega) (.slice a6 N c6))
  replace B := Lib.hid (show Below w.heap.size w (((w1.setCell ⟨G, 0, none⟩ (.int .i64 la)).setCell ⟨G, 1, none⟩ (.int .i64 mo)).setCell ⟨G, 2, none⟩ (.slice a6 N c6)) from B.out.setCell (p := ⟨G, 2, none⟩) (show w.heap.size ≤ G by have := HG.out; omega) (.slice a6 N c6))
  go_upto_region 2 with (fail)
  generalize hw : (((w1.setCell ⟨G, 0, none⟩ (.int .i64 la)).setCell ⟨G, 1, none⟩ (.int .i64 mo)).setCell ⟨G, 2, none⟩ (.slice a6 N c6)) = w2 at Kg Kx Kr O6 Y6 B ⊢
  clear bgc0 bgc1 bgc2 bxc0 bxc1 bxc2 brc0 brc1 brc2 fzg
  clear hw
  obtain ⟨bgc0, bgc1, bgc2⟩ := three Kg.out
  obtain ⟨bxc0, bxc1, bxc2⟩ := three Kx.out
  obtain ⟨brc0, brc1, brc2⟩ := three Kr.out
  have fzg := fun q => Kg.out.frozen q
  have fzr := fun q => Kr.out.frozen q
  go_wp2_with fail
  refine (PL.out a6 c6 _ (own_rows O6.out)).mono ?_
  rintro e w3 ⟨rfl, hb⟩
  replace Kg := Lib.hid (Kg.out.below hb Kg.out.lt)
  replace Kx := Lib.hid (Kx.out.below hb Kx.out.lt)
  replace Kr := Lib.hid (Kr.out.below hb Kr.out.lt)
  replace B := Lib.hid (B.out.trans (hb.mono B.out.size))
  replace O6 := Lib.hid (OwnR.below O6.out hb)
  replace Y6 := Lib.hid (Nat.le_trans Y6.out hb.size)
  clear bgc0 bgc1 bgc2 bxc0 bxc1 bxc2 brc0 brc1 brc2 fzg fzr
  clear hb PL
  obtain ⟨bgc0, bgc1, bgc2⟩ := three Kg.out
  obtain ⟨bxc0, bxc1, bxc2⟩ := three Kx.out
  obtain ⟨brc0, brc1, brc2⟩ := three Kr.out
  have fzg := fun q => Kg.out.frozen q
  have fzr := fun q => Kr.out.frozen q
  have EQ := Lib.hid (show l = withL (x1, 0, 0) l from by rw [HWL.out, if_neg (by simp), if_pos (by first | rfl | trivial)])
  have LQ := Lib.hid (show (withL (x1, 0, 0) l).length = N by rw [← EQ.out]; exact HE.out)
  clear bgc0 bgc1 bgc2 bxc0 bxc1 bxc2 brc0 brc1 brc2 fzg fzr
  obtain ⟨bgc0, bgc1, bgc2⟩ := three Kg.out
  obtain ⟨bxc0, bxc1, bxc2⟩ := three Kx.out
  obtain ⟨brc0, brc1, brc2⟩ := three Kr.out
  have fzr := fun q => Kr.out.frozen q
  replace O6 := Lib.hid (OwnR.far O6.out (p := ⟨G + 1 + 1, 0, none⟩) (show G + 1 + 1 < Z6 by have := H6.out; omega) (.int .i64 la))
  replace Y6 := Lib.hid (show Z6 ≤ (w3.setCell ⟨G + 1 + 1, 0, none⟩ (.int .i64 la)).heap.size by have := Y6.out; simp only [World.size_setCell] at this ⊢; omega)
  replace Kr := Lib.hid (show Blk (w3.setCell ⟨G + 1 + 1, 0, none⟩ (.int .i64 la)) (G + 1 + 1) 24 #[.int .i64 la, .int .i64 0, .slice none 0 0] from Kr.out.set_ 0 (.int .i64 la))
  replace Kg := Lib.hid (show Blk (w3.setCell ⟨G + 1 + 1, 0, none⟩ (.int .i64 la)) (G) _ _ from Kg.out.far (p := ⟨G + 1 + 1, 0, none⟩) (by simp; try omega) (.int .i64 la))
  replace Kx := Lib.hid (show Blk (w3.setCell ⟨G + 1 + 1, 0, none⟩ (.int .i64 la)) (G + 1) _ _ from Kx.out.far (p := ⟨G + 1 + 1, 0, none⟩) (by simp; try omega) (.int .i64 la))
  replace B := Lib.hid (show Below w.heap.size w (w3.setCell ⟨G + 1 + 1, 0, none⟩ (.int .i64 la)) from B.out.setCell (p := ⟨G + 1 + 1, 0, none⟩) (show w.heap.size ≤ G + 1 + 1 by have := HG.out; omega) (.int .i64 la))
  replace O6 := Lib.hid (OwnR.far O6.out (p := ⟨G + 1 + 1, 1, none⟩) (show G + 1 + 1 < Z6 by have := H6.out; omega) (.int .i64 mo))
  replace Y6 := Lib.hid (show Z6 ≤ ((w3.setCell ⟨G + 1 + 1, 0, none⟩ (.int .i64 la)).setCell ⟨G + 1 + 1, 1, none⟩ (.int .i64 mo)).heap.size by have := Y6.out; simp only [World.size_setCell] at this ⊢; omega)
  replace Kr := Lib.hid (show Blk ((w3.setCell ⟨G + 1 + 1, 0, none⟩ (.int .i64 la)).setCell ⟨G + 1 + 1, 1, none⟩ (.int .i64 mo)) (G + 1 + 1) 24 #[.int .i64 la, .int .i64 mo, .slice none 0 0] from Kr.out.set_ 1 (.int .i64 mo))
  replace Kg := Lib.hid (show Blk ((w3.setCell ⟨G + 1 + 1, 0, none⟩ (.int .i64 la)).setCell ⟨G + 1 + 1, 1, none⟩ (.int .i64 mo)) (G) _ _ from Kg.out.far (p := ⟨G + 1 + 1, 1, none⟩) (by simp; try omega) (.int .i64 mo))
  replace Kx := Lib.hid (show Blk ((w3.setCell ⟨G + 1 + 1, 0, none⟩ (.int .i64 la)).setCell ⟨G + 1 + 1, 1, none⟩ (.int .i64 mo)) (G + 1) _ _ from Kx.out.far (p := ⟨G + 1 + 1, 1, none⟩) (by simp; try omega) (.int .i64 mo))
  replace B := Lib.hid (show Below w.heap.size w ((w3.setCell ⟨G + 1 + 1, 0, none⟩ (.int .i64 la)).setCell ⟨G + 1 + 1, 1, none⟩ (.int .i64 mo)) from B.out.setCell (p := ⟨G + 1 + 1, 1, none⟩) (show w.heap.size ≤ G + 1 + 1 by have := HG.out; omega) (.int .i64 mo))
  replace O6 := Lib.hid (OwnR.far O6.out (p := ⟨G + 1 + 1, 2, none⟩) (show G + 1 + 1 < Z6 by have := H6.out; omega) (.slice a6 N c6))
  replace Y6 := Lib.hid (show Z6 ≤ (((w3.setCell ⟨G + 1 + 1, 0, none⟩ (.int .i64 la)).setCell ⟨G + 1 + 1, 1, none⟩ (.int .i64 mo)).setCell ⟨G + 1 + 1, 2, none⟩ (.slice a6 N c6)).heap.size by have := Y6.out; simp only [World.size_setCell] at this ⊢; omega)
  replace Kr := Lib.hid (show Blk (((w3.setCell ⟨G + 1 + 1, 0, none⟩ (.int .i64 la)).setCell ⟨G + 1 + 1, 1, none⟩ (.int .i64 mo)).setCell ⟨G + 1 + 1, 2, none⟩ (.slice a6 N c6)) (G + 1 + 1) 24 #[.int .i64 la, .int .i64 mo, .slice a6 N c6] from Kr.out.set_ 2 (.slice a6 N c6))
  replace Kg := Lib.hid (show Blk (((w3.setCell ⟨G + 1 + 1, 0, none⟩ (.int .i64 la)).setCell ⟨G + 1 + 1, 1, none⟩ (.int .i64 mo)).setCell ⟨G + 1 + 1, 2, none⟩ (.slice a6 N c6)) (G) _ _ from Kg.out.far (p := ⟨G + 1 + 1, 2, none⟩) (by simp; try omega) (.slice a6 N c6))
  replace Kx := Lib.hid (show Blk (((w3.setCell ⟨G + 1 + 1, 0, none⟩ (.int .i64 la)).setCell ⟨G + 1 + 1, 1, none⟩ (.int .i64 mo)).setCell ⟨G + 1 + 1, 2, none⟩ (.slice a6 N c6)) (G + 1) _ _ from Kx.out.far (p := ⟨G + 1 + 1, 2, none⟩) (by simp; try omega) (.slice a6 N c6))
  replace B := Lib.hid (show Below w.heap.size w (((w3.setCell ⟨G + 1 + 1, 0, none⟩ (.int .i64 la)).setCell ⟨G + 1 + 1, 1, none⟩ (.int .i64 mo)).setCell ⟨G + 1 + 1, 2, none⟩ (.slice a6 N c6)) from B.out.setCell (p := ⟨G + 1 + 1, 2, none⟩) (show w.heap.size ≤ G + 1 + 1 by have := HG.out; omega) (.slice a6 N c6))
  go_wp2
  generalize hw : (((w3.setCell ⟨G + 1 + 1, 0, none⟩ (.int .i64 la)).setCell ⟨G + 1 + 1, 1, none⟩ (.int .i64 mo)).setCell ⟨G + 1 + 1, 2, none⟩ (.slice a6 N c6)) = w4 at Kg Kx Kr O6 Y6 B ⊢
  clear bgc0 bgc1 bgc2 bxc0 bxc1 bxc2 brc0 brc1 brc2 fzr
  clear hw
  obtain ⟨d0, d1, d2⟩ := three Kr.out
  refine bodyPost_ret (by simp [results, Tryd.results37, go_sem, d0, d1, d2]; try rfl) rfl ?_
  refine ⟨⟨a6, c6, by rw [LQ.out], ⟨?_, ?_⟩, fun p hp => ?_⟩, B.out⟩
  · rw [← EQ.out]; exact own_cap O6.out
  · rw [← EQ.out]; exact own_rows O6.out
  · have := OwnR.block O6.out p hp; have := H6.out; have := HG.out; omega
set_option maxRecDepth 100000 in
set_option maxHeartbeats 4000000 in
theorem withC_ins (la mo : Int) (a : Option Addr) (c : Nat) (l : List Gr) (x : Gr) (w : World) (hp : GrA w a l) (ord : OrdG l) (hm : l.length ≤ 10000) (hh : hasG x.1 l = false) (h2 : ¬ x = (x.1, 0, 0)) :
    Calls Tryd.prog 37 #[.agg #[.int .i64 la, .int .i64 mo, .slice a l.length c], .agg (encG x).toArray] w fun e w' => (∃ a' c', e = .returned (.agg #[.int .i64 la, .int .i64 mo, .slice a' (withL x l).length c']) ∧ ((withL x l).length ≤ c' ∧ GrA w' a' (withL x l)) ∧ ∀ p, a' = some p → w.heap.size ≤ p.block) ∧ Below w.heap.size w w' := by
  have HP := Lib.hid hp
  have CL := Lib.hid (fun (X : World) (h : GrA X a l) => copied_any la mo a c l X h (by omega))
  have PL := Lib.hid (fun (a6 : Option Addr) (c6 : Nat) (X : World) (h : GrA X a6 l) => place_any la mo a6 c6 l x.1 X h ord (by omega))
  have HWL := Lib.hid (show withL x l = if hasG x.1 l = true then l.set (posG x.1 l) x else if x = (x.1, 0, 0) then l else insL l (posG x.1 l) x from rfl)
  have HI := Lib.hid (show posG x.1 l ≤ l.length ∧ (hasG x.1 l = true → posG x.1 l < l.length) from ⟨posG_le _ _, fun q => (has_yes q).1⟩)
  rw [hh] at PL HWL HI
  obtain ⟨i, hi⟩ : ∃ i, posG x.1 l = i := ⟨_, rfl⟩
  rw [hi] at PL HWL HI
  obtain ⟨N, hN⟩ : ∃ N, l.length = N := ⟨_, rfl⟩
  have HE := Lib.hid hN
  simp only [hN] at PL CL HI
  rw [hN] at hm ⊢
  obtain ⟨x1, x2, x3⟩ := x
  have H2 := Lib.hid h2
  have heq : ∀ W : World, (binOp .neq 88 (.agg #[.int .i64 x1, .int .i64 x2, .int .i64 x3]) (.agg #[.int .i64 x1, .int .i64 0, .int .i64 0])).run Tryd.prog W = .ok (.bool true) W := fun W => eq_grant_no x1 x2 x3 W (fun q => h2 (by rw [q.1, q.2]))
  simp only [encG] at PL HWL ⊢
  have HMx := Lib.hid hm
  clear hp hN ord hh hi hm h2
  go_enter Tryd.func37, Tryd.ntmps37
  obtain ⟨G, hG⟩ : ∃ G, w.heap.size = G := ⟨_, rfl⟩
  have HG := Lib.hid hG
  obtain ⟨w0, hw0, Kg, Kx, Kr, B⟩ : ∃ X, (((w.alloc (.cells #[.int .i64 la, .int .i64 mo, .slice a N c] 24)).alloc (.cells #[.int .i64 x1, .int .i64 x2, .int .i64 x3] 88)).alloc (.cells #[.int .i64 0, .int .i64 0, .slice none 0 0] 24)) = X ∧ Hid (Blk X (G) 24 #[.int .i64 la, .int .i64 mo, .slice a N c]) ∧ Hid (Blk X (G + 1) 88 #[.int .i64 x1, .int .i64 x2, .int .i64 x3]) ∧ Hid (Blk X (G + 1 + 1) 24 #[.int .i64 0, .int .i64 0, .slice none 0 0]) ∧ Hid (Below w.heap.size w X) := ⟨_, rfl, Lib.hid (((Blk.new' _ _ _ _ hG rfl).alloc _).alloc _), Lib.hid ((Blk.new' _ _ _ _ (by rw [World.size_alloc, hG]) rfl).alloc _), Lib.hid (Blk.new' _ _ _ _ (by rw [World.size_alloc, World.size_alloc, hG]) rfl), Lib.hid (by (repeat' (first | (with_reducible exact Below.refl _ _) | (with_reducible assumption) | (with_reducible refine Below.alloc ?_ ?_ _) | (with_reducible refine Below.drew ?_) | (with_reducible refine below_dn ?_) | (with_reducible refine Below.setCell ?_ ?_ _) | (with_reducible exact Nat.le_refl _) | omega | (simp only [World.size_alloc, World.size_setCell, World.size_drew]; omega) | (simp; omega) | (simp; done))))⟩
  go_upto_region 1 with (fail)
  try rw [hG]
  try rw [hw0]
  clear hw0 hG
  obtain ⟨bgc0, bgc1, bgc2⟩ := three Kg.out
  obtain ⟨bxc0, bxc1, bxc2⟩ := three Kx.out
  obtain ⟨brc0, brc1, brc2⟩ := three Kr.out
  have fzg := fun q => Kg.out.frozen q
  have fzx := fun q => Kx.out.frozen q
  have fzr := fun q => Kr.out.frozen q
  have HW6 := Lib.hid (show G + 3 ≤ w0.heap.size by have := Kr.out.lt; omega)
  go_wp2_with fail
  refine (CL.out _ (HP.out.mono B.out)).mono ?_
  rintro e w1 ⟨⟨a6, c6, Z6, rfl, ho, hz1, hz2⟩, hb⟩
  have H6 := Lib.hid (show G + 3 ≤ Z6 from Nat.le_trans HW6.out hz1)
  have Y6 := Lib.hid hz2
  have O6 := Lib.hid ho
  replace Kg := Lib.hid (Kg.out.below hb Kg.out.lt)
  replace Kx := Lib.hid (Kx.out.below hb Kx.out.lt)
  replace Kr := Lib.hid (Kr.out.below hb Kr.out.lt)
  replace B := Lib.hid (B.out.trans (hb.mono B.out.size))
  clear bgc0 bgc1 bgc2 bxc0 bxc1 bxc2 brc0 brc1 brc2 fzg fzx fzr
  clear hb ho CL HW6 hz1 hz2
  obtain ⟨bgc0, bgc1, bgc2⟩ := three Kg.out
  obtain ⟨bxc0, bxc1, bxc2⟩ := three Kx.out
  obtain ⟨brc0, brc1, brc2⟩ := three Kr.out
  have fzg := fun q => Kg.out.frozen q
  have fzr := fun q => Kr.out.frozen q
  clear bgc0 bgc1 bgc2 bxc0 bxc1 bxc2 brc0 brc1 brc2 fzg fzr
  obtain ⟨bgc0, bgc1, bgc2⟩ := three Kg.out
  obtain ⟨bxc0, bxc1, bxc2⟩ := three Kx.out
  obtain ⟨brc0, brc1, brc2⟩ := three Kr.out
  have fzg := fun q => Kg.out.frozen q
  replace O6 := Lib.hid (OwnR.far O6.out (p := ⟨G, 0, none⟩) (show G < Z6 by have := H6.out; omega) (.int .i64 la))
  replace Y6 := Lib.hid (show Z6 ≤ (w1.setCell ⟨G, 0, none⟩ (.int .i64 la)).heap.size by have := Y6.out; simp only [World.size_setCell] at this ⊢; omega)
  replace Kg := Lib.hid (show Blk (w1.setCell ⟨G, 0, none⟩ (.int .i64 la)) (G) 24 #[.int .i64 la, .int .i64 mo, .slice a N c] from Kg.out.set_ 0 (.int .i64 la))
  replace Kx := Lib.hid (show Blk (w1.setCell ⟨G, 0, none⟩ (.int .i64 la)) (G + 1) _ _ from Kx.out.far (p := ⟨G, 0, none⟩) (by simp; try omega) (.int .i64 la))
  replace Kr := Lib.hid (show Blk (w1.setCell ⟨G, 0, none⟩ (.int .i64 la)) (G + 1 + 1) _ _ from Kr.out.far (p := ⟨G, 0, none⟩) (by simp; try omega) (.int .i64 la))
  replace B := Lib.hid (show Below w.heap.size w (w1.setCell ⟨G, 0, none⟩ (.int .i64 la)) from B.out.setCell (p := ⟨G, 0, none⟩) (show w.heap.size ≤ G by have := HG.out; omega) (.int .i64 la))
  replace O6 := Lib.hid (OwnR.far O6.out (p := ⟨G, 1, none⟩) (show G < Z6 by have := H6.out; omega) (.int .i64 mo))
  replace Y6 := Lib.hid (show Z6 ≤ ((w1.setCell ⟨G, 0, none⟩ (.int .i64 la)).setCell ⟨G, 1, none⟩ (.int .i64 mo)).heap.size by have := Y6.out; simp only [World.size_setCell] at this ⊢; omega)
  replace Kg := Lib.hid (show Blk ((w1.setCell ⟨G, 0, none⟩ (.int .i64 la)).setCell ⟨G, 1, none⟩ (.int .i64 mo)) (G) 24 #[.int .i64 la, .int .i64 mo, .slice a N c] from Kg.out.set_ 1 (.int .i64 mo))
  replace Kx := Lib.hid (show Blk ((w1.setCell ⟨G, 0, none⟩ (.int .i64 la)).setCell ⟨G, 1, none⟩ (.int .i64 mo)) (G + 1) _ _ from Kx.out.far (p := ⟨G, 1, none⟩) (by simp; try omega) (.int .i64 mo))
  replace Kr := Lib.hid (show Blk ((w1.setCell ⟨G, 0, none⟩ (.int .i64 la)).setCell ⟨G, 1, none⟩ (.int .i64 mo)) (G + 1 + 1) _ _ from Kr.out.far (p := ⟨G, 1, none⟩) (by simp; try omega) (.int .i64 mo))
  replace B := Lib.hid (show Below w.heap.size w ((w1.setCell ⟨G, 0, none⟩ (.int .i64 la)).setCell ⟨G, 1, none⟩ (.int .i64 mo)) from B.out.setCell (p := ⟨G, 1, none⟩) (show w.heap.size ≤ G by have := HG.out; omega) (.int .i64 mo))
  replace O6 := Lib.hid (OwnR.far O6.out (p := ⟨G, 2, none⟩) (show G < Z6 by have := H6.out; omega) (.slice a6 N c6))
  replace Y6 := Lib.hid (show Z6 ≤ (((w1.setCell ⟨G, 0, none⟩ (.int .i64 la)).setCell ⟨G, 1, none⟩ (.int .i64 mo)).setCell ⟨G, 2, none⟩ (.slice a6 N c6)).heap.size by have := Y6.out; simp only [World.size_setCell] at this ⊢; omega)
  replace Kg := Lib.hid (show Blk (((w1.setCell ⟨G, 0, none⟩ (.int .i64 la)).setCell ⟨G, 1, none⟩ (.int .i64 mo)).setCell ⟨G, 2, none⟩ (.slice a6 N c6)) (G) 24 #[.int .i64 la, .int .i64 mo, .slice a6 N c6] from Kg.out.set_ 2 (.slice a6 N c6))
  replace Kx := Lib.hid (show Blk (((w1.setCell ⟨G, 0, none⟩ (.int .i64 la)).setCell ⟨G, 1, none⟩ (.int .i64 mo)).setCell ⟨G, 2, none⟩ (.slice a6 N c6)) (G + 1) _ _ from Kx.out.far (p := ⟨G, 2, none⟩) (by simp; try omega) (.slice a6 N c6))
  replace Kr := Lib.hid (show Blk (((w1.setCell ⟨G, 0, none⟩ (.int .i64 la)).setCell ⟨G, 1, none⟩ (.int .i64 mo)).setCell ⟨G, 2, none⟩ (.slice a6 N c6)) (G + 1 + 1) _ _ from Kr.out.far (p := ⟨G, 2, none⟩) (by simp; try omega) (.slice a6 N c6))
  replace B := Lib.hid (show Below w.heap.size w (((w1.setCell ⟨G, 0, none⟩ (.int .i64 la)).setCell ⟨G, 1, none⟩ (.int .i64 mo)).setCell ⟨G, 2, none⟩ (.slice a6 N c6)) from B.out.setCell (p := ⟨G, 2, none⟩) (show w.heap.size ≤ G by have := HG.out; omega) (.slice a6 N c6))
  go_upto_region 2 with (fail)
  generalize hw : (((w1.setCell ⟨G, 0, none⟩ (.int .i64 la)).setCell ⟨G, 1, none⟩ (.int .i64 mo)).setCell ⟨G, 2, none⟩ (.slice a6 N c6)) = w2 at Kg Kx Kr O6 Y6 B ⊢
  clear bgc0 bgc1 bgc2 bxc0 bxc1 bxc2 brc0 brc1 brc2 fzg
  clear hw
  obtain ⟨bgc0, bgc1, bgc2⟩ := three Kg.out
  obtain ⟨bxc0, bxc1, bxc2⟩ := three Kx.out
  obtain ⟨brc0, brc1, brc2⟩ := three Kr.out
  have fzg := fun q => Kg.out.frozen q
  have fzr := fun q => Kr.out.frozen q
  go_wp2_with fail
  refine (PL.out a6 c6 _ (own_rows O6.out)).mono ?_
  rintro e w3 ⟨rfl, hb⟩
  replace Kg := Lib.hid (Kg.out.below hb Kg.out.lt)
  replace Kx := Lib.hid (Kx.out.below hb Kx.out.lt)
  replace Kr := Lib.hid (Kr.out.below hb Kr.out.lt)
  replace B := Lib.hid (B.out.trans (hb.mono B.out.size))
  replace O6 := Lib.hid (OwnR.below O6.out hb)
  replace Y6 := Lib.hid (Nat.le_trans Y6.out hb.size)
  clear bgc0 bgc1 bgc2 bxc0 bxc1 bxc2 brc0 brc1 brc2 fzg fzr
  clear hb PL
  obtain ⟨bgc0, bgc1, bgc2⟩ := three Kg.out
  obtain ⟨bxc0, bxc1, bxc2⟩ := three Kx.out
  obtain ⟨brc0, brc1, brc2⟩ := three Kr.out
  have fzg := fun q => Kg.out.frozen q
  have fzr := fun q => Kr.out.frozen q
  have IN := Lib.hid (fun (X : World) (vb : Nat) (o : OwnA X Z6 (.slice a6 N c6) l) (hB : Z6 ≤ X.heap.size) (hx : Blk X vb 88 (encG (x1, x2, x3)).toArray) (hvb : ∀ k, (Value.slice a6 N c6).ownBlock = some k → vb ≠ k) => ins_any (.slice a6 N c6) l i (x1, x2, x3) vb Z6 X o (by rw [HE.out]; exact HI.out.1) (by rw [HE.out]; have := HMx.out; omega) hB hx hvb)
  have OLT := Lib.hid (fun k hk => (own_lt O6.out k hk).2)
  go_wp2_with fail
  refine (IN.out _ w3.heap.size (OwnR.alloc O6.out _) (by have := Y6.out; simp; omega) (Blk.new w3 _ _) (fun k hk => by have := OLT.out k hk; omega)).mono ?_
  rintro e w4 ⟨v9, rfl, ho9, hb9⟩
  have zz := H6.out
  have yy := Y6.out
  replace Kg := Lib.hid ((Kg.out.alloc (.cells #[.int .i64 x1, .int .i64 x2, .int .i64 x3] 88)).below hb9 (by omega))
  replace Kx := Lib.hid ((Kx.out.alloc (.cells #[.int .i64 x1, .int .i64 x2, .int .i64 x3] 88)).below hb9 (by omega))
  replace Kr := Lib.hid ((Kr.out.alloc (.cells #[.int .i64 x1, .int .i64 x2, .int .i64 x3] 88)).below hb9 (by omega))
  replace B := Lib.hid ((B.out.alloc B.out.size (.cells #[.int .i64 x1, .int .i64 x2, .int .i64 x3] 88)).trans (hb9.mono (by have := HG.out; omega)))
  replace Y6 := Lib.hid (show Z6 ≤ w4.heap.size by have := hb9.size; simp at this; omega)
  have O8 := Lib.hid ho9
  clear zz yy hb9 ho9 IN O6 OLT
  clear bgc0 bgc1 bgc2 bxc0 bxc1 bxc2 brc0 brc1 brc2 fzg fzr
  obtain ⟨a7, c7, rfl, -, -⟩ := OwnR.view encG_len O8.out
  obtain ⟨l7, hl7⟩ : ∃ l7, insL l i (x1, x2, x3) = l7 := ⟨_, rfl⟩
  rw [hl7] at O8
  have EQ := Lib.hid (show l7 = withL (x1, x2, x3) l from by rw [HWL.out, if_neg (by simp), if_neg (by exact H2.out), hl7])
  have LQ := Lib.hid (show (withL (x1, x2, x3) l).length = l7.length by rw [← EQ.out])
  have O6 := O8
  clear O8
  obtain ⟨bgc0, bgc1, bgc2⟩ := three Kg.out
  obtain ⟨bxc0, bxc1, bxc2⟩ := three Kx.out
  obtain ⟨brc0, brc1, brc2⟩ := three Kr.out
  have fzg := fun q => Kg.out.frozen q
  have fzr := fun q => Kr.out.frozen q
  obtain ⟨N7, hN7⟩ : ∃ n, l7.length = n := ⟨_, rfl⟩
  rw [hN7] at LQ O6
  try rw [hl7, hN7]
  clear hl7 hN7
  clear bgc0 bgc1 bgc2 bxc0 bxc1 bxc2 brc0 brc1 brc2 fzg fzr
  obtain ⟨bgc0, bgc1, bgc2⟩ := three Kg.out
  obtain ⟨bxc0, bxc1, bxc2⟩ := three Kx.out
  obtain ⟨brc0, brc1, brc2⟩ := three Kr.out
  have fzg := fun q => Kg.out.frozen q
  replace O6 := Lib.hid (OwnR.far O6.out (p := ⟨G, 2, none⟩) (show G < Z6 by have := H6.out; omega) (.slice a7 N7 c7))
  replace Y6 := Lib.hid (show Z6 ≤ (w4.setCell ⟨G, 2, none⟩ (.slice a7 N7 c7)).heap.size by have := Y6.out; simp only [World.size_setCell] at this ⊢; omega)
  replace Kg := Lib.hid (show Blk (w4.setCell ⟨G, 2, none⟩ (.slice a7 N7 c7)) (G) 24 #[.int .i64 la, .int .i64 mo, .slice a7 N7 c7] from Kg.out.set_ 2 (.slice a7 N7 c7))
  replace Kx := Lib.hid (show Blk (w4.setCell ⟨G, 2, none⟩ (.slice a7 N7 c7)) (G + 1) _ _ from Kx.out.far (p := ⟨G, 2, none⟩) (by simp; try omega) (.slice a7 N7 c7))
  replace Kr := Lib.hid (show Blk (w4.setCell ⟨G, 2, none⟩ (.slice a7 N7 c7)) (G + 1 + 1) _ _ from Kr.out.far (p := ⟨G, 2, none⟩) (by simp; try omega) (.slice a7 N7 c7))
  replace B := Lib.hid (show Below w.heap.size w (w4.setCell ⟨G, 2, none⟩ (.slice a7 N7 c7)) from B.out.setCell (p := ⟨G, 2, none⟩) (show w.heap.size ≤ G by have := HG.out; omega) (.slice a7 N7 c7))
  go_upto_region 7 with (fail)
  generalize hw : (w4.setCell ⟨G, 2, none⟩ (.slice a7 N7 c7)) = w5 at Kg Kx Kr O6 Y6 B ⊢
  clear bgc0 bgc1 bgc2 bxc0 bxc1 bxc2 brc0 brc1 brc2 fzg
  clear hw
  obtain ⟨bgc0, bgc1, bgc2⟩ := three Kg.out
  obtain ⟨bxc0, bxc1, bxc2⟩ := three Kx.out
  obtain ⟨brc0, brc1, brc2⟩ := three Kr.out
  have fzg := fun q => Kg.out.frozen q
  have fzr := fun q => Kr.out.frozen q
  clear bgc0 bgc1 bgc2 bxc0 bxc1 bxc2 brc0 brc1 brc2 fzg fzr
  obtain ⟨bgc0, bgc1, bgc2⟩ := three Kg.out
  obtain ⟨bxc0, bxc1, bxc2⟩ := three Kx.out
  obtain ⟨brc0, brc1, brc2⟩ := three Kr.out
  have fzr := fun q => Kr.out.frozen q
  replace O6 := Lib.hid (OwnR.far O6.out (p := ⟨G + 1 + 1, 0, none⟩) (show G + 1 + 1 < Z6 by have := H6.out; omega) (.int .i64 la))
  replace Y6 := Lib.hid (show Z6 ≤ (w5.setCell ⟨G + 1 + 1, 0, none⟩ (.int .i64 la)).heap.size by have := Y6.out; simp only [World.size_setCell] at this ⊢; omega)
  replace Kr := Lib.hid (show Blk (w5.setCell ⟨G + 1 + 1, 0, none⟩ (.int .i64 la)) (G + 1 + 1) 24 #[.int .i64 la, .int .i64 0, .slice none 0 0] from Kr.out.set_ 0 (.int .i64 la))
  replace Kg := Lib.hid (show Blk (w5.setCell ⟨G + 1 + 1, 0, none⟩ (.int .i64 la)) (G) _ _ from Kg.out.far (p := ⟨G + 1 + 1, 0, none⟩) (by simp; try omega) (.int .i64 la))
  replace Kx := Lib.hid (show Blk (w5.setCell ⟨G + 1 + 1, 0, none⟩ (.int .i64 la)) (G + 1) _ _ from Kx.out.far (p := ⟨G + 1 + 1, 0, none⟩) (by simp; try omega) (.int .i64 la))
  replace B := Lib.hid (show Below w.heap.size w (w5.setCell ⟨G + 1 + 1, 0, none⟩ (.int .i64 la)) from B.out.setCell (p := ⟨G + 1 + 1, 0, none⟩) (show w.heap.size ≤ G + 1 + 1 by have := HG.out; omega) (.int .i64 la))
  replace O6 := Lib.hid (OwnR.far O6.out (p := ⟨G + 1 + 1, 1, none⟩) (show G + 1 + 1 < Z6 by have := H6.out; omega) (.int .i64 mo))
  replace Y6 := Lib.hid (show Z6 ≤ ((w5.setCell ⟨G + 1 + 1, 0, none⟩ (.int .i64 la)).setCell ⟨G + 1 + 1, 1, none⟩ (.int .i64 mo)).heap.size by have := Y6.out; simp only [World.size_setCell] at this ⊢; omega)
  replace Kr := Lib.hid (show Blk ((w5.setCell ⟨G + 1 + 1, 0, none⟩ (.int .i64 la)).setCell ⟨G + 1 + 1, 1, none⟩ (.int .i64 mo)) (G + 1 + 1) 24 #[.int .i64 la, .int .i64 mo, .slice none 0 0] from Kr.out.set_ 1 (.int .i64 mo))
  replace Kg := Lib.hid (show Blk ((w5.setCell ⟨G + 1 + 1, 0, none⟩ (.int .i64 la)).setCell ⟨G + 1 + 1, 1, none⟩ (.int .i64 mo)) (G) _ _ from Kg.out.far (p := ⟨G + 1 + 1, 1, none⟩) (by simp; try omega) (.int .i64 mo))
  replace Kx := Lib.hid (show Blk ((w5.setCell ⟨G + 1 + 1, 0, none⟩ (.int .i64 la)).setCell ⟨G + 1 + 1, 1, none⟩ (.int .i64 mo)) (G + 1) _ _ from Kx.out.far (p := ⟨G + 1 + 1, 1, none⟩) (by simp; try omega) (.int .i64 mo))
  replace B := Lib.hid (show Below w.heap.size w ((w5.setCell ⟨G + 1 + 1, 0, none⟩ (.int .i64 la)).setCell ⟨G + 1 + 1, 1, none⟩ (.int .i64 mo)) from B.out.setCell (p := ⟨G + 1 + 1, 1, none⟩) (show w.heap.size ≤ G + 1 + 1 by have := HG.out; omega) (.int .i64 mo))
  replace O6 := Lib.hid (OwnR.far O6.out (p := ⟨G + 1 + 1, 2, none⟩) (show G + 1 + 1 < Z6 by have := H6.out; omega) (.slice a7 N7 c7))
  replace Y6 := Lib.hid (show Z6 ≤ (((w5.setCell ⟨G + 1 + 1, 0, none⟩ (.int .i64 la)).setCell ⟨G + 1 + 1, 1, none⟩ (.int .i64 mo)).setCell ⟨G + 1 + 1, 2, none⟩ (.slice a7 N7 c7)).heap.size by have := Y6.out; simp only [World.size_setCell] at this ⊢; omega)
  replace Kr := Lib.hid (show Blk (((w5.setCell ⟨G + 1 + 1, 0, none⟩ (.int .i64 la)).setCell ⟨G + 1 + 1, 1, none⟩ (.int .i64 mo)).setCell ⟨G + 1 + 1, 2, none⟩ (.slice a7 N7 c7)) (G + 1 + 1) 24 #[.int .i64 la, .int .i64 mo, .slice a7 N7 c7] from Kr.out.set_ 2 (.slice a7 N7 c7))
  replace Kg := Lib.hid (show Blk (((w5.setCell ⟨G + 1 + 1, 0, none⟩ (.int .i64 la)).setCell ⟨G + 1 + 1, 1, none⟩ (.int .i64 mo)).setCell ⟨G + 1 + 1, 2, none⟩ (.slice a7 N7 c7)) (G) _ _ from Kg.out.far (p := ⟨G + 1 + 1, 2, none⟩) (by simp; try omega) (.slice a7 N7 c7))
  replace Kx := Lib.hid (show Blk (((w5.setCell ⟨G + 1 + 1, 0, none⟩ (.int .i64 la)).setCell ⟨G + 1 + 1, 1, none⟩ (.int .i64 mo)).setCell ⟨G + 1 + 1, 2, none⟩ (.slice a7 N7 c7)) (G + 1) _ _ from Kx.out.far (p := ⟨G + 1 + 1, 2, none⟩) (by simp; try omega) (.slice a7 N7 c7))
  replace B := Lib.hid (show Below w.heap.size w (((w5.setCell ⟨G + 1 + 1, 0, none⟩ (.int .i64 la)).setCell ⟨G + 1 + 1, 1, none⟩ (.int .i64 mo)).setCell ⟨G + 1 + 1, 2, none⟩ (.slice a7 N7 c7)) from B.out.setCell (p := ⟨G + 1 + 1, 2, none⟩) (show w.heap.size ≤ G + 1 + 1 by have := HG.out; omega) (.slice a7 N7 c7))
  go_wp2
  generalize hw : (((w5.setCell ⟨G + 1 + 1, 0, none⟩ (.int .i64 la)).setCell ⟨G + 1 + 1, 1, none⟩ (.int .i64 mo)).setCell ⟨G + 1 + 1, 2, none⟩ (.slice a7 N7 c7)) = w6 at Kg Kx Kr O6 Y6 B ⊢
  clear bgc0 bgc1 bgc2 bxc0 bxc1 bxc2 brc0 brc1 brc2 fzr
  clear hw
  obtain ⟨d0, d1, d2⟩ := three Kr.out
  refine bodyPost_ret (by simp [results, Tryd.results37, go_sem, d0, d1, d2]; try rfl) rfl ?_
  refine ⟨⟨a7, c7, by rw [LQ.out], ⟨?_, ?_⟩, fun p hp => ?_⟩, B.out⟩
  · rw [← EQ.out]; exact own_cap O6.out
  · rw [← EQ.out]; exact own_rows O6.out
  · have := OwnR.block O6.out p hp; have := H6.out; have := HG.out; omega
theorem withC_any (la mo : Int) (a : Option Addr) (c : Nat) (l : List Gr) (x : Gr) (w : World) (hp : GrA w a l) (ord : OrdG l) (hm : l.length ≤ 10000) :
    Calls Tryd.prog 37 #[.agg #[.int .i64 la, .int .i64 mo, .slice a l.length c], .agg (encG x).toArray] w fun e w' => (∃ a' c', e = .returned (.agg #[.int .i64 la, .int .i64 mo, .slice a' (withL x l).length c']) ∧ ((withL x l).length ≤ c' ∧ GrA w' a' (withL x l)) ∧ ∀ p, a' = some p → w.heap.size ≤ p.block) ∧ Below w.heap.size w w' := by
  cases hh : hasG x.1 l with
  | true => exact withC_found la mo a c l x w hp ord hm hh
  | false =>
    by_cases h2 : x = (x.1, 0, 0)
    · exact withC_empty la mo a c l x w hp ord hm hh h2
    · exact withC_ins la mo a c l x w hp ord hm hh h2
end Le
end
section
namespace Am
open Go Le
set_option maxRecDepth 100000
section
variable [Base]
theorem copied_ec (la mo : Int) (l : List Gr) (hm : l.length ≤ 1000000) : EC Tryd.prog 33 [] [.agg [iv la, iv mo, gsA l]] [] (.agg [iv la, iv mo, gsA l]) :=
  EC.ofBelow ⟨_, _, Tryd.func33, rfl, rfl⟩ fun S w args _ _ hx => by
    obtain ⟨v, r, rfl, h1, q⟩ := LR.inv hx
    obtain ⟨a, c, rfl, hr⟩ := grants_at h1
    rw [LR.inv0 q]
    refine (copied_any la mo a c l w hr hm).mono fun e w' ⟨⟨a', c', Z, he, ho, hz1, hz2⟩, hb⟩ => ⟨_, he, hb, ?_⟩
    exact (LR.cons (.v _) (LR.cons (.v _) (LR.cons (VR.ofRows encG_len (own_cap ho) (own_rows ho) (fun p hp h0 => .inr ⟨Nat.le_trans hz1 (OwnR.block ho p hp), rows_lt (own_rows ho) h0 p hp⟩)) LR.nil))).agg
theorem grantOf_ec (la mo : Int) (l : List Gr) (n : Int) (ord : OrdG l) (hm : l.length ≤ 1000000) : EC Tryd.prog 36 [] [.agg [iv la, iv mo, gsA l], iv n] [] (.agg (vrow (encG (rowL n l)))) :=
  EC.ofBelow ⟨_, _, Tryd.func36, rfl, rfl⟩ fun S w args _ _ hx => by
    obtain ⟨v, r, rfl, h1, q⟩ := LR.inv hx
    obtain ⟨v2, r2, rfl, h2, q2⟩ := LR.inv q
    obtain ⟨a, c, rfl, hr⟩ := grants_at h1
    rw [LR.inv0 q2, h2.v_eq]
    exact (grantOf_any la mo a c l n w hr ord hm).mono fun e w' ⟨he, hb⟩ => ⟨_, he, hb, VR.ofAgg _⟩
theorem with_ec (la mo : Int) (l : List Gr) (x : Gr) (ord : OrdG l) (hm : l.length ≤ 10000) : EC Tryd.prog 37 [] [.agg [iv la, iv mo, gsA l], .agg (vrow (encG x))] [] (.agg [iv la, iv mo, gsA (withL x l)]) :=
  EC.ofBelow ⟨_, _, Tryd.func37, rfl, rfl⟩ fun S w args _ _ hx => by
    obtain ⟨v, r, rfl, h1, q⟩ := LR.inv hx
    obtain ⟨v2, r2, rfl, h2, q2⟩ := LR.inv q
    obtain ⟨a, c, rfl, hr⟩ := grants_at h1
    rw [LR.inv0 q2, VR.aggv h2]
    refine (withC_any la mo a c l x w hr ord hm).mono fun e w' ⟨⟨a', c', he, ⟨hc, ho⟩, hf⟩, hb⟩ => ⟨_, he, hb, ?_⟩
    exact (LR.cons (.v _) (LR.cons (.v _) (LR.cons (VR.ofRows encG_len hc ho (fun p hp h0 => .inr ⟨hf p hp, rows_lt ho h0 p hp⟩)) LR.nil))).agg
theorem laid_of {w : World} (h : Hs.LaidC Base.w) (hl : Laid0 w) : Hs.LaidC w := ⟨fun k hk => by
  have h1 := h.rounds k hk
  exact cell_keep (hl _ (by
    rcases Nat.lt_or_ge 0 Base.w.heap.size with q | q
    · exact q
    · unfold World.cell? at h1
      simp [Array.getElem?_eq_none q] at h1)) h1⟩
theorem sanity_ec (h : Hs.LaidC Base.w) : EC Tryd.prog 7 [] [] [] (bv true) :=
  EC.ofBelow ⟨_, _, Tryd.func7, rfl, rfl⟩ fun S w args hl _ hx => by
    rw [LR.inv0 hx]
    exact (sanity_any w (laid_of h hl)).mono fun e w' ⟨he, hb⟩ => ⟨_, he, hb, .v _⟩
end
end Am
end
section
namespace Am
open Go
attribute [local go_sem] true_implies false_implies List.take_length bne_self_eq_false beq_self_eq_true List.forall_mem_cons List.not_mem_nil false_imp_iff allOne_nil allOne_cons iv bv Value.oneCell' astep aexe asem AS.put AS.app AS.ev look eff effIf binE unE convE lenE loadE storeE fieldAddrE fieldE indexAddrE indexE sliceE low bound extractE pickE minE allocE boxE buildE buildSliceE makeSliceE appendE elsOf aliveB pairs fillA litEls partOf tdesc TI.isAgg KD.row AV.cells AV.one guardV Option.map_some Option.map_none Option.getD_some Option.bind_some Option.bind_none List.map_cons List.map_nil List.nil_append List.cons_append List.append_nil true_and and_true cond_true cond_false Nat.zero_add Nat.add_zero Nat.zero_mul Nat.mul_zero List.getElem?_cons_zero List.getElem?_cons_succ List.getElem?_nil List.getElem?_toArray List.length_cons List.length_nil List.size_toArray List.take_succ_cons List.take_zero List.drop_succ_cons List.drop_zero List.drop_nil List.take_nil List.set_cons_zero List.set_cons_succ Bool.not_true Bool.not_false List.flatMap_cons List.flatMap_nil idA false_and forall_eq implies_true Bool.false_eq_true imp_false not_true_eq_false not_false_eq_true goInt Int.toNat_natCast ne_eq Nat.le_refl and_self List.append_assoc AV.ren AV.ren2 AV.ren1 AV.ren0 updC List.zipIdx_cons List.zipIdx_nil rho Blk.ren frzT frzB frzA ti_2 ti_3 ti_4 ti_5 ti_9 ti_12 ti_13 ti_21 ti_22 ti_23 ti_24 ti_25 ti_26 ti_27 ti_28 ti_30 ti_35 ti_36 ti_37 ti_38 ti_43 ti_46 ti_47 ti_51 ti_52 ti_54 ti_55 ti_57 ti_58 ti_64 ti_65 ti_66 ti_67 ti_68 ti_69 ti_70 ti_71 ti_75 ti_76 ti_79 ti_80 ti_87 ti_88 ti_92 ti_112 ti_117 ti_118 ti_122
set_option maxRecDepth 100000
theorem conf_ec0 [Base] (la mo n ep r1 r2 r3 : Int) (G G2 : List (List AV)) (hV : EC Tryd.prog 20 [] [.agg [iv la, iv mo, .sl G]] [] (bv true)) (hs : 0 ≤ n ∧ n < 64) (he : 0 ≤ ep ∧ ep ≤ la)
    (hR : EC Tryd.prog 36 [] [.agg [iv la, iv mo, .sl G], iv n] [] (.agg [iv r1, iv r2, iv r3])) (hP : EC Tryd.prog 37 [] [.agg [iv la, iv mo, .sl G], .agg [iv r1, iv (max r2 ep), iv r3]] [] (.agg [iv la, iv mo, .sl G2])) :
    EC Tryd.prog 10 [] [.agg [iv la, iv mo, .sl G], iv n, iv ep] [] (.tup [.agg [iv la, iv mo, .sl G2], iv 0]) := by
  have w1 : (if ep > r2 then ep else r2) = max r2 ep := by split <;> omega
  have w2 := w1
  have w3 := w1
  have w4 := w1
  have w5 := w1
  have w6 := w1
  refine EC_of_awp tiOk mixed Tryd.func10 rfl rfl (by kernel_rfl) (by simp [Tryd.f10]) ?_
  simp only [start, List.zipIdx_cons, List.zipIdx_nil, List.map_cons, List.map_nil, List.length_nil, List.length_cons, Nat.zero_add, Nat.reduceAdd]
  (repeat' (first | (with_reducible first | refine zqA (fun _ _ => ?_) | refine zqB ?_ | refine zqC ?_ | refine zqD ?_ | refine zqE ?_ | refine zqF ?_ | refine zqG ?_ | refine zqH ?_ | refine zqI ?_ | refine zqJ ?_ | refine zqK ?_ | refine zqL (by decide) ?_) | (with_reducible refine zqM fun _ _ => ?_) | ((with_reducible refine zqP fun _ _ => ?_); simp only [go_sem, seval, w1, w2, w3, w4, w5, w6]) | ((with_reducible refine zqQ ?_); simp only [go_sem, seval]) | ((with_reducible refine zqN fun _ _ => ?_); simp only [go_sem, alist, adraw, seval]) | (with_reducible first | refine And.intro trivial ?_ | apply_assumption -exfalso -symm)))
  refine ⟨[], _, CallEff.pure (hV) (Nat.zero_le _) rfl rfl, ?_⟩; simp only [go_sem, alist, adraw, seval]
  (repeat' (first | (with_reducible first | refine zqA (fun _ _ => ?_) | refine zqB ?_ | refine zqC ?_ | refine zqD ?_ | refine zqE ?_ | refine zqF ?_ | refine zqG ?_ | refine zqH ?_ | refine zqI ?_ | refine zqJ ?_ | refine zqK ?_ | refine zqL (by decide) ?_) | (with_reducible refine zqM fun _ _ => ?_) | ((with_reducible refine zqP fun _ _ => ?_); simp only [go_sem, seval, w1, w2, w3, w4, w5, w6]) | ((with_reducible refine zqQ ?_); simp only [go_sem, seval]) | ((with_reducible refine zqN fun _ _ => ?_); simp only [go_sem, alist, adraw, seval]) | (with_reducible first | refine And.intro trivial ?_ | apply_assumption -exfalso -symm)))
  refine ⟨[], _, CallEff.pure (isSite_ec n hs) (Nat.zero_le _) rfl rfl, ?_⟩; simp only [go_sem, alist, adraw, seval]
  (repeat' (first | (with_reducible first | refine zqA (fun _ _ => ?_) | refine zqB ?_ | refine zqC ?_ | refine zqD ?_ | refine zqE ?_ | refine zqF ?_ | refine zqG ?_ | refine zqH ?_ | refine zqI ?_ | refine zqJ ?_ | refine zqK ?_ | refine zqL (by decide) ?_) | (with_reducible refine zqM fun _ _ => ?_) | ((with_reducible refine zqP fun _ _ => ?_); simp only [go_sem, seval, w1, w2, w3, w4, w5, w6]) | ((with_reducible refine zqQ ?_); simp only [go_sem, seval]) | ((with_reducible refine zqN fun _ _ => ?_); simp only [go_sem, alist, adraw, seval]) | (with_reducible first | refine And.intro trivial ?_ | apply_assumption -exfalso -symm)))
  refine ⟨[], _, CallEff.pure (within_ec ep 0 la he) (Nat.zero_le _) rfl rfl, ?_⟩; simp only [go_sem, alist, adraw, seval]
  (repeat' (first | (with_reducible first | refine zqA (fun _ _ => ?_) | refine zqB ?_ | refine zqC ?_ | refine zqD ?_ | refine zqE ?_ | refine zqF ?_ | refine zqG ?_ | refine zqH ?_ | refine zqI ?_ | refine zqJ ?_ | refine zqK ?_ | refine zqL (by decide) ?_) | (with_reducible refine zqM fun _ _ => ?_) | ((with_reducible refine zqP fun _ _ => ?_); simp only [go_sem, seval, w1, w2, w3, w4, w5, w6]) | ((with_reducible refine zqQ ?_); simp only [go_sem, seval]) | ((with_reducible refine zqN fun _ _ => ?_); simp only [go_sem, alist, adraw, seval]) | (with_reducible first | refine And.intro trivial ?_ | apply_assumption -exfalso -symm)))
  refine zqO (by simp only [go_sem, alist, adraw, seval] <;> rfl) (fun h => absurd h (by simp)) (fun _ => ?_)
  (repeat' (first | (with_reducible first | refine zqA (fun _ _ => ?_) | refine zqB ?_ | refine zqC ?_ | refine zqD ?_ | refine zqE ?_ | refine zqF ?_ | refine zqG ?_ | refine zqH ?_ | refine zqI ?_ | refine zqJ ?_ | refine zqK ?_ | refine zqL (by decide) ?_) | (with_reducible refine zqM fun _ _ => ?_) | ((with_reducible refine zqP fun _ _ => ?_); simp only [go_sem, seval, w1, w2, w3, w4, w5, w6]) | ((with_reducible refine zqQ ?_); simp only [go_sem, seval]) | ((with_reducible refine zqN fun _ _ => ?_); simp only [go_sem, alist, adraw, seval]) | (with_reducible first | refine And.intro trivial ?_ | apply_assumption -exfalso -symm)))
  refine ⟨[], _, CallEff.pure (hR) (Nat.zero_le _) rfl rfl, ?_⟩; simp only [go_sem, alist, adraw, seval]
  (repeat' (first | (with_reducible first | refine zqA (fun _ _ => ?_) | refine zqB ?_ | refine zqC ?_ | refine zqD ?_ | refine zqE ?_ | refine zqF ?_ | refine zqG ?_ | refine zqH ?_ | refine zqI ?_ | refine zqJ ?_ | refine zqK ?_ | refine zqL (by decide) ?_) | (with_reducible refine zqM fun _ _ => ?_) | ((with_reducible refine zqP fun _ _ => ?_); simp only [go_sem, seval, w1, w2, w3, w4, w5, w6]) | ((with_reducible refine zqQ ?_); simp only [go_sem, seval]) | ((with_reducible refine zqN fun _ _ => ?_); simp only [go_sem, alist, adraw, seval]) | (with_reducible first | refine And.intro trivial ?_ | apply_assumption -exfalso -symm)))
  refine ⟨[], _, CallEff.pure (hP) (Nat.zero_le _) rfl rfl, ?_⟩; simp only [go_sem, alist, adraw, seval]
  (repeat' (first | (with_reducible first | refine zqA (fun _ _ => ?_) | refine zqB ?_ | refine zqC ?_ | refine zqD ?_ | refine zqE ?_ | refine zqF ?_ | refine zqG ?_ | refine zqH ?_ | refine zqI ?_ | refine zqJ ?_ | refine zqK ?_ | refine zqL (by decide) ?_) | (with_reducible refine zqM fun _ _ => ?_) | ((with_reducible refine zqP fun _ _ => ?_); simp only [go_sem, seval, w1, w2, w3, w4, w5, w6]) | ((with_reducible refine zqQ ?_); simp only [go_sem, seval]) | ((with_reducible refine zqN fun _ _ => ?_); simp only [go_sem, alist, adraw, seval]) | (with_reducible first | refine And.intro trivial ?_ | apply_assumption -exfalso -symm)))
  simp only [retQ, Tryd.f10]; refine ret_pure (by simp only [resAll, resA, go_sem, alist, adraw, seval]; rfl) rfl ?_ ?_ ?_ ?_
  all_goals first | trivial | rfl
open Le in
theorem issue_full [Base] (la mo : Int) (l : List Gr) (hm : l.length ≤ 10000) (ok : GsOk la mo l) (hl : la ≠ 1099511627776) : EC Tryd.prog 9 [] [.agg [iv la, iv mo, gsA l]] [] (.tup [.agg [iv (la + 1), iv mo, gsA l], iv 0]) :=
  issue_ec la mo _ (valid_ec la mo l (by omega) ok) ok.la0 (copied_ec (la + 1) mo l (by omega)) hl
open Le in
theorem conf_full [Base] (la mo n ep : Int) (l : List Gr) (hm : l.length ≤ 10000) (ok : GsOk la mo l) (hs : 0 ≤ n ∧ n < 64) (he : 0 ≤ ep ∧ ep ≤ la) : EC Tryd.prog 10 [] [.agg [iv la, iv mo, gsA l], iv n, iv ep] [] (.tup [.agg [iv la, iv mo, gsA (withL (n, max (rowL n l).2.1 ep, (rowL n l).2.2) l)], iv 0]) :=
  conf_ec0 la mo n ep (rowL n l).1 (rowL n l).2.1 (rowL n l).2.2 _ _ (valid_ec la mo l (by omega) ok) hs he (grantOf_ec la mo l n ok.ord (by omega)) (by
    have e : (rowL n l).1 = n := rowL_site n l
    rw [e]
    exact with_ec la mo l (n, max (rowL n l).2.1 ep, (rowL n l).2.2) ok.ord hm)
end Am
end
end Go.Proofs.YteblnmhaohbkkaaDoor
