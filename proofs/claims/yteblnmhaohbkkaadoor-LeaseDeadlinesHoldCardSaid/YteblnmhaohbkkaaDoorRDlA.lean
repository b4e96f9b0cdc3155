import Derived.Test.YteblnmhaohbkkaaDoorRA7
import Derived.Test.YteblnmhaohbkkaaDoorRAmTi
namespace Go.Proofs.YteblnmhaohbkkaaDoor
set_option linter.unusedVariables false
set_option linter.unusedSimpArgs false
set_option linter.unusedSectionVars false
namespace Am
open Go
attribute [local go_sem] true_implies false_implies List.take_length bne_self_eq_false beq_self_eq_true List.forall_mem_cons List.not_mem_nil false_imp_iff allOne_nil allOne_cons iv bv Value.oneCell' astep aexe asem AS.put AS.app AS.ev look eff effIf binE unE convE lenE loadE storeE fieldAddrE fieldE indexAddrE indexE sliceE low bound extractE pickE minE allocE boxE buildE buildSliceE makeSliceE appendE elsOf aliveB pairs fillA litEls partOf tdesc TI.isAgg KD.row AV.cells AV.one guardV Option.map_some Option.map_none Option.getD_some Option.bind_some Option.bind_none List.map_cons List.map_nil List.nil_append List.cons_append List.append_nil true_and and_true cond_true cond_false Nat.zero_add Nat.add_zero Nat.zero_mul Nat.mul_zero List.getElem?_cons_zero List.getElem?_cons_succ List.getElem?_nil List.getElem?_toArray List.length_cons List.length_nil List.size_toArray List.take_succ_cons List.take_zero List.drop_succ_cons List.drop_zero List.drop_nil List.take_nil List.set_cons_zero List.set_cons_succ Bool.not_true Bool.not_false List.flatMap_cons List.flatMap_nil idA false_and forall_eq implies_true Bool.false_eq_true imp_false not_true_eq_false not_false_eq_true goInt Int.toNat_natCast ne_eq Nat.le_refl and_self List.append_assoc AV.ren AV.ren2 AV.ren1 AV.ren0 updC List.zipIdx_cons List.zipIdx_nil rho Blk.ren frzT frzB frzA ti_2 ti_3 ti_4 ti_5 ti_9 ti_12 ti_13 ti_21 ti_22 ti_23 ti_24 ti_25 ti_26 ti_27 ti_28 ti_30 ti_35 ti_36 ti_37 ti_38 ti_43 ti_46 ti_47 ti_51 ti_52 ti_54 ti_55 ti_57 ti_58 ti_64 ti_65 ti_66 ti_67 ti_68 ti_69 ti_70 ti_71 ti_75 ti_76 ti_79 ti_80 ti_87 ti_88 ti_92 ti_112 ti_117 ti_118 ti_122
set_option maxRecDepth 100000
theorem issue_ec [Base] (la mo : Int) (G : List (List AV)) (hV : EC Tryd.prog 20 [] [.agg [iv la, iv mo, .sl G]] [] (bv true)) (h1 : 0 ≤ la ∧ la ≤ 1099511627776)
    (hC : EC Tryd.prog 33 [] [.agg [iv (la + 1), iv mo, .sl G]] [] (.agg [iv (la + 1), iv mo, .sl G])) (hl : la ≠ 1099511627776) : EC Tryd.prog 9 [] [.agg [iv la, iv mo, .sl G]] [] (.tup [.agg [iv (la + 1), iv mo, .sl G], iv 0]) := by
  refine EC_of_awp tiOk mixed Tryd.func9 rfl rfl (by kernel_rfl) (by simp [Tryd.f9]) ?_
  simp only [start, List.zipIdx_cons, List.zipIdx_nil, List.map_cons, List.map_nil, List.length_nil, List.length_cons, Nat.zero_add, Nat.reduceAdd]
  (repeat' (first | (with_reducible first | refine zqA (fun _ _ => ?_) | refine zqB ?_ | refine zqC ?_ | refine zqD ?_ | refine zqE ?_ | refine zqF ?_ | refine zqG ?_ | refine zqH ?_ | refine zqI ?_ | refine zqJ ?_ | refine zqK ?_ | refine zqL (by decide) ?_) | ((with_reducible first | refine zqM (fun _ _ => ?_) | refine zqN (fun _ _ => ?_)); simp only [go_sem, alist, adraw, seval]) | (with_reducible first | refine And.intro trivial ?_ | apply_assumption -exfalso -symm)))
  refine ⟨[], _, CallEff.pure (hV) (Nat.zero_le _) rfl rfl, ?_⟩; simp only [go_sem, alist, adraw, seval]
  (repeat' (first | (with_reducible first | refine zqA (fun _ _ => ?_) | refine zqB ?_ | refine zqC ?_ | refine zqD ?_ | refine zqE ?_ | refine zqF ?_ | refine zqG ?_ | refine zqH ?_ | refine zqI ?_ | refine zqJ ?_ | refine zqK ?_ | refine zqL (by decide) ?_) | ((with_reducible first | refine zqM (fun _ _ => ?_) | refine zqN (fun _ _ => ?_)); simp only [go_sem, alist, adraw, seval]) | (with_reducible first | refine And.intro trivial ?_ | apply_assumption -exfalso -symm)))
  refine zqO (by simp only [go_sem, alist, adraw, seval] <;> rfl) ?_ ?_
  · intro h; simp at h
  intro _
  (repeat' (first | (with_reducible first | refine zqA (fun _ _ => ?_) | refine zqB ?_ | refine zqC ?_ | refine zqD ?_ | refine zqE ?_ | refine zqF ?_ | refine zqG ?_ | refine zqH ?_ | refine zqI ?_ | refine zqJ ?_ | refine zqK ?_ | refine zqL (by decide) ?_) | ((with_reducible first | refine zqM (fun _ _ => ?_) | refine zqN (fun _ _ => ?_)); simp only [go_sem, alist, adraw, seval]) | (with_reducible first | refine And.intro trivial ?_ | apply_assumption -exfalso -symm)))
  refine zqO (by simp only [go_sem, alist, adraw, seval] <;> rfl) ?_ ?_
  · intro h; simp [hl] at h
  intro _
  (repeat' (first | (with_reducible first | refine zqA (fun _ _ => ?_) | refine zqB ?_ | refine zqC ?_ | refine zqD ?_ | refine zqE ?_ | refine zqF ?_ | refine zqG ?_ | refine zqH ?_ | refine zqI ?_ | refine zqJ ?_ | refine zqK ?_ | refine zqL (by decide) ?_) | ((with_reducible first | refine zqM (fun _ _ => ?_) | refine zqN (fun _ _ => ?_)); simp only [go_sem, alist, adraw, seval]) | (with_reducible first | refine And.intro trivial ?_ | apply_assumption -exfalso -symm)))
  rw [wrap_ok (by omega) (by omega)]
  refine ⟨[], _, CallEff.pure (hC) (Nat.zero_le _) rfl rfl, ?_⟩; simp only [go_sem, alist, adraw, seval]
  (repeat' (first | (with_reducible first | refine zqA (fun _ _ => ?_) | refine zqB ?_ | refine zqC ?_ | refine zqD ?_ | refine zqE ?_ | refine zqF ?_ | refine zqG ?_ | refine zqH ?_ | refine zqI ?_ | refine zqJ ?_ | refine zqK ?_ | refine zqL (by decide) ?_) | ((with_reducible first | refine zqM (fun _ _ => ?_) | refine zqN (fun _ _ => ?_)); simp only [go_sem, alist, adraw, seval]) | (with_reducible first | refine And.intro trivial ?_ | apply_assumption -exfalso -symm)))
  simp only [retQ, Tryd.f9]; refine ret_pure (by simp only [resAll, resA, go_sem, alist, adraw, seval]; rfl) rfl ?_ ?_ ?_ ?_
  all_goals first | trivial | rfl
end Am
end Go.Proofs.YteblnmhaohbkkaaDoor
