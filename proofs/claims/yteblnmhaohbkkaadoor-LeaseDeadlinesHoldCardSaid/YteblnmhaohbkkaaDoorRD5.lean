import Derived.Test.YteblnmhaohbkkaaDoorRD4
import Derived.Test.YteblnmhaohbkkaaDoorRD3
namespace Go.Proofs.YteblnmhaohbkkaaDoor
set_option linter.unusedVariables false
set_option linter.unusedSimpArgs false
set_option linter.unusedSectionVars false
section
namespace Am
open Go
attribute [local go_sem] true_implies false_implies List.take_length bne_self_eq_false beq_self_eq_true List.forall_mem_cons List.not_mem_nil false_imp_iff allOne_nil allOne_cons iv bv Value.oneCell' astep aexe asem AS.put AS.app AS.ev look eff effIf binE unE convE lenE loadE storeE fieldAddrE fieldE indexAddrE indexE sliceE low bound extractE pickE minE allocE boxE buildE buildSliceE makeSliceE appendE elsOf aliveB pairs fillA litEls partOf tdesc TI.isAgg KD.row AV.cells AV.one guardV Option.map_some Option.map_none Option.getD_some Option.bind_some Option.bind_none List.map_cons List.map_nil List.nil_append List.cons_append List.append_nil true_and and_true cond_true cond_false Nat.zero_add Nat.add_zero Nat.zero_mul Nat.mul_zero List.getElem?_cons_zero List.getElem?_cons_succ List.getElem?_nil List.getElem?_toArray List.length_cons List.length_nil List.size_toArray List.take_succ_cons List.take_zero List.drop_succ_cons List.drop_zero List.drop_nil List.take_nil List.set_cons_zero List.set_cons_succ Bool.not_true Bool.not_false List.flatMap_cons List.flatMap_nil idA false_and forall_eq implies_true Bool.false_eq_true imp_false not_true_eq_false not_false_eq_true goInt Int.toNat_natCast ne_eq Nat.le_refl and_self List.append_assoc AV.ren AV.ren2 AV.ren1 AV.ren0 updC List.zipIdx_cons List.zipIdx_nil rho Blk.ren frzT frzB frzA ti_2 ti_3 ti_4 ti_5 ti_9 ti_12 ti_13 ti_21 ti_22 ti_23 ti_24 ti_25 ti_26 ti_27 ti_28 ti_30 ti_35 ti_36 ti_37 ti_38 ti_43 ti_46 ti_47 ti_51 ti_52 ti_54 ti_55 ti_57 ti_58 ti_64 ti_65 ti_66 ti_67 ti_68 ti_69 ti_70 ti_71 ti_75 ti_76 ti_79 ti_80 ti_87 ti_88 ti_92 ti_112 ti_117 ti_118 ti_122
set_option maxRecDepth 100000
set_option maxHeartbeats 2000000 in
theorem grant_ec0 [Base] (la mo n lo hi len k2 k4 k5 r1 r2 r3 : Int) (k3 : ByteArray) (G G2 : List (List AV)) (L : List AV) (pL : plain L) (lL : L.length = 20)
    (hV : EC Tryd.prog 20 [] [.agg [iv la, iv mo, .sl G]] [] (bv true)) (hs : 0 ≤ n ∧ n < 64) (hQ : EC Tryd.prog 30 [] [.agg [iv lo, iv hi]] [] (bv true)) (hl : 1 ≤ len ∧ len ≤ mo) (hlo : 0 ≤ lo) (hmo : mo ≤ 3600000)
    (hK : EC Tryd.prog 38 [] [.agg [iv 1, iv k2, .v (.string k3), iv k4, iv k5]] [] (bv true)) (hR : EC Tryd.prog 36 [] [.agg [iv la, iv mo, .sl G], iv n] [] (.agg [iv r1, iv r2, iv r3])) (h2 : ¬ r2 < la) (h3 : ¬ 1099511627776 < lo + len)
    (hS : EC Tryd.prog 39 [] [.agg [iv 1, iv k2, .v (.string k3), iv k4, iv k5], .agg [iv n, iv la, iv (lo + len), iv 0, .v (.int .u8 0), .v (.int .u8 0), .v (.int .u8 0), .v (.int .u8 0), .v (.int .u8 0), .v (.int .u8 0), .v (.int .u8 0), .v (.int .u8 0), .v (.int .u8 0), .v (.int .u8 0), .v (.int .u8 0), .v (.int .u8 0), .v (.int .u8 0), .v (.int .u8 0), .v (.int .u8 0), .v (.int .u8 0)]] [] (.agg L)) (hL : L[2]? = some (iv (lo + len)))
    (hP : EC Tryd.prog 37 [] [.agg [iv la, iv mo, .sl G], .agg [iv r1, iv r2, iv (max r3 (lo + len))]] [] (.agg [iv la, iv mo, .sl G2])) :
    EC Tryd.prog 11 [] [.agg [iv la, iv mo, .sl G], .agg [iv 1, iv k2, .v (.string k3), iv k4, iv k5], iv n, .agg [iv lo, iv hi], iv len] [] (.tup [.agg [iv la, iv mo, .sl G2], .agg L, iv 0]) := by
  have w1 : decide (r2 < la) = false := decide_eq_false h2
  have w2 : IntKind.i64.wrap (lo + len) = lo + len := wrap_ok (by omega) (by omega)
  have w3 : decide (1099511627776 < lo + len) = false := decide_eq_false h3
  have w4 : (if lo + len > r3 then lo + len else r3) = max r3 (lo + len) := by split <;> omega
  have w5 : List.take 20 L = L := List.take_of_length_le (by omega)
  have w6 := hL
  have yL := pL.one
  refine EC_of_awp tiOk mixed Tryd.func11 rfl rfl (by kernel_rfl) (by simp [Tryd.f11]) ?_
  simp only [start, List.zipIdx_cons, List.zipIdx_nil, List.map_cons, List.map_nil, List.length_nil, List.length_cons, Nat.zero_add, Nat.reduceAdd]
  (repeat' (first | (with_reducible first | refine zqA (fun _ _ => ?_) | refine zqB ?_ | refine zqC ?_ | refine zqD ?_ | refine zqE ?_ | refine zqF ?_ | refine zqG ?_ | refine zqH ?_ | refine zqI ?_ | refine zqJ ?_ | refine zqK ?_ | refine zqL (by decide) ?_) | (with_reducible refine zqM fun _ _ => ?_) | ((with_reducible refine zqP fun _ _ => ?_); simp only [go_sem, seval, w1, w2, w3, w4, w5, w6]) | ((with_reducible refine zqQ ?_); simp only [go_sem, seval]) | ((with_reducible refine zqN fun _ _ => ?_); simp only [go_sem, alist, adraw, seval]) | (with_reducible first | refine And.intro trivial ?_ | apply_assumption -exfalso -symm)))
  refine ⟨[], _, CallEff.pure (hV) (Nat.zero_le _) rfl rfl, ?_⟩; simp only [go_sem, alist, adraw, seval]
  (repeat' (first | (with_reducible first | refine zqA (fun _ _ => ?_) | refine zqB ?_ | refine zqC ?_ | refine zqD ?_ | refine zqE ?_ | refine zqF ?_ | refine zqG ?_ | refine zqH ?_ | refine zqI ?_ | refine zqJ ?_ | refine zqK ?_ | refine zqL (by decide) ?_) | (with_reducible refine zqM fun _ _ => ?_) | ((with_reducible refine zqP fun _ _ => ?_); simp only [go_sem, seval, w1, w2, w3, w4, w5, w6]) | ((with_reducible refine zqQ ?_); simp only [go_sem, seval]) | ((with_reducible refine zqN fun _ _ => ?_); simp only [go_sem, alist, adraw, seval]) | (with_reducible first | refine And.intro trivial ?_ | apply_assumption -exfalso -symm)))
  refine zqO (by simp only [go_sem, alist, adraw, seval] <;> rfl) (fun h => absurd h (by simp)) (fun _ => ?_)
  (repeat' (first | (with_reducible first | refine zqA (fun _ _ => ?_) | refine zqB ?_ | refine zqC ?_ | refine zqD ?_ | refine zqE ?_ | refine zqF ?_ | refine zqG ?_ | refine zqH ?_ | refine zqI ?_ | refine zqJ ?_ | refine zqK ?_ | refine zqL (by decide) ?_) | (with_reducible refine zqM fun _ _ => ?_) | ((with_reducible refine zqP fun _ _ => ?_); simp only [go_sem, seval, w1, w2, w3, w4, w5, w6]) | ((with_reducible refine zqQ ?_); simp only [go_sem, seval]) | ((with_reducible refine zqN fun _ _ => ?_); simp only [go_sem, alist, adraw, seval]) | (with_reducible first | refine And.intro trivial ?_ | apply_assumption -exfalso -symm)))
  refine ⟨[], _, CallEff.pure (isSite_ec n hs) (Nat.zero_le _) rfl rfl, ?_⟩; simp only [go_sem, alist, adraw, seval]
  (repeat' (first | (with_reducible first | refine zqA (fun _ _ => ?_) | refine zqB ?_ | refine zqC ?_ | refine zqD ?_ | refine zqE ?_ | refine zqF ?_ | refine zqG ?_ | refine zqH ?_ | refine zqI ?_ | refine zqJ ?_ | refine zqK ?_ | refine zqL (by decide) ?_) | (with_reducible refine zqM fun _ _ => ?_) | ((with_reducible refine zqP fun _ _ => ?_); simp only [go_sem, seval, w1, w2, w3, w4, w5, w6]) | ((with_reducible refine zqQ ?_); simp only [go_sem, seval]) | ((with_reducible refine zqN fun _ _ => ?_); simp only [go_sem, alist, adraw, seval]) | (with_reducible first | refine And.intro trivial ?_ | apply_assumption -exfalso -symm)))
  refine zqO (by simp only [go_sem, alist, adraw, seval] <;> rfl) (fun h => absurd h (by simp)) (fun _ => ?_)
  (repeat' (first | (with_reducible first | refine zqA (fun _ _ => ?_) | refine zqB ?_ | refine zqC ?_ | refine zqD ?_ | refine zqE ?_ | refine zqF ?_ | refine zqG ?_ | refine zqH ?_ | refine zqI ?_ | refine zqJ ?_ | refine zqK ?_ | refine zqL (by decide) ?_) | (with_reducible refine zqM fun _ _ => ?_) | ((with_reducible refine zqP fun _ _ => ?_); simp only [go_sem, seval, w1, w2, w3, w4, w5, w6]) | ((with_reducible refine zqQ ?_); simp only [go_sem, seval]) | ((with_reducible refine zqN fun _ _ => ?_); simp only [go_sem, alist, adraw, seval]) | (with_reducible first | refine And.intro trivial ?_ | apply_assumption -exfalso -symm)))
  refine ⟨[], _, CallEff.pure (hQ) (Nat.zero_le _) rfl rfl, ?_⟩; simp only [go_sem, alist, adraw, seval]
  (repeat' (first | (with_reducible first | refine zqA (fun _ _ => ?_) | refine zqB ?_ | refine zqC ?_ | refine zqD ?_ | refine zqE ?_ | refine zqF ?_ | refine zqG ?_ | refine zqH ?_ | refine zqI ?_ | refine zqJ ?_ | refine zqK ?_ | refine zqL (by decide) ?_) | (with_reducible refine zqM fun _ _ => ?_) | ((with_reducible refine zqP fun _ _ => ?_); simp only [go_sem, seval, w1, w2, w3, w4, w5, w6]) | ((with_reducible refine zqQ ?_); simp only [go_sem, seval]) | ((with_reducible refine zqN fun _ _ => ?_); simp only [go_sem, alist, adraw, seval]) | (with_reducible first | refine And.intro trivial ?_ | apply_assumption -exfalso -symm)))
  refine zqO (by simp only [go_sem, alist, adraw, seval] <;> rfl) (fun h => absurd h (by simp)) (fun _ => ?_)
  (repeat' (first | (with_reducible first | refine zqA (fun _ _ => ?_) | refine zqB ?_ | refine zqC ?_ | refine zqD ?_ | refine zqE ?_ | refine zqF ?_ | refine zqG ?_ | refine zqH ?_ | refine zqI ?_ | refine zqJ ?_ | refine zqK ?_ | refine zqL (by decide) ?_) | (with_reducible refine zqM fun _ _ => ?_) | ((with_reducible refine zqP fun _ _ => ?_); simp only [go_sem, seval, w1, w2, w3, w4, w5, w6]) | ((with_reducible refine zqQ ?_); simp only [go_sem, seval]) | ((with_reducible refine zqN fun _ _ => ?_); simp only [go_sem, alist, adraw, seval]) | (with_reducible first | refine And.intro trivial ?_ | apply_assumption -exfalso -symm)))
  refine ⟨[], _, CallEff.pure (within_ec len 1 mo hl) (Nat.zero_le _) rfl rfl, ?_⟩; simp only [go_sem, alist, adraw, seval]
  (repeat' (first | (with_reducible first | refine zqA (fun _ _ => ?_) | refine zqB ?_ | refine zqC ?_ | refine zqD ?_ | refine zqE ?_ | refine zqF ?_ | refine zqG ?_ | refine zqH ?_ | refine zqI ?_ | refine zqJ ?_ | refine zqK ?_ | refine zqL (by decide) ?_) | (with_reducible refine zqM fun _ _ => ?_) | ((with_reducible refine zqP fun _ _ => ?_); simp only [go_sem, seval, w1, w2, w3, w4, w5, w6]) | ((with_reducible refine zqQ ?_); simp only [go_sem, seval]) | ((with_reducible refine zqN fun _ _ => ?_); simp only [go_sem, alist, adraw, seval]) | (with_reducible first | refine And.intro trivial ?_ | apply_assumption -exfalso -symm)))
  refine zqO (by simp only [go_sem, alist, adraw, seval] <;> rfl) (fun h => absurd h (by simp)) (fun _ => ?_)
  (repeat' (first | (with_reducible first | refine zqA (fun _ _ => ?_) | refine zqB ?_ | refine zqC ?_ | refine zqD ?_ | refine zqE ?_ | refine zqF ?_ | refine zqG ?_ | refine zqH ?_ | refine zqI ?_ | refine zqJ ?_ | refine zqK ?_ | refine zqL (by decide) ?_) | (with_reducible refine zqM fun _ _ => ?_) | ((with_reducible refine zqP fun _ _ => ?_); simp only [go_sem, seval, w1, w2, w3, w4, w5, w6]) | ((with_reducible refine zqQ ?_); simp only [go_sem, seval]) | ((with_reducible refine zqN fun _ _ => ?_); simp only [go_sem, alist, adraw, seval]) | (with_reducible first | refine And.intro trivial ?_ | apply_assumption -exfalso -symm)))
  refine ⟨[], _, CallEff.pure (hK) (Nat.zero_le _) rfl rfl, ?_⟩; simp only [go_sem, alist, adraw, seval]
  (repeat' (first | (with_reducible first | refine zqA (fun _ _ => ?_) | refine zqB ?_ | refine zqC ?_ | refine zqD ?_ | refine zqE ?_ | refine zqF ?_ | refine zqG ?_ | refine zqH ?_ | refine zqI ?_ | refine zqJ ?_ | refine zqK ?_ | refine zqL (by decide) ?_) | (with_reducible refine zqM fun _ _ => ?_) | ((with_reducible refine zqP fun _ _ => ?_); simp only [go_sem, seval, w1, w2, w3, w4, w5, w6]) | ((with_reducible refine zqQ ?_); simp only [go_sem, seval]) | ((with_reducible refine zqN fun _ _ => ?_); simp only [go_sem, alist, adraw, seval]) | (with_reducible first | refine And.intro trivial ?_ | apply_assumption -exfalso -symm)))
  refine zqO (by simp only [go_sem, alist, adraw, seval] <;> rfl) (fun h => absurd h (by simp)) (fun _ => ?_)
  (repeat' (first | (with_reducible first | refine zqA (fun _ _ => ?_) | refine zqB ?_ | refine zqC ?_ | refine zqD ?_ | refine zqE ?_ | refine zqF ?_ | refine zqG ?_ | refine zqH ?_ | refine zqI ?_ | refine zqJ ?_ | refine zqK ?_ | refine zqL (by decide) ?_) | (with_reducible refine zqM fun _ _ => ?_) | ((with_reducible refine zqP fun _ _ => ?_); simp only [go_sem, seval, w1, w2, w3, w4, w5, w6]) | ((with_reducible refine zqQ ?_); simp only [go_sem, seval]) | ((with_reducible refine zqN fun _ _ => ?_); simp only [go_sem, alist, adraw, seval]) | (with_reducible first | refine And.intro trivial ?_ | apply_assumption -exfalso -symm)))
  refine zqO (by simp only [go_sem, alist, adraw, seval] <;> rfl) (fun h => absurd h (by simp)) (fun _ => ?_)
  (repeat' (first | (with_reducible first | refine zqA (fun _ _ => ?_) | refine zqB ?_ | refine zqC ?_ | refine zqD ?_ | refine zqE ?_ | refine zqF ?_ | refine zqG ?_ | refine zqH ?_ | refine zqI ?_ | refine zqJ ?_ | refine zqK ?_ | refine zqL (by decide) ?_) | (with_reducible refine zqM fun _ _ => ?_) | ((with_reducible refine zqP fun _ _ => ?_); simp only [go_sem, seval, w1, w2, w3, w4, w5, w6]) | ((with_reducible refine zqQ ?_); simp only [go_sem, seval]) | ((with_reducible refine zqN fun _ _ => ?_); simp only [go_sem, alist, adraw, seval]) | (with_reducible first | refine And.intro trivial ?_ | apply_assumption -exfalso -symm)))
  refine ⟨[], _, CallEff.pure (hR) (Nat.zero_le _) rfl rfl, ?_⟩; simp only [go_sem, alist, adraw, seval]
  simp only [w1, go_sem, alist, adraw, seval]
  refine ⟨rfl, ?_⟩
  (repeat' (first | (with_reducible first | refine zqA (fun _ _ => ?_) | refine zqB ?_ | refine zqC ?_ | refine zqD ?_ | refine zqE ?_ | refine zqF ?_ | refine zqG ?_ | refine zqH ?_ | refine zqI ?_ | refine zqJ ?_ | refine zqK ?_ | refine zqL (by decide) ?_) | (with_reducible refine zqM fun _ _ => ?_) | ((with_reducible refine zqP fun _ _ => ?_); simp only [go_sem, seval, w1, w2, w3, w4, w5, w6]) | ((with_reducible refine zqQ ?_); simp only [go_sem, seval]) | ((with_reducible refine zqN fun _ _ => ?_); simp only [go_sem, alist, adraw, seval]) | (with_reducible first | refine And.intro trivial ?_ | apply_assumption -exfalso -symm)))
  refine zqO (by simp only [go_sem, alist, adraw, seval] <;> rfl) (fun h => absurd h (by simp)) (fun _ => ?_)
  (repeat' (first | (with_reducible first | refine zqA (fun _ _ => ?_) | refine zqB ?_ | refine zqC ?_ | refine zqD ?_ | refine zqE ?_ | refine zqF ?_ | refine zqG ?_ | refine zqH ?_ | refine zqI ?_ | refine zqJ ?_ | refine zqK ?_ | refine zqL (by decide) ?_) | (with_reducible refine zqM fun _ _ => ?_) | ((with_reducible refine zqP fun _ _ => ?_); simp only [go_sem, seval, w1, w2, w3, w4, w5, w6]) | ((with_reducible refine zqQ ?_); simp only [go_sem, seval]) | ((with_reducible refine zqN fun _ _ => ?_); simp only [go_sem, alist, adraw, seval]) | (with_reducible first | refine And.intro trivial ?_ | apply_assumption -exfalso -symm)))
  refine zqO (by simp only [go_sem, alist, adraw, seval] <;> rfl) (fun h => absurd h (by simp)) (fun _ => ?_)
  (repeat' (first | (with_reducible first | refine zqA (fun _ _ => ?_) | refine zqB ?_ | refine zqC ?_ | refine zqD ?_ | refine zqE ?_ | refine zqF ?_ | refine zqG ?_ | refine zqH ?_ | refine zqI ?_ | refine zqJ ?_ | refine zqK ?_ | refine zqL (by decide) ?_) | (with_reducible refine zqM fun _ _ => ?_) | ((with_reducible refine zqP fun _ _ => ?_); simp only [go_sem, seval, w1, w2, w3, w4, w5, w6]) | ((with_reducible refine zqQ ?_); simp only [go_sem, seval]) | ((with_reducible refine zqN fun _ _ => ?_); simp only [go_sem, alist, adraw, seval]) | (with_reducible first | refine And.intro trivial ?_ | apply_assumption -exfalso -symm)))
  refine zqO (by simp only [go_sem, alist, adraw, seval] <;> rfl) (fun h => absurd h (by simp)) (fun _ => ?_)
  (repeat' (first | (with_reducible first | refine zqA (fun _ _ => ?_) | refine zqB ?_ | refine zqC ?_ | refine zqD ?_ | refine zqE ?_ | refine zqF ?_ | refine zqG ?_ | refine zqH ?_ | refine zqI ?_ | refine zqJ ?_ | refine zqK ?_ | refine zqL (by decide) ?_) | (with_reducible refine zqM fun _ _ => ?_) | ((with_reducible refine zqP fun _ _ => ?_); simp only [go_sem, seval, w1, w2, w3, w4, w5, w6]) | ((with_reducible refine zqQ ?_); simp only [go_sem, seval]) | ((with_reducible refine zqN fun _ _ => ?_); simp only [go_sem, alist, adraw, seval]) | (with_reducible first | refine And.intro trivial ?_ | apply_assumption -exfalso -symm)))
  refine ⟨[], _, CallEff.pure0 hS rfl rfl (by simp only [AV.ren, AV.ren2, plain.map1 pL]), ?_⟩
  simp only [go_sem, alist, adraw, seval, lL, yL, w5, w6]
  (repeat' (first | (with_reducible first | refine zqA (fun _ _ => ?_) | refine zqB ?_ | refine zqC ?_ | refine zqD ?_ | refine zqE ?_ | refine zqF ?_ | refine zqG ?_ | refine zqH ?_ | refine zqI ?_ | refine zqJ ?_ | refine zqK ?_ | refine zqL (by decide) ?_) | (with_reducible refine zqM fun _ _ => ?_) | ((with_reducible refine zqP fun _ _ => ?_); simp only [go_sem, seval, w1, w2, w3, w4, w5, w6]) | ((with_reducible refine zqQ ?_); simp only [go_sem, seval]) | ((with_reducible refine zqN fun _ _ => ?_); simp only [go_sem, alist, adraw, seval]) | (with_reducible first | refine And.intro trivial ?_ | apply_assumption -exfalso -symm)))
  refine ⟨⟨lL, yL⟩, ?_⟩
  (repeat' (first | (with_reducible first | refine zqA (fun _ _ => ?_) | refine zqB ?_ | refine zqC ?_ | refine zqD ?_ | refine zqE ?_ | refine zqF ?_ | refine zqG ?_ | refine zqH ?_ | refine zqI ?_ | refine zqJ ?_ | refine zqK ?_ | refine zqL (by decide) ?_) | (with_reducible refine zqM fun _ _ => ?_) | ((with_reducible refine zqP fun _ _ => ?_); simp only [go_sem, seval, w1, w2, w3, w4, w5, w6]) | ((with_reducible refine zqQ ?_); simp only [go_sem, seval]) | ((with_reducible refine zqN fun _ _ => ?_); simp only [go_sem, alist, adraw, seval]) | (with_reducible first | refine And.intro trivial ?_ | apply_assumption -exfalso -symm)))
  refine ⟨[], _, CallEff.pure (hR) (Nat.zero_le _) rfl rfl, ?_⟩; simp only [go_sem, alist, adraw, seval]
  (repeat' (first | (with_reducible first | refine zqA (fun _ _ => ?_) | refine zqB ?_ | refine zqC ?_ | refine zqD ?_ | refine zqE ?_ | refine zqF ?_ | refine zqG ?_ | refine zqH ?_ | refine zqI ?_ | refine zqJ ?_ | refine zqK ?_ | refine zqL (by decide) ?_) | (with_reducible refine zqM fun _ _ => ?_) | ((with_reducible refine zqP fun _ _ => ?_); simp only [go_sem, seval, w1, w2, w3, w4, w5, w6]) | ((with_reducible refine zqQ ?_); simp only [go_sem, seval]) | ((with_reducible refine zqN fun _ _ => ?_); simp only [go_sem, alist, adraw, seval]) | (with_reducible first | refine And.intro trivial ?_ | apply_assumption -exfalso -symm)))
  try refine ⟨by omega, ?_⟩
  (repeat' (first | (with_reducible first | refine zqA (fun _ _ => ?_) | refine zqB ?_ | refine zqC ?_ | refine zqD ?_ | refine zqE ?_ | refine zqF ?_ | refine zqG ?_ | refine zqH ?_ | refine zqI ?_ | refine zqJ ?_ | refine zqK ?_ | refine zqL (by decide) ?_) | (with_reducible refine zqM fun _ _ => ?_) | ((with_reducible refine zqP fun _ _ => ?_); simp only [go_sem, seval, w1, w2, w3, w4, w5, w6]) | ((with_reducible refine zqQ ?_); simp only [go_sem, seval]) | ((with_reducible refine zqN fun _ _ => ?_); simp only [go_sem, alist, adraw, seval]) | (with_reducible first | refine And.intro trivial ?_ | apply_assumption -exfalso -symm)))
  refine ⟨[], _, CallEff.pure (hP) (Nat.zero_le _) rfl rfl, ?_⟩; simp only [go_sem, alist, adraw, seval]
  simp only [go_sem, alist, adraw, seval, lL, yL, w5]
  refine ⟨rfl, ?_⟩
  (repeat' (first | (with_reducible first | refine zqA (fun _ _ => ?_) | refine zqB ?_ | refine zqC ?_ | refine zqD ?_ | refine zqE ?_ | refine zqF ?_ | refine zqG ?_ | refine zqH ?_ | refine zqI ?_ | refine zqJ ?_ | refine zqK ?_ | refine zqL (by decide) ?_) | (with_reducible refine zqM fun _ _ => ?_) | ((with_reducible refine zqP fun _ _ => ?_); simp only [go_sem, seval, w1, w2, w3, w4, w5, w6]) | ((with_reducible refine zqQ ?_); simp only [go_sem, seval]) | ((with_reducible refine zqN fun _ _ => ?_); simp only [go_sem, alist, adraw, seval]) | (with_reducible first | refine And.intro trivial ?_ | apply_assumption -exfalso -symm)))
  simp only [retQ, Tryd.f11]
  refine ret_pure (by simp only [resAll, resA, go_sem, alist, adraw, seval, w5]; rfl) rfl ?_ ?_ ?_ ?_
  · simp only [go_sem, alist, adraw, seval, lL]
  · rfl
  · simp only [AV.ren, List.map_cons, List.map_nil, AV.ren2, plain.map1 pL] <;> rfl
  · simp only [AV.ok3, List.all_cons, List.all_nil, AV.ok2, plain.all1 pL] <;> rfl
end Am
end
section
namespace Am
open Go Le
set_option maxRecDepth 100000
section
variable [Base]
theorem period_ec (lo hi : Int) (h : perB lo hi = true) : EC Tryd.prog 30 [] [.agg [iv lo, iv hi]] [] (bv true) :=
  EC.ofBelow ⟨_, _, Tryd.func30, rfl, rfl⟩ fun S w args _ _ hx => by
    obtain ⟨v, r, rfl, h1, q⟩ := LR.inv hx
    rw [LR.inv0 q, VR.aggv (vs := [.int .i64 lo, .int .i64 hi]) h1]
    exact (period_any lo hi w).mono fun e w' ⟨he, hb⟩ => ⟨_, he, hb, by rw [h]; exact .v _⟩
theorem keyok_ec (k : Rw) (h : keyB k = true) : EC Tryd.prog 38 [] [.agg (vrow (encR k))] [] (bv true) :=
  EC.ofBelow ⟨_, _, Tryd.func38, rfl, rfl⟩ fun S w args _ _ hx => by
    obtain ⟨v, r, rfl, h1, q⟩ := LR.inv hx
    rw [LR.inv0 q, VR.aggv h1]
    exact (valid_any_key k w).mono fun e w' ⟨he, hb⟩ => ⟨_, he, hb, by rw [h]; exact .v _⟩
theorem seal_ec (hla : Hs.LaidC Base.w) (k : Rw) (s e0 u r : Int) (D : List Nat) (hD : D.length = 16) (h1 : i64Ok s) (h2 : i64Ok e0) (h3 : i64Ok u) (hk : i64Ok k.2.1) (hs : k.2.2.1.size ≤ 400) :
    EC Tryd.prog 39 [] [.agg (vrow (encR k)), .agg (vrow (leaseL s e0 u r D))] [] (.agg (vrow (leaseL s e0 u k.2.1 (mkS 43 k.2.2.1 [leaseP s e0 u k.2.1])))) :=
  EC.ofBelow ⟨_, _, Tryd.func39, rfl, rfl⟩ fun S w args hl _ hx => by
    obtain ⟨v, r2, rfl, q1, q⟩ := LR.inv hx
    obtain ⟨v2, r3, rfl, q2, q3⟩ := LR.inv q
    rw [LR.inv0 q3, VR.aggv q1, VR.aggv q2]
    exact (sealLease_any k s e0 u r D w hD h1 h2 h3 hk hs (laid_of hla hl)).mono fun e w' ⟨he, hb⟩ => ⟨_, he, hb, VR.ofAgg _⟩
theorem refused_ec (la mo : Int) (l : List Gr) (k2 : Int) (k3 : ByteArray) (k4 k5 n lo hi len : Int) (hm : l.length ≤ 1000000) (ok : GsOk la mo l) (hs : 0 ≤ n ∧ n < 64) (hq : perB lo hi = true) (hl : 1 ≤ len ∧ len ≤ mo) (hk : keyB (1, k2, k3, k4, k5) = true) (h2 : (rowL n l).2.1 < la) :
    EC Tryd.prog 11 [] [.agg [iv la, iv mo, gsA l], .agg (vrow [.int .i64 1, .int .i64 k2, .string k3, .int .i64 k4, .int .i64 k5]), iv n, .agg [iv lo, iv hi], iv len] [] (.tup [.agg [iv 0, iv 0, .v (.slice none 0 0)], .agg (vrow leaseZ.toList), iv 4]) :=
  EC.ofBelow ⟨_, _, Tryd.func11, rfl, rfl⟩ fun S w args _ _ hx => by
    obtain ⟨v1, r1, rfl, q1, x1⟩ := LR.inv hx
    obtain ⟨v2, r2, rfl, q2, x2⟩ := LR.inv x1
    obtain ⟨v3, r3, rfl, q3, x3⟩ := LR.inv x2
    obtain ⟨v4, r4, rfl, q4, x4⟩ := LR.inv x3
    obtain ⟨v5, r5, rfl, q5, x5⟩ := LR.inv x4
    obtain ⟨a, c, rfl, hr⟩ := grants_at q1
    rw [LR.inv0 x5, VR.aggv q2, q3.v_eq, VR.aggv (vs := [.int .i64 lo, .int .i64 hi]) q4, q5.v_eq]
    exact (grant_state la mo a c l k2 k3 k4 k5 n lo hi len w hr hm ok hs hq hl hk h2).mono fun e w' ⟨he, hb⟩ => ⟨_, he, hb, VR.tup' (LR.cons (VR.ofAgg [.int .i64 0, .int .i64 0, .slice none 0 0]) (LR.cons (VR.ofAgg leaseZ.toList) (LR.cons (.v _) LR.nil)))⟩
theorem plain_v {vs : List Value} (h : ∀ v ∈ vs, v.oneCell' = true) : plain (vrow vs) := fun x hx => by
  obtain ⟨v, hv, rfl⟩ := List.mem_map.1 hx
  exact ⟨v, rfl, h v hv⟩
theorem grant_full (hla : Hs.LaidC Base.w) (la mo : Int) (l : List Gr) (k2 : Int) (k3 : ByteArray) (k4 k5 n lo hi len : Int) (hm : l.length ≤ 10000) (ok : GsOk la mo l) (hs : 0 ≤ n ∧ n < 64) (hq : perB lo hi = true) (hl : 1 ≤ len ∧ len ≤ mo) (hk : keyB (1, k2, k3, k4, k5) = true) (h2 : ¬ (rowL n l).2.1 < la) (h3 : ¬ 1099511627776 < lo + len) :
    EC Tryd.prog 11 [] [.agg [iv la, iv mo, gsA l], .agg (vrow [.int .i64 1, .int .i64 k2, .string k3, .int .i64 k4, .int .i64 k5]), iv n, .agg [iv lo, iv hi], iv len] [] (.tup [.agg [iv la, iv mo, gsA (withL (grantR n (lo + len) l) l)], .agg (vrow (leaseL n la (lo + len) k2 (sealD k2 k3 n la (lo + len)))), iv 0]) := by
  have hq' := of_decide_eq_true hq
  have hk' := of_decide_eq_true hk
  refine grant_ec0 la mo n lo hi len k2 k4 k5 (rowL n l).1 (rowL n l).2.1 (rowL n l).2.2 k3 _ _ _ (plain_v ?_) ?_ (valid_ec la mo l (by omega) ok) hs (period_ec lo hi hq) hl hq'.1 ok.mo1.2 (keyok_ec (1, k2, k3, k4, k5) hk) (grantOf_ec la mo l n ok.ord (by omega)) h2 h3 ?_ rfl ?_
  · intro v hv
    simp only [leaseL, List.mem_append, List.mem_cons, List.not_mem_nil, or_false, List.mem_map] at hv
    rcases hv with (rfl | rfl | rfl | rfl) | ⟨x, -, rfl⟩ <;> rfl
  · simp [vrow, leaseL, sealD_len]
  · exact seal_ec hla (1, k2, k3, k4, k5) n la (lo + len) 0 (List.replicate 16 0) rfl (by unfold i64Ok; omega) (by have := ok.la0; unfold i64Ok; omega) (by have := ok.mo1; unfold i64Ok; omega) (by have := hk'.2.1; unfold i64Ok; omega) (by have := hk'.2.2.1; omega)
  · have e : (rowL n l).1 = n := rowL_site n l
    rw [e]
    exact with_ec la mo l (grantR n (lo + len) l) ok.ord hm
end
end Am
end
section
namespace Am
open Go Le
set_option maxRecDepth 100000
section
variable [Base]
def tookL (st he ls le lu lr : Int) (D : List Nat) (ep un sr : Int) (V : List Nat) : List Value := if lu < un then heldL st he st ep un sr V else heldL st he ls le lu lr D
theorem take_ec (hla : Hs.LaidC Base.w) (rg : List Rw) (st he ls le lu lr ep un sr : Int) (D V : List Nat) (ok : RingOk rg) (hD : D.length = 16) (hV : V.length = 16) (hh : HeldOk st he lu) (hi : i64Ok ep ∧ i64Ok un ∧ i64Ok (un - 1) ∧ i64Ok sr) (hc : chkE rg 1 sr 43 [leaseP st ep un sr] V (un - 1) (un - 1) = 0) (h4 : ¬ he < ep) :
    EC Tryd.prog 32 [] [.sl (rg.map fun x => vrow (encR x)), .agg (vrow (heldL st he ls le lu lr D)), .agg (vrow (leaseL st ep un sr V))] [] (.tup [.agg (vrow (tookL st he ls le lu lr D ep un sr V)), iv 0]) :=
  EC.ofBelow ⟨_, _, Tryd.func32, rfl, rfl⟩ fun S w args hl _ hx => by
    obtain ⟨v1, r1, rfl, q1, x1⟩ := LR.inv hx
    obtain ⟨v2, r2, rfl, q2, x2⟩ := LR.inv x1
    obtain ⟨v3, r3, rfl, q3, x3⟩ := LR.inv x2
    obtain ⟨a, c, rfl, -, hr, -⟩ := VR.rows (enc := encR) (by decide) encR_len q1
    rw [LR.inv0 x3, VR.aggv q2, VR.aggv q3]
    unfold tookL
    by_cases h5 : lu < un
    · rw [if_pos h5]
      exact (take_new a c rg st he ls le lu lr ep un sr D V w hr ok hD hV hh hi (laid_of hla hl) hc h4 h5).mono fun e w' ⟨he, hb⟩ => ⟨_, he, hb, VR.tup' (LR.cons (VR.ofAgg _) (LR.cons (.v _) LR.nil))⟩
    · rw [if_neg h5]
      exact (take_keep a c rg st he ls le lu lr ep un sr D V w hr ok hD hV hh hi (laid_of hla hl) hc h4 h5).mono fun e w' ⟨he, hb⟩ => ⟨_, he, hb, VR.tup' (LR.cons (VR.ofAgg _) (LR.cons (.v _) LR.nil))⟩
def nilS : AV → AV
  | .v (.slice none 0 0) => .sl []
  | x => x
theorem nilS_ok {S : Nat → Prop} {F : Nat → Option Cn} {w : World} (x : AV) (v : Value) (h : VR S F w x v) : VR S F w (nilS x) v := by
  unfold nilS
  split
  · rw [h.v_eq]
    exact .sl [] none 0 0 0 0 0 (fun _ _ => undef) rfl (Nat.le_refl _) (fun i row h => by simp at h) (fun i j row c h => by simp at h) (fun i j row c h => by simp at h)
  · exact h
theorem EC.weaker {P : Program} {g : FuncId} {T0 T1 : List Blk} {xs : List AV} {r r' : AV} (h : EC P g T0 xs T1 r) (hr : ∀ (S : Nat → Prop) (F : Nat → Option Cn) (w : World) (v : Value), VR S F w r v → VR S F w r' v) : EC P g T0 xs T1 r' :=
  ⟨h.1, fun B D S0 F w args a b c => (h.2 B D S0 F w args a b c).mono fun e w' ⟨v, F', q1, q2, q3, q4, q5, q6⟩ => ⟨v, F', q1, q2, q3, q4, q5, hr _ _ _ _ q6⟩⟩
end
end Am
end
section
namespace Am
open Go Le
set_option maxRecDepth 100000
def site0 (n : Int) : List AV := vrow (heldL n 0 0 0 0 0 (List.replicate 16 0))
theorem begin_map (mo : Int) : (bw mo 1 2).map nilS = wA [iv 0, iv mo, .sl []] (site0 0) (site0 1) (site0 2) [.sl [], .sl [], iv 1000, bv false] := rfl
theorem begin_full [Base] (mo : Int) (h : 1 ≤ mo ∧ mo ≤ 3600000) : EC Tryd.prog 24 [] [iv mo] [] (.tup [.agg (wA [iv 0, iv mo, .sl []] (site0 0) (site0 1) (site0 2) [.sl [], .sl [], iv 1000, bv false]), bv true]) :=
  (begin_ec mo (new_ec mo h)).weaker fun S F w v hv => by
    obtain ⟨vs, rfl, q⟩ := hv.tup_eq
    obtain ⟨v1, r1, rfl, h1, q1⟩ := LR.inv q
    obtain ⟨v2, r2, rfl, h2, q2⟩ := LR.inv q1
    obtain ⟨us, rfl, q3⟩ := h1.agg_eq
    have := map_push (f := nilS) nilS_ok q3
    rw [begin_map] at this
    rw [LR.inv0 q2]
    exact VR.tup' (LR.cons this.agg (LR.cons h2 LR.nil))
end Am
end
end Go.Proofs.YteblnmhaohbkkaaDoor
