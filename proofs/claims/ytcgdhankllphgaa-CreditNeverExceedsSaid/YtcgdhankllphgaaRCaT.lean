import Derived.Test.YtcgdhankllphgaaRCaW
namespace Go.Proofs.Ytcgdhankllphgaa
set_option linter.unusedVariables false
set_option linter.unusedSimpArgs false
set_option linter.unusedSectionVars false
namespace Am
open Go
attribute [local go_sem] true_implies false_implies List.take_length bne_self_eq_false beq_self_eq_true List.forall_mem_cons List.not_mem_nil false_imp_iff allOne_nil allOne_cons iv bv Value.oneCell' astep aexe asem AS.put AS.app AS.ev look eff effIf binE unE convE lenE loadE storeE fieldAddrE fieldE indexAddrE indexE sliceE low bound extractE pickE minE allocE boxE buildE buildSliceE makeSliceE appendE elsOf aliveB pairs fillA litEls partOf tdesc TI.isAgg KD.row AV.cells AV.one guardV Option.map_some Option.map_none Option.getD_some Option.bind_some Option.bind_none List.map_cons List.map_nil List.nil_append List.cons_append List.append_nil true_and and_true cond_true cond_false Nat.zero_add Nat.add_zero Nat.zero_mul Nat.mul_zero List.getElem?_cons_zero List.getElem?_cons_succ List.getElem?_nil List.getElem?_toArray List.length_cons List.length_nil List.size_toArray List.take_succ_cons List.take_zero List.drop_succ_cons List.drop_zero List.drop_nil List.take_nil List.set_cons_zero List.set_cons_succ Bool.not_true Bool.not_false List.flatMap_cons List.flatMap_nil idA false_and forall_eq implies_true Bool.false_eq_true imp_false not_true_eq_false not_false_eq_true goInt Int.toNat_natCast ne_eq Nat.le_refl and_self List.append_assoc AV.ren AV.ren2 AV.ren1 AV.ren0 updC List.zipIdx_cons List.zipIdx_nil rho Blk.ren frzT frzB frzA ti_1 ti_2 ti_3 ti_4 ti_5 ti_6 ti_7 ti_8 ti_9 ti_10 ti_11 ti_12 ti_13 ti_14 ti_15 ti_16 ti_17 ti_18 ti_19 ti_20 ti_21 ti_22 ti_23 ti_24 ti_25 ti_26 ti_27 ti_28 ti_30 ti_31 ti_32 ti_33 ti_34 ti_35 ti_36 ti_37 ti_38 ti_39 ti_40 ti_41 ti_42 ti_43 ti_44 ti_45 ti_47 ti_48 ti_49 ti_50 ti_51 ti_52 ti_53 ti_54 ti_55 ti_56 ti_57 ti_58 ti_59 ti_60 ti_61 ti_62 ti_63 ti_64 ti_65 ti_66 ti_67 ti_68 ti_69 ti_70 ti_71 ti_72 ti_73 ti_74 ti_75 ti_77 ti_78 ti_79 ti_80 ti_81 ti_82 ti_83 ti_85 ti_86 ti_87 ti_88 ti_89 ti_90 ti_91 ti_92 ti_93 ti_94 ti_96 ti_97 ti_98 ti_99 ti_100 ti_101 ti_102 ti_103 ti_104 ti_105 ti_106 ti_107 ti_108 ti_109 ti_110 ti_111 ti_112 ti_113 ti_114 ti_115 ti_116 ti_117 ti_118 ti_119 ti_120 ti_121 ti_125 ti_126 ti_127 ti_128 ti_129 ti_130 ti_131 ti_132 ti_133 ti_134
set_option maxRecDepth 100000
theorem act6e [Base] (cap T t lo at_ g : Int) (B P Q D K : List (List AV)) (C : List AV) (k ga wi n af ea la : Int)
    (hC : C.length = 40) (pC : plain C) (hk : k.tmod 8 = 6) (hg : ga.tmod 2 = g) (hg0 : 0 ≤ g ∧ g ≤ 1) (hk0 : 0 ≤ k ∧ k < 256) (hga0 : 0 ≤ ga ∧ ga < 256) (hwi0 : 0 ≤ wi ∧ wi < 256) (hn0 : 0 ≤ n ∧ n < 256) (h1 : 0 ≤ af ∧ af < 256) (h2 : 0 ≤ ea ∧ ea < 256) (h3 : 0 ≤ la ∧ la < 256)
    (hT : 0 ≤ T ∧ T ≤ 3999) (ht : t = min 3999 (T + af.tmod 64)) (hlo : lo = max 0 (t - ea.tmod 60)) (hat : at_ = t.tdiv 100 + wi.tmod 3) (h0 : K = []) :
    EC Try.prog 42 [] [.agg (wC cap B P Q D K T C false), evC k ga wi n af ea la] [] (.agg (wC cap B P Q D [] t C false)) := by
  have m1 := tmod_in (x := af) (y := 64) h1.1 (by omega)
  have m2 := tmod_in (x := ea) (y := 60) h2.1 (by omega)
  have m3 := tmod_in (x := la) (y := 60) h3.1 (by omega)
  have m4 := tmod_in (x := wi) (y := 3) hwi0.1 (by omega)
  have m5 := tdiv_in (x := t) (y := 100) (by omega) (by omega)
  have w1 : IntKind.i64.wrap af = af := wrap_ok (by omega) (by omega)
  have w2 : IntKind.i64.wrap (T + af.tmod 64) = T + af.tmod 64 := wrap_ok (by omega) (by omega)
  have w3 : (if T + af.tmod 64 < 3999 then T + af.tmod 64 else 3999) = t := by split <;> omega
  have w4 : IntKind.i64.wrap ea = ea := wrap_ok (by omega) (by omega)
  have w5 : IntKind.i64.wrap (t - ea.tmod 60) = t - ea.tmod 60 := wrap_ok (by omega) (by omega)
  have w6 : (if t - ea.tmod 60 > 0 then t - ea.tmod 60 else 0) = lo := by split <;> omega
  have w7 : IntKind.i64.wrap la = la := wrap_ok (by omega) (by omega)
  have w8 : IntKind.i64.wrap (t + la.tmod 60) = t + la.tmod 60 := wrap_ok (by omega) (by omega)
  have w9 : IntKind.i64.wrap ga = ga := wrap_ok (by omega) (by omega)
  have w10 : IntKind.i64.wrap (t.tdiv 100) = t.tdiv 100 := wrap_ok (by omega) (by omega)
  have w11 : IntKind.i64.wrap wi = wi := wrap_ok (by omega) (by omega)
  have w12 : IntKind.i64.wrap (t.tdiv 100 + wi.tmod 3) = at_ := by rw [hat]; exact wrap_ok (by omega) (by omega)
  have w13 : IntKind.i64.wrap n = n := wrap_ok (by omega) (by omega)
  have lC := c_len hC
  have gC := c_at hC
  have t40 := c_t40 hC
  have t41 := c_t41 hC
  have d41 := c_d41 hC
  have oC := pC.one
  have lE := lC
  have gE := gC
  have t4E := t40
  have t5E := t41
  have dE := d41
  have oE := oC
  have w14 := w13
  have w15 := w13
  have w16 := w13
  refine EC_of_awp tiOk mixed Try.func42 rfl rfl (by kernel_rfl) (by simp [Try.f42]) ?_
  simp only [start, List.zipIdx_cons, List.zipIdx_nil, List.map_cons, List.map_nil, List.length_nil, List.length_cons, Nat.zero_add, Nat.reduceAdd]
  subst h0
  (repeat' (first | (with_reducible first | refine zqA (fun _ _ => ?_) | refine zqB ?_ | refine zqC ?_ | refine zqD ?_ | refine zqE ?_ | refine zqF ?_ | refine zqG ?_ | refine zqH ?_ | refine zqI ?_ | refine zqJ ?_ | refine zqK ?_ | refine zqL (by decide) ?_) | ((with_reducible first | refine zqM (fun _ _ => ?_) | refine zqN (fun _ _ => ?_)); simp only [go_sem, alist, adraw, seval, wC, hk, hg, lC, gC, t40, t41, d41, oC, lE, gE, t4E, t5E, dE, oE, allOne_app, u8, w1, w2, w3, w4, w5, w6, w7, w8, w9, w10, w11, w12, w13, w14, w15, w16]) | (with_reducible first | refine And.intro trivial ?_ | apply_assumption -exfalso -symm)))
  refine zqO (by simp only [go_sem, alist, adraw, seval, wC, hk, hg, lC, gC, t40, t41, d41, oC, lE, gE, t4E, t5E, dE, oE, allOne_app, u8, w1, w2, w3, w4, w5, w6, w7, w8, w9, w10, w11, w12, w13, w14, w15, w16] <;> rfl) (fun h => absurd h (by simp)) (fun _ => ?_)
  (repeat' (first | (with_reducible first | refine zqA (fun _ _ => ?_) | refine zqB ?_ | refine zqC ?_ | refine zqD ?_ | refine zqE ?_ | refine zqF ?_ | refine zqG ?_ | refine zqH ?_ | refine zqI ?_ | refine zqJ ?_ | refine zqK ?_ | refine zqL (by decide) ?_) | ((with_reducible first | refine zqM (fun _ _ => ?_) | refine zqN (fun _ _ => ?_)); simp only [go_sem, alist, adraw, seval, wC, hk, hg, lC, gC, t40, t41, d41, oC, lE, gE, t4E, t5E, dE, oE, allOne_app, u8, w1, w2, w3, w4, w5, w6, w7, w8, w9, w10, w11, w12, w13, w14, w15, w16]) | (with_reducible first | refine And.intro trivial ?_ | apply_assumption -exfalso -symm)))
  refine zqO (by simp only [go_sem, alist, adraw, seval, wC, hk, hg, lC, gC, t40, t41, d41, oC, lE, gE, t4E, t5E, dE, oE, allOne_app, u8, w1, w2, w3, w4, w5, w6, w7, w8, w9, w10, w11, w12, w13, w14, w15, w16] <;> rfl) (fun h => absurd h (by simp)) (fun _ => ?_)
  (repeat' (first | (with_reducible first | refine zqA (fun _ _ => ?_) | refine zqB ?_ | refine zqC ?_ | refine zqD ?_ | refine zqE ?_ | refine zqF ?_ | refine zqG ?_ | refine zqH ?_ | refine zqI ?_ | refine zqJ ?_ | refine zqK ?_ | refine zqL (by decide) ?_) | ((with_reducible first | refine zqM (fun _ _ => ?_) | refine zqN (fun _ _ => ?_)); simp only [go_sem, alist, adraw, seval, wC, hk, hg, lC, gC, t40, t41, d41, oC, lE, gE, t4E, t5E, dE, oE, allOne_app, u8, w1, w2, w3, w4, w5, w6, w7, w8, w9, w10, w11, w12, w13, w14, w15, w16]) | (with_reducible first | refine And.intro trivial ?_ | apply_assumption -exfalso -symm)))
  refine zqO (by simp only [go_sem, alist, adraw, seval, wC, hk, hg, lC, gC, t40, t41, d41, oC, lE, gE, t4E, t5E, dE, oE, allOne_app, u8, w1, w2, w3, w4, w5, w6, w7, w8, w9, w10, w11, w12, w13, w14, w15, w16] <;> rfl) (fun h => absurd h (by simp)) (fun _ => ?_)
  (repeat' (first | (with_reducible first | refine zqA (fun _ _ => ?_) | refine zqB ?_ | refine zqC ?_ | refine zqD ?_ | refine zqE ?_ | refine zqF ?_ | refine zqG ?_ | refine zqH ?_ | refine zqI ?_ | refine zqJ ?_ | refine zqK ?_ | refine zqL (by decide) ?_) | ((with_reducible first | refine zqM (fun _ _ => ?_) | refine zqN (fun _ _ => ?_)); simp only [go_sem, alist, adraw, seval, wC, hk, hg, lC, gC, t40, t41, d41, oC, lE, gE, t4E, t5E, dE, oE, allOne_app, u8, w1, w2, w3, w4, w5, w6, w7, w8, w9, w10, w11, w12, w13, w14, w15, w16]) | (with_reducible first | refine And.intro trivial ?_ | apply_assumption -exfalso -symm)))
  refine zqO (by simp only [go_sem, alist, adraw, seval, wC, hk, hg, lC, gC, t40, t41, d41, oC, lE, gE, t4E, t5E, dE, oE, allOne_app, u8, w1, w2, w3, w4, w5, w6, w7, w8, w9, w10, w11, w12, w13, w14, w15, w16] <;> rfl) (fun h => absurd h (by simp)) (fun _ => ?_)
  (repeat' (first | (with_reducible first | refine zqA (fun _ _ => ?_) | refine zqB ?_ | refine zqC ?_ | refine zqD ?_ | refine zqE ?_ | refine zqF ?_ | refine zqG ?_ | refine zqH ?_ | refine zqI ?_ | refine zqJ ?_ | refine zqK ?_ | refine zqL (by decide) ?_) | ((with_reducible first | refine zqM (fun _ _ => ?_) | refine zqN (fun _ _ => ?_)); simp only [go_sem, alist, adraw, seval, wC, hk, hg, lC, gC, t40, t41, d41, oC, lE, gE, t4E, t5E, dE, oE, allOne_app, u8, w1, w2, w3, w4, w5, w6, w7, w8, w9, w10, w11, w12, w13, w14, w15, w16]) | (with_reducible first | refine And.intro trivial ?_ | apply_assumption -exfalso -symm)))
  refine zqO (by simp only [go_sem, alist, adraw, seval, wC, hk, hg, lC, gC, t40, t41, d41, oC, lE, gE, t4E, t5E, dE, oE, allOne_app, u8, w1, w2, w3, w4, w5, w6, w7, w8, w9, w10, w11, w12, w13, w14, w15, w16] <;> rfl) (fun h => absurd h (by simp)) (fun _ => ?_)
  (repeat' (first | (with_reducible first | refine zqA (fun _ _ => ?_) | refine zqB ?_ | refine zqC ?_ | refine zqD ?_ | refine zqE ?_ | refine zqF ?_ | refine zqG ?_ | refine zqH ?_ | refine zqI ?_ | refine zqJ ?_ | refine zqK ?_ | refine zqL (by decide) ?_) | ((with_reducible first | refine zqM (fun _ _ => ?_) | refine zqN (fun _ _ => ?_)); simp only [go_sem, alist, adraw, seval, wC, hk, hg, lC, gC, t40, t41, d41, oC, lE, gE, t4E, t5E, dE, oE, allOne_app, u8, w1, w2, w3, w4, w5, w6, w7, w8, w9, w10, w11, w12, w13, w14, w15, w16]) | (with_reducible first | refine And.intro trivial ?_ | apply_assumption -exfalso -symm)))
  refine zqO (by simp only [go_sem, alist, adraw, seval, wC, hk, hg, lC, gC, t40, t41, d41, oC, lE, gE, t4E, t5E, dE, oE, allOne_app, u8, w1, w2, w3, w4, w5, w6, w7, w8, w9, w10, w11, w12, w13, w14, w15, w16] <;> rfl) (fun h => absurd h (by simp)) (fun _ => ?_)
  (repeat' (first | (with_reducible first | refine zqA (fun _ _ => ?_) | refine zqB ?_ | refine zqC ?_ | refine zqD ?_ | refine zqE ?_ | refine zqF ?_ | refine zqG ?_ | refine zqH ?_ | refine zqI ?_ | refine zqJ ?_ | refine zqK ?_ | refine zqL (by decide) ?_) | ((with_reducible first | refine zqM (fun _ _ => ?_) | refine zqN (fun _ _ => ?_)); simp only [go_sem, alist, adraw, seval, wC, hk, hg, lC, gC, t40, t41, d41, oC, lE, gE, t4E, t5E, dE, oE, allOne_app, u8, w1, w2, w3, w4, w5, w6, w7, w8, w9, w10, w11, w12, w13, w14, w15, w16]) | (with_reducible first | refine And.intro trivial ?_ | apply_assumption -exfalso -symm)))
  refine zqO (by simp only [go_sem, alist, adraw, seval, wC, hk, hg, lC, gC, t40, t41, d41, oC, lE, gE, t4E, t5E, dE, oE, allOne_app, u8, w1, w2, w3, w4, w5, w6, w7, w8, w9, w10, w11, w12, w13, w14, w15, w16] <;> rfl) (fun _ => ?_) (fun h => absurd h (by simp))
  (repeat' (first | (with_reducible first | refine zqA (fun _ _ => ?_) | refine zqB ?_ | refine zqC ?_ | refine zqD ?_ | refine zqE ?_ | refine zqF ?_ | refine zqG ?_ | refine zqH ?_ | refine zqI ?_ | refine zqJ ?_ | refine zqK ?_ | refine zqL (by decide) ?_) | ((with_reducible first | refine zqM (fun _ _ => ?_) | refine zqN (fun _ _ => ?_)); simp only [go_sem, alist, adraw, seval, wC, hk, hg, lC, gC, t40, t41, d41, oC, lE, gE, t4E, t5E, dE, oE, allOne_app, u8, w1, w2, w3, w4, w5, w6, w7, w8, w9, w10, w11, w12, w13, w14, w15, w16]) | (with_reducible first | refine And.intro trivial ?_ | apply_assumption -exfalso -symm)))
  refine zqO (by simp only [go_sem, alist, adraw, seval, wC, hk, hg, lC, gC, t40, t41, d41, oC, lE, gE, t4E, t5E, dE, oE, allOne_app, u8, w1, w2, w3, w4, w5, w6, w7, w8, w9, w10, w11, w12, w13, w14, w15, w16] <;> rfl) (fun h => absurd h (by simp)) (fun _ => ?_)
  (repeat' (first | (with_reducible first | refine zqA (fun _ _ => ?_) | refine zqB ?_ | refine zqC ?_ | refine zqD ?_ | refine zqE ?_ | refine zqF ?_ | refine zqG ?_ | refine zqH ?_ | refine zqI ?_ | refine zqJ ?_ | refine zqK ?_ | refine zqL (by decide) ?_) | ((with_reducible first | refine zqM (fun _ _ => ?_) | refine zqN (fun _ _ => ?_)); simp only [go_sem, alist, adraw, seval, wC, hk, hg, lC, gC, t40, t41, d41, oC, lE, gE, t4E, t5E, dE, oE, allOne_app, u8, w1, w2, w3, w4, w5, w6, w7, w8, w9, w10, w11, w12, w13, w14, w15, w16]) | (with_reducible first | refine And.intro trivial ?_ | apply_assumption -exfalso -symm)))
  simp only [retQ, Try.f42]; refine ret_pure (by simp only [resAll, resA, go_sem, alist, adraw, seval, wC, hk, hg, lC, gC, t40, t41, d41, oC, lE, gE, t4E, t5E, dE, oE, allOne_app, u8, w1, w2, w3, w4, w5, w6, w7, w8, w9, w10, w11, w12, w13, w14, w15, w16]; rfl) rfl ?_ ?_ ?_ ?_
  · first | (simp only [go_sem, alist, adraw, seval, wC, hk, hg, lC, gC, t40, t41, d41, oC, lE, gE, t4E, t5E, dE, oE, allOne_app, u8, w1, w2, w3, w4, w5, w6, w7, w8, w9, w10, w11, w12, w13, w14, w15, w16]; done) | (simp only [go_sem, alist, adraw, seval, wC, hk, hg, lC, gC, t40, t41, d41, oC, lE, gE, t4E, t5E, dE, oE, allOne_app, u8, w1, w2, w3, w4, w5, w6, w7, w8, w9, w10, w11, w12, w13, w14, w15, w16] <;> omega) | omega | trivial
  · rfl
  · exact wC_ren pC _
  · exact wC_ok pC
end Am
end Go.Proofs.Ytcgdhankllphgaa
