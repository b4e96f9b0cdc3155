import Derived.Test.YteblnmhaohbkkaaDoorRD1
namespace Go.Proofs.YteblnmhaohbkkaaDoor
set_option linter.unusedVariables false
set_option linter.unusedSimpArgs false
set_option linter.unusedSectionVars false
section
namespace Am
open Go
attribute [local go_sem] true_implies false_implies List.take_length bne_self_eq_false beq_self_eq_true List.forall_mem_cons List.not_mem_nil false_imp_iff allOne_nil allOne_cons iv bv Value.oneCell' astep aexe asem AS.put AS.app AS.ev look eff effIf binE unE convE lenE loadE storeE fieldAddrE fieldE indexAddrE indexE sliceE low bound extractE pickE minE allocE boxE buildE buildSliceE makeSliceE appendE elsOf aliveB pairs fillA litEls partOf tdesc TI.isAgg KD.row AV.cells AV.one guardV Option.map_some Option.map_none Option.getD_some Option.bind_some Option.bind_none List.map_cons List.map_nil List.nil_append List.cons_append List.append_nil true_and and_true cond_true cond_false Nat.zero_add Nat.add_zero Nat.zero_mul Nat.mul_zero List.getElem?_cons_zero List.getElem?_cons_succ List.getElem?_nil List.getElem?_toArray List.length_cons List.length_nil List.size_toArray List.take_succ_cons List.take_zero List.drop_succ_cons List.drop_zero List.drop_nil List.take_nil List.set_cons_zero List.set_cons_succ Bool.not_true Bool.not_false List.flatMap_cons List.flatMap_nil idA false_and forall_eq implies_true Bool.false_eq_true imp_false not_true_eq_false not_false_eq_true goInt Int.toNat_natCast ne_eq Nat.le_refl and_self List.append_assoc AV.ren AV.ren2 AV.ren1 AV.ren0 updC List.zipIdx_cons List.zipIdx_nil rho Blk.ren frzT frzB frzA ti_2 ti_3 ti_4 ti_5 ti_9 ti_12 ti_13 ti_21 ti_22 ti_23 ti_24 ti_25 ti_26 ti_27 ti_28 ti_30 ti_35 ti_36 ti_37 ti_38 ti_43 ti_46 ti_47 ti_51 ti_52 ti_54 ti_55 ti_57 ti_58 ti_64 ti_65 ti_66 ti_67 ti_68 ti_69 ti_70 ti_71 ti_75 ti_76 ti_79 ti_80 ti_87 ti_88 ti_92 ti_112 ti_117 ti_118 ti_122 wA_len wA_0 wA_1 wA_g wA_69 wA_70 wA_71 wA_72 wA_s0 wA_s1 wA_s2 wA_whole wA_h0 wA_h1 wA_h2 wA_wg wA_t3 wA_w0 wA_w1 wA_w2 wA_w69 wA_w70 wA_w71 wA_w72 wA_one
set_option maxRecDepth 100000
set_option maxHeartbeats 4000000 in
theorem act3 [Base] (la mo T u i : Int) (G G2 : List (List AV)) (a b c K L : List AV) (Sl Bn : List (List AV)) (k s n af ea lt : Int)
    (ha : a.length = 22) (hb : b.length = 22) (hc : c.length = 22) (pa : plain a) (pb : plain b) (pc : plain c)
    (hk : k.tmod 5 = 3) (hs : s.tmod 3 = i) (hk0 : 0 ≤ k ∧ k < 256) (hs0 : 0 ≤ s ∧ s < 256) (hn0 : 0 ≤ n ∧ n < 256) (h1 : 0 ≤ af ∧ af < 256) (h2 : 0 ≤ ea ∧ ea < 256) (h3 : 0 ≤ lt ∧ lt < 256) (hT : 1000 ≤ T ∧ T ≤ 1000000)
    (hK : EC Tryd.prog 31 [] [] [] (.agg K)) (pK : plain K) (lK : K.length = 5) (hmo : 1 ≤ mo ∧ mo ≤ 500)
    (hG : EC Tryd.prog 11 [] [.agg [iv la, iv mo, .sl G], .agg K, iv i, .agg [iv (T + af - ea), iv (T + af + lt)], iv (1 + n.tmod mo)] [] (.tup [.agg [iv la, iv mo, .sl G2], .agg L, iv 0]))
    (px : plain L) (hx : L.length = 20) (ax : L[2]? = some (.v (.int .i64 u))) (hu : u ≤ T + af + mo) (hSl : Sl.length ≤ 60) (hS1 : ∀ r ∈ Sl, r.length = 20 ∧ allOne r) (hS2 : ∀ r ∈ Sl, r.all (·.clo) = true) :
    EC Tryd.prog 25 [] [.agg (wA [iv la, iv mo, .sl G] a b c [.sl Sl, .sl Bn, iv T, bv false]), evA k s n af ea lt] [] (.agg (wA [iv la, iv mo, .sl G2] a b c [.sl (Sl ++ [L]), .sl Bn, iv (T + af), bv false])) := by
  refine EC_of_awp tiOk mixed Tryd.func25 rfl rfl (by kernel_rfl) (by simp [Tryd.f25]) ?_
  simp only [start, List.zipIdx_cons, List.zipIdx_nil, List.map_cons, List.map_nil, List.length_nil, List.length_cons, Nat.zero_add, Nat.reduceAdd]
  have ya := pa.one
  have yb := pb.one
  have yc := pc.one
  have w1 : IntKind.i64.wrap af = af := wrap_ok (by omega) (by omega)
  have w2 : IntKind.i64.wrap (T + af) = T + af := wrap_ok (by omega) (by omega)
  have w3 : IntKind.i64.wrap ea = ea := wrap_ok (by omega) (by omega)
  have w4 : IntKind.i64.wrap (T + af - ea) = T + af - ea := wrap_ok (by omega) (by omega)
  have w5 : IntKind.i64.wrap lt = lt := wrap_ok (by omega) (by omega)
  have w6 : IntKind.i64.wrap (T + af + lt) = T + af + lt := wrap_ok (by omega) (by omega)
  have w7 : IntKind.i64.wrap s = s := wrap_ok (by omega) (by omega)
  have yx := px.one
  have yK := pK.one
  have tx : List.take 20 L = L := List.take_of_length_le (by omega)
  have tK : List.take 5 K = K := List.take_of_length_le (by omega)
  have w8 : IntKind.i64.wrap (T + af + mo) = T + af + mo := wrap_ok (by omega) (by omega)
  have w9 : IntKind.i64.wrap n = n := wrap_ok (by omega) (by omega)
  have w10 : (if mo > 1 then mo else 1) = mo := by split <;> omega
  have w11 : (mo = 0) = False := eq_false (by omega)
  have wm : 0 ≤ n.tmod mo ∧ n.tmod mo < mo := by
    rw [Int.tmod_eq_emod_of_nonneg (by omega)]
    exact ⟨Int.emod_nonneg _ (by omega), Int.emod_lt_of_pos _ (by omega)⟩
  have w12 : IntKind.i64.wrap (1 + n.tmod mo) = 1 + n.tmod mo := wrap_ok (by omega) (by omega)
  have w13 : decide (T + af + mo < u) = false := decide_eq_false (by omega)
  (repeat' (first | (with_reducible first | refine zqA (fun _ _ => ?_) | refine zqB ?_ | refine zqC ?_ | refine zqD ?_ | refine zqE ?_ | refine zqF ?_ | refine zqG ?_ | refine zqH ?_ | refine zqI ?_ | refine zqJ ?_ | refine zqK ?_ | refine zqL (by decide) ?_) | ((with_reducible first | refine zqM (fun _ _ => ?_) | refine zqN (fun _ _ => ?_)); simp only [go_sem, alist, adraw, seval, ha, hb, hc, ya, yb, yc, hx, yx, tx, ax, u8, w1, w2, w3, w4, w5, w6, w7, hk, w8, w9, w10, hs, w11, w12, w13, lK, yK, tK]) | (with_reducible first | refine And.intro trivial ?_ | apply_assumption -exfalso -symm)))
  refine zqO (by simp only [go_sem, alist, adraw, seval] <;> rfl) (fun h => absurd h (by simp)) (fun _ => ?_)
  (repeat' (first | (with_reducible first | refine zqA (fun _ _ => ?_) | refine zqB ?_ | refine zqC ?_ | refine zqD ?_ | refine zqE ?_ | refine zqF ?_ | refine zqG ?_ | refine zqH ?_ | refine zqI ?_ | refine zqJ ?_ | refine zqK ?_ | refine zqL (by decide) ?_) | ((with_reducible first | refine zqM (fun _ _ => ?_) | refine zqN (fun _ _ => ?_)); simp only [go_sem, alist, adraw, seval, ha, hb, hc, ya, yb, yc, hx, yx, tx, ax, u8, w1, w2, w3, w4, w5, w6, w7, hk, w8, w9, w10, hs, w11, w12, w13, lK, yK, tK]) | (with_reducible first | refine And.intro trivial ?_ | apply_assumption -exfalso -symm)))
  refine zqO (by simp only [go_sem, alist, adraw, seval] <;> rfl) (fun h => absurd h (by simp)) (fun _ => ?_)
  (repeat' (first | (with_reducible first | refine zqA (fun _ _ => ?_) | refine zqB ?_ | refine zqC ?_ | refine zqD ?_ | refine zqE ?_ | refine zqF ?_ | refine zqG ?_ | refine zqH ?_ | refine zqI ?_ | refine zqJ ?_ | refine zqK ?_ | refine zqL (by decide) ?_) | ((with_reducible first | refine zqM (fun _ _ => ?_) | refine zqN (fun _ _ => ?_)); simp only [go_sem, alist, adraw, seval, ha, hb, hc, ya, yb, yc, hx, yx, tx, ax, u8, w1, w2, w3, w4, w5, w6, w7, hk, w8, w9, w10, hs, w11, w12, w13, lK, yK, tK]) | (with_reducible first | refine And.intro trivial ?_ | apply_assumption -exfalso -symm)))
  refine zqO (by simp only [go_sem, alist, adraw, seval] <;> rfl) (fun h => absurd h (by simp)) (fun _ => ?_)
  (repeat' (first | (with_reducible first | refine zqA (fun _ _ => ?_) | refine zqB ?_ | refine zqC ?_ | refine zqD ?_ | refine zqE ?_ | refine zqF ?_ | refine zqG ?_ | refine zqH ?_ | refine zqI ?_ | refine zqJ ?_ | refine zqK ?_ | refine zqL (by decide) ?_) | ((with_reducible first | refine zqM (fun _ _ => ?_) | refine zqN (fun _ _ => ?_)); simp only [go_sem, alist, adraw, seval, ha, hb, hc, ya, yb, yc, hx, yx, tx, ax, u8, w1, w2, w3, w4, w5, w6, w7, hk, w8, w9, w10, hs, w11, w12, w13, lK, yK, tK]) | (with_reducible first | refine And.intro trivial ?_ | apply_assumption -exfalso -symm)))
  refine zqO (by simp only [go_sem, alist, adraw, seval] <;> rfl) (fun _ => ?_) (fun h => absurd h (by simp))
  (repeat' (first | (with_reducible first | refine zqA (fun _ _ => ?_) | refine zqB ?_ | refine zqC ?_ | refine zqD ?_ | refine zqE ?_ | refine zqF ?_ | refine zqG ?_ | refine zqH ?_ | refine zqI ?_ | refine zqJ ?_ | refine zqK ?_ | refine zqL (by decide) ?_) | ((with_reducible first | refine zqM (fun _ _ => ?_) | refine zqN (fun _ _ => ?_)); simp only [go_sem, alist, adraw, seval, ha, hb, hc, ya, yb, yc, hx, yx, tx, ax, u8, w1, w2, w3, w4, w5, w6, w7, hk, w8, w9, w10, hs, w11, w12, w13, lK, yK, tK]) | (with_reducible first | refine And.intro trivial ?_ | apply_assumption -exfalso -symm)))
  refine ⟨[], _, CallEff.pure0 (hK) (by first | rfl | (simp only [List.map_cons, List.map_nil, AV.ren2, plain.map1 pa, plain.map1 pb, plain.map1 pc, plain.map1 px, plain.map1 pK] <;> rfl)) (by first | rfl | (simp only [List.all_cons, List.all_nil, AV.ok2, plain.all1 pa, plain.all1 pb, plain.all1 pc, plain.all1 px, plain.all1 pK] <;> rfl)) (by first | rfl | (simp only [AV.ren, List.map_cons, List.map_nil, AV.ren2, plain.map1 pa, plain.map1 pb, plain.map1 pc, plain.map1 px, plain.map1 pK] <;> rfl)), ?_⟩; simp only [go_sem, alist, adraw, seval, ha, hb, hc, ya, yb, yc, hx, yx, tx, ax, u8, w1, w2, w3, w4, w5, w6, w7, hk, w8, w9, w10, hs, w11, w12, w13, lK, yK, tK]
  refine ⟨[], _, CallEff.pure0 (hG) (by first | rfl | (simp only [List.map_cons, List.map_nil, AV.ren2, plain.map1 pa, plain.map1 pb, plain.map1 pc, plain.map1 px, plain.map1 pK] <;> rfl)) (by first | rfl | (simp only [List.all_cons, List.all_nil, AV.ok2, plain.all1 pa, plain.all1 pb, plain.all1 pc, plain.all1 px, plain.all1 pK] <;> rfl)) (by first | rfl | (simp only [AV.ren, List.map_cons, List.map_nil, AV.ren2, plain.map1 pa, plain.map1 pb, plain.map1 pc, plain.map1 px, plain.map1 pK] <;> rfl)), ?_⟩; simp only [go_sem, alist, adraw, seval, ha, hb, hc, ya, yb, yc, hx, yx, tx, ax, u8, w1, w2, w3, w4, w5, w6, w7, hk, w8, w9, w10, hs, w11, w12, w13, lK, yK, tK]
  refine ⟨rfl, ?_⟩
  (repeat' (first | (with_reducible first | refine zqA (fun _ _ => ?_) | refine zqB ?_ | refine zqC ?_ | refine zqD ?_ | refine zqE ?_ | refine zqF ?_ | refine zqG ?_ | refine zqH ?_ | refine zqI ?_ | refine zqJ ?_ | refine zqK ?_ | refine zqL (by decide) ?_) | ((with_reducible first | refine zqM (fun _ _ => ?_) | refine zqN (fun _ _ => ?_)); simp only [go_sem, alist, adraw, seval, ha, hb, hc, ya, yb, yc, hx, yx, tx, ax, u8, w1, w2, w3, w4, w5, w6, w7, hk, w8, w9, w10, hs, w11, w12, w13, lK, yK, tK]) | (with_reducible first | refine And.intro trivial ?_ | apply_assumption -exfalso -symm)))
  refine zqO (by simp only [go_sem, alist, adraw, seval] <;> rfl) (fun _ => ?_) (fun h => absurd h (by simp))
  (repeat' (first | (with_reducible first | refine zqA (fun _ _ => ?_) | refine zqB ?_ | refine zqC ?_ | refine zqD ?_ | refine zqE ?_ | refine zqF ?_ | refine zqG ?_ | refine zqH ?_ | refine zqI ?_ | refine zqJ ?_ | refine zqK ?_ | refine zqL (by decide) ?_) | ((with_reducible first | refine zqM (fun _ _ => ?_) | refine zqN (fun _ _ => ?_)); simp only [go_sem, alist, adraw, seval, ha, hb, hc, ya, yb, yc, hx, yx, tx, ax, u8, w1, w2, w3, w4, w5, w6, w7, hk, w8, w9, w10, hs, w11, w12, w13, lK, yK, tK]) | (with_reducible first | refine And.intro trivial ?_ | apply_assumption -exfalso -symm)))
  refine ⟨⟨by omega, by omega, hS1⟩, ⟨by omega, by omega⟩, rfl, ?_⟩
  (repeat' (first | (with_reducible first | refine zqA (fun _ _ => ?_) | refine zqB ?_ | refine zqC ?_ | refine zqD ?_ | refine zqE ?_ | refine zqF ?_ | refine zqG ?_ | refine zqH ?_ | refine zqI ?_ | refine zqJ ?_ | refine zqK ?_ | refine zqL (by decide) ?_) | ((with_reducible first | refine zqM (fun _ _ => ?_) | refine zqN (fun _ _ => ?_)); simp only [go_sem, alist, adraw, seval, ha, hb, hc, ya, yb, yc, hx, yx, tx, ax, u8, w1, w2, w3, w4, w5, w6, w7, hk, w8, w9, w10, hs, w11, w12, w13, lK, yK, tK]) | (with_reducible first | refine And.intro trivial ?_ | apply_assumption -exfalso -symm)))
  simp only [retQ, Tryd.f25]; refine ret_frz1 1232 _ (by simp only [resAll, resA, go_sem, alist, adraw, seval, ha, hb, hc, ya, yb, yc, hx, yx, tx, ax, u8, w1, w2, w3, w4, w5, w6, w7, hk, w8, w9, w10, hs, w11, w12, w13, lK, yK, tK]; rfl) rfl (by simp only [go_sem, alist, adraw, seval]; rfl) rfl ?_ ?_ ?_ ?_ ?_
  · intro row hr
    rcases List.mem_append.1 hr with q | q
    · exact hS2 row q
    · simp at q; subst q; exact px.all fun v => rfl
  · simp only [go_sem, alist, adraw, seval, ha, hb, hc, ya, yb, yc, hx, yx, tx, ax, u8, w1, w2, w3, w4, w5, w6, w7, hk, w8, w9, w10, hs, w11, w12, w13, lK, yK, tK]
  · simp only [List.map_cons, List.map_nil, oneOr, frz2]
    rw [wA_map pa pb pc (fun v => rfl)]
    simp only [frz1, go_sem, alist, adraw, seval]
    rw [if_pos (by simp), List.take_of_length_le (by simp)]
  · exact wA_ren pa pb pc _ _ _ _ _ _ _
  · exact wA_ok pa pb pc _ _ _ _ _ _ _
set_option maxHeartbeats 4000000 in
theorem act3e [Base] (la mo T u i : Int) (G G2 : List (List AV)) (a b c K L : List AV) (Sl Bn : List (List AV)) (k s n af ea lt : Int)
    (ha : a.length = 22) (hb : b.length = 22) (hc : c.length = 22) (pa : plain a) (pb : plain b) (pc : plain c)
    (hk : k.tmod 5 = 3) (hs : s.tmod 3 = i) (hk0 : 0 ≤ k ∧ k < 256) (hs0 : 0 ≤ s ∧ s < 256) (hn0 : 0 ≤ n ∧ n < 256) (h1 : 0 ≤ af ∧ af < 256) (h2 : 0 ≤ ea ∧ ea < 256) (h3 : 0 ≤ lt ∧ lt < 256) (hT : 1000 ≤ T ∧ T ≤ 1000000)
    (hK : EC Tryd.prog 31 [] [] [] (.agg K)) (pK : plain K) (lK : K.length = 5) (hmo : 1 ≤ mo ∧ mo ≤ 500)
    (hG : EC Tryd.prog 11 [] [.agg [iv la, iv mo, .sl G], .agg K, iv i, .agg [iv (T + af - ea), iv (T + af + lt)], iv (1 + n.tmod mo)] [] (.tup [.agg [iv 0, iv 0, .v (.slice none 0 0)], .agg L, iv 4]))
    (px : plain L) (hx : L.length = 20) :
    EC Tryd.prog 25 [] [.agg (wA [iv la, iv mo, .sl G] a b c [.sl Sl, .sl Bn, iv T, bv false]), evA k s n af ea lt] [] (.agg (wA [iv la, iv mo, .sl G] a b c [.sl Sl, .sl Bn, iv (T + af), bv false])) := by
  refine EC_of_awp tiOk mixed Tryd.func25 rfl rfl (by kernel_rfl) (by simp [Tryd.f25]) ?_
  simp only [start, List.zipIdx_cons, List.zipIdx_nil, List.map_cons, List.map_nil, List.length_nil, List.length_cons, Nat.zero_add, Nat.reduceAdd]
  have ya := pa.one
  have yb := pb.one
  have yc := pc.one
  have w1 : IntKind.i64.wrap af = af := wrap_ok (by omega) (by omega)
  have w2 : IntKind.i64.wrap (T + af) = T + af := wrap_ok (by omega) (by omega)
  have w3 : IntKind.i64.wrap ea = ea := wrap_ok (by omega) (by omega)
  have w4 : IntKind.i64.wrap (T + af - ea) = T + af - ea := wrap_ok (by omega) (by omega)
  have w5 : IntKind.i64.wrap lt = lt := wrap_ok (by omega) (by omega)
  have w6 : IntKind.i64.wrap (T + af + lt) = T + af + lt := wrap_ok (by omega) (by omega)
  have w7 : IntKind.i64.wrap s = s := wrap_ok (by omega) (by omega)
  have yx := px.one
  have yK := pK.one
  have tx : List.take 20 L = L := List.take_of_length_le (by omega)
  have tK : List.take 5 K = K := List.take_of_length_le (by omega)
  have ax := ha
  have w8 : IntKind.i64.wrap (T + af + mo) = T + af + mo := wrap_ok (by omega) (by omega)
  have w9 : IntKind.i64.wrap n = n := wrap_ok (by omega) (by omega)
  have w10 : (if mo > 1 then mo else 1) = mo := by split <;> omega
  have w11 : (mo = 0) = False := eq_false (by omega)
  have wm : 0 ≤ n.tmod mo ∧ n.tmod mo < mo := by
    rw [Int.tmod_eq_emod_of_nonneg (by omega)]
    exact ⟨Int.emod_nonneg _ (by omega), Int.emod_lt_of_pos _ (by omega)⟩
  have w12 : IntKind.i64.wrap (1 + n.tmod mo) = 1 + n.tmod mo := wrap_ok (by omega) (by omega)
  have w13 := ha
  (repeat' (first | (with_reducible first | refine zqA (fun _ _ => ?_) | refine zqB ?_ | refine zqC ?_ | refine zqD ?_ | refine zqE ?_ | refine zqF ?_ | refine zqG ?_ | refine zqH ?_ | refine zqI ?_ | refine zqJ ?_ | refine zqK ?_ | refine zqL (by decide) ?_) | ((with_reducible first | refine zqM (fun _ _ => ?_) | refine zqN (fun _ _ => ?_)); simp only [go_sem, alist, adraw, seval, ha, hb, hc, ya, yb, yc, hx, yx, tx, ax, u8, w1, w2, w3, w4, w5, w6, w7, hk, w8, w9, w10, hs, w11, w12, w13, lK, yK, tK]) | (with_reducible first | refine And.intro trivial ?_ | apply_assumption -exfalso -symm)))
  refine zqO (by simp only [go_sem, alist, adraw, seval] <;> rfl) (fun h => absurd h (by simp)) (fun _ => ?_)
  (repeat' (first | (with_reducible first | refine zqA (fun _ _ => ?_) | refine zqB ?_ | refine zqC ?_ | refine zqD ?_ | refine zqE ?_ | refine zqF ?_ | refine zqG ?_ | refine zqH ?_ | refine zqI ?_ | refine zqJ ?_ | refine zqK ?_ | refine zqL (by decide) ?_) | ((with_reducible first | refine zqM (fun _ _ => ?_) | refine zqN (fun _ _ => ?_)); simp only [go_sem, alist, adraw, seval, ha, hb, hc, ya, yb, yc, hx, yx, tx, ax, u8, w1, w2, w3, w4, w5, w6, w7, hk, w8, w9, w10, hs, w11, w12, w13, lK, yK, tK]) | (with_reducible first | refine And.intro trivial ?_ | apply_assumption -exfalso -symm)))
  refine zqO (by simp only [go_sem, alist, adraw, seval] <;> rfl) (fun h => absurd h (by simp)) (fun _ => ?_)
  (repeat' (first | (with_reducible first | refine zqA (fun _ _ => ?_) | refine zqB ?_ | refine zqC ?_ | refine zqD ?_ | refine zqE ?_ | refine zqF ?_ | refine zqG ?_ | refine zqH ?_ | refine zqI ?_ | refine zqJ ?_ | refine zqK ?_ | refine zqL (by decide) ?_) | ((with_reducible first | refine zqM (fun _ _ => ?_) | refine zqN (fun _ _ => ?_)); simp only [go_sem, alist, adraw, seval, ha, hb, hc, ya, yb, yc, hx, yx, tx, ax, u8, w1, w2, w3, w4, w5, w6, w7, hk, w8, w9, w10, hs, w11, w12, w13, lK, yK, tK]) | (with_reducible first | refine And.intro trivial ?_ | apply_assumption -exfalso -symm)))
  refine zqO (by simp only [go_sem, alist, adraw, seval] <;> rfl) (fun h => absurd h (by simp)) (fun _ => ?_)
  (repeat' (first | (with_reducible first | refine zqA (fun _ _ => ?_) | refine zqB ?_ | refine zqC ?_ | refine zqD ?_ | refine zqE ?_ | refine zqF ?_ | refine zqG ?_ | refine zqH ?_ | refine zqI ?_ | refine zqJ ?_ | refine zqK ?_ | refine zqL (by decide) ?_) | ((with_reducible first | refine zqM (fun _ _ => ?_) | refine zqN (fun _ _ => ?_)); simp only [go_sem, alist, adraw, seval, ha, hb, hc, ya, yb, yc, hx, yx, tx, ax, u8, w1, w2, w3, w4, w5, w6, w7, hk, w8, w9, w10, hs, w11, w12, w13, lK, yK, tK]) | (with_reducible first | refine And.intro trivial ?_ | apply_assumption -exfalso -symm)))
  refine zqO (by simp only [go_sem, alist, adraw, seval] <;> rfl) (fun _ => ?_) (fun h => absurd h (by simp))
  (repeat' (first | (with_reducible first | refine zqA (fun _ _ => ?_) | refine zqB ?_ | refine zqC ?_ | refine zqD ?_ | refine zqE ?_ | refine zqF ?_ | refine zqG ?_ | refine zqH ?_ | refine zqI ?_ | refine zqJ ?_ | refine zqK ?_ | refine zqL (by decide) ?_) | ((with_reducible first | refine zqM (fun _ _ => ?_) | refine zqN (fun _ _ => ?_)); simp only [go_sem, alist, adraw, seval, ha, hb, hc, ya, yb, yc, hx, yx, tx, ax, u8, w1, w2, w3, w4, w5, w6, w7, hk, w8, w9, w10, hs, w11, w12, w13, lK, yK, tK]) | (with_reducible first | refine And.intro trivial ?_ | apply_assumption -exfalso -symm)))
  refine ⟨[], _, CallEff.pure0 (hK) (by first | rfl | (simp only [List.map_cons, List.map_nil, AV.ren2, plain.map1 pa, plain.map1 pb, plain.map1 pc, plain.map1 px, plain.map1 pK] <;> rfl)) (by first | rfl | (simp only [List.all_cons, List.all_nil, AV.ok2, plain.all1 pa, plain.all1 pb, plain.all1 pc, plain.all1 px, plain.all1 pK] <;> rfl)) (by first | rfl | (simp only [AV.ren, List.map_cons, List.map_nil, AV.ren2, plain.map1 pa, plain.map1 pb, plain.map1 pc, plain.map1 px, plain.map1 pK] <;> rfl)), ?_⟩; simp only [go_sem, alist, adraw, seval, ha, hb, hc, ya, yb, yc, hx, yx, tx, ax, u8, w1, w2, w3, w4, w5, w6, w7, hk, w8, w9, w10, hs, w11, w12, w13, lK, yK, tK]
  refine ⟨[], _, CallEff.pure0 (hG) (by first | rfl | (simp only [List.map_cons, List.map_nil, AV.ren2, plain.map1 pa, plain.map1 pb, plain.map1 pc, plain.map1 px, plain.map1 pK] <;> rfl)) (by first | rfl | (simp only [List.all_cons, List.all_nil, AV.ok2, plain.all1 pa, plain.all1 pb, plain.all1 pc, plain.all1 px, plain.all1 pK] <;> rfl)) (by first | rfl | (simp only [AV.ren, List.map_cons, List.map_nil, AV.ren2, plain.map1 pa, plain.map1 pb, plain.map1 pc, plain.map1 px, plain.map1 pK] <;> rfl)), ?_⟩; simp only [go_sem, alist, adraw, seval, ha, hb, hc, ya, yb, yc, hx, yx, tx, ax, u8, w1, w2, w3, w4, w5, w6, w7, hk, w8, w9, w10, hs, w11, w12, w13, lK, yK, tK]
  refine ⟨rfl, ?_⟩
  (repeat' (first | (with_reducible first | refine zqA (fun _ _ => ?_) | refine zqB ?_ | refine zqC ?_ | refine zqD ?_ | refine zqE ?_ | refine zqF ?_ | refine zqG ?_ | refine zqH ?_ | refine zqI ?_ | refine zqJ ?_ | refine zqK ?_ | refine zqL (by decide) ?_) | ((with_reducible first | refine zqM (fun _ _ => ?_) | refine zqN (fun _ _ => ?_)); simp only [go_sem, alist, adraw, seval, ha, hb, hc, ya, yb, yc, hx, yx, tx, ax, u8, w1, w2, w3, w4, w5, w6, w7, hk, w8, w9, w10, hs, w11, w12, w13, lK, yK, tK]) | (with_reducible first | refine And.intro trivial ?_ | apply_assumption -exfalso -symm)))
  refine zqO (by simp only [go_sem, alist, adraw, seval] <;> rfl) (fun h => absurd h (by simp)) (fun _ => ?_)
  (repeat' (first | (with_reducible first | refine zqA (fun _ _ => ?_) | refine zqB ?_ | refine zqC ?_ | refine zqD ?_ | refine zqE ?_ | refine zqF ?_ | refine zqG ?_ | refine zqH ?_ | refine zqI ?_ | refine zqJ ?_ | refine zqK ?_ | refine zqL (by decide) ?_) | ((with_reducible first | refine zqM (fun _ _ => ?_) | refine zqN (fun _ _ => ?_)); simp only [go_sem, alist, adraw, seval, ha, hb, hc, ya, yb, yc, hx, yx, tx, ax, u8, w1, w2, w3, w4, w5, w6, w7, hk, w8, w9, w10, hs, w11, w12, w13, lK, yK, tK]) | (with_reducible first | refine And.intro trivial ?_ | apply_assumption -exfalso -symm)))
  simp only [retQ, Tryd.f25]; refine ret_pure (by simp only [resAll, resA, go_sem, alist, adraw, seval, ha, hb, hc, ya, yb, yc, hx, yx, tx, ax, u8, w1, w2, w3, w4, w5, w6, w7, hk, w8, w9, w10, hs, w11, w12, w13, lK, yK, tK]; rfl) rfl ?_ ?_ ?_ ?_
  · simp only [go_sem, alist, adraw, seval, ha, hb, hc, ya, yb, yc, hx, yx, tx, ax, u8, w1, w2, w3, w4, w5, w6, w7, hk, w8, w9, w10, hs, w11, w12, w13, lK, yK, tK]
  · rfl
  · exact wA_ren pa pb pc _ _ _ _ _ _ _ _
  · exact wA_ok pa pb pc _ _ _ _ _ _ _
end Am
end
section
namespace Am
open Go
attribute [local go_sem] true_implies false_implies List.take_length bne_self_eq_false beq_self_eq_true List.forall_mem_cons List.not_mem_nil false_imp_iff allOne_nil allOne_cons iv bv Value.oneCell' astep aexe asem AS.put AS.app AS.ev look eff effIf binE unE convE lenE loadE storeE fieldAddrE fieldE indexAddrE indexE sliceE low bound extractE pickE minE allocE boxE buildE buildSliceE makeSliceE appendE elsOf aliveB pairs fillA litEls partOf tdesc TI.isAgg KD.row AV.cells AV.one guardV Option.map_some Option.map_none Option.getD_some Option.bind_some Option.bind_none List.map_cons List.map_nil List.nil_append List.cons_append List.append_nil true_and and_true cond_true cond_false Nat.zero_add Nat.add_zero Nat.zero_mul Nat.mul_zero List.getElem?_cons_zero List.getElem?_cons_succ List.getElem?_nil List.getElem?_toArray List.length_cons List.length_nil List.size_toArray List.take_succ_cons List.take_zero List.drop_succ_cons List.drop_zero List.drop_nil List.take_nil List.set_cons_zero List.set_cons_succ Bool.not_true Bool.not_false List.flatMap_cons List.flatMap_nil idA false_and forall_eq implies_true Bool.false_eq_true imp_false not_true_eq_false not_false_eq_true goInt Int.toNat_natCast ne_eq Nat.le_refl and_self List.append_assoc AV.ren AV.ren2 AV.ren1 AV.ren0 updC List.zipIdx_cons List.zipIdx_nil rho Blk.ren frzT frzB frzA ti_2 ti_3 ti_4 ti_5 ti_9 ti_12 ti_13 ti_21 ti_22 ti_23 ti_24 ti_25 ti_26 ti_27 ti_28 ti_30 ti_35 ti_36 ti_37 ti_38 ti_43 ti_46 ti_47 ti_51 ti_52 ti_54 ti_55 ti_57 ti_58 ti_64 ti_65 ti_66 ti_67 ti_68 ti_69 ti_70 ti_71 ti_75 ti_76 ti_79 ti_80 ti_87 ti_88 ti_92 ti_112 ti_117 ti_118 ti_122 wA_len wA_0 wA_1 wA_g wA_69 wA_70 wA_71 wA_72 wA_s0 wA_s1 wA_s2 wA_whole wA_h0 wA_h1 wA_h2 wA_wg wA_t3 wA_w0 wA_w1 wA_w2 wA_w69 wA_w70 wA_w71 wA_w72 wA_one
set_option maxRecDepth 100000
set_option maxHeartbeats 4000000 in
theorem act4_0 [Base] (la mo T : Int) (G : List (List AV)) (a b c K x r : List AV) (Sl Bn : List (List AV)) (k s n af ea lt : Int)
    (ha : a.length = 22) (hb : b.length = 22) (hc : c.length = 22) (pa : plain a) (pb : plain b) (pc : plain c)
    (hk : k.tmod 5 = 4) (hs : s.tmod 3 = s.tmod 3) (hk0 : 0 ≤ k ∧ k < 256) (hs0 : 0 ≤ s ∧ s < 256) (hn0 : 0 ≤ n ∧ n < 256) (h1 : 0 ≤ af ∧ af < 256) (h2 : 0 ≤ ea ∧ ea < 256) (h3 : 0 ≤ lt ∧ lt < 256) (hT : 1000 ≤ T ∧ T ≤ 1000000)
    (hK : EC Tryd.prog 31 [] [] [] (.agg K)) (pK : plain K) (lK : K.length = 5)
    (hx : x.length = 22) (px : plain x) (pr : plain r) (lr : r.length = 20) (ax : r[0]? = some (.v (.int .i64 0))) (h0 : 0 < Sl.length) (hS0 : Sl.length ≤ 60) (wj : Sl.getD (n.tmod Sl.length).toNat [] = r)
    (hH : EC Tryd.prog 32 [] [.sl [K], .agg a, .agg r] [] (.tup [.agg x, iv 0])) :
    EC Tryd.prog 25 [] [.agg (wA [iv la, iv mo, .sl G] a b c [.sl Sl, .sl Bn, iv T, bv false]), evA k s n af ea lt] [] (.agg (wA [iv la, iv mo, .sl G] x b c [.sl Sl, .sl Bn, iv (T + af), bv false])) := by
  refine EC_of_awp tiOk mixed Tryd.func25 rfl rfl (by kernel_rfl) (by simp [Tryd.f25]) ?_
  simp only [start, List.zipIdx_cons, List.zipIdx_nil, List.map_cons, List.map_nil, List.length_nil, List.length_cons, Nat.zero_add, Nat.reduceAdd]
  have ya := pa.one
  have yb := pb.one
  have yc := pc.one
  have w1 : IntKind.i64.wrap af = af := wrap_ok (by omega) (by omega)
  have w2 : IntKind.i64.wrap (T + af) = T + af := wrap_ok (by omega) (by omega)
  have w3 : IntKind.i64.wrap ea = ea := wrap_ok (by omega) (by omega)
  have w4 : IntKind.i64.wrap (T + af - ea) = T + af - ea := wrap_ok (by omega) (by omega)
  have w5 : IntKind.i64.wrap lt = lt := wrap_ok (by omega) (by omega)
  have w6 : IntKind.i64.wrap (T + af + lt) = T + af + lt := wrap_ok (by omega) (by omega)
  have w7 : IntKind.i64.wrap s = s := wrap_ok (by omega) (by omega)
  have yx := px.one
  have yK := pK.one
  have yr := pr.one
  have tx : List.take 22 x = x := List.take_of_length_le (by omega)
  have tK : List.take 5 K = K := List.take_of_length_le (by omega)
  have tr : List.take 20 r = r := List.take_of_length_le (by omega)
  have w8 : IntKind.i64.wrap n = n := wrap_ok (by omega) (by omega)
  have w9 : ((Sl.length : Int) = 0) = False := eq_false (by omega)
  have w10 : decide (0 < (Sl.length : Int)) = true := decide_eq_true (by omega)
  have wm : 0 ≤ n.tmod Sl.length ∧ n.tmod Sl.length < Sl.length := by
    rw [Int.tmod_eq_emod_of_nonneg (by omega)]
    exact ⟨Int.emod_nonneg _ (by omega), Int.emod_lt_of_pos _ (by omega)⟩
  (repeat' (first | (with_reducible first | refine zqA (fun _ _ => ?_) | refine zqB ?_ | refine zqC ?_ | refine zqD ?_ | refine zqE ?_ | refine zqF ?_ | refine zqG ?_ | refine zqH ?_ | refine zqI ?_ | refine zqJ ?_ | refine zqK ?_ | refine zqL (by decide) ?_) | ((with_reducible first | refine zqM (fun _ _ => ?_) | refine zqN (fun _ _ => ?_)); simp only [go_sem, alist, adraw, seval, ha, hb, hc, ya, yb, yc, hx, yx, tx, ax, u8, w1, w2, w3, w4, w5, w6, w7, hk, w8, w9, w10, hs, lK, yK, tK, yr, tr, wj, lr]) | (with_reducible first | refine And.intro trivial ?_ | apply_assumption -exfalso -symm)))
  refine zqO (by simp only [go_sem, alist, adraw, seval] <;> rfl) (fun h => absurd h (by simp)) (fun _ => ?_)
  (repeat' (first | (with_reducible first | refine zqA (fun _ _ => ?_) | refine zqB ?_ | refine zqC ?_ | refine zqD ?_ | refine zqE ?_ | refine zqF ?_ | refine zqG ?_ | refine zqH ?_ | refine zqI ?_ | refine zqJ ?_ | refine zqK ?_ | refine zqL (by decide) ?_) | ((with_reducible first | refine zqM (fun _ _ => ?_) | refine zqN (fun _ _ => ?_)); simp only [go_sem, alist, adraw, seval, ha, hb, hc, ya, yb, yc, hx, yx, tx, ax, u8, w1, w2, w3, w4, w5, w6, w7, hk, w8, w9, w10, hs, lK, yK, tK, yr, tr, wj, lr]) | (with_reducible first | refine And.intro trivial ?_ | apply_assumption -exfalso -symm)))
  refine zqO (by simp only [go_sem, alist, adraw, seval] <;> rfl) (fun h => absurd h (by simp)) (fun _ => ?_)
  (repeat' (first | (with_reducible first | refine zqA (fun _ _ => ?_) | refine zqB ?_ | refine zqC ?_ | refine zqD ?_ | refine zqE ?_ | refine zqF ?_ | refine zqG ?_ | refine zqH ?_ | refine zqI ?_ | refine zqJ ?_ | refine zqK ?_ | refine zqL (by decide) ?_) | ((with_reducible first | refine zqM (fun _ _ => ?_) | refine zqN (fun _ _ => ?_)); simp only [go_sem, alist, adraw, seval, ha, hb, hc, ya, yb, yc, hx, yx, tx, ax, u8, w1, w2, w3, w4, w5, w6, w7, hk, w8, w9, w10, hs, lK, yK, tK, yr, tr, wj, lr]) | (with_reducible first | refine And.intro trivial ?_ | apply_assumption -exfalso -symm)))
  refine zqO (by simp only [go_sem, alist, adraw, seval] <;> rfl) (fun h => absurd h (by simp)) (fun _ => ?_)
  (repeat' (first | (with_reducible first | refine zqA (fun _ _ => ?_) | refine zqB ?_ | refine zqC ?_ | refine zqD ?_ | refine zqE ?_ | refine zqF ?_ | refine zqG ?_ | refine zqH ?_ | refine zqI ?_ | refine zqJ ?_ | refine zqK ?_ | refine zqL (by decide) ?_) | ((with_reducible first | refine zqM (fun _ _ => ?_) | refine zqN (fun _ _ => ?_)); simp only [go_sem, alist, adraw, seval, ha, hb, hc, ya, yb, yc, hx, yx, tx, ax, u8, w1, w2, w3, w4, w5, w6, w7, hk, w8, w9, w10, hs, lK, yK, tK, yr, tr, wj, lr]) | (with_reducible first | refine And.intro trivial ?_ | apply_assumption -exfalso -symm)))
  refine zqO (by simp only [go_sem, alist, adraw, seval] <;> rfl) (fun h => absurd h (by simp)) (fun _ => ?_)
  (repeat' (first | (with_reducible first | refine zqA (fun _ _ => ?_) | refine zqB ?_ | refine zqC ?_ | refine zqD ?_ | refine zqE ?_ | refine zqF ?_ | refine zqG ?_ | refine zqH ?_ | refine zqI ?_ | refine zqJ ?_ | refine zqK ?_ | refine zqL (by decide) ?_) | ((with_reducible first | refine zqM (fun _ _ => ?_) | refine zqN (fun _ _ => ?_)); simp only [go_sem, alist, adraw, seval, ha, hb, hc, ya, yb, yc, hx, yx, tx, ax, u8, w1, w2, w3, w4, w5, w6, w7, hk, w8, w9, w10, hs, lK, yK, tK, yr, tr, wj, lr]) | (with_reducible first | refine And.intro trivial ?_ | apply_assumption -exfalso -symm)))
  refine zqO (by simp only [go_sem, alist, adraw, seval] <;> rfl) (fun _ => ?_) (fun h => absurd h (by simp))
  (repeat' (first | (with_reducible first | refine zqA (fun _ _ => ?_) | refine zqB ?_ | refine zqC ?_ | refine zqD ?_ | refine zqE ?_ | refine zqF ?_ | refine zqG ?_ | refine zqH ?_ | refine zqI ?_ | refine zqJ ?_ | refine zqK ?_ | refine zqL (by decide) ?_) | ((with_reducible first | refine zqM (fun _ _ => ?_) | refine zqN (fun _ _ => ?_)); simp only [go_sem, alist, adraw, seval, ha, hb, hc, ya, yb, yc, hx, yx, tx, ax, u8, w1, w2, w3, w4, w5, w6, w7, hk, w8, w9, w10, hs, lK, yK, tK, yr, tr, wj, lr]) | (with_reducible first | refine And.intro trivial ?_ | apply_assumption -exfalso -symm)))
  refine zqO (by simp only [go_sem, alist, adraw, seval] <;> rfl) (fun _ => ?_) (fun h => absurd h (by simp))
  (repeat' (first | (with_reducible first | refine zqA (fun _ _ => ?_) | refine zqB ?_ | refine zqC ?_ | refine zqD ?_ | refine zqE ?_ | refine zqF ?_ | refine zqG ?_ | refine zqH ?_ | refine zqI ?_ | refine zqJ ?_ | refine zqK ?_ | refine zqL (by decide) ?_) | ((with_reducible first | refine zqM (fun _ _ => ?_) | refine zqN (fun _ _ => ?_)); simp only [go_sem, alist, adraw, seval, ha, hb, hc, ya, yb, yc, hx, yx, tx, ax, u8, w1, w2, w3, w4, w5, w6, w7, hk, w8, w9, w10, hs, lK, yK, tK, yr, tr, wj, lr]) | (with_reducible first | refine And.intro trivial ?_ | apply_assumption -exfalso -symm)))
  refine ⟨wm, rfl, ?_⟩
  (repeat' (first | (with_reducible first | refine zqA (fun _ _ => ?_) | refine zqB ?_ | refine zqC ?_ | refine zqD ?_ | refine zqE ?_ | refine zqF ?_ | refine zqG ?_ | refine zqH ?_ | refine zqI ?_ | refine zqJ ?_ | refine zqK ?_ | refine zqL (by decide) ?_) | ((with_reducible first | refine zqM (fun _ _ => ?_) | refine zqN (fun _ _ => ?_)); simp only [go_sem, alist, adraw, seval, ha, hb, hc, ya, yb, yc, hx, yx, tx, ax, u8, w1, w2, w3, w4, w5, w6, w7, hk, w8, w9, w10, hs, lK, yK, tK, yr, tr, wj, lr]) | (with_reducible first | refine And.intro trivial ?_ | apply_assumption -exfalso -symm)))
  refine ⟨[], _, CallEff.pure0 (hK) (by first | rfl | (simp only [List.map_cons, List.map_nil, AV.ren2, plain.map1 pa, plain.map1 pb, plain.map1 pc, plain.map1 px, plain.map1 pK] <;> rfl)) (by first | rfl | (simp only [List.all_cons, List.all_nil, AV.ok2, plain.all1 pa, plain.all1 pb, plain.all1 pc, plain.all1 px, plain.all1 pK] <;> rfl)) (by first | rfl | (simp only [AV.ren, List.map_cons, List.map_nil, AV.ren2, plain.map1 pa, plain.map1 pb, plain.map1 pc, plain.map1 px, plain.map1 pK] <;> rfl)), ?_⟩; simp only [go_sem, alist, adraw, seval, ha, hb, hc, ya, yb, yc, hx, yx, tx, ax, u8, w1, w2, w3, w4, w5, w6, w7, hk, w8, w9, w10, hs, lK, yK, tK, yr, tr, wj, lr]
  try refine ⟨by omega, ?_⟩
  have e1 : frz2 992 [K] (.agg a) = .agg a := congrArg AV.agg (pa.map fun _ => rfl)
  have e2 : frz2 992 [K] (.agg r) = .agg r := congrArg AV.agg (pr.map fun _ => rfl)
  have e3 : frz2 992 [K] (.own 992 0 1) = .sl [K] := rfl
  refine ⟨[992], _, CallEff.frz1 992 _ (by simp only [go_sem, alist, adraw, seval] <;> rfl) rfl (fun row hr => by simp at hr; subst hr; exact pK.all fun _ => rfl) hH (by simp only [List.map_cons, List.map_nil, e1, e2, e3]) (by simp only [List.map_cons, List.map_nil, AV.ren2, plain.map1 pa, plain.map1 pr] <;> rfl) (by simp only [List.all_cons, List.all_nil, AV.ok2, plain.all1 pa, plain.all1 pr] <;> rfl) (by simp only [AV.ren, List.map_cons, List.map_nil, AV.ren2, plain.map1 px] <;> rfl), ?_⟩
  simp only [go_sem, alist, adraw, seval, ha, hb, hc, ya, yb, yc, hx, yx, tx, ax, u8, w1, w2, w3, w4, w5, w6, w7, hk, w8, w9, w10, hs, lK, yK, tK, yr, tr, wj, lr]
  refine ⟨rfl, ?_⟩
  (repeat' (first | (with_reducible first | refine zqA (fun _ _ => ?_) | refine zqB ?_ | refine zqC ?_ | refine zqD ?_ | refine zqE ?_ | refine zqF ?_ | refine zqG ?_ | refine zqH ?_ | refine zqI ?_ | refine zqJ ?_ | refine zqK ?_ | refine zqL (by decide) ?_) | ((with_reducible first | refine zqM (fun _ _ => ?_) | refine zqN (fun _ _ => ?_)); simp only [go_sem, alist, adraw, seval, ha, hb, hc, ya, yb, yc, hx, yx, tx, ax, u8, w1, w2, w3, w4, w5, w6, w7, hk, w8, w9, w10, hs, lK, yK, tK, yr, tr, wj, lr]) | (with_reducible first | refine And.intro trivial ?_ | apply_assumption -exfalso -symm)))
  try refine ⟨by omega, ?_⟩
  (repeat' (first | (with_reducible first | refine zqA (fun _ _ => ?_) | refine zqB ?_ | refine zqC ?_ | refine zqD ?_ | refine zqE ?_ | refine zqF ?_ | refine zqG ?_ | refine zqH ?_ | refine zqI ?_ | refine zqJ ?_ | refine zqK ?_ | refine zqL (by decide) ?_) | ((with_reducible first | refine zqM (fun _ _ => ?_) | refine zqN (fun _ _ => ?_)); simp only [go_sem, alist, adraw, seval, ha, hb, hc, ya, yb, yc, hx, yx, tx, ax, u8, w1, w2, w3, w4, w5, w6, w7, hk, w8, w9, w10, hs, lK, yK, tK, yr, tr, wj, lr]) | (with_reducible first | refine And.intro trivial ?_ | apply_assumption -exfalso -symm)))
  simp only [retQ, Tryd.f25]; refine ret_pure (by simp only [resAll, resA, go_sem, alist, adraw, seval, ha, hb, hc, ya, yb, yc, hx, yx, tx, ax, u8, w1, w2, w3, w4, w5, w6, w7, hk, w8, w9, w10, hs, lK, yK, tK, yr, tr, wj, lr]; rfl) rfl ?_ ?_ ?_ ?_
  · simp only [go_sem, alist, adraw, seval, ha, hb, hc, ya, yb, yc, hx, yx, tx, ax, u8, w1, w2, w3, w4, w5, w6, w7, hk, w8, w9, w10, hs, lK, yK, tK, yr, tr, wj, lr]
  · rfl
  · exact wA_ren px pb pc _ _ _ _ _ _ _ _
  · exact wA_ok px pb pc _ _ _ _ _ _ _
set_option maxHeartbeats 4000000 in
theorem act4_1 [Base] (la mo T : Int) (G : List (List AV)) (a b c K x r : List AV) (Sl Bn : List (List AV)) (k s n af ea lt : Int)
    (ha : a.length = 22) (hb : b.length = 22) (hc : c.length = 22) (pa : plain a) (pb : plain b) (pc : plain c)
    (hk : k.tmod 5 = 4) (hs : s.tmod 3 = s.tmod 3) (hk0 : 0 ≤ k ∧ k < 256) (hs0 : 0 ≤ s ∧ s < 256) (hn0 : 0 ≤ n ∧ n < 256) (h1 : 0 ≤ af ∧ af < 256) (h2 : 0 ≤ ea ∧ ea < 256) (h3 : 0 ≤ lt ∧ lt < 256) (hT : 1000 ≤ T ∧ T ≤ 1000000)
    (hK : EC Tryd.prog 31 [] [] [] (.agg K)) (pK : plain K) (lK : K.length = 5)
    (hx : x.length = 22) (px : plain x) (pr : plain r) (lr : r.length = 20) (ax : r[0]? = some (.v (.int .i64 1))) (h0 : 0 < Sl.length) (hS0 : Sl.length ≤ 60) (wj : Sl.getD (n.tmod Sl.length).toNat [] = r)
    (hH : EC Tryd.prog 32 [] [.sl [K], .agg b, .agg r] [] (.tup [.agg x, iv 0])) :
    EC Tryd.prog 25 [] [.agg (wA [iv la, iv mo, .sl G] a b c [.sl Sl, .sl Bn, iv T, bv false]), evA k s n af ea lt] [] (.agg (wA [iv la, iv mo, .sl G] a x c [.sl Sl, .sl Bn, iv (T + af), bv false])) := by
  refine EC_of_awp tiOk mixed Tryd.func25 rfl rfl (by kernel_rfl) (by simp [Tryd.f25]) ?_
  simp only [start, List.zipIdx_cons, List.zipIdx_nil, List.map_cons, List.map_nil, List.length_nil, List.length_cons, Nat.zero_add, Nat.reduceAdd]
  have ya := pa.one
  have yb := pb.one
  have yc := pc.one
  have w1 : IntKind.i64.wrap af = af := wrap_ok (by omega) (by omega)
  have w2 : IntKind.i64.wrap (T + af) = T + af := wrap_ok (by omega) (by omega)
  have w3 : IntKind.i64.wrap ea = ea := wrap_ok (by omega) (by omega)
  have w4 : IntKind.i64.wrap (T + af - ea) = T + af - ea := wrap_ok (by omega) (by omega)
  have w5 : IntKind.i64.wrap lt = lt := wrap_ok (by omega) (by omega)
  have w6 : IntKind.i64.wrap (T + af + lt) = T + af + lt := wrap_ok (by omega) (by omega)
  have w7 : IntKind.i64.wrap s = s := wrap_ok (by omega) (by omega)
  have yx := px.one
  have yK := pK.one
  have yr := pr.one
  have tx : List.take 22 x = x := List.take_of_length_le (by omega)
  have tK : List.take 5 K = K := List.take_of_length_le (by omega)
  have tr : List.take 20 r = r := List.take_of_length_le (by omega)
  have w8 : IntKind.i64.wrap n = n := wrap_ok (by omega) (by omega)
  have w9 : ((Sl.length : Int) = 0) = False := eq_false (by omega)
  have w10 : decide (0 < (Sl.length : Int)) = true := decide_eq_true (by omega)
  have wm : 0 ≤ n.tmod Sl.length ∧ n.tmod Sl.length < Sl.length := by
    rw [Int.tmod_eq_emod_of_nonneg (by omega)]
    exact ⟨Int.emod_nonneg _ (by omega), Int.emod_lt_of_pos _ (by omega)⟩
  (repeat' (first | (with_reducible first | refine zqA (fun _ _ => ?_) | refine zqB ?_ | refine zqC ?_ | refine zqD ?_ | refine zqE ?_ | refine zqF ?_ | refine zqG ?_ | refine zqH ?_ | refine zqI ?_ | refine zqJ ?_ | refine zqK ?_ | refine zqL (by decide) ?_) | ((with_reducible first | refine zqM (fun _ _ => ?_) | refine zqN (fun _ _ => ?_)); simp only [go_sem, alist, adraw, seval, ha, hb, hc, ya, yb, yc, hx, yx, tx, ax, u8, w1, w2, w3, w4, w5, w6, w7, hk, w8, w9, w10, hs, lK, yK, tK, yr, tr, wj, lr]) | (with_reducible first | refine And.intro trivial ?_ | apply_assumption -exfalso -symm)))
  refine zqO (by simp only [go_sem, alist, adraw, seval] <;> rfl) (fun h => absurd h (by simp)) (fun _ => ?_)
  (repeat' (first | (with_reducible first | refine zqA (fun _ _ => ?_) | refine zqB ?_ | refine zqC ?_ | refine zqD ?_ | refine zqE ?_ | refine zqF ?_ | refine zqG ?_ | refine zqH ?_ | refine zqI ?_ | refine zqJ ?_ | refine zqK ?_ | refine zqL (by decide) ?_) | ((with_reducible first | refine zqM (fun _ _ => ?_) | refine zqN (fun _ _ => ?_)); simp only [go_sem, alist, adraw, seval, ha, hb, hc, ya, yb, yc, hx, yx, tx, ax, u8, w1, w2, w3, w4, w5, w6, w7, hk, w8, w9, w10, hs, lK, yK, tK, yr, tr, wj, lr]) | (with_reducible first | refine And.intro trivial ?_ | apply_assumption -exfalso -symm)))
  refine zqO (by simp only [go_sem, alist, adraw, seval] <;> rfl) (fun h => absurd h (by simp)) (fun _ => ?_)
  (repeat' (first | (with_reducible first | refine zqA (fun _ _ => ?_) | refine zqB ?_ | refine zqC ?_ | refine zqD ?_ | refine zqE ?_ | refine zqF ?_ | refine zqG ?_ | refine zqH ?_ | refine zqI ?_ | refine zqJ ?_ | refine zqK ?_ | refine zqL (by decide) ?_) | ((with_reducible first | refine zqM (fun _ _ => ?_) | refine zqN (fun _ _ => ?_)); simp only [go_sem, alist, adraw, seval, ha, hb, hc, ya, yb, yc, hx, yx, tx, ax, u8, w1, w2, w3, w4, w5, w6, w7, hk, w8, w9, w10, hs, lK, yK, tK, yr, tr, wj, lr]) | (with_reducible first | refine And.intro trivial ?_ | apply_assumption -exfalso -symm)))
  refine zqO (by simp only [go_sem, alist, adraw, seval] <;> rfl) (fun h => absurd h (by simp)) (fun _ => ?_)
  (repeat' (first | (with_reducible first | refine zqA (fun _ _ => ?_) | refine zqB ?_ | refine zqC ?_ | refine zqD ?_ | refine zqE ?_ | refine zqF ?_ | refine zqG ?_ | refine zqH ?_ | refine zqI ?_ | refine zqJ ?_ | refine zqK ?_ | refine zqL (by decide) ?_) | ((with_reducible first | refine zqM (fun _ _ => ?_) | refine zqN (fun _ _ => ?_)); simp only [go_sem, alist, adraw, seval, ha, hb, hc, ya, yb, yc, hx, yx, tx, ax, u8, w1, w2, w3, w4, w5, w6, w7, hk, w8, w9, w10, hs, lK, yK, tK, yr, tr, wj, lr]) | (with_reducible first | refine And.intro trivial ?_ | apply_assumption -exfalso -symm)))
  refine zqO (by simp only [go_sem, alist, adraw, seval] <;> rfl) (fun h => absurd h (by simp)) (fun _ => ?_)
  (repeat' (first | (with_reducible first | refine zqA (fun _ _ => ?_) | refine zqB ?_ | refine zqC ?_ | refine zqD ?_ | refine zqE ?_ | refine zqF ?_ | refine zqG ?_ | refine zqH ?_ | refine zqI ?_ | refine zqJ ?_ | refine zqK ?_ | refine zqL (by decide) ?_) | ((with_reducible first | refine zqM (fun _ _ => ?_) | refine zqN (fun _ _ => ?_)); simp only [go_sem, alist, adraw, seval, ha, hb, hc, ya, yb, yc, hx, yx, tx, ax, u8, w1, w2, w3, w4, w5, w6, w7, hk, w8, w9, w10, hs, lK, yK, tK, yr, tr, wj, lr]) | (with_reducible first | refine And.intro trivial ?_ | apply_assumption -exfalso -symm)))
  refine zqO (by simp only [go_sem, alist, adraw, seval] <;> rfl) (fun _ => ?_) (fun h => absurd h (by simp))
  (repeat' (first | (with_reducible first | refine zqA (fun _ _ => ?_) | refine zqB ?_ | refine zqC ?_ | refine zqD ?_ | refine zqE ?_ | refine zqF ?_ | refine zqG ?_ | refine zqH ?_ | refine zqI ?_ | refine zqJ ?_ | refine zqK ?_ | refine zqL (by decide) ?_) | ((with_reducible first | refine zqM (fun _ _ => ?_) | refine zqN (fun _ _ => ?_)); simp only [go_sem, alist, adraw, seval, ha, hb, hc, ya, yb, yc, hx, yx, tx, ax, u8, w1, w2, w3, w4, w5, w6, w7, hk, w8, w9, w10, hs, lK, yK, tK, yr, tr, wj, lr]) | (with_reducible first | refine And.intro trivial ?_ | apply_assumption -exfalso -symm)))
  refine zqO (by simp only [go_sem, alist, adraw, seval] <;> rfl) (fun _ => ?_) (fun h => absurd h (by simp))
  (repeat' (first | (with_reducible first | refine zqA (fun _ _ => ?_) | refine zqB ?_ | refine zqC ?_ | refine zqD ?_ | refine zqE ?_ | refine zqF ?_ | refine zqG ?_ | refine zqH ?_ | refine zqI ?_ | refine zqJ ?_ | refine zqK ?_ | refine zqL (by decide) ?_) | ((with_reducible first | refine zqM (fun _ _ => ?_) | refine zqN (fun _ _ => ?_)); simp only [go_sem, alist, adraw, seval, ha, hb, hc, ya, yb, yc, hx, yx, tx, ax, u8, w1, w2, w3, w4, w5, w6, w7, hk, w8, w9, w10, hs, lK, yK, tK, yr, tr, wj, lr]) | (with_reducible first | refine And.intro trivial ?_ | apply_assumption -exfalso -symm)))
  refine ⟨wm, rfl, ?_⟩
  (repeat' (first | (with_reducible first | refine zqA (fun _ _ => ?_) | refine zqB ?_ | refine zqC ?_ | refine zqD ?_ | refine zqE ?_ | refine zqF ?_ | refine zqG ?_ | refine zqH ?_ | refine zqI ?_ | refine zqJ ?_ | refine zqK ?_ | refine zqL (by decide) ?_) | ((with_reducible first | refine zqM (fun _ _ => ?_) | refine zqN (fun _ _ => ?_)); simp only [go_sem, alist, adraw, seval, ha, hb, hc, ya, yb, yc, hx, yx, tx, ax, u8, w1, w2, w3, w4, w5, w6, w7, hk, w8, w9, w10, hs, lK, yK, tK, yr, tr, wj, lr]) | (with_reducible first | refine And.intro trivial ?_ | apply_assumption -exfalso -symm)))
  refine ⟨[], _, CallEff.pure0 (hK) (by first | rfl | (simp only [List.map_cons, List.map_nil, AV.ren2, plain.map1 pa, plain.map1 pb, plain.map1 pc, plain.map1 px, plain.map1 pK] <;> rfl)) (by first | rfl | (simp only [List.all_cons, List.all_nil, AV.ok2, plain.all1 pa, plain.all1 pb, plain.all1 pc, plain.all1 px, plain.all1 pK] <;> rfl)) (by first | rfl | (simp only [AV.ren, List.map_cons, List.map_nil, AV.ren2, plain.map1 pa, plain.map1 pb, plain.map1 pc, plain.map1 px, plain.map1 pK] <;> rfl)), ?_⟩; simp only [go_sem, alist, adraw, seval, ha, hb, hc, ya, yb, yc, hx, yx, tx, ax, u8, w1, w2, w3, w4, w5, w6, w7, hk, w8, w9, w10, hs, lK, yK, tK, yr, tr, wj, lr]
  try refine ⟨by omega, ?_⟩
  have e1 : frz2 992 [K] (.agg b) = .agg b := congrArg AV.agg (pb.map fun _ => rfl)
  have e2 : frz2 992 [K] (.agg r) = .agg r := congrArg AV.agg (pr.map fun _ => rfl)
  have e3 : frz2 992 [K] (.own 992 0 1) = .sl [K] := rfl
  refine ⟨[992], _, CallEff.frz1 992 _ (by simp only [go_sem, alist, adraw, seval] <;> rfl) rfl (fun row hr => by simp at hr; subst hr; exact pK.all fun _ => rfl) hH (by simp only [List.map_cons, List.map_nil, e1, e2, e3]) (by simp only [List.map_cons, List.map_nil, AV.ren2, plain.map1 pb, plain.map1 pr] <;> rfl) (by simp only [List.all_cons, List.all_nil, AV.ok2, plain.all1 pb, plain.all1 pr] <;> rfl) (by simp only [AV.ren, List.map_cons, List.map_nil, AV.ren2, plain.map1 px] <;> rfl), ?_⟩
  simp only [go_sem, alist, adraw, seval, ha, hb, hc, ya, yb, yc, hx, yx, tx, ax, u8, w1, w2, w3, w4, w5, w6, w7, hk, w8, w9, w10, hs, lK, yK, tK, yr, tr, wj, lr]
  refine ⟨rfl, ?_⟩
  (repeat' (first | (with_reducible first | refine zqA (fun _ _ => ?_) | refine zqB ?_ | refine zqC ?_ | refine zqD ?_ | refine zqE ?_ | refine zqF ?_ | refine zqG ?_ | refine zqH ?_ | refine zqI ?_ | refine zqJ ?_ | refine zqK ?_ | refine zqL (by decide) ?_) | ((with_reducible first | refine zqM (fun _ _ => ?_) | refine zqN (fun _ _ => ?_)); simp only [go_sem, alist, adraw, seval, ha, hb, hc, ya, yb, yc, hx, yx, tx, ax, u8, w1, w2, w3, w4, w5, w6, w7, hk, w8, w9, w10, hs, lK, yK, tK, yr, tr, wj, lr]) | (with_reducible first | refine And.intro trivial ?_ | apply_assumption -exfalso -symm)))
  try refine ⟨by omega, ?_⟩
  (repeat' (first | (with_reducible first | refine zqA (fun _ _ => ?_) | refine zqB ?_ | refine zqC ?_ | refine zqD ?_ | refine zqE ?_ | refine zqF ?_ | refine zqG ?_ | refine zqH ?_ | refine zqI ?_ | refine zqJ ?_ | refine zqK ?_ | refine zqL (by decide) ?_) | ((with_reducible first | refine zqM (fun _ _ => ?_) | refine zqN (fun _ _ => ?_)); simp only [go_sem, alist, adraw, seval, ha, hb, hc, ya, yb, yc, hx, yx, tx, ax, u8, w1, w2, w3, w4, w5, w6, w7, hk, w8, w9, w10, hs, lK, yK, tK, yr, tr, wj, lr]) | (with_reducible first | refine And.intro trivial ?_ | apply_assumption -exfalso -symm)))
  simp only [retQ, Tryd.f25]; refine ret_pure (by simp only [resAll, resA, go_sem, alist, adraw, seval, ha, hb, hc, ya, yb, yc, hx, yx, tx, ax, u8, w1, w2, w3, w4, w5, w6, w7, hk, w8, w9, w10, hs, lK, yK, tK, yr, tr, wj, lr]; rfl) rfl ?_ ?_ ?_ ?_
  · simp only [go_sem, alist, adraw, seval, ha, hb, hc, ya, yb, yc, hx, yx, tx, ax, u8, w1, w2, w3, w4, w5, w6, w7, hk, w8, w9, w10, hs, lK, yK, tK, yr, tr, wj, lr]
  · rfl
  · exact wA_ren pa px pc _ _ _ _ _ _ _ _
  · exact wA_ok pa px pc _ _ _ _ _ _ _
set_option maxHeartbeats 4000000 in
theorem act4_2 [Base] (la mo T : Int) (G : List (List AV)) (a b c K x r : List AV) (Sl Bn : List (List AV)) (k s n af ea lt : Int)
    (ha : a.length = 22) (hb : b.length = 22) (hc : c.length = 22) (pa : plain a) (pb : plain b) (pc : plain c)
    (hk : k.tmod 5 = 4) (hs : s.tmod 3 = s.tmod 3) (hk0 : 0 ≤ k ∧ k < 256) (hs0 : 0 ≤ s ∧ s < 256) (hn0 : 0 ≤ n ∧ n < 256) (h1 : 0 ≤ af ∧ af < 256) (h2 : 0 ≤ ea ∧ ea < 256) (h3 : 0 ≤ lt ∧ lt < 256) (hT : 1000 ≤ T ∧ T ≤ 1000000)
    (hK : EC Tryd.prog 31 [] [] [] (.agg K)) (pK : plain K) (lK : K.length = 5)
    (hx : x.length = 22) (px : plain x) (pr : plain r) (lr : r.length = 20) (ax : r[0]? = some (.v (.int .i64 2))) (h0 : 0 < Sl.length) (hS0 : Sl.length ≤ 60) (wj : Sl.getD (n.tmod Sl.length).toNat [] = r)
    (hH : EC Tryd.prog 32 [] [.sl [K], .agg c, .agg r] [] (.tup [.agg x, iv 0])) :
    EC Tryd.prog 25 [] [.agg (wA [iv la, iv mo, .sl G] a b c [.sl Sl, .sl Bn, iv T, bv false]), evA k s n af ea lt] [] (.agg (wA [iv la, iv mo, .sl G] a b x [.sl Sl, .sl Bn, iv (T + af), bv false])) := by
  refine EC_of_awp tiOk mixed Tryd.func25 rfl rfl (by kernel_rfl) (by simp [Tryd.f25]) ?_
  simp only [start, List.zipIdx_cons, List.zipIdx_nil, List.map_cons, List.map_nil, List.length_nil, List.length_cons, Nat.zero_add, Nat.reduceAdd]
  have ya := pa.one
  have yb := pb.one
  have yc := pc.one
  have w1 : IntKind.i64.wrap af = af := wrap_ok (by omega) (by omega)
  have w2 : IntKind.i64.wrap (T + af) = T + af := wrap_ok (by omega) (by omega)
  have w3 : IntKind.i64.wrap ea = ea := wrap_ok (by omega) (by omega)
  have w4 : IntKind.i64.wrap (T + af - ea) = T + af - ea := wrap_ok (by omega) (by omega)
  have w5 : IntKind.i64.wrap lt = lt := wrap_ok (by omega) (by omega)
  have w6 : IntKind.i64.wrap (T + af + lt) = T + af + lt := wrap_ok (by omega) (by omega)
  have w7 : IntKind.i64.wrap s = s := wrap_ok (by omega) (by omega)
  have yx := px.one
  have yK := pK.one
  have yr := pr.one
  have tx : List.take 22 x = x := List.take_of_length_le (by omega)
  have tK : List.take 5 K = K := List.take_of_length_le (by omega)
  have tr : List.take 20 r = r := List.take_of_length_le (by omega)
  have w8 : IntKind.i64.wrap n = n := wrap_ok (by omega) (by omega)
  have w9 : ((Sl.length : Int) = 0) = False := eq_false (by omega)
  have w10 : decide (0 < (Sl.length : Int)) = true := decide_eq_true (by omega)
  have wm : 0 ≤ n.tmod Sl.length ∧ n.tmod Sl.length < Sl.length := by
    rw [Int.tmod_eq_emod_of_nonneg (by omega)]
    exact ⟨Int.emod_nonneg _ (by omega), Int.emod_lt_of_pos _ (by omega)⟩
  (repeat' (first | (with_reducible first | refine zqA (fun _ _ => ?_) | refine zqB ?_ | refine zqC ?_ | refine zqD ?_ | refine zqE ?_ | refine zqF ?_ | refine zqG ?_ | refine zqH ?_ | refine zqI ?_ | refine zqJ ?_ | refine zqK ?_ | refine zqL (by decide) ?_) | ((with_reducible first | refine zqM (fun _ _ => ?_) | refine zqN (fun _ _ => ?_)); simp only [go_sem, alist, adraw, seval, ha, hb, hc, ya, yb, yc, hx, yx, tx, ax, u8, w1, w2, w3, w4, w5, w6, w7, hk, w8, w9, w10, hs, lK, yK, tK, yr, tr, wj, lr]) | (with_reducible first | refine And.intro trivial ?_ | apply_assumption -exfalso -symm)))
  refine zqO (by simp only [go_sem, alist, adraw, seval] <;> rfl) (fun h => absurd h (by simp)) (fun _ => ?_)
  (repeat' (first | (with_reducible first | refine zqA (fun _ _ => ?_) | refine zqB ?_ | refine zqC ?_ | refine zqD ?_ | refine zqE ?_ | refine zqF ?_ | refine zqG ?_ | refine zqH ?_ | refine zqI ?_ | refine zqJ ?_ | refine zqK ?_ | refine zqL (by decide) ?_) | ((with_reducible first | refine zqM (fun _ _ => ?_) | refine zqN (fun _ _ => ?_)); simp only [go_sem, alist, adraw, seval, ha, hb, hc, ya, yb, yc, hx, yx, tx, ax, u8, w1, w2, w3, w4, w5, w6, w7, hk, w8, w9, w10, hs, lK, yK, tK, yr, tr, wj, lr]) | (with_reducible first | refine And.intro trivial ?_ | apply_assumption -exfalso -symm)))
  refine zqO (by simp only [go_sem, alist, adraw, seval] <;> rfl) (fun h => absurd h (by simp)) (fun _ => ?_)
  (repeat' (first | (with_reducible first | refine zqA (fun _ _ => ?_) | refine zqB ?_ | refine zqC ?_ | refine zqD ?_ | refine zqE ?_ | refine zqF ?_ | refine zqG ?_ | refine zqH ?_ | refine zqI ?_ | refine zqJ ?_ | refine zqK ?_ | refine zqL (by decide) ?_) | ((with_reducible first | refine zqM (fun _ _ => ?_) | refine zqN (fun _ _ => ?_)); simp only [go_sem, alist, adraw, seval, ha, hb, hc, ya, yb, yc, hx, yx, tx, ax, u8, w1, w2, w3, w4, w5, w6, w7, hk, w8, w9, w10, hs, lK, yK, tK, yr, tr, wj, lr]) | (with_reducible first | refine And.intro trivial ?_ | apply_assumption -exfalso -symm)))
  refine zqO (by simp only [go_sem, alist, adraw, seval] <;> rfl) (fun h => absurd h (by simp)) (fun _ => ?_)
  (repeat' (first | (with_reducible first | refine zqA (fun _ _ => ?_) | refine zqB ?_ | refine zqC ?_ | refine zqD ?_ | refine zqE ?_ | refine zqF ?_ | refine zqG ?_ | refine zqH ?_ | refine zqI ?_ | refine zqJ ?_ | refine zqK ?_ | refine zqL (by decide) ?_) | ((with_reducible first | refine zqM (fun _ _ => ?_) | refine zqN (fun _ _ => ?_)); simp only [go_sem, alist, adraw, seval, ha, hb, hc, ya, yb, yc, hx, yx, tx, ax, u8, w1, w2, w3, w4, w5, w6, w7, hk, w8, w9, w10, hs, lK, yK, tK, yr, tr, wj, lr]) | (with_reducible first | refine And.intro trivial ?_ | apply_assumption -exfalso -symm)))
  refine zqO (by simp only [go_sem, alist, adraw, seval] <;> rfl) (fun h => absurd h (by simp)) (fun _ => ?_)
  (repeat' (first | (with_reducible first | refine zqA (fun _ _ => ?_) | refine zqB ?_ | refine zqC ?_ | refine zqD ?_ | refine zqE ?_ | refine zqF ?_ | refine zqG ?_ | refine zqH ?_ | refine zqI ?_ | refine zqJ ?_ | refine zqK ?_ | refine zqL (by decide) ?_) | ((with_reducible first | refine zqM (fun _ _ => ?_) | refine zqN (fun _ _ => ?_)); simp only [go_sem, alist, adraw, seval, ha, hb, hc, ya, yb, yc, hx, yx, tx, ax, u8, w1, w2, w3, w4, w5, w6, w7, hk, w8, w9, w10, hs, lK, yK, tK, yr, tr, wj, lr]) | (with_reducible first | refine And.intro trivial ?_ | apply_assumption -exfalso -symm)))
  refine zqO (by simp only [go_sem, alist, adraw, seval] <;> rfl) (fun _ => ?_) (fun h => absurd h (by simp))
  (repeat' (first | (with_reducible first | refine zqA (fun _ _ => ?_) | refine zqB ?_ | refine zqC ?_ | refine zqD ?_ | refine zqE ?_ | refine zqF ?_ | refine zqG ?_ | refine zqH ?_ | refine zqI ?_ | refine zqJ ?_ | refine zqK ?_ | refine zqL (by decide) ?_) | ((with_reducible first | refine zqM (fun _ _ => ?_) | refine zqN (fun _ _ => ?_)); simp only [go_sem, alist, adraw, seval, ha, hb, hc, ya, yb, yc, hx, yx, tx, ax, u8, w1, w2, w3, w4, w5, w6, w7, hk, w8, w9, w10, hs, lK, yK, tK, yr, tr, wj, lr]) | (with_reducible first | refine And.intro trivial ?_ | apply_assumption -exfalso -symm)))
  refine zqO (by simp only [go_sem, alist, adraw, seval] <;> rfl) (fun _ => ?_) (fun h => absurd h (by simp))
  (repeat' (first | (with_reducible first | refine zqA (fun _ _ => ?_) | refine zqB ?_ | refine zqC ?_ | refine zqD ?_ | refine zqE ?_ | refine zqF ?_ | refine zqG ?_ | refine zqH ?_ | refine zqI ?_ | refine zqJ ?_ | refine zqK ?_ | refine zqL (by decide) ?_) | ((with_reducible first | refine zqM (fun _ _ => ?_) | refine zqN (fun _ _ => ?_)); simp only [go_sem, alist, adraw, seval, ha, hb, hc, ya, yb, yc, hx, yx, tx, ax, u8, w1, w2, w3, w4, w5, w6, w7, hk, w8, w9, w10, hs, lK, yK, tK, yr, tr, wj, lr]) | (with_reducible first | refine And.intro trivial ?_ | apply_assumption -exfalso -symm)))
  refine ⟨wm, rfl, ?_⟩
  (repeat' (first | (with_reducible first | refine zqA (fun _ _ => ?_) | refine zqB ?_ | refine zqC ?_ | refine zqD ?_ | refine zqE ?_ | refine zqF ?_ | refine zqG ?_ | refine zqH ?_ | refine zqI ?_ | refine zqJ ?_ | refine zqK ?_ | refine zqL (by decide) ?_) | ((with_reducible first | refine zqM (fun _ _ => ?_) | refine zqN (fun _ _ => ?_)); simp only [go_sem, alist, adraw, seval, ha, hb, hc, ya, yb, yc, hx, yx, tx, ax, u8, w1, w2, w3, w4, w5, w6, w7, hk, w8, w9, w10, hs, lK, yK, tK, yr, tr, wj, lr]) | (with_reducible first | refine And.intro trivial ?_ | apply_assumption -exfalso -symm)))
  refine ⟨[], _, CallEff.pure0 (hK) (by first | rfl | (simp only [List.map_cons, List.map_nil, AV.ren2, plain.map1 pa, plain.map1 pb, plain.map1 pc, plain.map1 px, plain.map1 pK] <;> rfl)) (by first | rfl | (simp only [List.all_cons, List.all_nil, AV.ok2, plain.all1 pa, plain.all1 pb, plain.all1 pc, plain.all1 px, plain.all1 pK] <;> rfl)) (by first | rfl | (simp only [AV.ren, List.map_cons, List.map_nil, AV.ren2, plain.map1 pa, plain.map1 pb, plain.map1 pc, plain.map1 px, plain.map1 pK] <;> rfl)), ?_⟩; simp only [go_sem, alist, adraw, seval, ha, hb, hc, ya, yb, yc, hx, yx, tx, ax, u8, w1, w2, w3, w4, w5, w6, w7, hk, w8, w9, w10, hs, lK, yK, tK, yr, tr, wj, lr]
  try refine ⟨by omega, ?_⟩
  have e1 : frz2 992 [K] (.agg c) = .agg c := congrArg AV.agg (pc.map fun _ => rfl)
  have e2 : frz2 992 [K] (.agg r) = .agg r := congrArg AV.agg (pr.map fun _ => rfl)
  have e3 : frz2 992 [K] (.own 992 0 1) = .sl [K] := rfl
  refine ⟨[992], _, CallEff.frz1 992 _ (by simp only [go_sem, alist, adraw, seval] <;> rfl) rfl (fun row hr => by simp at hr; subst hr; exact pK.all fun _ => rfl) hH (by simp only [List.map_cons, List.map_nil, e1, e2, e3]) (by simp only [List.map_cons, List.map_nil, AV.ren2, plain.map1 pc, plain.map1 pr] <;> rfl) (by simp only [List.all_cons, List.all_nil, AV.ok2, plain.all1 pc, plain.all1 pr] <;> rfl) (by simp only [AV.ren, List.map_cons, List.map_nil, AV.ren2, plain.map1 px] <;> rfl), ?_⟩
  simp only [go_sem, alist, adraw, seval, ha, hb, hc, ya, yb, yc, hx, yx, tx, ax, u8, w1, w2, w3, w4, w5, w6, w7, hk, w8, w9, w10, hs, lK, yK, tK, yr, tr, wj, lr]
  refine ⟨rfl, ?_⟩
  (repeat' (first | (with_reducible first | refine zqA (fun _ _ => ?_) | refine zqB ?_ | refine zqC ?_ | refine zqD ?_ | refine zqE ?_ | refine zqF ?_ | refine zqG ?_ | refine zqH ?_ | refine zqI ?_ | refine zqJ ?_ | refine zqK ?_ | refine zqL (by decide) ?_) | ((with_reducible first | refine zqM (fun _ _ => ?_) | refine zqN (fun _ _ => ?_)); simp only [go_sem, alist, adraw, seval, ha, hb, hc, ya, yb, yc, hx, yx, tx, ax, u8, w1, w2, w3, w4, w5, w6, w7, hk, w8, w9, w10, hs, lK, yK, tK, yr, tr, wj, lr]) | (with_reducible first | refine And.intro trivial ?_ | apply_assumption -exfalso -symm)))
  try refine ⟨by omega, ?_⟩
  (repeat' (first | (with_reducible first | refine zqA (fun _ _ => ?_) | refine zqB ?_ | refine zqC ?_ | refine zqD ?_ | refine zqE ?_ | refine zqF ?_ | refine zqG ?_ | refine zqH ?_ | refine zqI ?_ | refine zqJ ?_ | refine zqK ?_ | refine zqL (by decide) ?_) | ((with_reducible first | refine zqM (fun _ _ => ?_) | refine zqN (fun _ _ => ?_)); simp only [go_sem, alist, adraw, seval, ha, hb, hc, ya, yb, yc, hx, yx, tx, ax, u8, w1, w2, w3, w4, w5, w6, w7, hk, w8, w9, w10, hs, lK, yK, tK, yr, tr, wj, lr]) | (with_reducible first | refine And.intro trivial ?_ | apply_assumption -exfalso -symm)))
  simp only [retQ, Tryd.f25]; refine ret_pure (by simp only [resAll, resA, go_sem, alist, adraw, seval, ha, hb, hc, ya, yb, yc, hx, yx, tx, ax, u8, w1, w2, w3, w4, w5, w6, w7, hk, w8, w9, w10, hs, lK, yK, tK, yr, tr, wj, lr]; rfl) rfl ?_ ?_ ?_ ?_
  · simp only [go_sem, alist, adraw, seval, ha, hb, hc, ya, yb, yc, hx, yx, tx, ax, u8, w1, w2, w3, w4, w5, w6, w7, hk, w8, w9, w10, hs, lK, yK, tK, yr, tr, wj, lr]
  · rfl
  · exact wA_ren pa pb px _ _ _ _ _ _ _ _
  · exact wA_ok pa pb px _ _ _ _ _ _ _
end Am
end
section
namespace Am
open Go
attribute [local go_sem] true_implies false_implies List.take_length bne_self_eq_false beq_self_eq_true List.forall_mem_cons List.not_mem_nil false_imp_iff allOne_nil allOne_cons iv bv Value.oneCell' astep aexe asem AS.put AS.app AS.ev look eff effIf binE unE convE lenE loadE storeE fieldAddrE fieldE indexAddrE indexE sliceE low bound extractE pickE minE allocE boxE buildE buildSliceE makeSliceE appendE elsOf aliveB pairs fillA litEls partOf tdesc TI.isAgg KD.row AV.cells AV.one guardV Option.map_some Option.map_none Option.getD_some Option.bind_some Option.bind_none List.map_cons List.map_nil List.nil_append List.cons_append List.append_nil true_and and_true cond_true cond_false Nat.zero_add Nat.add_zero Nat.zero_mul Nat.mul_zero List.getElem?_cons_zero List.getElem?_cons_succ List.getElem?_nil List.getElem?_toArray List.length_cons List.length_nil List.size_toArray List.take_succ_cons List.take_zero List.drop_succ_cons List.drop_zero List.drop_nil List.take_nil List.set_cons_zero List.set_cons_succ Bool.not_true Bool.not_false List.flatMap_cons List.flatMap_nil idA false_and forall_eq implies_true Bool.false_eq_true imp_false not_true_eq_false not_false_eq_true goInt Int.toNat_natCast ne_eq Nat.le_refl and_self List.append_assoc AV.ren AV.ren2 AV.ren1 AV.ren0 updC List.zipIdx_cons List.zipIdx_nil rho Blk.ren frzT frzB frzA ti_2 ti_3 ti_4 ti_5 ti_9 ti_12 ti_13 ti_21 ti_22 ti_23 ti_24 ti_25 ti_26 ti_27 ti_28 ti_30 ti_35 ti_36 ti_37 ti_38 ti_43 ti_46 ti_47 ti_51 ti_52 ti_54 ti_55 ti_57 ti_58 ti_64 ti_65 ti_66 ti_67 ti_68 ti_69 ti_70 ti_71 ti_75 ti_76 ti_79 ti_80 ti_87 ti_88 ti_92 ti_112 ti_117 ti_118 ti_122 wA_len wA_0 wA_1 wA_g wA_69 wA_70 wA_71 wA_72 wA_s0 wA_s1 wA_s2 wA_whole wA_h0 wA_h1 wA_h2 wA_wg wA_t3 wA_w0 wA_w1 wA_w2 wA_w69 wA_w70 wA_w71 wA_w72 wA_one
set_option maxRecDepth 100000
theorem act4e [Base] (la mo T : Int) (G : List (List AV)) (a b c : List AV) (Sl Bn : List (List AV)) (k s n af ea lt : Int)
    (ha : a.length = 22) (hb : b.length = 22) (hc : c.length = 22) (pa : plain a) (pb : plain b) (pc : plain c)
    (hk : k.tmod 5 = 4) (hs : s.tmod 3 = s.tmod 3) (hk0 : 0 ≤ k ∧ k < 256) (hs0 : 0 ≤ s ∧ s < 256) (hn0 : 0 ≤ n ∧ n < 256) (h1 : 0 ≤ af ∧ af < 256) (h2 : 0 ≤ ea ∧ ea < 256) (h3 : 0 ≤ lt ∧ lt < 256) (hT : 1000 ≤ T ∧ T ≤ 1000000)
    (h0 : Sl.length = 0) :
    EC Tryd.prog 25 [] [.agg (wA [iv la, iv mo, .sl G] a b c [.sl Sl, .sl Bn, iv T, bv false]), evA k s n af ea lt] [] (.agg (wA [iv la, iv mo, .sl G] a b c [.sl Sl, .sl Bn, iv (T + af), bv false])) := by
  refine EC_of_awp tiOk mixed Tryd.func25 rfl rfl (by kernel_rfl) (by simp [Tryd.f25]) ?_
  simp only [start, List.zipIdx_cons, List.zipIdx_nil, List.map_cons, List.map_nil, List.length_nil, List.length_cons, Nat.zero_add, Nat.reduceAdd]
  have ya := pa.one
  have yb := pb.one
  have yc := pc.one
  have w1 : IntKind.i64.wrap af = af := wrap_ok (by omega) (by omega)
  have w2 : IntKind.i64.wrap (T + af) = T + af := wrap_ok (by omega) (by omega)
  have w3 : IntKind.i64.wrap ea = ea := wrap_ok (by omega) (by omega)
  have w4 : IntKind.i64.wrap (T + af - ea) = T + af - ea := wrap_ok (by omega) (by omega)
  have w5 : IntKind.i64.wrap lt = lt := wrap_ok (by omega) (by omega)
  have w6 : IntKind.i64.wrap (T + af + lt) = T + af + lt := wrap_ok (by omega) (by omega)
  have w7 : IntKind.i64.wrap s = s := wrap_ok (by omega) (by omega)
  have px := pa
  have hx := ha
  have yx := ya
  have tx := ha
  have ax := ha
  have w8 : IntKind.i64.wrap n = n := wrap_ok (by omega) (by omega)
  have w9 := ha
  have w10 : decide (0 < (Sl.length : Int)) = false := decide_eq_false (by omega)
  (repeat' (first | (with_reducible first | refine zqA (fun _ _ => ?_) | refine zqB ?_ | refine zqC ?_ | refine zqD ?_ | refine zqE ?_ | refine zqF ?_ | refine zqG ?_ | refine zqH ?_ | refine zqI ?_ | refine zqJ ?_ | refine zqK ?_ | refine zqL (by decide) ?_) | ((with_reducible first | refine zqM (fun _ _ => ?_) | refine zqN (fun _ _ => ?_)); simp only [go_sem, alist, adraw, seval, ha, hb, hc, ya, yb, yc, hx, yx, tx, ax, u8, w1, w2, w3, w4, w5, w6, w7, hk, w8, w9, w10, hs]) | (with_reducible first | refine And.intro trivial ?_ | apply_assumption -exfalso -symm)))
  refine zqO (by simp only [go_sem, alist, adraw, seval] <;> rfl) (fun h => absurd h (by simp)) (fun _ => ?_)
  (repeat' (first | (with_reducible first | refine zqA (fun _ _ => ?_) | refine zqB ?_ | refine zqC ?_ | refine zqD ?_ | refine zqE ?_ | refine zqF ?_ | refine zqG ?_ | refine zqH ?_ | refine zqI ?_ | refine zqJ ?_ | refine zqK ?_ | refine zqL (by decide) ?_) | ((with_reducible first | refine zqM (fun _ _ => ?_) | refine zqN (fun _ _ => ?_)); simp only [go_sem, alist, adraw, seval, ha, hb, hc, ya, yb, yc, hx, yx, tx, ax, u8, w1, w2, w3, w4, w5, w6, w7, hk, w8, w9, w10, hs]) | (with_reducible first | refine And.intro trivial ?_ | apply_assumption -exfalso -symm)))
  refine zqO (by simp only [go_sem, alist, adraw, seval] <;> rfl) (fun h => absurd h (by simp)) (fun _ => ?_)
  (repeat' (first | (with_reducible first | refine zqA (fun _ _ => ?_) | refine zqB ?_ | refine zqC ?_ | refine zqD ?_ | refine zqE ?_ | refine zqF ?_ | refine zqG ?_ | refine zqH ?_ | refine zqI ?_ | refine zqJ ?_ | refine zqK ?_ | refine zqL (by decide) ?_) | ((with_reducible first | refine zqM (fun _ _ => ?_) | refine zqN (fun _ _ => ?_)); simp only [go_sem, alist, adraw, seval, ha, hb, hc, ya, yb, yc, hx, yx, tx, ax, u8, w1, w2, w3, w4, w5, w6, w7, hk, w8, w9, w10, hs]) | (with_reducible first | refine And.intro trivial ?_ | apply_assumption -exfalso -symm)))
  refine zqO (by simp only [go_sem, alist, adraw, seval] <;> rfl) (fun h => absurd h (by simp)) (fun _ => ?_)
  (repeat' (first | (with_reducible first | refine zqA (fun _ _ => ?_) | refine zqB ?_ | refine zqC ?_ | refine zqD ?_ | refine zqE ?_ | refine zqF ?_ | refine zqG ?_ | refine zqH ?_ | refine zqI ?_ | refine zqJ ?_ | refine zqK ?_ | refine zqL (by decide) ?_) | ((with_reducible first | refine zqM (fun _ _ => ?_) | refine zqN (fun _ _ => ?_)); simp only [go_sem, alist, adraw, seval, ha, hb, hc, ya, yb, yc, hx, yx, tx, ax, u8, w1, w2, w3, w4, w5, w6, w7, hk, w8, w9, w10, hs]) | (with_reducible first | refine And.intro trivial ?_ | apply_assumption -exfalso -symm)))
  refine zqO (by simp only [go_sem, alist, adraw, seval] <;> rfl) (fun h => absurd h (by simp)) (fun _ => ?_)
  (repeat' (first | (with_reducible first | refine zqA (fun _ _ => ?_) | refine zqB ?_ | refine zqC ?_ | refine zqD ?_ | refine zqE ?_ | refine zqF ?_ | refine zqG ?_ | refine zqH ?_ | refine zqI ?_ | refine zqJ ?_ | refine zqK ?_ | refine zqL (by decide) ?_) | ((with_reducible first | refine zqM (fun _ _ => ?_) | refine zqN (fun _ _ => ?_)); simp only [go_sem, alist, adraw, seval, ha, hb, hc, ya, yb, yc, hx, yx, tx, ax, u8, w1, w2, w3, w4, w5, w6, w7, hk, w8, w9, w10, hs]) | (with_reducible first | refine And.intro trivial ?_ | apply_assumption -exfalso -symm)))
  refine zqO (by simp only [go_sem, alist, adraw, seval] <;> rfl) (fun _ => ?_) (fun h => absurd h (by simp))
  (repeat' (first | (with_reducible first | refine zqA (fun _ _ => ?_) | refine zqB ?_ | refine zqC ?_ | refine zqD ?_ | refine zqE ?_ | refine zqF ?_ | refine zqG ?_ | refine zqH ?_ | refine zqI ?_ | refine zqJ ?_ | refine zqK ?_ | refine zqL (by decide) ?_) | ((with_reducible first | refine zqM (fun _ _ => ?_) | refine zqN (fun _ _ => ?_)); simp only [go_sem, alist, adraw, seval, ha, hb, hc, ya, yb, yc, hx, yx, tx, ax, u8, w1, w2, w3, w4, w5, w6, w7, hk, w8, w9, w10, hs]) | (with_reducible first | refine And.intro trivial ?_ | apply_assumption -exfalso -symm)))
  refine zqO (by simp only [go_sem, alist, adraw, seval] <;> rfl) (fun h => absurd h (by simp)) (fun _ => ?_)
  (repeat' (first | (with_reducible first | refine zqA (fun _ _ => ?_) | refine zqB ?_ | refine zqC ?_ | refine zqD ?_ | refine zqE ?_ | refine zqF ?_ | refine zqG ?_ | refine zqH ?_ | refine zqI ?_ | refine zqJ ?_ | refine zqK ?_ | refine zqL (by decide) ?_) | ((with_reducible first | refine zqM (fun _ _ => ?_) | refine zqN (fun _ _ => ?_)); simp only [go_sem, alist, adraw, seval, ha, hb, hc, ya, yb, yc, hx, yx, tx, ax, u8, w1, w2, w3, w4, w5, w6, w7, hk, w8, w9, w10, hs]) | (with_reducible first | refine And.intro trivial ?_ | apply_assumption -exfalso -symm)))
  simp only [retQ, Tryd.f25]; refine ret_pure (by simp only [resAll, resA, go_sem, alist, adraw, seval, ha, hb, hc, ya, yb, yc, hx, yx, tx, ax, u8, w1, w2, w3, w4, w5, w6, w7, hk, w8, w9, w10, hs]; rfl) rfl ?_ ?_ ?_ ?_
  · simp only [go_sem, alist, adraw, seval, ha, hb, hc, ya, yb, yc, hx, yx, tx, ax, u8, w1, w2, w3, w4, w5, w6, w7, hk, w8, w9, w10, hs]
  · rfl
  · exact wA_ren pa pb pc _ _ _ _ _ _ _ _
  · exact wA_ok pa pb pc _ _ _ _ _ _ _
end Am
end
end Go.Proofs.YteblnmhaohbkkaaDoor
