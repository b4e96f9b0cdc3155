import Derived.Test.YteblnmhaohbkkaaDoorRD1
namespace Go.Proofs.YteblnmhaohbkkaaDoor
set_option linter.unusedVariables false
set_option linter.unusedSimpArgs false
set_option linter.unusedSectionVars false
section
namespace Am
open Go
attribute [local go_sem] true_implies false_implies List.take_length bne_self_eq_false beq_self_eq_true List.forall_mem_cons List.not_mem_nil false_imp_iff allOne_nil allOne_cons iv bv Value.oneCell' astep aexe asem AS.put AS.app AS.ev look eff effIf binE unE convE lenE loadE storeE fieldAddrE fieldE indexAddrE indexE sliceE low bound extractE pickE minE allocE boxE buildE buildSliceE makeSliceE appendE elsOf aliveB pairs fillA litEls partOf tdesc TI.isAgg KD.row AV.cells AV.one guardV Option.map_some Option.map_none Option.getD_some Option.bind_some Option.bind_none List.map_cons List.map_nil List.nil_append List.cons_append List.append_nil true_and and_true cond_true cond_false Nat.zero_add Nat.add_zero Nat.zero_mul Nat.mul_zero List.getElem?_cons_zero List.getElem?_cons_succ List.getElem?_nil List.getElem?_toArray List.length_cons List.length_nil List.size_toArray List.take_succ_cons List.take_zero List.drop_succ_cons List.drop_zero List.drop_nil List.take_nil List.set_cons_zero List.set_cons_succ Bool.not_true Bool.not_false List.flatMap_cons List.flatMap_nil idA false_and forall_eq implies_true Bool.false_eq_true imp_false not_true_eq_false not_false_eq_true goInt Int.toNat_natCast ne_eq Nat.le_refl and_self List.append_assoc AV.ren AV.ren2 AV.ren1 AV.ren0 updC List.zipIdx_cons List.zipIdx_nil rho Blk.ren frzT frzB frzA ti_2 ti_3 ti_4 ti_5 ti_9 ti_12 ti_13 ti_21 ti_22 ti_23 ti_24 ti_25 ti_26 ti_27 ti_28 ti_30 ti_35 ti_36 ti_37 ti_38 ti_43 ti_46 ti_47 ti_51 ti_52 ti_54 ti_55 ti_57 ti_58 ti_64 ti_65 ti_66 ti_67 ti_68 ti_69 ti_70 ti_71 ti_75 ti_76 ti_79 ti_80 ti_87 ti_88 ti_92 ti_112 ti_117 ti_118 ti_122
set_option maxRecDepth 100000
abbrev nilA : AV := .v (.slice none 0 0)
def bw (mo y z : Int) : List AV := [iv 0, iv mo, nilA,
  iv 0, iv 0, iv 0, iv 0, iv 0, iv 0, u8 0, u8 0, u8 0, u8 0, u8 0, u8 0, u8 0, u8 0, u8 0, u8 0, u8 0, u8 0, u8 0, u8 0, u8 0, u8 0,
  iv y, iv 0, iv 0, iv 0, iv 0, iv 0, u8 0, u8 0, u8 0, u8 0, u8 0, u8 0, u8 0, u8 0, u8 0, u8 0, u8 0, u8 0, u8 0, u8 0, u8 0, u8 0,
  iv z, iv 0, iv 0, iv 0, iv 0, iv 0, u8 0, u8 0, u8 0, u8 0, u8 0, u8 0, u8 0, u8 0, u8 0, u8 0, u8 0, u8 0, u8 0, u8 0, u8 0, u8 0,
  nilA, nilA, iv 1000, bv false]
def bI (mo y z : Int) (i : Nat) : AS := { t := [(7, iv i), (6, .ptr 1 0 0), (5, iv 0), (2, .ptr 0 0 0)], T := [(0, ⟨.live, false, 71, 73, [bw 0 0 0 |>.set 71 (iv 0)]⟩), (1, ⟨.live, false, 71, 73, [bw mo y z]⟩)], N := 2, M := 0 }
set_option maxHeartbeats 4000000 in
theorem begin_ec [Base] (mo : Int) (hN : EC Tryd.prog 8 [] [iv mo] [] (.tup [.agg [iv 0, iv mo, nilA], iv 0])) :
    EC Tryd.prog 24 [] [iv mo] [] (.tup [.agg (bw mo 1 2), bv true]) := by
  refine EC_of_awp tiOk mixed Tryd.func24 rfl rfl (by kernel_rfl) (by simp [Tryd.f24]) ?_
  simp only [start, List.zipIdx_cons, List.zipIdx_nil, List.map_cons, List.map_nil, List.length_nil, List.length_cons, Nat.zero_add, Nat.reduceAdd]
  (repeat' (first | (with_reducible first | refine zqA (fun _ _ => ?_) | refine zqB ?_ | refine zqC ?_ | refine zqD ?_ | refine zqE ?_ | refine zqF ?_ | refine zqG ?_ | refine zqH ?_ | refine zqI ?_ | refine zqJ ?_ | refine zqK ?_ | refine zqL (by decide) ?_) | ((with_reducible first | refine zqM (fun _ _ => ?_) | refine zqN (fun _ _ => ?_)); simp only [go_sem, alist, adraw, seval]) | (with_reducible first | refine And.intro trivial ?_ | apply_assumption -exfalso -symm)))
  refine ⟨[], _, CallEff.pure (hN) (Nat.zero_le _) rfl rfl, ?_⟩; simp only [go_sem, alist, adraw, seval]
  (repeat' (first | (with_reducible first | refine zqA (fun _ _ => ?_) | refine zqB ?_ | refine zqC ?_ | refine zqD ?_ | refine zqE ?_ | refine zqF ?_ | refine zqG ?_ | refine zqH ?_ | refine zqI ?_ | refine zqJ ?_ | refine zqK ?_ | refine zqL (by decide) ?_) | ((with_reducible first | refine zqM (fun _ _ => ?_) | refine zqN (fun _ _ => ?_)); simp only [go_sem, alist, adraw, seval]) | (with_reducible first | refine And.intro trivial ?_ | apply_assumption -exfalso -symm)))
  refine awp_loop_k (ι := Fin 4) (fun i => bI mo (if 2 ≤ i.1 then 1 else 0) (if 3 ≤ i.1 then 2 else 0) i.1) (fun i => 3 - i.1) 0 ?_ fun i K hK => ?_
  · refine Weak.mk' [(0, 0), (1, 192)] rfl (fun id h => absurd h (Nat.not_lt_zero _)) (by decide) (by simp [bI]) ?_ fun p hp => ?_
    · simp only [bI, List.mem_cons, forall_eq_or_imp, List.not_mem_nil, false_imp_iff, implies_true, and_true, go_sem, alist, adraw, seval]
      exact ⟨⟨rfl, rfl⟩, ⟨rfl, rfl⟩, rfl, rfl, rfl⟩
    · simp only [bI] at hp
      rcases List.mem_cons.1 hp with rfl | hp
      · exact ⟨rfl, fun row hr => by rw [List.mem_singleton.1 hr]; rfl, rfl⟩
      · rw [List.mem_singleton.1 hp]
        exact ⟨rfl, fun row hr => by rw [List.mem_singleton.1 hr]; rfl, rfl⟩
  obtain ⟨i, hi⟩ := i
  rcases i with _ | _ | _ | _ | i
  · simp only [bI, bw, Nat.reduceLeDiff, reduceIte, Nat.zero_add, Nat.reduceAdd]
    (repeat' (first | (with_reducible first | refine zqA (fun _ _ => ?_) | refine zqB ?_ | refine zqC ?_ | refine zqD ?_ | refine zqE ?_ | refine zqF ?_ | refine zqG ?_ | refine zqH ?_ | refine zqI ?_ | refine zqJ ?_ | refine zqK ?_ | refine zqL (by decide) ?_) | ((with_reducible first | refine zqM (fun _ _ => ?_) | refine zqN (fun _ _ => ?_)); simp only [go_sem, alist, adraw, seval]) | (with_reducible first | refine And.intro trivial ?_ | apply_assumption -exfalso -symm)))
    refine zqO (by simp only [go_sem, alist, adraw, seval] <;> rfl) (fun _ => ?_) (fun h => absurd h (by simp))
    (repeat' (first | (with_reducible first | refine zqA (fun _ _ => ?_) | refine zqB ?_ | refine zqC ?_ | refine zqD ?_ | refine zqE ?_ | refine zqF ?_ | refine zqG ?_ | refine zqH ?_ | refine zqI ?_ | refine zqJ ?_ | refine zqK ?_ | refine zqL (by decide) ?_) | ((with_reducible first | refine zqM (fun _ _ => ?_) | refine zqN (fun _ _ => ?_)); simp only [go_sem, alist, adraw, seval]) | (with_reducible first | refine And.intro trivial ?_ | apply_assumption -exfalso -symm)))
    try refine ⟨by omega, ?_⟩
    (repeat' (first | (with_reducible first | refine zqA (fun _ _ => ?_) | refine zqB ?_ | refine zqC ?_ | refine zqD ?_ | refine zqE ?_ | refine zqF ?_ | refine zqG ?_ | refine zqH ?_ | refine zqI ?_ | refine zqJ ?_ | refine zqK ?_ | refine zqL (by decide) ?_) | ((with_reducible first | refine zqM (fun _ _ => ?_) | refine zqN (fun _ _ => ?_)); simp only [go_sem, alist, adraw, seval]) | (with_reducible first | refine And.intro trivial ?_ | apply_assumption -exfalso -symm)))
    refine hK.go ⟨1, by omega⟩ (by simp) ?_
    · refine Weak.mk' [(0, 0), (1, 1)] rfl (fun id h => absurd h (Nat.not_lt_zero _)) (by decide) (by simp [bI]) ?_ fun p hp => ?_
      · simp only [bI, List.mem_cons, forall_eq_or_imp, List.not_mem_nil, false_imp_iff, implies_true, and_true, go_sem, alist, adraw, seval]
        exact ⟨⟨rfl, rfl⟩, ⟨rfl, rfl⟩, rfl, rfl, rfl⟩
      · simp only [bI] at hp
        rcases List.mem_cons.1 hp with rfl | hp
        · exact ⟨rfl, fun row hr => by rw [List.mem_singleton.1 hr]; rfl, rfl⟩
        · rw [List.mem_singleton.1 hp]
          exact ⟨rfl, fun row hr => by rw [List.mem_singleton.1 hr]; rfl, rfl⟩
  · simp only [bI, bw, Nat.reduceLeDiff, reduceIte, Nat.zero_add, Nat.reduceAdd]
    (repeat' (first | (with_reducible first | refine zqA (fun _ _ => ?_) | refine zqB ?_ | refine zqC ?_ | refine zqD ?_ | refine zqE ?_ | refine zqF ?_ | refine zqG ?_ | refine zqH ?_ | refine zqI ?_ | refine zqJ ?_ | refine zqK ?_ | refine zqL (by decide) ?_) | ((with_reducible first | refine zqM (fun _ _ => ?_) | refine zqN (fun _ _ => ?_)); simp only [go_sem, alist, adraw, seval]) | (with_reducible first | refine And.intro trivial ?_ | apply_assumption -exfalso -symm)))
    refine zqO (by simp only [go_sem, alist, adraw, seval] <;> rfl) (fun _ => ?_) (fun h => absurd h (by simp))
    (repeat' (first | (with_reducible first | refine zqA (fun _ _ => ?_) | refine zqB ?_ | refine zqC ?_ | refine zqD ?_ | refine zqE ?_ | refine zqF ?_ | refine zqG ?_ | refine zqH ?_ | refine zqI ?_ | refine zqJ ?_ | refine zqK ?_ | refine zqL (by decide) ?_) | ((with_reducible first | refine zqM (fun _ _ => ?_) | refine zqN (fun _ _ => ?_)); simp only [go_sem, alist, adraw, seval]) | (with_reducible first | refine And.intro trivial ?_ | apply_assumption -exfalso -symm)))
    try refine ⟨by omega, ?_⟩
    (repeat' (first | (with_reducible first | refine zqA (fun _ _ => ?_) | refine zqB ?_ | refine zqC ?_ | refine zqD ?_ | refine zqE ?_ | refine zqF ?_ | refine zqG ?_ | refine zqH ?_ | refine zqI ?_ | refine zqJ ?_ | refine zqK ?_ | refine zqL (by decide) ?_) | ((with_reducible first | refine zqM (fun _ _ => ?_) | refine zqN (fun _ _ => ?_)); simp only [go_sem, alist, adraw, seval]) | (with_reducible first | refine And.intro trivial ?_ | apply_assumption -exfalso -symm)))
    refine hK.go ⟨2, by omega⟩ (by simp) ?_
    · refine Weak.mk' [(0, 0), (1, 1)] rfl (fun id h => absurd h (Nat.not_lt_zero _)) (by decide) (by simp [bI]) ?_ fun p hp => ?_
      · simp only [bI, List.mem_cons, forall_eq_or_imp, List.not_mem_nil, false_imp_iff, implies_true, and_true, go_sem, alist, adraw, seval]
        exact ⟨⟨rfl, rfl⟩, ⟨rfl, rfl⟩, rfl, rfl, rfl⟩
      · simp only [bI] at hp
        rcases List.mem_cons.1 hp with rfl | hp
        · exact ⟨rfl, fun row hr => by rw [List.mem_singleton.1 hr]; rfl, rfl⟩
        · rw [List.mem_singleton.1 hp]
          exact ⟨rfl, fun row hr => by rw [List.mem_singleton.1 hr]; rfl, rfl⟩
  · simp only [bI, bw, Nat.reduceLeDiff, reduceIte, Nat.zero_add, Nat.reduceAdd]
    (repeat' (first | (with_reducible first | refine zqA (fun _ _ => ?_) | refine zqB ?_ | refine zqC ?_ | refine zqD ?_ | refine zqE ?_ | refine zqF ?_ | refine zqG ?_ | refine zqH ?_ | refine zqI ?_ | refine zqJ ?_ | refine zqK ?_ | refine zqL (by decide) ?_) | ((with_reducible first | refine zqM (fun _ _ => ?_) | refine zqN (fun _ _ => ?_)); simp only [go_sem, alist, adraw, seval]) | (with_reducible first | refine And.intro trivial ?_ | apply_assumption -exfalso -symm)))
    refine zqO (by simp only [go_sem, alist, adraw, seval] <;> rfl) (fun _ => ?_) (fun h => absurd h (by simp))
    (repeat' (first | (with_reducible first | refine zqA (fun _ _ => ?_) | refine zqB ?_ | refine zqC ?_ | refine zqD ?_ | refine zqE ?_ | refine zqF ?_ | refine zqG ?_ | refine zqH ?_ | refine zqI ?_ | refine zqJ ?_ | refine zqK ?_ | refine zqL (by decide) ?_) | ((with_reducible first | refine zqM (fun _ _ => ?_) | refine zqN (fun _ _ => ?_)); simp only [go_sem, alist, adraw, seval]) | (with_reducible first | refine And.intro trivial ?_ | apply_assumption -exfalso -symm)))
    try refine ⟨by omega, ?_⟩
    (repeat' (first | (with_reducible first | refine zqA (fun _ _ => ?_) | refine zqB ?_ | refine zqC ?_ | refine zqD ?_ | refine zqE ?_ | refine zqF ?_ | refine zqG ?_ | refine zqH ?_ | refine zqI ?_ | refine zqJ ?_ | refine zqK ?_ | refine zqL (by decide) ?_) | ((with_reducible first | refine zqM (fun _ _ => ?_) | refine zqN (fun _ _ => ?_)); simp only [go_sem, alist, adraw, seval]) | (with_reducible first | refine And.intro trivial ?_ | apply_assumption -exfalso -symm)))
    refine hK.go ⟨3, by omega⟩ (by simp) ?_
    · refine Weak.mk' [(0, 0), (1, 1)] rfl (fun id h => absurd h (Nat.not_lt_zero _)) (by decide) (by simp [bI]) ?_ fun p hp => ?_
      · simp only [bI, List.mem_cons, forall_eq_or_imp, List.not_mem_nil, false_imp_iff, implies_true, and_true, go_sem, alist, adraw, seval]
        exact ⟨⟨rfl, rfl⟩, ⟨rfl, rfl⟩, rfl, rfl, rfl⟩
      · simp only [bI] at hp
        rcases List.mem_cons.1 hp with rfl | hp
        · exact ⟨rfl, fun row hr => by rw [List.mem_singleton.1 hr]; rfl, rfl⟩
        · rw [List.mem_singleton.1 hp]
          exact ⟨rfl, fun row hr => by rw [List.mem_singleton.1 hr]; rfl, rfl⟩
  · simp only [bI, bw, Nat.reduceLeDiff, reduceIte, Nat.zero_add, Nat.reduceAdd]
    (repeat' (first | (with_reducible first | refine zqA (fun _ _ => ?_) | refine zqB ?_ | refine zqC ?_ | refine zqD ?_ | refine zqE ?_ | refine zqF ?_ | refine zqG ?_ | refine zqH ?_ | refine zqI ?_ | refine zqJ ?_ | refine zqK ?_ | refine zqL (by decide) ?_) | ((with_reducible first | refine zqM (fun _ _ => ?_) | refine zqN (fun _ _ => ?_)); simp only [go_sem, alist, adraw, seval]) | (with_reducible first | refine And.intro trivial ?_ | apply_assumption -exfalso -symm)))
    refine zqO (by simp only [go_sem, alist, adraw, seval] <;> rfl) (fun h => absurd h (by simp)) (fun _ => ?_)
    (repeat' (first | (with_reducible first | refine zqA (fun _ _ => ?_) | refine zqB ?_ | refine zqC ?_ | refine zqD ?_ | refine zqE ?_ | refine zqF ?_ | refine zqG ?_ | refine zqH ?_ | refine zqI ?_ | refine zqJ ?_ | refine zqK ?_ | refine zqL (by decide) ?_) | ((with_reducible first | refine zqM (fun _ _ => ?_) | refine zqN (fun _ _ => ?_)); simp only [go_sem, alist, adraw, seval]) | (with_reducible first | refine And.intro trivial ?_ | apply_assumption -exfalso -symm)))
    simp only [retQ, Tryd.f24]; refine ret_pure (by simp only [resAll, resA, go_sem, alist, adraw, seval]; rfl) rfl ?_ ?_ ?_ ?_
    · trivial
    · rfl
    · rfl
    · rfl
  · omega
end Am
end
section
namespace Am
open Go
attribute [local go_sem] true_implies false_implies List.take_length bne_self_eq_false beq_self_eq_true List.forall_mem_cons List.not_mem_nil false_imp_iff allOne_nil allOne_cons iv bv Value.oneCell' astep aexe asem AS.put AS.app AS.ev look eff effIf binE unE convE lenE loadE storeE fieldAddrE fieldE indexAddrE indexE sliceE low bound extractE pickE minE allocE boxE buildE buildSliceE makeSliceE appendE elsOf aliveB pairs fillA litEls partOf tdesc TI.isAgg KD.row AV.cells AV.one guardV Option.map_some Option.map_none Option.getD_some Option.bind_some Option.bind_none List.map_cons List.map_nil List.nil_append List.cons_append List.append_nil true_and and_true cond_true cond_false Nat.zero_add Nat.add_zero Nat.zero_mul Nat.mul_zero List.getElem?_cons_zero List.getElem?_cons_succ List.getElem?_nil List.getElem?_toArray List.length_cons List.length_nil List.size_toArray List.take_succ_cons List.take_zero List.drop_succ_cons List.drop_zero List.drop_nil List.take_nil List.set_cons_zero List.set_cons_succ Bool.not_true Bool.not_false List.flatMap_cons List.flatMap_nil idA false_and forall_eq implies_true Bool.false_eq_true imp_false not_true_eq_false not_false_eq_true goInt Int.toNat_natCast ne_eq Nat.le_refl and_self List.append_assoc AV.ren AV.ren2 AV.ren1 AV.ren0 updC List.zipIdx_cons List.zipIdx_nil rho Blk.ren frzT frzB frzA ti_2 ti_3 ti_4 ti_5 ti_9 ti_12 ti_13 ti_21 ti_22 ti_23 ti_24 ti_25 ti_26 ti_27 ti_28 ti_30 ti_35 ti_36 ti_37 ti_38 ti_43 ti_46 ti_47 ti_51 ti_52 ti_54 ti_55 ti_57 ti_58 ti_64 ti_65 ti_66 ti_67 ti_68 ti_69 ti_70 ti_71 ti_75 ti_76 ti_79 ti_80 ti_87 ti_88 ti_92 ti_112 ti_117 ti_118 ti_122 wA_len wA_0 wA_1 wA_g wA_69 wA_70 wA_71 wA_72 wA_s0 wA_s1 wA_s2 wA_whole wA_h0 wA_h1 wA_h2 wA_wg wA_t3 wA_w0 wA_w1 wA_w2 wA_w69 wA_w70 wA_w71 wA_w72 wA_one
set_option maxRecDepth 100000
theorem wA_all1 {a b c : List AV} (pa : plain a) (pb : plain b) (pc : plain c) (x y z : Int) (q : Bool) (G S Bn : List (List AV)) : (wA [iv x, iv y, .sl G] a b c [.sl S, .sl Bn, iv z, bv q]).all (·.ok1) = true := wA_ok pa pb pc x y z q G S Bn
theorem wA_ren1 {a b c : List AV} (pa : plain a) (pb : plain b) (pc : plain c) (x y z : Int) (q : Bool) (G S Bn : List (List AV)) (ρ : Nat → Nat) : (wA [iv x, iv y, .sl G] a b c [.sl S, .sl Bn, iv z, bv q]).map (·.ren1 ρ) = wA [iv x, iv y, .sl G] a b c [.sl S, .sl Bn, iv z, bv q] := by
  rw [wA_map pa pb pc (fun v => rfl)]; rfl
def jO (Wc : List AV) (late : Int) (i : Nat) : AS := { t := [(5, iv i), (2, .ptr 0 0 0), (1, iv late)], T := [(0, ⟨.live, false, 71, 73, [Wc]⟩)], N := 1, M := 0 }
def jN (Wc : List AV) (late : Int) (i n : Nat) : AS := { t := [(8, iv n), (5, iv i), (2, .ptr 0 0 0), (1, iv late)], T := [(0, ⟨.live, false, 71, 73, [Wc]⟩)], N := 1, M := 0 }
set_option maxHeartbeats 8000000 in
theorem safe_ec [Base] (la mo T late : Int) (G : List (List AV)) (a b c : List AV) (Sl : List (List AV)) (Bs : List Int) (dd : Nat → Int) (ha1 hb1 hc1 ua ub uc : Int)
    (ha : a.length = 22) (hb : b.length = 22) (hc : c.length = 22) (pa : plain a) (pb : plain b) (pc : plain c) (hB : Bs.length ≤ 60)
    (a1 : a[1]? = some (.v (.int .i64 ha1))) (b1 : b[1]? = some (.v (.int .i64 hb1))) (c1 : c[1]? = some (.v (.int .i64 hc1)))
    (a4 : a[4]? = some (.v (.int .i64 ua))) (b4 : b[4]? = some (.v (.int .i64 ub))) (c4 : c[4]? = some (.v (.int .i64 uc)))
    (hD : ∀ i, i < Bs.length → EC Tryd.prog 12 [] [.agg [iv la, iv mo, .sl G], iv (i + 1)] [] (.tup [iv (dd i), iv 0])) (hd : ∀ i, i < Bs.length → dd i ≤ Bs.getD i 0)
    (hl : 0 ≤ late ∧ late < 256) (hT : 0 ≤ T ∧ T ≤ 2000000) (hBs : ∀ i, i < Bs.length → 0 ≤ Bs.getD i 0 ∧ Bs.getD i 0 ≤ 2000000)
    (ma : ∀ i : Nat, i < Bs.length → ¬ (i : Int) < ha1 → ua ≤ Bs.getD i 0 ∧ EC Tryd.prog 29 [] [.agg a, .agg [iv (max 0 (max T (Bs.getD i 0) - late)), iv (max T (Bs.getD i 0))]] [] (bv false))
    (mb : ∀ i : Nat, i < Bs.length → ¬ (i : Int) < hb1 → ub ≤ Bs.getD i 0 ∧ EC Tryd.prog 29 [] [.agg b, .agg [iv (max 0 (max T (Bs.getD i 0) - late)), iv (max T (Bs.getD i 0))]] [] (bv false))
    (mc : ∀ i : Nat, i < Bs.length → ¬ (i : Int) < hc1 → uc ≤ Bs.getD i 0 ∧ EC Tryd.prog 29 [] [.agg c, .agg [iv (max 0 (max T (Bs.getD i 0) - late)), iv (max T (Bs.getD i 0))]] [] (bv false)) :
    EC Tryd.prog 26 [] [.agg (wA [iv la, iv mo, .sl G] a b c [.sl Sl, .sl (Bs.map fun x => [iv x]), iv T, bv false]), iv late] [] (bv true) := by
  have ya := pa.one
  have yb := pb.one
  have yc := pc.one
  have px := pa
  have hx := ha
  have yx := ya
  have tx : List.take 22 a = a := List.take_of_length_le (by omega)
  have tb : List.take 22 b = b := List.take_of_length_le (by omega)
  have tc : List.take 22 c = c := List.take_of_length_le (by omega)
  have ax := ha
  have w1 := ha
  have w2 := ha
  have w3 := ha
  have w4 := ha
  have w5 := ha
  have w6 := ha
  have w7 := ha
  have w8 := ha
  have w9 := ha
  have w10 := ha
  have hk := ha
  have hs := ha
  have tL : (Bs.map fun x => [iv x]).length = Bs.length := by simp
  refine EC_of_awp tiOk mixed Tryd.func26 rfl rfl (by kernel_rfl) (by simp [Tryd.f26]) ?_
  simp only [start, List.zipIdx_cons, List.zipIdx_nil, List.map_cons, List.map_nil, List.length_nil, List.length_cons, Nat.zero_add, Nat.reduceAdd]
  (repeat' (first | (with_reducible first | refine zqA (fun _ _ => ?_) | refine zqB ?_ | refine zqC ?_ | refine zqD ?_ | refine zqE ?_ | refine zqF ?_ | refine zqG ?_ | refine zqH ?_ | refine zqI ?_ | refine zqJ ?_ | refine zqK ?_ | refine zqL (by decide) ?_) | ((with_reducible first | refine zqM (fun _ _ => ?_) | refine zqN (fun _ _ => ?_)); simp only [go_sem, alist, adraw, seval, ha, hb, hc, ya, yb, yc, hx, yx, tx, ax, u8, w1, w2, w3, w4, w5, w6, w7, hk, w8, w9, w10, hs, a1, b1, c1, a4, b4, c4, tb, tc, tL]) | (with_reducible first | refine And.intro trivial ?_ | apply_assumption -exfalso -symm)))
  refine awp_loop_k (ι := {i : Nat // i ≤ Bs.length}) (fun i => jO (wA [iv la, iv mo, .sl G] a b c [.sl Sl, .sl (Bs.map fun x => [iv x]), iv T, bv false]) late i.1) (fun i => Bs.length - i.1) ⟨0, Nat.zero_le _⟩ ?_ fun ⟨i, hi⟩ K hK => ?_
  · refine Weak.mk' [(0, 0)] rfl (fun id h => absurd h (Nat.not_lt_zero _)) (by decide) (by simp [jO]) ?_ fun p hp => ?_
    · simp only [jO, List.mem_cons, forall_eq_or_imp, List.not_mem_nil, false_imp_iff, implies_true, and_true, go_sem, alist, adraw, seval]
      (repeat' apply And.intro) <;> rfl
    · simp only [jO] at hp
      rw [List.mem_singleton.1 hp]
      refine ⟨?_, fun row hr => by rw [List.mem_singleton.1 hr]; exact wA_all1 pa pb pc _ _ _ _ _ _ _, rfl⟩
      simp only [Blk.ren, List.map_cons, List.map_nil, wA_ren1 pa pb pc]
      rfl
  simp only [jO]
  (repeat' (first | (with_reducible first | refine zqA (fun _ _ => ?_) | refine zqB ?_ | refine zqC ?_ | refine zqD ?_ | refine zqE ?_ | refine zqF ?_ | refine zqG ?_ | refine zqH ?_ | refine zqI ?_ | refine zqJ ?_ | refine zqK ?_ | refine zqL (by decide) ?_) | ((with_reducible first | refine zqM (fun _ _ => ?_) | refine zqN (fun _ _ => ?_)); simp only [go_sem, alist, adraw, seval, ha, hb, hc, ya, yb, yc, hx, yx, tx, ax, u8, w1, w2, w3, w4, w5, w6, w7, hk, w8, w9, w10, hs, a1, b1, c1, a4, b4, c4, tb, tc, tL]) | (with_reducible first | refine And.intro trivial ?_ | apply_assumption -exfalso -symm)))
  refine zqO (by simp only [go_sem, alist, adraw, seval] <;> rfl) ?_ ?_
  · intro hlt
    have hlt : i < Bs.length := by simpa using hlt
    have w1 : IntKind.i64.wrap ((i : Int) + 1) = (i : Int) + 1 := wrap_ok (by omega) (by omega)
    have w2 : (Bs.map fun x => [AV.v (.int .i64 x)]).getD i [] = [AV.v (.int .i64 (Bs.getD i 0))] := by simp [List.getD_eq_getElem?_getD, hlt]
    have w3 : decide (Bs.getD i 0 < dd i) = false := decide_eq_false (by have := hd i hlt; omega)
    (repeat' (first | (with_reducible first | refine zqA (fun _ _ => ?_) | refine zqB ?_ | refine zqC ?_ | refine zqD ?_ | refine zqE ?_ | refine zqF ?_ | refine zqG ?_ | refine zqH ?_ | refine zqI ?_ | refine zqJ ?_ | refine zqK ?_ | refine zqL (by decide) ?_) | ((with_reducible first | refine zqM (fun _ _ => ?_) | refine zqN (fun _ _ => ?_)); simp only [go_sem, alist, adraw, seval, ha, hb, hc, ya, yb, yc, hx, yx, tx, ax, u8, w1, w2, w3, w4, w5, w6, w7, hk, w8, w9, w10, hs, a1, b1, c1, a4, b4, c4, tb, tc, tL]) | (with_reducible first | refine And.intro trivial ?_ | apply_assumption -exfalso -symm)))
    refine ⟨[], _, CallEff.pure0 (hD i hlt) (by first | rfl | (simp only [List.map_cons, List.map_nil, AV.ren2, plain.map1 pa, plain.map1 pb, plain.map1 pc, plain.map1 px] <;> rfl)) (by first | rfl | (simp only [List.all_cons, List.all_nil, AV.ok2, plain.all1 pa, plain.all1 pb, plain.all1 pc, plain.all1 px] <;> rfl)) (by first | rfl | (simp only [AV.ren, List.map_cons, List.map_nil, AV.ren2, plain.map1 pa, plain.map1 pb, plain.map1 pc, plain.map1 px] <;> rfl)), ?_⟩; simp only [go_sem, alist, adraw, seval, ha, hb, hc, ya, yb, yc, hx, yx, tx, ax, u8, w1, w2, w3, w4, w5, w6, w7, hk, w8, w9, w10, hs, a1, b1, c1, a4, b4, c4, tb, tc, tL]
    (repeat' (first | (with_reducible first | refine zqA (fun _ _ => ?_) | refine zqB ?_ | refine zqC ?_ | refine zqD ?_ | refine zqE ?_ | refine zqF ?_ | refine zqG ?_ | refine zqH ?_ | refine zqI ?_ | refine zqJ ?_ | refine zqK ?_ | refine zqL (by decide) ?_) | ((with_reducible first | refine zqM (fun _ _ => ?_) | refine zqN (fun _ _ => ?_)); simp only [go_sem, alist, adraw, seval, ha, hb, hc, ya, yb, yc, hx, yx, tx, ax, u8, w1, w2, w3, w4, w5, w6, w7, hk, w8, w9, w10, hs, a1, b1, c1, a4, b4, c4, tb, tc, tL]) | (with_reducible first | refine And.intro trivial ?_ | apply_assumption -exfalso -symm)))
    try refine ⟨by omega, ?_⟩
    (repeat' (first | (with_reducible first | refine zqA (fun _ _ => ?_) | refine zqB ?_ | refine zqC ?_ | refine zqD ?_ | refine zqE ?_ | refine zqF ?_ | refine zqG ?_ | refine zqH ?_ | refine zqI ?_ | refine zqJ ?_ | refine zqK ?_ | refine zqL (by decide) ?_) | ((with_reducible first | refine zqM (fun _ _ => ?_) | refine zqN (fun _ _ => ?_)); simp only [go_sem, alist, adraw, seval, ha, hb, hc, ya, yb, yc, hx, yx, tx, ax, u8, w1, w2, w3, w4, w5, w6, w7, hk, w8, w9, w10, hs, a1, b1, c1, a4, b4, c4, tb, tc, tL]) | (with_reducible first | refine And.intro trivial ?_ | apply_assumption -exfalso -symm)))
    refine zqO (by simp only [go_sem, alist, adraw, seval] <;> rfl) (fun h => absurd h (by simp)) (fun _ => ?_)
    (repeat' (first | (with_reducible first | refine zqA (fun _ _ => ?_) | refine zqB ?_ | refine zqC ?_ | refine zqD ?_ | refine zqE ?_ | refine zqF ?_ | refine zqG ?_ | refine zqH ?_ | refine zqI ?_ | refine zqJ ?_ | refine zqK ?_ | refine zqL (by decide) ?_) | ((with_reducible first | refine zqM (fun _ _ => ?_) | refine zqN (fun _ _ => ?_)); simp only [go_sem, alist, adraw, seval, ha, hb, hc, ya, yb, yc, hx, yx, tx, ax, u8, w1, w2, w3, w4, w5, w6, w7, hk, w8, w9, w10, hs, a1, b1, c1, a4, b4, c4, tb, tc, tL]) | (with_reducible first | refine And.intro trivial ?_ | apply_assumption -exfalso -symm)))
    refine awp_loop_k (ι := Fin 4) (fun n => jN (wA [iv la, iv mo, .sl G] a b c [.sl Sl, .sl (Bs.map fun x => [iv x]), iv T, bv false]) late i n.1) (fun n => 3 - n.1) 0 ?_ fun ⟨n, hn⟩ K2 hK2 => ?_
    · refine Weak.mk' [(0, 0)] rfl (fun id h => absurd h (Nat.not_lt_zero _)) (by decide) (by simp [jN]) ?_ fun p hp => ?_
      · simp only [jN, List.mem_cons, forall_eq_or_imp, List.not_mem_nil, false_imp_iff, implies_true, and_true, go_sem, alist, adraw, seval]
        (repeat' apply And.intro) <;> rfl
      · simp only [jN] at hp
        rw [List.mem_singleton.1 hp]
        refine ⟨?_, fun row hr => by rw [List.mem_singleton.1 hr]; exact wA_all1 pa pb pc _ _ _ _ _ _ _, rfl⟩
        simp only [Blk.ren, List.map_cons, List.map_nil, wA_ren1 pa pb pc]
        rfl
    obtain ⟨t, ht⟩ : ∃ t, max T (Bs.getD i 0) = t := ⟨_, rfl⟩
    have ht2 := hBs i hlt
    have w4 : (if Bs.getD i 0 > T then Bs.getD i 0 else T) = t := by rw [← ht]; split <;> omega
    have w5 : IntKind.i64.wrap (t - late) = t - late := wrap_ok (by omega) (by omega)
    have w6 : (if t - late > 0 then t - late else 0) = max 0 (t - late) := by split <;> omega
    rcases n with _ | _ | _ | _ | n
    · simp only [jN, Nat.zero_add, Nat.reduceAdd]
      (repeat' (first | (with_reducible first | refine zqA (fun _ _ => ?_) | refine zqB ?_ | refine zqC ?_ | refine zqD ?_ | refine zqE ?_ | refine zqF ?_ | refine zqG ?_ | refine zqH ?_ | refine zqI ?_ | refine zqJ ?_ | refine zqK ?_ | refine zqL (by decide) ?_) | ((with_reducible first | refine zqM (fun _ _ => ?_) | refine zqN (fun _ _ => ?_)); simp only [go_sem, alist, adraw, seval, ha, hb, hc, ya, yb, yc, hx, yx, tx, ax, u8, w1, w2, w3, w4, w5, w6, w7, hk, w8, w9, w10, hs, a1, b1, c1, a4, b4, c4, tb, tc, tL]) | (with_reducible first | refine And.intro trivial ?_ | apply_assumption -exfalso -symm)))
      refine zqO (by simp only [go_sem, alist, adraw, seval] <;> rfl) (fun _ => ?_) (fun h => absurd h (by simp))
      (repeat' (first | (with_reducible first | refine zqA (fun _ _ => ?_) | refine zqB ?_ | refine zqC ?_ | refine zqD ?_ | refine zqE ?_ | refine zqF ?_ | refine zqG ?_ | refine zqH ?_ | refine zqI ?_ | refine zqJ ?_ | refine zqK ?_ | refine zqL (by decide) ?_) | ((with_reducible first | refine zqM (fun _ _ => ?_) | refine zqN (fun _ _ => ?_)); simp only [go_sem, alist, adraw, seval, ha, hb, hc, ya, yb, yc, hx, yx, tx, ax, u8, w1, w2, w3, w4, w5, w6, w7, hk, w8, w9, w10, hs, a1, b1, c1, a4, b4, c4, tb, tc, tL]) | (with_reducible first | refine And.intro trivial ?_ | apply_assumption -exfalso -symm)))
      try refine ⟨by omega, ?_⟩
      (repeat' (first | (with_reducible first | refine zqA (fun _ _ => ?_) | refine zqB ?_ | refine zqC ?_ | refine zqD ?_ | refine zqE ?_ | refine zqF ?_ | refine zqG ?_ | refine zqH ?_ | refine zqI ?_ | refine zqJ ?_ | refine zqK ?_ | refine zqL (by decide) ?_) | ((with_reducible first | refine zqM (fun _ _ => ?_) | refine zqN (fun _ _ => ?_)); simp only [go_sem, alist, adraw, seval, ha, hb, hc, ya, yb, yc, hx, yx, tx, ax, u8, w1, w2, w3, w4, w5, w6, w7, hk, w8, w9, w10, hs, a1, b1, c1, a4, b4, c4, tb, tc, tL]) | (with_reducible first | refine And.intro trivial ?_ | apply_assumption -exfalso -symm)))
      refine zqO (by simp only [go_sem, alist, adraw, seval] <;> rfl) ?_ ?_
      · intro hh
        (repeat' (first | (with_reducible first | refine zqA (fun _ _ => ?_) | refine zqB ?_ | refine zqC ?_ | refine zqD ?_ | refine zqE ?_ | refine zqF ?_ | refine zqG ?_ | refine zqH ?_ | refine zqI ?_ | refine zqJ ?_ | refine zqK ?_ | refine zqL (by decide) ?_) | ((with_reducible first | refine zqM (fun _ _ => ?_) | refine zqN (fun _ _ => ?_)); simp only [go_sem, alist, adraw, seval, ha, hb, hc, ya, yb, yc, hx, yx, tx, ax, u8, w1, w2, w3, w4, w5, w6, w7, hk, w8, w9, w10, hs, a1, b1, c1, a4, b4, c4, tb, tc, tL]) | (with_reducible first | refine And.intro trivial ?_ | apply_assumption -exfalso -symm)))
        refine hK2.go ⟨1, by omega⟩ (by simp) ?_
        refine Weak.mk' [(0, 0)] rfl (fun id h => absurd h (Nat.not_lt_zero _)) (by decide) (by simp [jN]) ?_ fun p hp => ?_
        · simp only [jN, List.mem_cons, forall_eq_or_imp, List.not_mem_nil, false_imp_iff, implies_true, and_true, go_sem, alist, adraw, seval]
          (repeat' apply And.intro) <;> rfl
        · simp only [jN] at hp
          rw [List.mem_singleton.1 hp]
          refine ⟨?_, fun row hr => by rw [List.mem_singleton.1 hr]; exact wA_all1 pa pb pc _ _ _ _ _ _ _, rfl⟩
          simp only [Blk.ren, List.map_cons, List.map_nil, wA_ren1 pa pb pc]
          rfl
      · intro hh
        obtain ⟨u1, u2⟩ := ma i hlt (by simpa using hh)
        rw [ht] at u2
        have w7 : decide (Bs.getD i 0 < ua) = false := decide_eq_false (by omega)
        (repeat' (first | (with_reducible first | refine zqA (fun _ _ => ?_) | refine zqB ?_ | refine zqC ?_ | refine zqD ?_ | refine zqE ?_ | refine zqF ?_ | refine zqG ?_ | refine zqH ?_ | refine zqI ?_ | refine zqJ ?_ | refine zqK ?_ | refine zqL (by decide) ?_) | ((with_reducible first | refine zqM (fun _ _ => ?_) | refine zqN (fun _ _ => ?_)); simp only [go_sem, alist, adraw, seval, ha, hb, hc, ya, yb, yc, hx, yx, tx, ax, u8, w1, w2, w3, w4, w5, w6, w7, hk, w8, w9, w10, hs, a1, b1, c1, a4, b4, c4, tb, tc, tL]) | (with_reducible first | refine And.intro trivial ?_ | apply_assumption -exfalso -symm)))
        refine ⟨by omega, rfl, ?_⟩
        (repeat' (first | (with_reducible first | refine zqA (fun _ _ => ?_) | refine zqB ?_ | refine zqC ?_ | refine zqD ?_ | refine zqE ?_ | refine zqF ?_ | refine zqG ?_ | refine zqH ?_ | refine zqI ?_ | refine zqJ ?_ | refine zqK ?_ | refine zqL (by decide) ?_) | ((with_reducible first | refine zqM (fun _ _ => ?_) | refine zqN (fun _ _ => ?_)); simp only [go_sem, alist, adraw, seval, ha, hb, hc, ya, yb, yc, hx, yx, tx, ax, u8, w1, w2, w3, w4, w5, w6, w7, hk, w8, w9, w10, hs, a1, b1, c1, a4, b4, c4, tb, tc, tL]) | (with_reducible first | refine And.intro trivial ?_ | apply_assumption -exfalso -symm)))
        try refine ⟨by omega, ?_⟩
        refine ⟨[], _, CallEff.pure0 (u2) (by first | rfl | (simp only [List.map_cons, List.map_nil, AV.ren2, plain.map1 pa, plain.map1 pb, plain.map1 pc, plain.map1 px] <;> rfl)) (by first | rfl | (simp only [List.all_cons, List.all_nil, AV.ok2, plain.all1 pa, plain.all1 pb, plain.all1 pc, plain.all1 px] <;> rfl)) (by first | rfl | (simp only [AV.ren, List.map_cons, List.map_nil, AV.ren2, plain.map1 pa, plain.map1 pb, plain.map1 pc, plain.map1 px] <;> rfl)), ?_⟩; simp only [go_sem, alist, adraw, seval, ha, hb, hc, ya, yb, yc, hx, yx, tx, ax, u8, w1, w2, w3, w4, w5, w6, w7, hk, w8, w9, w10, hs, a1, b1, c1, a4, b4, c4, tb, tc, tL]
        refine ⟨rfl, ?_⟩
        (repeat' (first | (with_reducible first | refine zqA (fun _ _ => ?_) | refine zqB ?_ | refine zqC ?_ | refine zqD ?_ | refine zqE ?_ | refine zqF ?_ | refine zqG ?_ | refine zqH ?_ | refine zqI ?_ | refine zqJ ?_ | refine zqK ?_ | refine zqL (by decide) ?_) | ((with_reducible first | refine zqM (fun _ _ => ?_) | refine zqN (fun _ _ => ?_)); simp only [go_sem, alist, adraw, seval, ha, hb, hc, ya, yb, yc, hx, yx, tx, ax, u8, w1, w2, w3, w4, w5, w6, w7, hk, w8, w9, w10, hs, a1, b1, c1, a4, b4, c4, tb, tc, tL]) | (with_reducible first | refine And.intro trivial ?_ | apply_assumption -exfalso -symm)))
        refine zqO (by simp only [go_sem, alist, adraw, seval] <;> rfl) (fun h => absurd h (by simp)) (fun _ => ?_)
        (repeat' (first | (with_reducible first | refine zqA (fun _ _ => ?_) | refine zqB ?_ | refine zqC ?_ | refine zqD ?_ | refine zqE ?_ | refine zqF ?_ | refine zqG ?_ | refine zqH ?_ | refine zqI ?_ | refine zqJ ?_ | refine zqK ?_ | refine zqL (by decide) ?_) | ((with_reducible first | refine zqM (fun _ _ => ?_) | refine zqN (fun _ _ => ?_)); simp only [go_sem, alist, adraw, seval, ha, hb, hc, ya, yb, yc, hx, yx, tx, ax, u8, w1, w2, w3, w4, w5, w6, w7, hk, w8, w9, w10, hs, a1, b1, c1, a4, b4, c4, tb, tc, tL]) | (with_reducible first | refine And.intro trivial ?_ | apply_assumption -exfalso -symm)))
        refine hK2.go ⟨1, by omega⟩ (by simp) ?_
        refine Weak.mk' [(0, 0)] rfl (fun id h => absurd h (Nat.not_lt_zero _)) (by decide) (by simp [jN]) ?_ fun p hp => ?_
        · simp only [jN, List.mem_cons, forall_eq_or_imp, List.not_mem_nil, false_imp_iff, implies_true, and_true, go_sem, alist, adraw, seval]
          (repeat' apply And.intro) <;> rfl
        · simp only [jN] at hp
          rw [List.mem_singleton.1 hp]
          refine ⟨?_, fun row hr => by rw [List.mem_singleton.1 hr]; exact wA_all1 pa pb pc _ _ _ _ _ _ _, rfl⟩
          simp only [Blk.ren, List.map_cons, List.map_nil, wA_ren1 pa pb pc]
          rfl
    · simp only [jN, Nat.zero_add, Nat.reduceAdd]
      (repeat' (first | (with_reducible first | refine zqA (fun _ _ => ?_) | refine zqB ?_ | refine zqC ?_ | refine zqD ?_ | refine zqE ?_ | refine zqF ?_ | refine zqG ?_ | refine zqH ?_ | refine zqI ?_ | refine zqJ ?_ | refine zqK ?_ | refine zqL (by decide) ?_) | ((with_reducible first | refine zqM (fun _ _ => ?_) | refine zqN (fun _ _ => ?_)); simp only [go_sem, alist, adraw, seval, ha, hb, hc, ya, yb, yc, hx, yx, tx, ax, u8, w1, w2, w3, w4, w5, w6, w7, hk, w8, w9, w10, hs, a1, b1, c1, a4, b4, c4, tb, tc, tL]) | (with_reducible first | refine And.intro trivial ?_ | apply_assumption -exfalso -symm)))
      refine zqO (by simp only [go_sem, alist, adraw, seval] <;> rfl) (fun _ => ?_) (fun h => absurd h (by simp))
      (repeat' (first | (with_reducible first | refine zqA (fun _ _ => ?_) | refine zqB ?_ | refine zqC ?_ | refine zqD ?_ | refine zqE ?_ | refine zqF ?_ | refine zqG ?_ | refine zqH ?_ | refine zqI ?_ | refine zqJ ?_ | refine zqK ?_ | refine zqL (by decide) ?_) | ((with_reducible first | refine zqM (fun _ _ => ?_) | refine zqN (fun _ _ => ?_)); simp only [go_sem, alist, adraw, seval, ha, hb, hc, ya, yb, yc, hx, yx, tx, ax, u8, w1, w2, w3, w4, w5, w6, w7, hk, w8, w9, w10, hs, a1, b1, c1, a4, b4, c4, tb, tc, tL]) | (with_reducible first | refine And.intro trivial ?_ | apply_assumption -exfalso -symm)))
      try refine ⟨by omega, ?_⟩
      (repeat' (first | (with_reducible first | refine zqA (fun _ _ => ?_) | refine zqB ?_ | refine zqC ?_ | refine zqD ?_ | refine zqE ?_ | refine zqF ?_ | refine zqG ?_ | refine zqH ?_ | refine zqI ?_ | refine zqJ ?_ | refine zqK ?_ | refine zqL (by decide) ?_) | ((with_reducible first | refine zqM (fun _ _ => ?_) | refine zqN (fun _ _ => ?_)); simp only [go_sem, alist, adraw, seval, ha, hb, hc, ya, yb, yc, hx, yx, tx, ax, u8, w1, w2, w3, w4, w5, w6, w7, hk, w8, w9, w10, hs, a1, b1, c1, a4, b4, c4, tb, tc, tL]) | (with_reducible first | refine And.intro trivial ?_ | apply_assumption -exfalso -symm)))
      refine zqO (by simp only [go_sem, alist, adraw, seval] <;> rfl) ?_ ?_
      · intro hh
        (repeat' (first | (with_reducible first | refine zqA (fun _ _ => ?_) | refine zqB ?_ | refine zqC ?_ | refine zqD ?_ | refine zqE ?_ | refine zqF ?_ | refine zqG ?_ | refine zqH ?_ | refine zqI ?_ | refine zqJ ?_ | refine zqK ?_ | refine zqL (by decide) ?_) | ((with_reducible first | refine zqM (fun _ _ => ?_) | refine zqN (fun _ _ => ?_)); simp only [go_sem, alist, adraw, seval, ha, hb, hc, ya, yb, yc, hx, yx, tx, ax, u8, w1, w2, w3, w4, w5, w6, w7, hk, w8, w9, w10, hs, a1, b1, c1, a4, b4, c4, tb, tc, tL]) | (with_reducible first | refine And.intro trivial ?_ | apply_assumption -exfalso -symm)))
        refine hK2.go ⟨2, by omega⟩ (by simp) ?_
        refine Weak.mk' [(0, 0)] rfl (fun id h => absurd h (Nat.not_lt_zero _)) (by decide) (by simp [jN]) ?_ fun p hp => ?_
        · simp only [jN, List.mem_cons, forall_eq_or_imp, List.not_mem_nil, false_imp_iff, implies_true, and_true, go_sem, alist, adraw, seval]
          (repeat' apply And.intro) <;> rfl
        · simp only [jN] at hp
          rw [List.mem_singleton.1 hp]
          refine ⟨?_, fun row hr => by rw [List.mem_singleton.1 hr]; exact wA_all1 pa pb pc _ _ _ _ _ _ _, rfl⟩
          simp only [Blk.ren, List.map_cons, List.map_nil, wA_ren1 pa pb pc]
          rfl
      · intro hh
        obtain ⟨u1, u2⟩ := mb i hlt (by simpa using hh)
        rw [ht] at u2
        have w7 : decide (Bs.getD i 0 < ub) = false := decide_eq_false (by omega)
        (repeat' (first | (with_reducible first | refine zqA (fun _ _ => ?_) | refine zqB ?_ | refine zqC ?_ | refine zqD ?_ | refine zqE ?_ | refine zqF ?_ | refine zqG ?_ | refine zqH ?_ | refine zqI ?_ | refine zqJ ?_ | refine zqK ?_ | refine zqL (by decide) ?_) | ((with_reducible first | refine zqM (fun _ _ => ?_) | refine zqN (fun _ _ => ?_)); simp only [go_sem, alist, adraw, seval, ha, hb, hc, ya, yb, yc, hx, yx, tx, ax, u8, w1, w2, w3, w4, w5, w6, w7, hk, w8, w9, w10, hs, a1, b1, c1, a4, b4, c4, tb, tc, tL]) | (with_reducible first | refine And.intro trivial ?_ | apply_assumption -exfalso -symm)))
        refine ⟨by omega, rfl, ?_⟩
        (repeat' (first | (with_reducible first | refine zqA (fun _ _ => ?_) | refine zqB ?_ | refine zqC ?_ | refine zqD ?_ | refine zqE ?_ | refine zqF ?_ | refine zqG ?_ | refine zqH ?_ | refine zqI ?_ | refine zqJ ?_ | refine zqK ?_ | refine zqL (by decide) ?_) | ((with_reducible first | refine zqM (fun _ _ => ?_) | refine zqN (fun _ _ => ?_)); simp only [go_sem, alist, adraw, seval, ha, hb, hc, ya, yb, yc, hx, yx, tx, ax, u8, w1, w2, w3, w4, w5, w6, w7, hk, w8, w9, w10, hs, a1, b1, c1, a4, b4, c4, tb, tc, tL]) | (with_reducible first | refine And.intro trivial ?_ | apply_assumption -exfalso -symm)))
        try refine ⟨by omega, ?_⟩
        refine ⟨[], _, CallEff.pure0 (u2) (by first | rfl | (simp only [List.map_cons, List.map_nil, AV.ren2, plain.map1 pa, plain.map1 pb, plain.map1 pc, plain.map1 px] <;> rfl)) (by first | rfl | (simp only [List.all_cons, List.all_nil, AV.ok2, plain.all1 pa, plain.all1 pb, plain.all1 pc, plain.all1 px] <;> rfl)) (by first | rfl | (simp only [AV.ren, List.map_cons, List.map_nil, AV.ren2, plain.map1 pa, plain.map1 pb, plain.map1 pc, plain.map1 px] <;> rfl)), ?_⟩; simp only [go_sem, alist, adraw, seval, ha, hb, hc, ya, yb, yc, hx, yx, tx, ax, u8, w1, w2, w3, w4, w5, w6, w7, hk, w8, w9, w10, hs, a1, b1, c1, a4, b4, c4, tb, tc, tL]
        refine ⟨rfl, ?_⟩
        (repeat' (first | (with_reducible first | refine zqA (fun _ _ => ?_) | refine zqB ?_ | refine zqC ?_ | refine zqD ?_ | refine zqE ?_ | refine zqF ?_ | refine zqG ?_ | refine zqH ?_ | refine zqI ?_ | refine zqJ ?_ | refine zqK ?_ | refine zqL (by decide) ?_) | ((with_reducible first | refine zqM (fun _ _ => ?_) | refine zqN (fun _ _ => ?_)); simp only [go_sem, alist, adraw, seval, ha, hb, hc, ya, yb, yc, hx, yx, tx, ax, u8, w1, w2, w3, w4, w5, w6, w7, hk, w8, w9, w10, hs, a1, b1, c1, a4, b4, c4, tb, tc, tL]) | (with_reducible first | refine And.intro trivial ?_ | apply_assumption -exfalso -symm)))
        refine zqO (by simp only [go_sem, alist, adraw, seval] <;> rfl) (fun h => absurd h (by simp)) (fun _ => ?_)
        (repeat' (first | (with_reducible first | refine zqA (fun _ _ => ?_) | refine zqB ?_ | refine zqC ?_ | refine zqD ?_ | refine zqE ?_ | refine zqF ?_ | refine zqG ?_ | refine zqH ?_ | refine zqI ?_ | refine zqJ ?_ | refine zqK ?_ | refine zqL (by decide) ?_) | ((with_reducible first | refine zqM (fun _ _ => ?_) | refine zqN (fun _ _ => ?_)); simp only [go_sem, alist, adraw, seval, ha, hb, hc, ya, yb, yc, hx, yx, tx, ax, u8, w1, w2, w3, w4, w5, w6, w7, hk, w8, w9, w10, hs, a1, b1, c1, a4, b4, c4, tb, tc, tL]) | (with_reducible first | refine And.intro trivial ?_ | apply_assumption -exfalso -symm)))
        refine hK2.go ⟨2, by omega⟩ (by simp) ?_
        refine Weak.mk' [(0, 0)] rfl (fun id h => absurd h (Nat.not_lt_zero _)) (by decide) (by simp [jN]) ?_ fun p hp => ?_
        · simp only [jN, List.mem_cons, forall_eq_or_imp, List.not_mem_nil, false_imp_iff, implies_true, and_true, go_sem, alist, adraw, seval]
          (repeat' apply And.intro) <;> rfl
        · simp only [jN] at hp
          rw [List.mem_singleton.1 hp]
          refine ⟨?_, fun row hr => by rw [List.mem_singleton.1 hr]; exact wA_all1 pa pb pc _ _ _ _ _ _ _, rfl⟩
          simp only [Blk.ren, List.map_cons, List.map_nil, wA_ren1 pa pb pc]
          rfl
    · simp only [jN, Nat.zero_add, Nat.reduceAdd]
      (repeat' (first | (with_reducible first | refine zqA (fun _ _ => ?_) | refine zqB ?_ | refine zqC ?_ | refine zqD ?_ | refine zqE ?_ | refine zqF ?_ | refine zqG ?_ | refine zqH ?_ | refine zqI ?_ | refine zqJ ?_ | refine zqK ?_ | refine zqL (by decide) ?_) | ((with_reducible first | refine zqM (fun _ _ => ?_) | refine zqN (fun _ _ => ?_)); simp only [go_sem, alist, adraw, seval, ha, hb, hc, ya, yb, yc, hx, yx, tx, ax, u8, w1, w2, w3, w4, w5, w6, w7, hk, w8, w9, w10, hs, a1, b1, c1, a4, b4, c4, tb, tc, tL]) | (with_reducible first | refine And.intro trivial ?_ | apply_assumption -exfalso -symm)))
      refine zqO (by simp only [go_sem, alist, adraw, seval] <;> rfl) (fun _ => ?_) (fun h => absurd h (by simp))
      (repeat' (first | (with_reducible first | refine zqA (fun _ _ => ?_) | refine zqB ?_ | refine zqC ?_ | refine zqD ?_ | refine zqE ?_ | refine zqF ?_ | refine zqG ?_ | refine zqH ?_ | refine zqI ?_ | refine zqJ ?_ | refine zqK ?_ | refine zqL (by decide) ?_) | ((with_reducible first | refine zqM (fun _ _ => ?_) | refine zqN (fun _ _ => ?_)); simp only [go_sem, alist, adraw, seval, ha, hb, hc, ya, yb, yc, hx, yx, tx, ax, u8, w1, w2, w3, w4, w5, w6, w7, hk, w8, w9, w10, hs, a1, b1, c1, a4, b4, c4, tb, tc, tL]) | (with_reducible first | refine And.intro trivial ?_ | apply_assumption -exfalso -symm)))
      try refine ⟨by omega, ?_⟩
      (repeat' (first | (with_reducible first | refine zqA (fun _ _ => ?_) | refine zqB ?_ | refine zqC ?_ | refine zqD ?_ | refine zqE ?_ | refine zqF ?_ | refine zqG ?_ | refine zqH ?_ | refine zqI ?_ | refine zqJ ?_ | refine zqK ?_ | refine zqL (by decide) ?_) | ((with_reducible first | refine zqM (fun _ _ => ?_) | refine zqN (fun _ _ => ?_)); simp only [go_sem, alist, adraw, seval, ha, hb, hc, ya, yb, yc, hx, yx, tx, ax, u8, w1, w2, w3, w4, w5, w6, w7, hk, w8, w9, w10, hs, a1, b1, c1, a4, b4, c4, tb, tc, tL]) | (with_reducible first | refine And.intro trivial ?_ | apply_assumption -exfalso -symm)))
      refine zqO (by simp only [go_sem, alist, adraw, seval] <;> rfl) ?_ ?_
      · intro hh
        (repeat' (first | (with_reducible first | refine zqA (fun _ _ => ?_) | refine zqB ?_ | refine zqC ?_ | refine zqD ?_ | refine zqE ?_ | refine zqF ?_ | refine zqG ?_ | refine zqH ?_ | refine zqI ?_ | refine zqJ ?_ | refine zqK ?_ | refine zqL (by decide) ?_) | ((with_reducible first | refine zqM (fun _ _ => ?_) | refine zqN (fun _ _ => ?_)); simp only [go_sem, alist, adraw, seval, ha, hb, hc, ya, yb, yc, hx, yx, tx, ax, u8, w1, w2, w3, w4, w5, w6, w7, hk, w8, w9, w10, hs, a1, b1, c1, a4, b4, c4, tb, tc, tL]) | (with_reducible first | refine And.intro trivial ?_ | apply_assumption -exfalso -symm)))
        refine hK2.go ⟨3, by omega⟩ (by simp) ?_
        refine Weak.mk' [(0, 0)] rfl (fun id h => absurd h (Nat.not_lt_zero _)) (by decide) (by simp [jN]) ?_ fun p hp => ?_
        · simp only [jN, List.mem_cons, forall_eq_or_imp, List.not_mem_nil, false_imp_iff, implies_true, and_true, go_sem, alist, adraw, seval]
          (repeat' apply And.intro) <;> rfl
        · simp only [jN] at hp
          rw [List.mem_singleton.1 hp]
          refine ⟨?_, fun row hr => by rw [List.mem_singleton.1 hr]; exact wA_all1 pa pb pc _ _ _ _ _ _ _, rfl⟩
          simp only [Blk.ren, List.map_cons, List.map_nil, wA_ren1 pa pb pc]
          rfl
      · intro hh
        obtain ⟨u1, u2⟩ := mc i hlt (by simpa using hh)
        rw [ht] at u2
        have w7 : decide (Bs.getD i 0 < uc) = false := decide_eq_false (by omega)
        (repeat' (first | (with_reducible first | refine zqA (fun _ _ => ?_) | refine zqB ?_ | refine zqC ?_ | refine zqD ?_ | refine zqE ?_ | refine zqF ?_ | refine zqG ?_ | refine zqH ?_ | refine zqI ?_ | refine zqJ ?_ | refine zqK ?_ | refine zqL (by decide) ?_) | ((with_reducible first | refine zqM (fun _ _ => ?_) | refine zqN (fun _ _ => ?_)); simp only [go_sem, alist, adraw, seval, ha, hb, hc, ya, yb, yc, hx, yx, tx, ax, u8, w1, w2, w3, w4, w5, w6, w7, hk, w8, w9, w10, hs, a1, b1, c1, a4, b4, c4, tb, tc, tL]) | (with_reducible first | refine And.intro trivial ?_ | apply_assumption -exfalso -symm)))
        refine ⟨by omega, rfl, ?_⟩
        (repeat' (first | (with_reducible first | refine zqA (fun _ _ => ?_) | refine zqB ?_ | refine zqC ?_ | refine zqD ?_ | refine zqE ?_ | refine zqF ?_ | refine zqG ?_ | refine zqH ?_ | refine zqI ?_ | refine zqJ ?_ | refine zqK ?_ | refine zqL (by decide) ?_) | ((with_reducible first | refine zqM (fun _ _ => ?_) | refine zqN (fun _ _ => ?_)); simp only [go_sem, alist, adraw, seval, ha, hb, hc, ya, yb, yc, hx, yx, tx, ax, u8, w1, w2, w3, w4, w5, w6, w7, hk, w8, w9, w10, hs, a1, b1, c1, a4, b4, c4, tb, tc, tL]) | (with_reducible first | refine And.intro trivial ?_ | apply_assumption -exfalso -symm)))
        try refine ⟨by omega, ?_⟩
        refine ⟨[], _, CallEff.pure0 (u2) (by first | rfl | (simp only [List.map_cons, List.map_nil, AV.ren2, plain.map1 pa, plain.map1 pb, plain.map1 pc, plain.map1 px] <;> rfl)) (by first | rfl | (simp only [List.all_cons, List.all_nil, AV.ok2, plain.all1 pa, plain.all1 pb, plain.all1 pc, plain.all1 px] <;> rfl)) (by first | rfl | (simp only [AV.ren, List.map_cons, List.map_nil, AV.ren2, plain.map1 pa, plain.map1 pb, plain.map1 pc, plain.map1 px] <;> rfl)), ?_⟩; simp only [go_sem, alist, adraw, seval, ha, hb, hc, ya, yb, yc, hx, yx, tx, ax, u8, w1, w2, w3, w4, w5, w6, w7, hk, w8, w9, w10, hs, a1, b1, c1, a4, b4, c4, tb, tc, tL]
        refine ⟨rfl, ?_⟩
        (repeat' (first | (with_reducible first | refine zqA (fun _ _ => ?_) | refine zqB ?_ | refine zqC ?_ | refine zqD ?_ | refine zqE ?_ | refine zqF ?_ | refine zqG ?_ | refine zqH ?_ | refine zqI ?_ | refine zqJ ?_ | refine zqK ?_ | refine zqL (by decide) ?_) | ((with_reducible first | refine zqM (fun _ _ => ?_) | refine zqN (fun _ _ => ?_)); simp only [go_sem, alist, adraw, seval, ha, hb, hc, ya, yb, yc, hx, yx, tx, ax, u8, w1, w2, w3, w4, w5, w6, w7, hk, w8, w9, w10, hs, a1, b1, c1, a4, b4, c4, tb, tc, tL]) | (with_reducible first | refine And.intro trivial ?_ | apply_assumption -exfalso -symm)))
        refine zqO (by simp only [go_sem, alist, adraw, seval] <;> rfl) (fun h => absurd h (by simp)) (fun _ => ?_)
        (repeat' (first | (with_reducible first | refine zqA (fun _ _ => ?_) | refine zqB ?_ | refine zqC ?_ | refine zqD ?_ | refine zqE ?_ | refine zqF ?_ | refine zqG ?_ | refine zqH ?_ | refine zqI ?_ | refine zqJ ?_ | refine zqK ?_ | refine zqL (by decide) ?_) | ((with_reducible first | refine zqM (fun _ _ => ?_) | refine zqN (fun _ _ => ?_)); simp only [go_sem, alist, adraw, seval, ha, hb, hc, ya, yb, yc, hx, yx, tx, ax, u8, w1, w2, w3, w4, w5, w6, w7, hk, w8, w9, w10, hs, a1, b1, c1, a4, b4, c4, tb, tc, tL]) | (with_reducible first | refine And.intro trivial ?_ | apply_assumption -exfalso -symm)))
        refine hK2.go ⟨3, by omega⟩ (by simp) ?_
        refine Weak.mk' [(0, 0)] rfl (fun id h => absurd h (Nat.not_lt_zero _)) (by decide) (by simp [jN]) ?_ fun p hp => ?_
        · simp only [jN, List.mem_cons, forall_eq_or_imp, List.not_mem_nil, false_imp_iff, implies_true, and_true, go_sem, alist, adraw, seval]
          (repeat' apply And.intro) <;> rfl
        · simp only [jN] at hp
          rw [List.mem_singleton.1 hp]
          refine ⟨?_, fun row hr => by rw [List.mem_singleton.1 hr]; exact wA_all1 pa pb pc _ _ _ _ _ _ _, rfl⟩
          simp only [Blk.ren, List.map_cons, List.map_nil, wA_ren1 pa pb pc]
          rfl
    · simp only [jN, Nat.zero_add, Nat.reduceAdd]
      (repeat' (first | (with_reducible first | refine zqA (fun _ _ => ?_) | refine zqB ?_ | refine zqC ?_ | refine zqD ?_ | refine zqE ?_ | refine zqF ?_ | refine zqG ?_ | refine zqH ?_ | refine zqI ?_ | refine zqJ ?_ | refine zqK ?_ | refine zqL (by decide) ?_) | ((with_reducible first | refine zqM (fun _ _ => ?_) | refine zqN (fun _ _ => ?_)); simp only [go_sem, alist, adraw, seval, ha, hb, hc, ya, yb, yc, hx, yx, tx, ax, u8, w1, w2, w3, w4, w5, w6, w7, hk, w8, w9, w10, hs, a1, b1, c1, a4, b4, c4, tb, tc, tL]) | (with_reducible first | refine And.intro trivial ?_ | apply_assumption -exfalso -symm)))
      refine zqO (by simp only [go_sem, alist, adraw, seval] <;> rfl) (fun h => absurd h (by simp)) (fun _ => ?_)
      (repeat' (first | (with_reducible first | refine zqA (fun _ _ => ?_) | refine zqB ?_ | refine zqC ?_ | refine zqD ?_ | refine zqE ?_ | refine zqF ?_ | refine zqG ?_ | refine zqH ?_ | refine zqI ?_ | refine zqJ ?_ | refine zqK ?_ | refine zqL (by decide) ?_) | ((with_reducible first | refine zqM (fun _ _ => ?_) | refine zqN (fun _ _ => ?_)); simp only [go_sem, alist, adraw, seval, ha, hb, hc, ya, yb, yc, hx, yx, tx, ax, u8, w1, w2, w3, w4, w5, w6, w7, hk, w8, w9, w10, hs, a1, b1, c1, a4, b4, c4, tb, tc, tL]) | (with_reducible first | refine And.intro trivial ?_ | apply_assumption -exfalso -symm)))
      refine hK.go ⟨i + 1, by omega⟩ (by simp; omega) ?_
      refine Weak.mk' [(0, 0)] rfl (fun id h => absurd h (Nat.not_lt_zero _)) (by decide) (by simp [jO]) ?_ fun p hp => ?_
      · simp only [jO, List.mem_cons, forall_eq_or_imp, List.not_mem_nil, false_imp_iff, implies_true, and_true, go_sem, alist, adraw, seval]
        (repeat' apply And.intro) <;> rfl
      · simp only [jO] at hp
        rw [List.mem_singleton.1 hp]
        refine ⟨?_, fun row hr => by rw [List.mem_singleton.1 hr]; exact wA_all1 pa pb pc _ _ _ _ _ _ _, rfl⟩
        simp only [Blk.ren, List.map_cons, List.map_nil, wA_ren1 pa pb pc]
        rfl
    · omega
  · intro hlt
    (repeat' (first | (with_reducible first | refine zqA (fun _ _ => ?_) | refine zqB ?_ | refine zqC ?_ | refine zqD ?_ | refine zqE ?_ | refine zqF ?_ | refine zqG ?_ | refine zqH ?_ | refine zqI ?_ | refine zqJ ?_ | refine zqK ?_ | refine zqL (by decide) ?_) | ((with_reducible first | refine zqM (fun _ _ => ?_) | refine zqN (fun _ _ => ?_)); simp only [go_sem, alist, adraw, seval, ha, hb, hc, ya, yb, yc, hx, yx, tx, ax, u8, w1, w2, w3, w4, w5, w6, w7, hk, w8, w9, w10, hs, a1, b1, c1, a4, b4, c4, tb, tc, tL]) | (with_reducible first | refine And.intro trivial ?_ | apply_assumption -exfalso -symm)))
    simp only [retQ, Tryd.f26]; refine ret_pure (by simp only [resAll, resA, go_sem, alist, adraw, seval, ha, hb, hc, ya, yb, yc, hx, yx, tx, ax, u8, w1, w2, w3, w4, w5, w6, w7, hk, w8, w9, w10, hs, a1, b1, c1, a4, b4, c4, tb, tc, tL]; rfl) rfl ?_ ?_ ?_ ?_
    · trivial
    · rfl
    · rfl
    · rfl
end Am
end
section
namespace Am
open Go
attribute [local go_sem] true_implies false_implies List.take_length bne_self_eq_false beq_self_eq_true List.forall_mem_cons List.not_mem_nil false_imp_iff allOne_nil allOne_cons iv bv Value.oneCell' astep aexe asem AS.put AS.app AS.ev look eff effIf binE unE convE lenE loadE storeE fieldAddrE fieldE indexAddrE indexE sliceE low bound extractE pickE minE allocE boxE buildE buildSliceE makeSliceE appendE elsOf aliveB pairs fillA litEls partOf tdesc TI.isAgg KD.row AV.cells AV.one guardV Option.map_some Option.map_none Option.getD_some Option.bind_some Option.bind_none List.map_cons List.map_nil List.nil_append List.cons_append List.append_nil true_and and_true cond_true cond_false Nat.zero_add Nat.add_zero Nat.zero_mul Nat.mul_zero List.getElem?_cons_zero List.getElem?_cons_succ List.getElem?_nil List.getElem?_toArray List.length_cons List.length_nil List.size_toArray List.take_succ_cons List.take_zero List.drop_succ_cons List.drop_zero List.drop_nil List.take_nil List.set_cons_zero List.set_cons_succ Bool.not_true Bool.not_false List.flatMap_cons List.flatMap_nil idA false_and forall_eq implies_true Bool.false_eq_true imp_false not_true_eq_false not_false_eq_true goInt Int.toNat_natCast ne_eq Nat.le_refl and_self List.append_assoc AV.ren AV.ren2 AV.ren1 AV.ren0 updC List.zipIdx_cons List.zipIdx_nil rho Blk.ren frzT frzB frzA ti_2 ti_3 ti_4 ti_5 ti_9 ti_12 ti_13 ti_21 ti_22 ti_23 ti_24 ti_25 ti_26 ti_27 ti_28 ti_30 ti_35 ti_36 ti_37 ti_38 ti_43 ti_46 ti_47 ti_51 ti_52 ti_54 ti_55 ti_57 ti_58 ti_64 ti_65 ti_66 ti_67 ti_68 ti_69 ti_70 ti_71 ti_75 ti_76 ti_79 ti_80 ti_87 ti_88 ti_92 ti_112 ti_117 ti_118 ti_122
set_option maxRecDepth 100000
structure WRow (W : List AV) : Prop where
  len : W.length = 73
  one : allOne W
  ren : ∀ ρ : Nat → Nat, W.map (·.ren1 ρ) = W
  ok : W.all (·.ok1) = true
def kI (W : List AV) (E : List (List AV)) (i : Nat) : AS := { t := [(7, iv i), (5, .ptr 0 0 0), (1, .sl E)], T := [(0, ⟨.live, false, 71, 73, [W]⟩)], N := 1, M := 0 }
set_option maxHeartbeats 8000000 in
theorem law_ec [Base] (most : Int) (E : List (List AV)) (Ws : Nat → List AV) (ea : Nat → Int) (hm : 0 ≤ most ∧ most < 65536) (hE : E.length ≤ 60) (hW : ∀ i, i ≤ E.length → WRow (Ws i))
    (hE6 : ∀ i, i < E.length → ∃ k s n af lt : Int, E.getD i [] = [u8 k, u8 s, u8 n, u8 af, u8 (ea i), u8 lt]) (hea : ∀ i, i < E.length → 0 ≤ ea i ∧ ea i < 256)
    (hB : EC Tryd.prog 24 [] [iv (1 + most.tmod 500)] [] (.tup [.agg (Ws 0), bv true]))
    (hA : ∀ i, i < E.length → EC Tryd.prog 25 [] [.agg (Ws i), .agg (E.getD i [])] [] (.agg (Ws (i + 1))))
    (hS : ∀ i, i < E.length → EC Tryd.prog 26 [] [.agg (Ws (i + 1)), iv (ea i)] [] (bv true))
    (hbad : ∀ i, i < E.length → (Ws (i + 1))[72]? = some (bv false)) (hsan : EC Tryd.prog 7 [] [] [] (bv true)) :
    EC Tryd.prog 4 [] [.v (.int .u16 most), .sl E] [] (bv true) := by
  have wm : 0 ≤ most.tmod 500 ∧ most.tmod 500 < 500 := by
    rw [Int.tmod_eq_emod_of_nonneg (by omega)]
    exact ⟨Int.emod_nonneg _ (by omega), Int.emod_lt_of_pos _ (by omega)⟩
  have w1 : IntKind.i64.wrap most = most := wrap_ok (by omega) (by omega)
  have w2 : IntKind.i64.wrap (1 + most.tmod 500) = 1 + most.tmod 500 := wrap_ok (by omega) (by omega)
  have w3 : decide (60 < (E.length : Int)) = false := decide_eq_false (by omega)
  have h0 := hW 0 (Nat.zero_le _)
  have lW := h0.len
  have oW := h0.one
  have tW : List.take 73 (Ws 0) = Ws 0 := List.take_of_length_le (by omega)
  refine EC_of_awp tiOk mixed Tryd.func4 rfl rfl (by kernel_rfl) (by simp [Tryd.f4]) ?_
  simp only [start, List.zipIdx_cons, List.zipIdx_nil, List.map_cons, List.map_nil, List.length_nil, List.length_cons, Nat.zero_add, Nat.reduceAdd]
  have vW := lW
  have l2 := lW
  have dW := lW
  have o2 := oW
  (repeat' (first | (with_reducible first | refine zqA (fun _ _ => ?_) | refine zqB ?_ | refine zqC ?_ | refine zqD ?_ | refine zqE ?_ | refine zqF ?_ | refine zqG ?_ | refine zqH ?_ | refine zqI ?_ | refine zqJ ?_ | refine zqK ?_ | refine zqL (by decide) ?_) | ((with_reducible first | refine zqM (fun _ _ => ?_) | refine zqN (fun _ _ => ?_)); simp only [go_sem, alist, adraw, seval, w1, w2, w3, lW, oW, tW, vW, l2, o2, dW]) | (with_reducible first | refine And.intro trivial ?_ | apply_assumption -exfalso -symm)))
  refine ⟨[], _, CallEff.pure0 hB rfl rfl (by simp only [AV.ren, List.map_cons, List.map_nil, AV.ren2, h0.ren] <;> rfl), ?_⟩
  simp only [go_sem, alist, adraw, seval, w1, w2, w3, lW, oW, tW]
  (repeat' (first | (with_reducible first | refine zqA (fun _ _ => ?_) | refine zqB ?_ | refine zqC ?_ | refine zqD ?_ | refine zqE ?_ | refine zqF ?_ | refine zqG ?_ | refine zqH ?_ | refine zqI ?_ | refine zqJ ?_ | refine zqK ?_ | refine zqL (by decide) ?_) | ((with_reducible first | refine zqM (fun _ _ => ?_) | refine zqN (fun _ _ => ?_)); simp only [go_sem, alist, adraw, seval, w1, w2, w3, lW, oW, tW, vW, l2, o2, dW]) | (with_reducible first | refine And.intro trivial ?_ | apply_assumption -exfalso -symm)))
  refine zqO (by simp only [go_sem, alist, adraw, seval] <;> rfl) (fun h => absurd h (by simp)) (fun _ => ?_)
  (repeat' (first | (with_reducible first | refine zqA (fun _ _ => ?_) | refine zqB ?_ | refine zqC ?_ | refine zqD ?_ | refine zqE ?_ | refine zqF ?_ | refine zqG ?_ | refine zqH ?_ | refine zqI ?_ | refine zqJ ?_ | refine zqK ?_ | refine zqL (by decide) ?_) | ((with_reducible first | refine zqM (fun _ _ => ?_) | refine zqN (fun _ _ => ?_)); simp only [go_sem, alist, adraw, seval, w1, w2, w3, lW, oW, tW, vW, l2, o2, dW]) | (with_reducible first | refine And.intro trivial ?_ | apply_assumption -exfalso -symm)))
  refine zqO (by simp only [go_sem, alist, adraw, seval] <;> rfl) (fun h => absurd h (by simp)) (fun _ => ?_)
  (repeat' (first | (with_reducible first | refine zqA (fun _ _ => ?_) | refine zqB ?_ | refine zqC ?_ | refine zqD ?_ | refine zqE ?_ | refine zqF ?_ | refine zqG ?_ | refine zqH ?_ | refine zqI ?_ | refine zqJ ?_ | refine zqK ?_ | refine zqL (by decide) ?_) | ((with_reducible first | refine zqM (fun _ _ => ?_) | refine zqN (fun _ _ => ?_)); simp only [go_sem, alist, adraw, seval, w1, w2, w3, lW, oW, tW, vW, l2, o2, dW]) | (with_reducible first | refine And.intro trivial ?_ | apply_assumption -exfalso -symm)))
  refine awp_loop_k (ι := {i : Nat // i ≤ E.length}) (fun i => kI (Ws i.1) E i.1) (fun i => E.length - i.1) ⟨0, Nat.zero_le _⟩ ?_ fun ⟨i, hi⟩ K hK => ?_
  · refine Weak.mk' [(0, 144)] rfl (fun id h => absurd h (Nat.not_lt_zero _)) (by decide) (by simp [kI]) ?_ fun p hp => ?_
    · simp only [kI, List.mem_cons, forall_eq_or_imp, List.not_mem_nil, false_imp_iff, implies_true, and_true, go_sem, alist, adraw, seval]
      (repeat' apply And.intro) <;> rfl
    · simp only [kI] at hp
      rw [List.mem_singleton.1 hp]
      refine ⟨?_, fun row hr => by rw [List.mem_singleton.1 hr]; exact h0.ok, rfl⟩
      simp only [Blk.ren, List.map_cons, List.map_nil, h0.ren]
      rfl
  have dW : List.drop 73 (Ws i) = [] := List.drop_eq_nil_of_le (by have := (hW i hi).len; omega)
  simp only [kI]
  have h1 := hW i hi
  have lW := h1.len
  have oW := h1.one
  have tW : List.take 73 (Ws i) = Ws i := List.take_of_length_le (by omega)
  (repeat' (first | (with_reducible first | refine zqA (fun _ _ => ?_) | refine zqB ?_ | refine zqC ?_ | refine zqD ?_ | refine zqE ?_ | refine zqF ?_ | refine zqG ?_ | refine zqH ?_ | refine zqI ?_ | refine zqJ ?_ | refine zqK ?_ | refine zqL (by decide) ?_) | ((with_reducible first | refine zqM (fun _ _ => ?_) | refine zqN (fun _ _ => ?_)); simp only [go_sem, alist, adraw, seval, w1, w2, w3, lW, oW, tW, vW, l2, o2, dW]) | (with_reducible first | refine And.intro trivial ?_ | apply_assumption -exfalso -symm)))
  refine zqO (by simp only [go_sem, alist, adraw, seval] <;> rfl) ?_ ?_
  · intro hlt
    have hlt : i < E.length := by simpa using hlt
    have h2 := hW (i + 1) hlt
    have vW : List.take 73 (Ws (i + 1)) = Ws (i + 1) := List.take_of_length_le (by have := h2.len; omega)
    obtain ⟨k, s, n, af, lt, eE⟩ := hE6 i hlt
    have hA := hA i hlt
    rw [eE] at hA
    have w1 : E.getD i [] = [u8 k, u8 s, u8 n, u8 af, u8 (ea i), u8 lt] := eE
    have hea := hea i hlt
    have hS := hS i hlt
    (repeat' (first | (with_reducible first | refine zqA (fun _ _ => ?_) | refine zqB ?_ | refine zqC ?_ | refine zqD ?_ | refine zqE ?_ | refine zqF ?_ | refine zqG ?_ | refine zqH ?_ | refine zqI ?_ | refine zqJ ?_ | refine zqK ?_ | refine zqL (by decide) ?_) | ((with_reducible first | refine zqM (fun _ _ => ?_) | refine zqN (fun _ _ => ?_)); simp only [go_sem, alist, adraw, seval, w1, w2, w3, lW, oW, tW, vW, l2, o2, dW]) | (with_reducible first | refine And.intro trivial ?_ | apply_assumption -exfalso -symm)))
    try refine ⟨by omega, ?_⟩
    refine ⟨[], _, CallEff.pure0 hA (by simp only [List.map_cons, List.map_nil, AV.ren2, h1.ren] <;> rfl) (by simp only [List.all_cons, List.all_nil, AV.ok2, h1.ok] <;> rfl) (by simp only [AV.ren, AV.ren2, h2.ren]), ?_⟩
    have l2 := h2.len
    have o2 := h2.one
    have w2 := hbad i hlt
    have w3 : IntKind.i64.wrap (ea i) = ea i := wrap_ok (by omega) (by omega)
    simp only [go_sem, alist, adraw, seval, w1, w2, w3, lW, oW, tW, vW, l2, o2, dW]
    refine ⟨rfl, ?_⟩
    (repeat' (first | (with_reducible first | refine zqA (fun _ _ => ?_) | refine zqB ?_ | refine zqC ?_ | refine zqD ?_ | refine zqE ?_ | refine zqF ?_ | refine zqG ?_ | refine zqH ?_ | refine zqI ?_ | refine zqJ ?_ | refine zqK ?_ | refine zqL (by decide) ?_) | ((with_reducible first | refine zqM (fun _ _ => ?_) | refine zqN (fun _ _ => ?_)); simp only [go_sem, alist, adraw, seval, w1, w2, w3, lW, oW, tW, vW, l2, o2, dW]) | (with_reducible first | refine And.intro trivial ?_ | apply_assumption -exfalso -symm)))
    have l9 := h2.len
    repeat refine ⟨by omega, ?_⟩
    refine ⟨[], _, CallEff.pure0 hS (by simp only [List.map_cons, List.map_nil, AV.ren2, h2.ren] <;> rfl) (by simp only [List.all_cons, List.all_nil, AV.ok2, h2.ok] <;> rfl) rfl, ?_⟩
    simp only [go_sem, alist, adraw, seval, w1, w2, w3, lW, oW, tW, vW, l2, o2, dW]
    refine ⟨rfl, ?_⟩
    (repeat' (first | (with_reducible first | refine zqA (fun _ _ => ?_) | refine zqB ?_ | refine zqC ?_ | refine zqD ?_ | refine zqE ?_ | refine zqF ?_ | refine zqG ?_ | refine zqH ?_ | refine zqI ?_ | refine zqJ ?_ | refine zqK ?_ | refine zqL (by decide) ?_) | ((with_reducible first | refine zqM (fun _ _ => ?_) | refine zqN (fun _ _ => ?_)); simp only [go_sem, alist, adraw, seval, w1, w2, w3, lW, oW, tW, vW, l2, o2, dW]) | (with_reducible first | refine And.intro trivial ?_ | apply_assumption -exfalso -symm)))
    refine zqO (by simp only [go_sem, alist, adraw, seval] <;> rfl) (fun h => absurd h (by simp)) (fun _ => ?_)
    (repeat' (first | (with_reducible first | refine zqA (fun _ _ => ?_) | refine zqB ?_ | refine zqC ?_ | refine zqD ?_ | refine zqE ?_ | refine zqF ?_ | refine zqG ?_ | refine zqH ?_ | refine zqI ?_ | refine zqJ ?_ | refine zqK ?_ | refine zqL (by decide) ?_) | ((with_reducible first | refine zqM (fun _ _ => ?_) | refine zqN (fun _ _ => ?_)); simp only [go_sem, alist, adraw, seval, w1, w2, w3, lW, oW, tW, vW, l2, o2, dW]) | (with_reducible first | refine And.intro trivial ?_ | apply_assumption -exfalso -symm)))
    rw [wrap_ok (by omega) (by omega)]
    refine hK.go ⟨i + 1, hlt⟩ (by simp; omega) ?_
    refine Weak.mk' [(0, 0)] rfl (fun id h => absurd h (Nat.not_lt_zero _)) (by decide) (by simp [kI]) ?_ fun p hp => ?_
    · simp only [kI, List.mem_cons, forall_eq_or_imp, List.not_mem_nil, false_imp_iff, implies_true, and_true, go_sem, alist, adraw, seval]
      (repeat' apply And.intro) <;> rfl
    · simp only [kI] at hp
      rw [List.mem_singleton.1 hp]
      refine ⟨?_, fun row hr => by rw [List.mem_singleton.1 hr]; exact h2.ok, rfl⟩
      simp only [Blk.ren, List.map_cons, List.map_nil, h2.ren]
      rfl
  · intro hlt
    (repeat' (first | (with_reducible first | refine zqA (fun _ _ => ?_) | refine zqB ?_ | refine zqC ?_ | refine zqD ?_ | refine zqE ?_ | refine zqF ?_ | refine zqG ?_ | refine zqH ?_ | refine zqI ?_ | refine zqJ ?_ | refine zqK ?_ | refine zqL (by decide) ?_) | ((with_reducible first | refine zqM (fun _ _ => ?_) | refine zqN (fun _ _ => ?_)); simp only [go_sem, alist, adraw, seval, w1, w2, w3, lW, oW, tW, vW, l2, o2, dW]) | (with_reducible first | refine And.intro trivial ?_ | apply_assumption -exfalso -symm)))
    refine ⟨[], _, CallEff.pure0 hsan rfl rfl rfl, ?_⟩
    simp only [go_sem, alist, adraw, seval, w1, w2, w3, lW, oW, tW]
    (repeat' (first | (with_reducible first | refine zqA (fun _ _ => ?_) | refine zqB ?_ | refine zqC ?_ | refine zqD ?_ | refine zqE ?_ | refine zqF ?_ | refine zqG ?_ | refine zqH ?_ | refine zqI ?_ | refine zqJ ?_ | refine zqK ?_ | refine zqL (by decide) ?_) | ((with_reducible first | refine zqM (fun _ _ => ?_) | refine zqN (fun _ _ => ?_)); simp only [go_sem, alist, adraw, seval, w1, w2, w3, lW, oW, tW, vW, l2, o2, dW]) | (with_reducible first | refine And.intro trivial ?_ | apply_assumption -exfalso -symm)))
    simp only [retQ, Tryd.f4]; refine ret_pure (by simp only [resAll, resA, go_sem, alist, adraw, seval]; rfl) rfl ?_ ?_ ?_ ?_
    · trivial
    · rfl
    · rfl
    · rfl
end Am
end
section
namespace Am
open Go
attribute [local go_sem] true_implies false_implies List.take_length bne_self_eq_false beq_self_eq_true List.forall_mem_cons List.not_mem_nil false_imp_iff allOne_nil allOne_cons iv bv Value.oneCell' astep aexe asem AS.put AS.app AS.ev look eff effIf binE unE convE lenE loadE storeE fieldAddrE fieldE indexAddrE indexE sliceE low bound extractE pickE minE allocE boxE buildE buildSliceE makeSliceE appendE elsOf aliveB pairs fillA litEls partOf tdesc TI.isAgg KD.row AV.cells AV.one guardV Option.map_some Option.map_none Option.getD_some Option.bind_some Option.bind_none List.map_cons List.map_nil List.nil_append List.cons_append List.append_nil true_and and_true cond_true cond_false Nat.zero_add Nat.add_zero Nat.zero_mul Nat.mul_zero List.getElem?_cons_zero List.getElem?_cons_succ List.getElem?_nil List.getElem?_toArray List.length_cons List.length_nil List.size_toArray List.take_succ_cons List.take_zero List.drop_succ_cons List.drop_zero List.drop_nil List.take_nil List.set_cons_zero List.set_cons_succ Bool.not_true Bool.not_false List.flatMap_cons List.flatMap_nil idA false_and forall_eq implies_true Bool.false_eq_true imp_false not_true_eq_false not_false_eq_true goInt Int.toNat_natCast ne_eq Nat.le_refl and_self List.append_assoc AV.ren AV.ren2 AV.ren1 AV.ren0 updC List.zipIdx_cons List.zipIdx_nil rho Blk.ren frzT frzB frzA ti_2 ti_3 ti_4 ti_5 ti_9 ti_12 ti_13 ti_21 ti_22 ti_23 ti_24 ti_25 ti_26 ti_27 ti_28 ti_30 ti_35 ti_36 ti_37 ti_38 ti_43 ti_46 ti_47 ti_51 ti_52 ti_54 ti_55 ti_57 ti_58 ti_64 ti_65 ti_66 ti_67 ti_68 ti_69 ti_70 ti_71 ti_75 ti_76 ti_79 ti_80 ti_87 ti_88 ti_92 ti_112 ti_117 ti_118 ti_122
set_option maxRecDepth 100000
set_option maxHeartbeats 8000000 in
theorem law_long [Base] (most : Int) (E : List (List AV)) (W0 : List AV) (hm : 0 ≤ most ∧ most < 65536) (hE : 60 < E.length) (h0 : WRow W0)
    (hB : EC Tryd.prog 24 [] [iv (1 + most.tmod 500)] [] (.tup [.agg W0, bv true])) (hsan : EC Tryd.prog 7 [] [] [] (bv true)) :
    EC Tryd.prog 4 [] [.v (.int .u16 most), .sl E] [] (bv true) := by
  have wm : 0 ≤ most.tmod 500 ∧ most.tmod 500 < 500 := by
    rw [Int.tmod_eq_emod_of_nonneg (by omega)]
    exact ⟨Int.emod_nonneg _ (by omega), Int.emod_lt_of_pos _ (by omega)⟩
  have w1 : IntKind.i64.wrap most = most := wrap_ok (by omega) (by omega)
  have w2 : IntKind.i64.wrap (1 + most.tmod 500) = 1 + most.tmod 500 := wrap_ok (by omega) (by omega)
  have w3 : decide (60 < (E.length : Int)) = true := decide_eq_true (by omega)
  have lW := h0.len
  have oW := h0.one
  have tW : List.take 73 W0 = W0 := List.take_of_length_le (by omega)
  refine EC_of_awp tiOk mixed Tryd.func4 rfl rfl (by kernel_rfl) (by simp [Tryd.f4]) ?_
  simp only [start, List.zipIdx_cons, List.zipIdx_nil, List.map_cons, List.map_nil, List.length_nil, List.length_cons, Nat.zero_add, Nat.reduceAdd]
  have vW := lW
  have l2 := lW
  have dW := lW
  have o2 := oW
  (repeat' (first | (with_reducible first | refine zqA (fun _ _ => ?_) | refine zqB ?_ | refine zqC ?_ | refine zqD ?_ | refine zqE ?_ | refine zqF ?_ | refine zqG ?_ | refine zqH ?_ | refine zqI ?_ | refine zqJ ?_ | refine zqK ?_ | refine zqL (by decide) ?_) | ((with_reducible first | refine zqM (fun _ _ => ?_) | refine zqN (fun _ _ => ?_)); simp only [go_sem, alist, adraw, seval, w1, w2, w3, lW, oW, tW, vW, l2, o2, dW]) | (with_reducible first | refine And.intro trivial ?_ | apply_assumption -exfalso -symm)))
  refine ⟨[], _, CallEff.pure0 hB rfl rfl (by simp only [AV.ren, List.map_cons, List.map_nil, AV.ren2, h0.ren] <;> rfl), ?_⟩
  simp only [go_sem, alist, adraw, seval, w1, w2, w3, lW, oW, tW]
  (repeat' (first | (with_reducible first | refine zqA (fun _ _ => ?_) | refine zqB ?_ | refine zqC ?_ | refine zqD ?_ | refine zqE ?_ | refine zqF ?_ | refine zqG ?_ | refine zqH ?_ | refine zqI ?_ | refine zqJ ?_ | refine zqK ?_ | refine zqL (by decide) ?_) | ((with_reducible first | refine zqM (fun _ _ => ?_) | refine zqN (fun _ _ => ?_)); simp only [go_sem, alist, adraw, seval, w1, w2, w3, lW, oW, tW, vW, l2, o2, dW]) | (with_reducible first | refine And.intro trivial ?_ | apply_assumption -exfalso -symm)))
  refine zqO (by simp only [go_sem, alist, adraw, seval] <;> rfl) (fun _ => ?_) (fun h => absurd h (by simp))
  (repeat' (first | (with_reducible first | refine zqA (fun _ _ => ?_) | refine zqB ?_ | refine zqC ?_ | refine zqD ?_ | refine zqE ?_ | refine zqF ?_ | refine zqG ?_ | refine zqH ?_ | refine zqI ?_ | refine zqJ ?_ | refine zqK ?_ | refine zqL (by decide) ?_) | ((with_reducible first | refine zqM (fun _ _ => ?_) | refine zqN (fun _ _ => ?_)); simp only [go_sem, alist, adraw, seval, w1, w2, w3, lW, oW, tW, vW, l2, o2, dW]) | (with_reducible first | refine And.intro trivial ?_ | apply_assumption -exfalso -symm)))
  refine ⟨[], _, CallEff.pure0 hsan rfl rfl rfl, ?_⟩
  simp only [go_sem, alist, adraw, seval, w1, w2, w3, lW, oW, tW]
  (repeat' (first | (with_reducible first | refine zqA (fun _ _ => ?_) | refine zqB ?_ | refine zqC ?_ | refine zqD ?_ | refine zqE ?_ | refine zqF ?_ | refine zqG ?_ | refine zqH ?_ | refine zqI ?_ | refine zqJ ?_ | refine zqK ?_ | refine zqL (by decide) ?_) | ((with_reducible first | refine zqM (fun _ _ => ?_) | refine zqN (fun _ _ => ?_)); simp only [go_sem, alist, adraw, seval, w1, w2, w3, lW, oW, tW, vW, l2, o2, dW]) | (with_reducible first | refine And.intro trivial ?_ | apply_assumption -exfalso -symm)))
  simp only [retQ, Tryd.f4]; refine ret_pure (by simp only [resAll, resA, go_sem, alist, adraw, seval]; rfl) rfl ?_ ?_ ?_ ?_
  all_goals first | trivial | rfl
end Am
end
end Go.Proofs.YteblnmhaohbkkaaDoor
