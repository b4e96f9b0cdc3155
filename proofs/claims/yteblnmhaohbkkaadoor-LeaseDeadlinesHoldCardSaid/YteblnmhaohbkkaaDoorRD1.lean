import Derived.Test.YteblnmhaohbkkaaDoorRDlA
namespace Go.Proofs.YteblnmhaohbkkaaDoor
set_option linter.unusedVariables false
set_option linter.unusedSimpArgs false
set_option linter.unusedSectionVars false
section
namespace Am
open Go
def wA (g a b c e : List AV) : List AV := g ++ (a ++ (b ++ (c ++ e)))
section
variable {g0 g1 g2 e0 e1 e2 e3 : AV} {a b c : List AV}
theorem wA_len (ha : a.length = 22) (hb : b.length = 22) (hc : c.length = 22) : (wA [g0, g1, g2] a b c [e0, e1, e2, e3]).length = 73 := by simp [wA, ha, hb, hc]
theorem wA_g : (wA [g0, g1, g2] a b c [e0, e1, e2, e3]).take 3 = [g0, g1, g2] := rfl
theorem wA_0 : (wA [g0, g1, g2] a b c [e0, e1, e2, e3])[0]? = some g0 := rfl
theorem wA_1 : (wA [g0, g1, g2] a b c [e0, e1, e2, e3])[1]? = some g1 := rfl
theorem wA_d (k : Nat) : (wA [g0, g1, g2] a b c [e0, e1, e2, e3]).drop (3 + k) = (a ++ (b ++ (c ++ [e0, e1, e2, e3]))).drop k := by
  rw [← List.drop_drop]; rfl
theorem wA_d3 : (wA [g0, g1, g2] a b c [e0, e1, e2, e3]).drop 3 = a ++ (b ++ (c ++ [e0, e1, e2, e3])) := rfl
theorem wA_d25 (ha : a.length = 22) : (wA [g0, g1, g2] a b c [e0, e1, e2, e3]).drop 25 = b ++ (c ++ [e0, e1, e2, e3]) := by
  rw [show (25 : Nat) = 3 + 22 from rfl, wA_d, List.drop_left' ha]
theorem wA_d47 (ha : a.length = 22) (hb : b.length = 22) : (wA [g0, g1, g2] a b c [e0, e1, e2, e3]).drop 47 = c ++ [e0, e1, e2, e3] := by
  rw [show (47 : Nat) = 3 + (22 + 22) from rfl, wA_d, ← List.drop_drop, List.drop_left' ha, List.drop_left' hb]
theorem wA_d69 (ha : a.length = 22) (hb : b.length = 22) (hc : c.length = 22) : (wA [g0, g1, g2] a b c [e0, e1, e2, e3]).drop 69 = [e0, e1, e2, e3] := by
  rw [show (69 : Nat) = 3 + (22 + (22 + 22)) from rfl, wA_d, ← List.drop_drop, List.drop_left' ha, ← List.drop_drop, List.drop_left' hb, List.drop_left' hc]
theorem wA_dE (ha : a.length = 22) (hb : b.length = 22) (hc : c.length = 22) (k : Nat) : (wA [g0, g1, g2] a b c [e0, e1, e2, e3]).drop (69 + k) = [e0, e1, e2, e3].drop k := by
  rw [← List.drop_drop, wA_d69 ha hb hc]
theorem wA_at (ha : a.length = 22) (hb : b.length = 22) (hc : c.length = 22) (k : Nat) : (wA [g0, g1, g2] a b c [e0, e1, e2, e3])[69 + k]? = [e0, e1, e2, e3][k]? := by
  rw [← List.getElem?_drop, wA_d69 ha hb hc]
theorem wA_69 (ha : a.length = 22) (hb : b.length = 22) (hc : c.length = 22) : (wA [g0, g1, g2] a b c [e0, e1, e2, e3])[69]? = some e0 := wA_at ha hb hc 0
theorem wA_70 (ha : a.length = 22) (hb : b.length = 22) (hc : c.length = 22) : (wA [g0, g1, g2] a b c [e0, e1, e2, e3])[70]? = some e1 := wA_at ha hb hc 1
theorem wA_71 (ha : a.length = 22) (hb : b.length = 22) (hc : c.length = 22) : (wA [g0, g1, g2] a b c [e0, e1, e2, e3])[71]? = some e2 := wA_at ha hb hc 2
theorem wA_72 (ha : a.length = 22) (hb : b.length = 22) (hc : c.length = 22) : (wA [g0, g1, g2] a b c [e0, e1, e2, e3])[72]? = some e3 := wA_at ha hb hc 3
theorem wA_s0 (ha : a.length = 22) : ((wA [g0, g1, g2] a b c [e0, e1, e2, e3]).drop 3).take 22 = a := by rw [wA_d3, List.take_left' ha]
theorem wA_s1 (ha : a.length = 22) (hb : b.length = 22) : ((wA [g0, g1, g2] a b c [e0, e1, e2, e3]).drop 25).take 22 = b := by rw [wA_d25 ha, List.take_left' hb]
theorem wA_s2 (ha : a.length = 22) (hb : b.length = 22) (hc : c.length = 22) : ((wA [g0, g1, g2] a b c [e0, e1, e2, e3]).drop 47).take 22 = c := by rw [wA_d47 ha hb, List.take_left' hc]
theorem wA_whole (ha : a.length = 22) (hb : b.length = 22) (hc : c.length = 22) : (wA [g0, g1, g2] a b c [e0, e1, e2, e3]).take 73 = wA [g0, g1, g2] a b c [e0, e1, e2, e3] := List.take_of_length_le (by rw [wA_len ha hb hc]; exact Nat.le_refl _)
theorem wA_h0 (ha : a.length = 22) : (wA [g0, g1, g2] a b c [e0, e1, e2, e3])[4]? = a[1]? := by
  have : (wA [g0, g1, g2] a b c [e0, e1, e2, e3])[3 + 1]? = a[1]? := by rw [← List.getElem?_drop, wA_d3, List.getElem?_append_left (by omega)]
  exact this
theorem wA_h1 (ha : a.length = 22) (hb : b.length = 22) : (wA [g0, g1, g2] a b c [e0, e1, e2, e3])[26]? = b[1]? := by
  have : (wA [g0, g1, g2] a b c [e0, e1, e2, e3])[25 + 1]? = b[1]? := by rw [← List.getElem?_drop, wA_d25 ha, List.getElem?_append_left (by omega)]
  exact this
theorem wA_h2 (ha : a.length = 22) (hb : b.length = 22) (hc : c.length = 22) : (wA [g0, g1, g2] a b c [e0, e1, e2, e3])[48]? = c[1]? := by
  have : (wA [g0, g1, g2] a b c [e0, e1, e2, e3])[47 + 1]? = c[1]? := by rw [← List.getElem?_drop, wA_d47 ha hb, List.getElem?_append_left (by omega)]
  exact this
theorem wA_wg {x y z : AV} : x :: y :: z :: (wA [g0, g1, g2] a b c [e0, e1, e2, e3]).drop 3 = wA [x, y, z] a b c [e0, e1, e2, e3] := rfl
theorem wA_t3 : (wA [g0, g1, g2] a b c [e0, e1, e2, e3]).take 3 = [g0, g1, g2] := rfl
theorem wA_w0 (ha : a.length = 22) (x : List AV) : g0 :: g1 :: g2 :: (x ++ (wA [g0, g1, g2] a b c [e0, e1, e2, e3]).drop 25) = wA [g0, g1, g2] x b c [e0, e1, e2, e3] := by rw [wA_d25 ha]; rfl
theorem wA_w1 (ha : a.length = 22) (hb : b.length = 22) (x : List AV) : (wA [g0, g1, g2] a b c [e0, e1, e2, e3]).take 25 ++ (x ++ (wA [g0, g1, g2] a b c [e0, e1, e2, e3]).drop 47) = wA [g0, g1, g2] a x c [e0, e1, e2, e3] := by
  have : (wA [g0, g1, g2] a b c [e0, e1, e2, e3]).take 25 = [g0, g1, g2] ++ a := by rw [wA, ← List.append_assoc, List.take_left' (by simp [ha])]
  rw [this, wA_d47 ha hb, List.append_assoc]; rfl
theorem wA_w2 (ha : a.length = 22) (hb : b.length = 22) (hc : c.length = 22) (x : List AV) : (wA [g0, g1, g2] a b c [e0, e1, e2, e3]).take 47 ++ (x ++ (wA [g0, g1, g2] a b c [e0, e1, e2, e3]).drop 69) = wA [g0, g1, g2] a b x [e0, e1, e2, e3] := by
  have : (wA [g0, g1, g2] a b c [e0, e1, e2, e3]).take 47 = [g0, g1, g2] ++ (a ++ b) := by rw [wA, ← List.append_assoc a, ← List.append_assoc, List.take_left' (by simp [ha, hb])]
  rw [this, wA_d69 ha hb hc, List.append_assoc, List.append_assoc]; rfl
theorem wA_tE (ha : a.length = 22) (hb : b.length = 22) (hc : c.length = 22) (k : Nat) : (wA [g0, g1, g2] a b c [e0, e1, e2, e3]).take (69 + k) = [g0, g1, g2] ++ (a ++ (b ++ (c ++ [e0, e1, e2, e3].take k))) := by
  have h : (wA [g0, g1, g2] a b c [e0, e1, e2, e3]) = ([g0, g1, g2] ++ (a ++ (b ++ c))) ++ [e0, e1, e2, e3] := by simp [wA]
  have hl : ([g0, g1, g2] ++ (a ++ (b ++ c))).length = 69 := by simp [ha, hb, hc]
  rw [h, List.take_append, hl, List.take_of_length_le (by rw [hl]; omega), show 69 + k - 69 = k by omega]
  simp
theorem wA_w69 (ha : a.length = 22) (hb : b.length = 22) (hc : c.length = 22) (y : AV) : (wA [g0, g1, g2] a b c [e0, e1, e2, e3]).take 69 ++ y :: (wA [g0, g1, g2] a b c [e0, e1, e2, e3]).drop 70 = wA [g0, g1, g2] a b c [y, e1, e2, e3] := by
  rw [wA_tE ha hb hc 0, wA_dE ha hb hc 1]; simp [wA]
theorem wA_w70 (ha : a.length = 22) (hb : b.length = 22) (hc : c.length = 22) (y : AV) : (wA [g0, g1, g2] a b c [e0, e1, e2, e3]).take 70 ++ y :: (wA [g0, g1, g2] a b c [e0, e1, e2, e3]).drop 71 = wA [g0, g1, g2] a b c [e0, y, e2, e3] := by
  rw [wA_tE ha hb hc 1, wA_dE ha hb hc 2]; simp [wA]
theorem wA_w71 (ha : a.length = 22) (hb : b.length = 22) (hc : c.length = 22) (y : AV) : (wA [g0, g1, g2] a b c [e0, e1, e2, e3]).take 71 ++ y :: (wA [g0, g1, g2] a b c [e0, e1, e2, e3]).drop 72 = wA [g0, g1, g2] a b c [e0, e1, y, e3] := by
  rw [wA_tE ha hb hc 2, wA_dE ha hb hc 3]; simp [wA]
theorem wA_w72 (ha : a.length = 22) (hb : b.length = 22) (hc : c.length = 22) (y : AV) : (wA [g0, g1, g2] a b c [e0, e1, e2, e3]).take 72 ++ y :: (wA [g0, g1, g2] a b c [e0, e1, e2, e3]).drop 73 = wA [g0, g1, g2] a b c [e0, e1, e2, y] := by
  rw [wA_tE ha hb hc 3, wA_dE ha hb hc 4]; simp [wA]
theorem allOne_app (x y : List AV) : allOne (x ++ y) = (allOne x ∧ allOne y) := propext ⟨fun h => ⟨fun z hz => h z (by simp [hz]), fun z hz => h z (by simp [hz])⟩, fun h z hz => by
  rcases List.mem_append.1 hz with q | q
  · exact h.1 z q
  · exact h.2 z q⟩
theorem wA_one : allOne (wA [g0, g1, g2] a b c [e0, e1, e2, e3]) = (allOne [g0, g1, g2] ∧ allOne a ∧ allOne b ∧ allOne c ∧ allOne [e0, e1, e2, e3]) := by
  unfold wA
  simp only [allOne_app]
def plain (l : List AV) : Prop := ∀ x ∈ l, ∃ v : Value, x = .v v ∧ v.oneCell' = true
theorem plain.one {l : List AV} (h : plain l) : allOne l := fun x hx => by obtain ⟨v, rfl, hv⟩ := h x hx; exact hv
theorem plain.map {l : List AV} (h : plain l) {f : AV → AV} (hf : ∀ v, f (.v v) = .v v) : l.map f = l := by
  rw [List.map_congr_left (g := _root_.id) fun x hx => by obtain ⟨v, rfl, -⟩ := h x hx; exact hf v, List.map_id]
theorem plain.all {l : List AV} (h : plain l) {p : AV → Bool} (hf : ∀ v, p (.v v) = true) : l.all p = true := List.all_eq_true.2 fun x hx => by obtain ⟨v, rfl, -⟩ := h x hx; exact hf v
theorem plain.map1 {l : List AV} (h : plain l) (ρ : Nat → Nat) : l.map (·.ren1 ρ) = l := h.map fun _ => rfl
theorem plain.all1 {l : List AV} (h : plain l) : l.all (·.ok1) = true := h.all fun _ => rfl
theorem wA_map (pa : plain a) (pb : plain b) (pc : plain c) {f : AV → AV} (hf : ∀ v, f (.v v) = .v v) : (wA [g0, g1, g2] a b c [e0, e1, e2, e3]).map f = wA [f g0, f g1, f g2] a b c [f e0, f e1, f e2, f e3] := by
  simp only [wA, List.map_append, pa.map hf, pb.map hf, pc.map hf, List.map_cons, List.map_nil]
theorem wA_ren (pa : plain a) (pb : plain b) (pc : plain c) (x y z : Int) (q : Bool) (G S Bn : List (List AV)) (ρ : Nat → Nat) :
    (AV.agg (wA [iv x, iv y, .sl G] a b c [.sl S, .sl Bn, iv z, bv q])).ren ρ = .agg (wA [iv x, iv y, .sl G] a b c [.sl S, .sl Bn, iv z, bv q]) := by
  show AV.agg ((wA _ a b c _).map _) = _
  rw [wA_map pa pb pc (fun v => rfl)]; rfl
theorem wA_ok (pa : plain a) (pb : plain b) (pc : plain c) (x y z : Int) (q : Bool) (G S Bn : List (List AV)) : (AV.agg (wA [iv x, iv y, .sl G] a b c [.sl S, .sl Bn, iv z, bv q])).ok3 = true := by
  show (wA _ a b c _).all (·.ok1) = true
  simp only [wA, List.all_append, List.all_cons, List.all_nil, pa.all (p := (·.ok1)) (fun v => rfl), pb.all (p := (·.ok1)) (fun v => rfl), pc.all (p := (·.ok1)) (fun v => rfl), Bool.true_and, Bool.and_true]
  rfl
end
end Am
end
section
namespace Am
open Go
attribute [local go_sem] true_implies false_implies List.take_length bne_self_eq_false beq_self_eq_true List.forall_mem_cons List.not_mem_nil false_imp_iff allOne_nil allOne_cons iv bv Value.oneCell' astep aexe asem AS.put AS.app AS.ev look eff effIf binE unE convE lenE loadE storeE fieldAddrE fieldE indexAddrE indexE sliceE low bound extractE pickE minE allocE boxE buildE buildSliceE makeSliceE appendE elsOf aliveB pairs fillA litEls partOf tdesc TI.isAgg KD.row AV.cells AV.one guardV Option.map_some Option.map_none Option.getD_some Option.bind_some Option.bind_none List.map_cons List.map_nil List.nil_append List.cons_append List.append_nil true_and and_true cond_true cond_false Nat.zero_add Nat.add_zero Nat.zero_mul Nat.mul_zero List.getElem?_cons_zero List.getElem?_cons_succ List.getElem?_nil List.getElem?_toArray List.length_cons List.length_nil List.size_toArray List.take_succ_cons List.take_zero List.drop_succ_cons List.drop_zero List.drop_nil List.take_nil List.set_cons_zero List.set_cons_succ Bool.not_true Bool.not_false List.flatMap_cons List.flatMap_nil idA false_and forall_eq implies_true Bool.false_eq_true imp_false not_true_eq_false not_false_eq_true goInt Int.toNat_natCast ne_eq Nat.le_refl and_self List.append_assoc AV.ren AV.ren2 AV.ren1 AV.ren0 updC List.zipIdx_cons List.zipIdx_nil rho Blk.ren frzT frzB frzA ti_2 ti_3 ti_4 ti_5 ti_9 ti_12 ti_13 ti_21 ti_22 ti_23 ti_24 ti_25 ti_26 ti_27 ti_28 ti_30 ti_35 ti_36 ti_37 ti_38 ti_43 ti_46 ti_47 ti_51 ti_52 ti_54 ti_55 ti_57 ti_58 ti_64 ti_65 ti_66 ti_67 ti_68 ti_69 ti_70 ti_71 ti_75 ti_76 ti_79 ti_80 ti_87 ti_88 ti_92 ti_112 ti_117 ti_118 ti_122 wA_len wA_0 wA_1 wA_g wA_69 wA_70 wA_71 wA_72 wA_s0 wA_s1 wA_s2 wA_whole wA_h0 wA_h1 wA_h2 wA_wg wA_t3 wA_w0 wA_w1 wA_w2 wA_w69 wA_w70 wA_w71 wA_w72 wA_one
set_option maxRecDepth 100000
abbrev u8 (n : Int) : AV := .v (.int .u8 n)
abbrev evA (k s n af ea lt : Int) : AV := .agg [u8 k, u8 s, u8 n, u8 af, u8 ea, u8 lt]
theorem act0 [Base] (la mo la' d T : Int) (G : List (List AV)) (a b c : List AV) (Sl Bn : List (List AV)) (k s n af ea lt : Int)
    (ha : a.length = 22) (hb : b.length = 22) (hc : c.length = 22) (pa : plain a) (pb : plain b) (pc : plain c)
    (hs : s.tmod 3 = s.tmod 3) (hk : k.tmod 5 = 0) (hk0 : 0 ≤ k ∧ k < 256) (hs0 : 0 ≤ s ∧ s < 256) (hn0 : 0 ≤ n ∧ n < 256) (h1 : 0 ≤ af ∧ af < 256) (h2 : 0 ≤ ea ∧ ea < 256) (h3 : 0 ≤ lt ∧ lt < 256) (hT : 1000 ≤ T ∧ T ≤ 1000000)
    (hI : EC Tryd.prog 9 [] [.agg [iv la, iv mo, .sl G]] [] (.tup [.agg [iv la', iv mo, .sl G], iv 0]))
    (hD : EC Tryd.prog 12 [] [.agg [iv la', iv mo, .sl G], iv la'] [] (.tup [iv d, iv 0])) (hd : d ≤ T + af + mo) (hmo : 0 ≤ mo ∧ mo ≤ 500) (hBl : Bn.length ≤ 60) (hB1 : ∀ r ∈ Bn, r.length = 1 ∧ allOne r) (hB2 : ∀ r ∈ Bn, r.all (·.clo) = true) :
    EC Tryd.prog 25 [] [.agg (wA [iv la, iv mo, .sl G] a b c [.sl Sl, .sl Bn, iv T, bv false]), evA k s n af ea lt] [] (.agg (wA [iv la', iv mo, .sl G] a b c [.sl Sl, .sl (Bn ++ [[iv d]]), iv (T + af), bv false])) := by
  refine EC_of_awp tiOk mixed Tryd.func25 rfl rfl (by kernel_rfl) (by simp [Tryd.f25]) ?_
  simp only [start, List.zipIdx_cons, List.zipIdx_nil, List.map_cons, List.map_nil, List.length_nil, List.length_cons, Nat.zero_add, Nat.reduceAdd]
  have ya := pa.one
  have yb := pb.one
  have yc := pc.one
  have w1 : IntKind.i64.wrap af = af := wrap_ok (by omega) (by omega)
  have w2 : IntKind.i64.wrap (T + af) = T + af := wrap_ok (by omega) (by omega)
  have w3 : IntKind.i64.wrap ea = ea := wrap_ok (by omega) (by omega)
  have w4 : IntKind.i64.wrap (T + af - ea) = T + af - ea := wrap_ok (by omega) (by omega)
  have w5 : IntKind.i64.wrap lt = lt := wrap_ok (by omega) (by omega)
  have w6 : IntKind.i64.wrap (T + af + lt) = T + af + lt := wrap_ok (by omega) (by omega)
  have w7 : IntKind.i64.wrap s = s := wrap_ok (by omega) (by omega)
  have w8 : IntKind.i64.wrap (T + af + mo) = T + af + mo := wrap_ok (by omega) (by omega)
  have hx := ha
  have px := pa
  have ax := ha
  have tx : List.take 22 a = a := List.take_of_length_le (by omega)
  have yx := ya
  have w10 := ha
  have w9 : decide (T + af + mo < d) = false := decide_eq_false (by omega)
  (repeat' (first | (with_reducible first | refine zqA (fun _ _ => ?_) | refine zqB ?_ | refine zqC ?_ | refine zqD ?_ | refine zqE ?_ | refine zqF ?_ | refine zqG ?_ | refine zqH ?_ | refine zqI ?_ | refine zqJ ?_ | refine zqK ?_ | refine zqL (by decide) ?_) | ((with_reducible first | refine zqM (fun _ _ => ?_) | refine zqN (fun _ _ => ?_)); simp only [go_sem, alist, adraw, seval, ha, hb, hc, ya, yb, yc, hx, yx, tx, ax, u8, w1, w2, w3, w4, w5, w6, w7, hk, w8, w9, w10, hs]) | (with_reducible first | refine And.intro trivial ?_ | apply_assumption -exfalso -symm)))
  refine zqO (by simp only [go_sem, alist, adraw, seval] <;> rfl) (fun _ => ?_) (fun h => absurd h (by simp))
  (repeat' (first | (with_reducible first | refine zqA (fun _ _ => ?_) | refine zqB ?_ | refine zqC ?_ | refine zqD ?_ | refine zqE ?_ | refine zqF ?_ | refine zqG ?_ | refine zqH ?_ | refine zqI ?_ | refine zqJ ?_ | refine zqK ?_ | refine zqL (by decide) ?_) | ((with_reducible first | refine zqM (fun _ _ => ?_) | refine zqN (fun _ _ => ?_)); simp only [go_sem, alist, adraw, seval, ha, hb, hc, ya, yb, yc, hx, yx, tx, ax, u8, w1, w2, w3, w4, w5, w6, w7, hk, w8, w9, w10, hs]) | (with_reducible first | refine And.intro trivial ?_ | apply_assumption -exfalso -symm)))
  refine ⟨[], _, CallEff.pure0 (hI) (by first | rfl | (simp only [List.map_cons, List.map_nil, AV.ren2, plain.map1 pa, plain.map1 pb, plain.map1 pc, plain.map1 px] <;> rfl)) (by first | rfl | (simp only [List.all_cons, List.all_nil, AV.ok2, plain.all1 pa, plain.all1 pb, plain.all1 pc, plain.all1 px] <;> rfl)) (by first | rfl | (simp only [AV.ren, List.map_cons, List.map_nil, AV.ren2, plain.map1 pa, plain.map1 pb, plain.map1 pc, plain.map1 px] <;> rfl)), ?_⟩; simp only [go_sem, alist, adraw, seval, ha, hb, hc, ya, yb, yc, hx, yx, tx, ax, u8, w1, w2, w3, w4, w5, w6, w7, hk, w8, w9, w10, hs]
  (repeat' (first | (with_reducible first | refine zqA (fun _ _ => ?_) | refine zqB ?_ | refine zqC ?_ | refine zqD ?_ | refine zqE ?_ | refine zqF ?_ | refine zqG ?_ | refine zqH ?_ | refine zqI ?_ | refine zqJ ?_ | refine zqK ?_ | refine zqL (by decide) ?_) | ((with_reducible first | refine zqM (fun _ _ => ?_) | refine zqN (fun _ _ => ?_)); simp only [go_sem, alist, adraw, seval, ha, hb, hc, ya, yb, yc, hx, yx, tx, ax, u8, w1, w2, w3, w4, w5, w6, w7, hk, w8, w9, w10, hs]) | (with_reducible first | refine And.intro trivial ?_ | apply_assumption -exfalso -symm)))
  refine ⟨[], _, CallEff.pure0 (hD) (by first | rfl | (simp only [List.map_cons, List.map_nil, AV.ren2, plain.map1 pa, plain.map1 pb, plain.map1 pc, plain.map1 px] <;> rfl)) (by first | rfl | (simp only [List.all_cons, List.all_nil, AV.ok2, plain.all1 pa, plain.all1 pb, plain.all1 pc, plain.all1 px] <;> rfl)) (by first | rfl | (simp only [AV.ren, List.map_cons, List.map_nil, AV.ren2, plain.map1 pa, plain.map1 pb, plain.map1 pc, plain.map1 px] <;> rfl)), ?_⟩; simp only [go_sem, alist, adraw, seval, ha, hb, hc, ya, yb, yc, hx, yx, tx, ax, u8, w1, w2, w3, w4, w5, w6, w7, hk, w8, w9, w10, hs]
  (repeat' (first | (with_reducible first | refine zqA (fun _ _ => ?_) | refine zqB ?_ | refine zqC ?_ | refine zqD ?_ | refine zqE ?_ | refine zqF ?_ | refine zqG ?_ | refine zqH ?_ | refine zqI ?_ | refine zqJ ?_ | refine zqK ?_ | refine zqL (by decide) ?_) | ((with_reducible first | refine zqM (fun _ _ => ?_) | refine zqN (fun _ _ => ?_)); simp only [go_sem, alist, adraw, seval, ha, hb, hc, ya, yb, yc, hx, yx, tx, ax, u8, w1, w2, w3, w4, w5, w6, w7, hk, w8, w9, w10, hs]) | (with_reducible first | refine And.intro trivial ?_ | apply_assumption -exfalso -symm)))
  refine ⟨⟨by omega, by omega, hB1⟩, ⟨by omega, by omega⟩, ?_⟩
  (repeat' (first | (with_reducible first | refine zqA (fun _ _ => ?_) | refine zqB ?_ | refine zqC ?_ | refine zqD ?_ | refine zqE ?_ | refine zqF ?_ | refine zqG ?_ | refine zqH ?_ | refine zqI ?_ | refine zqJ ?_ | refine zqK ?_ | refine zqL (by decide) ?_) | ((with_reducible first | refine zqM (fun _ _ => ?_) | refine zqN (fun _ _ => ?_)); simp only [go_sem, alist, adraw, seval, ha, hb, hc, ya, yb, yc, hx, yx, tx, ax, u8, w1, w2, w3, w4, w5, w6, w7, hk, w8, w9, w10, hs]) | (with_reducible first | refine And.intro trivial ?_ | apply_assumption -exfalso -symm)))
  simp only [retQ, Tryd.f25]; refine ret_frz1 1008 _ (by simp only [resAll, resA, go_sem, alist, adraw, seval, ha, hb, hc, ya, yb, yc, hx, yx, tx, ax, u8, w1, w2, w3, w4, w5, w6, w7, hk, w8, w9, w10, hs]; rfl) rfl (by simp only [go_sem, alist, adraw, seval]; rfl) rfl ?_ ?_ ?_ ?_ ?_
  · intro row hr
    rcases List.mem_append.1 hr with q | q
    · exact hB2 row q
    · simp at q; subst q; rfl
  · simp only [go_sem, alist, adraw, seval, ha, hb, hc, ya, yb, yc, hx, yx, tx, ax, u8, w1, w2, w3, w4, w5, w6, w7, hk, w8, w9, w10, hs]
  · simp only [List.map_cons, List.map_nil, oneOr, frz2]
    rw [wA_map pa pb pc (fun v => rfl)]
    simp only [frz1, go_sem, alist, adraw, seval]
    rw [if_pos (by simp), List.take_of_length_le (by simp)]
  · exact wA_ren pa pb pc _ _ _ _ _ _ _
  · exact wA_ok pa pb pc _ _ _ _ _ _ _
end Am
end
section
namespace Am
open Go
attribute [local go_sem] true_implies false_implies List.take_length bne_self_eq_false beq_self_eq_true List.forall_mem_cons List.not_mem_nil false_imp_iff allOne_nil allOne_cons iv bv Value.oneCell' astep aexe asem AS.put AS.app AS.ev look eff effIf binE unE convE lenE loadE storeE fieldAddrE fieldE indexAddrE indexE sliceE low bound extractE pickE minE allocE boxE buildE buildSliceE makeSliceE appendE elsOf aliveB pairs fillA litEls partOf tdesc TI.isAgg KD.row AV.cells AV.one guardV Option.map_some Option.map_none Option.getD_some Option.bind_some Option.bind_none List.map_cons List.map_nil List.nil_append List.cons_append List.append_nil true_and and_true cond_true cond_false Nat.zero_add Nat.add_zero Nat.zero_mul Nat.mul_zero List.getElem?_cons_zero List.getElem?_cons_succ List.getElem?_nil List.getElem?_toArray List.length_cons List.length_nil List.size_toArray List.take_succ_cons List.take_zero List.drop_succ_cons List.drop_zero List.drop_nil List.take_nil List.set_cons_zero List.set_cons_succ Bool.not_true Bool.not_false List.flatMap_cons List.flatMap_nil idA false_and forall_eq implies_true Bool.false_eq_true imp_false not_true_eq_false not_false_eq_true goInt Int.toNat_natCast ne_eq Nat.le_refl and_self List.append_assoc AV.ren AV.ren2 AV.ren1 AV.ren0 updC List.zipIdx_cons List.zipIdx_nil rho Blk.ren frzT frzB frzA ti_2 ti_3 ti_4 ti_5 ti_9 ti_12 ti_13 ti_21 ti_22 ti_23 ti_24 ti_25 ti_26 ti_27 ti_28 ti_30 ti_35 ti_36 ti_37 ti_38 ti_43 ti_46 ti_47 ti_51 ti_52 ti_54 ti_55 ti_57 ti_58 ti_64 ti_65 ti_66 ti_67 ti_68 ti_69 ti_70 ti_71 ti_75 ti_76 ti_79 ti_80 ti_87 ti_88 ti_92 ti_112 ti_117 ti_118 ti_122 wA_len wA_0 wA_1 wA_g wA_69 wA_70 wA_71 wA_72 wA_s0 wA_s1 wA_s2 wA_whole wA_h0 wA_h1 wA_h2 wA_wg wA_t3 wA_w0 wA_w1 wA_w2 wA_w69 wA_w70 wA_w71 wA_w72 wA_one
set_option maxRecDepth 100000
theorem act1_0 [Base] (la mo T : Int) (G : List (List AV)) (a b c x : List AV) (Sl Bn : List (List AV)) (k s n af ea lt : Int)
    (ha : a.length = 22) (hb : b.length = 22) (hc : c.length = 22) (pa : plain a) (pb : plain b) (pc : plain c)
    (hk : k.tmod 5 = 1) (hs : s.tmod 3 = 0) (hk0 : 0 ≤ k ∧ k < 256) (hs0 : 0 ≤ s ∧ s < 256) (hn0 : 0 ≤ n ∧ n < 256) (h1 : 0 ≤ af ∧ af < 256) (h2 : 0 ≤ ea ∧ ea < 256) (h3 : 0 ≤ lt ∧ lt < 256) (hT : 1000 ≤ T ∧ T ≤ 1000000)
    (hx : x.length = 22) (px : plain x) (hla : 0 ≤ la ∧ la ≤ 1000)
    (hH : EC Tryd.prog 46 [] [.agg a, iv (n.tmod (la + 1))] [] (.tup [.agg x, iv 0])) :
    EC Tryd.prog 25 [] [.agg (wA [iv la, iv mo, .sl G] a b c [.sl Sl, .sl Bn, iv T, bv false]), evA k s n af ea lt] [] (.agg (wA [iv la, iv mo, .sl G] x b c [.sl Sl, .sl Bn, iv (T + af), bv false])) := by
  refine EC_of_awp tiOk mixed Tryd.func25 rfl rfl (by kernel_rfl) (by simp [Tryd.f25]) ?_
  simp only [start, List.zipIdx_cons, List.zipIdx_nil, List.map_cons, List.map_nil, List.length_nil, List.length_cons, Nat.zero_add, Nat.reduceAdd]
  have ya := pa.one
  have yb := pb.one
  have yc := pc.one
  have w1 : IntKind.i64.wrap af = af := wrap_ok (by omega) (by omega)
  have w2 : IntKind.i64.wrap (T + af) = T + af := wrap_ok (by omega) (by omega)
  have w3 : IntKind.i64.wrap ea = ea := wrap_ok (by omega) (by omega)
  have w4 : IntKind.i64.wrap (T + af - ea) = T + af - ea := wrap_ok (by omega) (by omega)
  have w5 : IntKind.i64.wrap lt = lt := wrap_ok (by omega) (by omega)
  have w6 : IntKind.i64.wrap (T + af + lt) = T + af + lt := wrap_ok (by omega) (by omega)
  have w7 : IntKind.i64.wrap s = s := wrap_ok (by omega) (by omega)
  have yx := px.one
  have ax := ha
  have tx : List.take 22 x = x := List.take_of_length_le (by omega)
  have w8 : IntKind.i64.wrap (la + 1) = la + 1 := wrap_ok (by omega) (by omega)
  have w9 : IntKind.i64.wrap n = n := wrap_ok (by omega) (by omega)
  have w10 : (la + 1 = 0) = False := eq_false (by omega)
  (repeat' (first | (with_reducible first | refine zqA (fun _ _ => ?_) | refine zqB ?_ | refine zqC ?_ | refine zqD ?_ | refine zqE ?_ | refine zqF ?_ | refine zqG ?_ | refine zqH ?_ | refine zqI ?_ | refine zqJ ?_ | refine zqK ?_ | refine zqL (by decide) ?_) | ((with_reducible first | refine zqM (fun _ _ => ?_) | refine zqN (fun _ _ => ?_)); simp only [go_sem, alist, adraw, seval, ha, hb, hc, ya, yb, yc, hx, yx, tx, ax, u8, w1, w2, w3, w4, w5, w6, w7, hk, w8, w9, w10, hs]) | (with_reducible first | refine And.intro trivial ?_ | apply_assumption -exfalso -symm)))
  refine zqO (by simp only [go_sem, alist, adraw, seval] <;> rfl) (fun h => absurd h (by simp)) (fun _ => ?_)
  (repeat' (first | (with_reducible first | refine zqA (fun _ _ => ?_) | refine zqB ?_ | refine zqC ?_ | refine zqD ?_ | refine zqE ?_ | refine zqF ?_ | refine zqG ?_ | refine zqH ?_ | refine zqI ?_ | refine zqJ ?_ | refine zqK ?_ | refine zqL (by decide) ?_) | ((with_reducible first | refine zqM (fun _ _ => ?_) | refine zqN (fun _ _ => ?_)); simp only [go_sem, alist, adraw, seval, ha, hb, hc, ya, yb, yc, hx, yx, tx, ax, u8, w1, w2, w3, w4, w5, w6, w7, hk, w8, w9, w10, hs]) | (with_reducible first | refine And.intro trivial ?_ | apply_assumption -exfalso -symm)))
  refine zqO (by simp only [go_sem, alist, adraw, seval] <;> rfl) (fun _ => ?_) (fun h => absurd h (by simp))
  (repeat' (first | (with_reducible first | refine zqA (fun _ _ => ?_) | refine zqB ?_ | refine zqC ?_ | refine zqD ?_ | refine zqE ?_ | refine zqF ?_ | refine zqG ?_ | refine zqH ?_ | refine zqI ?_ | refine zqJ ?_ | refine zqK ?_ | refine zqL (by decide) ?_) | ((with_reducible first | refine zqM (fun _ _ => ?_) | refine zqN (fun _ _ => ?_)); simp only [go_sem, alist, adraw, seval, ha, hb, hc, ya, yb, yc, hx, yx, tx, ax, u8, w1, w2, w3, w4, w5, w6, w7, hk, w8, w9, w10, hs]) | (with_reducible first | refine And.intro trivial ?_ | apply_assumption -exfalso -symm)))
  try refine ⟨by omega, ?_⟩
  refine ⟨[], _, CallEff.pure0 (hH) (by first | rfl | (simp only [List.map_cons, List.map_nil, AV.ren2, plain.map1 pa, plain.map1 pb, plain.map1 pc, plain.map1 px] <;> rfl)) (by first | rfl | (simp only [List.all_cons, List.all_nil, AV.ok2, plain.all1 pa, plain.all1 pb, plain.all1 pc, plain.all1 px] <;> rfl)) (by first | rfl | (simp only [AV.ren, List.map_cons, List.map_nil, AV.ren2, plain.map1 pa, plain.map1 pb, plain.map1 pc, plain.map1 px] <;> rfl)), ?_⟩; simp only [go_sem, alist, adraw, seval, ha, hb, hc, ya, yb, yc, hx, yx, tx, ax, u8, w1, w2, w3, w4, w5, w6, w7, hk, w8, w9, w10, hs]
  refine ⟨rfl, ?_⟩
  (repeat' (first | (with_reducible first | refine zqA (fun _ _ => ?_) | refine zqB ?_ | refine zqC ?_ | refine zqD ?_ | refine zqE ?_ | refine zqF ?_ | refine zqG ?_ | refine zqH ?_ | refine zqI ?_ | refine zqJ ?_ | refine zqK ?_ | refine zqL (by decide) ?_) | ((with_reducible first | refine zqM (fun _ _ => ?_) | refine zqN (fun _ _ => ?_)); simp only [go_sem, alist, adraw, seval, ha, hb, hc, ya, yb, yc, hx, yx, tx, ax, u8, w1, w2, w3, w4, w5, w6, w7, hk, w8, w9, w10, hs]) | (with_reducible first | refine And.intro trivial ?_ | apply_assumption -exfalso -symm)))
  try refine ⟨by omega, ?_⟩
  (repeat' (first | (with_reducible first | refine zqA (fun _ _ => ?_) | refine zqB ?_ | refine zqC ?_ | refine zqD ?_ | refine zqE ?_ | refine zqF ?_ | refine zqG ?_ | refine zqH ?_ | refine zqI ?_ | refine zqJ ?_ | refine zqK ?_ | refine zqL (by decide) ?_) | ((with_reducible first | refine zqM (fun _ _ => ?_) | refine zqN (fun _ _ => ?_)); simp only [go_sem, alist, adraw, seval, ha, hb, hc, ya, yb, yc, hx, yx, tx, ax, u8, w1, w2, w3, w4, w5, w6, w7, hk, w8, w9, w10, hs]) | (with_reducible first | refine And.intro trivial ?_ | apply_assumption -exfalso -symm)))
  simp only [retQ, Tryd.f25]; refine ret_pure (by simp only [resAll, resA, go_sem, alist, adraw, seval, ha, hb, hc, ya, yb, yc, hx, yx, tx, ax, u8, w1, w2, w3, w4, w5, w6, w7, hk, w8, w9, w10, hs]; rfl) rfl ?_ ?_ ?_ ?_
  · simp only [go_sem, alist, adraw, seval, ha, hb, hc, ya, yb, yc, hx, yx, tx, ax, u8, w1, w2, w3, w4, w5, w6, w7, hk, w8, w9, w10, hs]
  · rfl
  · exact wA_ren px pb pc _ _ _ _ _ _ _ _
  · exact wA_ok px pb pc _ _ _ _ _ _ _
theorem act1_1 [Base] (la mo T : Int) (G : List (List AV)) (a b c x : List AV) (Sl Bn : List (List AV)) (k s n af ea lt : Int)
    (ha : a.length = 22) (hb : b.length = 22) (hc : c.length = 22) (pa : plain a) (pb : plain b) (pc : plain c)
    (hk : k.tmod 5 = 1) (hs : s.tmod 3 = 1) (hk0 : 0 ≤ k ∧ k < 256) (hs0 : 0 ≤ s ∧ s < 256) (hn0 : 0 ≤ n ∧ n < 256) (h1 : 0 ≤ af ∧ af < 256) (h2 : 0 ≤ ea ∧ ea < 256) (h3 : 0 ≤ lt ∧ lt < 256) (hT : 1000 ≤ T ∧ T ≤ 1000000)
    (hx : x.length = 22) (px : plain x) (hla : 0 ≤ la ∧ la ≤ 1000)
    (hH : EC Tryd.prog 46 [] [.agg b, iv (n.tmod (la + 1))] [] (.tup [.agg x, iv 0])) :
    EC Tryd.prog 25 [] [.agg (wA [iv la, iv mo, .sl G] a b c [.sl Sl, .sl Bn, iv T, bv false]), evA k s n af ea lt] [] (.agg (wA [iv la, iv mo, .sl G] a x c [.sl Sl, .sl Bn, iv (T + af), bv false])) := by
  refine EC_of_awp tiOk mixed Tryd.func25 rfl rfl (by kernel_rfl) (by simp [Tryd.f25]) ?_
  simp only [start, List.zipIdx_cons, List.zipIdx_nil, List.map_cons, List.map_nil, List.length_nil, List.length_cons, Nat.zero_add, Nat.reduceAdd]
  have ya := pa.one
  have yb := pb.one
  have yc := pc.one
  have w1 : IntKind.i64.wrap af = af := wrap_ok (by omega) (by omega)
  have w2 : IntKind.i64.wrap (T + af) = T + af := wrap_ok (by omega) (by omega)
  have w3 : IntKind.i64.wrap ea = ea := wrap_ok (by omega) (by omega)
  have w4 : IntKind.i64.wrap (T + af - ea) = T + af - ea := wrap_ok (by omega) (by omega)
  have w5 : IntKind.i64.wrap lt = lt := wrap_ok (by omega) (by omega)
  have w6 : IntKind.i64.wrap (T + af + lt) = T + af + lt := wrap_ok (by omega) (by omega)
  have w7 : IntKind.i64.wrap s = s := wrap_ok (by omega) (by omega)
  have yx := px.one
  have ax := ha
  have tx : List.take 22 x = x := List.take_of_length_le (by omega)
  have w8 : IntKind.i64.wrap (la + 1) = la + 1 := wrap_ok (by omega) (by omega)
  have w9 : IntKind.i64.wrap n = n := wrap_ok (by omega) (by omega)
  have w10 : (la + 1 = 0) = False := eq_false (by omega)
  (repeat' (first | (with_reducible first | refine zqA (fun _ _ => ?_) | refine zqB ?_ | refine zqC ?_ | refine zqD ?_ | refine zqE ?_ | refine zqF ?_ | refine zqG ?_ | refine zqH ?_ | refine zqI ?_ | refine zqJ ?_ | refine zqK ?_ | refine zqL (by decide) ?_) | ((with_reducible first | refine zqM (fun _ _ => ?_) | refine zqN (fun _ _ => ?_)); simp only [go_sem, alist, adraw, seval, ha, hb, hc, ya, yb, yc, hx, yx, tx, ax, u8, w1, w2, w3, w4, w5, w6, w7, hk, w8, w9, w10, hs]) | (with_reducible first | refine And.intro trivial ?_ | apply_assumption -exfalso -symm)))
  refine zqO (by simp only [go_sem, alist, adraw, seval] <;> rfl) (fun h => absurd h (by simp)) (fun _ => ?_)
  (repeat' (first | (with_reducible first | refine zqA (fun _ _ => ?_) | refine zqB ?_ | refine zqC ?_ | refine zqD ?_ | refine zqE ?_ | refine zqF ?_ | refine zqG ?_ | refine zqH ?_ | refine zqI ?_ | refine zqJ ?_ | refine zqK ?_ | refine zqL (by decide) ?_) | ((with_reducible first | refine zqM (fun _ _ => ?_) | refine zqN (fun _ _ => ?_)); simp only [go_sem, alist, adraw, seval, ha, hb, hc, ya, yb, yc, hx, yx, tx, ax, u8, w1, w2, w3, w4, w5, w6, w7, hk, w8, w9, w10, hs]) | (with_reducible first | refine And.intro trivial ?_ | apply_assumption -exfalso -symm)))
  refine zqO (by simp only [go_sem, alist, adraw, seval] <;> rfl) (fun _ => ?_) (fun h => absurd h (by simp))
  (repeat' (first | (with_reducible first | refine zqA (fun _ _ => ?_) | refine zqB ?_ | refine zqC ?_ | refine zqD ?_ | refine zqE ?_ | refine zqF ?_ | refine zqG ?_ | refine zqH ?_ | refine zqI ?_ | refine zqJ ?_ | refine zqK ?_ | refine zqL (by decide) ?_) | ((with_reducible first | refine zqM (fun _ _ => ?_) | refine zqN (fun _ _ => ?_)); simp only [go_sem, alist, adraw, seval, ha, hb, hc, ya, yb, yc, hx, yx, tx, ax, u8, w1, w2, w3, w4, w5, w6, w7, hk, w8, w9, w10, hs]) | (with_reducible first | refine And.intro trivial ?_ | apply_assumption -exfalso -symm)))
  try refine ⟨by omega, ?_⟩
  refine ⟨[], _, CallEff.pure0 (hH) (by first | rfl | (simp only [List.map_cons, List.map_nil, AV.ren2, plain.map1 pa, plain.map1 pb, plain.map1 pc, plain.map1 px] <;> rfl)) (by first | rfl | (simp only [List.all_cons, List.all_nil, AV.ok2, plain.all1 pa, plain.all1 pb, plain.all1 pc, plain.all1 px] <;> rfl)) (by first | rfl | (simp only [AV.ren, List.map_cons, List.map_nil, AV.ren2, plain.map1 pa, plain.map1 pb, plain.map1 pc, plain.map1 px] <;> rfl)), ?_⟩; simp only [go_sem, alist, adraw, seval, ha, hb, hc, ya, yb, yc, hx, yx, tx, ax, u8, w1, w2, w3, w4, w5, w6, w7, hk, w8, w9, w10, hs]
  refine ⟨rfl, ?_⟩
  (repeat' (first | (with_reducible first | refine zqA (fun _ _ => ?_) | refine zqB ?_ | refine zqC ?_ | refine zqD ?_ | refine zqE ?_ | refine zqF ?_ | refine zqG ?_ | refine zqH ?_ | refine zqI ?_ | refine zqJ ?_ | refine zqK ?_ | refine zqL (by decide) ?_) | ((with_reducible first | refine zqM (fun _ _ => ?_) | refine zqN (fun _ _ => ?_)); simp only [go_sem, alist, adraw, seval, ha, hb, hc, ya, yb, yc, hx, yx, tx, ax, u8, w1, w2, w3, w4, w5, w6, w7, hk, w8, w9, w10, hs]) | (with_reducible first | refine And.intro trivial ?_ | apply_assumption -exfalso -symm)))
  try refine ⟨by omega, ?_⟩
  (repeat' (first | (with_reducible first | refine zqA (fun _ _ => ?_) | refine zqB ?_ | refine zqC ?_ | refine zqD ?_ | refine zqE ?_ | refine zqF ?_ | refine zqG ?_ | refine zqH ?_ | refine zqI ?_ | refine zqJ ?_ | refine zqK ?_ | refine zqL (by decide) ?_) | ((with_reducible first | refine zqM (fun _ _ => ?_) | refine zqN (fun _ _ => ?_)); simp only [go_sem, alist, adraw, seval, ha, hb, hc, ya, yb, yc, hx, yx, tx, ax, u8, w1, w2, w3, w4, w5, w6, w7, hk, w8, w9, w10, hs]) | (with_reducible first | refine And.intro trivial ?_ | apply_assumption -exfalso -symm)))
  simp only [retQ, Tryd.f25]; refine ret_pure (by simp only [resAll, resA, go_sem, alist, adraw, seval, ha, hb, hc, ya, yb, yc, hx, yx, tx, ax, u8, w1, w2, w3, w4, w5, w6, w7, hk, w8, w9, w10, hs]; rfl) rfl ?_ ?_ ?_ ?_
  · simp only [go_sem, alist, adraw, seval, ha, hb, hc, ya, yb, yc, hx, yx, tx, ax, u8, w1, w2, w3, w4, w5, w6, w7, hk, w8, w9, w10, hs]
  · rfl
  · exact wA_ren pa px pc _ _ _ _ _ _ _ _
  · exact wA_ok pa px pc _ _ _ _ _ _ _
theorem act1_2 [Base] (la mo T : Int) (G : List (List AV)) (a b c x : List AV) (Sl Bn : List (List AV)) (k s n af ea lt : Int)
    (ha : a.length = 22) (hb : b.length = 22) (hc : c.length = 22) (pa : plain a) (pb : plain b) (pc : plain c)
    (hk : k.tmod 5 = 1) (hs : s.tmod 3 = 2) (hk0 : 0 ≤ k ∧ k < 256) (hs0 : 0 ≤ s ∧ s < 256) (hn0 : 0 ≤ n ∧ n < 256) (h1 : 0 ≤ af ∧ af < 256) (h2 : 0 ≤ ea ∧ ea < 256) (h3 : 0 ≤ lt ∧ lt < 256) (hT : 1000 ≤ T ∧ T ≤ 1000000)
    (hx : x.length = 22) (px : plain x) (hla : 0 ≤ la ∧ la ≤ 1000)
    (hH : EC Tryd.prog 46 [] [.agg c, iv (n.tmod (la + 1))] [] (.tup [.agg x, iv 0])) :
    EC Tryd.prog 25 [] [.agg (wA [iv la, iv mo, .sl G] a b c [.sl Sl, .sl Bn, iv T, bv false]), evA k s n af ea lt] [] (.agg (wA [iv la, iv mo, .sl G] a b x [.sl Sl, .sl Bn, iv (T + af), bv false])) := by
  refine EC_of_awp tiOk mixed Tryd.func25 rfl rfl (by kernel_rfl) (by simp [Tryd.f25]) ?_
  simp only [start, List.zipIdx_cons, List.zipIdx_nil, List.map_cons, List.map_nil, List.length_nil, List.length_cons, Nat.zero_add, Nat.reduceAdd]
  have ya := pa.one
  have yb := pb.one
  have yc := pc.one
  have w1 : IntKind.i64.wrap af = af := wrap_ok (by omega) (by omega)
  have w2 : IntKind.i64.wrap (T + af) = T + af := wrap_ok (by omega) (by omega)
  have w3 : IntKind.i64.wrap ea = ea := wrap_ok (by omega) (by omega)
  have w4 : IntKind.i64.wrap (T + af - ea) = T + af - ea := wrap_ok (by omega) (by omega)
  have w5 : IntKind.i64.wrap lt = lt := wrap_ok (by omega) (by omega)
  have w6 : IntKind.i64.wrap (T + af + lt) = T + af + lt := wrap_ok (by omega) (by omega)
  have w7 : IntKind.i64.wrap s = s := wrap_ok (by omega) (by omega)
  have yx := px.one
  have ax := ha
  have tx : List.take 22 x = x := List.take_of_length_le (by omega)
  have w8 : IntKind.i64.wrap (la + 1) = la + 1 := wrap_ok (by omega) (by omega)
  have w9 : IntKind.i64.wrap n = n := wrap_ok (by omega) (by omega)
  have w10 : (la + 1 = 0) = False := eq_false (by omega)
  (repeat' (first | (with_reducible first | refine zqA (fun _ _ => ?_) | refine zqB ?_ | refine zqC ?_ | refine zqD ?_ | refine zqE ?_ | refine zqF ?_ | refine zqG ?_ | refine zqH ?_ | refine zqI ?_ | refine zqJ ?_ | refine zqK ?_ | refine zqL (by decide) ?_) | ((with_reducible first | refine zqM (fun _ _ => ?_) | refine zqN (fun _ _ => ?_)); simp only [go_sem, alist, adraw, seval, ha, hb, hc, ya, yb, yc, hx, yx, tx, ax, u8, w1, w2, w3, w4, w5, w6, w7, hk, w8, w9, w10, hs]) | (with_reducible first | refine And.intro trivial ?_ | apply_assumption -exfalso -symm)))
  refine zqO (by simp only [go_sem, alist, adraw, seval] <;> rfl) (fun h => absurd h (by simp)) (fun _ => ?_)
  (repeat' (first | (with_reducible first | refine zqA (fun _ _ => ?_) | refine zqB ?_ | refine zqC ?_ | refine zqD ?_ | refine zqE ?_ | refine zqF ?_ | refine zqG ?_ | refine zqH ?_ | refine zqI ?_ | refine zqJ ?_ | refine zqK ?_ | refine zqL (by decide) ?_) | ((with_reducible first | refine zqM (fun _ _ => ?_) | refine zqN (fun _ _ => ?_)); simp only [go_sem, alist, adraw, seval, ha, hb, hc, ya, yb, yc, hx, yx, tx, ax, u8, w1, w2, w3, w4, w5, w6, w7, hk, w8, w9, w10, hs]) | (with_reducible first | refine And.intro trivial ?_ | apply_assumption -exfalso -symm)))
  refine zqO (by simp only [go_sem, alist, adraw, seval] <;> rfl) (fun _ => ?_) (fun h => absurd h (by simp))
  (repeat' (first | (with_reducible first | refine zqA (fun _ _ => ?_) | refine zqB ?_ | refine zqC ?_ | refine zqD ?_ | refine zqE ?_ | refine zqF ?_ | refine zqG ?_ | refine zqH ?_ | refine zqI ?_ | refine zqJ ?_ | refine zqK ?_ | refine zqL (by decide) ?_) | ((with_reducible first | refine zqM (fun _ _ => ?_) | refine zqN (fun _ _ => ?_)); simp only [go_sem, alist, adraw, seval, ha, hb, hc, ya, yb, yc, hx, yx, tx, ax, u8, w1, w2, w3, w4, w5, w6, w7, hk, w8, w9, w10, hs]) | (with_reducible first | refine And.intro trivial ?_ | apply_assumption -exfalso -symm)))
  try refine ⟨by omega, ?_⟩
  refine ⟨[], _, CallEff.pure0 (hH) (by first | rfl | (simp only [List.map_cons, List.map_nil, AV.ren2, plain.map1 pa, plain.map1 pb, plain.map1 pc, plain.map1 px] <;> rfl)) (by first | rfl | (simp only [List.all_cons, List.all_nil, AV.ok2, plain.all1 pa, plain.all1 pb, plain.all1 pc, plain.all1 px] <;> rfl)) (by first | rfl | (simp only [AV.ren, List.map_cons, List.map_nil, AV.ren2, plain.map1 pa, plain.map1 pb, plain.map1 pc, plain.map1 px] <;> rfl)), ?_⟩; simp only [go_sem, alist, adraw, seval, ha, hb, hc, ya, yb, yc, hx, yx, tx, ax, u8, w1, w2, w3, w4, w5, w6, w7, hk, w8, w9, w10, hs]
  refine ⟨rfl, ?_⟩
  (repeat' (first | (with_reducible first | refine zqA (fun _ _ => ?_) | refine zqB ?_ | refine zqC ?_ | refine zqD ?_ | refine zqE ?_ | refine zqF ?_ | refine zqG ?_ | refine zqH ?_ | refine zqI ?_ | refine zqJ ?_ | refine zqK ?_ | refine zqL (by decide) ?_) | ((with_reducible first | refine zqM (fun _ _ => ?_) | refine zqN (fun _ _ => ?_)); simp only [go_sem, alist, adraw, seval, ha, hb, hc, ya, yb, yc, hx, yx, tx, ax, u8, w1, w2, w3, w4, w5, w6, w7, hk, w8, w9, w10, hs]) | (with_reducible first | refine And.intro trivial ?_ | apply_assumption -exfalso -symm)))
  try refine ⟨by omega, ?_⟩
  (repeat' (first | (with_reducible first | refine zqA (fun _ _ => ?_) | refine zqB ?_ | refine zqC ?_ | refine zqD ?_ | refine zqE ?_ | refine zqF ?_ | refine zqG ?_ | refine zqH ?_ | refine zqI ?_ | refine zqJ ?_ | refine zqK ?_ | refine zqL (by decide) ?_) | ((with_reducible first | refine zqM (fun _ _ => ?_) | refine zqN (fun _ _ => ?_)); simp only [go_sem, alist, adraw, seval, ha, hb, hc, ya, yb, yc, hx, yx, tx, ax, u8, w1, w2, w3, w4, w5, w6, w7, hk, w8, w9, w10, hs]) | (with_reducible first | refine And.intro trivial ?_ | apply_assumption -exfalso -symm)))
  simp only [retQ, Tryd.f25]; refine ret_pure (by simp only [resAll, resA, go_sem, alist, adraw, seval, ha, hb, hc, ya, yb, yc, hx, yx, tx, ax, u8, w1, w2, w3, w4, w5, w6, w7, hk, w8, w9, w10, hs]; rfl) rfl ?_ ?_ ?_ ?_
  · simp only [go_sem, alist, adraw, seval, ha, hb, hc, ya, yb, yc, hx, yx, tx, ax, u8, w1, w2, w3, w4, w5, w6, w7, hk, w8, w9, w10, hs]
  · rfl
  · exact wA_ren pa pb px _ _ _ _ _ _ _ _
  · exact wA_ok pa pb px _ _ _ _ _ _ _
end Am
end
section
namespace Am
open Go
attribute [local go_sem] true_implies false_implies List.take_length bne_self_eq_false beq_self_eq_true List.forall_mem_cons List.not_mem_nil false_imp_iff allOne_nil allOne_cons iv bv Value.oneCell' astep aexe asem AS.put AS.app AS.ev look eff effIf binE unE convE lenE loadE storeE fieldAddrE fieldE indexAddrE indexE sliceE low bound extractE pickE minE allocE boxE buildE buildSliceE makeSliceE appendE elsOf aliveB pairs fillA litEls partOf tdesc TI.isAgg KD.row AV.cells AV.one guardV Option.map_some Option.map_none Option.getD_some Option.bind_some Option.bind_none List.map_cons List.map_nil List.nil_append List.cons_append List.append_nil true_and and_true cond_true cond_false Nat.zero_add Nat.add_zero Nat.zero_mul Nat.mul_zero List.getElem?_cons_zero List.getElem?_cons_succ List.getElem?_nil List.getElem?_toArray List.length_cons List.length_nil List.size_toArray List.take_succ_cons List.take_zero List.drop_succ_cons List.drop_zero List.drop_nil List.take_nil List.set_cons_zero List.set_cons_succ Bool.not_true Bool.not_false List.flatMap_cons List.flatMap_nil idA false_and forall_eq implies_true Bool.false_eq_true imp_false not_true_eq_false not_false_eq_true goInt Int.toNat_natCast ne_eq Nat.le_refl and_self List.append_assoc AV.ren AV.ren2 AV.ren1 AV.ren0 updC List.zipIdx_cons List.zipIdx_nil rho Blk.ren frzT frzB frzA ti_2 ti_3 ti_4 ti_5 ti_9 ti_12 ti_13 ti_21 ti_22 ti_23 ti_24 ti_25 ti_26 ti_27 ti_28 ti_30 ti_35 ti_36 ti_37 ti_38 ti_43 ti_46 ti_47 ti_51 ti_52 ti_54 ti_55 ti_57 ti_58 ti_64 ti_65 ti_66 ti_67 ti_68 ti_69 ti_70 ti_71 ti_75 ti_76 ti_79 ti_80 ti_87 ti_88 ti_92 ti_112 ti_117 ti_118 ti_122 wA_len wA_0 wA_1 wA_g wA_69 wA_70 wA_71 wA_72 wA_s0 wA_s1 wA_s2 wA_whole wA_h0 wA_h1 wA_h2 wA_wg wA_t3 wA_w0 wA_w1 wA_w2 wA_w69 wA_w70 wA_w71 wA_w72 wA_one
set_option maxRecDepth 100000
theorem act2_0 [Base] (la mo T hd : Int) (G G2 : List (List AV)) (a b c : List AV) (Sl Bn : List (List AV)) (k s n af ea lt : Int)
    (ha : a.length = 22) (hb : b.length = 22) (hc : c.length = 22) (pa : plain a) (pb : plain b) (pc : plain c)
    (hk : k.tmod 5 = 2) (hs : s.tmod 3 = 0) (hk0 : 0 ≤ k ∧ k < 256) (hs0 : 0 ≤ s ∧ s < 256) (hn0 : 0 ≤ n ∧ n < 256) (h1 : 0 ≤ af ∧ af < 256) (h2 : 0 ≤ ea ∧ ea < 256) (h3 : 0 ≤ lt ∧ lt < 256) (hT : 1000 ≤ T ∧ T ≤ 1000000)
    (ax : a[1]? = some (.v (.int .i64 hd))) (hhd : 0 ≤ hd ∧ hd ≤ 1000)
    (hH : EC Tryd.prog 10 [] [.agg [iv la, iv mo, .sl G], iv 0, iv (n.tmod (hd + 1))] [] (.tup [.agg [iv la, iv mo, .sl G2], iv 0])) :
    EC Tryd.prog 25 [] [.agg (wA [iv la, iv mo, .sl G] a b c [.sl Sl, .sl Bn, iv T, bv false]), evA k s n af ea lt] [] (.agg (wA [iv la, iv mo, .sl G2] a b c [.sl Sl, .sl Bn, iv (T + af), bv false])) := by
  refine EC_of_awp tiOk mixed Tryd.func25 rfl rfl (by kernel_rfl) (by simp [Tryd.f25]) ?_
  simp only [start, List.zipIdx_cons, List.zipIdx_nil, List.map_cons, List.map_nil, List.length_nil, List.length_cons, Nat.zero_add, Nat.reduceAdd]
  have ya := pa.one
  have yb := pb.one
  have yc := pc.one
  have w1 : IntKind.i64.wrap af = af := wrap_ok (by omega) (by omega)
  have w2 : IntKind.i64.wrap (T + af) = T + af := wrap_ok (by omega) (by omega)
  have w3 : IntKind.i64.wrap ea = ea := wrap_ok (by omega) (by omega)
  have w4 : IntKind.i64.wrap (T + af - ea) = T + af - ea := wrap_ok (by omega) (by omega)
  have w5 : IntKind.i64.wrap lt = lt := wrap_ok (by omega) (by omega)
  have w6 : IntKind.i64.wrap (T + af + lt) = T + af + lt := wrap_ok (by omega) (by omega)
  have w7 : IntKind.i64.wrap s = s := wrap_ok (by omega) (by omega)
  have px := pa
  have hx := ha
  have yx := ya
  have tx := ha
  have w8 : IntKind.i64.wrap (hd + 1) = hd + 1 := wrap_ok (by omega) (by omega)
  have w9 : IntKind.i64.wrap n = n := wrap_ok (by omega) (by omega)
  have w10 : (hd + 1 = 0) = False := eq_false (by omega)
  (repeat' (first | (with_reducible first | refine zqA (fun _ _ => ?_) | refine zqB ?_ | refine zqC ?_ | refine zqD ?_ | refine zqE ?_ | refine zqF ?_ | refine zqG ?_ | refine zqH ?_ | refine zqI ?_ | refine zqJ ?_ | refine zqK ?_ | refine zqL (by decide) ?_) | ((with_reducible first | refine zqM (fun _ _ => ?_) | refine zqN (fun _ _ => ?_)); simp only [go_sem, alist, adraw, seval, ha, hb, hc, ya, yb, yc, hx, yx, tx, ax, u8, w1, w2, w3, w4, w5, w6, w7, hk, w8, w9, w10, hs]) | (with_reducible first | refine And.intro trivial ?_ | apply_assumption -exfalso -symm)))
  refine zqO (by simp only [go_sem, alist, adraw, seval] <;> rfl) (fun h => absurd h (by simp)) (fun _ => ?_)
  (repeat' (first | (with_reducible first | refine zqA (fun _ _ => ?_) | refine zqB ?_ | refine zqC ?_ | refine zqD ?_ | refine zqE ?_ | refine zqF ?_ | refine zqG ?_ | refine zqH ?_ | refine zqI ?_ | refine zqJ ?_ | refine zqK ?_ | refine zqL (by decide) ?_) | ((with_reducible first | refine zqM (fun _ _ => ?_) | refine zqN (fun _ _ => ?_)); simp only [go_sem, alist, adraw, seval, ha, hb, hc, ya, yb, yc, hx, yx, tx, ax, u8, w1, w2, w3, w4, w5, w6, w7, hk, w8, w9, w10, hs]) | (with_reducible first | refine And.intro trivial ?_ | apply_assumption -exfalso -symm)))
  refine zqO (by simp only [go_sem, alist, adraw, seval] <;> rfl) (fun h => absurd h (by simp)) (fun _ => ?_)
  (repeat' (first | (with_reducible first | refine zqA (fun _ _ => ?_) | refine zqB ?_ | refine zqC ?_ | refine zqD ?_ | refine zqE ?_ | refine zqF ?_ | refine zqG ?_ | refine zqH ?_ | refine zqI ?_ | refine zqJ ?_ | refine zqK ?_ | refine zqL (by decide) ?_) | ((with_reducible first | refine zqM (fun _ _ => ?_) | refine zqN (fun _ _ => ?_)); simp only [go_sem, alist, adraw, seval, ha, hb, hc, ya, yb, yc, hx, yx, tx, ax, u8, w1, w2, w3, w4, w5, w6, w7, hk, w8, w9, w10, hs]) | (with_reducible first | refine And.intro trivial ?_ | apply_assumption -exfalso -symm)))
  refine zqO (by simp only [go_sem, alist, adraw, seval] <;> rfl) (fun _ => ?_) (fun h => absurd h (by simp))
  (repeat' (first | (with_reducible first | refine zqA (fun _ _ => ?_) | refine zqB ?_ | refine zqC ?_ | refine zqD ?_ | refine zqE ?_ | refine zqF ?_ | refine zqG ?_ | refine zqH ?_ | refine zqI ?_ | refine zqJ ?_ | refine zqK ?_ | refine zqL (by decide) ?_) | ((with_reducible first | refine zqM (fun _ _ => ?_) | refine zqN (fun _ _ => ?_)); simp only [go_sem, alist, adraw, seval, ha, hb, hc, ya, yb, yc, hx, yx, tx, ax, u8, w1, w2, w3, w4, w5, w6, w7, hk, w8, w9, w10, hs]) | (with_reducible first | refine And.intro trivial ?_ | apply_assumption -exfalso -symm)))
  try refine ⟨by omega, ?_⟩
  refine ⟨[], _, CallEff.pure0 (hH) (by first | rfl | (simp only [List.map_cons, List.map_nil, AV.ren2, plain.map1 pa, plain.map1 pb, plain.map1 pc, plain.map1 px] <;> rfl)) (by first | rfl | (simp only [List.all_cons, List.all_nil, AV.ok2, plain.all1 pa, plain.all1 pb, plain.all1 pc, plain.all1 px] <;> rfl)) (by first | rfl | (simp only [AV.ren, List.map_cons, List.map_nil, AV.ren2, plain.map1 pa, plain.map1 pb, plain.map1 pc, plain.map1 px] <;> rfl)), ?_⟩; simp only [go_sem, alist, adraw, seval, ha, hb, hc, ya, yb, yc, hx, yx, tx, ax, u8, w1, w2, w3, w4, w5, w6, w7, hk, w8, w9, w10, hs]
  refine ⟨rfl, ?_⟩
  (repeat' (first | (with_reducible first | refine zqA (fun _ _ => ?_) | refine zqB ?_ | refine zqC ?_ | refine zqD ?_ | refine zqE ?_ | refine zqF ?_ | refine zqG ?_ | refine zqH ?_ | refine zqI ?_ | refine zqJ ?_ | refine zqK ?_ | refine zqL (by decide) ?_) | ((with_reducible first | refine zqM (fun _ _ => ?_) | refine zqN (fun _ _ => ?_)); simp only [go_sem, alist, adraw, seval, ha, hb, hc, ya, yb, yc, hx, yx, tx, ax, u8, w1, w2, w3, w4, w5, w6, w7, hk, w8, w9, w10, hs]) | (with_reducible first | refine And.intro trivial ?_ | apply_assumption -exfalso -symm)))
  simp only [retQ, Tryd.f25]; refine ret_pure (by simp only [resAll, resA, go_sem, alist, adraw, seval, ha, hb, hc, ya, yb, yc, hx, yx, tx, ax, u8, w1, w2, w3, w4, w5, w6, w7, hk, w8, w9, w10, hs]; rfl) rfl ?_ ?_ ?_ ?_
  · simp only [go_sem, alist, adraw, seval, ha, hb, hc, ya, yb, yc, hx, yx, tx, ax, u8, w1, w2, w3, w4, w5, w6, w7, hk, w8, w9, w10, hs]
  · rfl
  · exact wA_ren pa pb pc _ _ _ _ _ _ _ _
  · exact wA_ok pa pb pc _ _ _ _ _ _ _
theorem act2_1 [Base] (la mo T hd : Int) (G G2 : List (List AV)) (a b c : List AV) (Sl Bn : List (List AV)) (k s n af ea lt : Int)
    (ha : a.length = 22) (hb : b.length = 22) (hc : c.length = 22) (pa : plain a) (pb : plain b) (pc : plain c)
    (hk : k.tmod 5 = 2) (hs : s.tmod 3 = 1) (hk0 : 0 ≤ k ∧ k < 256) (hs0 : 0 ≤ s ∧ s < 256) (hn0 : 0 ≤ n ∧ n < 256) (h1 : 0 ≤ af ∧ af < 256) (h2 : 0 ≤ ea ∧ ea < 256) (h3 : 0 ≤ lt ∧ lt < 256) (hT : 1000 ≤ T ∧ T ≤ 1000000)
    (ax : b[1]? = some (.v (.int .i64 hd))) (hhd : 0 ≤ hd ∧ hd ≤ 1000)
    (hH : EC Tryd.prog 10 [] [.agg [iv la, iv mo, .sl G], iv 1, iv (n.tmod (hd + 1))] [] (.tup [.agg [iv la, iv mo, .sl G2], iv 0])) :
    EC Tryd.prog 25 [] [.agg (wA [iv la, iv mo, .sl G] a b c [.sl Sl, .sl Bn, iv T, bv false]), evA k s n af ea lt] [] (.agg (wA [iv la, iv mo, .sl G2] a b c [.sl Sl, .sl Bn, iv (T + af), bv false])) := by
  refine EC_of_awp tiOk mixed Tryd.func25 rfl rfl (by kernel_rfl) (by simp [Tryd.f25]) ?_
  simp only [start, List.zipIdx_cons, List.zipIdx_nil, List.map_cons, List.map_nil, List.length_nil, List.length_cons, Nat.zero_add, Nat.reduceAdd]
  have ya := pa.one
  have yb := pb.one
  have yc := pc.one
  have w1 : IntKind.i64.wrap af = af := wrap_ok (by omega) (by omega)
  have w2 : IntKind.i64.wrap (T + af) = T + af := wrap_ok (by omega) (by omega)
  have w3 : IntKind.i64.wrap ea = ea := wrap_ok (by omega) (by omega)
  have w4 : IntKind.i64.wrap (T + af - ea) = T + af - ea := wrap_ok (by omega) (by omega)
  have w5 : IntKind.i64.wrap lt = lt := wrap_ok (by omega) (by omega)
  have w6 : IntKind.i64.wrap (T + af + lt) = T + af + lt := wrap_ok (by omega) (by omega)
  have w7 : IntKind.i64.wrap s = s := wrap_ok (by omega) (by omega)
  have px := pa
  have hx := ha
  have yx := ya
  have tx := ha
  have w8 : IntKind.i64.wrap (hd + 1) = hd + 1 := wrap_ok (by omega) (by omega)
  have w9 : IntKind.i64.wrap n = n := wrap_ok (by omega) (by omega)
  have w10 : (hd + 1 = 0) = False := eq_false (by omega)
  (repeat' (first | (with_reducible first | refine zqA (fun _ _ => ?_) | refine zqB ?_ | refine zqC ?_ | refine zqD ?_ | refine zqE ?_ | refine zqF ?_ | refine zqG ?_ | refine zqH ?_ | refine zqI ?_ | refine zqJ ?_ | refine zqK ?_ | refine zqL (by decide) ?_) | ((with_reducible first | refine zqM (fun _ _ => ?_) | refine zqN (fun _ _ => ?_)); simp only [go_sem, alist, adraw, seval, ha, hb, hc, ya, yb, yc, hx, yx, tx, ax, u8, w1, w2, w3, w4, w5, w6, w7, hk, w8, w9, w10, hs]) | (with_reducible first | refine And.intro trivial ?_ | apply_assumption -exfalso -symm)))
  refine zqO (by simp only [go_sem, alist, adraw, seval] <;> rfl) (fun h => absurd h (by simp)) (fun _ => ?_)
  (repeat' (first | (with_reducible first | refine zqA (fun _ _ => ?_) | refine zqB ?_ | refine zqC ?_ | refine zqD ?_ | refine zqE ?_ | refine zqF ?_ | refine zqG ?_ | refine zqH ?_ | refine zqI ?_ | refine zqJ ?_ | refine zqK ?_ | refine zqL (by decide) ?_) | ((with_reducible first | refine zqM (fun _ _ => ?_) | refine zqN (fun _ _ => ?_)); simp only [go_sem, alist, adraw, seval, ha, hb, hc, ya, yb, yc, hx, yx, tx, ax, u8, w1, w2, w3, w4, w5, w6, w7, hk, w8, w9, w10, hs]) | (with_reducible first | refine And.intro trivial ?_ | apply_assumption -exfalso -symm)))
  refine zqO (by simp only [go_sem, alist, adraw, seval] <;> rfl) (fun h => absurd h (by simp)) (fun _ => ?_)
  (repeat' (first | (with_reducible first | refine zqA (fun _ _ => ?_) | refine zqB ?_ | refine zqC ?_ | refine zqD ?_ | refine zqE ?_ | refine zqF ?_ | refine zqG ?_ | refine zqH ?_ | refine zqI ?_ | refine zqJ ?_ | refine zqK ?_ | refine zqL (by decide) ?_) | ((with_reducible first | refine zqM (fun _ _ => ?_) | refine zqN (fun _ _ => ?_)); simp only [go_sem, alist, adraw, seval, ha, hb, hc, ya, yb, yc, hx, yx, tx, ax, u8, w1, w2, w3, w4, w5, w6, w7, hk, w8, w9, w10, hs]) | (with_reducible first | refine And.intro trivial ?_ | apply_assumption -exfalso -symm)))
  refine zqO (by simp only [go_sem, alist, adraw, seval] <;> rfl) (fun _ => ?_) (fun h => absurd h (by simp))
  (repeat' (first | (with_reducible first | refine zqA (fun _ _ => ?_) | refine zqB ?_ | refine zqC ?_ | refine zqD ?_ | refine zqE ?_ | refine zqF ?_ | refine zqG ?_ | refine zqH ?_ | refine zqI ?_ | refine zqJ ?_ | refine zqK ?_ | refine zqL (by decide) ?_) | ((with_reducible first | refine zqM (fun _ _ => ?_) | refine zqN (fun _ _ => ?_)); simp only [go_sem, alist, adraw, seval, ha, hb, hc, ya, yb, yc, hx, yx, tx, ax, u8, w1, w2, w3, w4, w5, w6, w7, hk, w8, w9, w10, hs]) | (with_reducible first | refine And.intro trivial ?_ | apply_assumption -exfalso -symm)))
  try refine ⟨by omega, ?_⟩
  refine ⟨[], _, CallEff.pure0 (hH) (by first | rfl | (simp only [List.map_cons, List.map_nil, AV.ren2, plain.map1 pa, plain.map1 pb, plain.map1 pc, plain.map1 px] <;> rfl)) (by first | rfl | (simp only [List.all_cons, List.all_nil, AV.ok2, plain.all1 pa, plain.all1 pb, plain.all1 pc, plain.all1 px] <;> rfl)) (by first | rfl | (simp only [AV.ren, List.map_cons, List.map_nil, AV.ren2, plain.map1 pa, plain.map1 pb, plain.map1 pc, plain.map1 px] <;> rfl)), ?_⟩; simp only [go_sem, alist, adraw, seval, ha, hb, hc, ya, yb, yc, hx, yx, tx, ax, u8, w1, w2, w3, w4, w5, w6, w7, hk, w8, w9, w10, hs]
  refine ⟨rfl, ?_⟩
  (repeat' (first | (with_reducible first | refine zqA (fun _ _ => ?_) | refine zqB ?_ | refine zqC ?_ | refine zqD ?_ | refine zqE ?_ | refine zqF ?_ | refine zqG ?_ | refine zqH ?_ | refine zqI ?_ | refine zqJ ?_ | refine zqK ?_ | refine zqL (by decide) ?_) | ((with_reducible first | refine zqM (fun _ _ => ?_) | refine zqN (fun _ _ => ?_)); simp only [go_sem, alist, adraw, seval, ha, hb, hc, ya, yb, yc, hx, yx, tx, ax, u8, w1, w2, w3, w4, w5, w6, w7, hk, w8, w9, w10, hs]) | (with_reducible first | refine And.intro trivial ?_ | apply_assumption -exfalso -symm)))
  simp only [retQ, Tryd.f25]; refine ret_pure (by simp only [resAll, resA, go_sem, alist, adraw, seval, ha, hb, hc, ya, yb, yc, hx, yx, tx, ax, u8, w1, w2, w3, w4, w5, w6, w7, hk, w8, w9, w10, hs]; rfl) rfl ?_ ?_ ?_ ?_
  · simp only [go_sem, alist, adraw, seval, ha, hb, hc, ya, yb, yc, hx, yx, tx, ax, u8, w1, w2, w3, w4, w5, w6, w7, hk, w8, w9, w10, hs]
  · rfl
  · exact wA_ren pa pb pc _ _ _ _ _ _ _ _
  · exact wA_ok pa pb pc _ _ _ _ _ _ _
theorem act2_2 [Base] (la mo T hd : Int) (G G2 : List (List AV)) (a b c : List AV) (Sl Bn : List (List AV)) (k s n af ea lt : Int)
    (ha : a.length = 22) (hb : b.length = 22) (hc : c.length = 22) (pa : plain a) (pb : plain b) (pc : plain c)
    (hk : k.tmod 5 = 2) (hs : s.tmod 3 = 2) (hk0 : 0 ≤ k ∧ k < 256) (hs0 : 0 ≤ s ∧ s < 256) (hn0 : 0 ≤ n ∧ n < 256) (h1 : 0 ≤ af ∧ af < 256) (h2 : 0 ≤ ea ∧ ea < 256) (h3 : 0 ≤ lt ∧ lt < 256) (hT : 1000 ≤ T ∧ T ≤ 1000000)
    (ax : c[1]? = some (.v (.int .i64 hd))) (hhd : 0 ≤ hd ∧ hd ≤ 1000)
    (hH : EC Tryd.prog 10 [] [.agg [iv la, iv mo, .sl G], iv 2, iv (n.tmod (hd + 1))] [] (.tup [.agg [iv la, iv mo, .sl G2], iv 0])) :
    EC Tryd.prog 25 [] [.agg (wA [iv la, iv mo, .sl G] a b c [.sl Sl, .sl Bn, iv T, bv false]), evA k s n af ea lt] [] (.agg (wA [iv la, iv mo, .sl G2] a b c [.sl Sl, .sl Bn, iv (T + af), bv false])) := by
  refine EC_of_awp tiOk mixed Tryd.func25 rfl rfl (by kernel_rfl) (by simp [Tryd.f25]) ?_
  simp only [start, List.zipIdx_cons, List.zipIdx_nil, List.map_cons, List.map_nil, List.length_nil, List.length_cons, Nat.zero_add, Nat.reduceAdd]
  have ya := pa.one
  have yb := pb.one
  have yc := pc.one
  have w1 : IntKind.i64.wrap af = af := wrap_ok (by omega) (by omega)
  have w2 : IntKind.i64.wrap (T + af) = T + af := wrap_ok (by omega) (by omega)
  have w3 : IntKind.i64.wrap ea = ea := wrap_ok (by omega) (by omega)
  have w4 : IntKind.i64.wrap (T + af - ea) = T + af - ea := wrap_ok (by omega) (by omega)
  have w5 : IntKind.i64.wrap lt = lt := wrap_ok (by omega) (by omega)
  have w6 : IntKind.i64.wrap (T + af + lt) = T + af + lt := wrap_ok (by omega) (by omega)
  have w7 : IntKind.i64.wrap s = s := wrap_ok (by omega) (by omega)
  have px := pa
  have hx := ha
  have yx := ya
  have tx := ha
  have w8 : IntKind.i64.wrap (hd + 1) = hd + 1 := wrap_ok (by omega) (by omega)
  have w9 : IntKind.i64.wrap n = n := wrap_ok (by omega) (by omega)
  have w10 : (hd + 1 = 0) = False := eq_false (by omega)
  (repeat' (first | (with_reducible first | refine zqA (fun _ _ => ?_) | refine zqB ?_ | refine zqC ?_ | refine zqD ?_ | refine zqE ?_ | refine zqF ?_ | refine zqG ?_ | refine zqH ?_ | refine zqI ?_ | refine zqJ ?_ | refine zqK ?_ | refine zqL (by decide) ?_) | ((with_reducible first | refine zqM (fun _ _ => ?_) | refine zqN (fun _ _ => ?_)); simp only [go_sem, alist, adraw, seval, ha, hb, hc, ya, yb, yc, hx, yx, tx, ax, u8, w1, w2, w3, w4, w5, w6, w7, hk, w8, w9, w10, hs]) | (with_reducible first | refine And.intro trivial ?_ | apply_assumption -exfalso -symm)))
  refine zqO (by simp only [go_sem, alist, adraw, seval] <;> rfl) (fun h => absurd h (by simp)) (fun _ => ?_)
  (repeat' (first | (with_reducible first | refine zqA (fun _ _ => ?_) | refine zqB ?_ | refine zqC ?_ | refine zqD ?_ | refine zqE ?_ | refine zqF ?_ | refine zqG ?_ | refine zqH ?_ | refine zqI ?_ | refine zqJ ?_ | refine zqK ?_ | refine zqL (by decide) ?_) | ((with_reducible first | refine zqM (fun _ _ => ?_) | refine zqN (fun _ _ => ?_)); simp only [go_sem, alist, adraw, seval, ha, hb, hc, ya, yb, yc, hx, yx, tx, ax, u8, w1, w2, w3, w4, w5, w6, w7, hk, w8, w9, w10, hs]) | (with_reducible first | refine And.intro trivial ?_ | apply_assumption -exfalso -symm)))
  refine zqO (by simp only [go_sem, alist, adraw, seval] <;> rfl) (fun h => absurd h (by simp)) (fun _ => ?_)
  (repeat' (first | (with_reducible first | refine zqA (fun _ _ => ?_) | refine zqB ?_ | refine zqC ?_ | refine zqD ?_ | refine zqE ?_ | refine zqF ?_ | refine zqG ?_ | refine zqH ?_ | refine zqI ?_ | refine zqJ ?_ | refine zqK ?_ | refine zqL (by decide) ?_) | ((with_reducible first | refine zqM (fun _ _ => ?_) | refine zqN (fun _ _ => ?_)); simp only [go_sem, alist, adraw, seval, ha, hb, hc, ya, yb, yc, hx, yx, tx, ax, u8, w1, w2, w3, w4, w5, w6, w7, hk, w8, w9, w10, hs]) | (with_reducible first | refine And.intro trivial ?_ | apply_assumption -exfalso -symm)))
  refine zqO (by simp only [go_sem, alist, adraw, seval] <;> rfl) (fun _ => ?_) (fun h => absurd h (by simp))
  (repeat' (first | (with_reducible first | refine zqA (fun _ _ => ?_) | refine zqB ?_ | refine zqC ?_ | refine zqD ?_ | refine zqE ?_ | refine zqF ?_ | refine zqG ?_ | refine zqH ?_ | refine zqI ?_ | refine zqJ ?_ | refine zqK ?_ | refine zqL (by decide) ?_) | ((with_reducible first | refine zqM (fun _ _ => ?_) | refine zqN (fun _ _ => ?_)); simp only [go_sem, alist, adraw, seval, ha, hb, hc, ya, yb, yc, hx, yx, tx, ax, u8, w1, w2, w3, w4, w5, w6, w7, hk, w8, w9, w10, hs]) | (with_reducible first | refine And.intro trivial ?_ | apply_assumption -exfalso -symm)))
  try refine ⟨by omega, ?_⟩
  refine ⟨[], _, CallEff.pure0 (hH) (by first | rfl | (simp only [List.map_cons, List.map_nil, AV.ren2, plain.map1 pa, plain.map1 pb, plain.map1 pc, plain.map1 px] <;> rfl)) (by first | rfl | (simp only [List.all_cons, List.all_nil, AV.ok2, plain.all1 pa, plain.all1 pb, plain.all1 pc, plain.all1 px] <;> rfl)) (by first | rfl | (simp only [AV.ren, List.map_cons, List.map_nil, AV.ren2, plain.map1 pa, plain.map1 pb, plain.map1 pc, plain.map1 px] <;> rfl)), ?_⟩; simp only [go_sem, alist, adraw, seval, ha, hb, hc, ya, yb, yc, hx, yx, tx, ax, u8, w1, w2, w3, w4, w5, w6, w7, hk, w8, w9, w10, hs]
  refine ⟨rfl, ?_⟩
  (repeat' (first | (with_reducible first | refine zqA (fun _ _ => ?_) | refine zqB ?_ | refine zqC ?_ | refine zqD ?_ | refine zqE ?_ | refine zqF ?_ | refine zqG ?_ | refine zqH ?_ | refine zqI ?_ | refine zqJ ?_ | refine zqK ?_ | refine zqL (by decide) ?_) | ((with_reducible first | refine zqM (fun _ _ => ?_) | refine zqN (fun _ _ => ?_)); simp only [go_sem, alist, adraw, seval, ha, hb, hc, ya, yb, yc, hx, yx, tx, ax, u8, w1, w2, w3, w4, w5, w6, w7, hk, w8, w9, w10, hs]) | (with_reducible first | refine And.intro trivial ?_ | apply_assumption -exfalso -symm)))
  simp only [retQ, Tryd.f25]; refine ret_pure (by simp only [resAll, resA, go_sem, alist, adraw, seval, ha, hb, hc, ya, yb, yc, hx, yx, tx, ax, u8, w1, w2, w3, w4, w5, w6, w7, hk, w8, w9, w10, hs]; rfl) rfl ?_ ?_ ?_ ?_
  · simp only [go_sem, alist, adraw, seval, ha, hb, hc, ya, yb, yc, hx, yx, tx, ax, u8, w1, w2, w3, w4, w5, w6, w7, hk, w8, w9, w10, hs]
  · rfl
  · exact wA_ren pa pb pc _ _ _ _ _ _ _ _
  · exact wA_ok pa pb pc _ _ _ _ _ _ _
end Am
end
end Go.Proofs.YteblnmhaohbkkaaDoor
