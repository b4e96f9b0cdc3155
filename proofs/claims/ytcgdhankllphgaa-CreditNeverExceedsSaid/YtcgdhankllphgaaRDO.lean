import Derived.Test.YtcgdhankllphgaaRDL
import Derived.Deep.Cut
namespace Go.Proofs.Ytcgdhankllphgaa
set_option linter.unusedVariables false
set_option linter.unusedSimpArgs false
set_option linter.unusedSectionVars false
open Go.RowKit Go.Sort
set_option maxRecDepth 100000 in
set_option maxHeartbeats 4000000 in
theorem deal_ok (cap len : Int) (a : Option Addr) (c : Nat) (l : List Rw) (wi ga n : Int) (w : World) (hp : RwA w a l) (ok : OkB cap len l) (p1 : winOk wi) (p2 : gateOk ga) (p3 : 1 ≤ n ∧ n ≤ 1073741824) (h : ¬ (cap < outL l wi + n ∨ 1099511627776 < dealtL l wi ga + n ∨ (hasC (cR wi ga) l = false ∧ 10000 ≤ l.length))) :
    Calls Try.prog 10 #[.agg #[.int .i64 cap, .int .i64 len, .slice a l.length c], .int .i64 wi, .int .i64 ga, .int .i64 n] w fun e w' => (∃ a' c', e = .returned (.tuple #[.agg #[.int .i64 cap, .int .i64 len, .slice a' (dealL l wi ga n).length c'], .int .i64 0]) ∧ RwA w' a' (dealL l wi ga n) ∧ ∀ p, a' = some p → w.heap.size ≤ p.block) ∧ Below w.heap.size w w' := by
  have HP := Lib.hid hp
  have hm := ok.head.2.2
  have OB := outK_bd ok wi l.length (Nat.le_refl _)
  have DB := dealt_bd ok wi ga
  have C := Lib.hid (fun (X : World) (h : RwA X a l) => valid_yes ok a c X h)
  have C1 := Lib.hid (fun W => win_yes p1 W)
  have C2 := Lib.hid (fun W => gate_yes p2 W)
  have C3 := Lib.hid (fun W => within_yes (n := n) (a := 1) (b := 1073741824) p3 W)
  have OU := Lib.hid (fun (X : World) (h : RwA X a l) => out_any cap len a c l wi X h ok)
  have DE := Lib.hid (fun (X : World) (h : RwA X a l) => dealt_any cap len a c l wi ga X h ok)
  have RW := Lib.hid (fun (X : World) (h : RwA X a l) => row_any cap len a c l wi ga X h (by omega))
  have FV := Lib.hid (fun (i : Nat) (f : Bool) (h : Found (cR wi ga) l (.returned (.tuple #[.int .i64 i, .bool f]))) => (h.val.2.2 (ok.ord.mono wi ga) : i = posC (cR wi ga) l ∧ f = hasC (cR wi ga) l))
  have FL := Lib.hid (fun (i : Nat) (f : Bool) (h : Found (cR wi ga) l (.returned (.tuple #[.int .i64 i, .bool f]))) => And.intro h.val.1 h.val.2.1)
  have OC := ok.head.1
  change 0 ≤ outL l wi ∧ outL l wi ≤ _ at OB
  have CL := Lib.hid (fun (X : World) (h : RwA X a l) => Ro.clone_any a c l X h (by omega))
  have HDL := Lib.hid (show dealL l wi ga n = if hasC (cR wi ga) l = true then l.set (posC (cR wi ga) l) ((l.getD (posC (cR wi ga) l) r0).1, (l.getD (posC (cR wi ga) l) r0).2.1, (l.getD (posC (cR wi ga) l) r0).2.2.1 + n, (l.getD (posC (cR wi ga) l) r0).2.2.2) else insL l (posC (cR wi ga) l) (wi, ga, n, 0) from rfl)
  have HDD := Lib.hid (show dealtL l wi ga = if hasC (cR wi ga) l = true then (l.getD (posC (cR wi ga) l) r0).2.2.1 else 0 from rfl)
  have LM := Lib.hid hm
  obtain ⟨N, hN⟩ : ∃ N, l.length = N := ⟨_, rfl⟩
  have HE := Lib.hid hN
  simp only [hN] at C OU DE RW FL
  rw [hN] at hm OB
  obtain ⟨O, hO⟩ : ∃ O, outL l wi = O := ⟨_, rfl⟩
  obtain ⟨D, hD⟩ : ∃ D, dealtL l wi ga = D := ⟨_, rfl⟩
  rw [hO] at OU OB
  rw [hD] at DE DB
  have O2 : 0 ≤ O ∧ O ≤ 10995116277760000 := by omega
  have w1' : IntKind.i64.wrap (O + n) = O + n := by rw [IntKind.wrap_i64]; omega
  have w2' : IntKind.i64.wrap (D + n) = D + n := by rw [IntKind.wrap_i64]; omega
  obtain ⟨P, hP⟩ : ∃ P, O + n = P := ⟨_, rfl⟩
  obtain ⟨Q, hQ⟩ : ∃ P, D + n = P := ⟨_, rfl⟩
  have pb : 0 ≤ P ∧ P ≤ 90000000000000000 := by omega
  have qb : 0 ≤ Q ∧ Q ≤ 9000000000000000 := by omega
  rw [hO, hD, hN, hP, hQ] at h
  rw [hN]
  rw [hP] at w1'
  rw [hQ] at w2'
  simp only [hN] at CL
  have HQD := Lib.hid (show dealtL l wi ga + n = Q by rw [hD]; exact hQ)
  clear hp ok hO hD p1 p2
  have hl1 : ¬ cap < P := fun q => h (Or.inl q)
  have hl2 : ¬ 1099511627776 < Q := fun q => h (Or.inr (Or.inl q))
  have L3 := Lib.hid (show hasC (cR wi ga) l = false → N < 10000 from fun q => by
    rcases Nat.lt_or_ge N 10000 with h2 | h2
    · exact h2
    · exact absurd (Or.inr (Or.inr ⟨q, h2⟩)) h)
  have t1 : decide (cap < P) = false := decide_eq_false hl1
  have t2 : decide (1099511627776 < Q) = false := decide_eq_false hl2
  have QL := Lib.hid hl2
  clear h hl1 hl2 hN
  go_enter Try.func10, Try.ntmps10
  go_wp2_with fail
  refine (C.out _ (HP.out.mono (by (repeat' (first | (with_reducible exact Below.refl _ _) | (with_reducible assumption) | (with_reducible refine Below.alloc ?_ ?_ _) | (with_reducible refine Below.drew ?_) | (with_reducible refine below_dn ?_) | (with_reducible refine Below.setCell ?_ ?_ _) | (with_reducible exact Nat.le_refl _) | omega | (simp only [World.size_alloc, World.size_setCell, World.size_drew]; omega) | (simp; omega) | (simp; done)))))).mono ?_
  rintro e w1 ⟨rfl, hb⟩
  have K1 := Lib.hid (show Blk w1 w.heap.size 24 #[.int .i64 cap, .int .i64 len, .slice a N c] from ((Blk.new' w _ _ _ rfl rfl).alloc _).below hb (by simp; omega))
  have K2 := Lib.hid (show Blk w1 (w.heap.size + 1) 24 #[.int .i64 0, .int .i64 0, .slice none 0 0] from (Blk.new' _ _ _ _ (World.size_alloc _ _) rfl).below hb (by simp))
  have B := Lib.hid (bt (show Below w.heap.size w ((w.alloc (.cells #[.int .i64 cap, .int .i64 len, .slice a N c] 24)).alloc (.cells #[.int .i64 0, .int .i64 0, .slice none 0 0] 24)) by (repeat' (first | (with_reducible exact Below.refl _ _) | (with_reducible assumption) | (with_reducible refine Below.alloc ?_ ?_ _) | (with_reducible refine Below.drew ?_) | (with_reducible refine below_dn ?_) | (with_reducible refine Below.setCell ?_ ?_ _) | (with_reducible exact Nat.le_refl _) | omega | (simp only [World.size_alloc, World.size_setCell, World.size_drew]; omega) | (simp; omega) | (simp; done)))) hb)
  clear hb
  obtain ⟨d0, d1, d2⟩ := three K1.out
  obtain ⟨h0, h1, h2⟩ := three K2.out
  have fz := fun q => K2.out.frozen q
  go_wp2_with fail
  refine (C1.out _).mono ?_
  rintro e wz ⟨rfl, rfl⟩
  go_wp2_with fail
  refine (C2.out _).mono ?_
  rintro e wz ⟨rfl, rfl⟩
  go_wp2_with fail
  refine (C3.out _).mono ?_
  rintro e wz ⟨rfl, rfl⟩
  clear d0 d1 d2 h0 h1 h2 fz
  obtain ⟨d0, d1, d2⟩ := three K1.out
  go_wp2_with fail
  refine (RW.out _ (HP.out.mono B.out)).mono ?_
  rintro e w2 ⟨hf, hb⟩
  obtain ⟨i, f, rfl, H0⟩ := hf.tell
  have V := Lib.hid (FV.out i f H0)
  have fl := FL.out i f H0
  replace K1 := Lib.hid (K1.out.below hb K1.out.lt); replace K2 := Lib.hid (K2.out.below hb K2.out.lt); replace B := Lib.hid (bt B.out hb)
  clear hb hf H0 d0 d1 d2 C C1 C2 C3 RW FV FL
  cases f
  · have HI := Lib.hid fl.1
    clear fl
    have hnl := L3.out V.out.2.symm
    have t3 : decide ((10000 : Int) ≤ (N : Int)) = false := decide_eq_false (by omega)
    obtain ⟨d0, d1, d2⟩ := three K1.out
    have HP2 := Lib.hid (HP.out.mono B.out)
    have QO := Lib.hid (fun (d : Nat) (os : Array Obj) => OU.out (grow (redrawn w2 d) os) (HP2.out.mono (below_regrown _ _ _)))
    have QD := Lib.hid (fun (d : Nat) (os : Array Obj) => DE.out (grow (redrawn w2 d) os) (HP2.out.mono (below_regrown _ _ _)))
    have gc := grow_cell3
    have z1 := K1.out.lt
    go_wp2_with fail
    refine wp_region_quiet_below (by kernel_rfl) (by kernel_rfl) ?_
    repeat (go_big_quiet_step (first | (with_reducible exact Calls.regrown_of (QO.out _ _)) | (with_reducible exact Calls.regrown_of (QD.out _ _))))
    refine wpQuiet_nil ?_
    intro w5 hw'
    obtain ⟨⟨dq, osq⟩, hw''⟩ := hw'
    have hb := below_of_grow3 hw''
    clear hw'' gc QO QD z1 HP2 d0 d1 d2
    replace K1 := Lib.hid (K1.out.below hb K1.out.lt)
    replace K2 := Lib.hid (K2.out.below hb K2.out.lt)
    replace B := Lib.hid (bt B.out hb)
    clear hb
    obtain ⟨d0, d1, d2⟩ := three K1.out
    go_wp2_with fail
    refine (CL.out _ (HP.out.mono B.out)).mono ?_
    rintro e w6 ⟨v6, rfl, ho, hb⟩
    obtain ⟨Z, hZ⟩ : ∃ Z, w5.heap.size = Z := ⟨_, rfl⟩
    have HZ := Lib.hid (show w.heap.size + 2 ≤ Z by have := K2.out.lt; omega)
    have O6 := Lib.hid (show OwnR 72 4 encR w6 Z v6 l by rw [← hZ]; exact ho)
    have B6Z := Lib.hid (show Z ≤ w6.heap.size by rw [← hZ]; exact hb.size)
    replace K1 := Lib.hid (K1.out.below hb K1.out.lt)
    replace K2 := Lib.hid (K2.out.below hb K2.out.lt)
    replace B := Lib.hid (bt B.out hb)
    have fq := K1.out.frozen 2
    clear hb ho d0 d1 d2 CL
    obtain ⟨d0, d1, d2⟩ := three K1.out
    replace O6 := Lib.hid (OwnR.far O6.out (p := ⟨w.heap.size, 2, none⟩) (show w.heap.size < Z by have := HZ.out; omega) v6)
    have fz2 := K1.out.frozen
    replace K1 := Lib.hid (show Blk (w6.setCell ⟨w.heap.size, 2, none⟩ v6) w.heap.size 24 #[.int .i64 cap, .int .i64 len, v6] from K1.out.set_ 2 v6)
    replace K2 := Lib.hid (K2.out.far (p := ⟨w.heap.size, 2, none⟩) (by simp) v6)
    replace B := Lib.hid (B.out.setCell (p := ⟨w.heap.size, 2, none⟩) (Nat.le_refl _) v6)
    have IN := Lib.hid (fun (X : World) (vb : Nat) (o : OwnR 72 4 encR X Z v6 l) (hB : Z ≤ X.heap.size) (hx : Blk X vb 72 (encR (wi, ga, 0, 0)).toArray) (hvb : ∀ k, v6.ownBlock = some k → vb ≠ k) => Ro.ins_any v6 l i (wi, ga, 0, 0) vb Z X o (by rw [HE.out]; exact HI.out) (by rw [HE.out]; have := LM.out; rw [HE.out] at this; omega) hB hx hvb)
    obtain ⟨a6, c6, rfl, -, -⟩ := OwnR.view encR_len O6.out
    go_upto_region 8 with (fail)
    replace B6Z := Lib.hid (show Z ≤ (w6.setCell ⟨w.heap.size, 2, none⟩ (.slice a6 l.length c6)).heap.size by have := B6Z.out; simp; omega)
    generalize hw7 : w6.setCell ⟨w.heap.size, 2, none⟩ (.slice a6 l.length c6) = w7 at O6 K1 K2 B B6Z ⊢
    clear hw7 d0 d1 d2 hZ fq fz2
    obtain ⟨d0, d1, d2⟩ := three K1.out
    have OLT := Lib.hid (fun k hk => (own_lt O6.out k hk).2)
    have ZW := Lib.hid (show Z ≤ w7.heap.size by have := B6Z.out; exact this)
    go_wp2_with fail
    refine (IN.out _ w7.heap.size (OwnR.alloc O6.out _) (by have := ZW.out; simp; omega) (Blk.new w7 _ _) (fun k hk => by have := OLT.out k hk; omega)).mono ?_
    rintro e w8 ⟨v8, rfl, ho8, hb8⟩
    have zz := HZ.out
    have K1' := Lib.hid ((K1.out.alloc (.cells #[.int .i64 wi, .int .i64 ga, .int .i64 0, .int .i64 0] 72)).below hb8 (by omega))
    have K2' := Lib.hid ((K2.out.alloc (.cells #[.int .i64 wi, .int .i64 ga, .int .i64 0, .int .i64 0] 72)).below hb8 (by omega))
    have B' := Lib.hid ((B.out.alloc B.out.size (.cells #[.int .i64 wi, .int .i64 ga, .int .i64 0, .int .i64 0] 72)).trans (hb8.mono (by omega)))
    have O8 := Lib.hid ho8
    clear zz hb8 ho8 IN O6 d0 d1 d2 OLT ZW
    obtain ⟨d0, d1, d2⟩ := three K1'.out
    have fz2 := K1'.out.frozen
    obtain ⟨a7, c7, rfl, -, -⟩ := OwnR.view encR_len O8.out
    obtain ⟨l7, hl7⟩ : ∃ l7, insL l i (wi, ga, 0, 0) = l7 := ⟨_, rfl⟩
    rw [hl7] at O8
    have O9 := Lib.hid (OwnR.far O8.out (p := ⟨w.heap.size, 2, none⟩) (show w.heap.size < Z by have := HZ.out; omega) (.slice a7 l7.length c7))
    clear K1 K2 B
    have K1 := Lib.hid (show Blk (w8.setCell ⟨w.heap.size, 2, none⟩ (.slice a7 l7.length c7)) w.heap.size 24 #[.int .i64 cap, .int .i64 len, .slice a7 l7.length c7] from K1'.out.set_ 2 _)
    have K2 := Lib.hid (K2'.out.far (p := ⟨w.heap.size, 2, none⟩) (by simp) (.slice a7 l7.length c7))
    have B := Lib.hid (B'.out.setCell (p := ⟨w.heap.size, 2, none⟩) (Nat.le_refl _) (.slice a7 l7.length c7))
    try rw [hl7]
    go_upto_region 9 with (fail)
    try rw [hl7]
    generalize hw7 : w8.setCell ⟨w.heap.size, 2, none⟩ (.slice a7 l7.length c7) = w7' at O9 K1 K2 B ⊢
    clear hw7 d0 d1 d2 fz2 O8 K1' K2' B'
    have O7 := O9
    have hi7 : i < l7.length := by rw [← hl7, insL_len _ _ _ (by rw [HE.out]; exact HI.out), HE.out]; have := HI.out; omega
    have HL7 := Lib.hid hl7
    clear O9 hl7
    obtain ⟨g7, rfl, hn7, hB7, e0, e1, e2, e3, fz7⟩ := own_at O7.out hi7
    clear hn7
    obtain ⟨x1, x2, x3, x4, hx⟩ : ∃ x1 x2 x3 x4, l7.getD i r0 = (x1, x2, x3, x4) := ⟨_, _, _, _, rfl⟩
    rw [hx] at e0 e1 e2 e3
    simp only at e0 e1 e2 e3
    have hx3 : x3 = 0 := by
      have h1 := getD_insL l i (wi, ga, 0, 0) (by rw [HE.out]; exact HI.out)
      rw [HL7.out, hx] at h1
      injection h1 with _ h1; injection h1 with _ h1; injection h1
    have hx3b : -10 ≤ x3 ∧ x3 ≤ 10 := by omega
    clear hx3
    have w3' : IntKind.i64.wrap (x3 + n) = x3 + n := by rw [IntKind.wrap_i64]; omega
    have ST := Lib.hid (own_set (j := 2) O7.out hi7 (by decide) (.int .i64 (x3 + n)) (x1, x2, x3 + n, x4) (by rw [hx]; rfl))
    have EQ := Lib.hid (show l7.set i (x1, x2, x3 + n, x4) = dealL l wi ga n from by
      have h1 := getD_insL l i (wi, ga, 0, 0) (by rw [HE.out]; exact HI.out)
      rw [HL7.out, hx] at h1
      rw [← HL7.out, set_insL _ _ _ _ (by rw [HE.out]; exact HI.out), HDL.out, ← V.out.2, ← V.out.1, if_neg (by simp)]
      injection h1 with h1 h2; injection h2 with h2 h3; injection h3 with h3 h4
      rw [h1, h2, h3, h4, Int.zero_add])
    have i0 : (0 : Int) ≤ (i : Int) := by omega
    have iN : (i : Int) < (l7.length : Int) := by omega
    obtain ⟨d0, d1, d2⟩ := three K1.out
    have ne1 : w.heap.size ≠ g7 := by have := HZ.out; omega
    have ne2 : w.heap.size + 1 ≠ g7 := by have := HZ.out; omega
    replace K1 := Lib.hid (K1.out.far (p := ⟨g7, i * 4 + 2, none⟩) ne1 (.int .i64 (x3 + n)))
    replace K2 := Lib.hid (K2.out.far (p := ⟨g7, i * 4 + 2, none⟩) ne2 (.int .i64 (x3 + n)))
    replace B := Lib.hid (B.out.setCell (p := ⟨g7, i * 4 + 2, none⟩) (show w.heap.size ≤ g7 by have := HZ.out; omega) (.int .i64 (x3 + n)))
    obtain ⟨q7, hq7⟩ : ∃ q, l7.length = q := ⟨_, rfl⟩
    have LQ := Lib.hid (show (dealL l wi ga n).length = q7 by rw [← EQ.out, List.length_set]; exact hq7)
    rw [hq7] at ST K1 d2 iN ⊢
    clear hx O7 e0 e1 e3 hq7
    go_upto_region 10 with (fail)
    generalize hw8 : w7'.setCell ⟨g7, i * 4 + 2, none⟩ (.int .i64 (x3 + n)) = w8 at ST K1 K2 B ⊢
    clear hw8 d0 d1 d2 e2 fz7
    obtain ⟨d0, d1, d2⟩ := three K1.out
    obtain ⟨h0, h1, h2⟩ := three K2.out
    have fz := fun q => K2.out.frozen q
    go_wp2
    have K3 := Lib.hid (K2.out.set3 (.int .i64 cap) (.int .i64 len) (.slice (some ⟨g7, 0, none⟩) q7 c7))
    have B3 := Lib.hid (below_set3 B.out (Nat.le_succ _) (.int .i64 cap) (.int .i64 len) (.slice (some ⟨g7, 0, none⟩) q7 c7))
    have O3 := Lib.hid (own_far3 ST.out (show w.heap.size + 1 < Z from by have := HZ.out; omega) (.int .i64 cap) (.int .i64 len) (.slice (some ⟨g7, 0, none⟩) q7 c7))
    simp only [set3] at K3 B3 O3
    generalize hw2 : ((w8.setCell ⟨w.heap.size + 1, 0, none⟩ (.int .i64 cap)).setCell ⟨w.heap.size + 1, 1, none⟩ (.int .i64 len)).setCell ⟨w.heap.size + 1, 2, none⟩ (.slice (some ⟨g7, 0, none⟩) q7 c7) = w9 at K3 B3 O3 ⊢
    clear hw2 h0 h1 h2 fz d0 d1 d2
    obtain ⟨d0, d1, d2⟩ := three K3.out
    refine bodyPost_ret (by simp [results, Try.results10, go_sem, d0, d1, d2]; try rfl) rfl ?_
    refine ⟨⟨some ⟨g7, 0, none⟩, c7, by rw [LQ.out], ?_, fun p hp => by have := OwnR.block O3.out p hp; have := HZ.out; omega⟩, B3.out⟩
    obtain ⟨av, cv, ev, -, hv⟩ := OwnR.view encR_len O3.out
    injection ev with ev1
    subst ev1
    rw [← EQ.out]
    exact hv
  · have HI := Lib.hid (fl.2 rfl)
    clear fl L3
    obtain ⟨d0, d1, d2⟩ := three K1.out
    have HP2 := Lib.hid (HP.out.mono B.out)
    have QO := Lib.hid (fun (d : Nat) (os : Array Obj) => OU.out (grow (redrawn w2 d) os) (HP2.out.mono (below_regrown _ _ _)))
    have QD := Lib.hid (fun (d : Nat) (os : Array Obj) => DE.out (grow (redrawn w2 d) os) (HP2.out.mono (below_regrown _ _ _)))
    have gc := grow_cell3
    have z1 := K1.out.lt
    go_wp2_with fail
    refine wp_region_quiet_below (by kernel_rfl) (by kernel_rfl) ?_
    repeat (go_big_quiet_step (first | (with_reducible exact Calls.regrown_of (QO.out _ _)) | (with_reducible exact Calls.regrown_of (QD.out _ _))))
    refine wpQuiet_nil ?_
    intro w5 hw'
    obtain ⟨⟨dq, osq⟩, hw''⟩ := hw'
    have hb := below_of_grow3 hw''
    clear hw'' gc QO QD z1 HP2 d0 d1 d2
    replace K1 := Lib.hid (K1.out.below hb K1.out.lt)
    replace K2 := Lib.hid (K2.out.below hb K2.out.lt)
    replace B := Lib.hid (bt B.out hb)
    clear hb
    obtain ⟨d0, d1, d2⟩ := three K1.out
    go_wp2_with fail
    refine (CL.out _ (HP.out.mono B.out)).mono ?_
    rintro e w6 ⟨v6, rfl, ho, hb⟩
    obtain ⟨Z, hZ⟩ : ∃ Z, w5.heap.size = Z := ⟨_, rfl⟩
    have HZ := Lib.hid (show w.heap.size + 2 ≤ Z by have := K2.out.lt; omega)
    have O6 := Lib.hid (show OwnR 72 4 encR w6 Z v6 l by rw [← hZ]; exact ho)
    have B6Z := Lib.hid (show Z ≤ w6.heap.size by rw [← hZ]; exact hb.size)
    replace K1 := Lib.hid (K1.out.below hb K1.out.lt)
    replace K2 := Lib.hid (K2.out.below hb K2.out.lt)
    replace B := Lib.hid (bt B.out hb)
    have fq := K1.out.frozen 2
    clear hb ho d0 d1 d2 CL
    obtain ⟨d0, d1, d2⟩ := three K1.out
    replace O6 := Lib.hid (OwnR.far O6.out (p := ⟨w.heap.size, 2, none⟩) (show w.heap.size < Z by have := HZ.out; omega) v6)
    have fz2 := K1.out.frozen
    replace K1 := Lib.hid (show Blk (w6.setCell ⟨w.heap.size, 2, none⟩ v6) w.heap.size 24 #[.int .i64 cap, .int .i64 len, v6] from K1.out.set_ 2 v6)
    replace K2 := Lib.hid (K2.out.far (p := ⟨w.heap.size, 2, none⟩) (by simp) v6)
    replace B := Lib.hid (B.out.setCell (p := ⟨w.heap.size, 2, none⟩) (Nat.le_refl _) v6)
    obtain ⟨a7, c7, rfl, -, -⟩ := OwnR.view encR_len O6.out
    go_upto_region 9 with (fail)
    generalize hw7 : w6.setCell ⟨w.heap.size, 2, none⟩ (.slice a7 l.length c7) = w7 at O6 K1 K2 B ⊢
    clear hw7 d0 d1 d2 hZ fq fz2
    have O7 := O6
    obtain ⟨l7, hl7⟩ : ∃ l7, l = l7 := ⟨_, rfl⟩
    have hi7 : i < l7.length := by rw [← hl7, HE.out]; exact HI.out
    rw [hl7] at O7 K1 ⊢
    clear O6
    obtain ⟨g7, rfl, hn7, hB7, e0, e1, e2, e3, fz7⟩ := own_at O7.out hi7
    clear hn7
    obtain ⟨x1, x2, x3, x4, hx⟩ : ∃ x1 x2 x3 x4, l7.getD i r0 = (x1, x2, x3, x4) := ⟨_, _, _, _, rfl⟩
    rw [hx] at e0 e1 e2 e3
    simp only at e0 e1 e2 e3
    have hv : x3 + n = Q := by
      have h1 := HDD.out
      rw [← V.out.2, ← V.out.1, hl7] at h1
      rw [if_pos rfl, hx] at h1
      simp only at h1
      have := HQD.out
      rw [hl7] at this
      omega
    have hx3 : -10 ≤ x3 ∧ x3 ≤ 1099511627776 := by have := QL.out; omega
    clear hv
    have w3' : IntKind.i64.wrap (x3 + n) = x3 + n := by rw [IntKind.wrap_i64]; omega
    have ST := Lib.hid (own_set (j := 2) O7.out hi7 (by decide) (.int .i64 (x3 + n)) (x1, x2, x3 + n, x4) (by rw [hx]; rfl))
    have EQ := Lib.hid (show l7.set i (x1, x2, x3 + n, x4) = dealL l wi ga n from by
      rw [← hl7, HDL.out, ← V.out.2, ← V.out.1, hl7, hx]
      rfl)
    have i0 : (0 : Int) ≤ (i : Int) := by omega
    have iN : (i : Int) < (l7.length : Int) := by omega
    obtain ⟨d0, d1, d2⟩ := three K1.out
    have ne1 : w.heap.size ≠ g7 := by have := HZ.out; omega
    have ne2 : w.heap.size + 1 ≠ g7 := by have := HZ.out; omega
    replace K1 := Lib.hid (K1.out.far (p := ⟨g7, i * 4 + 2, none⟩) ne1 (.int .i64 (x3 + n)))
    replace K2 := Lib.hid (K2.out.far (p := ⟨g7, i * 4 + 2, none⟩) ne2 (.int .i64 (x3 + n)))
    replace B := Lib.hid (B.out.setCell (p := ⟨g7, i * 4 + 2, none⟩) (show w.heap.size ≤ g7 by have := HZ.out; omega) (.int .i64 (x3 + n)))
    obtain ⟨q7, hq7⟩ : ∃ q, l7.length = q := ⟨_, rfl⟩
    have LQ := Lib.hid (show (dealL l wi ga n).length = q7 by rw [← EQ.out, List.length_set]; exact hq7)
    rw [hq7] at ST K1 d2 iN ⊢
    clear hx O7 e0 e1 e3 hq7
    go_upto_region 10 with (fail)
    generalize hw8 : w7.setCell ⟨g7, i * 4 + 2, none⟩ (.int .i64 (x3 + n)) = w8 at ST K1 K2 B ⊢
    clear hw8 d0 d1 d2 e2 fz7
    obtain ⟨d0, d1, d2⟩ := three K1.out
    obtain ⟨h0, h1, h2⟩ := three K2.out
    have fz := fun q => K2.out.frozen q
    go_wp2
    have K3 := Lib.hid (K2.out.set3 (.int .i64 cap) (.int .i64 len) (.slice (some ⟨g7, 0, none⟩) q7 c7))
    have B3 := Lib.hid (below_set3 B.out (Nat.le_succ _) (.int .i64 cap) (.int .i64 len) (.slice (some ⟨g7, 0, none⟩) q7 c7))
    have O3 := Lib.hid (own_far3 ST.out (show w.heap.size + 1 < Z from by have := HZ.out; omega) (.int .i64 cap) (.int .i64 len) (.slice (some ⟨g7, 0, none⟩) q7 c7))
    simp only [set3] at K3 B3 O3
    generalize hw2 : ((w8.setCell ⟨w.heap.size + 1, 0, none⟩ (.int .i64 cap)).setCell ⟨w.heap.size + 1, 1, none⟩ (.int .i64 len)).setCell ⟨w.heap.size + 1, 2, none⟩ (.slice (some ⟨g7, 0, none⟩) q7 c7) = w9 at K3 B3 O3 ⊢
    clear hw2 h0 h1 h2 fz d0 d1 d2
    obtain ⟨d0, d1, d2⟩ := three K3.out
    refine bodyPost_ret (by simp [results, Try.results10, go_sem, d0, d1, d2]; try rfl) rfl ?_
    refine ⟨⟨some ⟨g7, 0, none⟩, c7, by rw [LQ.out], ?_, fun p hp => by have := OwnR.block O3.out p hp; have := HZ.out; omega⟩, B3.out⟩
    obtain ⟨av, cv, ev, -, hv⟩ := OwnR.view encR_len O3.out
    injection ev with ev1
    subst ev1
    rw [← EQ.out]
    exact hv
end Go.Proofs.Ytcgdhankllphgaa
