/- Contracts: slices.DeleteFunc at api.Row, with a closure over two blocks. -/
import Derived.Test.YtcgdhankllphgaaRoX
namespace Go.Proofs.Ytcgdhankllphgaa
set_option linter.unusedVariables false
set_option linter.unusedSimpArgs false
namespace Ro
open Go.RowKit
set_option maxRecDepth 100000 in
set_option maxHeartbeats 4000000 in
theorem delete_any (v : Value) (l : List Rw) (pb pp : Value) (O : Nat) (J : World → Prop) (JB : ∀ X X' : World, J X → Below O X X' → J X') (p : Rw → Bool) (w : World) (GON : ∀ (x : Rw) (W : World), J W → x ∈ l → Calls Try.prog 51 #[.agg (encR x).toArray, pb, pp] W fun e w' => e = .returned (.bool (p x)) ∧ Below W.heap.size W w') (hJ : J w) (hO : O ≤ w.heap.size) (hown : OwnR 72 4 encR w O v l) (hm : l.length ≤ 1000000) :
    Calls Try.prog 71 #[v, .func (.func 51) #[] #[pb, pp]] w fun e w' =>
      (∃ a c, e = .returned (.slice a (l.filter fun x => ! p x).length c) ∧ RwA w' a (l.filter fun x => ! p x)) ∧ Below O w w' := by
  obtain ⟨a, c, rfl, hcap, hv⟩ := OwnR.view encR_len hown
  have IX := Lib.hid (index_any a c l pb pp O J JB p w GON hJ hO hv hm)
  have HJ := Lib.hid hJ
  have JB := Lib.hid JB
  have GON := Lib.hid GON
  have HV := Lib.hid hv
  have HW := Lib.hid hown
  have LF := Lib.hid (show ∀ j, j = l.length → (l.take j).filter (fun x => ! p x) = l.filter (fun x => ! p x) from fun j h => by rw [h, List.take_length])
  obtain ⟨F, hF⟩ : ∃ F, l.filter (fun x => ! p x) = F := ⟨_, rfl⟩
  have HF := Lib.hid hF
  rw [hF] at LF ⊢
  obtain ⟨N, hN⟩ : ∃ N, l.length = N := ⟨_, rfl⟩
  have HE := Lib.hid hN
  rw [hN] at hm hcap IX HW LF ⊢
  have HO := Lib.hid hO
  clear hv hN hJ hO hown hF
  go_enter Try.func71, Try.ntmps71
  go_wp2_with fail
  refine (IX.out).mono ?_
  rintro e w1 ⟨⟨r, rfl, hr⟩, hb⟩
  have B1 := Lib.hid (hb.mono HO.out)
  rcases hr with ⟨rfl, hr⟩ | ⟨i0, rfl, hi0, hp0, hr⟩
  · have EF := Lib.hid (show F = l from by
      rw [← LF.out N rfl, filter_none _ _ _ r0 (by rw [HE.out]; exact Nat.le_refl _) (fun k hk => by rw [hr k hk]; rfl)]
      rw [← HE.out, List.take_length])
    have LE := Lib.hid (show F.length = N by rw [EF.out]; exact HE.out)
    clear hr
    have RV := Lib.hid (HV.out.mono hb)
    clear hb
    go_wp2
    refine bodyPost_ret (by simp [results, Try.results71, go_sem]; try rfl) rfl ?_
    exact ⟨⟨a, c, by rw [LE.out], by rw [EF.out]; exact RV.out⟩, B1.out⟩
  · have O1 := Lib.hid (OwnR.below HW.out hb)
    have HS := Lib.hid (show l.take i0 = (l.take (i0 + 1)).filter (fun x => ! p x) from by
      rw [filter_step _ _ _ r0 (by rw [HE.out]; exact hi0), if_neg (by rw [hp0]; simp), List.append_nil]
      exact (filter_none _ _ _ r0 (by rw [HE.out]; omega) (fun k hk => by rw [hr k hk]; rfl)).symm)
    obtain ⟨g, rfl, -⟩ := own_at O1.out (i := i0) (by rw [HE.out]; exact hi0)
    clear hb hr hp0 HV HW IX
    have n1 : ((i0 : Int) == -1) = false := by simp
    have w0 : IntKind.i64.wrap ((i0 : Int) + 1) = (i0 : Int) + 1 := by rw [IntKind.wrap_i64]; omega
    go_wp2
    go_loopw [5, 6, 7] (fun u5 u6 _ wr => ∃ (i j : Nat) (m : List Rw), u5 = .int .i64 i ∧ u6 = .int .i64 j ∧ i < j ∧ j ≤ N ∧ Hid (m.length = N) ∧ Hid (m.take i = (l.take j).filter (fun x => ! p x)) ∧ Hid (m.drop j = l.drop j) ∧ Hid (OwnR 72 4 encR wr O (.slice (some ⟨g, 0, none⟩) N c) m) ∧ Hid (Below O w wr)) (fun _ u6 _ _ => (N - intOf u6).toNat)
    case atStart => exact ⟨i0, i0 + 1, l, rfl, by go_num, by omega, by omega, HE, HS, Lib.hid rfl, O1, B1⟩
    case round =>
      clear n1 w0 O1 B1 HS hi0
      obtain ⟨i, j, m, rfl, rfl, hij, hj, hml, hta, hdr, ho, hbe⟩ := hrel
      by_cases hlt : j < N
      · have t0 : decide ((j : Int) < (N : Int)) = true := decide_eq_true (by omega)
        have hmem : l.getD j r0 ∈ l := by
          rw [List.getD_eq_getElem?_getD, List.getElem?_eq_getElem (by rw [HE.out]; exact hlt)]; exact List.getElem_mem _
        have C := Lib.hid (fun (W : World) (h : J W) => GON.out (l.getD j r0) W h hmem)
        have Fsq := Lib.hid (filter_step (fun x => ! p x) l j r0 (by rw [HE.out]; exact hlt))
        obtain ⟨g', hg', -, hB7, q0, q1, q2, q3, fz⟩ := own_at ho.out (i := j) (by rw [hml.out]; exact hlt)
        obtain rfl : g = g' := by injection hg' with h; injection h
        rw [getD_drop m l j r0 hdr.out] at q0 q1 q2 q3
        obtain ⟨x, hx⟩ : ∃ y, l.getD j r0 = y := ⟨_, rfl⟩
        rw [hx] at q0 q1 q2 q3 C Fsq
        have DN := Lib.hid (drop_next _ _ _ hdr.out)
        clear hx hmem hg'
        obtain ⟨x1, x2, x3, x4⟩ := x
        simp only [encR] at q0 q1 q2 q3 C
        have j0 : (0 : Int) ≤ (j : Int) := by omega
        have jN : (j : Int) < (N : Int) := by omega
        have wj : IntKind.i64.wrap ((j : Int) + 1) = (j : Int) + 1 := by rw [IntKind.wrap_i64]; omega
        have wi : IntKind.i64.wrap ((i : Int) + 1) = (i : Int) + 1 := by rw [IntKind.wrap_i64]; omega
        obtain ⟨G, hG⟩ : ∃ G, wr.heap.size = G := ⟨_, rfl⟩
        have KC := Lib.hid (show Blk (wr.alloc (.cells #[.int .i64 x1, .int .i64 x2, .int .i64 x3, .int .i64 x4] 72)) G 72 #[.int .i64 x1, .int .i64 x2, .int .i64 x3, .int .i64 x4] from Blk.new' wr _ _ _ hG rfl)
        have O3 := Lib.hid (OwnR.alloc ho.out (.cells #[.int .i64 x1, .int .i64 x2, .int .i64 x3, .int .i64 x4] 72))
        have B3 := Lib.hid (hbe.out.alloc (show O ≤ wr.heap.size from Nat.le_trans HO.out hbe.out.size) (.cells #[.int .i64 x1, .int .i64 x2, .int .i64 x3, .int .i64 x4] 72))
        go_upto_region 8 with (fail)
        try rw [hG]
        generalize hw3 : wr.alloc (.cells #[.int .i64 x1, .int .i64 x2, .int .i64 x3, .int .i64 x4] 72) = w3 at KC O3 B3 ⊢
        clear hw3 hG q0 q1 q2 q3 fz ho hbe
        have J3 := Lib.hid (JB.out _ _ HJ.out B3.out)
        obtain ⟨m0, m1, m2, m3⟩ := four KC.out
        cases hpx : p (x1, x2, x3, x4)
        · rw [hpx] at C
          rw [show (if (fun x => ! p x) (x1, x2, x3, x4) = true then [(x1, x2, x3, x4)] else []) = [(x1, x2, x3, x4)] by simp [hpx]] at Fsq
          clear hpx
          go_wp2_with fail
          refine (C.out _ J3.out).mono ?_
          rintro e w5 ⟨rfl, hb⟩
          replace KC := Lib.hid (KC.out.below hb KC.out.lt)
          have O5 := Lib.hid (OwnR.below O3.out hb)
          have B5 := Lib.hid (B3.out.trans (hb.mono (Nat.le_trans HO.out B3.out.size)))
          clear hb O3 B3 J3 m0 m1 m2 m3
          obtain ⟨m0, m1, m2, m3⟩ := four KC.out
          have hi7 : i < m.length := by rw [hml.out]; omega
          obtain ⟨g2, hg2, -, -, q0, q1, q2, q3, fz⟩ := own_at O5.out hi7
          obtain rfl : g = g2 := by injection hg2 with h; injection h
          have ST1 := own_set (j := 0) O5.out hi7 (by decide) (.int .i64 x1) (x1, (m.getD i r0).2.1, (m.getD i r0).2.2.1, (m.getD i r0).2.2.2) rfl
          have ST2 := own_set (j := 1) ST1 (by rw [List.length_set]; exact hi7) (by decide) (.int .i64 x2) (x1, x2, (m.getD i r0).2.2.1, (m.getD i r0).2.2.2) (by rw [getDs _ _ _ hi7]; rfl)
          have ST3 := own_set (j := 2) ST2 (by rw [List.length_set, List.length_set]; exact hi7) (by decide) (.int .i64 x3) (x1, x2, x3, (m.getD i r0).2.2.2) (by rw [getDs _ _ _ (by rw [List.length_set]; exact hi7)]; rfl)
          have ST4 := own_set (j := 3) ST3 (by rw [List.length_set, List.length_set, List.length_set]; exact hi7) (by decide) (.int .i64 x4) (x1, x2, x3, x4) (by rw [getDs _ _ _ (by rw [List.length_set, List.length_set]; exact hi7)]; rfl)
          rw [List.set_set, List.set_set, List.set_set] at ST4
          simp only [Nat.add_zero] at ST4
          have ST := Lib.hid ST4
          have BS := Lib.hid ((((B5.out.setCell (p := ⟨g, i * 4, none⟩) (show O ≤ g from hB7) (.int .i64 x1)).setCell (p := ⟨g, i * 4 + 1, none⟩) (show O ≤ g from hB7) (.int .i64 x2)).setCell (p := ⟨g, i * 4 + 2, none⟩) (show O ≤ g from hB7) (.int .i64 x3)).setCell (p := ⟨g, i * 4 + 3, none⟩) (show O ≤ g from hB7) (.int .i64 x4))
          have HT := Lib.hid (show (m.set i (x1, x2, x3, x4)).take (i + 1) = (l.take (j + 1)).filter (fun x => ! p x) from by rw [keep_step _ _ _ hi7, hta.out, Fsq.out])
          have HD := Lib.hid (show (m.set i (x1, x2, x3, x4)).drop (j + 1) = l.drop (j + 1) from by rw [drop_set_lt _ _ _ _ (by omega)]; exact DN.out)
          have HL := Lib.hid (show (m.set i (x1, x2, x3, x4)).length = N by rw [List.length_set]; exact hml.out)
          clear hi7 O5 ST1 ST2 ST3 ST4 hg2 B5 hta hdr hml Fsq DN
          have i0 : (0 : Int) ≤ (i : Int) := by omega
          have iN : (i : Int) < (N : Int) := by omega
          go_upto_region 10 with (fail)
          generalize hw7 : (((w5.setCell ⟨g, i * 4, none⟩ (.int .i64 x1)).setCell ⟨g, i * 4 + 1, none⟩ (.int .i64 x2)).setCell ⟨g, i * 4 + 2, none⟩ (.int .i64 x3)).setCell ⟨g, i * 4 + 3, none⟩ (.int .i64 x4) = w10 at ST BS ⊢
          clear hw7 q0 q1 q2 q3 fz m0 m1 m2 m3 KC
          go_wp2
          go_roundw
          case rel => exact ⟨i + 1, j + 1, m.set i (x1, x2, x3, x4), by go_num, by go_num, by omega, by omega, HL, HT, HD, ST, BS⟩
          case measure => simp [intOf]; omega
        · rw [hpx] at C
          rw [show (if (fun x => ! p x) (x1, x2, x3, x4) = true then [(x1, x2, x3, x4)] else []) = [] by simp [hpx], List.append_nil] at Fsq
          clear hpx
          go_wp2_with fail
          refine (C.out _ J3.out).mono ?_
          rintro e w5 ⟨rfl, hb⟩
          have O5 := Lib.hid (OwnR.below O3.out hb)
          have B5 := Lib.hid (B3.out.trans (hb.mono (Nat.le_trans HO.out B3.out.size)))
          clear hb O3 B3 J3 m0 m1 m2 m3 KC
          have HT := Lib.hid (show m.take i = (l.take (j + 1)).filter (fun x => ! p x) from by rw [hta.out, Fsq.out])
          clear hta hdr Fsq
          go_wp2
          go_roundw
          case rel => exact ⟨i, j + 1, m, rfl, by go_num, by omega, by omega, hml, HT, DN, O5, B5⟩
          case measure => simp [intOf]; omega
      · obtain rfl : j = N := by omega
        have t0 : decide ((j : Int) < (j : Int)) = false := decide_eq_false (by omega)
        have hT := hta.out
        rw [LF.out j rfl] at hT
        obtain ⟨g', cap', cur, e', hB7, hlc, hcm, hg, hsz, htk⟩ := OwnR.row ho.out (by rw [hml.out]; omega)
        injection e' with e1 e2 e3
        injection e1 with e1; injection e1 with e1
        subst e1; subst e3
        have hmj : m.length = j := hml.out
        have hFl : F.length = i := by rw [← hT, List.length_take, hmj]; omega
        have hin : i ≤ j := by omega
        obtain ⟨vs, hvl, hrun⟩ := run_clear_rowK (P := Try.prog) wr 22 72 4 (.agg #[.int .i64 0, .int .i64 0, .int .i64 0, .int .i64 0]) g (i * 4) (j - i) (c - i) cur 72 Try.underlying22 (fun W => by kernel_rfl) rfl (by decide) hg (by rw [hsz]; omega) (by omega) (by decide)
        have htA : cur.toList.take (i * 4) = F.flatMap encR := by
          have : (cur.toList.take (m.length * 4)).take (i * 4) = F.flatMap encR := by
            rw [htk, ← hT]
            have e : m.flatMap encR = (m.take i).flatMap encR ++ (m.drop i).flatMap encR := by rw [← List.flatMap_append, List.take_append_drop]
            rw [e, List.take_left' (by rw [flat_len encR_len, List.length_take, hmj, Nat.min_eq_left hin])]
          rw [List.take_take, Nat.min_eq_left (by omega)] at this
          exact this
        have RF := Lib.hid (show RwA (wr.setRow g (splice cur.toList (i * 4) vs).toArray) (some ⟨g, 0, none⟩) F from rows_of_take (setRow_heap wr g _ _ _ _ hg) (by rw [List.toList_toArray, hFl, take_splice _ _ _ _ (Nat.le_refl _) (by rw [Array.length_toList, hsz]; omega)]; exact htA))
        have BF := Lib.hid (show Below O w (wr.setRow g (splice cur.toList (i * 4) vs).toArray) from below_setRow hbe.out hB7 _)
        generalize hw9 : wr.setRow g (splice cur.toList (i * 4) vs).toArray = w9 at RF BF hrun
        have HRUN := Lib.hid hrun
        have HFL := Lib.hid hFl
        have hne : ¬ (c = i) := by omega
        have hic : i ≤ c := by omega
        have c63 : c ≤ 9223372036854775807 := by unfold maxLen at hcm; omega
        clear hw9 hrun htA hvl htk hsz hg hT hta hdr ho hbe hml hmj hFl hlc hcm e2
        go_wp2_with (refine wpList_clear_run rfl _ _ rfl _ w9 rfl rfl (HRUN.out _) ?_)
        refine bodyPost_ret (by simp [results, Try.results71, go_sem]; try rfl) rfl ?_
        exact ⟨⟨some ⟨g, 0, none⟩, ⟨c, by rw [HFL.out]⟩, RF.out⟩, BF.out⟩
end Ro
end Go.Proofs.Ytcgdhankllphgaa
