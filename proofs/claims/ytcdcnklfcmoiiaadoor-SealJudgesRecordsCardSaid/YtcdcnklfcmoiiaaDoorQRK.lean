/- Contracts: checks of records, reference. -/
import Derived.Test.YtcdcnklfcmoiiaaDoorQRP
import Derived.Test.YtcdcnklfcmoiiaaDoorQC1
import Derived.Test.YtcdcnklfcmoiiaaDoorQSE
namespace Go.Proofs.YtcdcnklfcmoiiaaDoor
set_option linter.unusedVariables false
set_option linter.unusedSimpArgs false
open Go.RowKit Go.Sort
theorem rsite_yes {n : Int} (h : 0 ≤ n ∧ n < 64) (w : World) : Calls Tryd.prog 79 #[.int .i64 n] w fun e w' => e = .returned (.bool true) ∧ w = w' := by
  obtain ⟨h1, h2⟩ := h
  go_enter Tryd.func79, Tryd.ntmps79
  go_wp2
  go_ret
  exact ⟨rfl, rfl⟩
theorem rsite_no {n : Int} (h : ¬ (0 ≤ n ∧ n < 64)) (w : World) : Calls Tryd.prog 79 #[.int .i64 n] w fun e w' => e = .returned (.bool false) ∧ w = w' := by
  by_cases h1 : 0 ≤ n
  · have h2 : decide (n < 64) = false := decide_eq_false (by omega)
    clear h
    go_enter Tryd.func79, Tryd.ntmps79
    go_wp2
    go_ret
    exact ⟨rfl, rfl⟩
  · have h2 : decide (0 ≤ n) = false := decide_eq_false h1
    clear h h1
    go_enter Tryd.func79, Tryd.ntmps79
    go_wp2
    go_ret
    exact ⟨rfl, rfl⟩
set_option maxRecDepth 100000 in
set_option maxHeartbeats 1000000 in
theorem rcheckStamp_any (a : Option Addr) (c : Nat) (l : List Rw) (ad va tg : ByteArray) (st sz lo hi ga se : Int) (B : List Nat) (S : List Nat) (w : World) (hp : RwA w a l) (ok : RingOk l) (hB : B.length = 16) (hb : ∀ x ∈ B, x < 256) (hS : S.length = 16) (hst : i64Ok st) (hsz : i64Ok sz) (hlo : i64Ok lo) (hhi : i64Ok hi) (hga : i64Ok ga) (hse : i64Ok se) (hT : ad.size ≤ 200 ∧ va.size ≤ 200 ∧ tg.size ≤ 200) (hlk : Hs.LaidK w) :
    Calls Tryd.prog 48 #[.slice a l.length c, .agg (recC [.string ad, .string va, .int .i64 st, .int .i64 sz] B [.string tg, .int .i64 lo, .int .i64 hi, .int .i64 ga, .int .i64 se] S)] w fun e w' => e = .returned (.int .i64 (chkE l (ga) (se) 41 (stampP ad va tg st sz lo hi ga se B) S lo hi)) ∧ Below w.heap.size w w' := by
  have HLK := Lib.hid hlk
  have HR0 := Lib.hid hp
  have LP := Lib.hid (show ∀ X : World, Calls Tryd.prog 31 #[.agg (recC [.string ad, .string va, .int .i64 st, .int .i64 sz] B [.string tg, .int .i64 lo, .int .i64 hi, .int .i64 ga, .int .i64 se] S)] X fun e' w' => (∃ a c, e' = .returned (.slice a (stampP ad va tg st sz lo hi ga se B).length c) ∧ StR w' a (stampP ad va tg st sz lo hi ga se B)) ∧ Below X.heap.size X w' from fun X => rstampParts_any ad va tg st sz lo hi ga se B S X hB hb hst hsz hlo hhi hga hse)
  have PS := stampP_le hB hst hsz hlo hhi hga hse hT
  have CK := Lib.hid (fun (b : Option Addr) (c2 : Nat) (X : World) (h : RwA X a l) (h2 : StR X b (stampP ad va tg st sz lo hi ga se B)) (hla : Hs.LaidK X) => rcheck_any a c l (ga) (se) 41 41 b c2 (stampP ad va tg st sz lo hi ga se B) S lo hi X h h2 ok rfl ⟨by show 5 ≤ 36; omega, PS⟩ hS hla)
  obtain ⟨P, hP⟩ : ∃ P, stampP ad va tg st sz lo hi ga se B = P := ⟨_, rfl⟩
  simp only [hP] at CK LP
  rw [hP]
  obtain ⟨R, hR⟩ : ∃ R, chkE l (ga) (se) 41 P S lo hi = R := ⟨_, rfl⟩
  simp only [hR] at CK
  rw [hR]
  have LI := Lib.hid (show (Tryd.prog.info? 58).map (·.size) = some (recC [.string ad, .string va, .int .i64 st, .int .i64 sz] B [.string tg, .int .i64 lo, .int .i64 hi, .int .i64 ga, .int .i64 se] S).size by rw [rec_size _ _ _ _ hB hS]; kernel_rfl)
  have SI := Lib.hid (show (Tryd.prog.info? 50).map (·.size) = some (S.map Hs.bv).length by rw [List.length_map, hS]; kernel_rfl)
  have PI := Lib.hid (show (Tryd.prog.info? 26).map (·.size) = some ([.int .i64 lo, .int .i64 hi] : List Value).length by kernel_rfl)
  have HB := Lib.hid hB
  obtain ⟨N, hN⟩ : ∃ N, l.length = N := ⟨_, rfl⟩
  obtain ⟨n, hn⟩ : ∃ n, P.length = n := ⟨_, rfl⟩
  simp only [hN, hn] at CK
  simp only [hn] at LP
  rw [hN]
  clear hlk hp hst hsz hlo hhi hga hse PS hP hR hB hb hS ok hN hn hT
  obtain ⟨LC, hLC⟩ : ∃ C, (recC [.string ad, .string va, .int .i64 st, .int .i64 sz] B [.string tg, .int .i64 lo, .int .i64 hi, .int .i64 ga, .int .i64 se] S) = C := ⟨_, rfl⟩
  obtain ⟨G, hG⟩ : ∃ G, w.heap.size = G := ⟨_, rfl⟩
  have HG := Lib.hid hG
  have Kx := Lib.hid (show Blk (w.alloc (.cells LC 58)) G 58 (recC [.string ad, .string va, .int .i64 st, .int .i64 sz] B [.string tg, .int .i64 lo, .int .i64 hi, .int .i64 ga, .int .i64 se] S) from by rw [hLC]; exact (Blk.new' w _ _ _ hG rfl))
  have B0 := Lib.hid (show Below w.heap.size w (w.alloc (.cells LC 58)) by (repeat' (first | (with_reducible exact Below.refl _ _) | (with_reducible assumption) | (with_reducible refine Below.alloc ?_ ?_ _) | (with_reducible refine Below.drew ?_) | (with_reducible refine below_dn ?_) | (with_reducible refine Below.setCell ?_ ?_ _) | (with_reducible exact Nat.le_refl _) | omega | (simp only [World.size_alloc, World.size_setCell, World.size_drew]; omega) | (simp; omega) | (simp; done))))
  rw [hLC]
  clear hLC
  go_enter Tryd.func48, Tryd.ntmps48
  go_upto_region 1 with (fail)
  try rw [hG]
  generalize hw0 : (w.alloc (.cells LC 58)) = w0 at Kx B0 ⊢
  clear hw0 hG
  refine wp_region_held_drew (S := fun W => Blk W G 58 (recC [.string ad, .string va, .int .i64 st, .int .i64 sz] B [.string tg, .int .i64 lo, .int .i64 hi, .int .i64 ga, .int .i64 se] S)) (by kernel_rfl) Kx.out.drew (fun hHeld => ?_)
  replace B0 := Lib.hid B0.out.drew
  generalize w0.drew = w1 at B0 hHeld ⊢
  refine wpAnyH_take (i := 0) (v := .slice a N c) rfl (by kernel_rfl) (by kernel_rfl) (by kernel_rfl) (fun _ _ _ h => h) (Or.inl ⟨by rfl, fun W hW => by go_simp⟩) (by assumption) ?_
  (try simp only [Act.put, List.getElem_toArray, List.getElem_cons_succ, List.getElem_cons_zero, List.setIfInBounds_toArray, List.set_cons_zero, List.set_cons_succ])
  refine wpAnyH_take (i := 1) (v := .pointer (some ⟨G, 23, none⟩)) rfl (by kernel_rfl) (by kernel_rfl) (by kernel_rfl) (fun _ _ _ h => h) (Or.inl ⟨by rfl, fun W hW => by go_simp⟩) (by assumption) ?_
  (try simp only [Act.put, List.getElem_toArray, List.getElem_cons_succ, List.getElem_cons_zero, List.setIfInBounds_toArray, List.set_cons_zero, List.set_cons_succ])
  refine wpAnyH_take (i := 2) (v := .int .i64 ga) rfl (by kernel_rfl) (by kernel_rfl) (by kernel_rfl) (fun _ _ _ h => h) (Or.inl ⟨by rfl, fun W hW => (by obtain ⟨xa0, xa1, xa2, xa3, xc0, xc1, xc2, xc3, xc4⟩ := stamp_cells HB.out hW; go_simp)⟩) (by assumption) ?_
  (try simp only [Act.put, List.getElem_toArray, List.getElem_cons_succ, List.getElem_cons_zero, List.setIfInBounds_toArray, List.set_cons_zero, List.set_cons_succ])
  refine wpAnyH_take (i := 3) (v := .pointer (some ⟨G, 24, none⟩)) rfl (by kernel_rfl) (by kernel_rfl) (by kernel_rfl) (fun _ _ _ h => h) (Or.inl ⟨by rfl, fun W hW => by go_simp⟩) (by assumption) ?_
  (try simp only [Act.put, List.getElem_toArray, List.getElem_cons_succ, List.getElem_cons_zero, List.setIfInBounds_toArray, List.set_cons_zero, List.set_cons_succ])
  refine wpAnyH_take (i := 4) (v := .int .i64 se) rfl (by kernel_rfl) (by kernel_rfl) (by kernel_rfl) (fun _ _ _ h => h) (Or.inl ⟨by rfl, fun W hW => (by obtain ⟨xa0, xa1, xa2, xa3, xc0, xc1, xc2, xc3, xc4⟩ := stamp_cells HB.out hW; go_simp)⟩) (by assumption) ?_
  (try simp only [Act.put, List.getElem_toArray, List.getElem_cons_succ, List.getElem_cons_zero, List.setIfInBounds_toArray, List.set_cons_zero, List.set_cons_succ])
  refine wpAnyH_take (i := 5) (v := .agg (recC [.string ad, .string va, .int .i64 st, .int .i64 sz] B [.string tg, .int .i64 lo, .int .i64 hi, .int .i64 ga, .int .i64 se] S)) rfl (by kernel_rfl) (by kernel_rfl) (by kernel_rfl) (fun _ _ _ h => h) (Or.inl ⟨by rfl, fun W hW => exec_load_row 58 _ rfl G rfl 58 (recC [.string ad, .string va, .int .i64 st, .int .i64 sz] B [.string tg, .int .i64 lo, .int .i64 hi, .int .i64 ga, .int .i64 se] S) (0, 0) _ hW Tryd.underlying58 rfl LI.out⟩) (by assumption) ?_
  (try simp only [Act.put, List.getElem_toArray, List.getElem_cons_succ, List.getElem_cons_zero, List.setIfInBounds_toArray, List.set_cons_zero, List.set_cons_succ])
  refine wpAnyH_take (i := 7) (v := .pointer (some ⟨G, 25, none⟩)) rfl (by kernel_rfl) (by kernel_rfl) (by kernel_rfl) (fun _ _ _ h => h) (Or.inl ⟨by rfl, fun W hW => by go_simp⟩) (by assumption) ?_
  (try simp only [Act.put, List.getElem_toArray, List.getElem_cons_succ, List.getElem_cons_zero, List.setIfInBounds_toArray, List.set_cons_zero, List.set_cons_succ])
  refine wpAnyH_take (i := 8) (v := .agg (S.map Hs.bv).toArray) rfl (by kernel_rfl) (by kernel_rfl) (by kernel_rfl) (fun _ _ _ h => h) (Or.inl ⟨by rfl, fun W hW => exec_load_mid 50 _ rfl G 25 rfl (S.map Hs.bv) _ (show W.rangeAt G 25 (S.map Hs.bv) from rec_S hW HB.out) Tryd.underlying50 rfl SI.out⟩) (by assumption) ?_
  (try simp only [Act.put, List.getElem_toArray, List.getElem_cons_succ, List.getElem_cons_zero, List.setIfInBounds_toArray, List.set_cons_zero, List.set_cons_succ])
  refine wpAnyH_take (i := 9) (v := .pointer (some ⟨G, 21, none⟩)) rfl (by kernel_rfl) (by kernel_rfl) (by kernel_rfl) (fun _ _ _ h => h) (Or.inl ⟨by rfl, fun W hW => by go_simp⟩) (by assumption) ?_
  (try simp only [Act.put, List.getElem_toArray, List.getElem_cons_succ, List.getElem_cons_zero, List.setIfInBounds_toArray, List.set_cons_zero, List.set_cons_succ])
  refine wpAnyH_take (i := 10) (v := .agg #[.int .i64 lo, .int .i64 hi]) rfl (by kernel_rfl) (by kernel_rfl) (by kernel_rfl) (fun _ _ _ h => h) (Or.inl ⟨by rfl, fun W hW => exec_load_mid 26 _ rfl G 21 rfl [.int .i64 lo, .int .i64 hi] _ (rec_sub (n := 21) (M := [.int .i64 lo, .int .i64 hi]) (L := [.string tg]) (R := [.int .i64 ga, .int .i64 se]) hW HB.out rfl rfl) Tryd.underlying26 rfl PI.out⟩) (by assumption) ?_
  (try simp only [Act.put, List.getElem_toArray, List.getElem_cons_succ, List.getElem_cons_zero, List.setIfInBounds_toArray, List.set_cons_zero, List.set_cons_succ])
  refine wpAnyH_ready (rs := [6]) (by kernel_rfl) (by simp) (AllReadyH.cons rfl (fun K hK => ?_) AllReadyH.nil)
  go_simp
  refine (LP.out _).mono ?_
  rintro e w3 ⟨⟨b, c2, rfl, hr⟩, hb⟩
  have HR := Lib.hid hr
  have hB3 := Lib.hid hb
  replace B0 := Lib.hid (B0.out.trans (hb.mono B0.out.size))
  clear hb hr
  go_wp2_with fail
  refine hK _ _ (hHeld.below hB3.out hHeld.lt) (fun hHeld1 => ?_)
  clear hK K
  (try simp only [Act.put, List.getElem_toArray, List.getElem_cons_succ, List.getElem_cons_zero, List.setIfInBounds_toArray, List.set_cons_zero, List.set_cons_succ])
  refine wpAnyH_ready (rs := [11]) (by kernel_rfl) (by simp) (AllReadyH.cons rfl (fun K hK => ?_) AllReadyH.nil)
  go_simp
  refine (CK.out b c2 _ (HR0.out.mono B0.out) HR.out (HLK.out.mono B0.out)).mono ?_
  rintro e w4 ⟨rfl, hb⟩
  have hB4 := Lib.hid hb
  replace B0 := Lib.hid (B0.out.trans (hb.mono B0.out.size))
  clear hb
  go_wp2_with fail
  refine hK _ _ (hHeld1.below hB4.out hHeld1.lt) (fun hHeld2 => ?_)
  clear hK K
  (try simp only [Act.put, List.getElem_toArray, List.getElem_cons_succ, List.getElem_cons_zero, List.setIfInBounds_toArray, List.set_cons_zero, List.set_cons_succ])
  refine wpAnyH_take (i := 12) (v := .int .i64 R) rfl (by kernel_rfl) (by kernel_rfl) (by kernel_rfl) (fun _ _ _ h => h) (Or.inl ⟨by rfl, fun W hW => by go_simp⟩) (by assumption) ?_
  (try simp only [Act.put, List.getElem_toArray, List.getElem_cons_succ, List.getElem_cons_zero, List.setIfInBounds_toArray, List.set_cons_zero, List.set_cons_succ])
  refine wpAnyH_done (by kernel_rfl) ?_ _
  go_wp2
  go_ret
  exact ⟨rfl, B0.out⟩
set_option maxRecDepth 100000 in
set_option maxHeartbeats 1000000 in
theorem rcheckEpoch_any (a : Option Addr) (c : Nat) (l : List Rw) (nu lo hi se : Int) (B : List Nat) (S : List Nat) (pa : Option Addr) (pc : Nat) (pl : List Pu) (ra : Option Addr) (rc : Nat) (rl : List Dg) (w : World) (hp : RwA w a l) (ok : RingOk l) (hB : B.length = 16) (hb : ∀ x ∈ B, x < 256) (hS : S.length = 16) (hnu : i64Ok nu) (hlo : i64Ok lo) (hhi : i64Ok hi) (hse : i64Ok se) (hT : EpOk pl rl) (hm : EpM w pa pl ra rl) (hlk : Hs.LaidK w) :
    Calls Tryd.prog 50 #[.slice a l.length c, .agg (recC [.int .i64 nu] B [.int .i64 lo, .int .i64 hi, .slice pa pl.length pc, .slice ra rl.length rc, .int .i64 se] S)] w fun e w' => e = .returned (.int .i64 (chkE l (1) (se) 42 (epochP nu lo hi se B pl rl) S lo hi)) ∧ Below w.heap.size w w' := by
  have HM := Lib.hid hm
  have HLK := Lib.hid hlk
  have HR0 := Lib.hid hp
  have LP := Lib.hid (show ∀ X : World, EpM X pa pl ra rl → Calls Tryd.prog 33 #[.agg (recC [.int .i64 nu] B [.int .i64 lo, .int .i64 hi, .slice pa pl.length pc, .slice ra rl.length rc, .int .i64 se] S)] X fun e' w' => (∃ a c, e' = .returned (.slice a (epochP nu lo hi se B pl rl).length c) ∧ StR w' a (epochP nu lo hi se B pl rl)) ∧ Below X.heap.size X w' from fun X hm => repochParts_any nu lo hi se B S pa pc pl ra rc rl X hB hb hnu hlo hhi hse hT hm)
  have PS := epochP_le hB hnu hlo hhi hse hT
  have CK := Lib.hid (fun (b : Option Addr) (c2 : Nat) (X : World) (h : RwA X a l) (h2 : StR X b (epochP nu lo hi se B pl rl)) (hla : Hs.LaidK X) => rcheck_any a c l (1) (se) 42 42 b c2 (epochP nu lo hi se B pl rl) S lo hi X h h2 ok rfl ⟨by rw [epochP_len]; have := hT.1; have := hT.2.1; omega, PS⟩ hS hla)
  obtain ⟨P, hP⟩ : ∃ P, epochP nu lo hi se B pl rl = P := ⟨_, rfl⟩
  simp only [hP] at CK LP
  rw [hP]
  obtain ⟨R, hR⟩ : ∃ R, chkE l (1) (se) 42 P S lo hi = R := ⟨_, rfl⟩
  simp only [hR] at CK
  rw [hR]
  have LI := Lib.hid (show (Tryd.prog.info? 62).map (·.size) = some (recC [.int .i64 nu] B [.int .i64 lo, .int .i64 hi, .slice pa pl.length pc, .slice ra rl.length rc, .int .i64 se] S).size by rw [rec_size _ _ _ _ hB hS]; kernel_rfl)
  have SI := Lib.hid (show (Tryd.prog.info? 50).map (·.size) = some (S.map Hs.bv).length by rw [List.length_map, hS]; kernel_rfl)
  have PI := Lib.hid (show (Tryd.prog.info? 26).map (·.size) = some ([.int .i64 lo, .int .i64 hi] : List Value).length by kernel_rfl)
  have HB := Lib.hid hB
  obtain ⟨N, hN⟩ : ∃ N, l.length = N := ⟨_, rfl⟩
  obtain ⟨n, hn⟩ : ∃ n, P.length = n := ⟨_, rfl⟩
  simp only [hN, hn] at CK
  simp only [hn] at LP
  rw [hN]
  clear hlk hp hnu hlo hhi hse PS hP hR hB hb hS ok hN hn hT hm
  obtain ⟨LC, hLC⟩ : ∃ C, (recC [.int .i64 nu] B [.int .i64 lo, .int .i64 hi, .slice pa pl.length pc, .slice ra rl.length rc, .int .i64 se] S) = C := ⟨_, rfl⟩
  obtain ⟨G, hG⟩ : ∃ G, w.heap.size = G := ⟨_, rfl⟩
  have HG := Lib.hid hG
  have Kx := Lib.hid (show Blk (w.alloc (.cells LC 62)) G 62 (recC [.int .i64 nu] B [.int .i64 lo, .int .i64 hi, .slice pa pl.length pc, .slice ra rl.length rc, .int .i64 se] S) from by rw [hLC]; exact (Blk.new' w _ _ _ hG rfl))
  have B0 := Lib.hid (show Below w.heap.size w (w.alloc (.cells LC 62)) by (repeat' (first | (with_reducible exact Below.refl _ _) | (with_reducible assumption) | (with_reducible refine Below.alloc ?_ ?_ _) | (with_reducible refine Below.drew ?_) | (with_reducible refine below_dn ?_) | (with_reducible refine Below.setCell ?_ ?_ _) | (with_reducible exact Nat.le_refl _) | omega | (simp only [World.size_alloc, World.size_setCell, World.size_drew]; omega) | (simp; omega) | (simp; done))))
  rw [hLC]
  clear hLC
  go_enter Tryd.func50, Tryd.ntmps50
  go_upto_region 1 with (fail)
  try rw [hG]
  generalize hw0 : (w.alloc (.cells LC 62)) = w0 at Kx B0 ⊢
  clear hw0 hG
  refine wp_region_held_drew (S := fun W => Blk W G 62 (recC [.int .i64 nu] B [.int .i64 lo, .int .i64 hi, .slice pa pl.length pc, .slice ra rl.length rc, .int .i64 se] S)) (by kernel_rfl) Kx.out.drew (fun hHeld => ?_)
  replace B0 := Lib.hid B0.out.drew
  generalize w0.drew = w1 at B0 hHeld ⊢
  refine wpAnyH_take (i := 0) (v := .slice a N c) rfl (by kernel_rfl) (by kernel_rfl) (by kernel_rfl) (fun _ _ _ h => h) (Or.inl ⟨by rfl, fun W hW => by go_simp⟩) (by assumption) ?_
  (try simp only [Act.put, List.getElem_toArray, List.getElem_cons_succ, List.getElem_cons_zero, List.setIfInBounds_toArray, List.set_cons_zero, List.set_cons_succ])
  refine wpAnyH_take (i := 1) (v := .pointer (some ⟨G, 21, none⟩)) rfl (by kernel_rfl) (by kernel_rfl) (by kernel_rfl) (fun _ _ _ h => h) (Or.inl ⟨by rfl, fun W hW => by go_simp⟩) (by assumption) ?_
  (try simp only [Act.put, List.getElem_toArray, List.getElem_cons_succ, List.getElem_cons_zero, List.setIfInBounds_toArray, List.set_cons_zero, List.set_cons_succ])
  refine wpAnyH_take (i := 2) (v := .int .i64 se) rfl (by kernel_rfl) (by kernel_rfl) (by kernel_rfl) (fun _ _ _ h => h) (Or.inl ⟨by rfl, fun W hW => (by obtain ⟨xa0, xc0, xc1, xc2, xc3, xc4⟩ := epoch_cells HB.out hW; go_simp)⟩) (by assumption) ?_
  (try simp only [Act.put, List.getElem_toArray, List.getElem_cons_succ, List.getElem_cons_zero, List.setIfInBounds_toArray, List.set_cons_zero, List.set_cons_succ])
  refine wpAnyH_take (i := 3) (v := .agg (recC [.int .i64 nu] B [.int .i64 lo, .int .i64 hi, .slice pa pl.length pc, .slice ra rl.length rc, .int .i64 se] S)) rfl (by kernel_rfl) (by kernel_rfl) (by kernel_rfl) (fun _ _ _ h => h) (Or.inl ⟨by rfl, fun W hW => exec_load_row 62 _ rfl G rfl 62 (recC [.int .i64 nu] B [.int .i64 lo, .int .i64 hi, .slice pa pl.length pc, .slice ra rl.length rc, .int .i64 se] S) (0, 0) _ hW Tryd.underlying62 rfl LI.out⟩) (by assumption) ?_
  (try simp only [Act.put, List.getElem_toArray, List.getElem_cons_succ, List.getElem_cons_zero, List.setIfInBounds_toArray, List.set_cons_zero, List.set_cons_succ])
  refine wpAnyH_take (i := 5) (v := .pointer (some ⟨G, 22, none⟩)) rfl (by kernel_rfl) (by kernel_rfl) (by kernel_rfl) (fun _ _ _ h => h) (Or.inl ⟨by rfl, fun W hW => by go_simp⟩) (by assumption) ?_
  (try simp only [Act.put, List.getElem_toArray, List.getElem_cons_succ, List.getElem_cons_zero, List.setIfInBounds_toArray, List.set_cons_zero, List.set_cons_succ])
  refine wpAnyH_take (i := 6) (v := .agg (S.map Hs.bv).toArray) rfl (by kernel_rfl) (by kernel_rfl) (by kernel_rfl) (fun _ _ _ h => h) (Or.inl ⟨by rfl, fun W hW => exec_load_mid 50 _ rfl G 22 rfl (S.map Hs.bv) _ (show W.rangeAt G 22 (S.map Hs.bv) from rec_S hW HB.out) Tryd.underlying50 rfl SI.out⟩) (by assumption) ?_
  (try simp only [Act.put, List.getElem_toArray, List.getElem_cons_succ, List.getElem_cons_zero, List.setIfInBounds_toArray, List.set_cons_zero, List.set_cons_succ])
  refine wpAnyH_take (i := 7) (v := .pointer (some ⟨G, 17, none⟩)) rfl (by kernel_rfl) (by kernel_rfl) (by kernel_rfl) (fun _ _ _ h => h) (Or.inl ⟨by rfl, fun W hW => by go_simp⟩) (by assumption) ?_
  (try simp only [Act.put, List.getElem_toArray, List.getElem_cons_succ, List.getElem_cons_zero, List.setIfInBounds_toArray, List.set_cons_zero, List.set_cons_succ])
  refine wpAnyH_take (i := 8) (v := .agg #[.int .i64 lo, .int .i64 hi]) rfl (by kernel_rfl) (by kernel_rfl) (by kernel_rfl) (fun _ _ _ h => h) (Or.inl ⟨by rfl, fun W hW => exec_load_mid 26 _ rfl G 17 rfl [.int .i64 lo, .int .i64 hi] _ (rec_sub (n := 17) (M := [.int .i64 lo, .int .i64 hi]) (L := []) (R := [.slice pa pl.length pc, .slice ra rl.length rc, .int .i64 se]) hW HB.out rfl rfl) Tryd.underlying26 rfl PI.out⟩) (by assumption) ?_
  (try simp only [Act.put, List.getElem_toArray, List.getElem_cons_succ, List.getElem_cons_zero, List.setIfInBounds_toArray, List.set_cons_zero, List.set_cons_succ])
  refine wpAnyH_ready (rs := [4]) (by kernel_rfl) (by simp) (AllReadyH.cons rfl (fun K hK => ?_) AllReadyH.nil)
  go_simp
  refine (LP.out _ (HM.out.mono B0.out)).mono ?_
  rintro e w3 ⟨⟨b, c2, rfl, hr⟩, hb⟩
  have HR := Lib.hid hr
  have hB3 := Lib.hid hb
  replace B0 := Lib.hid (B0.out.trans (hb.mono B0.out.size))
  clear hb hr
  go_wp2_with fail
  refine hK _ _ (hHeld.below hB3.out hHeld.lt) (fun hHeld1 => ?_)
  clear hK K
  (try simp only [Act.put, List.getElem_toArray, List.getElem_cons_succ, List.getElem_cons_zero, List.setIfInBounds_toArray, List.set_cons_zero, List.set_cons_succ])
  refine wpAnyH_ready (rs := [9]) (by kernel_rfl) (by simp) (AllReadyH.cons rfl (fun K hK => ?_) AllReadyH.nil)
  go_simp
  refine (CK.out b c2 _ (HR0.out.mono B0.out) HR.out (HLK.out.mono B0.out)).mono ?_
  rintro e w4 ⟨rfl, hb⟩
  have hB4 := Lib.hid hb
  replace B0 := Lib.hid (B0.out.trans (hb.mono B0.out.size))
  clear hb
  go_wp2_with fail
  refine hK _ _ (hHeld1.below hB4.out hHeld1.lt) (fun hHeld2 => ?_)
  clear hK K
  (try simp only [Act.put, List.getElem_toArray, List.getElem_cons_succ, List.getElem_cons_zero, List.setIfInBounds_toArray, List.set_cons_zero, List.set_cons_succ])
  refine wpAnyH_take (i := 10) (v := .int .i64 R) rfl (by kernel_rfl) (by kernel_rfl) (by kernel_rfl) (fun _ _ _ h => h) (Or.inl ⟨by rfl, fun W hW => by go_simp⟩) (by assumption) ?_
  (try simp only [Act.put, List.getElem_toArray, List.getElem_cons_succ, List.getElem_cons_zero, List.setIfInBounds_toArray, List.set_cons_zero, List.set_cons_succ])
  refine wpAnyH_done (by kernel_rfl) ?_ _
  go_wp2
  go_ret
  exact ⟨rfl, B0.out⟩
set_option maxRecDepth 100000 in
set_option maxHeartbeats 1000000 in
theorem rcheckHead_any (a : Option Addr) (c : Nat) (l : List Rw) (si sz lo hi se : Int) (B : List Nat) (S : List Nat) (w : World) (hp : RwA w a l) (ok : RingOk l) (hB : B.length = 16) (hb : ∀ x ∈ B, x < 256) (hS : S.length = 16) (hsi : i64Ok si) (hsz : i64Ok sz) (hlo : i64Ok lo) (hhi : i64Ok hi) (hse : i64Ok se) (hsite : 0 ≤ si ∧ si < 64) (hlk : Hs.LaidK w) :
    Calls Tryd.prog 54 #[.slice a l.length c, .agg (recC [.int .i64 si, .int .i64 sz] B [.int .i64 lo, .int .i64 hi, .int .i64 se] S)] w fun e w' => e = .returned (.int .i64 (chkE l (1000 + si) (se) 44 (headP si sz lo hi se B) S lo hi)) ∧ Below w.heap.size w w' := by
  have HLK := Lib.hid hlk
  have HR0 := Lib.hid hp
  have LP := Lib.hid (show ∀ X : World, Calls Tryd.prog 37 #[.agg (recC [.int .i64 si, .int .i64 sz] B [.int .i64 lo, .int .i64 hi, .int .i64 se] S)] X fun e' w' => (∃ a c, e' = .returned (.slice a (headP si sz lo hi se B).length c) ∧ StR w' a (headP si sz lo hi se B)) ∧ Below X.heap.size X w' from fun X => rheadParts_any si sz lo hi se B S X hB hb hsi hsz hlo hhi hse)
  have PS := headP_le hB hsi hsz hlo hhi hse
  have CK := Lib.hid (fun (b : Option Addr) (c2 : Nat) (X : World) (h : RwA X a l) (h2 : StR X b (headP si sz lo hi se B)) (hla : Hs.LaidK X) => rcheck_any a c l (1000 + si) (se) 44 44 b c2 (headP si sz lo hi se B) S lo hi X h h2 ok rfl ⟨by show 2 ≤ 36; omega, PS⟩ hS hla)
  obtain ⟨P, hP⟩ : ∃ P, headP si sz lo hi se B = P := ⟨_, rfl⟩
  simp only [hP] at CK LP
  rw [hP]
  obtain ⟨R, hR⟩ : ∃ R, chkE l (1000 + si) (se) 44 P S lo hi = R := ⟨_, rfl⟩
  simp only [hR] at CK
  rw [hR]
  have LI := Lib.hid (show (Tryd.prog.info? 66).map (·.size) = some (recC [.int .i64 si, .int .i64 sz] B [.int .i64 lo, .int .i64 hi, .int .i64 se] S).size by rw [rec_size _ _ _ _ hB hS]; kernel_rfl)
  have SI := Lib.hid (show (Tryd.prog.info? 50).map (·.size) = some (S.map Hs.bv).length by rw [List.length_map, hS]; kernel_rfl)
  have PI := Lib.hid (show (Tryd.prog.info? 26).map (·.size) = some ([.int .i64 lo, .int .i64 hi] : List Value).length by kernel_rfl)
  have HB := Lib.hid hB
  obtain ⟨N, hN⟩ : ∃ N, l.length = N := ⟨_, rfl⟩
  obtain ⟨n, hn⟩ : ∃ n, P.length = n := ⟨_, rfl⟩
  simp only [hN, hn] at CK
  simp only [hn] at LP
  rw [hN]
  have SY := Lib.hid (fun W : World => rsite_yes hsite W)
  have wS : IntKind.i64.wrap (1000 + si) = 1000 + si := by rw [IntKind.wrap_i64]; omega
  clear hlk hp hsi hsz hlo hhi hse PS hP hR hB hb hS ok hN hn hsite
  obtain ⟨LC, hLC⟩ : ∃ C, (recC [.int .i64 si, .int .i64 sz] B [.int .i64 lo, .int .i64 hi, .int .i64 se] S) = C := ⟨_, rfl⟩
  obtain ⟨G, hG⟩ : ∃ G, w.heap.size = G := ⟨_, rfl⟩
  have HG := Lib.hid hG
  have Kx := Lib.hid (show Blk (w.alloc (.cells LC 66)) G 66 (recC [.int .i64 si, .int .i64 sz] B [.int .i64 lo, .int .i64 hi, .int .i64 se] S) from by rw [hLC]; exact (Blk.new' w _ _ _ hG rfl))
  have B0 := Lib.hid (show Below w.heap.size w (w.alloc (.cells LC 66)) by (repeat' (first | (with_reducible exact Below.refl _ _) | (with_reducible assumption) | (with_reducible refine Below.alloc ?_ ?_ _) | (with_reducible refine Below.drew ?_) | (with_reducible refine below_dn ?_) | (with_reducible refine Below.setCell ?_ ?_ _) | (with_reducible exact Nat.le_refl _) | omega | (simp only [World.size_alloc, World.size_setCell, World.size_drew]; omega) | (simp; omega) | (simp; done))))
  rw [hLC]
  clear hLC
  go_enter Tryd.func54, Tryd.ntmps54
  go_upto_region 1 with (fail)
  try rw [hG]
  generalize hw0 : (w.alloc (.cells LC 66)) = w0 at Kx B0 ⊢
  clear hw0 hG
  obtain ⟨xa0, xa1, xc0, xc1, xc2⟩ := head_cells HB.out Kx.out
  go_wp2_with fail
  refine (SY.out _).mono ?_
  rintro e wz ⟨rfl, rfl⟩
  go_upto_region 4 with (fail)
  clear xa0 xa1 xc0 xc1 xc2
  refine wp_region_held_drew (S := fun W => Blk W G 66 (recC [.int .i64 si, .int .i64 sz] B [.int .i64 lo, .int .i64 hi, .int .i64 se] S)) (by kernel_rfl) Kx.out.drew (fun hHeld => ?_)
  replace B0 := Lib.hid B0.out.drew
  generalize w0.drew = w1 at B0 hHeld ⊢
  refine wpAnyH_take (i := 0) (v := .slice a N c) rfl (by kernel_rfl) (by kernel_rfl) (by kernel_rfl) (fun _ _ _ h => h) (Or.inl ⟨by rfl, fun W hW => by go_simp⟩) (by assumption) ?_
  (try simp only [Act.put, List.getElem_toArray, List.getElem_cons_succ, List.getElem_cons_zero, List.setIfInBounds_toArray, List.set_cons_zero, List.set_cons_succ])
  refine wpAnyH_take (i := 1) (v := .pointer (some ⟨G, 0, none⟩)) rfl (by kernel_rfl) (by kernel_rfl) (by kernel_rfl) (fun _ _ _ h => h) (Or.inl ⟨by rfl, fun W hW => by go_simp⟩) (by assumption) ?_
  (try simp only [Act.put, List.getElem_toArray, List.getElem_cons_succ, List.getElem_cons_zero, List.setIfInBounds_toArray, List.set_cons_zero, List.set_cons_succ])
  refine wpAnyH_take (i := 2) (v := .int .i64 si) rfl (by kernel_rfl) (by kernel_rfl) (by kernel_rfl) (fun _ _ _ h => h) (Or.inl ⟨by rfl, fun W hW => (by obtain ⟨xa0, xa1, xc0, xc1, xc2⟩ := head_cells HB.out hW; go_simp)⟩) (by assumption) ?_
  (try simp only [Act.put, List.getElem_toArray, List.getElem_cons_succ, List.getElem_cons_zero, List.setIfInBounds_toArray, List.set_cons_zero, List.set_cons_succ])
  refine wpAnyH_take (i := 3) (v := .int .i64 (1000 + si)) rfl (by kernel_rfl) (by kernel_rfl) (by kernel_rfl) (fun _ _ _ h => h) (Or.inl ⟨by rfl, fun W hW => by go_simp⟩) (by assumption) ?_
  (try simp only [Act.put, List.getElem_toArray, List.getElem_cons_succ, List.getElem_cons_zero, List.setIfInBounds_toArray, List.set_cons_zero, List.set_cons_succ])
  refine wpAnyH_take (i := 4) (v := .pointer (some ⟨G, 20, none⟩)) rfl (by kernel_rfl) (by kernel_rfl) (by kernel_rfl) (fun _ _ _ h => h) (Or.inl ⟨by rfl, fun W hW => by go_simp⟩) (by assumption) ?_
  (try simp only [Act.put, List.getElem_toArray, List.getElem_cons_succ, List.getElem_cons_zero, List.setIfInBounds_toArray, List.set_cons_zero, List.set_cons_succ])
  refine wpAnyH_take (i := 5) (v := .int .i64 se) rfl (by kernel_rfl) (by kernel_rfl) (by kernel_rfl) (fun _ _ _ h => h) (Or.inl ⟨by rfl, fun W hW => (by obtain ⟨xa0, xa1, xc0, xc1, xc2⟩ := head_cells HB.out hW; go_simp)⟩) (by assumption) ?_
  (try simp only [Act.put, List.getElem_toArray, List.getElem_cons_succ, List.getElem_cons_zero, List.setIfInBounds_toArray, List.set_cons_zero, List.set_cons_succ])
  refine wpAnyH_take (i := 6) (v := .agg (recC [.int .i64 si, .int .i64 sz] B [.int .i64 lo, .int .i64 hi, .int .i64 se] S)) rfl (by kernel_rfl) (by kernel_rfl) (by kernel_rfl) (fun _ _ _ h => h) (Or.inl ⟨by rfl, fun W hW => exec_load_row 66 _ rfl G rfl 66 (recC [.int .i64 si, .int .i64 sz] B [.int .i64 lo, .int .i64 hi, .int .i64 se] S) (0, 0) _ hW Tryd.underlying66 rfl LI.out⟩) (by assumption) ?_
  (try simp only [Act.put, List.getElem_toArray, List.getElem_cons_succ, List.getElem_cons_zero, List.setIfInBounds_toArray, List.set_cons_zero, List.set_cons_succ])
  refine wpAnyH_take (i := 8) (v := .pointer (some ⟨G, 21, none⟩)) rfl (by kernel_rfl) (by kernel_rfl) (by kernel_rfl) (fun _ _ _ h => h) (Or.inl ⟨by rfl, fun W hW => by go_simp⟩) (by assumption) ?_
  (try simp only [Act.put, List.getElem_toArray, List.getElem_cons_succ, List.getElem_cons_zero, List.setIfInBounds_toArray, List.set_cons_zero, List.set_cons_succ])
  refine wpAnyH_take (i := 9) (v := .agg (S.map Hs.bv).toArray) rfl (by kernel_rfl) (by kernel_rfl) (by kernel_rfl) (fun _ _ _ h => h) (Or.inl ⟨by rfl, fun W hW => exec_load_mid 50 _ rfl G 21 rfl (S.map Hs.bv) _ (show W.rangeAt G 21 (S.map Hs.bv) from rec_S hW HB.out) Tryd.underlying50 rfl SI.out⟩) (by assumption) ?_
  (try simp only [Act.put, List.getElem_toArray, List.getElem_cons_succ, List.getElem_cons_zero, List.setIfInBounds_toArray, List.set_cons_zero, List.set_cons_succ])
  refine wpAnyH_take (i := 10) (v := .pointer (some ⟨G, 18, none⟩)) rfl (by kernel_rfl) (by kernel_rfl) (by kernel_rfl) (fun _ _ _ h => h) (Or.inl ⟨by rfl, fun W hW => by go_simp⟩) (by assumption) ?_
  (try simp only [Act.put, List.getElem_toArray, List.getElem_cons_succ, List.getElem_cons_zero, List.setIfInBounds_toArray, List.set_cons_zero, List.set_cons_succ])
  refine wpAnyH_take (i := 11) (v := .agg #[.int .i64 lo, .int .i64 hi]) rfl (by kernel_rfl) (by kernel_rfl) (by kernel_rfl) (fun _ _ _ h => h) (Or.inl ⟨by rfl, fun W hW => exec_load_mid 26 _ rfl G 18 rfl [.int .i64 lo, .int .i64 hi] _ (rec_sub (n := 18) (M := [.int .i64 lo, .int .i64 hi]) (L := []) (R := [.int .i64 se]) hW HB.out rfl rfl) Tryd.underlying26 rfl PI.out⟩) (by assumption) ?_
  (try simp only [Act.put, List.getElem_toArray, List.getElem_cons_succ, List.getElem_cons_zero, List.setIfInBounds_toArray, List.set_cons_zero, List.set_cons_succ])
  refine wpAnyH_ready (rs := [7]) (by kernel_rfl) (by simp) (AllReadyH.cons rfl (fun K hK => ?_) AllReadyH.nil)
  go_simp
  refine (LP.out _).mono ?_
  rintro e w3 ⟨⟨b, c2, rfl, hr⟩, hb⟩
  have HR := Lib.hid hr
  have hB3 := Lib.hid hb
  replace B0 := Lib.hid (B0.out.trans (hb.mono B0.out.size))
  clear hb hr
  go_wp2_with fail
  refine hK _ _ (hHeld.below hB3.out hHeld.lt) (fun hHeld1 => ?_)
  clear hK K
  (try simp only [Act.put, List.getElem_toArray, List.getElem_cons_succ, List.getElem_cons_zero, List.setIfInBounds_toArray, List.set_cons_zero, List.set_cons_succ])
  refine wpAnyH_ready (rs := [12]) (by kernel_rfl) (by simp) (AllReadyH.cons rfl (fun K hK => ?_) AllReadyH.nil)
  go_simp
  refine (CK.out b c2 _ (HR0.out.mono B0.out) HR.out (HLK.out.mono B0.out)).mono ?_
  rintro e w4 ⟨rfl, hb⟩
  have hB4 := Lib.hid hb
  replace B0 := Lib.hid (B0.out.trans (hb.mono B0.out.size))
  clear hb
  go_wp2_with fail
  refine hK _ _ (hHeld1.below hB4.out hHeld1.lt) (fun hHeld2 => ?_)
  clear hK K
  (try simp only [Act.put, List.getElem_toArray, List.getElem_cons_succ, List.getElem_cons_zero, List.setIfInBounds_toArray, List.set_cons_zero, List.set_cons_succ])
  refine wpAnyH_take (i := 13) (v := .int .i64 R) rfl (by kernel_rfl) (by kernel_rfl) (by kernel_rfl) (fun _ _ _ h => h) (Or.inl ⟨by rfl, fun W hW => by go_simp⟩) (by assumption) ?_
  (try simp only [Act.put, List.getElem_toArray, List.getElem_cons_succ, List.getElem_cons_zero, List.setIfInBounds_toArray, List.set_cons_zero, List.set_cons_succ])
  refine wpAnyH_done (by kernel_rfl) ?_ _
  go_wp2
  go_ret
  exact ⟨rfl, B0.out⟩
set_option maxRecDepth 100000 in
theorem rcheckHead_bad (a : Option Addr) (c : Nat) (l : List Rw) (si sz lo hi se : Int) (B : List Nat) (S : List Nat) (w : World) (hB : B.length = 16) (hsite : ¬ (0 ≤ si ∧ si < 64)) :
    Calls Tryd.prog 54 #[.slice a l.length c, .agg (recC [.int .i64 si, .int .i64 sz] B [.int .i64 lo, .int .i64 hi, .int .i64 se] S)] w fun e w' => e = .returned (.int .i64 1) ∧ Below w.heap.size w w' := by
  have SN := Lib.hid (fun W : World => rsite_no hsite W)
  have HB := Lib.hid hB
  obtain ⟨N, hN⟩ : ∃ N, l.length = N := ⟨_, rfl⟩
  rw [hN]
  clear hsite hB hN
  obtain ⟨LC, hLC⟩ : ∃ C, (recC [.int .i64 si, .int .i64 sz] B [.int .i64 lo, .int .i64 hi, .int .i64 se] S) = C := ⟨_, rfl⟩
  obtain ⟨G, hG⟩ : ∃ G, w.heap.size = G := ⟨_, rfl⟩
  have HG := Lib.hid hG
  have Kx := Lib.hid (show Blk (w.alloc (.cells LC 66)) G 66 (recC [.int .i64 si, .int .i64 sz] B [.int .i64 lo, .int .i64 hi, .int .i64 se] S) from by rw [hLC]; exact (Blk.new' w _ _ _ hG rfl))
  have B0 := Lib.hid (show Below w.heap.size w (w.alloc (.cells LC 66)) by (repeat' (first | (with_reducible exact Below.refl _ _) | (with_reducible assumption) | (with_reducible refine Below.alloc ?_ ?_ _) | (with_reducible refine Below.drew ?_) | (with_reducible refine below_dn ?_) | (with_reducible refine Below.setCell ?_ ?_ _) | (with_reducible exact Nat.le_refl _) | omega | (simp only [World.size_alloc, World.size_setCell, World.size_drew]; omega) | (simp; omega) | (simp; done))))
  rw [hLC]
  clear hLC
  go_enter Tryd.func54, Tryd.ntmps54
  go_upto_region 1 with (fail)
  try rw [hG]
  generalize hw0 : (w.alloc (.cells LC 66)) = w0 at Kx B0 ⊢
  clear hw0 hG
  obtain ⟨xa0, xa1, xc0, xc1, xc2⟩ := head_cells HB.out Kx.out
  go_wp2_with fail
  refine (SN.out _).mono ?_
  rintro e wz ⟨rfl, rfl⟩
  go_wp2
  go_ret
  exact ⟨rfl, B0.out⟩
set_option maxRecDepth 100000 in
set_option maxHeartbeats 1000000 in
theorem checkLeaseU_any (a : Option Addr) (c : Nat) (l : List Rw) (st e0 u r : Int) (D : List Nat) (w : World) (hp : RwA w a l) (ok : RingOk l) (hD : D.length = 16) (hsite : 0 ≤ st ∧ st < 64) (h1 : i64Ok st) (h2 : i64Ok e0) (h3 : i64Ok u) (U : Int) (hU : IntKind.i64.wrap (u - 1) = U) (h4 : i64Ok r) (hla : Hs.LaidC w) :
    Calls Tryd.prog 51 #[.slice a l.length c, .agg (leaseC st e0 u r D)] w fun e w' => e = .returned (.int .i64 (chkE l 1 r 43 [leaseP st e0 u r] D U U)) ∧ Below w.heap.size w w' := by
  have HLA := Lib.hid hla
  have HP := Lib.hid hp
  have SY := Lib.hid (fun W : World => site_yes hsite W)
  have LI := Lib.hid (show (Tryd.prog.info? 64).map (·.size) = some (leaseC st e0 u r D).size by rw [lease_size _ _ _ _ _ hD]; kernel_rfl)
  have SI := Lib.hid (show (Tryd.prog.info? 50).map (·.size) = some (D.map Hs.bv).length by rw [List.length_map, hD]; kernel_rfl)
  have wU : IntKind.i64.wrap U = U := by rw [← hU, IntKind.wrap_i64, IntKind.wrap_i64]; omega
  have CH := Lib.hid (fun (X : World) (h : RwA X a l) (hla : Hs.LaidC X) => checkL_any a c l st e0 u r D 1 r D U U X h ok hD hD h1 h2 h3 h4 hla)
  obtain ⟨R, hR⟩ : ∃ R, chkE l 1 r 43 [leaseP st e0 u r] D U U = R := ⟨_, rfl⟩
  simp only [hR] at CH
  rw [hR]
  obtain ⟨N, hN⟩ : ∃ N, l.length = N := ⟨_, rfl⟩
  simp only [hN] at CH
  rw [hN]
  have HD := Lib.hid hD
  clear hla hp hsite ok hR hN h1 h2 h3 h4 hD
  obtain ⟨LC, hLC⟩ : ∃ C, leaseC st e0 u r D = C := ⟨_, rfl⟩
  obtain ⟨G, hG⟩ : ∃ G, w.heap.size = G := ⟨_, rfl⟩
  have HG := Lib.hid hG
  have Kx := Lib.hid (show Blk (w.alloc (.cells LC 64)) G 64 (leaseC st e0 u r D) from by rw [hLC]; exact (Blk.new' w _ _ _ hG rfl))
  have B := Lib.hid (show Below w.heap.size w (w.alloc (.cells LC 64)) by (repeat' (first | (with_reducible exact Below.refl _ _) | (with_reducible assumption) | (with_reducible refine Below.alloc ?_ ?_ _) | (with_reducible refine Below.drew ?_) | (with_reducible refine below_dn ?_) | (with_reducible refine Below.setCell ?_ ?_ _) | (with_reducible exact Nat.le_refl _) | omega | (simp only [World.size_alloc, World.size_setCell, World.size_drew]; omega) | (simp; omega) | (simp; done))))
  rw [hLC]
  clear hLC
  go_enter Tryd.func51, Tryd.ntmps51
  go_upto_region 1 with (fail)
  try rw [hG]
  generalize hw0 : (w.alloc (.cells LC 64)) = w0 at Kx B ⊢
  clear hw0 hG
  obtain ⟨x0, x1, x2, x3⟩ := lease_cells Kx.out
  go_wp2_with fail
  refine (SY.out _).mono ?_
  rintro e wz ⟨rfl, rfl⟩
  obtain ⟨gp, hgp⟩ : ∃ G, w0.heap.size = G := ⟨_, rfl⟩
  have Kp := Lib.hid (show Blk (w0.alloc (.cells #[.int .i64 U, .int .i64 U] 26)) gp 26 #[.int .i64 U, .int .i64 U] from Blk.new' w0 _ _ _ hgp rfl)
  replace Kx := Lib.hid (Kx.out.alloc (.cells #[.int .i64 U, .int .i64 U] 26))
  replace B := Lib.hid (B.out.alloc B.out.size (.cells #[.int .i64 U, .int .i64 U] 26))
  go_upto_region 4 with (fail)
  try rw [hgp]
  generalize hw : w0.alloc (.cells #[.int .i64 U, .int .i64 U] 26) = w1 at Kx Kp B ⊢
  clear hw hgp x0 x1 x2 x3
  obtain ⟨d0, d1, d2, d3, d4, d5, d6, d7, d8, d9, d10, d11, d12, d13, d14, d15, rfl⟩ := list16 HD.out
  obtain ⟨x0, x1, x2, x3⟩ := lease_cells Kx.out
  obtain ⟨p0, p1⟩ := twob Kp.out
  have Hx := Lib.hid (show Hs.Blk w1 G 64 (leaseC st e0 u r [d0, d1, d2, d3, d4, d5, d6, d7, d8, d9, d10, d11, d12, d13, d14, d15]) from Kx.out)
  have Hs4 := Lib.hid (lease_seal Kx.out)
  clear HD
  go_wp2_with (first | (with_reducible refine Hs.wpList_load_all rfl 64 _ rfl G rfl 64 (leaseC st e0 u r [d0, d1, d2, d3, d4, d5, d6, d7, d8, d9, d10, d11, d12, d13, d14, d15]) _ Hx.out Tryd.underlying64 LI.out ?_) | (with_reducible refine wpList_load_mid rfl 50 _ rfl G 4 rfl ([d0, d1, d2, d3, d4, d5, d6, d7, d8, d9, d10, d11, d12, d13, d14, d15].map Hs.bv) _ Hs4.out Tryd.underlying50 rfl SI.out ?_))
  refine (CH.out _ (HP.out.mono B.out) (HLA.out.below B.out)).mono ?_
  rintro e w3 ⟨rfl, hb⟩
  replace B := Lib.hid (B.out.trans (hb.mono B.out.size))
  clear hb
  go_wp2
  go_ret
  exact ⟨rfl, B.out⟩
set_option maxRecDepth 100000 in
theorem checkLease_bad (a : Option Addr) (c : Nat) (l : List Rw) (st e0 u r : Int) (D : List Nat) (w : World) (hsite : ¬ (0 ≤ st ∧ st < 64)) :
    Calls Tryd.prog 51 #[.slice a l.length c, .agg (leaseC st e0 u r D)] w fun e w' => e = .returned (.int .i64 1) ∧ Below w.heap.size w w' := by
  have SN := Lib.hid (fun W : World => site_no hsite W)
  obtain ⟨N, hN⟩ : ∃ N, l.length = N := ⟨_, rfl⟩
  rw [hN]
  clear hsite hN
  obtain ⟨LC, hLC⟩ : ∃ C, leaseC st e0 u r D = C := ⟨_, rfl⟩
  obtain ⟨G, hG⟩ : ∃ G, w.heap.size = G := ⟨_, rfl⟩
  have HG := Lib.hid hG
  have Kx := Lib.hid (show Blk (w.alloc (.cells LC 64)) G 64 (leaseC st e0 u r D) from by rw [hLC]; exact (Blk.new' w _ _ _ hG rfl))
  have B0 := Lib.hid (show Below w.heap.size w (w.alloc (.cells LC 64)) by (repeat' (first | (with_reducible exact Below.refl _ _) | (with_reducible assumption) | (with_reducible refine Below.alloc ?_ ?_ _) | (with_reducible refine Below.drew ?_) | (with_reducible refine below_dn ?_) | (with_reducible refine Below.setCell ?_ ?_ _) | (with_reducible exact Nat.le_refl _) | omega | (simp only [World.size_alloc, World.size_setCell, World.size_drew]; omega) | (simp; omega) | (simp; done))))
  rw [hLC]
  clear hLC
  go_enter Tryd.func51, Tryd.ntmps51
  go_upto_region 1 with (fail)
  try rw [hG]
  generalize hw0 : (w.alloc (.cells LC 64)) = w0 at Kx B0 ⊢
  clear hw0 hG
  obtain ⟨x0, x1, x2, x3⟩ := lease_cells Kx.out
  go_wp2_with fail
  refine (SN.out _).mono ?_
  rintro e wz ⟨rfl, rfl⟩
  go_wp2
  go_ret
  exact ⟨rfl, B0.out⟩
set_option maxRecDepth 100000 in
theorem rcheckLease_bad (a : Option Addr) (c : Nat) (l : List Rw) (st e0 u r : Int) (D : List Nat) (w : World) (hsite : ¬ (0 ≤ st ∧ st < 64)) :
    Calls Tryd.prog 52 #[.slice a l.length c, .agg (leaseC st e0 u r D)] w fun e w' => e = .returned (.int .i64 1) ∧ Below w.heap.size w w' := by
  have SN := Lib.hid (fun W : World => rsite_no hsite W)
  obtain ⟨N, hN⟩ : ∃ N, l.length = N := ⟨_, rfl⟩
  rw [hN]
  clear hsite hN
  obtain ⟨LC, hLC⟩ : ∃ C, leaseC st e0 u r D = C := ⟨_, rfl⟩
  obtain ⟨G, hG⟩ : ∃ G, w.heap.size = G := ⟨_, rfl⟩
  have HG := Lib.hid hG
  have Kx := Lib.hid (show Blk (w.alloc (.cells LC 64)) G 64 (leaseC st e0 u r D) from by rw [hLC]; exact (Blk.new' w _ _ _ hG rfl))
  have B0 := Lib.hid (show Below w.heap.size w (w.alloc (.cells LC 64)) by (repeat' (first | (with_reducible exact Below.refl _ _) | (with_reducible assumption) | (with_reducible refine Below.alloc ?_ ?_ _) | (with_reducible refine Below.drew ?_) | (with_reducible refine below_dn ?_) | (with_reducible refine Below.setCell ?_ ?_ _) | (with_reducible exact Nat.le_refl _) | omega | (simp only [World.size_alloc, World.size_setCell, World.size_drew]; omega) | (simp; omega) | (simp; done))))
  rw [hLC]
  clear hLC
  go_enter Tryd.func52, Tryd.ntmps52
  go_upto_region 1 with (fail)
  try rw [hG]
  generalize hw0 : (w.alloc (.cells LC 64)) = w0 at Kx B0 ⊢
  clear hw0 hG
  obtain ⟨x0, x1, x2, x3⟩ := lease_cells Kx.out
  go_wp2_with fail
  refine (SN.out _).mono ?_
  rintro e wz ⟨rfl, rfl⟩
  go_wp2
  go_ret
  exact ⟨rfl, B0.out⟩
set_option maxRecDepth 100000 in
set_option maxHeartbeats 1000000 in
theorem rcheckLease_lo (a : Option Addr) (c : Nat) (l : List Rw) (st e0 u r : Int) (D : List Nat) (w : World) (hp : RwA w a l) (ok : RingOk l) (hD : D.length = 16) (hsite : 0 ≤ st ∧ st < 64) (h1 : i64Ok st) (h2 : i64Ok e0) (h3 : i64Ok u) (h4 : i64Ok r) (hlk : Hs.LaidK w) (hu : u < 1) :
    Calls Tryd.prog 52 #[.slice a l.length c, .agg (leaseC st e0 u r D)] w fun e w' => e = .returned (.int .i64 (if hasC (cR 1 r) l = true then 9 else 5)) ∧ Below w.heap.size w w' := by
  have SY := Lib.hid (fun W : World => rsite_yes hsite W)
  have HR0 := Lib.hid hp
  have t1 : decide (u < 1) = true := decide_eq_true hu
  obtain ⟨⟨f1, f2, f3, f4, f5⟩, hf⟩ : ∃ q, findL l 1 r = q := ⟨_, rfl⟩
  have FD := Lib.hid (show ∀ X : World, RwA X a l → Calls Tryd.prog 17 #[.slice a l.length c, .int .i64 1, .int .i64 r] X fun e w' => e = .returned (.agg #[.int .i64 f1, .int .i64 f2, .string f3, .int .i64 f4, .int .i64 f5, .int .i64 (findE l 1 r)]) ∧ Below X.heap.size X w' from fun X h => by have q := rfind_any a c l 1 r X h ok.ord (by have := ok.few; omega); rw [hf] at q; exact q)
  have hE : findE l 1 r = if hasC (cR 1 r) l = true then 0 else 5 := by
    by_cases hh : hasC (cR 1 r) l = true
    · rw [if_pos hh, (find_yes hh).2]
    · rw [if_neg hh, (find_no hh).2]
  by_cases hh : hasC (cR 1 r) l = true
  all_goals
    first | rw [if_pos hh] at hE | rw [if_neg hh] at hE
    simp only [hE] at FD
    first | rw [if_pos hh] | rw [if_neg hh]
    obtain ⟨N, hN⟩ : ∃ N, l.length = N := ⟨_, rfl⟩
    simp only [hN] at FD
    rw [hN]
    clear hp ok hsite h1 h2 h3 h4 hlk hf hE hh hN hD hu
    obtain ⟨LC, hLC⟩ : ∃ C, leaseC st e0 u r D = C := ⟨_, rfl⟩
    obtain ⟨G, hG⟩ : ∃ G, w.heap.size = G := ⟨_, rfl⟩
    have HG := Lib.hid hG
    have Kx := Lib.hid (show Blk (w.alloc (.cells LC 64)) G 64 (leaseC st e0 u r D) from by rw [hLC]; exact (Blk.new' w _ _ _ hG rfl))
    have B0 := Lib.hid (show Below w.heap.size w (w.alloc (.cells LC 64)) by (repeat' (first | (with_reducible exact Below.refl _ _) | (with_reducible assumption) | (with_reducible refine Below.alloc ?_ ?_ _) | (with_reducible refine Below.drew ?_) | (with_reducible refine below_dn ?_) | (with_reducible refine Below.setCell ?_ ?_ _) | (with_reducible exact Nat.le_refl _) | omega | (simp only [World.size_alloc, World.size_setCell, World.size_drew]; omega) | (simp; omega) | (simp; done))))
    rw [hLC]
    clear hLC
    go_enter Tryd.func52, Tryd.ntmps52
    go_upto_region 1 with (fail)
    try rw [hG]
    generalize hw0 : (w.alloc (.cells LC 64)) = w0 at Kx B0 ⊢
    clear hw0 hG
    obtain ⟨x0, x1, x2, x3⟩ := lease_cells Kx.out
    go_wp2_with fail
    refine (SY.out _).mono ?_
    rintro e wz ⟨rfl, rfl⟩
    go_wp2_with fail
    refine (FD.out _ (HR0.out.mono B0.out)).mono ?_
    rintro e w2 ⟨rfl, hb⟩
    replace B0 := Lib.hid (B0.out.trans (hb.mono B0.out.size))
    clear hb x0 x1 x2 x3 Kx
    go_wp2
    go_ret
    exact ⟨rfl, B0.out.alloc B0.out.size _⟩
set_option maxRecDepth 100000 in
set_option maxHeartbeats 1000000 in
theorem rcheckLease_hi (a : Option Addr) (c : Nat) (l : List Rw) (st e0 u r : Int) (D : List Nat) (w : World) (hp : RwA w a l) (ok : RingOk l) (hD : D.length = 16) (hsite : 0 ≤ st ∧ st < 64) (h1 : i64Ok st) (h2 : i64Ok e0) (h3 : i64Ok u) (h4 : i64Ok r) (hlk : Hs.LaidK w) (hu : ¬ u < 1) (hv : 1099511627776 < u) :
    Calls Tryd.prog 52 #[.slice a l.length c, .agg (leaseC st e0 u r D)] w fun e w' => e = .returned (.int .i64 (if hasC (cR 1 r) l = true then 9 else 5)) ∧ Below w.heap.size w w' := by
  have SY := Lib.hid (fun W : World => rsite_yes hsite W)
  have HR0 := Lib.hid hp
  have t1 : decide (u < 1) = false := decide_eq_false hu
  have t2 : decide (1099511627776 < u) = true := decide_eq_true hv
  obtain ⟨⟨f1, f2, f3, f4, f5⟩, hf⟩ : ∃ q, findL l 1 r = q := ⟨_, rfl⟩
  have FD := Lib.hid (show ∀ X : World, RwA X a l → Calls Tryd.prog 17 #[.slice a l.length c, .int .i64 1, .int .i64 r] X fun e w' => e = .returned (.agg #[.int .i64 f1, .int .i64 f2, .string f3, .int .i64 f4, .int .i64 f5, .int .i64 (findE l 1 r)]) ∧ Below X.heap.size X w' from fun X h => by have q := rfind_any a c l 1 r X h ok.ord (by have := ok.few; omega); rw [hf] at q; exact q)
  have hE : findE l 1 r = if hasC (cR 1 r) l = true then 0 else 5 := by
    by_cases hh : hasC (cR 1 r) l = true
    · rw [if_pos hh, (find_yes hh).2]
    · rw [if_neg hh, (find_no hh).2]
  by_cases hh : hasC (cR 1 r) l = true
  all_goals
    first | rw [if_pos hh] at hE | rw [if_neg hh] at hE
    simp only [hE] at FD
    first | rw [if_pos hh] | rw [if_neg hh]
    obtain ⟨N, hN⟩ : ∃ N, l.length = N := ⟨_, rfl⟩
    simp only [hN] at FD
    rw [hN]
    clear hp ok hsite h1 h2 h3 h4 hlk hf hE hh hN hD hu
    clear hv
    obtain ⟨LC, hLC⟩ : ∃ C, leaseC st e0 u r D = C := ⟨_, rfl⟩
    obtain ⟨G, hG⟩ : ∃ G, w.heap.size = G := ⟨_, rfl⟩
    have HG := Lib.hid hG
    have Kx := Lib.hid (show Blk (w.alloc (.cells LC 64)) G 64 (leaseC st e0 u r D) from by rw [hLC]; exact (Blk.new' w _ _ _ hG rfl))
    have B0 := Lib.hid (show Below w.heap.size w (w.alloc (.cells LC 64)) by (repeat' (first | (with_reducible exact Below.refl _ _) | (with_reducible assumption) | (with_reducible refine Below.alloc ?_ ?_ _) | (with_reducible refine Below.drew ?_) | (with_reducible refine below_dn ?_) | (with_reducible refine Below.setCell ?_ ?_ _) | (with_reducible exact Nat.le_refl _) | omega | (simp only [World.size_alloc, World.size_setCell, World.size_drew]; omega) | (simp; omega) | (simp; done))))
    rw [hLC]
    clear hLC
    go_enter Tryd.func52, Tryd.ntmps52
    go_upto_region 1 with (fail)
    try rw [hG]
    generalize hw0 : (w.alloc (.cells LC 64)) = w0 at Kx B0 ⊢
    clear hw0 hG
    obtain ⟨x0, x1, x2, x3⟩ := lease_cells Kx.out
    go_wp2_with fail
    refine (SY.out _).mono ?_
    rintro e wz ⟨rfl, rfl⟩
    go_wp2_with fail
    refine (FD.out _ (HR0.out.mono B0.out)).mono ?_
    rintro e w2 ⟨rfl, hb⟩
    replace B0 := Lib.hid (B0.out.trans (hb.mono B0.out.size))
    clear hb x0 x1 x2 x3 Kx
    go_wp2
    go_ret
    exact ⟨rfl, B0.out.alloc B0.out.size _⟩
set_option maxRecDepth 100000 in
set_option maxHeartbeats 1000000 in
theorem rcheckLease_in (a : Option Addr) (c : Nat) (l : List Rw) (st e0 u r : Int) (D : List Nat) (w : World) (hp : RwA w a l) (ok : RingOk l) (hD : D.length = 16) (hsite : 0 ≤ st ∧ st < 64) (h1 : i64Ok st) (h2 : i64Ok e0) (h3 : i64Ok u) (h4 : i64Ok r) (hlk : Hs.LaidK w) (hu : ¬ u < 1) (hv : ¬ 1099511627776 < u) :
    Calls Tryd.prog 52 #[.slice a l.length c, .agg (leaseC st e0 u r D)] w fun e w' => e = .returned (.int .i64 (chkE l 1 r 43 [leaseP st e0 u r] D (u - 1) (u - 1))) ∧ Below w.heap.size w w' := by
  have SY := Lib.hid (fun W : World => rsite_yes hsite W)
  have HLK := Lib.hid hlk
  have HR0 := Lib.hid hp
  have t1 : decide (u < 1) = false := decide_eq_false hu
  have t2 : decide (1099511627776 < u) = false := decide_eq_false hv
  have LP := Lib.hid (fun (X : World) => rleaseParts_any st e0 u r D X h1 h2 h3 h4)
  have PS : ∀ x ∈ [leaseP st e0 u r], x.size ≤ 400 := fun x hx => by
    obtain rfl := List.mem_singleton.1 hx
    exact numP_le [st, e0, u, r] (fun y hy => by
      simp only [List.mem_cons, List.not_mem_nil, or_false] at hy
      rcases hy with rfl | rfl | rfl | rfl <;> assumption) (by simp)
  have wU : IntKind.i64.wrap (u - 1) = u - 1 := by rw [IntKind.wrap_i64]; omega
  have CK := Lib.hid (fun (b : Option Addr) (c2 : Nat) (X : World) (h : RwA X a l) (h2 : StR X b [leaseP st e0 u r]) (hla : Hs.LaidK X) => rcheck_any a c l 1 r 43 43 b c2 [leaseP st e0 u r] D (u - 1) (u - 1) X h h2 ok rfl ⟨by simp, PS⟩ hD hla)
  simp only [List.length_cons, List.length_nil, Nat.zero_add] at CK
  obtain ⟨U, hU⟩ : ∃ U, u - 1 = U := ⟨_, rfl⟩
  rw [hU] at wU ⊢
  simp only [hU] at CK
  have wU2 : IntKind.i64.wrap (u - 1) = U := by rw [hU]; exact wU
  obtain ⟨P, hP⟩ : ∃ P, leaseP st e0 u r = P := ⟨_, rfl⟩
  simp only [hP] at CK LP
  rw [hP]
  obtain ⟨R, hR⟩ : ∃ R, chkE l 1 r 43 [P] D U U = R := ⟨_, rfl⟩
  simp only [hR] at CK
  rw [hR]
  have LI := Lib.hid (show (Tryd.prog.info? 64).map (·.size) = some (leaseC st e0 u r D).size by rw [lease_size _ _ _ _ _ hD]; kernel_rfl)
  have SI := Lib.hid (show (Tryd.prog.info? 50).map (·.size) = some (D.map Hs.bv).length by rw [List.length_map, hD]; kernel_rfl)
  obtain ⟨N, hN⟩ : ∃ N, l.length = N := ⟨_, rfl⟩
  simp only [hN] at CK
  rw [hN]
  clear hlk hp h1 h2 h3 h4 PS hP hR hD ok hN hsite hu hv hU
  obtain ⟨LC, hLC⟩ : ∃ C, leaseC st e0 u r D = C := ⟨_, rfl⟩
  obtain ⟨G, hG⟩ : ∃ G, w.heap.size = G := ⟨_, rfl⟩
  have HG := Lib.hid hG
  have Kx := Lib.hid (show Blk (w.alloc (.cells LC 64)) G 64 (leaseC st e0 u r D) from by rw [hLC]; exact (Blk.new' w _ _ _ hG rfl))
  have B0 := Lib.hid (show Below w.heap.size w (w.alloc (.cells LC 64)) by (repeat' (first | (with_reducible exact Below.refl _ _) | (with_reducible assumption) | (with_reducible refine Below.alloc ?_ ?_ _) | (with_reducible refine Below.drew ?_) | (with_reducible refine below_dn ?_) | (with_reducible refine Below.setCell ?_ ?_ _) | (with_reducible exact Nat.le_refl _) | omega | (simp only [World.size_alloc, World.size_setCell, World.size_drew]; omega) | (simp; omega) | (simp; done))))
  rw [hLC]
  clear hLC
  go_enter Tryd.func52, Tryd.ntmps52
  go_upto_region 1 with (fail)
  try rw [hG]
  generalize hw0 : (w.alloc (.cells LC 64)) = w0 at Kx B0 ⊢
  clear hw0 hG
  obtain ⟨x0, x1, x2, x3⟩ := lease_cells Kx.out
  go_wp2_with fail
  refine (SY.out _).mono ?_
  rintro e wz ⟨rfl, rfl⟩
  go_upto_region 9 with (fail)
  clear x0 x1 x2 x3
  refine wp_region_held_drew (S := fun W => Blk W G 64 (leaseC st e0 u r D)) (by kernel_rfl) Kx.out.drew (fun hHeld => ?_)
  replace B0 := Lib.hid B0.out.drew
  generalize w0.drew = w1 at B0 hHeld ⊢
  refine wpAnyH_take (i := 0) (v := .slice a N c) rfl (by kernel_rfl) (by kernel_rfl) (by kernel_rfl) (fun _ _ _ h => h) (Or.inl ⟨by rfl, fun W hW => by go_simp⟩) (by assumption) ?_
  (try simp only [Act.put, List.getElem_toArray, List.getElem_cons_succ, List.getElem_cons_zero, List.setIfInBounds_toArray, List.set_cons_zero, List.set_cons_succ])
  refine wpAnyH_take (i := 1) (v := .pointer (some ⟨G, 3, none⟩)) rfl (by kernel_rfl) (by kernel_rfl) (by kernel_rfl) (fun _ _ _ h => h) (Or.inl ⟨by rfl, fun W hW => by go_simp⟩) (by assumption) ?_
  (try simp only [Act.put, List.getElem_toArray, List.getElem_cons_succ, List.getElem_cons_zero, List.setIfInBounds_toArray, List.set_cons_zero, List.set_cons_succ])
  refine wpAnyH_take (i := 2) (v := .int .i64 r) rfl (by kernel_rfl) (by kernel_rfl) (by kernel_rfl) (fun _ _ _ h => h) (Or.inl ⟨by rfl, fun W hW => (by obtain ⟨x0, x1, x2, x3⟩ := lease_cells hW; go_simp)⟩) (by assumption) ?_
  (try simp only [Act.put, List.getElem_toArray, List.getElem_cons_succ, List.getElem_cons_zero, List.setIfInBounds_toArray, List.set_cons_zero, List.set_cons_succ])
  refine wpAnyH_take (i := 3) (v := .agg (leaseC st e0 u r D)) rfl (by kernel_rfl) (by kernel_rfl) (by kernel_rfl) (fun _ _ _ h => h) (Or.inl ⟨by rfl, fun W hW => exec_load_row 64 _ rfl G rfl 64 (leaseC st e0 u r D) (0, 0) _ hW Tryd.underlying64 rfl LI.out⟩) (by assumption) ?_
  (try simp only [Act.put, List.getElem_toArray, List.getElem_cons_succ, List.getElem_cons_zero, List.setIfInBounds_toArray, List.set_cons_zero, List.set_cons_succ])
  refine wpAnyH_take (i := 5) (v := .pointer (some ⟨G, 4, none⟩)) rfl (by kernel_rfl) (by kernel_rfl) (by kernel_rfl) (fun _ _ _ h => h) (Or.inl ⟨by rfl, fun W hW => by go_simp⟩) (by assumption) ?_
  (try simp only [Act.put, List.getElem_toArray, List.getElem_cons_succ, List.getElem_cons_zero, List.setIfInBounds_toArray, List.set_cons_zero, List.set_cons_succ])
  refine wpAnyH_take (i := 6) (v := .agg (D.map Hs.bv).toArray) rfl (by kernel_rfl) (by kernel_rfl) (by kernel_rfl) (fun _ _ _ h => h) (Or.inl ⟨by rfl, fun W hW => exec_load_mid 50 _ rfl G 4 rfl (D.map Hs.bv) _ (lease_seal hW) Tryd.underlying50 rfl SI.out⟩) (by assumption) ?_
  (try simp only [Act.put, List.getElem_toArray, List.getElem_cons_succ, List.getElem_cons_zero, List.setIfInBounds_toArray, List.set_cons_zero, List.set_cons_succ])
  refine wpAnyH_take (i := 7) (v := .pointer (some ⟨G, 2, none⟩)) rfl (by kernel_rfl) (by kernel_rfl) (by kernel_rfl) (fun _ _ _ h => h) (Or.inl ⟨by rfl, fun W hW => by go_simp⟩) (by assumption) ?_
  (try simp only [Act.put, List.getElem_toArray, List.getElem_cons_succ, List.getElem_cons_zero, List.setIfInBounds_toArray, List.set_cons_zero, List.set_cons_succ])
  refine wpAnyH_take (i := 8) (v := .int .i64 u) rfl (by kernel_rfl) (by kernel_rfl) (by kernel_rfl) (fun _ _ _ h => h) (Or.inl ⟨by rfl, fun W hW => (by obtain ⟨x0, x1, x2, x3⟩ := lease_cells hW; go_simp)⟩) (by assumption) ?_
  (try simp only [Act.put, List.getElem_toArray, List.getElem_cons_succ, List.getElem_cons_zero, List.setIfInBounds_toArray, List.set_cons_zero, List.set_cons_succ])
  refine wpAnyH_take (i := 9) (v := .int .i64 U) rfl (by kernel_rfl) (by kernel_rfl) (by kernel_rfl) (fun _ _ _ h => h) (Or.inl ⟨by rfl, fun W hW => by go_simp⟩) (by assumption) ?_
  (try simp only [Act.put, List.getElem_toArray, List.getElem_cons_succ, List.getElem_cons_zero, List.setIfInBounds_toArray, List.set_cons_zero, List.set_cons_succ])
  refine wpAnyH_take (i := 10) (v := .pointer (some ⟨G, 2, none⟩)) rfl (by kernel_rfl) (by kernel_rfl) (by kernel_rfl) (fun _ _ _ h => h) (Or.inl ⟨by rfl, fun W hW => by go_simp⟩) (by assumption) ?_
  (try simp only [Act.put, List.getElem_toArray, List.getElem_cons_succ, List.getElem_cons_zero, List.setIfInBounds_toArray, List.set_cons_zero, List.set_cons_succ])
  refine wpAnyH_take (i := 11) (v := .int .i64 u) rfl (by kernel_rfl) (by kernel_rfl) (by kernel_rfl) (fun _ _ _ h => h) (Or.inl ⟨by rfl, fun W hW => (by obtain ⟨x0, x1, x2, x3⟩ := lease_cells hW; go_simp)⟩) (by assumption) ?_
  (try simp only [Act.put, List.getElem_toArray, List.getElem_cons_succ, List.getElem_cons_zero, List.setIfInBounds_toArray, List.set_cons_zero, List.set_cons_succ])
  refine wpAnyH_take (i := 12) (v := .int .i64 U) rfl (by kernel_rfl) (by kernel_rfl) (by kernel_rfl) (fun _ _ _ h => h) (Or.inl ⟨by rfl, fun W hW => by go_simp⟩) (by assumption) ?_
  (try simp only [Act.put, List.getElem_toArray, List.getElem_cons_succ, List.getElem_cons_zero, List.setIfInBounds_toArray, List.set_cons_zero, List.set_cons_succ])
  refine wpAnyH_take (i := 13) (v := .agg #[.int .i64 U, .int .i64 U]) rfl (by kernel_rfl) (by kernel_rfl) (by kernel_rfl) (fun _ _ _ h => h) (Or.inl ⟨by rfl, fun W hW => by go_simp⟩) (by assumption) ?_
  (try simp only [Act.put, List.getElem_toArray, List.getElem_cons_succ, List.getElem_cons_zero, List.setIfInBounds_toArray, List.set_cons_zero, List.set_cons_succ])
  refine wpAnyH_ready (rs := [4]) (by kernel_rfl) (by simp) (AllReadyH.cons rfl (fun K hK => ?_) AllReadyH.nil)
  go_simp
  refine (LP.out _).mono ?_
  rintro e w3 ⟨⟨b, c2, rfl, hr⟩, hb⟩
  have HR := Lib.hid hr
  have hB3 := Lib.hid hb
  replace B0 := Lib.hid (B0.out.trans (hb.mono B0.out.size))
  clear hb hr
  go_wp2_with fail
  refine hK _ _ (hHeld.below hB3.out hHeld.lt) (fun hHeld1 => ?_)
  clear hK K
  (try simp only [Act.put, List.getElem_toArray, List.getElem_cons_succ, List.getElem_cons_zero, List.setIfInBounds_toArray, List.set_cons_zero, List.set_cons_succ])
  refine wpAnyH_ready (rs := [14]) (by kernel_rfl) (by simp) (AllReadyH.cons rfl (fun K hK => ?_) AllReadyH.nil)
  go_simp
  refine (CK.out b c2 _ (HR0.out.mono B0.out) HR.out (HLK.out.mono B0.out)).mono ?_
  rintro e w4 ⟨rfl, hb⟩
  have hB4 := Lib.hid hb
  replace B0 := Lib.hid (B0.out.trans (hb.mono B0.out.size))
  clear hb
  go_wp2_with fail
  refine hK _ _ (hHeld1.below hB4.out hHeld1.lt) (fun hHeld2 => ?_)
  clear hK K
  (try simp only [Act.put, List.getElem_toArray, List.getElem_cons_succ, List.getElem_cons_zero, List.setIfInBounds_toArray, List.set_cons_zero, List.set_cons_succ])
  refine wpAnyH_take (i := 15) (v := .int .i64 R) rfl (by kernel_rfl) (by kernel_rfl) (by kernel_rfl) (fun _ _ _ h => h) (Or.inl ⟨by rfl, fun W hW => by go_simp⟩) (by assumption) ?_
  (try simp only [Act.put, List.getElem_toArray, List.getElem_cons_succ, List.getElem_cons_zero, List.setIfInBounds_toArray, List.set_cons_zero, List.set_cons_succ])
  refine wpAnyH_done (by kernel_rfl) ?_ _
  go_wp2
  go_ret
  exact ⟨rfl, B0.out⟩
end Go.Proofs.YtcdcnklfcmoiiaaDoor
