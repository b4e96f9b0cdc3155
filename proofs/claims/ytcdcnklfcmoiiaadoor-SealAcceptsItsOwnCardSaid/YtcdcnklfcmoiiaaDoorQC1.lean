/- Contracts: CheckStamp and CheckHead of the program. -/
import Derived.Test.YtcdcnklfcmoiiaaDoorQPT
import Derived.Deep.RegionHeld
import Derived.Test.YtcdcnklfcmoiiaaDoorQEP
namespace Go.Proofs.YtcdcnklfcmoiiaaDoor
section
set_option linter.unusedVariables false
set_option linter.unusedSimpArgs false
open Go.RowKit Go.Sort
set_option maxRecDepth 100000 in
set_option maxHeartbeats 1000000 in
theorem checkS_any (a : Option Addr) (c : Nat) (l : List Rw) (ad va tg : ByteArray) (st sz lo hi ga se : Int) (B : List Nat) (S : List Nat) (p s : Int) (S2 : List Nat) (lo2 hi2 : Int) (w : World) (hp : RwA w a l) (ok : RingOk l) (hB : B.length = 16) (hb : ∀ x ∈ B, x < 256) (hS : S.length = 16) (hS2 : S2.length = 16) (hst : i64Ok st) (hsz : i64Ok sz) (hlo : i64Ok lo) (hhi : i64Ok hi) (hga : i64Ok ga) (hse : i64Ok se) (hT : ad.size ≤ 200 ∧ va.size ≤ 200 ∧ tg.size ≤ 200) (hla : Hs.LaidC w) :
    Calls Tryd.prog 75 #[.slice a l.length c, .agg (recC [.string ad, .string va, .int .i64 st, .int .i64 sz] B [.string tg, .int .i64 lo, .int .i64 hi, .int .i64 ga, .int .i64 se] S), .func (.func 30) #[] #[], .agg (claimC p s 41 S2 lo2 hi2)] w fun e w' => e = .returned (.int .i64 (chkE l p s 41 (stampP ad va tg st sz lo hi ga se B) S2 lo2 hi2)) ∧ Below w.heap.size w w' := by
  have HLA := Lib.hid hla
  have HR0 := Lib.hid hp
  have LP := Lib.hid (show ∀ X : World, Calls Tryd.prog 30 #[.agg (recC [.string ad, .string va, .int .i64 st, .int .i64 sz] B [.string tg, .int .i64 lo, .int .i64 hi, .int .i64 ga, .int .i64 se] S)] X fun e' w' => (∃ a c, e' = .returned (.slice a (stampP ad va tg st sz lo hi ga se B).length c) ∧ StR w' a (stampP ad va tg st sz lo hi ga se B)) ∧ Below X.heap.size X w' from fun X => stampParts_any ad va tg st sz lo hi ga se B S X hB hb hst hsz hlo hhi hga hse)
  have PS := stampP_le hB hst hsz hlo hhi hga hse hT
  have CK := Lib.hid (fun (b : Option Addr) (c2 : Nat) (X : World) (h : RwA X a l) (h2 : StR X b (stampP ad va tg st sz lo hi ga se B)) (hla : Hs.LaidC X) => check_any a c l p s 41 41 b c2 (stampP ad va tg st sz lo hi ga se B) S2 lo2 hi2 X h h2 ok rfl ⟨by show 5 ≤ 36; omega, PS⟩ hS2 hla)
  obtain ⟨P, hP⟩ : ∃ P, stampP ad va tg st sz lo hi ga se B = P := ⟨_, rfl⟩
  simp only [hP] at CK LP
  rw [hP]
  obtain ⟨R, hR⟩ : ∃ R, chkE l p s 41 P S2 lo2 hi2 = R := ⟨_, rfl⟩
  simp only [hR] at CK
  rw [hR]
  have LI := Lib.hid (show (Tryd.prog.info? 58).map (·.size) = some (recC [.string ad, .string va, .int .i64 st, .int .i64 sz] B [.string tg, .int .i64 lo, .int .i64 hi, .int .i64 ga, .int .i64 se] S).size by rw [rec_size _ _ _ _ hB hS]; kernel_rfl)
  have SI := Lib.hid (show (Tryd.prog.info? 50).map (·.size) = some (S2.map Hs.bv).length by rw [List.length_map, hS2]; kernel_rfl)
  have PI := Lib.hid (show (Tryd.prog.info? 26).map (·.size) = some ([.int .i64 lo2, .int .i64 hi2] : List Value).length by kernel_rfl)
  have HSL := Lib.hid hS2
  obtain ⟨N, hN⟩ : ∃ N, l.length = N := ⟨_, rfl⟩
  obtain ⟨n, hn⟩ : ∃ n, P.length = n := ⟨_, rfl⟩
  simp only [hN, hn] at CK
  simp only [hn] at LP
  rw [hN]
  clear hla hp hst hsz hlo hhi hga hse PS hP hR hB hb hS hS2 ok hN hn hT
  obtain ⟨LC, hLC⟩ : ∃ C, (recC [.string ad, .string va, .int .i64 st, .int .i64 sz] B [.string tg, .int .i64 lo, .int .i64 hi, .int .i64 ga, .int .i64 se] S) = C := ⟨_, rfl⟩
  obtain ⟨CC, hCC⟩ : ∃ C, claimC p s 41 S2 lo2 hi2 = C := ⟨_, rfl⟩
  obtain ⟨G, hG⟩ : ∃ G, w.heap.size = G := ⟨_, rfl⟩
  have HG := Lib.hid hG
  have Kx := Lib.hid (show Blk ((w.alloc (.cells LC 58)).alloc (.cells CC 111)) G 58 (recC [.string ad, .string va, .int .i64 st, .int .i64 sz] B [.string tg, .int .i64 lo, .int .i64 hi, .int .i64 ga, .int .i64 se] S) from by rw [hLC]; exact (Blk.new' w _ _ _ hG rfl).alloc _)
  have Kc := Lib.hid (show Blk ((w.alloc (.cells LC 58)).alloc (.cells CC 111)) (G + 1) 111 (claimC p s 41 S2 lo2 hi2) from by rw [hCC]; exact Blk.new' _ _ _ _ (by rw [World.size_alloc, hG]) rfl)
  have B0 := Lib.hid (show Below w.heap.size w ((w.alloc (.cells LC 58)).alloc (.cells CC 111)) by (repeat' (first | (with_reducible exact Below.refl _ _) | (with_reducible assumption) | (with_reducible refine Below.alloc ?_ ?_ _) | (with_reducible refine Below.drew ?_) | (with_reducible refine below_dn ?_) | (with_reducible refine Below.setCell ?_ ?_ _) | (with_reducible exact Nat.le_refl _) | omega | (simp only [World.size_alloc, World.size_setCell, World.size_drew]; omega) | (simp; omega) | (simp; done))))
  rw [hLC, hCC]
  clear hLC hCC
  go_enter Tryd.func75, Tryd.ntmps75
  go_upto_region 1 with (fail)
  try rw [hG]
  generalize hw0 : ((w.alloc (.cells LC 58)).alloc (.cells CC 111)) = w0 at Kx Kc B0 ⊢
  clear hw0 hG
  refine wp_region_held_drew (S := fun W => Blk W G 58 (recC [.string ad, .string va, .int .i64 st, .int .i64 sz] B [.string tg, .int .i64 lo, .int .i64 hi, .int .i64 ga, .int .i64 se] S) ∧ Blk W (G + 1) 111 (claimC p s 41 S2 lo2 hi2)) (by kernel_rfl) ⟨Kx.out.drew, Kc.out.drew⟩ (fun hHeld => ?_)
  replace B0 := Lib.hid B0.out.drew
  generalize w0.drew = w1 at B0 hHeld ⊢
  refine wpAnyH_take (i := 0) (v := .slice a N c) rfl (by kernel_rfl) (by kernel_rfl) (by kernel_rfl) (fun _ _ _ h => h) (Or.inl ⟨by rfl, fun W hW => by go_simp⟩) (by assumption) ?_
  (try simp only [Act.put, List.getElem_toArray, List.getElem_cons_succ, List.getElem_cons_zero, List.setIfInBounds_toArray, List.set_cons_zero, List.set_cons_succ])
  refine wpAnyH_take (i := 1) (v := .pointer (some ⟨G + 1, 0, none⟩)) rfl (by kernel_rfl) (by kernel_rfl) (by kernel_rfl) (fun _ _ _ h => h) (Or.inl ⟨by rfl, fun W hW => by go_simp⟩) (by assumption) ?_
  (try simp only [Act.put, List.getElem_toArray, List.getElem_cons_succ, List.getElem_cons_zero, List.setIfInBounds_toArray, List.set_cons_zero, List.set_cons_succ])
  refine wpAnyH_take (i := 2) (v := .int .i64 p) rfl (by kernel_rfl) (by kernel_rfl) (by kernel_rfl) (fun _ _ _ h => h) (Or.inl ⟨by rfl, fun W hW => (by have h := (claim_cells hW.2).1; go_simp)⟩) (by assumption) ?_
  (try simp only [Act.put, List.getElem_toArray, List.getElem_cons_succ, List.getElem_cons_zero, List.setIfInBounds_toArray, List.set_cons_zero, List.set_cons_succ])
  refine wpAnyH_take (i := 3) (v := .pointer (some ⟨G + 1, 1, none⟩)) rfl (by kernel_rfl) (by kernel_rfl) (by kernel_rfl) (fun _ _ _ h => h) (Or.inl ⟨by rfl, fun W hW => by go_simp⟩) (by assumption) ?_
  (try simp only [Act.put, List.getElem_toArray, List.getElem_cons_succ, List.getElem_cons_zero, List.setIfInBounds_toArray, List.set_cons_zero, List.set_cons_succ])
  refine wpAnyH_take (i := 4) (v := .int .i64 s) rfl (by kernel_rfl) (by kernel_rfl) (by kernel_rfl) (fun _ _ _ h => h) (Or.inl ⟨by rfl, fun W hW => (by have h := (claim_cells hW.2).2.1; go_simp)⟩) (by assumption) ?_
  (try simp only [Act.put, List.getElem_toArray, List.getElem_cons_succ, List.getElem_cons_zero, List.setIfInBounds_toArray, List.set_cons_zero, List.set_cons_succ])
  refine wpAnyH_take (i := 5) (v := .pointer (some ⟨G + 1, 2, none⟩)) rfl (by kernel_rfl) (by kernel_rfl) (by kernel_rfl) (fun _ _ _ h => h) (Or.inl ⟨by rfl, fun W hW => by go_simp⟩) (by assumption) ?_
  (try simp only [Act.put, List.getElem_toArray, List.getElem_cons_succ, List.getElem_cons_zero, List.setIfInBounds_toArray, List.set_cons_zero, List.set_cons_succ])
  refine wpAnyH_take (i := 6) (v := .int .i64 41) rfl (by kernel_rfl) (by kernel_rfl) (by kernel_rfl) (fun _ _ _ h => h) (Or.inl ⟨by rfl, fun W hW => (by have h := (claim_cells hW.2).2.2; go_simp)⟩) (by assumption) ?_
  (try simp only [Act.put, List.getElem_toArray, List.getElem_cons_succ, List.getElem_cons_zero, List.setIfInBounds_toArray, List.set_cons_zero, List.set_cons_succ])
  refine wpAnyH_take (i := 7) (v := .func (.func 30) #[] #[]) rfl (by kernel_rfl) (by kernel_rfl) (by kernel_rfl) (fun _ _ _ h => h) (Or.inl ⟨by rfl, fun W hW => by go_simp⟩) (by assumption) ?_
  (try simp only [Act.put, List.getElem_toArray, List.getElem_cons_succ, List.getElem_cons_zero, List.setIfInBounds_toArray, List.set_cons_zero, List.set_cons_succ])
  refine wpAnyH_take (i := 8) (v := .agg (recC [.string ad, .string va, .int .i64 st, .int .i64 sz] B [.string tg, .int .i64 lo, .int .i64 hi, .int .i64 ga, .int .i64 se] S)) rfl (by kernel_rfl) (by kernel_rfl) (by kernel_rfl) (fun _ _ _ h => h) (Or.inl ⟨by rfl, fun W hW => exec_load_row 58 _ rfl G rfl 58 (recC [.string ad, .string va, .int .i64 st, .int .i64 sz] B [.string tg, .int .i64 lo, .int .i64 hi, .int .i64 ga, .int .i64 se] S) (0, 0) _ hW.1 Tryd.underlying58 rfl LI.out⟩) (by assumption) ?_
  (try simp only [Act.put, List.getElem_toArray, List.getElem_cons_succ, List.getElem_cons_zero, List.setIfInBounds_toArray, List.set_cons_zero, List.set_cons_succ])
  refine wpAnyH_take (i := 10) (v := .pointer (some ⟨G + 1, 3, none⟩)) rfl (by kernel_rfl) (by kernel_rfl) (by kernel_rfl) (fun _ _ _ h => h) (Or.inl ⟨by rfl, fun W hW => by go_simp⟩) (by assumption) ?_
  (try simp only [Act.put, List.getElem_toArray, List.getElem_cons_succ, List.getElem_cons_zero, List.setIfInBounds_toArray, List.set_cons_zero, List.set_cons_succ])
  refine wpAnyH_take (i := 11) (v := .agg (S2.map Hs.bv).toArray) rfl (by kernel_rfl) (by kernel_rfl) (by kernel_rfl) (fun _ _ _ h => h) (Or.inl ⟨by rfl, fun W hW => exec_load_mid 50 _ rfl (G + 1) 3 rfl (S2.map Hs.bv) _ (claim_seal hW.2) Tryd.underlying50 rfl SI.out⟩) (by assumption) ?_
  (try simp only [Act.put, List.getElem_toArray, List.getElem_cons_succ, List.getElem_cons_zero, List.setIfInBounds_toArray, List.set_cons_zero, List.set_cons_succ])
  refine wpAnyH_take (i := 12) (v := .pointer (some ⟨G + 1, 19, none⟩)) rfl (by kernel_rfl) (by kernel_rfl) (by kernel_rfl) (fun _ _ _ h => h) (Or.inl ⟨by rfl, fun W hW => by go_simp⟩) (by assumption) ?_
  (try simp only [Act.put, List.getElem_toArray, List.getElem_cons_succ, List.getElem_cons_zero, List.setIfInBounds_toArray, List.set_cons_zero, List.set_cons_succ])
  refine wpAnyH_take (i := 13) (v := .agg #[.int .i64 lo2, .int .i64 hi2]) rfl (by kernel_rfl) (by kernel_rfl) (by kernel_rfl) (fun _ _ _ h => h) (Or.inl ⟨by rfl, fun W hW => exec_load_mid 26 _ rfl (G + 1) 19 rfl [.int .i64 lo2, .int .i64 hi2] _ (claim_per HSL.out hW.2) Tryd.underlying26 rfl PI.out⟩) (by assumption) ?_
  (try simp only [Act.put, List.getElem_toArray, List.getElem_cons_succ, List.getElem_cons_zero, List.setIfInBounds_toArray, List.set_cons_zero, List.set_cons_succ])
  refine wpAnyH_ready (rs := [9]) (by kernel_rfl) (by simp) (AllReadyH.cons rfl (fun K hK => ?_) AllReadyH.nil)
  go_simp
  refine (LP.out _).mono ?_
  rintro e w3 ⟨⟨b, c2, rfl, hr⟩, hb⟩
  have HR := Lib.hid hr
  have hB3 := Lib.hid hb
  replace B0 := Lib.hid (B0.out.trans (hb.mono B0.out.size))
  clear hb hr
  go_wp2_with fail
  refine hK _ _ ⟨hHeld.1.below hB3.out hHeld.1.lt, hHeld.2.below hB3.out hHeld.2.lt⟩ (fun hHeld1 => ?_)
  clear hK K
  (try simp only [Act.put, List.getElem_toArray, List.getElem_cons_succ, List.getElem_cons_zero, List.setIfInBounds_toArray, List.set_cons_zero, List.set_cons_succ])
  refine wpAnyH_ready (rs := [14]) (by kernel_rfl) (by simp) (AllReadyH.cons rfl (fun K hK => ?_) AllReadyH.nil)
  go_simp
  refine (CK.out b c2 _ (HR0.out.mono B0.out) HR.out (HLA.out.below B0.out)).mono ?_
  rintro e w4 ⟨rfl, hb⟩
  have hB4 := Lib.hid hb
  replace B0 := Lib.hid (B0.out.trans (hb.mono B0.out.size))
  clear hb
  go_wp2_with fail
  refine hK _ _ ⟨hHeld1.1.below hB4.out hHeld1.1.lt, hHeld1.2.below hB4.out hHeld1.2.lt⟩ (fun hHeld2 => ?_)
  clear hK K
  (try simp only [Act.put, List.getElem_toArray, List.getElem_cons_succ, List.getElem_cons_zero, List.setIfInBounds_toArray, List.set_cons_zero, List.set_cons_succ])
  refine wpAnyH_take (i := 15) (v := .int .i64 R) rfl (by kernel_rfl) (by kernel_rfl) (by kernel_rfl) (fun _ _ _ h => h) (Or.inl ⟨by rfl, fun W hW => by go_simp⟩) (by assumption) ?_
  (try simp only [Act.put, List.getElem_toArray, List.getElem_cons_succ, List.getElem_cons_zero, List.setIfInBounds_toArray, List.set_cons_zero, List.set_cons_succ])
  refine wpAnyH_done (by kernel_rfl) ?_ _
  go_wp2
  go_ret
  exact ⟨rfl, B0.out⟩
set_option maxRecDepth 100000 in
set_option maxHeartbeats 1000000 in
theorem checkStamp_any (a : Option Addr) (c : Nat) (l : List Rw) (ad va tg : ByteArray) (st sz lo hi ga se : Int) (B : List Nat) (S : List Nat) (w : World) (hp : RwA w a l) (ok : RingOk l) (hB : B.length = 16) (hb : ∀ x ∈ B, x < 256) (hS : S.length = 16) (hst : i64Ok st) (hsz : i64Ok sz) (hlo : i64Ok lo) (hhi : i64Ok hi) (hga : i64Ok ga) (hse : i64Ok se) (hT : ad.size ≤ 200 ∧ va.size ≤ 200 ∧ tg.size ≤ 200) (hla : Hs.LaidC w) :
    Calls Tryd.prog 47 #[.slice a l.length c, .agg (recC [.string ad, .string va, .int .i64 st, .int .i64 sz] B [.string tg, .int .i64 lo, .int .i64 hi, .int .i64 ga, .int .i64 se] S)] w fun e w' => e = .returned (.int .i64 (chkE l (ga) (se) 41 (stampP ad va tg st sz lo hi ga se B) S lo hi)) ∧ Below w.heap.size w w' := by
  have HLA := Lib.hid hla
  have HP := Lib.hid hp
  have LI := Lib.hid (show (Tryd.prog.info? 58).map (·.size) = some (recC [.string ad, .string va, .int .i64 st, .int .i64 sz] B [.string tg, .int .i64 lo, .int .i64 hi, .int .i64 ga, .int .i64 se] S).size by rw [rec_size _ _ _ _ hB hS]; kernel_rfl)
  have SI := Lib.hid (show (Tryd.prog.info? 50).map (·.size) = some (S.map Hs.bv).length by rw [List.length_map, hS]; kernel_rfl)
  have PI := Lib.hid (show (Tryd.prog.info? 26).map (·.size) = some ([.int .i64 lo, .int .i64 hi] : List Value).length by kernel_rfl)
  have CH := Lib.hid (fun (X : World) (h : RwA X a l) (hla : Hs.LaidC X) => checkS_any a c l ad va tg st sz lo hi ga se B S (ga) (se) S lo hi X h ok hB hb hS hS hst hsz hlo hhi hga hse hT hla)
  obtain ⟨R, hR⟩ : ∃ R, chkE l (ga) (se) 41 (stampP ad va tg st sz lo hi ga se B) S lo hi = R := ⟨_, rfl⟩
  simp only [hR] at CH
  rw [hR]
  obtain ⟨N, hN⟩ : ∃ N, l.length = N := ⟨_, rfl⟩
  simp only [hN] at CH
  rw [hN]
  have HB := Lib.hid hB
  have HD := Lib.hid hS
  clear hla hp ok hR hN hB hb hS hst hsz hlo hhi hga hse hT
  obtain ⟨LC, hLC⟩ : ∃ C, (recC [.string ad, .string va, .int .i64 st, .int .i64 sz] B [.string tg, .int .i64 lo, .int .i64 hi, .int .i64 ga, .int .i64 se] S) = C := ⟨_, rfl⟩
  obtain ⟨G, hG⟩ : ∃ G, w.heap.size = G := ⟨_, rfl⟩
  have HG := Lib.hid hG
  have Kx := Lib.hid (show Blk (w.alloc (.cells LC 58)) G 58 (recC [.string ad, .string va, .int .i64 st, .int .i64 sz] B [.string tg, .int .i64 lo, .int .i64 hi, .int .i64 ga, .int .i64 se] S) from by rw [hLC]; exact (Blk.new' w _ _ _ hG rfl))
  have B0 := Lib.hid (show Below w.heap.size w (w.alloc (.cells LC 58)) by (repeat' (first | (with_reducible exact Below.refl _ _) | (with_reducible assumption) | (with_reducible refine Below.alloc ?_ ?_ _) | (with_reducible refine Below.drew ?_) | (with_reducible refine below_dn ?_) | (with_reducible refine Below.setCell ?_ ?_ _) | (with_reducible exact Nat.le_refl _) | omega | (simp only [World.size_alloc, World.size_setCell, World.size_drew]; omega) | (simp; omega) | (simp; done))))
  rw [hLC]
  clear hLC
  go_enter Tryd.func47, Tryd.ntmps47
  go_upto_region 1 with (fail)
  try rw [hG]
  generalize hw0 : (w.alloc (.cells LC 58)) = w0 at Kx B0 ⊢
  clear hw0 hG
  obtain ⟨d0, d1, d2, d3, d4, d5, d6, d7, d8, d9, d10, d11, d12, d13, d14, d15, rfl⟩ := list16 HD.out
  obtain ⟨xa0, xa1, xa2, xa3, xc0, xc1, xc2, xc3, xc4⟩ := stamp_cells HB.out Kx.out
  have Hx := Lib.hid (show Hs.Blk w0 G 58 (recC [.string ad, .string va, .int .i64 st, .int .i64 sz] B [.string tg, .int .i64 lo, .int .i64 hi, .int .i64 ga, .int .i64 se] [d0, d1, d2, d3, d4, d5, d6, d7, d8, d9, d10, d11, d12, d13, d14, d15]) from Kx.out)
  have Hs4 := Lib.hid (show w0.rangeAt G 25 ([d0, d1, d2, d3, d4, d5, d6, d7, d8, d9, d10, d11, d12, d13, d14, d15].map Hs.bv) from rec_S Kx.out HB.out)
  have Hp2 := Lib.hid (rec_sub (n := 21) (M := [.int .i64 lo, .int .i64 hi]) (L := [.string tg]) (R := [.int .i64 ga, .int .i64 se]) Kx.out HB.out rfl rfl)
  clear HD
  go_wp2_with (first | (with_reducible refine Hs.wpList_load_all rfl 58 _ rfl G rfl 58 (recC [.string ad, .string va, .int .i64 st, .int .i64 sz] B [.string tg, .int .i64 lo, .int .i64 hi, .int .i64 ga, .int .i64 se] [d0, d1, d2, d3, d4, d5, d6, d7, d8, d9, d10, d11, d12, d13, d14, d15]) _ Hx.out Tryd.underlying58 LI.out ?_) | (with_reducible refine wpList_load_mid rfl 50 _ rfl G 25 rfl ([d0, d1, d2, d3, d4, d5, d6, d7, d8, d9, d10, d11, d12, d13, d14, d15].map Hs.bv) _ Hs4.out Tryd.underlying50 rfl SI.out ?_) | (with_reducible refine wpList_load_mid rfl 26 _ rfl G 21 rfl [.int .i64 lo, .int .i64 hi] _ Hp2.out Tryd.underlying26 rfl PI.out ?_))
  refine (CH.out _ (HP.out.mono B0.out) (HLA.out.below B0.out)).mono ?_
  rintro e w3 ⟨rfl, hb⟩
  replace B0 := Lib.hid (B0.out.trans (hb.mono B0.out.size))
  clear hb
  go_wp2
  go_ret
  exact ⟨rfl, B0.out⟩
set_option maxRecDepth 100000 in
set_option maxHeartbeats 1000000 in
theorem checkH_any (a : Option Addr) (c : Nat) (l : List Rw) (si sz lo hi se : Int) (B : List Nat) (S : List Nat) (p s : Int) (S2 : List Nat) (lo2 hi2 : Int) (w : World) (hp : RwA w a l) (ok : RingOk l) (hB : B.length = 16) (hb : ∀ x ∈ B, x < 256) (hS : S.length = 16) (hS2 : S2.length = 16) (hsi : i64Ok si) (hsz : i64Ok sz) (hlo : i64Ok lo) (hhi : i64Ok hi) (hse : i64Ok se) (hla : Hs.LaidC w) :
    Calls Tryd.prog 80 #[.slice a l.length c, .agg (recC [.int .i64 si, .int .i64 sz] B [.int .i64 lo, .int .i64 hi, .int .i64 se] S), .func (.func 36) #[] #[], .agg (claimC p s 44 S2 lo2 hi2)] w fun e w' => e = .returned (.int .i64 (chkE l p s 44 (headP si sz lo hi se B) S2 lo2 hi2)) ∧ Below w.heap.size w w' := by
  have HLA := Lib.hid hla
  have HR0 := Lib.hid hp
  have LP := Lib.hid (show ∀ X : World, Calls Tryd.prog 36 #[.agg (recC [.int .i64 si, .int .i64 sz] B [.int .i64 lo, .int .i64 hi, .int .i64 se] S)] X fun e' w' => (∃ a c, e' = .returned (.slice a (headP si sz lo hi se B).length c) ∧ StR w' a (headP si sz lo hi se B)) ∧ Below X.heap.size X w' from fun X => headParts_any si sz lo hi se B S X hB hb hsi hsz hlo hhi hse)
  have PS := headP_le hB hsi hsz hlo hhi hse
  have CK := Lib.hid (fun (b : Option Addr) (c2 : Nat) (X : World) (h : RwA X a l) (h2 : StR X b (headP si sz lo hi se B)) (hla : Hs.LaidC X) => check_any a c l p s 44 44 b c2 (headP si sz lo hi se B) S2 lo2 hi2 X h h2 ok rfl ⟨by show 2 ≤ 36; omega, PS⟩ hS2 hla)
  obtain ⟨P, hP⟩ : ∃ P, headP si sz lo hi se B = P := ⟨_, rfl⟩
  simp only [hP] at CK LP
  rw [hP]
  obtain ⟨R, hR⟩ : ∃ R, chkE l p s 44 P S2 lo2 hi2 = R := ⟨_, rfl⟩
  simp only [hR] at CK
  rw [hR]
  have LI := Lib.hid (show (Tryd.prog.info? 66).map (·.size) = some (recC [.int .i64 si, .int .i64 sz] B [.int .i64 lo, .int .i64 hi, .int .i64 se] S).size by rw [rec_size _ _ _ _ hB hS]; kernel_rfl)
  have SI := Lib.hid (show (Tryd.prog.info? 50).map (·.size) = some (S2.map Hs.bv).length by rw [List.length_map, hS2]; kernel_rfl)
  have PI := Lib.hid (show (Tryd.prog.info? 26).map (·.size) = some ([.int .i64 lo2, .int .i64 hi2] : List Value).length by kernel_rfl)
  have HSL := Lib.hid hS2
  obtain ⟨N, hN⟩ : ∃ N, l.length = N := ⟨_, rfl⟩
  obtain ⟨n, hn⟩ : ∃ n, P.length = n := ⟨_, rfl⟩
  simp only [hN, hn] at CK
  simp only [hn] at LP
  rw [hN]
  clear hla hp hsi hsz hlo hhi hse PS hP hR hB hb hS hS2 ok hN hn
  obtain ⟨LC, hLC⟩ : ∃ C, (recC [.int .i64 si, .int .i64 sz] B [.int .i64 lo, .int .i64 hi, .int .i64 se] S) = C := ⟨_, rfl⟩
  obtain ⟨CC, hCC⟩ : ∃ C, claimC p s 44 S2 lo2 hi2 = C := ⟨_, rfl⟩
  obtain ⟨G, hG⟩ : ∃ G, w.heap.size = G := ⟨_, rfl⟩
  have HG := Lib.hid hG
  have Kx := Lib.hid (show Blk ((w.alloc (.cells LC 66)).alloc (.cells CC 111)) G 66 (recC [.int .i64 si, .int .i64 sz] B [.int .i64 lo, .int .i64 hi, .int .i64 se] S) from by rw [hLC]; exact (Blk.new' w _ _ _ hG rfl).alloc _)
  have Kc := Lib.hid (show Blk ((w.alloc (.cells LC 66)).alloc (.cells CC 111)) (G + 1) 111 (claimC p s 44 S2 lo2 hi2) from by rw [hCC]; exact Blk.new' _ _ _ _ (by rw [World.size_alloc, hG]) rfl)
  have B0 := Lib.hid (show Below w.heap.size w ((w.alloc (.cells LC 66)).alloc (.cells CC 111)) by (repeat' (first | (with_reducible exact Below.refl _ _) | (with_reducible assumption) | (with_reducible refine Below.alloc ?_ ?_ _) | (with_reducible refine Below.drew ?_) | (with_reducible refine below_dn ?_) | (with_reducible refine Below.setCell ?_ ?_ _) | (with_reducible exact Nat.le_refl _) | omega | (simp only [World.size_alloc, World.size_setCell, World.size_drew]; omega) | (simp; omega) | (simp; done))))
  rw [hLC, hCC]
  clear hLC hCC
  go_enter Tryd.func80, Tryd.ntmps80
  go_upto_region 1 with (fail)
  try rw [hG]
  generalize hw0 : ((w.alloc (.cells LC 66)).alloc (.cells CC 111)) = w0 at Kx Kc B0 ⊢
  clear hw0 hG
  refine wp_region_held_drew (S := fun W => Blk W G 66 (recC [.int .i64 si, .int .i64 sz] B [.int .i64 lo, .int .i64 hi, .int .i64 se] S) ∧ Blk W (G + 1) 111 (claimC p s 44 S2 lo2 hi2)) (by kernel_rfl) ⟨Kx.out.drew, Kc.out.drew⟩ (fun hHeld => ?_)
  replace B0 := Lib.hid B0.out.drew
  generalize w0.drew = w1 at B0 hHeld ⊢
  refine wpAnyH_take (i := 0) (v := .slice a N c) rfl (by kernel_rfl) (by kernel_rfl) (by kernel_rfl) (fun _ _ _ h => h) (Or.inl ⟨by rfl, fun W hW => by go_simp⟩) (by assumption) ?_
  (try simp only [Act.put, List.getElem_toArray, List.getElem_cons_succ, List.getElem_cons_zero, List.setIfInBounds_toArray, List.set_cons_zero, List.set_cons_succ])
  refine wpAnyH_take (i := 1) (v := .pointer (some ⟨G + 1, 0, none⟩)) rfl (by kernel_rfl) (by kernel_rfl) (by kernel_rfl) (fun _ _ _ h => h) (Or.inl ⟨by rfl, fun W hW => by go_simp⟩) (by assumption) ?_
  (try simp only [Act.put, List.getElem_toArray, List.getElem_cons_succ, List.getElem_cons_zero, List.setIfInBounds_toArray, List.set_cons_zero, List.set_cons_succ])
  refine wpAnyH_take (i := 2) (v := .int .i64 p) rfl (by kernel_rfl) (by kernel_rfl) (by kernel_rfl) (fun _ _ _ h => h) (Or.inl ⟨by rfl, fun W hW => (by have h := (claim_cells hW.2).1; go_simp)⟩) (by assumption) ?_
  (try simp only [Act.put, List.getElem_toArray, List.getElem_cons_succ, List.getElem_cons_zero, List.setIfInBounds_toArray, List.set_cons_zero, List.set_cons_succ])
  refine wpAnyH_take (i := 3) (v := .pointer (some ⟨G + 1, 1, none⟩)) rfl (by kernel_rfl) (by kernel_rfl) (by kernel_rfl) (fun _ _ _ h => h) (Or.inl ⟨by rfl, fun W hW => by go_simp⟩) (by assumption) ?_
  (try simp only [Act.put, List.getElem_toArray, List.getElem_cons_succ, List.getElem_cons_zero, List.setIfInBounds_toArray, List.set_cons_zero, List.set_cons_succ])
  refine wpAnyH_take (i := 4) (v := .int .i64 s) rfl (by kernel_rfl) (by kernel_rfl) (by kernel_rfl) (fun _ _ _ h => h) (Or.inl ⟨by rfl, fun W hW => (by have h := (claim_cells hW.2).2.1; go_simp)⟩) (by assumption) ?_
  (try simp only [Act.put, List.getElem_toArray, List.getElem_cons_succ, List.getElem_cons_zero, List.setIfInBounds_toArray, List.set_cons_zero, List.set_cons_succ])
  refine wpAnyH_take (i := 5) (v := .pointer (some ⟨G + 1, 2, none⟩)) rfl (by kernel_rfl) (by kernel_rfl) (by kernel_rfl) (fun _ _ _ h => h) (Or.inl ⟨by rfl, fun W hW => by go_simp⟩) (by assumption) ?_
  (try simp only [Act.put, List.getElem_toArray, List.getElem_cons_succ, List.getElem_cons_zero, List.setIfInBounds_toArray, List.set_cons_zero, List.set_cons_succ])
  refine wpAnyH_take (i := 6) (v := .int .i64 44) rfl (by kernel_rfl) (by kernel_rfl) (by kernel_rfl) (fun _ _ _ h => h) (Or.inl ⟨by rfl, fun W hW => (by have h := (claim_cells hW.2).2.2; go_simp)⟩) (by assumption) ?_
  (try simp only [Act.put, List.getElem_toArray, List.getElem_cons_succ, List.getElem_cons_zero, List.setIfInBounds_toArray, List.set_cons_zero, List.set_cons_succ])
  refine wpAnyH_take (i := 7) (v := .func (.func 36) #[] #[]) rfl (by kernel_rfl) (by kernel_rfl) (by kernel_rfl) (fun _ _ _ h => h) (Or.inl ⟨by rfl, fun W hW => by go_simp⟩) (by assumption) ?_
  (try simp only [Act.put, List.getElem_toArray, List.getElem_cons_succ, List.getElem_cons_zero, List.setIfInBounds_toArray, List.set_cons_zero, List.set_cons_succ])
  refine wpAnyH_take (i := 8) (v := .agg (recC [.int .i64 si, .int .i64 sz] B [.int .i64 lo, .int .i64 hi, .int .i64 se] S)) rfl (by kernel_rfl) (by kernel_rfl) (by kernel_rfl) (fun _ _ _ h => h) (Or.inl ⟨by rfl, fun W hW => exec_load_row 66 _ rfl G rfl 66 (recC [.int .i64 si, .int .i64 sz] B [.int .i64 lo, .int .i64 hi, .int .i64 se] S) (0, 0) _ hW.1 Tryd.underlying66 rfl LI.out⟩) (by assumption) ?_
  (try simp only [Act.put, List.getElem_toArray, List.getElem_cons_succ, List.getElem_cons_zero, List.setIfInBounds_toArray, List.set_cons_zero, List.set_cons_succ])
  refine wpAnyH_take (i := 10) (v := .pointer (some ⟨G + 1, 3, none⟩)) rfl (by kernel_rfl) (by kernel_rfl) (by kernel_rfl) (fun _ _ _ h => h) (Or.inl ⟨by rfl, fun W hW => by go_simp⟩) (by assumption) ?_
  (try simp only [Act.put, List.getElem_toArray, List.getElem_cons_succ, List.getElem_cons_zero, List.setIfInBounds_toArray, List.set_cons_zero, List.set_cons_succ])
  refine wpAnyH_take (i := 11) (v := .agg (S2.map Hs.bv).toArray) rfl (by kernel_rfl) (by kernel_rfl) (by kernel_rfl) (fun _ _ _ h => h) (Or.inl ⟨by rfl, fun W hW => exec_load_mid 50 _ rfl (G + 1) 3 rfl (S2.map Hs.bv) _ (claim_seal hW.2) Tryd.underlying50 rfl SI.out⟩) (by assumption) ?_
  (try simp only [Act.put, List.getElem_toArray, List.getElem_cons_succ, List.getElem_cons_zero, List.setIfInBounds_toArray, List.set_cons_zero, List.set_cons_succ])
  refine wpAnyH_take (i := 12) (v := .pointer (some ⟨G + 1, 19, none⟩)) rfl (by kernel_rfl) (by kernel_rfl) (by kernel_rfl) (fun _ _ _ h => h) (Or.inl ⟨by rfl, fun W hW => by go_simp⟩) (by assumption) ?_
  (try simp only [Act.put, List.getElem_toArray, List.getElem_cons_succ, List.getElem_cons_zero, List.setIfInBounds_toArray, List.set_cons_zero, List.set_cons_succ])
  refine wpAnyH_take (i := 13) (v := .agg #[.int .i64 lo2, .int .i64 hi2]) rfl (by kernel_rfl) (by kernel_rfl) (by kernel_rfl) (fun _ _ _ h => h) (Or.inl ⟨by rfl, fun W hW => exec_load_mid 26 _ rfl (G + 1) 19 rfl [.int .i64 lo2, .int .i64 hi2] _ (claim_per HSL.out hW.2) Tryd.underlying26 rfl PI.out⟩) (by assumption) ?_
  (try simp only [Act.put, List.getElem_toArray, List.getElem_cons_succ, List.getElem_cons_zero, List.setIfInBounds_toArray, List.set_cons_zero, List.set_cons_succ])
  refine wpAnyH_ready (rs := [9]) (by kernel_rfl) (by simp) (AllReadyH.cons rfl (fun K hK => ?_) AllReadyH.nil)
  go_simp
  refine (LP.out _).mono ?_
  rintro e w3 ⟨⟨b, c2, rfl, hr⟩, hb⟩
  have HR := Lib.hid hr
  have hB3 := Lib.hid hb
  replace B0 := Lib.hid (B0.out.trans (hb.mono B0.out.size))
  clear hb hr
  go_wp2_with fail
  refine hK _ _ ⟨hHeld.1.below hB3.out hHeld.1.lt, hHeld.2.below hB3.out hHeld.2.lt⟩ (fun hHeld1 => ?_)
  clear hK K
  (try simp only [Act.put, List.getElem_toArray, List.getElem_cons_succ, List.getElem_cons_zero, List.setIfInBounds_toArray, List.set_cons_zero, List.set_cons_succ])
  refine wpAnyH_ready (rs := [14]) (by kernel_rfl) (by simp) (AllReadyH.cons rfl (fun K hK => ?_) AllReadyH.nil)
  go_simp
  refine (CK.out b c2 _ (HR0.out.mono B0.out) HR.out (HLA.out.below B0.out)).mono ?_
  rintro e w4 ⟨rfl, hb⟩
  have hB4 := Lib.hid hb
  replace B0 := Lib.hid (B0.out.trans (hb.mono B0.out.size))
  clear hb
  go_wp2_with fail
  refine hK _ _ ⟨hHeld1.1.below hB4.out hHeld1.1.lt, hHeld1.2.below hB4.out hHeld1.2.lt⟩ (fun hHeld2 => ?_)
  clear hK K
  (try simp only [Act.put, List.getElem_toArray, List.getElem_cons_succ, List.getElem_cons_zero, List.setIfInBounds_toArray, List.set_cons_zero, List.set_cons_succ])
  refine wpAnyH_take (i := 15) (v := .int .i64 R) rfl (by kernel_rfl) (by kernel_rfl) (by kernel_rfl) (fun _ _ _ h => h) (Or.inl ⟨by rfl, fun W hW => by go_simp⟩) (by assumption) ?_
  (try simp only [Act.put, List.getElem_toArray, List.getElem_cons_succ, List.getElem_cons_zero, List.setIfInBounds_toArray, List.set_cons_zero, List.set_cons_succ])
  refine wpAnyH_done (by kernel_rfl) ?_ _
  go_wp2
  go_ret
  exact ⟨rfl, B0.out⟩
set_option maxRecDepth 100000 in
set_option maxHeartbeats 1000000 in
theorem checkHead_any (a : Option Addr) (c : Nat) (l : List Rw) (si sz lo hi se : Int) (B : List Nat) (S : List Nat) (w : World) (hp : RwA w a l) (ok : RingOk l) (hB : B.length = 16) (hb : ∀ x ∈ B, x < 256) (hS : S.length = 16) (hsi : i64Ok si) (hsz : i64Ok sz) (hlo : i64Ok lo) (hhi : i64Ok hi) (hse : i64Ok se) (hsite : 0 ≤ si ∧ si < 64) (hla : Hs.LaidC w) :
    Calls Tryd.prog 53 #[.slice a l.length c, .agg (recC [.int .i64 si, .int .i64 sz] B [.int .i64 lo, .int .i64 hi, .int .i64 se] S)] w fun e w' => e = .returned (.int .i64 (chkE l (1000 + si) (se) 44 (headP si sz lo hi se B) S lo hi)) ∧ Below w.heap.size w w' := by
  have HLA := Lib.hid hla
  have HP := Lib.hid hp
  have LI := Lib.hid (show (Tryd.prog.info? 66).map (·.size) = some (recC [.int .i64 si, .int .i64 sz] B [.int .i64 lo, .int .i64 hi, .int .i64 se] S).size by rw [rec_size _ _ _ _ hB hS]; kernel_rfl)
  have SI := Lib.hid (show (Tryd.prog.info? 50).map (·.size) = some (S.map Hs.bv).length by rw [List.length_map, hS]; kernel_rfl)
  have PI := Lib.hid (show (Tryd.prog.info? 26).map (·.size) = some ([.int .i64 lo, .int .i64 hi] : List Value).length by kernel_rfl)
  have CH := Lib.hid (fun (X : World) (h : RwA X a l) (hla : Hs.LaidC X) => checkH_any a c l si sz lo hi se B S (1000 + si) (se) S lo hi X h ok hB hb hS hS hsi hsz hlo hhi hse hla)
  obtain ⟨R, hR⟩ : ∃ R, chkE l (1000 + si) (se) 44 (headP si sz lo hi se B) S lo hi = R := ⟨_, rfl⟩
  simp only [hR] at CH
  rw [hR]
  obtain ⟨N, hN⟩ : ∃ N, l.length = N := ⟨_, rfl⟩
  simp only [hN] at CH
  rw [hN]
  have HB := Lib.hid hB
  have HD := Lib.hid hS
  have SY := Lib.hid (fun W : World => site_yes hsite W)
  have wS : IntKind.i64.wrap (1000 + si) = 1000 + si := by rw [IntKind.wrap_i64]; omega
  clear hla hp ok hR hN hB hb hS hsi hsz hlo hhi hse hsite
  obtain ⟨LC, hLC⟩ : ∃ C, (recC [.int .i64 si, .int .i64 sz] B [.int .i64 lo, .int .i64 hi, .int .i64 se] S) = C := ⟨_, rfl⟩
  obtain ⟨G, hG⟩ : ∃ G, w.heap.size = G := ⟨_, rfl⟩
  have HG := Lib.hid hG
  have Kx := Lib.hid (show Blk (w.alloc (.cells LC 66)) G 66 (recC [.int .i64 si, .int .i64 sz] B [.int .i64 lo, .int .i64 hi, .int .i64 se] S) from by rw [hLC]; exact (Blk.new' w _ _ _ hG rfl))
  have B0 := Lib.hid (show Below w.heap.size w (w.alloc (.cells LC 66)) by (repeat' (first | (with_reducible exact Below.refl _ _) | (with_reducible assumption) | (with_reducible refine Below.alloc ?_ ?_ _) | (with_reducible refine Below.drew ?_) | (with_reducible refine below_dn ?_) | (with_reducible refine Below.setCell ?_ ?_ _) | (with_reducible exact Nat.le_refl _) | omega | (simp only [World.size_alloc, World.size_setCell, World.size_drew]; omega) | (simp; omega) | (simp; done))))
  rw [hLC]
  clear hLC
  go_enter Tryd.func53, Tryd.ntmps53
  go_upto_region 1 with (fail)
  try rw [hG]
  generalize hw0 : (w.alloc (.cells LC 66)) = w0 at Kx B0 ⊢
  clear hw0 hG
  obtain ⟨xa0, xa1, xc0, xc1, xc2⟩ := head_cells HB.out Kx.out
  go_wp2_with fail
  refine (SY.out _).mono ?_
  rintro e wz ⟨rfl, rfl⟩
  go_upto_region 3 with (fail)
  clear xa0 xa1 xc0 xc1 xc2
  obtain ⟨d0, d1, d2, d3, d4, d5, d6, d7, d8, d9, d10, d11, d12, d13, d14, d15, rfl⟩ := list16 HD.out
  obtain ⟨xa0, xa1, xc0, xc1, xc2⟩ := head_cells HB.out Kx.out
  have Hx := Lib.hid (show Hs.Blk w0 G 66 (recC [.int .i64 si, .int .i64 sz] B [.int .i64 lo, .int .i64 hi, .int .i64 se] [d0, d1, d2, d3, d4, d5, d6, d7, d8, d9, d10, d11, d12, d13, d14, d15]) from Kx.out)
  have Hs4 := Lib.hid (show w0.rangeAt G 21 ([d0, d1, d2, d3, d4, d5, d6, d7, d8, d9, d10, d11, d12, d13, d14, d15].map Hs.bv) from rec_S Kx.out HB.out)
  have Hp2 := Lib.hid (rec_sub (n := 18) (M := [.int .i64 lo, .int .i64 hi]) (L := []) (R := [.int .i64 se]) Kx.out HB.out rfl rfl)
  clear HD
  go_wp2_with (first | (with_reducible refine Hs.wpList_load_all rfl 66 _ rfl G rfl 66 (recC [.int .i64 si, .int .i64 sz] B [.int .i64 lo, .int .i64 hi, .int .i64 se] [d0, d1, d2, d3, d4, d5, d6, d7, d8, d9, d10, d11, d12, d13, d14, d15]) _ Hx.out Tryd.underlying66 LI.out ?_) | (with_reducible refine wpList_load_mid rfl 50 _ rfl G 21 rfl ([d0, d1, d2, d3, d4, d5, d6, d7, d8, d9, d10, d11, d12, d13, d14, d15].map Hs.bv) _ Hs4.out Tryd.underlying50 rfl SI.out ?_) | (with_reducible refine wpList_load_mid rfl 26 _ rfl G 18 rfl [.int .i64 lo, .int .i64 hi] _ Hp2.out Tryd.underlying26 rfl PI.out ?_))
  refine (CH.out _ (HP.out.mono B0.out) (HLA.out.below B0.out)).mono ?_
  rintro e w3 ⟨rfl, hb⟩
  replace B0 := Lib.hid (B0.out.trans (hb.mono B0.out.size))
  clear hb
  go_wp2
  go_ret
  exact ⟨rfl, B0.out⟩
set_option maxRecDepth 100000 in
theorem checkHead_bad (a : Option Addr) (c : Nat) (l : List Rw) (si sz lo hi se : Int) (B : List Nat) (S : List Nat) (w : World) (hB : B.length = 16) (hsite : ¬ (0 ≤ si ∧ si < 64)) :
    Calls Tryd.prog 53 #[.slice a l.length c, .agg (recC [.int .i64 si, .int .i64 sz] B [.int .i64 lo, .int .i64 hi, .int .i64 se] S)] w fun e w' => e = .returned (.int .i64 1) ∧ Below w.heap.size w w' := by
  have SN := Lib.hid (fun W : World => site_no hsite W)
  have HB := Lib.hid hB
  obtain ⟨N, hN⟩ : ∃ N, l.length = N := ⟨_, rfl⟩
  rw [hN]
  clear hsite hB hN
  obtain ⟨LC, hLC⟩ : ∃ C, (recC [.int .i64 si, .int .i64 sz] B [.int .i64 lo, .int .i64 hi, .int .i64 se] S) = C := ⟨_, rfl⟩
  obtain ⟨G, hG⟩ : ∃ G, w.heap.size = G := ⟨_, rfl⟩
  have HG := Lib.hid hG
  have Kx := Lib.hid (show Blk (w.alloc (.cells LC 66)) G 66 (recC [.int .i64 si, .int .i64 sz] B [.int .i64 lo, .int .i64 hi, .int .i64 se] S) from by rw [hLC]; exact (Blk.new' w _ _ _ hG rfl))
  have B0 := Lib.hid (show Below w.heap.size w (w.alloc (.cells LC 66)) by (repeat' (first | (with_reducible exact Below.refl _ _) | (with_reducible assumption) | (with_reducible refine Below.alloc ?_ ?_ _) | (with_reducible refine Below.drew ?_) | (with_reducible refine below_dn ?_) | (with_reducible refine Below.setCell ?_ ?_ _) | (with_reducible exact Nat.le_refl _) | omega | (simp only [World.size_alloc, World.size_setCell, World.size_drew]; omega) | (simp; omega) | (simp; done))))
  rw [hLC]
  clear hLC
  go_enter Tryd.func53, Tryd.ntmps53
  go_upto_region 1 with (fail)
  try rw [hG]
  generalize hw0 : (w.alloc (.cells LC 66)) = w0 at Kx B0 ⊢
  clear hw0 hG
  obtain ⟨xa0, xa1, xc0, xc1, xc2⟩ := head_cells HB.out Kx.out
  go_wp2_with fail
  refine (SN.out _).mono ?_
  rintro e wz ⟨rfl, rfl⟩
  go_wp2
  go_ret
  exact ⟨rfl, B0.out⟩
end
section
set_option linter.unusedVariables false
set_option linter.unusedSimpArgs false
open Go.RowKit Go.Sort
set_option maxRecDepth 100000 in
set_option maxHeartbeats 1000000 in
theorem checkE_any (a : Option Addr) (c : Nat) (l : List Rw) (nu lo hi se : Int) (B : List Nat) (S : List Nat) (pa : Option Addr) (pc : Nat) (pl : List Pu) (ra : Option Addr) (rc : Nat) (rl : List Dg) (p s : Int) (S2 : List Nat) (lo2 hi2 : Int) (w : World) (hp : RwA w a l) (ok : RingOk l) (hB : B.length = 16) (hb : ∀ x ∈ B, x < 256) (hS : S.length = 16) (hS2 : S2.length = 16) (hnu : i64Ok nu) (hlo : i64Ok lo) (hhi : i64Ok hi) (hse : i64Ok se) (hT : EpOk pl rl) (hm : EpM w pa pl ra rl) (hla : Hs.LaidC w) :
    Calls Tryd.prog 76 #[.slice a l.length c, .agg (recC [.int .i64 nu] B [.int .i64 lo, .int .i64 hi, .slice pa pl.length pc, .slice ra rl.length rc, .int .i64 se] S), .func (.func 32) #[] #[], .agg (claimC p s 42 S2 lo2 hi2)] w fun e w' => e = .returned (.int .i64 (chkE l p s 42 (epochP nu lo hi se B pl rl) S2 lo2 hi2)) ∧ Below w.heap.size w w' := by
  have HM := Lib.hid hm
  have HLA := Lib.hid hla
  have HR0 := Lib.hid hp
  have LP := Lib.hid (show ∀ X : World, EpM X pa pl ra rl → Calls Tryd.prog 32 #[.agg (recC [.int .i64 nu] B [.int .i64 lo, .int .i64 hi, .slice pa pl.length pc, .slice ra rl.length rc, .int .i64 se] S)] X fun e' w' => (∃ a c, e' = .returned (.slice a (epochP nu lo hi se B pl rl).length c) ∧ StR w' a (epochP nu lo hi se B pl rl)) ∧ Below X.heap.size X w' from fun X hm => epochParts_any nu lo hi se B S pa pc pl ra rc rl X hB hb hnu hlo hhi hse hT hm)
  have PS := epochP_le hB hnu hlo hhi hse hT
  have CK := Lib.hid (fun (b : Option Addr) (c2 : Nat) (X : World) (h : RwA X a l) (h2 : StR X b (epochP nu lo hi se B pl rl)) (hla : Hs.LaidC X) => check_any a c l p s 42 42 b c2 (epochP nu lo hi se B pl rl) S2 lo2 hi2 X h h2 ok rfl ⟨by rw [epochP_len]; have := hT.1; have := hT.2.1; omega, PS⟩ hS2 hla)
  obtain ⟨P, hP⟩ : ∃ P, epochP nu lo hi se B pl rl = P := ⟨_, rfl⟩
  simp only [hP] at CK LP
  rw [hP]
  obtain ⟨R, hR⟩ : ∃ R, chkE l p s 42 P S2 lo2 hi2 = R := ⟨_, rfl⟩
  simp only [hR] at CK
  rw [hR]
  have LI := Lib.hid (show (Tryd.prog.info? 62).map (·.size) = some (recC [.int .i64 nu] B [.int .i64 lo, .int .i64 hi, .slice pa pl.length pc, .slice ra rl.length rc, .int .i64 se] S).size by rw [rec_size _ _ _ _ hB hS]; kernel_rfl)
  have SI := Lib.hid (show (Tryd.prog.info? 50).map (·.size) = some (S2.map Hs.bv).length by rw [List.length_map, hS2]; kernel_rfl)
  have PI := Lib.hid (show (Tryd.prog.info? 26).map (·.size) = some ([.int .i64 lo2, .int .i64 hi2] : List Value).length by kernel_rfl)
  have HSL := Lib.hid hS2
  obtain ⟨N, hN⟩ : ∃ N, l.length = N := ⟨_, rfl⟩
  obtain ⟨n, hn⟩ : ∃ n, P.length = n := ⟨_, rfl⟩
  simp only [hN, hn] at CK
  simp only [hn] at LP
  rw [hN]
  clear hla hp hnu hlo hhi hse PS hP hR hB hb hS hS2 ok hN hn hT hm
  obtain ⟨LC, hLC⟩ : ∃ C, (recC [.int .i64 nu] B [.int .i64 lo, .int .i64 hi, .slice pa pl.length pc, .slice ra rl.length rc, .int .i64 se] S) = C := ⟨_, rfl⟩
  obtain ⟨CC, hCC⟩ : ∃ C, claimC p s 42 S2 lo2 hi2 = C := ⟨_, rfl⟩
  obtain ⟨G, hG⟩ : ∃ G, w.heap.size = G := ⟨_, rfl⟩
  have HG := Lib.hid hG
  have Kx := Lib.hid (show Blk ((w.alloc (.cells LC 62)).alloc (.cells CC 111)) G 62 (recC [.int .i64 nu] B [.int .i64 lo, .int .i64 hi, .slice pa pl.length pc, .slice ra rl.length rc, .int .i64 se] S) from by rw [hLC]; exact (Blk.new' w _ _ _ hG rfl).alloc _)
  have Kc := Lib.hid (show Blk ((w.alloc (.cells LC 62)).alloc (.cells CC 111)) (G + 1) 111 (claimC p s 42 S2 lo2 hi2) from by rw [hCC]; exact Blk.new' _ _ _ _ (by rw [World.size_alloc, hG]) rfl)
  have B0 := Lib.hid (show Below w.heap.size w ((w.alloc (.cells LC 62)).alloc (.cells CC 111)) by (repeat' (first | (with_reducible exact Below.refl _ _) | (with_reducible assumption) | (with_reducible refine Below.alloc ?_ ?_ _) | (with_reducible refine Below.drew ?_) | (with_reducible refine below_dn ?_) | (with_reducible refine Below.setCell ?_ ?_ _) | (with_reducible exact Nat.le_refl _) | omega | (simp only [World.size_alloc, World.size_setCell, World.size_drew]; omega) | (simp; omega) | (simp; done))))
  rw [hLC, hCC]
  clear hLC hCC
  go_enter Tryd.func76, Tryd.ntmps76
  go_upto_region 1 with (fail)
  try rw [hG]
  generalize hw0 : ((w.alloc (.cells LC 62)).alloc (.cells CC 111)) = w0 at Kx Kc B0 ⊢
  clear hw0 hG
  refine wp_region_held_drew (S := fun W => Blk W G 62 (recC [.int .i64 nu] B [.int .i64 lo, .int .i64 hi, .slice pa pl.length pc, .slice ra rl.length rc, .int .i64 se] S) ∧ Blk W (G + 1) 111 (claimC p s 42 S2 lo2 hi2)) (by kernel_rfl) ⟨Kx.out.drew, Kc.out.drew⟩ (fun hHeld => ?_)
  replace B0 := Lib.hid B0.out.drew
  generalize w0.drew = w1 at B0 hHeld ⊢
  refine wpAnyH_take (i := 0) (v := .slice a N c) rfl (by kernel_rfl) (by kernel_rfl) (by kernel_rfl) (fun _ _ _ h => h) (Or.inl ⟨by rfl, fun W hW => by go_simp⟩) (by assumption) ?_
  (try simp only [Act.put, List.getElem_toArray, List.getElem_cons_succ, List.getElem_cons_zero, List.setIfInBounds_toArray, List.set_cons_zero, List.set_cons_succ])
  refine wpAnyH_take (i := 1) (v := .pointer (some ⟨G + 1, 0, none⟩)) rfl (by kernel_rfl) (by kernel_rfl) (by kernel_rfl) (fun _ _ _ h => h) (Or.inl ⟨by rfl, fun W hW => by go_simp⟩) (by assumption) ?_
  (try simp only [Act.put, List.getElem_toArray, List.getElem_cons_succ, List.getElem_cons_zero, List.setIfInBounds_toArray, List.set_cons_zero, List.set_cons_succ])
  refine wpAnyH_take (i := 2) (v := .int .i64 p) rfl (by kernel_rfl) (by kernel_rfl) (by kernel_rfl) (fun _ _ _ h => h) (Or.inl ⟨by rfl, fun W hW => (by have h := (claim_cells hW.2).1; go_simp)⟩) (by assumption) ?_
  (try simp only [Act.put, List.getElem_toArray, List.getElem_cons_succ, List.getElem_cons_zero, List.setIfInBounds_toArray, List.set_cons_zero, List.set_cons_succ])
  refine wpAnyH_take (i := 3) (v := .pointer (some ⟨G + 1, 1, none⟩)) rfl (by kernel_rfl) (by kernel_rfl) (by kernel_rfl) (fun _ _ _ h => h) (Or.inl ⟨by rfl, fun W hW => by go_simp⟩) (by assumption) ?_
  (try simp only [Act.put, List.getElem_toArray, List.getElem_cons_succ, List.getElem_cons_zero, List.setIfInBounds_toArray, List.set_cons_zero, List.set_cons_succ])
  refine wpAnyH_take (i := 4) (v := .int .i64 s) rfl (by kernel_rfl) (by kernel_rfl) (by kernel_rfl) (fun _ _ _ h => h) (Or.inl ⟨by rfl, fun W hW => (by have h := (claim_cells hW.2).2.1; go_simp)⟩) (by assumption) ?_
  (try simp only [Act.put, List.getElem_toArray, List.getElem_cons_succ, List.getElem_cons_zero, List.setIfInBounds_toArray, List.set_cons_zero, List.set_cons_succ])
  refine wpAnyH_take (i := 5) (v := .pointer (some ⟨G + 1, 2, none⟩)) rfl (by kernel_rfl) (by kernel_rfl) (by kernel_rfl) (fun _ _ _ h => h) (Or.inl ⟨by rfl, fun W hW => by go_simp⟩) (by assumption) ?_
  (try simp only [Act.put, List.getElem_toArray, List.getElem_cons_succ, List.getElem_cons_zero, List.setIfInBounds_toArray, List.set_cons_zero, List.set_cons_succ])
  refine wpAnyH_take (i := 6) (v := .int .i64 42) rfl (by kernel_rfl) (by kernel_rfl) (by kernel_rfl) (fun _ _ _ h => h) (Or.inl ⟨by rfl, fun W hW => (by have h := (claim_cells hW.2).2.2; go_simp)⟩) (by assumption) ?_
  (try simp only [Act.put, List.getElem_toArray, List.getElem_cons_succ, List.getElem_cons_zero, List.setIfInBounds_toArray, List.set_cons_zero, List.set_cons_succ])
  refine wpAnyH_take (i := 7) (v := .func (.func 32) #[] #[]) rfl (by kernel_rfl) (by kernel_rfl) (by kernel_rfl) (fun _ _ _ h => h) (Or.inl ⟨by rfl, fun W hW => by go_simp⟩) (by assumption) ?_
  (try simp only [Act.put, List.getElem_toArray, List.getElem_cons_succ, List.getElem_cons_zero, List.setIfInBounds_toArray, List.set_cons_zero, List.set_cons_succ])
  refine wpAnyH_take (i := 8) (v := .agg (recC [.int .i64 nu] B [.int .i64 lo, .int .i64 hi, .slice pa pl.length pc, .slice ra rl.length rc, .int .i64 se] S)) rfl (by kernel_rfl) (by kernel_rfl) (by kernel_rfl) (fun _ _ _ h => h) (Or.inl ⟨by rfl, fun W hW => exec_load_row 62 _ rfl G rfl 62 (recC [.int .i64 nu] B [.int .i64 lo, .int .i64 hi, .slice pa pl.length pc, .slice ra rl.length rc, .int .i64 se] S) (0, 0) _ hW.1 Tryd.underlying62 rfl LI.out⟩) (by assumption) ?_
  (try simp only [Act.put, List.getElem_toArray, List.getElem_cons_succ, List.getElem_cons_zero, List.setIfInBounds_toArray, List.set_cons_zero, List.set_cons_succ])
  refine wpAnyH_take (i := 10) (v := .pointer (some ⟨G + 1, 3, none⟩)) rfl (by kernel_rfl) (by kernel_rfl) (by kernel_rfl) (fun _ _ _ h => h) (Or.inl ⟨by rfl, fun W hW => by go_simp⟩) (by assumption) ?_
  (try simp only [Act.put, List.getElem_toArray, List.getElem_cons_succ, List.getElem_cons_zero, List.setIfInBounds_toArray, List.set_cons_zero, List.set_cons_succ])
  refine wpAnyH_take (i := 11) (v := .agg (S2.map Hs.bv).toArray) rfl (by kernel_rfl) (by kernel_rfl) (by kernel_rfl) (fun _ _ _ h => h) (Or.inl ⟨by rfl, fun W hW => exec_load_mid 50 _ rfl (G + 1) 3 rfl (S2.map Hs.bv) _ (claim_seal hW.2) Tryd.underlying50 rfl SI.out⟩) (by assumption) ?_
  (try simp only [Act.put, List.getElem_toArray, List.getElem_cons_succ, List.getElem_cons_zero, List.setIfInBounds_toArray, List.set_cons_zero, List.set_cons_succ])
  refine wpAnyH_take (i := 12) (v := .pointer (some ⟨G + 1, 19, none⟩)) rfl (by kernel_rfl) (by kernel_rfl) (by kernel_rfl) (fun _ _ _ h => h) (Or.inl ⟨by rfl, fun W hW => by go_simp⟩) (by assumption) ?_
  (try simp only [Act.put, List.getElem_toArray, List.getElem_cons_succ, List.getElem_cons_zero, List.setIfInBounds_toArray, List.set_cons_zero, List.set_cons_succ])
  refine wpAnyH_take (i := 13) (v := .agg #[.int .i64 lo2, .int .i64 hi2]) rfl (by kernel_rfl) (by kernel_rfl) (by kernel_rfl) (fun _ _ _ h => h) (Or.inl ⟨by rfl, fun W hW => exec_load_mid 26 _ rfl (G + 1) 19 rfl [.int .i64 lo2, .int .i64 hi2] _ (claim_per HSL.out hW.2) Tryd.underlying26 rfl PI.out⟩) (by assumption) ?_
  (try simp only [Act.put, List.getElem_toArray, List.getElem_cons_succ, List.getElem_cons_zero, List.setIfInBounds_toArray, List.set_cons_zero, List.set_cons_succ])
  refine wpAnyH_ready (rs := [9]) (by kernel_rfl) (by simp) (AllReadyH.cons rfl (fun K hK => ?_) AllReadyH.nil)
  go_simp
  refine (LP.out _ (HM.out.mono B0.out)).mono ?_
  rintro e w3 ⟨⟨b, c2, rfl, hr⟩, hb⟩
  have HR := Lib.hid hr
  have hB3 := Lib.hid hb
  replace B0 := Lib.hid (B0.out.trans (hb.mono B0.out.size))
  clear hb hr
  go_wp2_with fail
  refine hK _ _ ⟨hHeld.1.below hB3.out hHeld.1.lt, hHeld.2.below hB3.out hHeld.2.lt⟩ (fun hHeld1 => ?_)
  clear hK K
  (try simp only [Act.put, List.getElem_toArray, List.getElem_cons_succ, List.getElem_cons_zero, List.setIfInBounds_toArray, List.set_cons_zero, List.set_cons_succ])
  refine wpAnyH_ready (rs := [14]) (by kernel_rfl) (by simp) (AllReadyH.cons rfl (fun K hK => ?_) AllReadyH.nil)
  go_simp
  refine (CK.out b c2 _ (HR0.out.mono B0.out) HR.out (HLA.out.below B0.out)).mono ?_
  rintro e w4 ⟨rfl, hb⟩
  have hB4 := Lib.hid hb
  replace B0 := Lib.hid (B0.out.trans (hb.mono B0.out.size))
  clear hb
  go_wp2_with fail
  refine hK _ _ ⟨hHeld1.1.below hB4.out hHeld1.1.lt, hHeld1.2.below hB4.out hHeld1.2.lt⟩ (fun hHeld2 => ?_)
  clear hK K
  (try simp only [Act.put, List.getElem_toArray, List.getElem_cons_succ, List.getElem_cons_zero, List.setIfInBounds_toArray, List.set_cons_zero, List.set_cons_succ])
  refine wpAnyH_take (i := 15) (v := .int .i64 R) rfl (by kernel_rfl) (by kernel_rfl) (by kernel_rfl) (fun _ _ _ h => h) (Or.inl ⟨by rfl, fun W hW => by go_simp⟩) (by assumption) ?_
  (try simp only [Act.put, List.getElem_toArray, List.getElem_cons_succ, List.getElem_cons_zero, List.setIfInBounds_toArray, List.set_cons_zero, List.set_cons_succ])
  refine wpAnyH_done (by kernel_rfl) ?_ _
  go_wp2
  go_ret
  exact ⟨rfl, B0.out⟩
set_option maxRecDepth 100000 in
set_option maxHeartbeats 1000000 in
theorem checkEpoch_any (a : Option Addr) (c : Nat) (l : List Rw) (nu lo hi se : Int) (B : List Nat) (S : List Nat) (pa : Option Addr) (pc : Nat) (pl : List Pu) (ra : Option Addr) (rc : Nat) (rl : List Dg) (w : World) (hp : RwA w a l) (ok : RingOk l) (hB : B.length = 16) (hb : ∀ x ∈ B, x < 256) (hS : S.length = 16) (hnu : i64Ok nu) (hlo : i64Ok lo) (hhi : i64Ok hi) (hse : i64Ok se) (hT : EpOk pl rl) (hm : EpM w pa pl ra rl) (hla : Hs.LaidC w) :
    Calls Tryd.prog 49 #[.slice a l.length c, .agg (recC [.int .i64 nu] B [.int .i64 lo, .int .i64 hi, .slice pa pl.length pc, .slice ra rl.length rc, .int .i64 se] S)] w fun e w' => e = .returned (.int .i64 (chkE l (1) (se) 42 (epochP nu lo hi se B pl rl) S lo hi)) ∧ Below w.heap.size w w' := by
  have HM := Lib.hid hm
  have HLA := Lib.hid hla
  have HP := Lib.hid hp
  have LI := Lib.hid (show (Tryd.prog.info? 62).map (·.size) = some (recC [.int .i64 nu] B [.int .i64 lo, .int .i64 hi, .slice pa pl.length pc, .slice ra rl.length rc, .int .i64 se] S).size by rw [rec_size _ _ _ _ hB hS]; kernel_rfl)
  have SI := Lib.hid (show (Tryd.prog.info? 50).map (·.size) = some (S.map Hs.bv).length by rw [List.length_map, hS]; kernel_rfl)
  have PI := Lib.hid (show (Tryd.prog.info? 26).map (·.size) = some ([.int .i64 lo, .int .i64 hi] : List Value).length by kernel_rfl)
  have CH := Lib.hid (fun (X : World) (h : RwA X a l) (hm : EpM X pa pl ra rl) (hla : Hs.LaidC X) => checkE_any a c l nu lo hi se B S pa pc pl ra rc rl (1) (se) S lo hi X h ok hB hb hS hS hnu hlo hhi hse hT hm hla)
  obtain ⟨R, hR⟩ : ∃ R, chkE l (1) (se) 42 (epochP nu lo hi se B pl rl) S lo hi = R := ⟨_, rfl⟩
  simp only [hR] at CH
  rw [hR]
  obtain ⟨N, hN⟩ : ∃ N, l.length = N := ⟨_, rfl⟩
  simp only [hN] at CH
  rw [hN]
  have HB := Lib.hid hB
  have HD := Lib.hid hS
  clear hla hp ok hR hN hB hb hS hnu hlo hhi hse hT hm
  obtain ⟨LC, hLC⟩ : ∃ C, (recC [.int .i64 nu] B [.int .i64 lo, .int .i64 hi, .slice pa pl.length pc, .slice ra rl.length rc, .int .i64 se] S) = C := ⟨_, rfl⟩
  obtain ⟨G, hG⟩ : ∃ G, w.heap.size = G := ⟨_, rfl⟩
  have HG := Lib.hid hG
  have Kx := Lib.hid (show Blk (w.alloc (.cells LC 62)) G 62 (recC [.int .i64 nu] B [.int .i64 lo, .int .i64 hi, .slice pa pl.length pc, .slice ra rl.length rc, .int .i64 se] S) from by rw [hLC]; exact (Blk.new' w _ _ _ hG rfl))
  have B0 := Lib.hid (show Below w.heap.size w (w.alloc (.cells LC 62)) by (repeat' (first | (with_reducible exact Below.refl _ _) | (with_reducible assumption) | (with_reducible refine Below.alloc ?_ ?_ _) | (with_reducible refine Below.drew ?_) | (with_reducible refine below_dn ?_) | (with_reducible refine Below.setCell ?_ ?_ _) | (with_reducible exact Nat.le_refl _) | omega | (simp only [World.size_alloc, World.size_setCell, World.size_drew]; omega) | (simp; omega) | (simp; done))))
  rw [hLC]
  clear hLC
  go_enter Tryd.func49, Tryd.ntmps49
  go_upto_region 1 with (fail)
  try rw [hG]
  generalize hw0 : (w.alloc (.cells LC 62)) = w0 at Kx B0 ⊢
  clear hw0 hG
  obtain ⟨d0, d1, d2, d3, d4, d5, d6, d7, d8, d9, d10, d11, d12, d13, d14, d15, rfl⟩ := list16 HD.out
  obtain ⟨xa0, xc0, xc1, xc2, xc3, xc4⟩ := epoch_cells HB.out Kx.out
  have Hx := Lib.hid (show Hs.Blk w0 G 62 (recC [.int .i64 nu] B [.int .i64 lo, .int .i64 hi, .slice pa pl.length pc, .slice ra rl.length rc, .int .i64 se] [d0, d1, d2, d3, d4, d5, d6, d7, d8, d9, d10, d11, d12, d13, d14, d15]) from Kx.out)
  have Hs4 := Lib.hid (show w0.rangeAt G 22 ([d0, d1, d2, d3, d4, d5, d6, d7, d8, d9, d10, d11, d12, d13, d14, d15].map Hs.bv) from rec_S Kx.out HB.out)
  have Hp2 := Lib.hid (rec_sub (n := 17) (M := [.int .i64 lo, .int .i64 hi]) (L := []) (R := [.slice pa pl.length pc, .slice ra rl.length rc, .int .i64 se]) Kx.out HB.out rfl rfl)
  clear HD
  go_wp2_with (first | (with_reducible refine Hs.wpList_load_all rfl 62 _ rfl G rfl 62 (recC [.int .i64 nu] B [.int .i64 lo, .int .i64 hi, .slice pa pl.length pc, .slice ra rl.length rc, .int .i64 se] [d0, d1, d2, d3, d4, d5, d6, d7, d8, d9, d10, d11, d12, d13, d14, d15]) _ Hx.out Tryd.underlying62 LI.out ?_) | (with_reducible refine wpList_load_mid rfl 50 _ rfl G 22 rfl ([d0, d1, d2, d3, d4, d5, d6, d7, d8, d9, d10, d11, d12, d13, d14, d15].map Hs.bv) _ Hs4.out Tryd.underlying50 rfl SI.out ?_) | (with_reducible refine wpList_load_mid rfl 26 _ rfl G 17 rfl [.int .i64 lo, .int .i64 hi] _ Hp2.out Tryd.underlying26 rfl PI.out ?_))
  refine (CH.out _ (HP.out.mono B0.out) (HM.out.mono B0.out) (HLA.out.below B0.out)).mono ?_
  rintro e w3 ⟨rfl, hb⟩
  replace B0 := Lib.hid (B0.out.trans (hb.mono B0.out.size))
  clear hb
  go_wp2
  go_ret
  exact ⟨rfl, B0.out⟩
end
end Go.Proofs.YtcdcnklfcmoiiaaDoor
