/- The law HashOfMatchesSpec, walked. -/
import Derived.Test.YtjeipkoomefekaaDoorP11
import Derived.Test.YtjeipkoomefekaaDoorMM
namespace Go.Proofs.YtjeipkoomefekaaDoor
set_option linter.unusedVariables false
set_option linter.unusedSimpArgs false
open Go.RowKit
theorem equalIn_16 (xs : List Nat) (hx : xs.length = 16) (W : World) : (Op.equalIn 10000 58 (.agg (bvs xs)) (.agg (bvs xs))).run Tryd.prog W = .ok true W := by
  obtain ⟨i, hi⟩ : ∃ i, Tryd.prog.info? 5 = some i := by
    obtain ⟨i0, hi, -⟩ := info_parts infoB
    exact ⟨_, hi⟩
  show (Op.equalIn (9999 + 1) 58 (.agg (bvs xs)) (.agg (bvs xs))).run Tryd.prog W = _
  rw [run_equalIn_array W 9999 (n := 16) (bvs xs) (bvs xs) Tryd.underlying58 hi]
  exact eqItems_same 9998 xs 16 W hx _ (fun i hi => by simpa using hi)
theorem and255 (n : Int) (h1 : -9223372036854775808 ≤ n) (h2 : n ≤ 9223372036854775807) : bits .and .i64 n 255 = n % 256 := by
  show IntKind.i64.wrap ((BitVec.ofInt 64 n &&& BitVec.ofInt 64 ((255 : Nat) : Int)).toNat : Int) = _
  rw [BitVec.toNat_and, ofInt64 255 (by decide), BitVec.toNat_ofInt, show (255 : Nat) = 2 ^ 8 - 1 by decide, Nat.and_two_pow_sub_one_eq_mod, IntKind.wrap_i64]
  have e : (2 : Nat) ^ 8 = 256 := by decide
  have e2 : (2 : Nat) ^ 64 = 18446744073709551616 := by decide
  rw [e, e2]
  omega
set_option maxRecDepth 100000 in
set_option maxHeartbeats 1000000 in
theorem ofMatches (tag : Int) (a0 : Option Addr) (cp : Nat) (ss : List ByteArray) (w : World) (t1 : -9223372036854775808 ≤ tag) (t2 : tag ≤ 9223372036854775807) (hp : StrsA w a0 ss) (hca : ss.length ≤ cp) (hcm : cp ≤ 9223372036854775807) (hz : ∀ s ∈ ss, s.size ≤ 9223372036854775807) (hla : LaidC w) (hlk : LaidK w) :
    Calls Tryd.prog 13 #[.int .i64 tag, .slice a0 ss.length cp] w fun e w' => e = .returned (.bool true) ∧ Below w.heap.size w w' := by
  have LA := Lib.hid hla; have LK := Lib.hid hlk
  have HP := Lib.hid hp
  have FW := Lib.hid (fun (W : World) (h : StrsA W a0 ss) => few_any a0 cp ss W h (by omega) hz)
  by_cases hF0 : ¬ Few ss
  · obtain ⟨n, hn⟩ : ∃ n, ss.length = n := ⟨_, rfl⟩
    rw [hn] at FW hca ⊢
    clear hp hla hlk hn hz t1 t2
    go_enter Tryd.func13, Tryd.ntmps13
    go_wp2_with fail
    refine (sane _ LA.out).mono ?_
    rintro e w1 ⟨rfl, hb1⟩
    have B1 := Lib.hid hb1
    clear hb1
    go_wp2_with fail
    refine (FW.out _ (HP.out.mono B1.out)).mono ?_
    rintro e w2 ⟨⟨f, rfl, hf⟩, rfl⟩
    obtain rfl : f = false := by cases f; rfl; exact absurd (hf.1 rfl) hF0
    clear hf
    go_wp2
    go_ret
    exact ⟨rfl, B1.out⟩
  have hF : Few ss := Classical.byContradiction hF0
  clear hF0
  have e255 := and255 tag t1 t2
  obtain ⟨tb, htb⟩ : ∃ t : Nat, tag % 256 = (t : Int) := ⟨(tag % 256).toNat, by omega⟩
  rw [htb] at e255
  have htb2 : (tb : Int) % 256 = (tb : Int) := by omega
  have C1 := Lib.hid (fun (W : World) (h : StrsA W a0 ss) (h2 : LaidC W) => of_any tag tb a0 cp ss W htb h hF h2)
  have C3 := Lib.hid (fun (W : World) (h : StrsA W a0 ss) (h2 : LaidC W) => of_any (tb : Int) tb a0 cp ss W htb2 h hF h2)
  have C2 := Lib.hid (fun (W : World) (h : StrsA W a0 ss) (h2 : LaidK W) => ofref_any tag tb a0 cp ss W htb h hF (fun a c V hb hW => sumref_any a c (inL tb ss) V hb (by have := inL_len tb ss hF.2; have := hF.1; omega) (h2.mono hW)))
  have sl : ((sha (inL tb ss)).take 16).length = 16 := by rw [List.length_take, sha_len]; rfl
  have E1 := equalIn_16 _ sl
  have IA := Lib.hid (show (Tryd.prog.info? 58).map (·.size) = some (bvs ((sha (inL tb ss)).take 16)).size by rw [bvs_size, sl]; kernel_rfl)
  have SZ := Lib.hid (show (bvs (List.replicate 16 0)).size = (bvs ((sha (inL tb ss)).take 16)).size by rw [bvs_size, bvs_size, sl]; rfl)
  have ON := Lib.hid (bvs_one ((sha (inL tb ss)).take 16))
  obtain ⟨DV, hDV⟩ : ∃ X, bvs ((sha (inL tb ss)).take 16) = X := ⟨_, rfl⟩
  simp only [hDV] at C1 C2 C3 E1; rw [hDV] at IA SZ ON
  have HF := Lib.hid hF
  obtain ⟨n, hn⟩ : ∃ n, ss.length = n := ⟨_, rfl⟩
  rw [hn] at hca ⊢; simp only [hn] at FW C1 C2 C3
  clear hp hla hlk hn hz htb htb2 hDV sl hF
  go_enter Tryd.func13, Tryd.ntmps13
  go_wp2_with fail
  refine (sane _ LA.out).mono ?_
  rintro e w1 ⟨rfl, hb1⟩
  have B1 := Lib.hid (show Below w.heap.size w w1 from hb1)
  clear hb1
  go_wp2_with fail
  refine (FW.out _ (HP.out.mono B1.out)).mono ?_
  rintro e w2 ⟨⟨f, rfl, hf⟩, rfl⟩
  obtain rfl : f = true := hf.2 HF.out
  clear hf FW
  go_wp2_with fail
  refine (C1.out _ (HP.out.mono B1.out) (LA.out.mono B1.out)).mono ?_
  rintro e w2 ⟨rfl, hb2⟩
  have B2 := Lib.hid (bt B1.out hb2)
  clear hb2 B1 C1
  go_wp2_with (with_reducible refine wpList_store_blk rfl _ _ _ rfl w2.heap.size 58 (bvs (List.replicate 16 0)) _ rfl rfl (Blk.new' _ _ _ _ rfl rfl) IA.out SZ.out ON.out rfl ?_)
  generalize hW : World.setRow _ w2.heap.size DV = W3
  have K3 := Lib.hid (show Blk W3 w2.heap.size 58 DV by rw [← hW]; exact (Blk.new' w2 58 _ (bvs (List.replicate 16 0)) rfl rfl).row_ _)
  have B3 := Lib.hid (show Below w.heap.size w W3 by rw [← hW]; exact below_setRow (B2.out.alloc B2.out.size _) B2.out.size _)
  obtain ⟨G, hG⟩ : ∃ G, w2.heap.size = G := ⟨_, rfl⟩
  rw [hG] at K3 ⊢
  clear hG hW B2 SZ ON
  refine wp_region_held_drew (S := fun W => Blk W G 58 DV) (by kernel_rfl) K3.out.drew (fun hHeld => ?_)
  refine wpAnyH_take (i := 0) (v := .bool true) rfl (by kernel_rfl) (by kernel_rfl) (by kernel_rfl) (fun _ _ _ h => h) (Or.inl ⟨by rfl, fun W hW => by go_simp⟩) (by assumption) ?_
  (try simp only [Act.put, List.getElem_toArray, List.getElem_cons_succ, List.getElem_cons_zero, List.setIfInBounds_toArray, List.set_cons_zero, List.set_cons_succ])
  refine wpAnyH_take (i := 1) (v := .bool true) rfl (by kernel_rfl) (by kernel_rfl) (by kernel_rfl) (fun _ _ _ h => h) (Or.inl ⟨by rfl, fun W hW => by go_simp⟩) (by assumption) ?_
  (try simp only [Act.put, List.getElem_toArray, List.getElem_cons_succ, List.getElem_cons_zero, List.setIfInBounds_toArray, List.set_cons_zero, List.set_cons_succ])
  refine wpAnyH_take (i := 2) (v := .agg DV) rfl (by kernel_rfl) (by kernel_rfl) (by kernel_rfl) (fun _ _ _ h => h) (Or.inl ⟨by rfl, fun W hW => exec_load_row 58 _ rfl G rfl 58 DV (0, 0) _ hW Tryd.underlying58 rfl IA.out⟩) (by assumption) ?_
  (try simp only [Act.put, List.getElem_toArray, List.getElem_cons_succ, List.getElem_cons_zero, List.setIfInBounds_toArray, List.set_cons_zero, List.set_cons_succ])
  refine wpAnyH_take (i := 3) (v := .int .i64 tag) rfl (by kernel_rfl) (by kernel_rfl) (by kernel_rfl) (fun _ _ _ h => h) (Or.inl ⟨by rfl, fun W hW => by go_simp⟩) (by assumption) ?_
  (try simp only [Act.put, List.getElem_toArray, List.getElem_cons_succ, List.getElem_cons_zero, List.setIfInBounds_toArray, List.set_cons_zero, List.set_cons_succ])
  refine wpAnyH_take (i := 4) (v := .slice a0 n cp) rfl (by kernel_rfl) (by kernel_rfl) (by kernel_rfl) (fun _ _ _ h => h) (Or.inl ⟨by rfl, fun W hW => by go_simp⟩) (by assumption) ?_
  (try simp only [Act.put, List.getElem_toArray, List.getElem_cons_succ, List.getElem_cons_zero, List.setIfInBounds_toArray, List.set_cons_zero, List.set_cons_succ])
  refine wpAnyH_ready (rs := [5]) (by kernel_rfl) (by simp) (AllReadyH.cons rfl (fun K hK => ?_) AllReadyH.nil)
  go_simp
  refine (C2.out _ (HP.out.mono (Below.drew B3.out)) (LK.out.mono (Below.drew B3.out))).mono ?_
  rintro e w5 ⟨rfl, hb5⟩
  go_wp2_with fail
  refine hK.out _ _ (hHeld.below hb5 hHeld.lt) (fun hHeld2 => ?_)
  clear hK K
  (try simp only [Act.put, List.getElem_toArray, List.getElem_cons_succ, List.getElem_cons_zero, List.setIfInBounds_toArray, List.set_cons_zero, List.set_cons_succ])
  have B5 := bt (Below.drew B3.out) hb5
  clear hb5
  refine wpAnyH_take (i := 6) (v := .bool true) rfl (by kernel_rfl) (by kernel_rfl) (by kernel_rfl) (fun _ _ _ h => h) (Or.inl ⟨by rfl, fun W hW => by go_simp⟩) (by assumption) ?_
  (try simp only [Act.put, List.getElem_toArray, List.getElem_cons_succ, List.getElem_cons_zero, List.setIfInBounds_toArray, List.set_cons_zero, List.set_cons_succ])
  refine wpAnyH_take (i := 7) (v := .bool true) rfl (by kernel_rfl) (by kernel_rfl) (by kernel_rfl) (fun _ _ _ h => h) (Or.inl ⟨by rfl, fun W hW => by go_simp⟩) (by assumption) ?_
  (try simp only [Act.put, List.getElem_toArray, List.getElem_cons_succ, List.getElem_cons_zero, List.setIfInBounds_toArray, List.set_cons_zero, List.set_cons_succ])
  refine wpAnyH_take (i := 8) (v := .bool true) rfl (by kernel_rfl) (by kernel_rfl) (by kernel_rfl) (fun _ _ _ h => h) (Or.inl ⟨by rfl, fun W hW => by go_simp⟩) (by assumption) ?_
  (try simp only [Act.put, List.getElem_toArray, List.getElem_cons_succ, List.getElem_cons_zero, List.setIfInBounds_toArray, List.set_cons_zero, List.set_cons_succ])
  refine wpAnyH_take (i := 9) (v := .agg DV) rfl (by kernel_rfl) (by kernel_rfl) (by kernel_rfl) (fun _ _ _ h => h) (Or.inl ⟨by rfl, fun W hW => exec_load_row 58 _ rfl G rfl 58 DV (0, 0) _ hW Tryd.underlying58 rfl IA.out⟩) (by assumption) ?_
  (try simp only [Act.put, List.getElem_toArray, List.getElem_cons_succ, List.getElem_cons_zero, List.setIfInBounds_toArray, List.set_cons_zero, List.set_cons_succ])
  refine wpAnyH_take (i := 10) (v := .int .i64 tag) rfl (by kernel_rfl) (by kernel_rfl) (by kernel_rfl) (fun _ _ _ h => h) (Or.inl ⟨by rfl, fun W hW => by go_simp⟩) (by assumption) ?_
  (try simp only [Act.put, List.getElem_toArray, List.getElem_cons_succ, List.getElem_cons_zero, List.setIfInBounds_toArray, List.set_cons_zero, List.set_cons_succ])
  refine wpAnyH_take (i := 11) (v := .int .i64 tb) rfl (by kernel_rfl) (by kernel_rfl) (by kernel_rfl) (fun _ _ _ h => h) (Or.inl ⟨by rfl, fun W hW => by go_simp⟩) (by assumption) ?_
  (try simp only [Act.put, List.getElem_toArray, List.getElem_cons_succ, List.getElem_cons_zero, List.setIfInBounds_toArray, List.set_cons_zero, List.set_cons_succ])
  refine wpAnyH_take (i := 12) (v := .slice a0 n cp) rfl (by kernel_rfl) (by kernel_rfl) (by kernel_rfl) (fun _ _ _ h => h) (Or.inl ⟨by rfl, fun W hW => by go_simp⟩) (by assumption) ?_
  (try simp only [Act.put, List.getElem_toArray, List.getElem_cons_succ, List.getElem_cons_zero, List.setIfInBounds_toArray, List.set_cons_zero, List.set_cons_succ])
  refine wpAnyH_ready (rs := [13]) (by kernel_rfl) (by simp) (AllReadyH.cons rfl (fun K hK => ?_) AllReadyH.nil)
  go_simp
  refine (C3.out _ (HP.out.mono B5) (LA.out.mono B5)).mono ?_
  rintro e w6 ⟨rfl, hb6⟩
  go_wp2_with fail
  refine hK.out _ _ (hHeld2.below hb6 hHeld2.lt) (fun hHeld3 => ?_)
  clear hK K
  (try simp only [Act.put, List.getElem_toArray, List.getElem_cons_succ, List.getElem_cons_zero, List.setIfInBounds_toArray, List.set_cons_zero, List.set_cons_succ])
  have B6 := bt B5 hb6
  clear hb6
  refine wpAnyH_take (i := 14) (v := .bool true) rfl (by kernel_rfl) (by kernel_rfl) (by kernel_rfl) (fun _ _ _ h => h) (Or.inl ⟨by rfl, fun W hW => by go_simp⟩) (by assumption) ?_
  (try simp only [Act.put, List.getElem_toArray, List.getElem_cons_succ, List.getElem_cons_zero, List.setIfInBounds_toArray, List.set_cons_zero, List.set_cons_succ])
  refine wpAnyH_take (i := 15) (v := .bool true) rfl (by kernel_rfl) (by kernel_rfl) (by kernel_rfl) (fun _ _ _ h => h) (Or.inl ⟨by rfl, fun W hW => by go_simp⟩) (by assumption) ?_
  (try simp only [Act.put, List.getElem_toArray, List.getElem_cons_succ, List.getElem_cons_zero, List.setIfInBounds_toArray, List.set_cons_zero, List.set_cons_succ])
  refine wpAnyH_take (i := 16) (v := .bool true) rfl (by kernel_rfl) (by kernel_rfl) (by kernel_rfl) (fun _ _ _ h => h) (Or.inl ⟨by rfl, fun W hW => by go_simp⟩) (by assumption) ?_
  (try simp only [Act.put, List.getElem_toArray, List.getElem_cons_succ, List.getElem_cons_zero, List.setIfInBounds_toArray, List.set_cons_zero, List.set_cons_succ])
  refine wpAnyH_done (by kernel_rfl) ?_ _
  go_wp2
  go_ret
  exact ⟨rfl, B6⟩
end Go.Proofs.YtjeipkoomefekaaDoor
