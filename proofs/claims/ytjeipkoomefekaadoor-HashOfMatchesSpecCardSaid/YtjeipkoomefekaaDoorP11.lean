/- The law HashSumMatchesSpec, walked. -/
import Derived.Test.YtjeipkoomefekaaDoorNN
import Derived.Test.YtjeipkoomefekaaDoorX
import Derived.Deep.RegionHeld
namespace Go.Proofs.YtjeipkoomefekaaDoor
set_option linter.unusedVariables false
set_option linter.unusedSimpArgs false
open Go.RowKit
theorem exec_load_row {P : Program} {a : Act} {W : World} {o : Oper} (ty : TypeId) (x : Operand) (ho : o.op = .load ty x) (g : Nat) (hx : a.eval x = .pointer (some ⟨g, 0, none⟩)) (t : TypeId) (cs : Array Value) (fr : Nat × Nat) (d : TypeDesc)
    (hg : W.heap[g]? = some (.cells cs t fr)) (hu : P.underlying ty = some d) (hd : (match d with | .struct _ | .array _ _ => true | _ => false) = true) (hi : (P.info? ty).map (·.size) = some cs.size) :
    (execOp a.eval o).run P W = .ok (.value (.agg cs)) W := by
  unfold execOp
  simp only [ho, hx, Instr.loadAt, Instr.sureAddr, Sem.run_bind, Sem.run_pure, Result.andThen_ok, run_loadVar_row W g t ty cs fr d hg hu hd hi]
set_option maxRecDepth 100000 in
set_option maxHeartbeats 1000000 in
theorem sumMatches (aa : Option Addr) (ca : Nat) (la : List Nat) (w : World) (hca : la.length ≤ ca) (ha : BytesA w aa la) (ma : la.length ≤ 9223372036854775807) (hla : LaidC w) (hlk : LaidK w) :
    Calls Tryd.prog 11 #[.slice aa la.length ca] w fun e w' => e = .returned (.bool true) ∧ Below w.heap.size w w' := by
  have LA := Lib.hid hla
  have LK := Lib.hid hlk
  have HA := Lib.hid ha
  have hlt := ha.lt
  by_cases h1 : 600 < la.length
  · clear ha hla hlt hlk
    go_enter Tryd.func11, Tryd.ntmps11
    go_wp2_with fail
    refine (sane _ LA.out).mono ?_
    rintro e w1 ⟨rfl, hb1⟩
    have B1 := Lib.hid hb1
    clear hb1
    go_wp2
    go_ret
    exact ⟨rfl, B1.out⟩
  have C1 := Lib.hid (fun (W : World) (h : BytesA W aa la) (h2 : LaidC W) => hashsum_any la aa ca W (by omega) h hlt hca h2)
  have C2 := Lib.hid (fun (a : Option Addr) (cap : Nat) (W : World) (h : BytesA W a la) (h2 : LaidK W) => sumref_any a cap la W h (by omega) h2)
  have S1 := Lib.hid (fun (W : World) (h : BytesA W aa la) => conv_str la aa ca W h)
  obtain ⟨G0, O, hGO⟩ := str_conv la hlt
  have S3 := fun W => (hGO W).1
  have VW := Lib.hid (fun W => (hGO W).2)
  have E1 := equalIn_32 (sha la) (sha_len la)
  have sl := sha_len la
  have IA := Lib.hid (show (Tryd.prog.info? 47).map (·.size) = some (bvs (sha la)).size by rw [bvs_size, sl]; kernel_rfl)
  have SZ := Lib.hid (show (bvs (List.replicate 32 0)).size = (bvs (sha la)).size by rw [bvs_size, bvs_size, sl]; rfl)
  have ON := Lib.hid (bvs_one (sha la))
  obtain ⟨DV, hDV⟩ : ∃ X, bvs (sha la) = X := ⟨_, rfl⟩
  simp only [hDV] at C1 C2 E1; rw [hDV] at IA SZ ON
  obtain ⟨ST, hST⟩ : ∃ X, strB la = X := ⟨_, rfl⟩
  rw [hST] at S1; simp only [hST] at S3
  clear ha hla hlk hlt hGO hST hDV sl
  go_enter Tryd.func11, Tryd.ntmps11
  go_wp2_with fail
  refine (sane _ LA.out).mono ?_
  rintro e w1 ⟨rfl, hb1⟩
  have B1 := Lib.hid (show Below w.heap.size w w1 from hb1)
  have S2 := S1.out w1 (HA.out.mono hb1)
  clear hb1
  go_wp2_with fail
  refine (C1.out _ (HA.out.mono B1.out) (LA.out.mono B1.out)).mono ?_
  rintro e w2 ⟨rfl, hb2⟩
  have B2 := Lib.hid (bt B1.out hb2)
  clear hb2 B1 S2 C1
  go_wp2_with (with_reducible refine wpList_store_blk rfl _ _ _ rfl w2.heap.size 47 (bvs (List.replicate 32 0)) _ rfl rfl (Blk.new' _ _ _ _ rfl rfl) IA.out SZ.out ON.out rfl ?_)
  generalize hW : World.setRow _ w2.heap.size DV = W3
  have K3 := Lib.hid (show Blk W3 w2.heap.size 47 DV by rw [← hW]; exact (Blk.new' w2 47 _ (bvs (List.replicate 32 0)) rfl rfl).row_ _)
  have B3 := Lib.hid (show Below w.heap.size w W3 by rw [← hW]; exact below_setRow (B2.out.alloc B2.out.size _) B2.out.size _)
  obtain ⟨G, hG⟩ : ∃ G, w2.heap.size = G := ⟨_, rfl⟩
  rw [hG] at K3 ⊢
  clear hG hW B2 SZ ON
  refine wp_region_held_drew (S := fun W => Blk W G 47 DV) (by kernel_rfl) K3.out.drew (fun hHeld => ?_)
  refine wpAnyH_take (i := 0) (v := .bool true) rfl (by kernel_rfl) (by kernel_rfl) (by kernel_rfl) (fun _ _ _ h => h) (Or.inl ⟨by rfl, fun W hW => by go_simp⟩) (by assumption) ?_
  (try simp only [Act.put, List.getElem_toArray, List.getElem_cons_succ, List.getElem_cons_zero, List.setIfInBounds_toArray, List.set_cons_zero, List.set_cons_succ])
  refine wpAnyH_take (i := 1) (v := .bool true) rfl (by kernel_rfl) (by kernel_rfl) (by kernel_rfl) (fun _ _ _ h => h) (Or.inl ⟨by rfl, fun W hW => by go_simp⟩) (by assumption) ?_
  (try simp only [Act.put, List.getElem_toArray, List.getElem_cons_succ, List.getElem_cons_zero, List.setIfInBounds_toArray, List.set_cons_zero, List.set_cons_succ])
  refine wpAnyH_take (i := 2) (v := .agg DV) rfl (by kernel_rfl) (by kernel_rfl) (by kernel_rfl) (fun _ _ _ h => h) (Or.inl ⟨by rfl, fun W hW => exec_load_row 47 _ rfl G rfl 47 DV (0, 0) _ hW Tryd.underlying47 rfl IA.out⟩) (by assumption) ?_
  (try simp only [Act.put, List.getElem_toArray, List.getElem_cons_succ, List.getElem_cons_zero, List.setIfInBounds_toArray, List.set_cons_zero, List.set_cons_succ])
  refine wpAnyH_take (i := 3) (v := .string ST) rfl (by kernel_rfl) (by kernel_rfl) (by kernel_rfl) (fun _ _ _ h => h) (Or.inl ⟨by rfl, fun W hW => by go_simp⟩) (by assumption) ?_
  (try simp only [Act.put, List.getElem_toArray, List.getElem_cons_succ, List.getElem_cons_zero, List.setIfInBounds_toArray, List.set_cons_zero, List.set_cons_succ])
  refine wpAnyH_ready (rs := [4]) (by kernel_rfl) (by simp) (AllReadyH.cons rfl (fun K hK => ?_) AllReadyH.nil)
  go_simp
  refine hK.out _ _ ((K3.out.alloc _).drew.drew) (fun hHeld1 => ?_)
  clear hK K
  (try simp only [Act.put, List.getElem_toArray, List.getElem_cons_succ, List.getElem_cons_zero, List.setIfInBounds_toArray, List.set_cons_zero, List.set_cons_succ])
  have VB : BytesA (World.drew (World.drew (World.alloc W3 (O W3.drew)))) (some ⟨W3.heap.size, 0, none⟩) la := VW.out W3.drew
  have B4 : Below w.heap.size w (World.drew (World.drew (World.alloc W3 (O W3.drew)))) := Below.drew (Below.drew (B3.out.alloc B3.out.size _))
  generalize World.drew (World.drew (World.alloc W3 (O W3.drew))) = W4 at *
  refine wpAnyH_ready (rs := [5]) (by kernel_rfl) (by simp) (AllReadyH.cons rfl (fun K hK => ?_) AllReadyH.nil)
  go_simp
  refine (C2.out _ _ _ VB (LK.out.mono B4)).mono ?_
  rintro e w5 ⟨rfl, hb5⟩
  go_wp2_with fail
  refine hK.out _ _ (hHeld1.below hb5 hHeld1.lt) (fun hHeld2 => ?_)
  clear hK K
  (try simp only [Act.put, List.getElem_toArray, List.getElem_cons_succ, List.getElem_cons_zero, List.setIfInBounds_toArray, List.set_cons_zero, List.set_cons_succ])
  have B5 := bt B4 hb5
  have S4 := S1.out w5 (HA.out.mono B5)
  clear hb5 VB
  refine wpAnyH_take (i := 6) (v := .bool true) rfl (by kernel_rfl) (by kernel_rfl) (by kernel_rfl) (fun _ _ _ h => h) (Or.inl ⟨by rfl, fun W hW => by go_simp⟩) (by assumption) ?_
  (try simp only [Act.put, List.getElem_toArray, List.getElem_cons_succ, List.getElem_cons_zero, List.setIfInBounds_toArray, List.set_cons_zero, List.set_cons_succ])
  refine wpAnyH_take (i := 7) (v := .bool true) rfl (by kernel_rfl) (by kernel_rfl) (by kernel_rfl) (fun _ _ _ h => h) (Or.inl ⟨by rfl, fun W hW => by go_simp⟩) (by assumption) ?_
  (try simp only [Act.put, List.getElem_toArray, List.getElem_cons_succ, List.getElem_cons_zero, List.setIfInBounds_toArray, List.set_cons_zero, List.set_cons_succ])
  refine wpAnyH_take (i := 8) (v := .bool true) rfl (by kernel_rfl) (by kernel_rfl) (by kernel_rfl) (fun _ _ _ h => h) (Or.inl ⟨by rfl, fun W hW => by go_simp⟩) (by assumption) ?_
  (try simp only [Act.put, List.getElem_toArray, List.getElem_cons_succ, List.getElem_cons_zero, List.setIfInBounds_toArray, List.set_cons_zero, List.set_cons_succ])
  refine wpAnyH_take (i := 9) (v := .slice aa la.length ca) rfl (by kernel_rfl) (by kernel_rfl) (by kernel_rfl) (fun _ _ _ h => h) (Or.inl ⟨by rfl, fun W hW => by go_simp⟩) (by assumption) ?_
  (try simp only [Act.put, List.getElem_toArray, List.getElem_cons_succ, List.getElem_cons_zero, List.setIfInBounds_toArray, List.set_cons_zero, List.set_cons_succ])
  refine wpAnyH_take (i := 11) (v := .string ST) rfl (by kernel_rfl) (by kernel_rfl) (by kernel_rfl) (fun _ _ _ h => h) (Or.inl ⟨by rfl, fun W hW => by go_simp⟩) (by assumption) ?_
  (try simp only [Act.put, List.getElem_toArray, List.getElem_cons_succ, List.getElem_cons_zero, List.setIfInBounds_toArray, List.set_cons_zero, List.set_cons_succ])
  refine wpAnyH_ready (rs := [10]) (by kernel_rfl) (by simp) (AllReadyH.cons rfl (fun K hK => ?_) AllReadyH.nil)
  go_simp
  refine hK.out _ _ (by assumption) (fun hHeld3 => ?_)
  clear hK K
  (try simp only [Act.put, List.getElem_toArray, List.getElem_cons_succ, List.getElem_cons_zero, List.setIfInBounds_toArray, List.set_cons_zero, List.set_cons_succ])
  refine wpAnyH_take (i := 12) (v := .bool true) rfl (by kernel_rfl) (by kernel_rfl) (by kernel_rfl) (fun _ _ _ h => h) (Or.inl ⟨by rfl, fun W hW => by go_simp⟩) (by assumption) ?_
  (try simp only [Act.put, List.getElem_toArray, List.getElem_cons_succ, List.getElem_cons_zero, List.setIfInBounds_toArray, List.set_cons_zero, List.set_cons_succ])
  refine wpAnyH_take (i := 13) (v := .bool true) rfl (by kernel_rfl) (by kernel_rfl) (by kernel_rfl) (fun _ _ _ h => h) (Or.inl ⟨by rfl, fun W hW => by go_simp⟩) (by assumption) ?_
  (try simp only [Act.put, List.getElem_toArray, List.getElem_cons_succ, List.getElem_cons_zero, List.setIfInBounds_toArray, List.set_cons_zero, List.set_cons_succ])
  refine wpAnyH_take (i := 14) (v := .bool true) rfl (by kernel_rfl) (by kernel_rfl) (by kernel_rfl) (fun _ _ _ h => h) (Or.inl ⟨by rfl, fun W hW => by go_simp⟩) (by assumption) ?_
  (try simp only [Act.put, List.getElem_toArray, List.getElem_cons_succ, List.getElem_cons_zero, List.setIfInBounds_toArray, List.set_cons_zero, List.set_cons_succ])
  refine wpAnyH_done (by kernel_rfl) ?_ _
  go_wp2
  go_ret
  exact ⟨rfl, B5⟩
end Go.Proofs.YtjeipkoomefekaaDoor
