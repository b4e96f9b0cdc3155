/- Contracts: the parts of stamps and heads. -/
import Derived.Test.YtcdcnklfcmoiiaaDoorQRE
namespace Go.Proofs.YtcdcnklfcmoiiaaDoor
set_option linter.unusedVariables false
set_option linter.unusedSimpArgs false
open Go.RowKit Go.Sort
theorem exec_conv (a : Act) (W : World) (o : Oper) (ty tt : TypeId) (x : Operand) (v r : Value) (ho : o.op = .convert ty tt x) (hx : a.eval x = v) (h : (convert ty tt v).run Tryd.prog W = .ok r W) : (execOp a.eval o).run Tryd.prog W = .ok (.value r) W := by
  unfold execOp
  simp only [ho, hx, Sem.run_bind, Sem.run_pure, Result.andThen_ok, h]
theorem conv16 {X : World} {g n : Nat} {B : List Nat} (hB : B.length = 16) (h : Hs.BytesA X (some ⟨g, n, none⟩) B) : (convert 102 9 (.slice (some ⟨g, n, none⟩) 16 16)).run Tryd.prog X = .ok (.string (Hs.strB B)) X := by
  have := Hs.conv_str B (some ⟨g, n, none⟩) 16 X h
  rw [hB] at this
  exact this
theorem stamp_cells {X : World} {g : Nat} {t : TypeId} {ad va tg : ByteArray} {st sz lo hi ga se : Int} {B : List Nat} {S : List Nat} (hB : B.length = 16) (h : Blk X g t (recC [.string ad, .string va, .int .i64 st, .int .i64 sz] B [.string tg, .int .i64 lo, .int .i64 hi, .int .i64 ga, .int .i64 se] S)) : X.cell? ⟨g, 0, none⟩ = some (.string ad) ∧ X.cell? ⟨g, 1, none⟩ = some (.string va) ∧ X.cell? ⟨g, 2, none⟩ = some (.int .i64 st) ∧ X.cell? ⟨g, 3, none⟩ = some (.int .i64 sz) ∧ X.cell? ⟨g, 20, none⟩ = some (.string tg) ∧ X.cell? ⟨g, 21, none⟩ = some (.int .i64 lo) ∧ X.cell? ⟨g, 22, none⟩ = some (.int .i64 hi) ∧ X.cell? ⟨g, 23, none⟩ = some (.int .i64 ga) ∧ X.cell? ⟨g, 24, none⟩ = some (.int .i64 se) := ⟨rec_at h (i := 0) rfl, rec_at h (i := 1) rfl, rec_at h (i := 2) rfl, rec_at h (i := 3) rfl, rec_on h hB (j := 0) rfl, rec_on h hB (j := 1) rfl, rec_on h hB (j := 2) rfl, rec_on h hB (j := 3) rfl, rec_on h hB (j := 4) rfl⟩
theorem head_cells {X : World} {g : Nat} {t : TypeId} {si sz lo hi se : Int} {B : List Nat} {S : List Nat} (hB : B.length = 16) (h : Blk X g t (recC [.int .i64 si, .int .i64 sz] B [.int .i64 lo, .int .i64 hi, .int .i64 se] S)) : X.cell? ⟨g, 0, none⟩ = some (.int .i64 si) ∧ X.cell? ⟨g, 1, none⟩ = some (.int .i64 sz) ∧ X.cell? ⟨g, 18, none⟩ = some (.int .i64 lo) ∧ X.cell? ⟨g, 19, none⟩ = some (.int .i64 hi) ∧ X.cell? ⟨g, 20, none⟩ = some (.int .i64 se) := ⟨rec_at h (i := 0) rfl, rec_at h (i := 1) rfl, rec_on h hB (j := 0) rfl, rec_on h hB (j := 1) rfl, rec_on h hB (j := 2) rfl⟩
def headP (si sz lo hi se : Int) (B : List Nat) : List ByteArray := [numP [si, sz, lo, hi, se], Hs.strB B]
def stampP (ad va tg : ByteArray) (st sz lo hi ga se : Int) (B : List Nat) : List ByteArray := [ad, va, numP [st, sz, lo, hi, ga, se], Hs.strB B, tg]
theorem headP_le {si sz lo hi se : Int} {B : List Nat} (hB : B.length = 16) (hsi : i64Ok si) (hsz : i64Ok sz) (hlo : i64Ok lo) (hhi : i64Ok hi) (hse : i64Ok se) : ∀ x ∈ headP si sz lo hi se B, x.size ≤ 400 := fun x hx => by
  unfold headP at hx
  simp only [List.mem_cons, List.not_mem_nil, or_false] at hx
  rcases hx with rfl | rfl
  · refine numP_le _ (fun y hy => ?_) (by simp)
    simp only [List.mem_cons, List.not_mem_nil, or_false] at hy
    rcases hy with rfl | rfl | rfl | rfl | rfl <;> assumption
  · rw [Hs.strB_size, hB]; omega
theorem stampP_le {ad va tg : ByteArray} {st sz lo hi ga se : Int} {B : List Nat} (hB : B.length = 16) (hst : i64Ok st) (hsz : i64Ok sz) (hlo : i64Ok lo) (hhi : i64Ok hi) (hga : i64Ok ga) (hse : i64Ok se) (hT : ad.size ≤ 200 ∧ va.size ≤ 200 ∧ tg.size ≤ 200) : ∀ x ∈ stampP ad va tg st sz lo hi ga se B, x.size ≤ 400 := fun x hx => by
  obtain ⟨t1, t2, t3⟩ := hT
  unfold stampP at hx
  simp only [List.mem_cons, List.not_mem_nil, or_false] at hx
  rcases hx with rfl | rfl | rfl | rfl | rfl
  · omega
  · omega
  · refine numP_le _ (fun y hy => ?_) (by simp)
    simp only [List.mem_cons, List.not_mem_nil, or_false] at hy
    rcases hy with rfl | rfl | rfl | rfl | rfl | rfl <;> assumption
  · rw [Hs.strB_size, hB]; omega
  · omega
set_option maxRecDepth 100000 in
set_option maxHeartbeats 1000000 in
theorem headParts_any (si sz lo hi se : Int) (B : List Nat) (S : List Nat) (w : World) (hB : B.length = 16) (hb : ∀ x ∈ B, x < 256) (hsi : i64Ok si) (hsz : i64Ok sz) (hlo : i64Ok lo) (hhi : i64Ok hi) (hse : i64Ok se) :
    Calls Tryd.prog 36 #[.agg (recC [.int .i64 si, .int .i64 sz] B [.int .i64 lo, .int .i64 hi, .int .i64 se] S)] w fun e' w' => (∃ a c, e' = .returned (.slice a 2 c) ∧ StR w' a (headP si sz lo hi se B)) ∧ Below w.heap.size w w' := by
  unfold headP
  obtain ⟨G, hG⟩ : ∃ G, w.heap.size = G := ⟨_, rfl⟩
  have HG := Lib.hid hG
  have hN : ∀ x ∈ [si, sz, lo, hi, se], i64Ok x := fun x hx => by
    simp only [List.mem_cons, List.not_mem_nil, or_false] at hx
    rcases hx with rfl | rfl | rfl | rfl | rfl
    · exact hsi
    · exact hsz
    · exact hlo
    · exact hhi
    · exact hse
  have NU := Lib.hid (fun (g : Nat) (X : World) (h : Blk X g 3 #[.int .i64 si, .int .i64 sz, .int .i64 lo, .int .i64 hi, .int .i64 se]) => nums_any [si, sz, lo, hi, se] 5 rfl hN (by decide) g X h)
  obtain ⟨P, hP⟩ : ∃ P, numP [si, sz, lo, hi, se] = P := ⟨_, rfl⟩
  simp only [hP] at NU
  rw [hP]
  have CV := Lib.hid (fun (X : World) (n : Nat) (h : X.rangeAt G n (B.map Hs.bv)) => conv16 hB (bytes_at h hb))
  obtain ⟨Q, hQ⟩ : ∃ Q, Hs.strB B = Q := ⟨_, rfl⟩
  simp only [hQ] at CV
  rw [hQ]
  have LI := Lib.hid (fun (v : Value) (X : World) => list_any v X)
  have HB := Lib.hid hB
  clear hP hQ hN hB hb hsi hsz hlo hhi hse
  obtain ⟨C, hC⟩ : ∃ C, (recC [.int .i64 si, .int .i64 sz] B [.int .i64 lo, .int .i64 hi, .int .i64 se] S) = C := ⟨_, rfl⟩
  have K1 := Lib.hid (show Blk (w.alloc (.cells C 66)) G 66 (recC [.int .i64 si, .int .i64 sz] B [.int .i64 lo, .int .i64 hi, .int .i64 se] S) from by rw [hC]; exact Blk.new' w _ _ _ hG rfl)
  have B0 := Lib.hid (show Below w.heap.size w (w.alloc (.cells C 66)) by (repeat' (first | (with_reducible exact Below.refl _ _) | (with_reducible assumption) | (with_reducible refine Below.alloc ?_ ?_ _) | (with_reducible refine Below.drew ?_) | (with_reducible refine below_dn ?_) | (with_reducible refine Below.setCell ?_ ?_ _) | (with_reducible exact Nat.le_refl _) | omega | (simp only [World.size_alloc, World.size_setCell, World.size_drew]; omega) | (simp; omega) | (simp; done))))
  rw [hC]
  clear hC
  go_enter Tryd.func36, Tryd.ntmps36
  go_upto_region 1 with (fail)
  try rw [hG]
  generalize hw0 : (w.alloc (.cells C 66)) = w0 at K1 B0 ⊢
  clear hw0 hG
  refine wp_region_held_drew (S := fun W => Blk W G 66 (recC [.int .i64 si, .int .i64 sz] B [.int .i64 lo, .int .i64 hi, .int .i64 se] S)) (by kernel_rfl) K1.out.drew (fun hHeld => ?_)
  replace B0 := Lib.hid B0.out.drew
  generalize w0.drew = w1 at B0 hHeld ⊢
  refine wpAnyH_take (i := 0) (v := .pointer (some ⟨G, 0, none⟩)) rfl (by kernel_rfl) (by kernel_rfl) (by kernel_rfl) (fun _ _ _ h => h) (Or.inl ⟨by rfl, fun W hW => by go_simp⟩) (by assumption) ?_
  (try simp only [Act.put, List.getElem_toArray, List.getElem_cons_succ, List.getElem_cons_zero, List.setIfInBounds_toArray, List.set_cons_zero, List.set_cons_succ])
  refine wpAnyH_take (i := 1) (v := .int .i64 si) rfl (by kernel_rfl) (by kernel_rfl) (by kernel_rfl) (fun _ _ _ h => h) (Or.inl ⟨by rfl, fun W hW => (by obtain ⟨ca0, ca1, cc0, cc1, cc2⟩ := head_cells HB.out hW; go_simp)⟩) (by assumption) ?_
  (try simp only [Act.put, List.getElem_toArray, List.getElem_cons_succ, List.getElem_cons_zero, List.setIfInBounds_toArray, List.set_cons_zero, List.set_cons_succ])
  refine wpAnyH_take (i := 2) (v := .pointer (some ⟨G, 1, none⟩)) rfl (by kernel_rfl) (by kernel_rfl) (by kernel_rfl) (fun _ _ _ h => h) (Or.inl ⟨by rfl, fun W hW => by go_simp⟩) (by assumption) ?_
  (try simp only [Act.put, List.getElem_toArray, List.getElem_cons_succ, List.getElem_cons_zero, List.setIfInBounds_toArray, List.set_cons_zero, List.set_cons_succ])
  refine wpAnyH_take (i := 3) (v := .int .i64 sz) rfl (by kernel_rfl) (by kernel_rfl) (by kernel_rfl) (fun _ _ _ h => h) (Or.inl ⟨by rfl, fun W hW => (by obtain ⟨ca0, ca1, cc0, cc1, cc2⟩ := head_cells HB.out hW; go_simp)⟩) (by assumption) ?_
  (try simp only [Act.put, List.getElem_toArray, List.getElem_cons_succ, List.getElem_cons_zero, List.setIfInBounds_toArray, List.set_cons_zero, List.set_cons_succ])
  refine wpAnyH_take (i := 4) (v := .pointer (some ⟨G, 18, none⟩)) rfl (by kernel_rfl) (by kernel_rfl) (by kernel_rfl) (fun _ _ _ h => h) (Or.inl ⟨by rfl, fun W hW => by go_simp⟩) (by assumption) ?_
  (try simp only [Act.put, List.getElem_toArray, List.getElem_cons_succ, List.getElem_cons_zero, List.setIfInBounds_toArray, List.set_cons_zero, List.set_cons_succ])
  refine wpAnyH_take (i := 5) (v := .pointer (some ⟨G, 18, none⟩)) rfl (by kernel_rfl) (by kernel_rfl) (by kernel_rfl) (fun _ _ _ h => h) (Or.inl ⟨by rfl, fun W hW => by go_simp⟩) (by assumption) ?_
  (try simp only [Act.put, List.getElem_toArray, List.getElem_cons_succ, List.getElem_cons_zero, List.setIfInBounds_toArray, List.set_cons_zero, List.set_cons_succ])
  refine wpAnyH_take (i := 6) (v := .int .i64 lo) rfl (by kernel_rfl) (by kernel_rfl) (by kernel_rfl) (fun _ _ _ h => h) (Or.inl ⟨by rfl, fun W hW => (by obtain ⟨ca0, ca1, cc0, cc1, cc2⟩ := head_cells HB.out hW; go_simp)⟩) (by assumption) ?_
  (try simp only [Act.put, List.getElem_toArray, List.getElem_cons_succ, List.getElem_cons_zero, List.setIfInBounds_toArray, List.set_cons_zero, List.set_cons_succ])
  refine wpAnyH_take (i := 7) (v := .pointer (some ⟨G, 18, none⟩)) rfl (by kernel_rfl) (by kernel_rfl) (by kernel_rfl) (fun _ _ _ h => h) (Or.inl ⟨by rfl, fun W hW => by go_simp⟩) (by assumption) ?_
  (try simp only [Act.put, List.getElem_toArray, List.getElem_cons_succ, List.getElem_cons_zero, List.setIfInBounds_toArray, List.set_cons_zero, List.set_cons_succ])
  refine wpAnyH_take (i := 8) (v := .pointer (some ⟨G, 19, none⟩)) rfl (by kernel_rfl) (by kernel_rfl) (by kernel_rfl) (fun _ _ _ h => h) (Or.inl ⟨by rfl, fun W hW => by go_simp⟩) (by assumption) ?_
  (try simp only [Act.put, List.getElem_toArray, List.getElem_cons_succ, List.getElem_cons_zero, List.setIfInBounds_toArray, List.set_cons_zero, List.set_cons_succ])
  refine wpAnyH_take (i := 9) (v := .int .i64 hi) rfl (by kernel_rfl) (by kernel_rfl) (by kernel_rfl) (fun _ _ _ h => h) (Or.inl ⟨by rfl, fun W hW => (by obtain ⟨ca0, ca1, cc0, cc1, cc2⟩ := head_cells HB.out hW; go_simp)⟩) (by assumption) ?_
  (try simp only [Act.put, List.getElem_toArray, List.getElem_cons_succ, List.getElem_cons_zero, List.setIfInBounds_toArray, List.set_cons_zero, List.set_cons_succ])
  refine wpAnyH_take (i := 10) (v := .pointer (some ⟨G, 20, none⟩)) rfl (by kernel_rfl) (by kernel_rfl) (by kernel_rfl) (fun _ _ _ h => h) (Or.inl ⟨by rfl, fun W hW => by go_simp⟩) (by assumption) ?_
  (try simp only [Act.put, List.getElem_toArray, List.getElem_cons_succ, List.getElem_cons_zero, List.setIfInBounds_toArray, List.set_cons_zero, List.set_cons_succ])
  refine wpAnyH_take (i := 11) (v := .int .i64 se) rfl (by kernel_rfl) (by kernel_rfl) (by kernel_rfl) (fun _ _ _ h => h) (Or.inl ⟨by rfl, fun W hW => (by obtain ⟨ca0, ca1, cc0, cc1, cc2⟩ := head_cells HB.out hW; go_simp)⟩) (by assumption) ?_
  (try simp only [Act.put, List.getElem_toArray, List.getElem_cons_succ, List.getElem_cons_zero, List.setIfInBounds_toArray, List.set_cons_zero, List.set_cons_succ])
  refine wpAnyH_take (i := 14) (v := .pointer (some ⟨G, 2, none⟩)) rfl (by kernel_rfl) (by kernel_rfl) (by kernel_rfl) (fun _ _ _ h => h) (Or.inl ⟨by rfl, fun W hW => by go_simp⟩) (by assumption) ?_
  (try simp only [Act.put, List.getElem_toArray, List.getElem_cons_succ, List.getElem_cons_zero, List.setIfInBounds_toArray, List.set_cons_zero, List.set_cons_succ])
  refine wpAnyH_take (i := 15) (v := .slice (some ⟨G, 2, none⟩) 16 16) rfl (by kernel_rfl) (by kernel_rfl) (by kernel_rfl) (fun _ _ _ h => h) (Or.inl ⟨by rfl, fun W hW => by go_simp⟩) (by assumption) ?_
  (try simp only [Act.put, List.getElem_toArray, List.getElem_cons_succ, List.getElem_cons_zero, List.setIfInBounds_toArray, List.set_cons_zero, List.set_cons_succ])
  refine wpAnyH_take (i := 16) (v := .string Q) rfl (by kernel_rfl) (by kernel_rfl) (by kernel_rfl) (fun _ _ _ h => h) (Or.inl ⟨by rfl, fun W hW => exec_conv _ _ _ _ _ _ _ _ rfl rfl (CV.out _ 2 (rec_B hW))⟩) (by assumption) ?_
  (try simp only [Act.put, List.getElem_toArray, List.getElem_cons_succ, List.getElem_cons_zero, List.setIfInBounds_toArray, List.set_cons_zero, List.set_cons_succ])
  refine wpAnyH_ready (rs := [12]) (by kernel_rfl) (by simp) (AllReadyH.cons rfl (fun K hK => ?_) AllReadyH.nil)
  go_simp
  obtain ⟨g1, hg1⟩ : ∃ G, w1.heap.size = G := ⟨_, rfl⟩
  have Kg1 := Lib.hid (show Blk (w1.alloc (.cells #[.int .i64 si, .int .i64 sz, .int .i64 lo, .int .i64 hi, .int .i64 se] 3)) g1 3 #[.int .i64 si, .int .i64 sz, .int .i64 lo, .int .i64 hi, .int .i64 se] from Blk.new' w1 _ _ _ hg1 rfl)
  have hb := (Below.refl _ w1).alloc (Nat.le_refl _) (.cells #[.int .i64 si, .int .i64 sz, .int .i64 lo, .int .i64 hi, .int .i64 se] 3)
  replace B0 := Lib.hid (B0.out.trans (hb.mono B0.out.size))
  rw [hg1]
  refine hK _ _ (hHeld.below hb hHeld.lt) (fun held2 => ?_)
  clear hK K hHeld
  (try simp only [Act.put, List.getElem_toArray, List.getElem_cons_succ, List.getElem_cons_zero, List.setIfInBounds_toArray, List.set_cons_zero, List.set_cons_succ])
  clear hb
  generalize hw2 : w1.alloc (.cells #[.int .i64 si, .int .i64 sz, .int .i64 lo, .int .i64 hi, .int .i64 se] 3) = w2 at Kg1 B0 held2 ⊢
  clear hw2 hg1
  refine wpAnyH_ready (rs := [13]) (by kernel_rfl) (by simp) (AllReadyH.cons rfl (fun K hK => ?_) AllReadyH.nil)
  go_simp
  refine (NU.out g1 _ Kg1.out).mono ?_
  rintro e9 w4 ⟨rfl, hb⟩
  replace B0 := Lib.hid (B0.out.trans (hb.mono B0.out.size))
  go_wp2_with fail
  refine hK _ _ (held2.below hb held2.lt) (fun held4 => ?_)
  clear hK K held2
  (try simp only [Act.put, List.getElem_toArray, List.getElem_cons_succ, List.getElem_cons_zero, List.setIfInBounds_toArray, List.set_cons_zero, List.set_cons_succ])
  clear hb Kg1
  refine wpAnyH_ready (rs := [17]) (by kernel_rfl) (by simp) (AllReadyH.cons rfl (fun K hK => ?_) AllReadyH.nil)
  go_simp
  obtain ⟨g2, hg2⟩ : ∃ G, w4.heap.size = G := ⟨_, rfl⟩
  have Kg2 := Lib.hid (show Blk (w4.alloc (.cells #[.string P, .string Q] 9)) g2 9 #[.string P, .string Q] from Blk.new' w4 _ _ _ hg2 rfl)
  have hb := (Below.refl _ w4).alloc (Nat.le_refl _) (.cells #[.string P, .string Q] 9)
  replace B0 := Lib.hid (B0.out.trans (hb.mono B0.out.size))
  rw [hg2]
  refine hK _ _ (held4.below hb held4.lt) (fun held6 => ?_)
  clear hK K held4
  (try simp only [Act.put, List.getElem_toArray, List.getElem_cons_succ, List.getElem_cons_zero, List.setIfInBounds_toArray, List.set_cons_zero, List.set_cons_succ])
  clear hb
  generalize hw2 : w4.alloc (.cells #[.string P, .string Q] 9) = w6 at Kg2 B0 held6 ⊢
  clear hw2 hg2
  refine wpAnyH_ready (rs := [18]) (by kernel_rfl) (by simp) (AllReadyH.cons rfl (fun K hK => ?_) AllReadyH.nil)
  go_simp
  refine (LI.out _ _).mono ?_
  rintro e9 w9 ⟨rfl, rfl⟩
  go_wp2_with fail
  refine hK _ _ held6 (fun held7 => ?_)
  clear hK K held6
  (try simp only [Act.put, List.getElem_toArray, List.getElem_cons_succ, List.getElem_cons_zero, List.setIfInBounds_toArray, List.set_cons_zero, List.set_cons_succ])
  refine wpAnyH_take (i := 19) (v := .slice (some ⟨g2, 0, none⟩) 2 2) rfl (by kernel_rfl) (by kernel_rfl) (by kernel_rfl) (fun _ _ _ h => h) (Or.inl ⟨by rfl, fun W hW => by go_simp⟩) (by assumption) ?_
  (try simp only [Act.put, List.getElem_toArray, List.getElem_cons_succ, List.getElem_cons_zero, List.setIfInBounds_toArray, List.set_cons_zero, List.set_cons_succ])
  refine wpAnyH_done (by kernel_rfl) ?_ _
  go_wp2
  go_ret
  exact ⟨⟨_, _, rfl, strs_blk (l := [P, Q]) Kg2.out⟩, B0.out⟩
set_option maxRecDepth 100000 in
set_option maxHeartbeats 1000000 in
theorem stampParts_any (ad va tg : ByteArray) (st sz lo hi ga se : Int) (B : List Nat) (S : List Nat) (w : World) (hB : B.length = 16) (hb : ∀ x ∈ B, x < 256) (hst : i64Ok st) (hsz : i64Ok sz) (hlo : i64Ok lo) (hhi : i64Ok hi) (hga : i64Ok ga) (hse : i64Ok se) :
    Calls Tryd.prog 30 #[.agg (recC [.string ad, .string va, .int .i64 st, .int .i64 sz] B [.string tg, .int .i64 lo, .int .i64 hi, .int .i64 ga, .int .i64 se] S)] w fun e' w' => (∃ a c, e' = .returned (.slice a 5 c) ∧ StR w' a (stampP ad va tg st sz lo hi ga se B)) ∧ Below w.heap.size w w' := by
  unfold stampP
  obtain ⟨G, hG⟩ : ∃ G, w.heap.size = G := ⟨_, rfl⟩
  have HG := Lib.hid hG
  have hN : ∀ x ∈ [st, sz, lo, hi, ga, se], i64Ok x := fun x hx => by
    simp only [List.mem_cons, List.not_mem_nil, or_false] at hx
    rcases hx with rfl | rfl | rfl | rfl | rfl | rfl
    · exact hst
    · exact hsz
    · exact hlo
    · exact hhi
    · exact hga
    · exact hse
  have NU := Lib.hid (fun (g : Nat) (X : World) (h : Blk X g 3 #[.int .i64 st, .int .i64 sz, .int .i64 lo, .int .i64 hi, .int .i64 ga, .int .i64 se]) => nums_any [st, sz, lo, hi, ga, se] 6 rfl hN (by decide) g X h)
  obtain ⟨P, hP⟩ : ∃ P, numP [st, sz, lo, hi, ga, se] = P := ⟨_, rfl⟩
  simp only [hP] at NU
  rw [hP]
  have CV := Lib.hid (fun (X : World) (n : Nat) (h : X.rangeAt G n (B.map Hs.bv)) => conv16 hB (bytes_at h hb))
  obtain ⟨Q, hQ⟩ : ∃ Q, Hs.strB B = Q := ⟨_, rfl⟩
  simp only [hQ] at CV
  rw [hQ]
  have LI := Lib.hid (fun (v : Value) (X : World) => list_any v X)
  have HB := Lib.hid hB
  clear hP hQ hN hB hb hst hsz hlo hhi hga hse
  obtain ⟨C, hC⟩ : ∃ C, (recC [.string ad, .string va, .int .i64 st, .int .i64 sz] B [.string tg, .int .i64 lo, .int .i64 hi, .int .i64 ga, .int .i64 se] S) = C := ⟨_, rfl⟩
  have K1 := Lib.hid (show Blk (w.alloc (.cells C 58)) G 58 (recC [.string ad, .string va, .int .i64 st, .int .i64 sz] B [.string tg, .int .i64 lo, .int .i64 hi, .int .i64 ga, .int .i64 se] S) from by rw [hC]; exact Blk.new' w _ _ _ hG rfl)
  have B0 := Lib.hid (show Below w.heap.size w (w.alloc (.cells C 58)) by (repeat' (first | (with_reducible exact Below.refl _ _) | (with_reducible assumption) | (with_reducible refine Below.alloc ?_ ?_ _) | (with_reducible refine Below.drew ?_) | (with_reducible refine below_dn ?_) | (with_reducible refine Below.setCell ?_ ?_ _) | (with_reducible exact Nat.le_refl _) | omega | (simp only [World.size_alloc, World.size_setCell, World.size_drew]; omega) | (simp; omega) | (simp; done))))
  rw [hC]
  clear hC
  go_enter Tryd.func30, Tryd.ntmps30
  go_upto_region 1 with (fail)
  try rw [hG]
  generalize hw0 : (w.alloc (.cells C 58)) = w0 at K1 B0 ⊢
  clear hw0 hG
  refine wp_region_held_drew (S := fun W => Blk W G 58 (recC [.string ad, .string va, .int .i64 st, .int .i64 sz] B [.string tg, .int .i64 lo, .int .i64 hi, .int .i64 ga, .int .i64 se] S)) (by kernel_rfl) K1.out.drew (fun hHeld => ?_)
  replace B0 := Lib.hid B0.out.drew
  generalize w0.drew = w1 at B0 hHeld ⊢
  refine wpAnyH_take (i := 0) (v := .pointer (some ⟨G, 0, none⟩)) rfl (by kernel_rfl) (by kernel_rfl) (by kernel_rfl) (fun _ _ _ h => h) (Or.inl ⟨by rfl, fun W hW => by go_simp⟩) (by assumption) ?_
  (try simp only [Act.put, List.getElem_toArray, List.getElem_cons_succ, List.getElem_cons_zero, List.setIfInBounds_toArray, List.set_cons_zero, List.set_cons_succ])
  refine wpAnyH_take (i := 1) (v := .string ad) rfl (by kernel_rfl) (by kernel_rfl) (by kernel_rfl) (fun _ _ _ h => h) (Or.inl ⟨by rfl, fun W hW => (by obtain ⟨ca0, ca1, ca2, ca3, cc0, cc1, cc2, cc3, cc4⟩ := stamp_cells HB.out hW; go_simp)⟩) (by assumption) ?_
  (try simp only [Act.put, List.getElem_toArray, List.getElem_cons_succ, List.getElem_cons_zero, List.setIfInBounds_toArray, List.set_cons_zero, List.set_cons_succ])
  refine wpAnyH_take (i := 2) (v := .pointer (some ⟨G, 1, none⟩)) rfl (by kernel_rfl) (by kernel_rfl) (by kernel_rfl) (fun _ _ _ h => h) (Or.inl ⟨by rfl, fun W hW => by go_simp⟩) (by assumption) ?_
  (try simp only [Act.put, List.getElem_toArray, List.getElem_cons_succ, List.getElem_cons_zero, List.setIfInBounds_toArray, List.set_cons_zero, List.set_cons_succ])
  refine wpAnyH_take (i := 3) (v := .string va) rfl (by kernel_rfl) (by kernel_rfl) (by kernel_rfl) (fun _ _ _ h => h) (Or.inl ⟨by rfl, fun W hW => (by obtain ⟨ca0, ca1, ca2, ca3, cc0, cc1, cc2, cc3, cc4⟩ := stamp_cells HB.out hW; go_simp)⟩) (by assumption) ?_
  (try simp only [Act.put, List.getElem_toArray, List.getElem_cons_succ, List.getElem_cons_zero, List.setIfInBounds_toArray, List.set_cons_zero, List.set_cons_succ])
  refine wpAnyH_take (i := 4) (v := .pointer (some ⟨G, 2, none⟩)) rfl (by kernel_rfl) (by kernel_rfl) (by kernel_rfl) (fun _ _ _ h => h) (Or.inl ⟨by rfl, fun W hW => by go_simp⟩) (by assumption) ?_
  (try simp only [Act.put, List.getElem_toArray, List.getElem_cons_succ, List.getElem_cons_zero, List.setIfInBounds_toArray, List.set_cons_zero, List.set_cons_succ])
  refine wpAnyH_take (i := 5) (v := .int .i64 st) rfl (by kernel_rfl) (by kernel_rfl) (by kernel_rfl) (fun _ _ _ h => h) (Or.inl ⟨by rfl, fun W hW => (by obtain ⟨ca0, ca1, ca2, ca3, cc0, cc1, cc2, cc3, cc4⟩ := stamp_cells HB.out hW; go_simp)⟩) (by assumption) ?_
  (try simp only [Act.put, List.getElem_toArray, List.getElem_cons_succ, List.getElem_cons_zero, List.setIfInBounds_toArray, List.set_cons_zero, List.set_cons_succ])
  refine wpAnyH_take (i := 6) (v := .pointer (some ⟨G, 3, none⟩)) rfl (by kernel_rfl) (by kernel_rfl) (by kernel_rfl) (fun _ _ _ h => h) (Or.inl ⟨by rfl, fun W hW => by go_simp⟩) (by assumption) ?_
  (try simp only [Act.put, List.getElem_toArray, List.getElem_cons_succ, List.getElem_cons_zero, List.setIfInBounds_toArray, List.set_cons_zero, List.set_cons_succ])
  refine wpAnyH_take (i := 7) (v := .int .i64 sz) rfl (by kernel_rfl) (by kernel_rfl) (by kernel_rfl) (fun _ _ _ h => h) (Or.inl ⟨by rfl, fun W hW => (by obtain ⟨ca0, ca1, ca2, ca3, cc0, cc1, cc2, cc3, cc4⟩ := stamp_cells HB.out hW; go_simp)⟩) (by assumption) ?_
  (try simp only [Act.put, List.getElem_toArray, List.getElem_cons_succ, List.getElem_cons_zero, List.setIfInBounds_toArray, List.set_cons_zero, List.set_cons_succ])
  refine wpAnyH_take (i := 8) (v := .pointer (some ⟨G, 21, none⟩)) rfl (by kernel_rfl) (by kernel_rfl) (by kernel_rfl) (fun _ _ _ h => h) (Or.inl ⟨by rfl, fun W hW => by go_simp⟩) (by assumption) ?_
  (try simp only [Act.put, List.getElem_toArray, List.getElem_cons_succ, List.getElem_cons_zero, List.setIfInBounds_toArray, List.set_cons_zero, List.set_cons_succ])
  refine wpAnyH_take (i := 9) (v := .pointer (some ⟨G, 21, none⟩)) rfl (by kernel_rfl) (by kernel_rfl) (by kernel_rfl) (fun _ _ _ h => h) (Or.inl ⟨by rfl, fun W hW => by go_simp⟩) (by assumption) ?_
  (try simp only [Act.put, List.getElem_toArray, List.getElem_cons_succ, List.getElem_cons_zero, List.setIfInBounds_toArray, List.set_cons_zero, List.set_cons_succ])
  refine wpAnyH_take (i := 10) (v := .int .i64 lo) rfl (by kernel_rfl) (by kernel_rfl) (by kernel_rfl) (fun _ _ _ h => h) (Or.inl ⟨by rfl, fun W hW => (by obtain ⟨ca0, ca1, ca2, ca3, cc0, cc1, cc2, cc3, cc4⟩ := stamp_cells HB.out hW; go_simp)⟩) (by assumption) ?_
  (try simp only [Act.put, List.getElem_toArray, List.getElem_cons_succ, List.getElem_cons_zero, List.setIfInBounds_toArray, List.set_cons_zero, List.set_cons_succ])
  refine wpAnyH_take (i := 11) (v := .pointer (some ⟨G, 21, none⟩)) rfl (by kernel_rfl) (by kernel_rfl) (by kernel_rfl) (fun _ _ _ h => h) (Or.inl ⟨by rfl, fun W hW => by go_simp⟩) (by assumption) ?_
  (try simp only [Act.put, List.getElem_toArray, List.getElem_cons_succ, List.getElem_cons_zero, List.setIfInBounds_toArray, List.set_cons_zero, List.set_cons_succ])
  refine wpAnyH_take (i := 12) (v := .pointer (some ⟨G, 22, none⟩)) rfl (by kernel_rfl) (by kernel_rfl) (by kernel_rfl) (fun _ _ _ h => h) (Or.inl ⟨by rfl, fun W hW => by go_simp⟩) (by assumption) ?_
  (try simp only [Act.put, List.getElem_toArray, List.getElem_cons_succ, List.getElem_cons_zero, List.setIfInBounds_toArray, List.set_cons_zero, List.set_cons_succ])
  refine wpAnyH_take (i := 13) (v := .int .i64 hi) rfl (by kernel_rfl) (by kernel_rfl) (by kernel_rfl) (fun _ _ _ h => h) (Or.inl ⟨by rfl, fun W hW => (by obtain ⟨ca0, ca1, ca2, ca3, cc0, cc1, cc2, cc3, cc4⟩ := stamp_cells HB.out hW; go_simp)⟩) (by assumption) ?_
  (try simp only [Act.put, List.getElem_toArray, List.getElem_cons_succ, List.getElem_cons_zero, List.setIfInBounds_toArray, List.set_cons_zero, List.set_cons_succ])
  refine wpAnyH_take (i := 14) (v := .pointer (some ⟨G, 23, none⟩)) rfl (by kernel_rfl) (by kernel_rfl) (by kernel_rfl) (fun _ _ _ h => h) (Or.inl ⟨by rfl, fun W hW => by go_simp⟩) (by assumption) ?_
  (try simp only [Act.put, List.getElem_toArray, List.getElem_cons_succ, List.getElem_cons_zero, List.setIfInBounds_toArray, List.set_cons_zero, List.set_cons_succ])
  refine wpAnyH_take (i := 15) (v := .int .i64 ga) rfl (by kernel_rfl) (by kernel_rfl) (by kernel_rfl) (fun _ _ _ h => h) (Or.inl ⟨by rfl, fun W hW => (by obtain ⟨ca0, ca1, ca2, ca3, cc0, cc1, cc2, cc3, cc4⟩ := stamp_cells HB.out hW; go_simp)⟩) (by assumption) ?_
  (try simp only [Act.put, List.getElem_toArray, List.getElem_cons_succ, List.getElem_cons_zero, List.setIfInBounds_toArray, List.set_cons_zero, List.set_cons_succ])
  refine wpAnyH_take (i := 16) (v := .pointer (some ⟨G, 24, none⟩)) rfl (by kernel_rfl) (by kernel_rfl) (by kernel_rfl) (fun _ _ _ h => h) (Or.inl ⟨by rfl, fun W hW => by go_simp⟩) (by assumption) ?_
  (try simp only [Act.put, List.getElem_toArray, List.getElem_cons_succ, List.getElem_cons_zero, List.setIfInBounds_toArray, List.set_cons_zero, List.set_cons_succ])
  refine wpAnyH_take (i := 17) (v := .int .i64 se) rfl (by kernel_rfl) (by kernel_rfl) (by kernel_rfl) (fun _ _ _ h => h) (Or.inl ⟨by rfl, fun W hW => (by obtain ⟨ca0, ca1, ca2, ca3, cc0, cc1, cc2, cc3, cc4⟩ := stamp_cells HB.out hW; go_simp)⟩) (by assumption) ?_
  (try simp only [Act.put, List.getElem_toArray, List.getElem_cons_succ, List.getElem_cons_zero, List.setIfInBounds_toArray, List.set_cons_zero, List.set_cons_succ])
  refine wpAnyH_take (i := 20) (v := .pointer (some ⟨G, 4, none⟩)) rfl (by kernel_rfl) (by kernel_rfl) (by kernel_rfl) (fun _ _ _ h => h) (Or.inl ⟨by rfl, fun W hW => by go_simp⟩) (by assumption) ?_
  (try simp only [Act.put, List.getElem_toArray, List.getElem_cons_succ, List.getElem_cons_zero, List.setIfInBounds_toArray, List.set_cons_zero, List.set_cons_succ])
  refine wpAnyH_take (i := 21) (v := .slice (some ⟨G, 4, none⟩) 16 16) rfl (by kernel_rfl) (by kernel_rfl) (by kernel_rfl) (fun _ _ _ h => h) (Or.inl ⟨by rfl, fun W hW => by go_simp⟩) (by assumption) ?_
  (try simp only [Act.put, List.getElem_toArray, List.getElem_cons_succ, List.getElem_cons_zero, List.setIfInBounds_toArray, List.set_cons_zero, List.set_cons_succ])
  refine wpAnyH_take (i := 22) (v := .string Q) rfl (by kernel_rfl) (by kernel_rfl) (by kernel_rfl) (fun _ _ _ h => h) (Or.inl ⟨by rfl, fun W hW => exec_conv _ _ _ _ _ _ _ _ rfl rfl (CV.out _ 4 (rec_B hW))⟩) (by assumption) ?_
  (try simp only [Act.put, List.getElem_toArray, List.getElem_cons_succ, List.getElem_cons_zero, List.setIfInBounds_toArray, List.set_cons_zero, List.set_cons_succ])
  refine wpAnyH_take (i := 23) (v := .pointer (some ⟨G, 20, none⟩)) rfl (by kernel_rfl) (by kernel_rfl) (by kernel_rfl) (fun _ _ _ h => h) (Or.inl ⟨by rfl, fun W hW => by go_simp⟩) (by assumption) ?_
  (try simp only [Act.put, List.getElem_toArray, List.getElem_cons_succ, List.getElem_cons_zero, List.setIfInBounds_toArray, List.set_cons_zero, List.set_cons_succ])
  refine wpAnyH_take (i := 24) (v := .string tg) rfl (by kernel_rfl) (by kernel_rfl) (by kernel_rfl) (fun _ _ _ h => h) (Or.inl ⟨by rfl, fun W hW => (by obtain ⟨ca0, ca1, ca2, ca3, cc0, cc1, cc2, cc3, cc4⟩ := stamp_cells HB.out hW; go_simp)⟩) (by assumption) ?_
  (try simp only [Act.put, List.getElem_toArray, List.getElem_cons_succ, List.getElem_cons_zero, List.setIfInBounds_toArray, List.set_cons_zero, List.set_cons_succ])
  refine wpAnyH_ready (rs := [18]) (by kernel_rfl) (by simp) (AllReadyH.cons rfl (fun K hK => ?_) AllReadyH.nil)
  go_simp
  obtain ⟨g1, hg1⟩ : ∃ G, w1.heap.size = G := ⟨_, rfl⟩
  have Kg1 := Lib.hid (show Blk (w1.alloc (.cells #[.int .i64 st, .int .i64 sz, .int .i64 lo, .int .i64 hi, .int .i64 ga, .int .i64 se] 3)) g1 3 #[.int .i64 st, .int .i64 sz, .int .i64 lo, .int .i64 hi, .int .i64 ga, .int .i64 se] from Blk.new' w1 _ _ _ hg1 rfl)
  have hb := (Below.refl _ w1).alloc (Nat.le_refl _) (.cells #[.int .i64 st, .int .i64 sz, .int .i64 lo, .int .i64 hi, .int .i64 ga, .int .i64 se] 3)
  replace B0 := Lib.hid (B0.out.trans (hb.mono B0.out.size))
  rw [hg1]
  refine hK _ _ (hHeld.below hb hHeld.lt) (fun held2 => ?_)
  clear hK K hHeld
  (try simp only [Act.put, List.getElem_toArray, List.getElem_cons_succ, List.getElem_cons_zero, List.setIfInBounds_toArray, List.set_cons_zero, List.set_cons_succ])
  clear hb
  generalize hw2 : w1.alloc (.cells #[.int .i64 st, .int .i64 sz, .int .i64 lo, .int .i64 hi, .int .i64 ga, .int .i64 se] 3) = w2 at Kg1 B0 held2 ⊢
  clear hw2 hg1
  refine wpAnyH_ready (rs := [19]) (by kernel_rfl) (by simp) (AllReadyH.cons rfl (fun K hK => ?_) AllReadyH.nil)
  go_simp
  refine (NU.out g1 _ Kg1.out).mono ?_
  rintro e9 w4 ⟨rfl, hb⟩
  replace B0 := Lib.hid (B0.out.trans (hb.mono B0.out.size))
  go_wp2_with fail
  refine hK _ _ (held2.below hb held2.lt) (fun held4 => ?_)
  clear hK K held2
  (try simp only [Act.put, List.getElem_toArray, List.getElem_cons_succ, List.getElem_cons_zero, List.setIfInBounds_toArray, List.set_cons_zero, List.set_cons_succ])
  clear hb Kg1
  refine wpAnyH_ready (rs := [25]) (by kernel_rfl) (by simp) (AllReadyH.cons rfl (fun K hK => ?_) AllReadyH.nil)
  go_simp
  obtain ⟨g2, hg2⟩ : ∃ G, w4.heap.size = G := ⟨_, rfl⟩
  have Kg2 := Lib.hid (show Blk (w4.alloc (.cells #[.string ad, .string va, .string P, .string Q, .string tg] 9)) g2 9 #[.string ad, .string va, .string P, .string Q, .string tg] from Blk.new' w4 _ _ _ hg2 rfl)
  have hb := (Below.refl _ w4).alloc (Nat.le_refl _) (.cells #[.string ad, .string va, .string P, .string Q, .string tg] 9)
  replace B0 := Lib.hid (B0.out.trans (hb.mono B0.out.size))
  rw [hg2]
  refine hK _ _ (held4.below hb held4.lt) (fun held6 => ?_)
  clear hK K held4
  (try simp only [Act.put, List.getElem_toArray, List.getElem_cons_succ, List.getElem_cons_zero, List.setIfInBounds_toArray, List.set_cons_zero, List.set_cons_succ])
  clear hb
  generalize hw2 : w4.alloc (.cells #[.string ad, .string va, .string P, .string Q, .string tg] 9) = w6 at Kg2 B0 held6 ⊢
  clear hw2 hg2
  refine wpAnyH_ready (rs := [26]) (by kernel_rfl) (by simp) (AllReadyH.cons rfl (fun K hK => ?_) AllReadyH.nil)
  go_simp
  refine (LI.out _ _).mono ?_
  rintro e9 w9 ⟨rfl, rfl⟩
  go_wp2_with fail
  refine hK _ _ held6 (fun held7 => ?_)
  clear hK K held6
  (try simp only [Act.put, List.getElem_toArray, List.getElem_cons_succ, List.getElem_cons_zero, List.setIfInBounds_toArray, List.set_cons_zero, List.set_cons_succ])
  refine wpAnyH_take (i := 27) (v := .slice (some ⟨g2, 0, none⟩) 5 5) rfl (by kernel_rfl) (by kernel_rfl) (by kernel_rfl) (fun _ _ _ h => h) (Or.inl ⟨by rfl, fun W hW => by go_simp⟩) (by assumption) ?_
  (try simp only [Act.put, List.getElem_toArray, List.getElem_cons_succ, List.getElem_cons_zero, List.setIfInBounds_toArray, List.set_cons_zero, List.set_cons_succ])
  refine wpAnyH_done (by kernel_rfl) ?_ _
  go_wp2
  go_ret
  exact ⟨⟨_, _, rfl, strs_blk (l := [ad, va, P, Q, tg]) Kg2.out⟩, B0.out⟩
end Go.Proofs.YtcdcnklfcmoiiaaDoor
