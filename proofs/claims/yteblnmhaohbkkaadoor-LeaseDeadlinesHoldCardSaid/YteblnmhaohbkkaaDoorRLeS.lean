import Derived.Test.YteblnmhaohbkkaaDoorRLeG
import Derived.Test.YteblnmhaohbkkaaDoorRLeD
import Derived.Test.YteblnmhaohbkkaaDoorRLMs
namespace Go.Proofs.YteblnmhaohbkkaaDoor
set_option linter.unusedVariables false
set_option linter.unusedSimpArgs false
set_option linter.unusedSectionVars false
namespace Le
open Go.RowKit Go.Sort
theorem key_any (w : World) : Calls Tryd.prog 31 #[] w fun e w' => e = .returned (.agg #[.int .i64 1, .int .i64 1, .string ⟨#[115]⟩, .int .i64 0, .int .i64 1099511627776]) ∧ Below w.heap.size w w' := by
  go_enter Tryd.func31, Tryd.ntmps31
  go_wp2
  refine bodyPost_ret (by simp [results, Tryd.results31, go_sem]; try rfl) rfl ?_
  exact ⟨rfl, by (repeat' (first | (with_reducible exact Below.refl _ _) | (with_reducible assumption) | (with_reducible refine Below.alloc ?_ ?_ _) | (with_reducible refine Below.drew ?_) | (with_reducible refine below_dn ?_) | (with_reducible refine Below.setCell ?_ ?_ _) | (with_reducible exact Nat.le_refl _) | omega | (simp only [World.size_alloc, World.size_setCell, World.size_drew]; omega) | (simp; omega) | (simp; done)))⟩
set_option maxRecDepth 100000 in
set_option maxHeartbeats 2000000 in
theorem sites_any (a b : Option Addr) (c c2 : Nat) (l : List Int) (w : World) (hp : IntsA w a l) (hq : IntsA w b l) (hm : l.length ≤ 1000000) :
    Calls Tryd.prog 23 #[.slice a l.length c, .slice b l.length c2] w fun e w' => e = .returned (.bool true) ∧ Below w.heap.size w w' := by
  have HP := Lib.hid hp
  have HQ := Lib.hid hq
  obtain ⟨N, hN⟩ : ∃ N, l.length = N := ⟨_, rfl⟩
  have HE := Lib.hid hN
  rw [hN] at hm ⊢
  clear hp hq hN
  go_enter Tryd.func23, Tryd.ntmps23
  go_wp2
  go_loopw [5] (fun u5 wr => ∃ k : Nat, k ≤ N ∧ u5 = .int .i64 k ∧ Hid (Below w.heap.size w wr)) (fun u5 _ => (N - intOf u5).toNat)
  case atStart => exact ⟨0, by omega, rfl, Lib.hid (Below.refl _ _)⟩
  case round =>
    obtain ⟨k, hk, rfl, hsw⟩ := hrel
    by_cases hlt : k < N
    · have t0 : decide ((k : Int) < (N : Int)) = true := decide_eq_true (by omega)
      have wk : IntKind.i64.wrap ((k : Int) + 1) = (k : Int) + 1 := by rw [IntKind.wrap_i64]; omega
      obtain ⟨b1, f1, rfl, q0⟩ := (HP.out.mono hsw.out) k (by rw [HE.out]; exact hlt)
      obtain ⟨b2, f2, rfl, s0⟩ := (HQ.out.mono hsw.out) k (by rw [HE.out]; exact hlt)
      obtain ⟨x, hx⟩ : ∃ y, l.getD k 0 = y := ⟨_, rfl⟩
      rw [hx] at q0 s0
      clear hx
      have k0 : (0 : Int) ≤ (k : Int) := by omega
      have kN : (k : Int) < (N : Int) := by omega
      go_wp2
      try go_region
      all_goals try go_wp2
      all_goals go_roundw
      all_goals first | exact ⟨k + 1, by omega, by go_num, Lib.hid (hsw.out.drew)⟩ | exact ⟨k + 1, by omega, by go_num, hsw⟩ | (simp [intOf]; omega)
    · obtain rfl : k = N := by omega
      go_wp2
      refine bodyPost_ret (by simp [results, Tryd.results23, go_sem]; try rfl) rfl ?_
      exact ⟨rfl, hsw.out⟩
theorem wpList_load_want {P : Program} {a : Act} {w : World} {op : Oper} {Q : Exit → Act → World → Prop} {ops : Array Oper} {rest : List Oper} (hw : Region.wanted op (yielded ops a.tmps) = true) (ty : TypeId) (x : Operand) (ho : op.op = .load ty x) (g : Nat) (hx : a.eval x = .pointer (some ⟨g, 0, none⟩)) (t : TypeId) (cs : Array Value) (d : TypeDesc)
    (hg : Blk w g t cs) (hu : P.underlying ty = some d) (hd : (match d with | .struct _ | .array _ _ => true | _ => false) = true) (hi : (P.info? ty).map (·.size) = some cs.size) (h : wpList P ops Q rest (a.put op.dst (.agg cs)) w) : wpList P ops Q (op :: rest) a w :=
  BigFrame.wpList_want hw fun _ hK => wp_load_row ty x ho g hx t cs d hg hu hd hi (hK _ _ h)
theorem rows_lt {W : World} {a : Option Addr} {l : List Gr} (h : GrA W a l) (hl : 0 < l.length) : ∀ p, a = some p → p.block < W.heap.size := by
  intro p hp
  obtain ⟨b, off, e, h1⟩ := at_ h hl
  rw [hp] at e
  injection e with e
  subst e
  exact block_lt_of_cell h1.1
theorem IntsA.far {W : World} {a : Option Addr} {l : List Int} (h : IntsA W a l) {p : Addr} (hg : ∀ q, a = some q → q.block ≠ p.block) (u : Value) : IntsA (W.setCell p u) a l := fun k hk => by
  obtain ⟨b, off, e, h1⟩ := h k hk
  refine ⟨b, off, e, ?_⟩
  rw [World.cell?_setCell_other]
  · exact h1
  · exact fun q => hg _ e (by rw [q])
theorem IntsA.rowfar {W : World} {a : Option Addr} {l : List Int} {g : Nat} (h : IntsA W a l) (hg : ∀ q, a = some q → q.block ≠ g) (cs : Array Value) : IntsA (W.setRow g cs) a l := fun k hk => by
  obtain ⟨b, off, e, h1⟩ := h k hk
  refine ⟨b, off, e, ?_⟩
  rw [← h1]
  show World.cell? _ _ = _
  have hb : b ≠ g := hg _ e
  unfold World.cell?
  rw [setRow_other W g b cs hb]
/-! What the sanity calls. -/
def kS : ByteArray := ⟨#[115]⟩
def k0 : Rw := (1, 1, kS, 0, 1099511627776)
def s1 : List Gr := [(1, 0, 1100)]
def s2 : List Gr := [(1, 0, 1100), (2, 0, 600)]
def s3 : List Gr := [(1, 1, 1100), (2, 0, 600)]
abbrev keyV : Value := .agg #[.int .i64 1, .int .i64 1, .string kS, .int .i64 0, .int .i64 1099511627776]
theorem k0_ok : keyB (1, 1, kS, 0, 1099511627776) = true := by decide +kernel
theorem ring_of {W : World} {g : Nat} {t : TypeId} (h : Blk W g t #[.int .i64 1, .int .i64 1, .string kS, .int .i64 0, .int .i64 1099511627776]) : RwA W (some ⟨g, 0, none⟩) [k0] := fun k x hk => by
  cases k with
  | zero =>
    have e : x = k0 := by simpa using hk.symm
    subst e
    obtain ⟨c0, c1, c2, c3, c4⟩ := five h
    refine ⟨g, 0, rfl, fun j v hv => ?_⟩
    rcases j with _ | _ | _ | _ | _ | j
    · cases hv; exact c0
    · cases hv; exact c1
    · cases hv; exact c2
    · cases hv; exact c3
    · cases hv; exact c4
    · cases hv
  | succ k => simp at hk
theorem ring0_ok : RingOk [k0] := by decide +kernel
theorem sn_key (w : World) : Calls Tryd.prog 31 #[] w fun e w' => e = .returned keyV ∧ Below w.heap.size w w' := key_any w
theorem sn_new (w : World) : Calls Tryd.prog 8 #[.int .i64 1000] w fun e w' => e = .returned (.tuple #[.agg #[.int .i64 0, .int .i64 1000, .slice none 0 0], .int .i64 0]) ∧ Below w.heap.size w w' := new_ok 1000 w (by decide)
theorem sn_g1 (w : World) (hla : Hs.LaidC w) : Calls Tryd.prog 11 #[.agg #[.int .i64 0, .int .i64 1000, .slice none 0 0], keyV, .int .i64 1, per 100 110, .int .i64 1000] w fun e w' => (∃ a c, e = .returned (.tuple #[.agg #[.int .i64 0, .int .i64 1000, .slice a s1.length c], .agg (leaseC 1 0 1100 1 (sealD 1 kS 1 0 1100)), .int .i64 0]) ∧ GrA w' a s1 ∧ ∀ p, a = some p → w.heap.size ≤ p.block) ∧ Below w.heap.size w w' := by
  have h := grant_ok 0 1000 none 0 [] 1 kS 0 1099511627776 1 100 110 1000 w (RowsA.nil _ _ _ _) (by decide) (by decide +kernel) (by decide) (by decide) (by decide) k0_ok (by decide +kernel) (by decide) hla
  rw [show withL (grantR 1 (100 + 1000) []) [] = s1 by decide +kernel] at h
  exact h
theorem sn_g2 (a : Option Addr) (c : Nat) (w : World) (hp : GrA w a s1) (hla : Hs.LaidC w) : Calls Tryd.prog 11 #[.agg #[.int .i64 0, .int .i64 1000, .slice a s1.length c], keyV, .int .i64 2, per 100 110, .int .i64 500] w fun e w' => (∃ a c, e = .returned (.tuple #[.agg #[.int .i64 0, .int .i64 1000, .slice a s2.length c], .agg (leaseC 2 0 600 1 (sealD 1 kS 2 0 600)), .int .i64 0]) ∧ GrA w' a s2 ∧ ∀ p, a = some p → w.heap.size ≤ p.block) ∧ Below w.heap.size w w' := by
  have h := grant_ok 0 1000 a c s1 1 kS 0 1099511627776 2 100 110 500 w hp (by decide) (by decide +kernel) (by decide) (by decide) (by decide) k0_ok (by decide +kernel) (by decide) hla
  rw [show withL (grantR 2 (100 + 500) s1) s1 = s2 by decide +kernel] at h
  exact h
theorem sn_is (a : Option Addr) (c : Nat) (w : World) (hp : GrA w a s2) : Calls Tryd.prog 9 #[.agg #[.int .i64 0, .int .i64 1000, .slice a s2.length c]] w fun e w' => (∃ a c, e = .returned (.tuple #[.agg #[.int .i64 1, .int .i64 1000, .slice a s2.length c], .int .i64 0]) ∧ GrA w' a s2 ∧ ∀ p, a = some p → w.heap.size ≤ p.block) ∧ Below w.heap.size w w' :=
  issue_ok 0 1000 a c s2 w hp (by decide) (by decide +kernel) (by decide)
theorem sn_d1 (a : Option Addr) (c : Nat) (w : World) (hp : GrA w a s2) : Calls Tryd.prog 12 #[.agg #[.int .i64 1, .int .i64 1000, .slice a s2.length c], .int .i64 1] w fun e w' => e = .returned (.tuple #[.int .i64 1100, .int .i64 0]) ∧ Below w.heap.size w w' :=
  deadline_ok 1 1000 a c s2 1 w hp (by decide) (by decide +kernel) (by decide)
theorem sn_wt (a : Option Addr) (c : Nat) (w : World) (hp : GrA w a s2) : Calls Tryd.prog 13 #[.agg #[.int .i64 1, .int .i64 1000, .slice a s2.length c], .int .i64 1, per 700 710] w fun e w' => (∃ a c, e = .returned (.tuple #[.slice a ([1] : List Int).length c, .int .i64 0]) ∧ IntsA w' a [1] ∧ ∀ p, a = some p → w.heap.size ≤ p.block) ∧ Below w.heap.size w w' := by
  have h := waiting_ok 1 1000 a c s2 1 700 710 w hp (by decide) (by decide +kernel) (by decide) (by decide)
  rw [show waitK s2 1 700 s2.length = [1] by decide +kernel] at h
  exact h
theorem sn_cf (a : Option Addr) (c : Nat) (w : World) (hp : GrA w a s2) : Calls Tryd.prog 10 #[.agg #[.int .i64 1, .int .i64 1000, .slice a s2.length c], .int .i64 1, .int .i64 1] w fun e w' => (∃ a c, e = .returned (.tuple #[.agg #[.int .i64 1, .int .i64 1000, .slice a s3.length c], .int .i64 0]) ∧ GrA w' a s3 ∧ ∀ p, a = some p → w.heap.size ≤ p.block) ∧ Below w.heap.size w w' := by
  have h := confirm_ok 1 1000 a c s2 1 1 w hp (by decide) (by decide +kernel) (by decide) (by decide)
  rw [show withL (confR 1 1 s2) s2 = s3 by decide +kernel] at h
  exact h
theorem sn_d2 (a : Option Addr) (c : Nat) (w : World) (hp : GrA w a s3) : Calls Tryd.prog 12 #[.agg #[.int .i64 1, .int .i64 1000, .slice a s3.length c], .int .i64 1] w fun e w' => e = .returned (.tuple #[.int .i64 600, .int .i64 0]) ∧ Below w.heap.size w w' :=
  deadline_ok 1 1000 a c s3 1 w hp (by decide) (by decide +kernel) (by decide)
theorem sn_g3 (a : Option Addr) (c : Nat) (w : World) (hp : GrA w a s3) : Calls Tryd.prog 11 #[.agg #[.int .i64 1, .int .i64 1000, .slice a s3.length c], keyV, .int .i64 2, per 100 110, .int .i64 500] w fun e w' => e = .returned (.tuple #[.agg #[.int .i64 0, .int .i64 0, .slice none 0 0], .agg leaseZ, .int .i64 4]) ∧ Below w.heap.size w w' :=
  grant_state 1 1000 a c s3 1 kS 0 1099511627776 2 100 110 500 w hp (by decide) (by decide +kernel) (by decide) (by decide) (by decide) k0_ok (by decide +kernel)
theorem chk_own (n la u : Int) (hu : 1 ≤ u ∧ u ≤ 1099511627776) : chkE [k0] 1 1 43 [leaseP n la u 1] (sealD 1 kS n la u) (u - 1) (u - 1) = 0 := by
  have e : findL [k0] 1 1 = k0 := by decide +kernel
  unfold chkE
  rw [if_pos (by decide +kernel), e]
  rw [if_pos (by unfold countsB; refine decide_eq_true ?_; unfold countsP k0; simp only; omega)]
  exact if_pos (show mkS 43 kS [leaseP n la u 1] = mkS 43 kS [leaseP n la u 1] from rfl)
theorem sn_tk (a : Option Addr) (c : Nat) (w : World) (hp : RwA w a [k0]) (hla : Hs.LaidC w) : Calls Tryd.prog 32 #[.slice a ([k0] : List Rw).length c, .agg (heldC 2 0 0 0 0 0 (List.replicate 16 0)), .agg (leaseC 2 0 600 1 (sealD 1 kS 2 0 600))] w fun e w' => e = .returned (.tuple #[.agg (heldC 2 0 2 0 600 1 (sealD 1 kS 2 0 600)), .int .i64 0]) ∧ Below w.heap.size w w' :=
  take_new a c [k0] 2 0 0 0 0 0 0 600 1 (List.replicate 16 0) (sealD 1 kS 2 0 600) w hp ring0_ok rfl (sealD_len _ _ _ _ _) (by decide) (by unfold i64Ok; omega) hla (chk_own 2 0 600 (by omega)) (by decide) (by decide)
theorem sn_s1 (w : World) : Calls Tryd.prog 29 #[.agg (heldC 2 0 2 0 600 1 (sealD 1 kS 2 0 600)), per 590 599] w fun e w' => e = .returned (.bool true) ∧ Below w.heap.size w w' := by
  have h := serve_any 2 0 2 0 600 1 590 599 (sealD 1 kS 2 0 600) w (sealD_len _ _ _ _ _)
  rw [show serveB 2 0 600 590 599 = true by decide +kernel] at h
  exact h
theorem sn_s2 (w : World) : Calls Tryd.prog 29 #[.agg (heldC 2 0 2 0 600 1 (sealD 1 kS 2 0 600)), per 595 600] w fun e w' => e = .returned (.bool false) ∧ Below w.heap.size w w' := by
  have h := serve_any 2 0 2 0 600 1 595 600 (sealD 1 kS 2 0 600) w (sealD_len _ _ _ _ _)
  rw [show serveB 2 0 600 595 600 = false by decide +kernel] at h
  exact h
end Le
end Go.Proofs.YteblnmhaohbkkaaDoor
