/- Hear, Take and Worth of program and specification side by side; what they hand back equals itself. -/
import Derived.Test.YteblnmhaohbkkaaGreatDoorQHdA
import Derived.Test.YteblnmhaohbkkaaGreatDoorQG1
namespace Go.Proofs.YteblnmhaohbkkaaGreatDoor
set_option linter.unusedVariables false
set_option linter.unusedSimpArgs false
namespace Le
open Go.RowKit Go.Sort
/-- One and the same answer. -/
def BothH (fp fr : Nat) (args : Array Value) (L L2 : World → Prop) : Prop :=
  ∃ (st he ls le lu lr e : Int) (D : List Nat), D.length = 16 ∧
    (∀ X : World, L X → Calls Tryz.prog fp args X fun r X' => r = .returned (.tuple #[.agg (heldC st he ls le lu lr D), .int .i64 e]) ∧ Below X.heap.size X X') ∧
    (∀ X : World, L2 X → Calls Tryz.prog fr args X fun r X' => r = .returned (.agg (keptC st he ls le lu lr D e)) ∧ Below X.heap.size X X')
theorem both_hear (st he ls le lu lr ep : Int) (D : List Nat) (hD : D.length = 16) : BothH 6 9 #[.agg (heldC st he ls le lu lr D), .int .i64 ep] (fun _ => True) (fun _ => True) := by
  by_cases h1 : HeldOk st he lu
  rotate_left
  · exact ⟨_, _, _, _, _, _, 1, D, hD, fun X _ => hear_n1 st he ls le lu lr ep D X hD h1, fun X _ => rhear_n1 st he ls le lu lr ep D X hD h1⟩
  by_cases h2 : ep < 0
  · exact ⟨_, _, _, _, _, _, 1, D, hD, fun X _ => hear_n2 st he ls le lu lr ep D X hD h1 (by omega), fun X _ => rhear_n2 st he ls le lu lr ep D X hD h1 h2⟩
  by_cases h3 : 1099511627776 < ep
  · exact ⟨_, _, _, _, _, _, 1, D, hD, fun X _ => hear_n2 st he ls le lu lr ep D X hD h1 (by omega), fun X _ => rhear_n3 st he ls le lu lr ep D X hD h1 h2 h3⟩
  · exact ⟨_, _, _, _, _, _, 0, D, hD, fun X _ => hear_ok st he ls le lu lr ep D X hD h1 (by omega), fun X _ => rhear_ok st he ls le lu lr ep D X hD h1 (by omega)⟩
theorem both_check (a : Option Addr) (c : Nat) (l : List Rw) (ok : RingOk l) (s3 e3 u3 r3 : Int) (S3 : List Nat) (hS3 : S3.length = 16) (hs3 : i64Ok s3) (he3 : i64Ok e3) (hu3 : i64Ok u3) (hr3 : i64Ok r3) :
    ∃ E3 : Int, (∀ X : World, RwA X a l → Hs.LaidC X → Calls Tryz.prog 26 #[.slice a l.length c, .agg (leaseC s3 e3 u3 r3 S3)] X fun e w' => e = .returned (.int .i64 E3) ∧ Below X.heap.size X w') ∧ (∀ X : World, RwA X a l → Hs.LaidK X → Calls Tryz.prog 30 #[.slice a l.length c, .agg (leaseC s3 e3 u3 r3 S3)] X fun e w' => e = .returned (.int .i64 E3) ∧ Below X.heap.size X w') := by
  by_cases hsite : 0 ≤ s3 ∧ s3 < 64
  · by_cases hu : u3 < 1
    · refine ⟨_, fun X h hl => ?_, fun X h hl => rcheckLease_lo a c l s3 e3 u3 r3 S3 X h ok hS3 hsite hs3 he3 hu3 hr3 hl hu⟩
      rw [← chk_out ok r3 43 [leaseP s3 e3 u3 r3] S3 (IntKind.i64.wrap (u3 - 1)) (by rw [IntKind.wrap_i64]; unfold i64Ok at hu3; omega)]
      exact checkLeaseU_any a c l s3 e3 u3 r3 S3 X h ok hS3 hsite hs3 he3 hu3 _ rfl hr3 hl
    · by_cases hv : 1099511627776 < u3
      · refine ⟨_, fun X h hl => ?_, fun X h hl => rcheckLease_hi a c l s3 e3 u3 r3 S3 X h ok hS3 hsite hs3 he3 hu3 hr3 hl hu hv⟩
        rw [← chk_out ok r3 43 [leaseP s3 e3 u3 r3] S3 (IntKind.i64.wrap (u3 - 1)) (by rw [IntKind.wrap_i64]; unfold i64Ok at hu3; omega)]
        exact checkLeaseU_any a c l s3 e3 u3 r3 S3 X h ok hS3 hsite hs3 he3 hu3 _ rfl hr3 hl
      · exact ⟨_, fun X h hl => checkLeaseU_any a c l s3 e3 u3 r3 S3 X h ok hS3 hsite hs3 he3 hu3 (u3 - 1) (by rw [IntKind.wrap_i64]; omega) hr3 hl, fun X h hl => rcheckLease_in a c l s3 e3 u3 r3 S3 X h ok hS3 hsite hs3 he3 hu3 hr3 hl hu hv⟩
  · exact ⟨1, fun X h hl => checkLease_bad a c l s3 e3 u3 r3 S3 X hsite, fun X h hl => rcheckLease_bad a c l s3 e3 u3 r3 S3 X hsite⟩
theorem both_take (a : Option Addr) (c : Nat) (rg : List Rw) (ok : RingOk rg) (st he ls le lu lr xs ep un sr : Int) (D V : List Nat) (hD : D.length = 16) (hV : V.length = 16) (o1 : i64Ok xs) (o2 : i64Ok ep) (o3 : i64Ok un) (o4 : i64Ok sr) :
    BothH 7 10 #[.slice a rg.length c, .agg (heldC st he ls le lu lr D), .agg (leaseC xs ep un sr V)] (fun X => RwA X a rg ∧ Hs.LaidC X) (fun X => RwA X a rg ∧ Hs.LaidK X) := by
  obtain ⟨E, C1, C2⟩ := both_check a c rg ok xs ep un sr V hV o1 o2 o3 o4
  by_cases h1 : HeldOk st he lu
  rotate_left
  · exact ⟨_, _, _, _, _, _, 1, D, hD, fun X h => take2_h a c rg st he ls le lu lr xs ep un sr E D V X h.1 hD hV _ (fun Y hb => h.2.mono hb) C1 h1, fun X h => rtake2_h a c rg st he ls le lu lr xs ep un sr E D V X h.1 hD hV _ (fun Y hb => h.2.mono hb) C2 h1⟩
  by_cases h2 : xs = st
  rotate_left
  · exact ⟨_, _, _, _, _, _, 1, D, hD, fun X h => take2_s a c rg st he ls le lu lr xs ep un sr E D V X h.1 hD hV _ (fun Y hb => h.2.mono hb) C1 h1 h2, fun X h => rtake2_s a c rg st he ls le lu lr xs ep un sr E D V X h.1 hD hV _ (fun Y hb => h.2.mono hb) C2 h1 h2⟩
  by_cases h3 : E = 0
  rotate_left
  · exact ⟨_, _, _, _, _, _, E, D, hD, fun X h => take2_e a c rg st he ls le lu lr xs ep un sr E D V X h.1 hD hV _ (fun Y hb => h.2.mono hb) C1 h1 h2 h3, fun X h => rtake2_e a c rg st he ls le lu lr xs ep un sr E D V X h.1 hD hV _ (fun Y hb => h.2.mono hb) C2 h1 h2 h3⟩
  by_cases h4 : he < ep
  · exact ⟨_, _, _, _, _, _, 4, D, hD, fun X h => take2_st a c rg st he ls le lu lr xs ep un sr E D V X h.1 hD hV _ (fun Y hb => h.2.mono hb) C1 h1 h2 h3 h4, fun X h => rtake2_st a c rg st he ls le lu lr xs ep un sr E D V X h.1 hD hV _ (fun Y hb => h.2.mono hb) C2 h1 h2 h3 h4⟩
  by_cases h5 : lu < un
  · exact ⟨_, _, _, _, _, _, 0, V, hV, fun X h => take2_new a c rg st he ls le lu lr xs ep un sr E D V X h.1 hD hV _ (fun Y hb => h.2.mono hb) C1 h1 h2 h3 h4 h5, fun X h => rtake2_new a c rg st he ls le lu lr xs ep un sr E D V X h.1 hD hV _ (fun Y hb => h.2.mono hb) C2 h1 h2 h3 h4 h5⟩
  · exact ⟨_, _, _, _, _, _, 0, D, hD, fun X h => take2_keep a c rg st he ls le lu lr xs ep un sr E D V X h.1 hD hV _ (fun Y hb => h.2.mono hb) C1 h1 h2 h3 h4 h5, fun X h => rtake2_keep a c rg st he ls le lu lr xs ep un sr E D V X h.1 hD hV _ (fun Y hb => h.2.mono hb) C2 h1 h2 h3 h4 h5⟩
theorem both_worth (st he ls le lu lr : Int) (D : List Nat) (cl clo chi cd x : Int) (hD : D.length = 16) : ∃ n e : Int,
    (∀ X : World, Calls Tryz.prog 8 #[.agg (heldC st he ls le lu lr D), clk cl clo chi cd, .int .i64 x] X fun r X' => r = .returned (.tuple #[.int .i64 n, .int .i64 e]) ∧ Below X.heap.size X X') ∧
    (∀ X : World, Calls Tryz.prog 11 #[.agg (heldC st he ls le lu lr D), clk cl clo chi cd, .int .i64 x] X fun r X' => r = .returned (.agg #[.int .i64 n, .int .i64 e]) ∧ Below X.heap.size X X') := by
  by_cases h1 : HeldOk st he lu
  rotate_left
  · exact ⟨0, 1, fun X => worth_n1 st he ls le lu lr D cl clo chi cd x X hD h1, fun X => rworth_1 st he ls le lu lr D cl clo chi cd x X hD h1⟩
  by_cases h2 : OkClk cl clo chi cd
  rotate_left
  · exact ⟨0, 1, fun X => worth_n2 st he ls le lu lr D cl clo chi cd x X hD h1 (decide_eq_false h2), fun X => rworth_2 st he ls le lu lr D cl clo chi cd x X hD h1 (decide_eq_false h2)⟩
  by_cases h3 : x < cl
  · exact ⟨0, 1, fun X => worth_n3 st he ls le lu lr D cl clo chi cd x X hD h1 h2 (by omega), fun X => rworth_3 st he ls le lu lr D cl clo chi cd x X hD h1 h2 h3⟩
  by_cases h4 : 2199023255552 < x
  · exact ⟨0, 1, fun X => worth_n3 st he ls le lu lr D cl clo chi cd x X hD h1 h2 (by omega), fun X => rworth_4 st he ls le lu lr D cl clo chi cd x X hD h1 h2 h3 h4⟩
  have h5 : cl ≤ x ∧ x ≤ 2199023255552 := by omega
  by_cases h6 : lu = 0
  · refine ⟨0, 0, fun X => ?_, fun X => rworth_5 st he ls le lu lr D cl clo chi cd x X hD h1 h2 h5 h6⟩
    have h := worth_ok st he ls le lu lr D cl clo chi cd x X hD h1 h2 h5
    have e : max 0 (untilF cl chi cd lu + 1 - x) = 0 := by
      obtain ⟨u, hu⟩ := until_has cl chi cd lu h2.2.2.2.2.2.2 h2.2.1
      have q := untilF_is hu
      have h0 := h2.1
      have hr : ∀ n, 0 ≤ n → 0 ≤ rdHi chi cd n := fun n hn => by
        have := Int.ediv_nonneg (a := (n + 1) * 1000000) (b := 1000000 - cd) (by omega) (by have := h2.2.2.2.2.2.2; omega)
        have := h2.2.2.1
        have := h2.2.2.2.1
        unfold rdHi
        omega
      rcases q with ⟨q1, -⟩ | ⟨q1, q2, q3, -⟩
      · rw [q1]; omega
      · have := hr (untilF cl chi cd lu - cl) (by omega)
        omega
    rw [e] at h
    exact h
  · exact ⟨_, 0, fun X => worth_ok st he ls le lu lr D cl clo chi cd x X hD h1 h2 h5, fun X => rworth_0 st he ls le lu lr D cl clo chi cd x X hD h1 h2 h5 h6⟩
/-! What is known equals itself. -/
theorem lease_selfD (d : Nat) (s e u r : Int) (D : List Nat) (W : World) (hD : D.length = 16) : (Op.equalIn (d + 3) 26 (.agg (leaseC s e u r D)) (.agg (leaseC s e u r D))).run Tryz.prog W = .ok true W := by
  show (Op.equalIn (d + 2 + 1) 26 (.agg (leaseC s e u r D)) (.agg (leaseC s e u r D))).run Tryz.prog W = _
  rw [run_equalIn_agg W (d + 2) 26 _ _ (by kernel_rfl) (by kernel_rfl)]
  refine eqFields_self _ _ W _ fun f hf => ?_
  simp only [Program.fieldsOf, Tryz.underlying26] at hf
  simp only [List.mem_cons, List.not_mem_nil, or_false] at hf
  obtain ⟨h0, h1, h2, h3⟩ := lease_at s e u r D
  have h4 : (leaseC s e u r D).extract 4 (4 + 16) = Hs.bvs D := by
    have := extract_of [.int .i64 s, .int .i64 e, .int .i64 u, .int .i64 r] (D.map Hs.bv) [] 4 16 rfl (by simp [hD])
    rw [List.append_nil] at this
    exact this
  rcases hf with rfl | rfl | rfl | rfl | rfl
  · exact ⟨_, part_one (agg3 W) h0, eqI (d + 1) _ _⟩
  · exact ⟨_, part_one (agg3 W) h1, eqI (d + 1) _ _⟩
  · exact ⟨_, part_one (agg3 W) h2, eqI (d + 1) _ _⟩
  · exact ⟨_, part_one (agg3 W) h3, eqI (d + 1) _ _⟩
  · exact ⟨_, part_many (aggS W) (sizeS W) h4, by rw [show d + 2 = d + 1 + 1 from rfl, equalIn_16g Tryz.underlying24 d D D hD hD W, decide_eq_true rfl]⟩
theorem aggL (W : World) : (isAgg 26).run Tryz.prog W = .ok true W := by kernel_rfl
theorem sizeL (W : World) : (sizeOf 26).run Tryz.prog W = .ok 20 W := by kernel_rfl
theorem held_self (st he ls le lu lr : Int) (D : List Nat) (W : World) (hD : D.length = 16) : (Op.equalIn 10000 28 (.agg (heldC st he ls le lu lr D)) (.agg (heldC st he ls le lu lr D))).run Tryz.prog W = .ok true W := by
  show (Op.equalIn (9999 + 1) 28 (.agg (heldC st he ls le lu lr D)) (.agg (heldC st he ls le lu lr D))).run Tryz.prog W = _
  rw [run_equalIn_agg W 9999 28 _ _ (by kernel_rfl) (by kernel_rfl)]
  refine eqFields_self _ _ W _ fun f hf => ?_
  simp only [Program.fieldsOf, Tryz.underlying28] at hf
  simp only [List.mem_cons, List.not_mem_nil, or_false] at hf
  have h0 : (heldC st he ls le lu lr D)[0]? = some (.int .i64 st) := by unfold heldC heldL; simp
  have h1 : (heldC st he ls le lu lr D)[1]? = some (.int .i64 he) := by unfold heldC heldL; simp
  have h2 : (heldC st he ls le lu lr D).extract 2 (2 + 20) = leaseC ls le lu lr D := by
    have := extract_of [.int .i64 st, .int .i64 he] (leaseL ls le lu lr D) [] 2 20 rfl (by unfold leaseL; simp [hD])
    rw [List.append_nil] at this
    exact this
  rcases hf with rfl | rfl | rfl
  · exact ⟨_, part_one (agg3 W) h0, eqI 9998 _ _⟩
  · exact ⟨_, part_one (agg3 W) h1, eqI 9998 _ _⟩
  · exact ⟨_, part_many (aggL W) (sizeL W) h2, lease_selfD 9996 ls le lu lr D W hD⟩
theorem held_eq (st he ls le lu lr : Int) (D : List Nat) (W : World) (hD : D.length = 16) : (binOp .eql 28 (.agg (heldC st he ls le lu lr D)) (.agg (heldC st he ls le lu lr D))).run Tryz.prog W = .ok (.bool true) W := by
  have h := held_self st he ls le lu lr D W hD
  obtain ⟨C, hC⟩ : ∃ C, heldC st he ls le lu lr D = C := ⟨_, rfl⟩
  rw [hC] at h ⊢
  go_simp
theorem kept_at {X : World} {g : Nat} {t : TypeId} {st he ls le lu lr e : Int} {D : List Nat} (h : Blk X g t (keptC st he ls le lu lr D e)) {i : Nat} {v : Value} (hv : (heldL st he ls le lu lr D ++ ([.int .i64 e] : List Value))[i]? = some v) : X.cell? ⟨g, i, none⟩ = some v := by
  have q := World.rangeAt_of_block h 0 (keptC st he ls le lu lr D e).size
  have e2 : ((keptC st he ls le lu lr D e).extract 0 (0 + (keptC st he ls le lu lr D e).size)).toList = heldL st he ls le lu lr D ++ ([.int .i64 e] : List Value) := by unfold keptC; generalize heldL st he ls le lu lr D ++ ([.int .i64 e] : List Value) = L; simp
  rw [e2] at q
  have := q i v hv
  rwa [Nat.zero_add] at this
theorem kept_mid {X : World} {g : Nat} {t : TypeId} {st he ls le lu lr e : Int} {D : List Nat} (h : Blk X g t (keptC st he ls le lu lr D e)) : X.rangeAt g 0 (heldC st he ls le lu lr D).toList := fun j v hv => by
  have hv2 : (heldL st he ls le lu lr D)[j]? = some v := by simpa [heldC] using hv
  rw [Nat.zero_add]
  exact kept_at h (by rw [List.getElem?_append_left (List.getElem?_eq_some_iff.1 hv2).1]; exact hv2)
theorem kept_e {X : World} {g : Nat} {t : TypeId} {st he ls le lu lr e : Int} {D : List Nat} (hD : D.length = 16) (h : Blk X g t (keptC st he ls le lu lr D e)) : X.cell? ⟨g, 22, none⟩ = some (.int .i64 e) := by
  have hl : (heldL st he ls le lu lr D).length = 22 := by unfold heldL leaseL; simp [hD]
  refine kept_at h ?_
  rw [List.getElem?_append_right (by omega), hl]
  rfl
theorem exec_load_midw {P : Program} {op : Oper} {a : Act} {W : World} (ty : TypeId) (x : Operand) (ho : op.op = .load ty x) (b o : Nat) (hx : a.eval x = .pointer (some ⟨b, o, none⟩)) (C : Array Value) (d : TypeDesc)
    (hc : W.rangeAt b o C.toList) (hu : P.underlying ty = some d) (hd : d.isRow = true) (hi : (P.info? ty).map (·.size) = some C.size) : (execOp a.eval op).run P W = .ok (.value (.agg C)) W := by
  have h := run_loadVar_mid W b o ty C.toList d hc hu hd (by rw [Array.length_toList]; exact hi)
  rw [Array.toArray_toList] at h
  unfold execOp
  simp only [ho, hx, Instr.loadAt, Instr.sureAddr, Sem.run_bind, Sem.run_pure, Result.andThen_ok, h]
end Le
end Go.Proofs.YteblnmhaohbkkaaGreatDoor
