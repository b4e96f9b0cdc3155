/- Contracts of the functions of wire: digests. -/
import Derived.Test.YtlihndekeaefcaaG
import Derived.Deep.WholeRow
import Derived.Deep.MidRow
namespace Go.Proofs.Ytlihndekeaefcaa
set_option linter.unusedVariables false
set_option linter.unusedSimpArgs false
open Go.RowKit
/-- The cells of a digest. -/
def dca (d : List Nat) : Array Value := (d.map bv).toArray
/-- A digest as a value. -/
def dvl (d : List Nat) : Value := .agg (dca d)
theorem dca_size (d : List Nat) : (dca d).size = d.length := by simp [dca]
theorem dca_at (d : List Nat) (k : Nat) (h : k < d.length) : (dca d)[k]? = some (bv (d.getD k 0)) := by
  simp [dca, List.getD_eq_getElem?_getD, List.getElem?_eq_getElem h]
theorem add_off (b o j : Nat) : (⟨b, o, none⟩ : Addr).add j = ⟨b, o + j, none⟩ := by unfold Addr.add; split <;> simp_all
theorem src_digest (d : List Nat) (C : Array Value) (hC : dca d = C) (hd : d.length = 16) (w : World) (t : TypeId) : Src Try.prog 1 28 (.slice (some ⟨w.heap.size, 0, none⟩) 16 16) d.length (d.map bv) (w.alloc (.cells C t)) := by
  have h := Src.ofSlice (P := Try.prog) (w.alloc (.cells C t)) Try.underlying28 (size := 1) (tx := 28) ⟨w.heap.size, 0, none⟩ d.length 16 (d.map bv) (by simp) (fun j u hj => by
    rw [add_off, Nat.zero_add, ← hC]
    have : (dca d)[j]? = some u := by unfold dca; simpa using hj
    rw [World.cell?_alloc_new]
    exact this) (fun u hu => by obtain ⟨_, _, rfl⟩ := List.mem_map.1 hu; rfl)
  rw [hd] at h ⊢
  exact h
theorem isAgg57 (W : World) : (isAgg 57).run Try.prog W = .ok true W := by kernel_rfl
theorem sizeOf57 (W : World) : (Go.sizeOf 57).run Try.prog W = .ok 16 W := by kernel_rfl
theorem load_digest (d : List Nat) (C : Array Value) (hC : dca d = C) (hd : d.length = 16) (W : World) (b o : Nat) (h : ∀ j, j < 16 → W.cell? ⟨b, o + j, none⟩ = some (bv (d.getD j 0))) : (loadVar 57 ⟨b, o, none⟩).run Try.prog W = .ok (.agg C) W := by
  have hl : (loadCells ⟨b, o, none⟩ (d.map bv).length).run Try.prog W = .ok (d.map bv).toArray W := run_loadCells_list (P := Try.prog) W ⟨b, o, none⟩ (d.map bv) (fun j v hv => by
    have hj : j < d.length := by
      rcases Nat.lt_or_ge j d.length with h | h
      · exact h
      · simp [List.getElem?_eq_none (show (d.map bv).length ≤ j by simpa using h)] at hv
    rw [add_off, h j (by omega), ← hv]
    simp [List.getD_eq_getElem?_getD, List.getElem?_eq_getElem hj])
  rw [List.length_map, hd] at hl
  unfold loadVar
  rw [Sem.run_bind, isAgg57]
  simp only [Result.andThen_ok, if_true, Sem.run_bind, sizeOf57, hl, Sem.run_pure]
  rw [← hC]
  rfl
theorem info57 : (Try.prog.info? 57).map (·.size) = some 16 := by kernel_rfl
theorem dca_cells (d : List Nat) : (dca d).all (·.oneCell') = true := by
  unfold dca
  exact all_oneCell_toArray (fun v hv => by obtain ⟨_, _, rfl⟩ := List.mem_map.1 hv; rfl)
/-- A digest is loaded. -/
theorem wpLoadD {ops : Array Oper} {rest : List Oper} {o : Oper} {a : Act} {Q : Exit → Act → World → Prop} {w : World} (hgd : o.guard = none) (x : Operand) (ho : o.op = .load 57 x) (p : Addr) (hx : a.eval x = .pointer (some p)) (C : Array Value)
    (hl : (loadVar 57 p).run Try.prog w = .ok (.agg C) w) (h : wpList Try.prog ops Q rest (a.put o.dst (.agg C)) w) : wpList Try.prog ops Q (o :: rest) a w := by
  refine wpList_plain hgd fun K hK => ?_
  unfold Oper.wp execOp
  simp only [ho, hx, Instr.loadAt, Instr.sureAddr, Sem.run_bind, Sem.run_pure, Result.andThen_ok, hl]
  exact hK _ _ h
/-- A digest is stored in a variable that is new. -/
theorem wpStoreD {ops : Array Oper} {rest : List Oper} {o : Oper} {a : Act} {Q : Exit → Act → World → Prop} {w : World} (hgd : o.guard = none) (x y : Operand) (ho : o.op = .store 57 x y) (hx : a.eval x = .pointer (some ⟨w.heap.size, 0, none⟩)) (C Z : Array Value)
    (hy : a.eval y = .agg C) (hC : C.size = 16) (hZ : Z.size = 16) (h1 : C.all (·.oneCell') = true) (h : wpList Try.prog ops Q rest (a.put o.dst undef) (w.alloc (.cells C 57))) : wpList Try.prog ops Q (o :: rest) a (w.alloc (.cells Z 57)) := by
  refine wpList_plain hgd fun K hK => ?_
  unfold Oper.wp execOp
  simp only [ho, hx, hy, Instr.storeAt, Instr.sureAddr, Sem.run_bind, Sem.run_pure, Result.andThen_ok, run_storeVar_new w 57 Z C (by rw [info57, hC]) (by omega) h1]
  exact hK _ _ h
theorem loadVar_new (w : World) (C : Array Value) (hC : C.size = 16) : (loadVar 57 ⟨w.heap.size, 0, none⟩).run Try.prog (w.alloc (.cells C 57)) = .ok (.agg C) (w.alloc (.cells C 57)) :=
  run_loadVar_new w 57 C 16 5 (by kernel_rfl) (by rw [info57, hC])
set_option maxHeartbeats 1000000 in
theorem appendDigest_any (d : List Nat) (C : Array Value) (hC : dca d = C) (B : Nat) (v : Value) (l : List Nat) (w : World) (hd : d.length = 16) (hB : B ≤ w.heap.size) (hown : OwnB w B v l) (hl : l.length ≤ 1000000) :
    Calls Try.prog 43 #[v, .agg C] w (Gives B w (l ++ d)) := by
  have HS := Lib.hid (src_digest d C hC hd)
  have HO := Lib.hid (fun o => own_alloc hown o); clear hown
  have HD := Lib.hid hd; clear hd
  have HC := Lib.hid hC; clear hC
  go_enter Try.func43, Try.ntmps43
  go_wp2_with (at_builtin; refine wpAppS rfl _ _ 28 rfl B _ _ rfl (HO.out _) _ d rfl (HS.out _ _) ?hl ?ht ?hBB ?_)
  case hl => omega
  case ht => rw [HD.out]; omega
  case hBB => simp; omega
  intro v2 w2 h2 hb2
  have H2 := Lib.hid h2
  have HB2 := Lib.hid (((Below.refl B w).alloc hB (.cells C 57)).trans hb2)
  clear h2 hb2
  go_wp2
  go_ret
  exact ⟨_, rfl, H2.out, HB2.out⟩
/-- A slice of digests in memory, nil included. -/
def DigsA (W : World) (a : Option Addr) (ds : List (List Nat)) : Prop :=
  ∀ k, k < ds.length → ∃ b off, a = some ⟨b, off, none⟩ ∧ (ds.getD k []).length = 16 ∧ ∀ j, j < 16 → W.cell? ⟨b, off + k * 16 + j, none⟩ = some (bv ((ds.getD k []).getD j 0)) ∧ (ds.getD k []).getD j 0 < 256
theorem DigsA.mono {W W' : World} {a : Option Addr} {ds : List (List Nat)} (h : DigsA W a ds) (hb : Below W.heap.size W W') : DigsA W' a ds := by
  intro k hk
  obtain ⟨b, off, e, h1, h2⟩ := h k hk
  exact ⟨b, off, e, h1, fun j hj => ⟨keep (h2 j hj).1 hb, (h2 j hj).2⟩⟩
set_option maxRecDepth 100000 in
set_option maxHeartbeats 2000000 in
theorem appendDigs_any (a : Option Addr) (cap : Nat) (l : List (List Nat)) (w : World) (hp : DigsA w a l) (hm : l.length ≤ 1000000) (hT : (encL id l).length ≤ 1000000) :
    Calls Try.prog 42 #[.slice a l.length cap, .func (.func 43) #[] #[]] w (Gives w.heap.size w (encL id l)) := by
  have HP := Lib.hid hp; clear hp
  have HT := Lib.hid (fun k => Nat.le_trans (encL_take id l k) hT); clear hT
  go_enter Try.func42, Try.ntmps42
  go_wp2_with fail
  refine (int_any _ _ (by omega) (by omega)).mono ?_
  rintro e w1 ⟨v1, rfl, h1, hb1⟩
  have H1 := Lib.hid h1
  have HB := Lib.hid hb1
  clear h1 hb1
  go_wp2
  go_loopw [5, 13] (fun u5 u13 wr => ∃ (k : Nat), k ≤ l.length ∧ u13 = .int .i64 k ∧ Hid (OwnB wr w.heap.size u5 (enc l.length ++ (l.take k).flatMap id)) ∧ Hid (Below w.heap.size w wr)) (fun _ u13 _ => l.length - (intOf u13).toNat)
  case atStart => exact ⟨0, by omega, rfl, Lib.hid (by simpa using H1.out), HB⟩
  case round =>
    obtain ⟨k, hk, rfl, how, hbe⟩ := hrel
    by_cases hlt : k < l.length
    · obtain ⟨b, off, rfl, q16, q1⟩ := HP.out k hlt
      have hfm := flatMap_snoc id l k hlt
      rw [← getD_at [] hlt] at hfm
      obtain ⟨x, hx⟩ : ∃ x, l.getD k [] = x := ⟨_, rfl⟩
      rw [hx] at q16 q1 hfm
      have hld := load_digest x (dca x) rfl q16 wr b (off + k * 16) (fun j hj => keep (q1 j hj).1 hbe.out)
      obtain ⟨C, hC⟩ : ∃ C, dca x = C := ⟨_, rfl⟩
      rw [hC] at hld
      have c1 : C.size = 16 := by rw [← hC, dca_size, q16]
      have c2 : C.all (·.oneCell') = true := by rw [← hC]; exact dca_cells x
      have C1 := Lib.hid c1
      have C2 := Lib.hid c2
      have HC := Lib.hid hC
      have HFM := Lib.hid hfm
      have HX := Lib.hid hx
      have H16 := Lib.hid q16
      have HLD := Lib.hid hld
      clear hx hfm hC q1 q16 hld c1 c2
      go_wp2_with (first | (refine wpLoadD rfl _ rfl ⟨b, off + k * 16, none⟩ rfl C HLD.out ?_) | (refine wpStoreD rfl _ _ rfl rfl C _ rfl C1.out rfl C2.out ?_) | (refine wpLoadD rfl _ rfl ⟨wr.heap.size, 0, none⟩ rfl C (loadVar_new wr C C1.out) ?_))
      refine (appendDigest_any x C HC.out w.heap.size _ _ _ H16.out (by have := hbe.out.size; simp; omega) (own_alloc how.out _) (HT.out k)).mono ?_
      rintro e w2 ⟨v2, rfl, h2, hb2⟩
      have H2 := Lib.hid h2
      have HB2 := Lib.hid ((hbe.out.alloc hbe.out.size (.cells C 57)).trans hb2)
      clear h2 hb2
      go_wp2
      go_roundw
      case rel => exact ⟨k + 1, by omega, by go_num, Lib.hid (by rw [HFM.out, ← List.append_assoc]; exact H2.out), HB2⟩
      case measure => simp [intOf]; omega
    · obtain rfl : k = l.length := by omega
      go_wp2
      go_ret
      refine ⟨_, rfl, ?_, hbe.out⟩
      have := how.out
      rw [List.take_length] at this
      exact this
theorem digests_any (a : Option Addr) (cap : Nat) (l : List (List Nat)) (w : World) (hp : DigsA w a l) (hm : l.length ≤ 1000000) (hT : (encL id l).length ≤ 1000000) :
    Calls Try.prog 22 #[.slice a l.length cap] w (Gives w.heap.size w (encL id l)) := by
  have HP := Lib.hid hp; clear hp
  have HT := Lib.hid hT; clear hT
  go_enter Try.func22, Try.ntmps22
  go_wp2_with fail
  refine (appendDigs_any a cap l w HP.out hm HT.out).mono ?_
  rintro e w1 ⟨v, rfl, hv, hb⟩
  go_wp2
  go_ret
  exact ⟨_, rfl, hv, hb⟩
theorem src_digest_at (d : List Nat) (hd : d.length = 16) (W : World) (b o : Nat) (h : ∀ j, j < 16 → W.cell? ⟨b, o + j, none⟩ = some (bv (d.getD j 0))) : Src Try.prog 1 28 (.slice (some ⟨b, o, none⟩) 16 16) d.length (d.map bv) W := by
  have h := Src.ofSlice (P := Try.prog) W Try.underlying28 (size := 1) (tx := 28) ⟨b, o, none⟩ d.length 16 (d.map bv) (by simp) (fun j v hv => by
    have hj : j < d.length := by
      rcases Nat.lt_or_ge j d.length with h | h
      · exact h
      · simp [List.getElem?_eq_none (show (d.map bv).length ≤ j by simpa using h)] at hv
    rw [add_off, h j (by omega), ← hv]
    simp [List.getD_eq_getElem?_getD, List.getElem?_eq_getElem hj]) (fun u hu => by obtain ⟨_, _, rfl⟩ := List.mem_map.1 hu; rfl)
  rw [hd] at h ⊢
  exact h
set_option maxRecDepth 100000 in
set_option maxHeartbeats 2000000 in
theorem digsref_any (a : Option Addr) (cap : Nat) (l : List (List Nat)) (w : World) (hp : DigsA w a l) (hm : l.length ≤ 1000000) (hT : (encL id l).length ≤ 1000000) :
    Calls Try.prog 23 #[.slice a l.length cap] w (Gives w.heap.size w (encL id l)) := by
  have HP := Lib.hid hp; clear hp
  have HT := Lib.hid (fun k => Nat.le_trans (encL_take id l k) hT); clear hT
  go_enter Try.func23, Try.ntmps23
  go_wp2_with fail
  refine (intref_any _ _ (by omega) (by omega)).mono ?_
  rintro e w1 ⟨v1, rfl, h1, hb1⟩
  have H1 := Lib.hid h1
  have HB := Lib.hid hb1
  clear h1 hb1
  go_wp2
  go_loopw [3, 4] (fun u5 u13 wr => ∃ (k : Nat), k ≤ l.length ∧ u13 = .int .i64 k ∧ Hid (OwnB wr w.heap.size u5 (enc l.length ++ (l.take k).flatMap id)) ∧ Hid (Below w.heap.size w wr)) (fun _ u13 _ => l.length - (intOf u13).toNat)
  case atStart => exact ⟨0, by omega, rfl, Lib.hid (by simpa using H1.out), HB⟩
  case round =>
    obtain ⟨k, hk, rfl, how, hbe⟩ := hrel
    by_cases hlt : k < l.length
    · obtain ⟨b, off, rfl, q16, q1⟩ := HP.out k hlt
      have hfm := flatMap_snoc id l k hlt
      rw [← getD_at [] hlt] at hfm
      obtain ⟨x, hx⟩ : ∃ x, l.getD k [] = x := ⟨_, rfl⟩
      rw [hx] at q16 q1 hfm
      have SRC := Lib.hid (src_digest_at x q16 wr b (off + k * 16) (fun j hj => keep (q1 j hj).1 hbe.out))
      have HFM := Lib.hid hfm
      have H16 := Lib.hid q16
      clear hx hfm q1 q16
      go_wp2_with (at_builtin; refine wpAppS rfl _ _ 28 rfl w.heap.size _ _ rfl how.out _ x rfl SRC.out ?hl ?ht ?hBB ?_)
      case hl => exact Nat.le_trans (HT.out k) (by omega)
      case ht => rw [H16.out]; omega
      case hBB => exact hbe.out.size
      intro v3 w3 h3 hb3
      have H3 := Lib.hid h3
      have HB3 := Lib.hid (hbe.out.trans hb3)
      clear h3 hb3
      go_wp2
      go_roundw
      case rel => exact ⟨k + 1, by omega, by go_num, Lib.hid (by rw [HFM.out]; simpa [List.flatMap_id] using H3.out), HB3⟩
      case measure => simp [intOf]; omega
    · obtain rfl : k = l.length := by omega
      go_wp2
      go_ret
      refine ⟨_, rfl, ?_, hbe.out⟩
      have := how.out
      rw [List.take_length] at this
      exact this
end Go.Proofs.Ytlihndekeaefcaa
