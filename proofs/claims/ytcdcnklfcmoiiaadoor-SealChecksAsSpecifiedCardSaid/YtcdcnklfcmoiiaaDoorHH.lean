/- Ported from another seat (wip/hash/H.src, by wip/port.py): contracts that this chapter calls. -/
import Derived.Test.YtcdcnklfcmoiiaaDoorHG
import Derived.Lib.BufferWrite
import Derived.Laws.BytesArg
namespace Go.Proofs.YtcdcnklfcmoiiaaDoor
set_option linter.unusedVariables false
set_option linter.unusedSimpArgs false
namespace Hs
open Go.RowKit
attribute [local go_sem] zeroSt
attribute [local simp] zeroSt_ne
/-- The bytes of a string. -/
def sb (s : ByteArray) : List Nat := s.data.toList.map UInt8.toNat
set_option maxRecDepth 100000 in
theorem sb_len (s : ByteArray) : (sb s).length = s.size := by unfold sb; simp
set_option maxRecDepth 100000 in
theorem sb_lt (s : ByteArray) : ∀ x ∈ sb s, x < 256 := by
  intro x hx
  unfold sb at hx
  obtain ⟨y, -, rfl⟩ := List.mem_map.1 hx
  exact y.toNat_lt
set_option maxRecDepth 100000 in
theorem sb_extract (s : ByteArray) (n : Nat) : sb (s.extract n s.size) = (sb s).drop n := by
  unfold sb
  rw [ByteArray.data_extract, Array.toList_extract, List.extract_eq_take_drop, List.map_take, List.map_drop]
  rw [List.take_of_length_le]
  simp
set_option maxRecDepth 100000 in
theorem slice_s (s : ByteArray) (n : Nat) (h1 : n ≤ s.size) (W : World) : (Instr.slice 9 (.string s) (some (.int .i64 (n : Int))) none none).run Tryd.prog W = .ok (.string (s.extract n s.size)) W := by
  have ht : Tryd.prog.underlying 9 = some .string := Tryd.underlying9
  rw [run_slice_string_l]
  all_goals first | rfl | exact ht | omega | skip
section
variable {P : Program} {ops : Array Oper} {rest : List Oper} {op : Oper} {a : Act} {w : World} {Q : Exit → Act → World → Prop}
set_option maxRecDepth 100000 in
theorem run_copy_str (w : World) (dT sT ty elem : TypeId) (g o dLen dCap : Nat) (t0 : ByteArray) (cur : List Value) (t : TypeId) (x : List Nat)
    (hu : P.underlying dT = some (.slice elem)) (hs : (P.info? elem).map (·.size) = some 1) (hg : Blk w g t cur.toArray) (hx : x = (sb t0).take (Nat.min t0.size dLen)) (hfit : o + x.length ≤ cur.length) :
    (Builtin.copy_ #[dT, sT] ty #[.slice (some ⟨g, o, none⟩) dLen dCap, .string t0]).run P w = .ok (.int .i64 (x.length : Int)) (w.setRow g (splice cur o (x.map bv)).toArray) := by
  have hst := run_storeCells_at P g o t (x.map bv) 0 cur.toArray w hg (by simpa using hfit) (fun v hv => by
    obtain ⟨y, _, rfl⟩ := List.mem_map.1 hv
    rfl)
  have hxl : x.length = Nat.min t0.size dLen := by
    rw [hx, List.length_take, sb_len, Nat.min_eq_left]
    exact Nat.min_le_left _ _
  have htk : List.take (Nat.min t0.size dLen) (List.map (fun b : UInt8 => Value.int IntKind.u8 (b.toNat : Int)) t0.data.toList) = x.map bv := by
    rw [hx]
    unfold sb
    rw [List.map_take, List.map_map]
    rfl
  simp only [Nat.add_zero, List.append_assoc] at hst
  cases hq : P.info? elem with
  | none => simp [hq] at hs
  | some i =>
    simp [Builtin.copy_, run_underlying hu, Builtin.lenOf, Builtin.firstCells, sizeOf, typeInfo, hq]
    rw [htk, hst, hxl]
    simp [Result.andThen, goInt, splice, hxl]
set_option maxRecDepth 100000 in
theorem wpList_copy_srest (hgd : op.guard = none) (d sx : Operand) (dT sT : TypeId)
    (ho : op.op = .call { callee := .builtin .copy, args := #[d, sx], argTypes := #[dT, sT] }) (elem : TypeId) (hu : P.underlying dT = some (.slice elem)) (hsz : (P.info? elem).map (·.size) = some 1)
    (g u dLen dCap : Nat) (t0 : ByteArray) (t : TypeId) (s : St) (r l x : List Nat) (n : Nat) (hd : a.eval d = .slice (some ⟨g, 8 + u, none⟩) dLen dCap) (hs : a.eval sx = .string t0)
    (hg : Blk w g t (svA s r n)) (hr : r.length = 64) (hb : sb t0 = l) (M : Nat) (hM : t0.size = M) (hx : x = l.take (Nat.min M dLen)) (hfit : u + x.length ≤ 64) (nx : Nat) (hnx : x.length = nx) (r2 : List Nat) (hr2 : splice r u x = r2)
    (h : wpList P ops Q rest (a.put op.dst (.int .i64 (nx : Int))) (w.setRow g (svA s r2 n))) : wpList P ops Q (op :: rest) a w := by
  subst hnx; subst hr2; subst hb; subst hM
  have hrun := run_copy_str (P := P) w dT sT op.type elem g (8 + u) dLen dCap t0 (svL s r n) t x hu hsz hg hx (by rw [svL_len s r n hr]; omega)
  rw [svL_rest s r x n u (by omega)] at hrun
  refine wpList_plain hgd fun K hK => ?_
  unfold Oper.wp execOp
  simp only [ho, resolve, invoke, builtin, Sem.run_bind, Sem.run_pure, Result.andThen_ok, List.map_toArray, List.map_cons, List.map_nil, hd, hs, hrun]
  exact hK _ _ h
end
set_option maxRecDepth 100000 in
set_option maxHeartbeats 2000000 in
theorem feed_string (s : St) (r m l : List Nat) (t0 : ByteArray) (w : World) (h : Is s r m) (hN : m.length + l.length < 1152921504606846976) (hb : sb t0 = l) (hla : LaidC w) :
    Calls Tryd.prog 87 #[.agg (svA s r m.length), .string t0] w (Fed w m l) := by
  have hll : ∀ x ∈ l, x < 256 := by rw [← hb]; exact sb_lt t0
  have hc : t0.size = l.length := by rw [← hb, sb_len]
  have HI := Lib.hid h; have HBy := Lib.hid hb; have HLL := Lib.hid hll; have HLA := Lib.hid hla
  have n72 := svA_n s r m.length h.len
  have R64 := h.len
  obtain ⟨u0, hu0⟩ : ∃ u, m.length % 64 = u := ⟨_, rfl⟩
  have e1 : ((m.length : Nat) : Int) % 64 = (u0 : Int) := by omega
  have hu64 : u0 < 64 := by omega
  obtain ⟨T, hT⟩ : ∃ T, m.length + l.length = T := ⟨_, rfl⟩
  have e2 : ((m.length : Nat) : Int) + ((l.length : Nat) : Int) = (T : Int) := by omega
  have e3 : IntKind.u64.wrap (((m.length : Nat) : Int) + ((l.length : Nat) : Int)) = (T : Int) := by rw [e2, show IntKind.u64.wrap (T : Int) = (T : Int) % 18446744073709551616 from by simp [IntKind.wrap, IntKind.bits, IntKind.signed]]; omega
  have hTb : T < 1152921504606846976 := by omega
  obtain ⟨N, hN'⟩ : ∃ N, m.length = N := ⟨_, rfl⟩
  obtain ⟨L, hL⟩ : ∃ L, l.length = L := ⟨_, rfl⟩
  rw [hN'] at n72 e1 e2 e3 hu0 hN hT
  rw [hL] at e2 e3 hN hT hc
  have NB : N < 1152921504606846976 := by omega
  have LB : L < 1152921504606846976 := by omega
  have HU0 := Lib.hid hu0; have HT := Lib.hid hT; have HN := Lib.hid hN'; have HLe := Lib.hid hL; have HR := Lib.hid R64
  have HCap := Lib.hid hc
  rw [hN']
  clear h hb hll hla hu0 hT hN' hL R64 hN hc
  have tz : t0.size = L := HCap.out
  go_enter Tryd.func87, Tryd.ntmps87
  go_wp2
  clear e1 e2 e3 n72 tz
  go_loopw [1, 5] (fun ut uu wr => ∃ (k M : Nat) (s1 : St) (r1 : List Nat) (t1 : ByteArray) (u : Nat), k + M = L ∧ ut = .string t1 ∧ uu = .int .i64 u ∧ u < 64 ∧ w.heap.size + 2 ≤ wr.heap.size ∧ Below w.heap.size w wr ∧ Hid (t1.size = M) ∧ Hid ((N + k) % 64 = u) ∧ Hid (Is s1 r1 (m ++ l.take k)) ∧ Hid (sb t1 = l.drop k) ∧ Hid (Blk wr w.heap.size 123 (svA s1 r1 T)) ∧ Hid (Blk wr (w.heap.size + 1) 123 (svA st00 (List.replicate 64 0) 0))) (fun ut _ _ => slen ut)
  case atStart =>
    refine ⟨0, L, s, r, t0, u0, by omega, rfl, rfl, hu64, by simp, by (repeat' (first | (with_reducible exact Below.refl _ _) | (with_reducible assumption) | (with_reducible refine Below.alloc ?_ ?_ _) | (with_reducible refine Below.drew ?_) | (with_reducible refine below_dn ?_) | (with_reducible refine Below.setCell ?_ ?_ _) | (with_reducible exact Nat.le_refl _) | omega | (simp only [World.size_alloc, World.size_setCell, World.size_drew]; omega) | (simp; omega) | (simp; done))), HCap, HU0, Lib.hid ?_, Lib.hid ?_, Lib.hid ?_, Lib.hid ?_⟩
    · rw [List.take_zero, List.append_nil]; exact HI.out
    · rw [List.drop_zero]; exact HBy.out
    · have e := svL_size s r N T HR.out
      refine (Blk.new' _ _ _ _ rfl ?_).alloc _
      unfold svA
      rw [List.setIfInBounds_toArray, e]
    · exact Blk.new' _ _ _ _ (by simp) rfl
  case round =>
    obtain ⟨k, M, s1, r1, t1, u, hkM, rfl, rfl, hu, hsz, B, hc1, hku, hI, hBy, h0, h4⟩ := hrel
    have hr1 := hI.out.len
    by_cases hlt : 0 < M
    · obtain ⟨n, hn⟩ : ∃ n, min M (64 - u) = n := ⟨_, rfl⟩
      have n1 : 1 ≤ n := by omega
      have n2 : n ≤ M := by omega
      have n3 : u + n ≤ 64 := by omega
      obtain ⟨x, hx⟩ : ∃ x, (l.drop k).take n = x := ⟨_, rfl⟩
      have hxl : x.length = n := by rw [← hx, List.length_take, List.length_drop, HLe.out]; omega
      have i1 : (u : Int) ≤ 64 := by omega
      have p1 : (0 : Int) ≤ (u : Int) := by omega
      have xlt : ∀ y ∈ x, y < 256 := by rw [← hx]; exact fun y hy => HLL.out y (List.mem_of_mem_drop (List.mem_of_mem_take hy))
      have HX := Lib.hid (show x = (l.drop k).take (Nat.min M (64 - u)) by rw [← hx]; congr 1; exact hn.symm)
      have HFIT := Lib.hid (show u + x.length ≤ 64 by omega)
      have HXL := Lib.hid hxl; have HR1 := Lib.hid hr1; have XLT := Lib.hid xlt
      have hml : (m ++ l.take k).length = N + k := by rw [List.length_append, List.length_take, HN.out, HLe.out]; omega
      have hnew : (m ++ l.take k) ++ x = m ++ l.take (k + n) := by rw [List.append_assoc, ← hx, List.take_add]
      have hum : (m ++ l.take k).length % 64 = u := by rw [hml]; exact hku.out
      have HNEW := Lib.hid hnew; have HUM := Lib.hid hum
      obtain ⟨r2, hr2⟩ : ∃ r2, splice r1 u x = r2 := ⟨_, rfl⟩
      have HR2 := Lib.hid hr2
      have sl := fun W : World => slice_s t1 n (by rw [hc1.out]; exact n2) W
      have hby2 : sb (t1.extract n t1.size) = l.drop (k + n) := by rw [sb_extract, hBy.out, List.drop_drop]
      have hz2 : (t1.extract n t1.size).size = M - n := by rw [← sb_len, hby2, List.length_drop, HLe.out]; omega
      obtain ⟨t2, ht2⟩ : ∃ t2, t1.extract n t1.size = t2 := ⟨_, rfl⟩
      obtain ⟨M2, hM2⟩ : ∃ M2, M - n = M2 := ⟨_, rfl⟩
      have k2 : (k + n) + M2 = L := by omega
      have mless : M2 < M := by omega
      rw [ht2] at sl hby2 hz2
      rw [hM2] at hz2
      have by2 := Lib.hid hby2; have HZ2 := Lib.hid hz2
      have tz1 : t1.size = M := hc1.out
      have ML := Lib.hid (show t2.size < t1.size by omega)
      obtain ⟨v, hv⟩ : ∃ v, u + n = v := ⟨_, rfl⟩
      have hv64 : v ≤ 64 := by omega
      have e5 : (u : Int) + (n : Int) = (v : Int) := by omega
      have e6 : IntKind.i64.wrap ((u : Int) + (n : Int)) = (v : Int) := by rw [IntKind.wrap_i64]; omega
      have HV := Lib.hid (show u + x.length = v by omega)
      have HKU := Lib.hid (show v < 64 → (N + (k + n)) % 64 = v from fun _ => by have := hku.out; omega)
      have HKZ := Lib.hid (show v = 64 → (N + (k + n)) % 64 = 0 from fun _ => by have := hku.out; omega)
      clear hx hxl hr1 hn xlt hml hnew hum hr2 ht2 hM2 hby2 hz2 hv hku
      by_cases hfull : v = 64
      · have tf : ((v : Int) == 64) = true := beq_iff_eq.2 (by omega)
        have hI2 := Lib.hid (hI.out.full x XLT.out (by rw [HUM.out, HV.out]; exact hfull))
        rw [HUM.out, HR2.out, HNEW.out] at hI2
        have HF := Lib.hid hfull
        clear hfull
        go_wp2_with (first | (with_reducible refine wpList_copy_srest rfl _ _ 102 9 rfl 5 Tryd.underlying102 (by kernel_rfl) w.heap.size u _ _ t1 123 s1 r1 (l.drop k) x T rfl rfl h0.out HR1.out hBy.out M hc1.out HX.out HFIT.out n HXL.out r2 HR2.out ?_) | (with_reducible refine wpList_load_st rfl _ _ rfl w.heap.size rfl 123 s1 r2 T _ _ (h0.out.row_ _) Tryd.underlying119 (by kernel_rfl) ?_) | (with_reducible refine wpList_load_rest rfl _ _ rfl w.heap.size rfl 123 s1 r2 T _ _ (h0.out.row_ _) Tryd.underlying120 (by rw [hI2.out.len]; kernel_rfl) ?_))
        refine (compress_arr s1 r2 _ hI.out.ok hI2.out.len hI2.out.lt (HLA.out.mono (below_setRow B (by omega) _))).mono ?_
        rintro e w3 ⟨rfl, hb3⟩
        have hz3 := hb3.size
        rw [setRow_size] at hz3
        have g0 : Blk w3 w.heap.size 123 (svA s1 r2 T) := (h0.out.row_ _).below hb3 (by rw [setRow_size]; omega)
        have g4 : Blk w3 (w.heap.size + 1) 123 (svA st00 (List.replicate 64 0) 0) := (h4.out.rowfar (by omega) _).below hb3 (by rw [setRow_size]; omega)
        have B3 : Below w.heap.size w w3 := bt (below_setRow B (by omega) _) hb3
        have G0 := Lib.hid g0; have G4 := Lib.hid g4
        clear hb3 g0 g4 h0 h4 B hBy
        go_wp2_with (first | (with_reducible refine wpList_store_st rfl _ _ _ rfl w.heap.size 123 s1 (comp s1 r2) r2 T rfl rfl G0.out hI2.out.len (by kernel_rfl) rfl ?_))
        go_roundw
        case rel =>
          refine ⟨k + n, M2, comp s1 r2, r2, t2, 0, k2, rfl, rfl, by omega, by rw [setRow_size]; omega, below_setRow B3 (by omega) _, HZ2, Lib.hid (HKZ.out HF.out), hI2, by2, Lib.hid (G0.out.row_ _), Lib.hid (G4.out.rowfar (by omega) _)⟩
        case measure => exact ML.out
      · have tf : ((v : Int) == 64) = false := beq_eq_false_iff_ne.2 (by omega)
        have hv64' : v < 64 := by omega
        have hI2 := Lib.hid (hI.out.some x XLT.out (by rw [HUM.out, HV.out]; exact hv64'))
        rw [HUM.out, HR2.out, HNEW.out] at hI2
        go_wp2_with (first | (with_reducible refine wpList_copy_srest rfl _ _ 102 9 rfl 5 Tryd.underlying102 (by kernel_rfl) w.heap.size u _ _ t1 123 s1 r1 (l.drop k) x T rfl rfl h0.out HR1.out hBy.out M hc1.out HX.out HFIT.out n HXL.out r2 HR2.out ?_))
        go_roundw
        case rel =>
          refine ⟨k + n, M2, s1, r2, t2, v, k2, rfl, rfl, hv64', by rw [setRow_size]; omega, below_setRow B (by omega) _, HZ2, Lib.hid (HKU.out hv64'), hI2, by2, Lib.hid (h0.out.row_ _), Lib.hid (h4.out.rowfar (by omega) _)⟩
        case measure => exact ML.out
    · have hk : k = L := by omega
      have M0 : M = 0 := by omega
      have hI' := hI.out
      rw [hk, ← HLe.out, List.take_length] at hI'
      have HI' := Lib.hid hI'
      have ia : (Tryd.prog.info? 123).map (·.size) = some (svA s1 r1 T).size := by rw [svA_size _ _ _ hr1]; kernel_rfl
      have sz : (svA st00 (List.replicate 64 0) 0).size = (svA s1 r1 T).size := by rw [svA_size _ _ _ hr1]; rfl
      have IA := Lib.hid ia; have SZ := Lib.hid sz
      clear hk hI hI' hr1 ia sz
      have hz0 := hc1.out
      rw [M0] at hz0
      go_wp2_with (first | (with_reducible refine wpList_load_all rfl _ _ rfl w.heap.size rfl 123 _ _ h0.out Tryd.underlying123 IA.out ?_) | (with_reducible refine wpList_store_blk rfl _ _ _ rfl (w.heap.size + 1) 123 _ _ rfl rfl h4.out IA.out SZ.out (svA_one _ _ _) rfl ?_))
      refine bodyPost_ret (v := .agg (svA s1 r1 T)) (results_cell_row rfl _ _ _ 123 _ (0, 0) _ rfl (h4.out.row_ _) Tryd.underlying123 rfl IA.out) rfl ⟨s1, r1, HI'.out, ?_, below_setRow B (by omega) _⟩
      rw [HN.out, HLe.out, HT.out]
end Hs
end Go.Proofs.YtcdcnklfcmoiiaaDoor
