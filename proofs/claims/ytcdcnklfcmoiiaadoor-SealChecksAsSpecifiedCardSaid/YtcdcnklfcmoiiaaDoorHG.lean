/- Ported from another seat (wip/hash/G.src, by wip/port.py): contracts that this chapter calls. -/
import Derived.Test.YtcdcnklfcmoiiaaDoorHF
namespace Go.Proofs.YtcdcnklfcmoiiaaDoor
set_option linter.unusedVariables false
set_option linter.unusedSimpArgs false
namespace Hs
open Go.RowKit
def cutA (a : Option Addr) (cap u : Nat) : Option Addr := if cap = u then a else a.map (·.add (u * 1))
set_option maxRecDepth 100000 in
theorem cutA_bytes {W : World} {a : Option Addr} {l : List Nat} {cap u : Nat} (h : BytesA W a l) (hc : l.length ≤ cap) (n : Nat) (hn : u + n ≤ l.length) : BytesA W (cutA a cap u) ((l.drop u).take n) := by
  intro k hk
  rw [List.length_take, List.length_drop] at hk
  obtain ⟨b, off, rfl, h1, h2⟩ := h (u + k) (by omega)
  have e : ((l.drop u).take n).getD k 0 = l.getD (u + k) 0 := by
    simp [List.getD_eq_getElem?_getD, List.getElem?_take, show k < n by omega, List.getElem?_drop]
  rw [e]
  refine ⟨b, off + u, ?_, by rw [Nat.add_assoc]; exact h1, h2⟩
  unfold cutA
  rw [if_neg (by omega)]
  simp [Addr.add]
set_option maxRecDepth 100000 in
theorem cutA_tail {W : World} {a : Option Addr} {l : List Nat} {cap u : Nat} (h : BytesA W a l) (hc : l.length ≤ cap) (hu : u ≤ l.length) : BytesA W (cutA a cap u) (l.drop u) := by
  have := cutA_bytes (u := u) h hc (l.length - u) (by omega)
  rwa [List.take_of_length_le (by simp)] at this
set_option maxRecDepth 100000 in
theorem sizeOf5 (W : World) : (sizeOf 5).run Tryd.prog W = .ok 1 W := by kernel_rfl
set_option maxRecDepth 100000 in
theorem slice_l (a : Option Addr) (n cap u : Nat) (h1 : u ≤ n) (W : World) : (Instr.slice 102 (.slice a n cap) (some (.int .i64 (u : Int))) none none).run Tryd.prog W = .ok (.slice (cutA a cap u) (n - u) (cap - u)) W := by
  have ht' : Tryd.prog.underlying 102 = some (.slice (Tryd.prog.elem 102)) := by kernel_rfl
  have he : Tryd.prog.elem 102 = 5 := by kernel_rfl
  rw [run_slice_l W 102 _ _ _ ht' .i64 _ (by omega) (by omega), he, sizeOf5]
  rfl
def slen : Value → Nat
  | .slice _ n _ => n
  | .string s => s.size
  | _ => 0
def st00 : St := ⟨0, 0, 0, 0, 0, 0, 0, 0⟩
set_option maxRecDepth 100000 in
theorem zeroSt (w : World) : (zeroValue 123).run Tryd.prog w = .ok (.agg (svA st00 (List.replicate 64 0) 0)) w := by kernel_rfl
set_option maxRecDepth 100000 in
theorem zeroSt_ne : svA st00 (List.replicate 64 0) 0 ≠ #[] := by decide +kernel
attribute [local go_sem] zeroSt
attribute [local simp] zeroSt_ne
def Fed (w : World) (m l : List Nat) (e : Ending) (w' : World) : Prop := ∃ s r, Is s r (m ++ l) ∧ e = .returned (.agg (svA s r (m.length + l.length))) ∧ Below w.heap.size w w'
set_option maxRecDepth 100000 in
set_option maxHeartbeats 2000000 in
theorem feed_bytes (s : St) (r m l : List Nat) (a : Option Addr) (cap : Nat) (w : World) (h : Is s r m) (hN : m.length + l.length < 1152921504606846976) (hb : BytesA w a l) (hll : ∀ x ∈ l, x < 256) (hc : l.length ≤ cap) (hla : LaidC w) :
    Calls Tryd.prog 85 #[.agg (svA s r m.length), .slice a l.length cap] w (Fed w m l) := by
  have HI := Lib.hid h; have HBy := Lib.hid hb; have HLL := Lib.hid hll; have HLA := Lib.hid hla
  have n72 := svA_n s r m.length h.len
  have R64 := h.len
  obtain ⟨u0, hu0⟩ : ∃ u, m.length % 64 = u := ⟨_, rfl⟩
  have e1 : ((m.length : Nat) : Int) % 64 = (u0 : Int) := by omega
  have hu64 : u0 < 64 := by omega
  obtain ⟨T, hT⟩ : ∃ T, m.length + l.length = T := ⟨_, rfl⟩
  have e2 : ((m.length : Nat) : Int) + ((l.length : Nat) : Int) = (T : Int) := by omega
  have e3 : IntKind.u64.wrap (((m.length : Nat) : Int) + ((l.length : Nat) : Int)) = (T : Int) := by rw [e2, show IntKind.u64.wrap (T : Int) = (T : Int) % 18446744073709551616 from by simp [IntKind.wrap, IntKind.bits, IntKind.signed]]; omega
  have hTb : T < 1152921504606846976 := by omega
  obtain ⟨N, hN'⟩ : ∃ N, m.length = N := ⟨_, rfl⟩
  obtain ⟨L, hL⟩ : ∃ L, l.length = L := ⟨_, rfl⟩
  rw [hN'] at n72 e1 e2 e3 hu0 hN hT
  rw [hL] at e2 e3 hN hT hc
  have NB : N < 1152921504606846976 := by omega
  have LB : L < 1152921504606846976 := by omega
  have HU0 := Lib.hid hu0; have HT := Lib.hid hT; have HN := Lib.hid hN'; have HLe := Lib.hid hL; have HR := Lib.hid R64
  have HCap := Lib.hid hc
  rw [hN', hL]
  clear h hb hll hla hu0 hT hN' hL R64 hN hc
  go_enter Tryd.func85, Tryd.ntmps85
  go_wp2
  clear e1 e2 e3 n72
  go_loopw [1, 5] (fun ut uu wr => ∃ (k M : Nat) (s1 : St) (r1 : List Nat) (a1 : Option Addr) (c1 u : Nat), k + M = L ∧ ut = .slice a1 M c1 ∧ uu = .int .i64 u ∧ u < 64 ∧ w.heap.size + 2 ≤ wr.heap.size ∧ Below w.heap.size w wr ∧ M ≤ c1 ∧ Hid ((N + k) % 64 = u) ∧ Hid (Is s1 r1 (m ++ l.take k)) ∧ Hid (BytesA w a1 (l.drop k)) ∧ Hid (Blk wr w.heap.size 123 (svA s1 r1 T)) ∧ Hid (Blk wr (w.heap.size + 1) 123 (svA st00 (List.replicate 64 0) 0))) (fun ut _ _ => slen ut)
  case atStart =>
    refine ⟨0, L, s, r, a, cap, u0, by omega, rfl, rfl, hu64, by simp, by (repeat' (first | (with_reducible exact Below.refl _ _) | (with_reducible assumption) | (with_reducible refine Below.alloc ?_ ?_ _) | (with_reducible refine Below.drew ?_) | (with_reducible refine below_dn ?_) | (with_reducible refine Below.setCell ?_ ?_ _) | (with_reducible exact Nat.le_refl _) | omega | (simp only [World.size_alloc, World.size_setCell, World.size_drew]; omega) | (simp; omega) | (simp; done))), HCap.out, HU0, Lib.hid ?_, Lib.hid ?_, Lib.hid ?_, Lib.hid ?_⟩
    · rw [List.take_zero, List.append_nil]; exact HI.out
    · rw [List.drop_zero]; exact HBy.out
    · have e := svL_size s r N T HR.out
      refine (Blk.new' _ _ _ _ rfl ?_).alloc _
      unfold svA
      rw [List.setIfInBounds_toArray, e]
    · exact Blk.new' _ _ _ _ (by simp) rfl
  case round =>
    obtain ⟨k, M, s1, r1, a1, c1, u, hkM, rfl, rfl, hu, hsz, B, hc1, hku, hI, hBy, h0, h4⟩ := hrel
    have hr1 := hI.out.len
    by_cases hlt : 0 < M
    · obtain ⟨n, hn⟩ : ∃ n, min M (64 - u) = n := ⟨_, rfl⟩
      have n1 : 1 ≤ n := by omega
      have n2 : n ≤ M := by omega
      have n3 : u + n ≤ 64 := by omega
      obtain ⟨x, hx⟩ : ∃ x, (l.drop k).take n = x := ⟨_, rfl⟩
      have hxl : x.length = n := by rw [← hx, List.length_take, List.length_drop, HLe.out]; omega
      have i1 : (u : Int) ≤ 64 := by omega
      have p1 : (0 : Int) ≤ (u : Int) := by omega
      have xlt : ∀ y ∈ x, y < 256 := by rw [← hx]; exact fun y hy => HLL.out y (List.mem_of_mem_drop (List.mem_of_mem_take hy))
      have HX := Lib.hid (show x = (l.drop k).take (Nat.min M (64 - u)) by rw [← hx]; congr 1; exact hn.symm)
      have HLM := Lib.hid (show M = (l.drop k).length by rw [List.length_drop, HLe.out]; omega)
      have HPOS := Lib.hid (show 0 < x.length by omega)
      have HFIT := Lib.hid (show u + x.length ≤ 64 by omega)
      have HXL := Lib.hid hxl; have HR1 := Lib.hid hr1; have XLT := Lib.hid xlt
      have hml : (m ++ l.take k).length = N + k := by rw [List.length_append, List.length_take, HN.out, HLe.out]; omega
      have hnew : (m ++ l.take k) ++ x = m ++ l.take (k + n) := by rw [List.append_assoc, ← hx, List.take_add]
      have hum : (m ++ l.take k).length % 64 = u := by rw [hml]; exact hku.out
      have HNEW := Lib.hid hnew; have HUM := Lib.hid hum
      obtain ⟨r2, hr2⟩ : ∃ r2, splice r1 u x = r2 := ⟨_, rfl⟩
      have HR2 := Lib.hid hr2
      have sl := fun W : World => slice_l a1 M c1 n n2 W
      have by2 := Lib.hid (cutA_tail (u := n) hBy.out (by rw [← HLM.out]; exact hc1) (by rw [← HLM.out]; exact n2))
      obtain ⟨a2, ha2⟩ : ∃ a2, cutA a1 c1 n = a2 := ⟨_, rfl⟩
      obtain ⟨M2, hM2⟩ : ∃ M2, M - n = M2 := ⟨_, rfl⟩
      obtain ⟨c2, hc2⟩ : ∃ c2, c1 - n = c2 := ⟨_, rfl⟩
      have k2 : (k + n) + M2 = L := by omega
      have c21 : M2 ≤ c2 := by omega
      have mless : M2 < M := by omega
      rw [ha2, hM2, hc2] at sl
      rw [ha2] at by2
      rw [List.drop_drop] at by2
      obtain ⟨v, hv⟩ : ∃ v, u + n = v := ⟨_, rfl⟩
      have hv64 : v ≤ 64 := by omega
      have e5 : (u : Int) + (n : Int) = (v : Int) := by omega
      have e6 : IntKind.i64.wrap ((u : Int) + (n : Int)) = (v : Int) := by rw [IntKind.wrap_i64]; omega
      have HV := Lib.hid (show u + x.length = v by omega)
      have HKU := Lib.hid (show v < 64 → (N + (k + n)) % 64 = v from fun _ => by have := hku.out; omega)
      have HKZ := Lib.hid (show v = 64 → (N + (k + n)) % 64 = 0 from fun _ => by have := hku.out; omega)
      clear hx hxl hr1 hn xlt hml hnew hum hr2 ha2 hM2 hc2 hv hku
      by_cases hfull : v = 64
      · have t1 : ((v : Int) == 64) = true := beq_iff_eq.2 (by omega)
        have hI2 := Lib.hid (hI.out.full x XLT.out (by rw [HUM.out, HV.out]; exact hfull))
        rw [HUM.out, HR2.out, HNEW.out] at hI2
        have HF := Lib.hid hfull
        clear hfull
        go_wp2_with (first | (with_reducible refine wpList_copy_rest rfl _ _ 102 102 rfl 5 Tryd.underlying102 (by kernel_rfl) w.heap.size u _ _ a1 _ _ 123 s1 r1 (l.drop k) x T rfl rfl h0.out HR1.out (hBy.out.mono B) HX.out HLM.out HPOS.out HFIT.out n HXL.out r2 HR2.out ?_) | (with_reducible refine wpList_load_st rfl _ _ rfl w.heap.size rfl 123 s1 r2 T _ _ (h0.out.row_ _) Tryd.underlying119 (by kernel_rfl) ?_) | (with_reducible refine wpList_load_rest rfl _ _ rfl w.heap.size rfl 123 s1 r2 T _ _ (h0.out.row_ _) Tryd.underlying120 (by rw [hI2.out.len]; kernel_rfl) ?_))
        refine (compress_arr s1 r2 _ hI.out.ok hI2.out.len hI2.out.lt (HLA.out.mono (below_setRow B (by omega) _))).mono ?_
        rintro e w3 ⟨rfl, hb3⟩
        have hz3 := hb3.size
        rw [setRow_size] at hz3
        have g0 : Blk w3 w.heap.size 123 (svA s1 r2 T) := (h0.out.row_ _).below hb3 (by rw [setRow_size]; omega)
        have g4 : Blk w3 (w.heap.size + 1) 123 (svA st00 (List.replicate 64 0) 0) := (h4.out.rowfar (by omega) _).below hb3 (by rw [setRow_size]; omega)
        have B3 : Below w.heap.size w w3 := bt (below_setRow B (by omega) _) hb3
        have G0 := Lib.hid g0; have G4 := Lib.hid g4
        clear hb3 g0 g4 h0 h4 B hBy
        go_wp2_with (first | (with_reducible refine wpList_store_st rfl _ _ _ rfl w.heap.size 123 s1 (comp s1 r2) r2 T rfl rfl G0.out hI2.out.len (by kernel_rfl) rfl ?_))
        go_roundw
        case rel =>
          refine ⟨k + n, M2, comp s1 r2, r2, a2, c2, 0, k2, rfl, rfl, by omega, by rw [setRow_size]; omega, below_setRow B3 (by omega) _, c21, Lib.hid (HKZ.out HF.out), hI2, by2, Lib.hid (G0.out.row_ _), Lib.hid (G4.out.rowfar (by omega) _)⟩
        case measure => simp [slen]; omega
      · have t1 : ((v : Int) == 64) = false := beq_eq_false_iff_ne.2 (by omega)
        have hv64' : v < 64 := by omega
        have hI2 := Lib.hid (hI.out.some x XLT.out (by rw [HUM.out, HV.out]; exact hv64'))
        rw [HUM.out, HR2.out, HNEW.out] at hI2
        go_wp2_with (first | (with_reducible refine wpList_copy_rest rfl _ _ 102 102 rfl 5 Tryd.underlying102 (by kernel_rfl) w.heap.size u _ _ a1 _ _ 123 s1 r1 (l.drop k) x T rfl rfl h0.out HR1.out (hBy.out.mono B) HX.out HLM.out HPOS.out HFIT.out n HXL.out r2 HR2.out ?_))
        go_roundw
        case rel =>
          refine ⟨k + n, M2, s1, r2, a2, c2, v, k2, rfl, rfl, hv64', by rw [setRow_size]; omega, below_setRow B (by omega) _, c21, Lib.hid (HKU.out hv64'), hI2, by2, Lib.hid (h0.out.row_ _), Lib.hid (h4.out.rowfar (by omega) _)⟩
        case measure => simp [slen]; omega
    · have hk : k = L := by omega
      have M0 : M = 0 := by omega
      have hI' := hI.out
      rw [hk, ← HLe.out, List.take_length] at hI'
      have HI' := Lib.hid hI'
      have ia : (Tryd.prog.info? 123).map (·.size) = some (svA s1 r1 T).size := by rw [svA_size _ _ _ hr1]; kernel_rfl
      have sz : (svA st00 (List.replicate 64 0) 0).size = (svA s1 r1 T).size := by rw [svA_size _ _ _ hr1]; rfl
      have IA := Lib.hid ia; have SZ := Lib.hid sz
      clear hk hI hI' hr1 ia sz
      subst M0
      go_wp2_with (first | (with_reducible refine wpList_load_all rfl _ _ rfl w.heap.size rfl 123 _ _ h0.out Tryd.underlying123 IA.out ?_) | (with_reducible refine wpList_store_blk rfl _ _ _ rfl (w.heap.size + 1) 123 _ _ rfl rfl h4.out IA.out SZ.out (svA_one _ _ _) rfl ?_))
      refine bodyPost_ret (v := .agg (svA s1 r1 T)) (results_cell_row rfl _ _ _ 123 _ (0, 0) _ rfl (h4.out.row_ _) Tryd.underlying123 rfl IA.out) rfl ⟨s1, r1, HI'.out, ?_, below_setRow B (by omega) _⟩
      rw [HN.out, HLe.out, HT.out]
end Hs
end Go.Proofs.YtcdcnklfcmoiiaaDoor
