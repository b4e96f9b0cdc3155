/- Contracts of the functions of wire: byte strings are read. -/
import Derived.Test.YtlihndekeaefcaaE
namespace Go.Proofs.Ytlihndekeaefcaa
set_option linter.unusedVariables false
set_option linter.unusedSimpArgs false
open Go.RowKit
theorem BytesA.lt {W : World} {a : Option Addr} {l : List Nat} (h : BytesA W a l) : ∀ x ∈ l, x < 256 := by
  intro x hx
  obtain ⟨k, hk, rfl⟩ := List.getElem_of_mem hx
  obtain ⟨b, off, -, -, h2⟩ := h k hk
  rwa [getD_at 0 hk] at h2
theorem G_bd {l : List Nat} (hb : ∀ x ∈ l, x < 256) : -9223372036854775808 ≤ (G l).1 ∧ (G l).1 ≤ 9223372036854775807 ∧ (G l).2.1 ≤ l.length ∧ ((G l).2.2 = 0 ∨ (G l).2.2 = 10 ∨ (G l).2.2 = 11) ∧ (G l).2.1 ≤ 10 := by
  have h := getI_only 11 10 (by decide) (by decide) l hb
  have e : (G l).2.2 = 0 ∨ (G l).2.2 = 10 ∨ (G l).2.2 = 11 := by unfold G getI; split <;> (try split) <;> (try split) <;> simp
  have u : (G l).2.1 ≤ 10 := by unfold G getI; split <;> (try split) <;> (try split) <;> simp <;> omega
  by_cases h0 : (G l).2.2 = 0
  · obtain ⟨h1, -, h2, h3, -⟩ := h h0
    exact ⟨h2, h3, h1, e, u⟩
  · have : (G l).1 = 0 ∧ (G l).2.1 = 0 := by
      have hle := lead_le l
      by_cases c1 : 10 ≤ lead l
      · rw [G_long c1]; exact ⟨rfl, rfl⟩
      by_cases c2 : lead l = l.length
      · rw [G_short (by omega) c2]; exact ⟨rfl, rfl⟩
      by_cases c3 : (lead l = 9 ∧ 1 < l.getD (lead l) 0) ∨ (0 < lead l ∧ l.getD (lead l) 0 = 0)
      · rw [G_odd (by omega) (by omega) c3]; exact ⟨rfl, rfl⟩
      · rw [G_ok (by omega) (by omega) c3] at h0; exact absurd rfl h0
    omega
/-- A length, of elements that have at least s bytes each. -/
def GL (s : Nat) (l : List Nat) : Int × Nat × Nat :=
  if (G l).2.2 ≠ 0 then (0, 0, (G l).2.2) else if (G l).1 < 0 then (0, 0, 11) else if (((l.length - (G l).2.1) / s : Nat) : Int) < (G l).1 then (0, 0, 10) else ((G l).1, (G l).2.1, 0)
def GLV (s : Nat) (l : List Nat) : Value := .tuple #[.int .i64 (GL s l).1, .int .i64 ((GL s l).2.1 : Nat), .int .i64 ((GL s l).2.2 : Nat)]
theorem GL_err {s : Nat} {l : List Nat} {n : Int} {u e : Nat} (h : G l = (n, u, e)) (he : e ≠ 0) : GL s l = (0, 0, e) := by unfold GL; rw [h]; simp [he]
theorem GL_neg {s : Nat} {l : List Nat} {n : Int} {u : Nat} (h : G l = (n, u, 0)) (hn : n < 0) : GL s l = (0, 0, 11) := by unfold GL; rw [h]; simp [hn]
theorem GL_big {s : Nat} {l : List Nat} {n : Int} {u : Nat} (h : G l = (n, u, 0)) (hn : 0 ≤ n) (h2 : (((l.length - u) / s : Nat) : Int) < n) : GL s l = (0, 0, 10) := by
  unfold GL; rw [h]; simp only [ne_eq, not_true_eq_false, if_false]; rw [if_neg (by omega), if_pos h2]
theorem GL_ok {s : Nat} {l : List Nat} {n : Int} {u : Nat} (h : G l = (n, u, 0)) (hn : 0 ≤ n) (h2 : n ≤ (((l.length - u) / s : Nat) : Int)) : GL s l = (n, u, 0) := by
  unfold GL; rw [h]; simp only [ne_eq, not_true_eq_false, if_false]; rw [if_neg (by omega), if_neg (by omega)]
set_option maxRecDepth 100000 in
set_option maxHeartbeats 1000000 in
theorem getLength_any (s : Nat) (a : Option Addr) (cap : Nat) (l : List Nat) (w : World) (hs : 1 ≤ s) (hs2 : s ≤ 1000) (hp : BytesA w a l) (hm : l.length ≤ 1000000) :
    Calls Try.prog 45 #[.slice a l.length cap, .int .i64 (s : Nat)] w fun e w' => e = .returned (GLV s l) ∧ w = w' := by
  obtain ⟨g1, g2, g3, g4, g5⟩ := G_bd hp.lt
  have C := Lib.hid (getInt_any a cap l w hp (by omega))
  unfold GV at C
  obtain ⟨n, u, e, hG⟩ : ∃ n u e, G l = (n, u, e) := ⟨_, _, _, rfl⟩
  rw [hG] at g1 g2 g3 g4 g5 C
  simp only at g1 g2 g3 g4 g5 C
  have B1 := Lib.hid g1
  have B2 := Lib.hid g2
  clear g1 g2
  by_cases he : e = 0
  · subst he
    by_cases hn : n < 0
    · have HL := Lib.hid (GL_neg (s := s) hG hn)
      clear hG g4
      go_enter Try.func45, Try.ntmps45
      go_wp2_with fail
      refine C.out.mono ?_
      rintro e w1 ⟨rfl, rfl⟩
      go_wp2
      go_ret3
      exact ⟨by unfold GLV; rw [HL.out]; rfl, rfl⟩
    · have hd : ((l.length : Int) - u) / s = (((l.length - u) / s : Nat) : Int) := by rw [Int.natCast_ediv]; congr 1; omega
      have hd2 : (l.length - u) / s ≤ l.length := Nat.le_trans (Nat.div_le_self _ _) (Nat.sub_le _ _)
      by_cases hb : (((l.length - u) / s : Nat) : Int) < n
      · have HL := Lib.hid (GL_big (s := s) hG (by omega) hb)
        obtain ⟨q, hq⟩ : ∃ q, (l.length - u) / s = q := ⟨_, rfl⟩
        rw [hq] at hd hd2 hb
        clear hG g4 hq
        go_enter Try.func45, Try.ntmps45
        go_wp2_with fail
        refine C.out.mono ?_
        rintro e w1 ⟨rfl, rfl⟩
        go_wp2
        go_ret3
        exact ⟨by unfold GLV; rw [HL.out]; rfl, rfl⟩
      · have HL := Lib.hid (GL_ok (s := s) hG (by omega) (by omega))
        obtain ⟨q, hq⟩ : ∃ q, (l.length - u) / s = q := ⟨_, rfl⟩
        rw [hq] at hd hd2 hb
        clear hG g4 hq
        go_enter Try.func45, Try.ntmps45
        go_wp2_with fail
        refine C.out.mono ?_
        rintro e w1 ⟨rfl, rfl⟩
        go_wp2
        go_ret3
        exact ⟨by unfold GLV; rw [HL.out]; rfl, rfl⟩
  · have HL := Lib.hid (GL_err (s := s) hG he)
    have he' : ((e : Int) == 0) = false := by simp; omega
    have he2 : ((e : Int) != 0) = true := by simp; omega
    clear hG g4 he
    go_enter Try.func45, Try.ntmps45
    go_wp2_with fail
    refine C.out.mono ?_
    rintro e w1 ⟨rfl, rfl⟩
    go_wp2
    go_ret3
    exact ⟨by unfold GLV; rw [HL.out]; rfl, rfl⟩
set_option maxRecDepth 100000 in
set_option maxHeartbeats 1000000 in
theorem getLengthref_any (s : Nat) (a : Option Addr) (cap : Nat) (l : List Nat) (w : World) (hs : 1 ≤ s) (hs2 : s ≤ 1000) (hp : BytesA w a l) (hm : l.length ≤ 1000000) :
    Calls Try.prog 47 #[.slice a l.length cap, .int .i64 (s : Nat)] w fun e w' => e = .returned (GLV s l) ∧ w = w' := by
  obtain ⟨g1, g2, g3, g4, g5⟩ := G_bd hp.lt
  have C := Lib.hid (getIntref_any a cap l w hp (by omega))
  unfold GV at C
  obtain ⟨n, u, e, hG⟩ : ∃ n u e, G l = (n, u, e) := ⟨_, _, _, rfl⟩
  rw [hG] at g1 g2 g3 g4 g5 C
  simp only at g1 g2 g3 g4 g5 C
  have B1 := Lib.hid g1
  have B2 := Lib.hid g2
  clear g1 g2
  by_cases he : e = 0
  · subst he
    by_cases hn : n < 0
    · have HL := Lib.hid (GL_neg (s := s) hG hn)
      clear hG g4
      go_enter Try.func47, Try.ntmps47
      go_wp2_with fail
      refine C.out.mono ?_
      rintro e w1 ⟨rfl, rfl⟩
      go_wp2
      go_ret3
      exact ⟨by unfold GLV; rw [HL.out]; rfl, rfl⟩
    · have hd : ((l.length : Int) - u) / s = (((l.length - u) / s : Nat) : Int) := by rw [Int.natCast_ediv]; congr 1; omega
      have hd2 : (l.length - u) / s ≤ l.length := Nat.le_trans (Nat.div_le_self _ _) (Nat.sub_le _ _)
      by_cases hb : (((l.length - u) / s : Nat) : Int) < n
      · have HL := Lib.hid (GL_big (s := s) hG (by omega) hb)
        obtain ⟨q, hq⟩ : ∃ q, (l.length - u) / s = q := ⟨_, rfl⟩
        rw [hq] at hd hd2 hb
        clear hG g4 hq
        go_enter Try.func47, Try.ntmps47
        go_wp2_with fail
        refine C.out.mono ?_
        rintro e w1 ⟨rfl, rfl⟩
        go_wp2
        go_ret3
        exact ⟨by unfold GLV; rw [HL.out]; rfl, rfl⟩
      · have HL := Lib.hid (GL_ok (s := s) hG (by omega) (by omega))
        obtain ⟨q, hq⟩ : ∃ q, (l.length - u) / s = q := ⟨_, rfl⟩
        rw [hq] at hd hd2 hb
        clear hG g4 hq
        go_enter Try.func47, Try.ntmps47
        go_wp2_with fail
        refine C.out.mono ?_
        rintro e w1 ⟨rfl, rfl⟩
        go_wp2
        go_ret3
        exact ⟨by unfold GLV; rw [HL.out]; rfl, rfl⟩
  · have HL := Lib.hid (GL_err (s := s) hG he)
    have he' : ((e : Int) == 0) = false := by simp; omega
    have he2 : ((e : Int) != 0) = true := by simp; omega
    clear hG g4 he
    go_enter Try.func47, Try.ntmps47
    go_wp2_with fail
    refine C.out.mono ?_
    rintro e w1 ⟨rfl, rfl⟩
    go_wp2
    go_ret3
    exact ⟨by unfold GLV; rw [HL.out]; rfl, rfl⟩
theorem GL_bd {s : Nat} {l : List Nat} (hb : ∀ x ∈ l, x < 256) (hm : l.length ≤ 1000000) : 0 ≤ (GL s l).1 ∧ ((GL s l).2.2 = 0 → (GL s l).1 ≤ (((l.length - (GL s l).2.1) / s : Nat) : Int)) ∧ (GL s l).2.1 ≤ l.length ∧ (GL s l).2.2 ≤ 11 ∧ (GL s l).2.1 ≤ 10 := by
  obtain ⟨g1, g2, g3, g4, g5⟩ := G_bd hb
  unfold GL
  split
  · exact ⟨by simp, fun h => by simp at h; omega, by simp, by simp; omega, by simp⟩
  · split
    · exact ⟨by simp, fun h => by simp at h, by simp, by simp, by simp⟩
    · split
      · exact ⟨by simp, fun h => by simp at h, by simp, by simp, by simp⟩
      · exact ⟨by simp; omega, fun _ => by simp only at *; omega, g3, by simp, g5⟩
/-- The string of bytes. -/
def strB (m : List Nat) : ByteArray := strOfNums (m.map fun (x : Nat) => (x : Int))
theorem strB_size (m : List Nat) : (strB m).size = m.length := by unfold strB; rw [strOfNums_size, List.length_map]
theorem sb_strB (m : List Nat) (h : ∀ x ∈ m, x < 256) : sb (strB m) = m := by
  unfold sb strB
  rw [strOfNums_data, List.map_map, List.map_map]
  conv => rhs; rw [← List.map_id m]
  apply List.map_congr_left
  intro x hx
  have := h x hx
  simp
  omega
theorem strB_sb (s : ByteArray) : strB (sb s) = s := by
  apply ByteArray.ext
  apply Array.toList_inj.1
  unfold strB sb
  rw [strOfNums_data, List.map_map, List.map_map]
  conv => rhs; rw [← List.map_id s.data.toList]
  apply List.map_congr_left
  intro x hx
  simp
/-- Bytes as a string. -/
theorem conv_str (m : List Nat) (a : Option Addr) (c : Nat) (W : World) (h : BytesA W a m) : (convert 28 9 (.slice a m.length c)).run Try.prog W = .ok (.string (strB m)) W := by
  cases a with
  | none =>
    have : m = [] := by
      cases m with
      | nil => rfl
      | cons x xs => obtain ⟨b, off, e, -⟩ := h 0 (by simp); cases e
    subst this
    exact run_convert_bytes_nil W 28 5 Try.underlying28 Try.underlying5 0 c 9 Try.underlying9
  | some p =>
    obtain ⟨b, off, sp⟩ := p
    cases sp with
    | none => exact run_convert_bytes_arg W 28 5 Try.underlying28 Try.underlying5 b off m.length c (m.map fun (x : Nat) => (x : Int)) (by simp) (fun i hi => by
        obtain ⟨b', off', e, h1, -⟩ := h i hi
        simp only [Option.some.injEq, Addr.mk.injEq, and_true] at e
        obtain ⟨rfl, rfl⟩ := e
        rw [h1]
        unfold bv
        simp [List.getD_eq_getElem?_getD, List.getElem?_eq_getElem hi]) 9 Try.underlying9
    | some q =>
      have : m = [] := by
        cases m with
        | nil => rfl
        | cons x xs => obtain ⟨b', off', e, -⟩ := h 0 (by simp); simp at e
      subst this
      have hl : (loadCells ⟨b, off, some q⟩ 0).run Try.prog W = .ok (([] : List Int).map (Value.int .u8)).toArray W := run_loadCells_list (P := Try.prog) W ⟨b, off, some q⟩ [] (fun j v hj => by simp at hj)
      show (convert 28 9 (.slice (some ⟨b, off, some q⟩) 0 c)).run Try.prog W = _
      rw [run_convert_bytes_string W 28 9 5 _ 0 c Try.underlying28 Try.underlying5 Try.underlying9, run_bytesToString W _ 0 c [] hl]
      rfl
theorem sizeOf5 (W : World) : (Go.sizeOf 5).run Try.prog W = .ok 1 W := by kernel_rfl
/-- Where a slice of a slice lies. -/
def cutA (a : Option Addr) (cap u : Nat) : Option Addr := if cap = u then a else a.map (·.add (u * 1))
theorem cutA_bytes {W : World} {a : Option Addr} {l : List Nat} {cap u : Nat} (h : BytesA W a l) (hc : l.length ≤ cap) (n : Nat) (hn : u + n ≤ l.length) : BytesA W (cutA a cap u) ((l.drop u).take n) := by
  intro k hk
  rw [List.length_take, List.length_drop] at hk
  obtain ⟨b, off, rfl, h1, h2⟩ := h (u + k) (by omega)
  have e : ((l.drop u).take n).getD k 0 = l.getD (u + k) 0 := by
    simp [List.getD_eq_getElem?_getD, List.getElem?_take, show k < n by omega, List.getElem?_drop]
  rw [e]
  refine ⟨b, off + u, ?_, by rw [Nat.add_assoc]; exact h1, h2⟩
  unfold cutA
  rw [if_neg (by omega)]
  simp [Addr.add]
theorem slice_lh (a : Option Addr) (n cap u h : Nat) (h1 : u ≤ h) (h2 : h ≤ cap) (W : World) : (Instr.slice 28 (.slice a n cap) (some (.int .i64 (u : Int))) (some (.int .i64 (h : Int))) none).run Try.prog W = .ok (.slice (cutA a cap u) (h - u) (cap - u)) W := by
  have ht' : Try.prog.underlying 28 = some (.slice (Try.prog.elem 28)) := by kernel_rfl
  have he : Try.prog.elem 28 = 5 := by kernel_rfl
  rw [run_slice_lh W 28 _ _ _ ht' .i64 .i64 _ _ (by omega) (by omega) (by omega), he, sizeOf5]
  rfl
theorem slice_l (a : Option Addr) (n cap u : Nat) (h1 : u ≤ n) (W : World) : (Instr.slice 28 (.slice a n cap) (some (.int .i64 (u : Int))) none none).run Try.prog W = .ok (.slice (cutA a cap u) (n - u) (cap - u)) W := by
  have ht' : Try.prog.underlying 28 = some (.slice (Try.prog.elem 28)) := by kernel_rfl
  have he : Try.prog.elem 28 = 5 := by kernel_rfl
  rw [run_slice_l W 28 _ _ _ ht' .i64 _ (by omega) (by omega), he, sizeOf5]
  rfl
/-- What GetBytes answers. -/
def GB (l : List Nat) : List Nat × Nat × Nat := if (GL 1 l).2.2 ≠ 0 then ([], 0, (GL 1 l).2.2) else ((l.drop (GL 1 l).2.1).take (GL 1 l).1.toNat, (GL 1 l).2.1 + (GL 1 l).1.toNat, 0)
def GBV (l : List Nat) : Value := .tuple #[.string (strB (GB l).1), .int .i64 ((GB l).2.1 : Nat), .int .i64 ((GB l).2.2 : Nat)]
theorem GB_err {l : List Nat} {n : Int} {u e : Nat} (h : GL 1 l = (n, u, e)) (he : e ≠ 0) : GB l = ([], 0, e) := by unfold GB; rw [h]; simp [he]
theorem GB_ok {l : List Nat} {n u : Nat} (h : GL 1 l = ((n : Int), u, 0)) : GB l = ((l.drop u).take n, u + n, 0) := by unfold GB; rw [h]; simp
set_option maxRecDepth 100000 in
set_option maxHeartbeats 1000000 in
theorem getBytes_any (a : Option Addr) (cap : Nat) (l : List Nat) (w : World) (hc : l.length ≤ cap) (hp : BytesA w a l) (hm : l.length ≤ 1000000) :
    Calls Try.prog 26 #[.slice a l.length cap] w fun e w' => e = .returned (GBV l) ∧ w = w' := by
  obtain ⟨g1, g2, g3, g4, g5⟩ := GL_bd (s := 1) hp.lt hm
  have C := Lib.hid (getLength_any 1 a cap l w (by omega) (by omega) hp hm)
  unfold GLV at C
  obtain ⟨n, u, e, hG⟩ : ∃ n u e, GL 1 l = (n, u, e) := ⟨_, _, _, rfl⟩
  rw [hG] at g1 g2 g3 g4 g5 C
  simp only [Nat.div_one] at g1 g2 g3 g4 g5 C
  obtain ⟨n, rfl⟩ : ∃ m : Nat, n = m := ⟨n.toNat, by omega⟩
  by_cases he : e = 0
  · subst he
    have g2' := g2 rfl
    have HL := Lib.hid (GB_ok hG)
    have hsl := slice_lh a l.length cap u (u + n) (by omega) (by omega) w
    rw [show u + n - u = n by omega, Int.natCast_add] at hsl
    have hcv := conv_str ((l.drop u).take n) (cutA a cap u) (cap - u) w (cutA_bytes hp hc n (by omega))
    rw [List.length_take, List.length_drop, Nat.min_eq_left (by omega)] at hcv
    clear hG g2
    go_enter Try.func26, Try.ntmps26
    go_wp2_with fail
    refine C.out.mono ?_
    rintro e w1 ⟨rfl, rfl⟩
    go_wp2
    go_ret3
    exact ⟨by unfold GBV; rw [HL.out]; rfl, rfl⟩
  · have HL := Lib.hid (GB_err hG he)
    have he' : ((e : Int) == 0) = false := by simp; omega
    have he2 : ((e : Int) != 0) = true := by simp; omega
    clear hG g2 he
    go_enter Try.func26, Try.ntmps26
    go_wp2_with fail
    refine C.out.mono ?_
    rintro e w1 ⟨rfl, rfl⟩
    go_wp2
    go_ret3
    exact ⟨by unfold GBV; rw [HL.out]; rfl, rfl⟩
set_option maxRecDepth 100000 in
set_option maxHeartbeats 1000000 in
theorem getBytesref_any (a : Option Addr) (cap : Nat) (l : List Nat) (w : World) (hc : l.length ≤ cap) (hp : BytesA w a l) (hm : l.length ≤ 1000000) :
    Calls Try.prog 27 #[.slice a l.length cap] w fun e w' => e = .returned (GBV l) ∧ w = w' := by
  obtain ⟨g1, g2, g3, g4, g5⟩ := G_bd hp.lt
  have C := Lib.hid (getIntref_any a cap l w hp (by omega))
  unfold GV at C
  obtain ⟨n, u, e, hG⟩ : ∃ n u e, G l = (n, u, e) := ⟨_, _, _, rfl⟩
  rw [hG] at g1 g2 g3 g4 g5 C
  simp only at g1 g2 g3 g4 g5 C
  have B1 := Lib.hid g1
  have B2 := Lib.hid g2
  clear g1 g2
  by_cases he : e = 0
  · subst he
    by_cases hn : n < 0
    · have HL := Lib.hid (GB_err (GL_neg (s := 1) hG hn) (by omega))
      clear hG g4
      go_enter Try.func27, Try.ntmps27
      go_wp2_with fail
      refine C.out.mono ?_
      rintro e w1 ⟨rfl, rfl⟩
      go_wp2
      go_ret3
      exact ⟨by unfold GBV; rw [HL.out]; rfl, rfl⟩
    · by_cases hb : ((l.length : Int) - u) < n
      · have HL := Lib.hid (GB_err (GL_big (s := 1) hG (by omega) (by rw [Nat.div_one]; omega)) (by omega))
        clear hG g4
        go_enter Try.func27, Try.ntmps27
        go_wp2_with fail
        refine C.out.mono ?_
        rintro e w1 ⟨rfl, rfl⟩
        go_wp2
        go_ret3
        exact ⟨by unfold GBV; rw [HL.out]; rfl, rfl⟩
      · obtain ⟨n, rfl⟩ : ∃ m : Nat, n = m := ⟨n.toNat, by omega⟩
        have HL := Lib.hid (GB_ok (GL_ok (s := 1) hG (by omega) (by rw [Nat.div_one]; omega)))
        have hsl := slice_lh a l.length cap u (u + n) (by omega) (by omega) w
        rw [show u + n - u = n by omega, Int.natCast_add] at hsl
        have hcv := conv_str ((l.drop u).take n) (cutA a cap u) (cap - u) w (cutA_bytes hp hc n (by omega))
        rw [List.length_take, List.length_drop, Nat.min_eq_left (by omega)] at hcv
        clear hG g4
        go_enter Try.func27, Try.ntmps27
        go_wp2_with fail
        refine C.out.mono ?_
        rintro e w1 ⟨rfl, rfl⟩
        go_wp2
        go_ret3
        exact ⟨by unfold GBV; rw [HL.out]; rfl, rfl⟩
  · have HL := Lib.hid (GB_err (GL_err (s := 1) hG he) he)
    have he' : ((e : Int) == 0) = false := by simp; omega
    have he2 : ((e : Int) != 0) = true := by simp; omega
    clear hG g4 he
    go_enter Try.func27, Try.ntmps27
    go_wp2_with fail
    refine C.out.mono ?_
    rintro e w1 ⟨rfl, rfl⟩
    go_wp2
    go_ret3
    exact ⟨by unfold GBV; rw [HL.out]; rfl, rfl⟩
end Go.Proofs.Ytlihndekeaefcaa
