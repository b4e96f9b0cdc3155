/- Contracts of the functions of wire: byte strings and lists are written. -/
import Derived.Test.YtlihndekeaefcaaD
namespace Go.Proofs.Ytlihndekeaefcaa
set_option linter.unusedVariables false
set_option linter.unusedSimpArgs false
open Go.RowKit
def encS (s : List Nat) : List Nat := enc s.length ++ s
def encL {α : Type} (f : α → List Nat) (l : List α) : List Nat := enc l.length ++ l.flatMap f
theorem encL_take {α : Type} (f : α → List Nat) (l : List α) (k : Nat) : (enc l.length ++ (l.take k).flatMap f).length ≤ (encL f l).length := by
  unfold encL
  rw [List.length_append, List.length_append]
  have e : l.flatMap f = (l.take k).flatMap f ++ (l.drop k).flatMap f := by rw [← List.flatMap_append, List.take_append_drop]
  rw [e, List.length_append]
  omega
theorem flatMap_snoc {α : Type} (f : α → List Nat) (l : List α) (k : Nat) (h : k < l.length) : (l.take (k + 1)).flatMap f = (l.take k).flatMap f ++ f l[k] := by
  rw [List.take_succ_eq_append_getElem h, List.flatMap_append]
  simp
set_option maxHeartbeats 1000000 in
theorem appendBytes_any (s : ByteArray) (B : Nat) (v : Value) (l : List Nat) (w : World) (hs : s.size ≤ 1000000) (hB : B ≤ w.heap.size) (hown : OwnB w B v l) (hl : l.length ≤ 1000000) :
    Calls Try.prog 39 #[v, .string s] w (Gives B w (l ++ encS (sb s))) := by
  have HO := Lib.hid hown; clear hown
  go_enter Try.func39, Try.ntmps39
  go_wp2_with fail
  refine (appendInt_any _ B _ l _ (by omega) (by omega) hB HO.out hl).mono ?_
  rintro e w1 ⟨v1, rfl, h1, hb1⟩
  have H1 := Lib.hid h1
  have HB := Lib.hid hb1
  clear h1 hb1
  go_wp2_with (at_builtin; refine wpAppS rfl _ _ 9 rfl B _ _ rfl H1.out _ (sb s) rfl (src_string s _) ?hl ?ht ?hBB ?_)
  case hl => rw [List.length_append]; have := (enc_len s.size (by omega) (by omega)).2; omega
  case ht => rw [sb_len]; omega
  case hBB => exact Nat.le_trans hB HB.out.size
  intro v2 w2 h2 hb2
  have H2 := Lib.hid h2
  have HB2 := Lib.hid (HB.out.trans hb2)
  clear h2 hb2
  go_wp2
  go_ret
  refine ⟨_, rfl, ?_, HB2.out⟩
  unfold encS
  rw [sb_len]
  exact H2.out
theorem bytes_any (s : ByteArray) (w : World) (hs : s.size ≤ 1000000) : Calls Try.prog 16 #[.string s] w (Gives w.heap.size w (encS (sb s))) := by
  go_enter Try.func16, Try.ntmps16
  go_wp2_with fail
  refine (appendBytes_any s w.heap.size _ [] w hs (Nat.le_refl _) (OwnB.nil _ _) (by simp)).mono ?_
  rintro e w1 ⟨v, rfl, hv, hb⟩
  go_wp2
  go_ret
  exact ⟨_, rfl, hv, hb⟩
set_option maxHeartbeats 1000000 in
theorem bytesref_any (s : ByteArray) (w : World) (hs : s.size ≤ 1000000) : Calls Try.prog 17 #[.string s] w (Gives w.heap.size w (encS (sb s))) := by
  go_enter Try.func17, Try.ntmps17
  go_wp2_with fail
  refine (intref_any _ _ (by omega) (by omega)).mono ?_
  rintro e w1 ⟨v1, rfl, h1, hb1⟩
  have H1 := Lib.hid h1
  have HB := Lib.hid hb1
  clear h1 hb1
  go_wp2_with (at_builtin; refine wpAppS rfl _ _ 9 rfl w.heap.size _ _ rfl H1.out _ (sb s) rfl (src_string s _) ?hl ?ht ?hBB ?_)
  case hl => have := (enc_len s.size (by omega) (by omega)).2; omega
  case ht => rw [sb_len]; omega
  case hBB => exact HB.out.size
  intro v2 w2 h2 hb2
  have H2 := Lib.hid h2
  have HB2 := Lib.hid (HB.out.trans hb2)
  clear h2 hb2
  go_wp2
  go_ret
  refine ⟨_, rfl, ?_, HB2.out⟩
  unfold encS
  rw [sb_len]
  exact H2.out
/-- A slice of integers in memory, nil included. -/
def IntsA (W : World) (a : Option Addr) (zs : List Int) : Prop :=
  ∀ k, k < zs.length → ∃ b off, a = some ⟨b, off, none⟩ ∧ W.cell? ⟨b, off + k, none⟩ = some (.int .i64 (zs.getD k 0)) ∧ -9223372036854775808 ≤ zs.getD k 0 ∧ zs.getD k 0 ≤ 9223372036854775807
theorem IntsA.mono {W W' : World} {a : Option Addr} {zs : List Int} (h : IntsA W a zs) (hb : Below W.heap.size W W') : IntsA W' a zs := by
  intro k hk
  obtain ⟨b, off, e, h1, h2⟩ := h k hk
  exact ⟨b, off, e, keep h1 hb, h2⟩
/-- A slice of strings in memory, nil included. -/
def StrsA (W : World) (a : Option Addr) (ss : List ByteArray) : Prop :=
  ∀ k, k < ss.length → ∃ b off, a = some ⟨b, off, none⟩ ∧ W.cell? ⟨b, off + k, none⟩ = some (.string (ss.getD k ByteArray.empty))
theorem StrsA.mono {W W' : World} {a : Option Addr} {ss : List ByteArray} (h : StrsA W a ss) (hb : Below W.heap.size W W') : StrsA W' a ss := by
  intro k hk
  obtain ⟨b, off, e, h1⟩ := h k hk
  exact ⟨b, off, e, keep h1 hb⟩
theorem getD_at {α : Type} {l : List α} {k : Nat} (d : α) (h : k < l.length) : l.getD k d = l[k] := by simp [List.getD_eq_getElem?_getD, List.getElem?_eq_getElem h]
set_option maxRecDepth 100000 in
set_option maxHeartbeats 1000000 in
theorem appendInts_any (a : Option Addr) (cap : Nat) (l : List Int) (w : World) (hp : IntsA w a l) (hm : l.length ≤ 1000000) (hT : (encL enc l).length ≤ 1000000) :
    Calls Try.prog 40 #[.slice a l.length cap, .func (.func 38) #[] #[]] w (Gives w.heap.size w (encL enc l)) := by
  have HP := Lib.hid hp; clear hp
  have HT := Lib.hid (fun k => Nat.le_trans (encL_take enc l k) hT); clear hT
  go_enter Try.func40, Try.ntmps40
  go_wp2_with fail
  refine (int_any _ _ (by omega) (by omega)).mono ?_
  rintro e w1 ⟨v1, rfl, h1, hb1⟩
  have H1 := Lib.hid h1
  have HB := Lib.hid hb1
  clear h1 hb1
  go_wp2
  go_loopw [5, 13] (fun u5 u13 wr => ∃ (k : Nat), k ≤ l.length ∧ u13 = .int .i64 k ∧ Hid (OwnB wr w.heap.size u5 (enc l.length ++ (l.take k).flatMap enc)) ∧ Hid (Below w.heap.size w wr)) (fun _ u13 _ => l.length - (intOf u13).toNat)
  case atStart => exact ⟨0, by omega, rfl, Lib.hid (by simpa using H1.out), HB⟩
  case round =>
    obtain ⟨k, hk, rfl, how, hbe⟩ := hrel
    by_cases hlt : k < l.length
    · obtain ⟨b, off, rfl, q1, q2, q3⟩ := HP.out k hlt
      have q1 := keep q1 hbe.out
      obtain ⟨x, hx⟩ : ∃ x, l.getD k 0 = x := ⟨_, rfl⟩
      rw [hx] at q1 q2 q3
      have hfm := flatMap_snoc enc l k hlt
      rw [← getD_at 0 hlt, hx] at hfm
      have HFM := Lib.hid hfm
      have HX := Lib.hid hx
      clear hx hfm
      go_wp2_with fail
      refine (appendInt_any _ w.heap.size _ _ _ q2 q3 hbe.out.size how.out (HT.out k)).mono ?_
      rintro e w2 ⟨v2, rfl, h2, hb2⟩
      have H2 := Lib.hid h2
      have HB2 := Lib.hid (hbe.out.trans hb2)
      clear h2 hb2
      go_wp2
      go_roundw
      case rel => exact ⟨k + 1, by omega, by go_num, Lib.hid (by rw [HFM.out, ← List.append_assoc]; exact H2.out), HB2⟩
      case measure => simp [intOf]; omega
    · obtain rfl : k = l.length := by omega
      go_wp2
      go_ret
      refine ⟨_, rfl, ?_, hbe.out⟩
      have := how.out
      rw [List.take_length] at this
      exact this
set_option maxRecDepth 100000 in
set_option maxHeartbeats 1000000 in
theorem appendStrs_any (a : Option Addr) (cap : Nat) (l : List ByteArray) (w : World) (hp : StrsA w a l) (hm : l.length ≤ 1000000) (hT : (encL (fun s => encS (sb s)) l).length ≤ 1000000) (hz : ∀ k, (l.getD k ByteArray.empty).size ≤ 1000000) :
    Calls Try.prog 41 #[.slice a l.length cap, .func (.func 39) #[] #[]] w (Gives w.heap.size w (encL (fun s => encS (sb s)) l)) := by
  have HP := Lib.hid hp; clear hp
  have HT := Lib.hid (fun k => Nat.le_trans (encL_take (fun s => encS (sb s)) l k) hT); clear hT
  go_enter Try.func41, Try.ntmps41
  go_wp2_with fail
  refine (int_any _ _ (by omega) (by omega)).mono ?_
  rintro e w1 ⟨v1, rfl, h1, hb1⟩
  have H1 := Lib.hid h1
  have HB := Lib.hid hb1
  clear h1 hb1
  go_wp2
  go_loopw [5, 13] (fun u5 u13 wr => ∃ (k : Nat), k ≤ l.length ∧ u13 = .int .i64 k ∧ Hid (OwnB wr w.heap.size u5 (enc l.length ++ (l.take k).flatMap (fun s => encS (sb s)))) ∧ Hid (Below w.heap.size w wr)) (fun _ u13 _ => l.length - (intOf u13).toNat)
  case atStart => exact ⟨0, by omega, rfl, Lib.hid (by simpa using H1.out), HB⟩
  case round =>
    obtain ⟨k, hk, rfl, how, hbe⟩ := hrel
    by_cases hlt : k < l.length
    · obtain ⟨b, off, rfl, q1⟩ := HP.out k hlt
      have q1 := keep q1 hbe.out
      obtain ⟨x, hx⟩ : ∃ x, l.getD k ByteArray.empty = x := ⟨_, rfl⟩
      rw [hx] at q1
      have hfm := flatMap_snoc (fun s => encS (sb s)) l k hlt
      rw [← getD_at ByteArray.empty hlt, hx] at hfm
      have HFM := Lib.hid hfm
      have HX := Lib.hid hx
      clear hx hfm
      go_wp2_with fail
      refine (appendBytes_any _ w.heap.size _ _ _ (by rw [← HX.out]; exact hz k) hbe.out.size how.out (HT.out k)).mono ?_
      rintro e w2 ⟨v2, rfl, h2, hb2⟩
      have H2 := Lib.hid h2
      have HB2 := Lib.hid (hbe.out.trans hb2)
      clear h2 hb2
      go_wp2
      go_roundw
      case rel => exact ⟨k + 1, by omega, by go_num, Lib.hid (by rw [HFM.out, ← List.append_assoc]; exact H2.out), HB2⟩
      case measure => simp [intOf]; omega
    · obtain rfl : k = l.length := by omega
      go_wp2
      go_ret
      refine ⟨_, rfl, ?_, hbe.out⟩
      have := how.out
      rw [List.take_length] at this
      exact this
/-- What a row of bytes yields to append. -/
theorem gives_src {B : Nat} {w : World} {v : Value} {l : List Nat} (h : OwnB w B v l) (hl : l.length ≤ 1000000000) : Src Try.prog 1 28 v l.length (l.map bv) w ∧ l.length ≤ 1000000000 := by
  refine ⟨?_, hl⟩
  rcases h.2 with ⟨rfl, h0⟩ | ⟨g, cap, cur, rfl, hbg, hg, hnc, hcm, hcs, htake⟩
  · obtain rfl : l = [] := List.eq_nil_of_length_eq_zero h0
    exact Src.ofNil w Try.underlying28 0
  · exact Src.ofSlice w Try.underlying28 _ _ _ _ (by simp) (h.cells (g := g) rfl) (fun u hu => by obtain ⟨_, _, rfl⟩ := List.mem_map.1 hu; rfl)
set_option maxRecDepth 100000 in
set_option maxHeartbeats 1000000 in
theorem intsref_any (a : Option Addr) (cap : Nat) (l : List Int) (w : World) (hp : IntsA w a l) (hm : l.length ≤ 1000000) (hT : (encL enc l).length ≤ 1000000) :
    Calls Try.prog 19 #[.slice a l.length cap] w (Gives w.heap.size w (encL enc l)) := by
  have HP := Lib.hid hp; clear hp
  have HT := Lib.hid (fun k => Nat.le_trans (encL_take enc l k) hT); clear hT
  go_enter Try.func19, Try.ntmps19
  go_wp2_with fail
  refine (intref_any _ _ (by omega) (by omega)).mono ?_
  rintro e w1 ⟨v1, rfl, h1, hb1⟩
  have H1 := Lib.hid h1
  have HB := Lib.hid hb1
  clear h1 hb1
  go_wp2
  go_loopw [3, 4] (fun u5 u13 wr => ∃ (k : Nat), k ≤ l.length ∧ u13 = .int .i64 k ∧ Hid (OwnB wr w.heap.size u5 (enc l.length ++ (l.take k).flatMap enc)) ∧ Hid (Below w.heap.size w wr)) (fun _ u13 _ => l.length - (intOf u13).toNat)
  case atStart => exact ⟨0, by omega, rfl, Lib.hid (by simpa using H1.out), HB⟩
  case round =>
    obtain ⟨k, hk, rfl, how, hbe⟩ := hrel
    by_cases hlt : k < l.length
    · obtain ⟨b, off, rfl, q1, q2, q3⟩ := HP.out k hlt
      have q1 := keep q1 hbe.out
      obtain ⟨x, hx⟩ : ∃ x, l.getD k 0 = x := ⟨_, rfl⟩
      rw [hx] at q1 q2 q3
      have hfm := flatMap_snoc enc l k hlt
      rw [← getD_at 0 hlt, hx] at hfm
      have HFM := Lib.hid hfm
      have HX := Lib.hid hx
      clear hx hfm
      go_wp2_with fail
      refine (intref_any _ _ q2 q3).mono ?_
      rintro e w2 ⟨v2, rfl, h2, hb2⟩
      have HOW := Lib.hid (own_below how.out (hb2.mono (Nat.le_refl _)))
      obtain ⟨src, hsl⟩ := gives_src h2 (by have := HT.out (k + 1); rw [HFM.out] at this; simp only [List.length_append] at this; omega)
      have SRC := Lib.hid src
      have HB2 := Lib.hid (bt hbe.out hb2)
      have HL := Lib.hid hsl
      clear h2 hb2 src hsl
      go_wp2_with (at_builtin; refine wpAppS rfl _ _ 28 rfl w.heap.size _ _ rfl HOW.out _ _ rfl SRC.out ?hl ?ht ?hBB ?_)
      case hl => exact Nat.le_trans (HT.out k) (by omega)
      case ht => exact HL.out
      case hBB => exact HB2.out.size
      intro v3 w3 h3 hb3
      have H3 := Lib.hid h3
      have HB3 := Lib.hid (HB2.out.trans hb3)
      clear h3 hb3
      go_wp2
      go_roundw
      case rel => exact ⟨k + 1, by omega, by go_num, Lib.hid (by rw [HFM.out]; exact H3.out), HB3⟩
      case measure => simp [intOf]; omega
    · obtain rfl : k = l.length := by omega
      go_wp2
      go_ret
      refine ⟨_, rfl, ?_, hbe.out⟩
      have := how.out
      rw [List.take_length] at this
      exact this
set_option maxRecDepth 100000 in
set_option maxHeartbeats 1000000 in
theorem strsref_any (a : Option Addr) (cap : Nat) (l : List ByteArray) (w : World) (hp : StrsA w a l) (hm : l.length ≤ 1000000) (hT : (encL (fun s => encS (sb s)) l).length ≤ 1000000) (hz : ∀ k, (l.getD k ByteArray.empty).size ≤ 1000000) :
    Calls Try.prog 21 #[.slice a l.length cap] w (Gives w.heap.size w (encL (fun s => encS (sb s)) l)) := by
  have HP := Lib.hid hp; clear hp
  have HT := Lib.hid (fun k => Nat.le_trans (encL_take (fun s => encS (sb s)) l k) hT); clear hT
  go_enter Try.func21, Try.ntmps21
  go_wp2_with fail
  refine (intref_any _ _ (by omega) (by omega)).mono ?_
  rintro e w1 ⟨v1, rfl, h1, hb1⟩
  have H1 := Lib.hid h1
  have HB := Lib.hid hb1
  clear h1 hb1
  go_wp2
  go_loopw [3, 4] (fun u5 u13 wr => ∃ (k : Nat), k ≤ l.length ∧ u13 = .int .i64 k ∧ Hid (OwnB wr w.heap.size u5 (enc l.length ++ (l.take k).flatMap (fun s => encS (sb s)))) ∧ Hid (Below w.heap.size w wr)) (fun _ u13 _ => l.length - (intOf u13).toNat)
  case atStart => exact ⟨0, by omega, rfl, Lib.hid (by simpa using H1.out), HB⟩
  case round =>
    obtain ⟨k, hk, rfl, how, hbe⟩ := hrel
    by_cases hlt : k < l.length
    · obtain ⟨b, off, rfl, q1⟩ := HP.out k hlt
      have q1 := keep q1 hbe.out
      obtain ⟨x, hx⟩ : ∃ x, l.getD k ByteArray.empty = x := ⟨_, rfl⟩
      rw [hx] at q1
      have hfm := flatMap_snoc (fun s => encS (sb s)) l k hlt
      rw [← getD_at ByteArray.empty hlt, hx] at hfm
      have HFM := Lib.hid hfm
      have HX := Lib.hid hx
      clear hx hfm
      go_wp2_with fail
      refine (bytesref_any _ _ (by rw [← HX.out]; exact hz k)).mono ?_
      rintro e w2 ⟨v2, rfl, h2, hb2⟩
      have HOW := Lib.hid (own_below how.out (hb2.mono (Nat.le_refl _)))
      obtain ⟨src, hsl⟩ := gives_src h2 (by have := HT.out (k + 1); rw [HFM.out] at this; simp only [List.length_append] at this; omega)
      have SRC := Lib.hid src
      have HB2 := Lib.hid (bt hbe.out hb2)
      have HL := Lib.hid hsl
      clear h2 hb2 src hsl
      go_wp2_with (at_builtin; refine wpAppS rfl _ _ 28 rfl w.heap.size _ _ rfl HOW.out _ _ rfl SRC.out ?hl ?ht ?hBB ?_)
      case hl => exact Nat.le_trans (HT.out k) (by omega)
      case ht => exact HL.out
      case hBB => exact HB2.out.size
      intro v3 w3 h3 hb3
      have H3 := Lib.hid h3
      have HB3 := Lib.hid (HB2.out.trans hb3)
      clear h3 hb3
      go_wp2
      go_roundw
      case rel => exact ⟨k + 1, by omega, by go_num, Lib.hid (by rw [HFM.out]; exact H3.out), HB3⟩
      case measure => simp [intOf]; omega
    · obtain rfl : k = l.length := by omega
      go_wp2
      go_ret
      refine ⟨_, rfl, ?_, hbe.out⟩
      have := how.out
      rw [List.take_length] at this
      exact this
theorem ints_any (a : Option Addr) (cap : Nat) (l : List Int) (w : World) (hp : IntsA w a l) (hm : l.length ≤ 1000000) (hT : (encL enc l).length ≤ 1000000) :
    Calls Try.prog 18 #[.slice a l.length cap] w (Gives w.heap.size w (encL enc l)) := by
  have HP := Lib.hid hp; clear hp
  have HT := Lib.hid hT; clear hT
  go_enter Try.func18, Try.ntmps18
  go_wp2_with fail
  refine (appendInts_any a cap l w HP.out hm HT.out).mono ?_
  rintro e w1 ⟨v, rfl, hv, hb⟩
  go_wp2
  go_ret
  exact ⟨_, rfl, hv, hb⟩
theorem strs_any (a : Option Addr) (cap : Nat) (l : List ByteArray) (w : World) (hp : StrsA w a l) (hm : l.length ≤ 1000000) (hT : (encL (fun s => encS (sb s)) l).length ≤ 1000000) (hz : ∀ k, (l.getD k ByteArray.empty).size ≤ 1000000) :
    Calls Try.prog 20 #[.slice a l.length cap] w (Gives w.heap.size w (encL (fun s => encS (sb s)) l)) := by
  have HP := Lib.hid hp; clear hp
  have HT := Lib.hid hT; clear hT
  go_enter Try.func20, Try.ntmps20
  go_wp2_with fail
  refine (appendStrs_any a cap l w HP.out hm HT.out hz).mono ?_
  rintro e w1 ⟨v, rfl, hv, hb⟩
  go_wp2
  go_ret
  exact ⟨_, rfl, hv, hb⟩
end Go.Proofs.Ytlihndekeaefcaa
