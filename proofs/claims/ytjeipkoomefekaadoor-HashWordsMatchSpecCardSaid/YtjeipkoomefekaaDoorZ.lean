/- Contracts of the reference: Five, Bytes, Words; rows of integers of the call's own. -/
import Derived.Test.YtjeipkoomefekaaDoorW
import Derived.Test.YtjeipkoomefekaaDoorT
namespace Go.Proofs.YtjeipkoomefekaaDoor
set_option linter.unusedVariables false
set_option linter.unusedSimpArgs false
open Go.RowKit
set_option maxRecDepth 100000 in
set_option maxHeartbeats 1000000 in
theorem five_any (n : Int) (w : World) : Calls Tryd.prog 43 #[.int .i64 n] w (Gives w.heap.size w (five (low n))) := by
  have fl : (five (low n)).length = 5 := rfl
  have ft : ∀ k, k < 5 → (five (low n)).take (k + 1) = (five (low n)).take k ++ [(five (low n)).getD k 0] := fun k hk => by
    rw [List.take_add_one, List.getElem?_eq_getElem (by rw [fl]; exact hk), List.getD_eq_getElem?_getD, List.getElem?_eq_getElem (by rw [fl]; exact hk)]
    rfl
  have fv : ∀ k, k < 5 → n / 2 ^ (32 - 8 * k) % 256 = (((five (low n)).getD k 0 : Nat) : Int) := fun k hk => by
    unfold five low
    rcases (by omega : k = 0 ∨ k = 1 ∨ k = 2 ∨ k = 3 ∨ k = 4) with h | h | h | h | h <;> subst h <;> simp <;> omega
  obtain ⟨F, hF⟩ : ∃ F, five (low n) = F := ⟨_, rfl⟩
  simp only [hF] at fl ft fv ⊢
  have FL := Lib.hid fl; have FT := Lib.hid ft; have FV := Lib.hid fv
  clear hF fl ft fv
  go_enter Tryd.func43, Tryd.ntmps43
  go_wp2
  go_loopw [3, 4] (fun uv ui wr => ∃ k : Nat, k ≤ 5 ∧ ui = .int .i64 k ∧ Hid (OwnB wr w.heap.size uv (F.take k)) ∧ Hid (Below w.heap.size w wr)) (fun _ ui _ => 5 - (intOf ui).toNat)
  case atStart => exact ⟨0, by omega, rfl, Lib.hid (OwnB.nil _ _), Lib.hid (by (repeat' (first | (with_reducible exact Below.refl _ _) | (with_reducible assumption) | (with_reducible refine Below.alloc ?_ ?_ _) | (with_reducible refine Below.drew ?_) | (with_reducible refine below_dn ?_) | (with_reducible refine Below.setCell ?_ ?_ _) | (with_reducible exact Nat.le_refl _) | omega | (simp only [World.size_alloc, World.size_setCell, World.size_drew]; omega) | (simp; omega) | (simp; done))))⟩
  case round =>
    obtain ⟨k, hk, rfl, how, hbe⟩ := hrel
    by_cases hlt : k < 5
    · have HS := Lib.hid hbe.out.size
      have hln := Lib.hid (show (F.take k).length ≤ 1000000000 by rw [List.length_take, FL.out]; omega)
      have h1 := FT.out k hlt
      have h2 := FV.out k hlt
      obtain ⟨y, hy⟩ : ∃ m, F.getD k 0 = m := ⟨_, rfl⟩
      rw [hy] at h1 h2
      have e8 : (8 : Int) * (k : Int) = ((8 * k : Nat) : Int) := by omega
      obtain ⟨M, hM⟩ : ∃ M, 8 * k = M := ⟨_, rfl⟩
      have MB : M ≤ 32 := by omega
      rw [hM] at e8 h2
      have e9 : (32 : Int) - (M : Int) = ((32 - M : Nat) : Int) := by omega
      obtain ⟨S, hS⟩ : ∃ S, 32 - M = S := ⟨_, rfl⟩
      have SB : S ≤ 32 := by omega
      rw [hS] at e9 h2
      have HX := Lib.hid h1
      clear hy hM h1 hS
      go_wp2_with (at_builtin; refine wpApp rfl _ _ rfl w.heap.size _ _ rfl how.out y _ ?hy rfl ?hlen ?hBB ?_)
      case hy => rfl
      case hlen => exact hln.out
      case hBB => exact HS.out
      intro v' w2 hown' hb2
      have HO' := Lib.hid (show OwnB w2 w.heap.size v' (F.take (k + 1)) by rw [HX.out]; exact hown')
      have HB2 := Lib.hid (hbe.out.trans hb2)
      clear hown' hb2
      go_wp2
      go_roundw
      case rel => exact ⟨k + 1, by omega, by go_num, HO', HB2⟩
      case measure => simp [intOf]; omega
    · have ho := how.out
      rw [List.take_of_length_le (by rw [FL.out]; omega)] at ho
      go_wp2
      go_ret
      exact ⟨_, rfl, ho, hbe.out⟩
set_option maxRecDepth 100000 in
set_option maxHeartbeats 1000000 in
theorem bytesref_any (a : Option Addr) (cap : Nat) (l : List Int) (w : World) (hp : IntsA w a l) (hm : l.length ≤ 1000000) : Calls Tryd.prog 25 #[.slice a l.length cap] w (Gives w.heap.size w (bytesL l)) := by
  have HP := Lib.hid hp
  obtain ⟨L, hL⟩ : ∃ L, l.length = L := ⟨_, rfl⟩
  have HLE := Lib.hid hL
  rw [hL] at hm ⊢
  clear hp hL
  go_enter Tryd.func25, Tryd.ntmps25
  go_wp2
  go_loopw [3, 4] (fun uv ui wr => ∃ k : Nat, k ≤ L ∧ ui = .int .i64 k ∧ Hid (OwnB wr w.heap.size uv (bytesL (l.take k))) ∧ Hid (Below w.heap.size w wr)) (fun _ ui _ => L - (intOf ui).toNat)
  case atStart => exact ⟨0, by omega, rfl, Lib.hid (OwnB.nil _ _), Lib.hid (by (repeat' (first | (with_reducible exact Below.refl _ _) | (with_reducible assumption) | (with_reducible refine Below.alloc ?_ ?_ _) | (with_reducible refine Below.drew ?_) | (with_reducible refine below_dn ?_) | (with_reducible refine Below.setCell ?_ ?_ _) | (with_reducible exact Nat.le_refl _) | omega | (simp only [World.size_alloc, World.size_setCell, World.size_drew]; omega) | (simp; omega) | (simp; done))))⟩
  case round =>
    obtain ⟨k, hk, rfl, how, hbe⟩ := hrel
    by_cases hlt : k < L
    · obtain ⟨b, off, rfl, q1⟩ := HP.out.mono hbe.out k (by rw [HLE.out]; exact hlt)
      have HS := Lib.hid hbe.out.size
      have hln := Lib.hid (show (bytesL (l.take k)).length ≤ 1000000000 by rw [bytesL_len, List.length_take]; omega)
      have ht := bytesL_take l k (by rw [HLE.out]; exact hlt)
      obtain ⟨n, hn⟩ : ∃ n, l.getD k 0 = n := ⟨_, rfl⟩
      rw [hn] at q1 ht
      have C := Lib.hid (fun W : World => five_any n W)
      have fl := five_lt (low n)
      have f5 : (five (low n)).length = 5 := rfl
      obtain ⟨F, hF⟩ : ∃ m, five (low n) = m := ⟨_, rfl⟩
      rw [hF] at ht fl f5; simp only [hF] at C
      have V := Lib.hid (fun (W : World) (B : Nat) (v : Value) (h : OwnB W B v F) => OwnB.view h fl)
      have HX := Lib.hid ht
      have F5 := Lib.hid (show F.length ≤ 1000000000 by omega)
      clear hn hF ht fl f5
      go_wp2_with fail
      refine (C.out _).mono ?_
      rintro e w2 ⟨v, rfl, ho, hb2⟩
      obtain ⟨a2, c2, rfl, -, y2⟩ := V.out _ _ _ ho
      have Y2 := Lib.hid y2
      have O2 := Lib.hid (show OwnB w2 w.heap.size _ _ from own_below how.out hb2)
      have B2 := Lib.hid (bt hbe.out hb2)
      have S2 := Lib.hid (B2.out.size)
      clear ho hb2 y2 how hbe
      go_wp2_with (at_builtin; refine wpAppS rfl _ _ 22 rfl w.heap.size _ _ rfl O2.out _ F rfl (src_bytes Y2.out) hln.out F5.out S2.out ?_)
      intro v' w3 hown' hb3
      have HO' := Lib.hid (show OwnB w3 w.heap.size v' (bytesL (l.take (k + 1))) by rw [HX.out]; exact hown')
      have HB3 := Lib.hid (B2.out.trans hb3)
      clear hown' hb3
      go_wp2
      go_roundw
      case rel => exact ⟨k + 1, by omega, by go_num, HO', HB3⟩
      case measure => simp [intOf]; omega
    · have ho := how.out
      rw [List.take_of_length_le (by rw [HLE.out]; omega)] at ho
      go_wp2
      go_ret
      exact ⟨_, rfl, ho, hbe.out⟩
theorem wordsref_any (a : Option Addr) (cap : Nat) (l : List Int) (w : World) (hp : IntsA w a l) (hm : l.length ≤ 1000000) : Calls Tryd.prog 24 #[.slice a l.length cap] w fun e w' => e = .returned (.int .i64 (crc (bytesL l))) ∧ Below w.heap.size w w' := by
  have C := Lib.hid (bytesref_any a cap l w hp hm)
  have V := Lib.hid (fun (W : World) (B : Nat) (v : Value) (h : OwnB W B v (bytesL l)) => OwnB.view h (bytesL_lt l))
  have D := Lib.hid (fun (a : Option Addr) (cap : Nat) (W : World) (h : BytesA W a (bytesL l)) => crcref_any a cap (bytesL l) W h (by rw [bytesL_len]; omega))
  obtain ⟨K, hK⟩ : ∃ m, (bytesL l).length = m := ⟨_, rfl⟩
  simp only [hK] at V D
  clear hp hm hK
  go_enter Tryd.func24, Tryd.ntmps24
  go_wp2_with fail
  refine C.out.mono ?_
  rintro e w2 ⟨v, rfl, ho, hb2⟩
  obtain ⟨a2, c2, rfl, -, y2⟩ := V.out _ _ _ ho
  have Y2 := Lib.hid y2; have B2 := Lib.hid hb2
  clear ho hb2 y2
  go_wp2_with fail
  refine (D.out _ _ _ Y2.out).mono ?_
  rintro e w3 ⟨rfl, rfl⟩
  go_wp2
  go_ret
  exact ⟨rfl, B2.out⟩
def iv (x : Int) : Value := .int .i64 x
/-- A row of integers of the call's own, from block B on. -/
def OwnI (W : World) (B : Nat) (v : Value) (l : List Int) : Prop := W.ownsRow B 3 1 v l.length (l.map iv)
theorem OwnI.nil (W : World) (B : Nat) : OwnI W B (.slice none 0 0) [] := World.ownsRow_nil W B 3 1
theorem infoI : (Tryd.prog.info? 3).map (fun i => (i.zero, i.size, i.bytes)) = some (some (.int .i64 0), 1, 8) := by kernel_rfl
theorem OwnI.lt {w : World} {B : Nat} {v : Value} {l : List Int} (h : OwnI w B v l) : ∀ k, v.ownBlock = some k → B ≤ k := fun k hk => (own_lt h k hk).1
theorem wpAppI {ops : Array Oper} {rest : List Oper} {o : Oper} {a : Act} {Q : Exit → Act → World → Prop} {w : World} (hgd : o.guard = none) (s x : Operand)
    (ho : o.op = .call { callee := .builtin .append, args := #[s, x], argTypes := #[36, 36] }) (B : Nat) (v : Value) (l : List Int) (hs : a.eval s = v) (hown : OwnI w B v l) (y : Int) (u : Value) (hu : u = iv y)
    (hx : a.eval x = .slice (some ⟨w.heap.size, 0, none⟩) 1 1) (hl : l.length ≤ 1000000000) (hB : B ≤ w.heap.size)
    (h : ∀ v' w', OwnI w' B v' (l ++ [y]) → Below B w w' → wpList Tryd.prog ops Q rest (a.put o.dst v') w') : wpList Tryd.prog ops Q (o :: rest) a (w.alloc (.cells #[u] 3)) := by
  obtain ⟨i0, hi, hz0, hz1, hz2⟩ := info_parts infoI
  subst hu
  refine wpList_append_own _ hgd s x 36 ho B 3 i0 (.int .i64 0) 1 8 Tryd.underlying36 hi hz0 hz1 hz2 rfl (by decide) v l.length (l.map iv) hs (own_alloc hown _) ⟨w.heap.size, 0, none⟩ 1 1 [iv y] hx rfl (cell_one_new _ _ _) (by simp [iv, Value.oneCell']) (by unfold maxLen; omega) (by omega) (by simp; omega) ?_
  intro v' w' h1 h2 _
  refine h v' w' ?_ (grown_below ((Below.refl _ _).alloc hB _) h2 hown.lt (by simp; omega))
  unfold OwnI
  rw [List.length_append, List.map_append]
  exact h1
theorem OwnI.view {W : World} {B : Nat} {v : Value} {l : List Int} (h : OwnI W B v l) : ∃ a cap, v = .slice a l.length cap ∧ l.length ≤ cap ∧ IntsA W a l := by
  obtain ⟨a, cap, rfl, hc, h1⟩ := own_view h
  refine ⟨a, cap, rfl, hc, fun k hk => ?_⟩
  obtain ⟨g, rfl, h2⟩ := h1 k (by omega)
  exact ⟨g, 0, rfl, by rw [Nat.zero_add]; exact h2 _ (map_at iv l 0 k hk)⟩
end Go.Proofs.YtjeipkoomefekaaDoor
