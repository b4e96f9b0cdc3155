/- Contracts of the law's helpers: hexadecimal digits; a list of words. -/
import Derived.Test.YtjeipkoomefekaaDoorR
import Derived.Deep.RegionLaw
namespace Go.Proofs.YtjeipkoomefekaaDoor
set_option linter.unusedVariables false
set_option linter.unusedSimpArgs false
open Go.RowKit
theorem stepAppS {ops : Array Oper} {o : Oper} {a : Act} {w : World} {K : Act → World → Prop} {Q : Exit → Act → World → Prop} {E : Prop} (hgd : o.guard = none) (s x : Operand) (tx : TypeId)
    (ho : o.op = .call { callee := .builtin .append, args := #[s, x], argTypes := #[22, tx] }) (B : Nat) (v : Value) (l : List Nat) (hs : a.eval s = v) (hown : OwnB w B v l) (u : Value) (m : List Nat) (hx : a.eval x = u)
    (hsrc : Src Tryd.prog 1 tx u m.length (m.map bv) w) (hl : l.length ≤ 1000000000) (ht : m.length ≤ 1000000000) (hB : B ≤ w.heap.size)
    (h : ∀ v' w', OwnB w' B v' (l ++ m) → Below B w w' → K (a.put o.dst v') w') :
    if Region.wanted o (yielded ops a.tmps) = true then Oper.wp Tryd.prog o a w K Q else E := by
  have hw : Region.wanted o (yielded ops a.tmps) = true := by simp [Region.wanted, hgd]
  rw [if_pos hw]
  obtain ⟨i0, hi, hz0, hz1, hz2⟩ := info_parts infoB
  obtain ⟨v', w', hr, h2, h3⟩ := run_app_src (P := Tryd.prog) w B 22 tx o.type 5 i0 (.int .u8 0) Tryd.underlying22 hi hz0 (by rw [hz1]; rfl) (by rw [hz1]; decide) v l.length (l.map bv) (by rw [hz1]; exact hown) u m.length (m.map bv) (by rw [hz1]; exact hsrc) (by unfold maxLen; omega) (by rw [hz2]; omega) hB
  unfold Oper.wp execOp
  simp only [ho, resolve, invoke, builtin, Sem.run_bind, Sem.run_pure, Result.andThen_ok, List.map_toArray, List.map_cons, List.map_nil, hs, hx, hr]
  refine h v' w' ?_ (grown_below (Below.refl _ _) h3 hown.lt hB)
  unfold OwnB
  rw [List.length_append, List.map_append, ← hz1]
  exact h2
def dig (n : Nat) : Nat := if n < 10 then 48 + n else 87 + n
def hexL : List Nat → List Nat
  | [] => []
  | x :: l => dig (x / 16) :: dig (x % 16) :: hexL l
theorem hexL_snoc (l : List Nat) (x : Nat) : hexL (l ++ [x]) = hexL l ++ [dig (x / 16), dig (x % 16)] := by
  induction l with
  | nil => rfl
  | cons y l ih => simp [hexL, ih]
theorem hexL_len (l : List Nat) : (hexL l).length = 2 * l.length := by
  induction l with
  | nil => rfl
  | cons y l ih => simp [hexL, ih]; omega
theorem dig_lt (n : Nat) (h : n < 16) : dig n < 256 := by unfold dig; split <;> omega
theorem hexL_lt : ∀ (l : List Nat), (∀ x ∈ l, x < 256) → ∀ y ∈ hexL l, y < 256
  | [], _, y, hy => by simp [hexL] at hy
  | x :: l, h, y, hy => by
    have hx := h x (by simp)
    simp only [hexL, List.mem_cons] at hy
    rcases hy with rfl | rfl | hy
    · exact dig_lt _ (by omega)
    · exact dig_lt _ (by omega)
    · exact hexL_lt l (fun z hz => h z (by simp [hz])) y hy
theorem dig_at (n : Nat) (h : n < 16) (W : World) : (Instr.index 9 (.string ⟨#[48, 49, 50, 51, 52, 53, 54, 55, 56, 57, 97, 98, 99, 100, 101, 102]⟩) (.int .u8 (n : Int))).run Tryd.prog W = .ok (.int .u8 (dig n : Int)) W := by
  rw [run_index_string W 9 _ _ _ Tryd.underlying9]
  rcases (by omega : n = 0 ∨ n = 1 ∨ n = 2 ∨ n = 3 ∨ n = 4 ∨ n = 5 ∨ n = 6 ∨ n = 7 ∨ n = 8 ∨ n = 9 ∨ n = 10 ∨ n = 11 ∨ n = 12 ∨ n = 13 ∨ n = 14 ∨ n = 15) with h | h | h | h | h | h | h | h | h | h | h | h | h | h | h | h <;> subst h <;> rfl
set_option maxRecDepth 100000 in
set_option maxHeartbeats 1000000 in
theorem hex_any (t0 : ByteArray) (l : List Nat) (w : World) (hp : sb t0 = l) (hm : l.length ≤ 1000) : Calls Tryd.prog 37 #[.string t0] w fun e w' => e = .returned (.string (strB (hexL l))) ∧ Below w.heap.size w w' := by
  have hz : t0.size = l.length := by rw [← hp, sb_len]
  have hcs : ∀ i (h : i < t0.size), (t0[i]'h).toNat = l.getD i 0 := fun i h => by
    rw [← hp]
    unfold sb
    rw [List.getD_eq_getElem?_getD, List.getElem?_map, List.getElem?_eq_getElem (by simpa using h)]
    rfl
  have hllt : ∀ x ∈ l, x < 256 := by rw [← hp]; exact sb_lt t0
  have hlt8 : ∀ i, l.getD i 0 < 256 := getD_lt (by decide) hllt
  obtain ⟨L, hL⟩ : ∃ L, l.length = L := ⟨_, rfl⟩
  rw [hL] at hz hm
  have HCS := Lib.hid hcs; have HL8 := Lib.hid hlt8; have HLE := Lib.hid hL; have HLL := Lib.hid hllt
  clear hp hcs hlt8 hL hllt
  go_enter Tryd.func37, Tryd.ntmps37
  go_wp2
  go_loopw [4, 5] (fun uv uk wr => ∃ k : Nat, k ≤ L ∧ uk = .int .i64 k ∧ Hid (OwnB wr w.heap.size uv (hexL (l.take k))) ∧ Below w.heap.size w wr) (fun _ uk _ => L - (intOf uk).toNat)
  case atStart => exact ⟨0, by omega, rfl, by rw [List.take_zero]; exact OwnB.nil _ _, by (repeat' (first | (with_reducible exact Below.refl _ _) | (with_reducible assumption) | (with_reducible refine Below.alloc ?_ ?_ _) | (with_reducible refine Below.drew ?_) | (with_reducible refine below_dn ?_) | (with_reducible refine Below.setCell ?_ ?_ _) | (with_reducible exact Nat.le_refl _) | omega | (simp only [World.size_alloc, World.size_setCell, World.size_drew]; omega) | (simp; omega) | (simp; done)))⟩
  case round =>
    obtain ⟨k, hk, rfl, how, hbe⟩ := hrel
    by_cases hlt : k < L
    · have hcx := HCS.out k (by omega)
      have x256 := HL8.out k
      have htk : l.take (k + 1) = l.take k ++ [l.getD k 0] := by
        rw [List.take_add_one, List.getElem?_eq_getElem (by rw [HLE.out]; exact hlt), List.getD_eq_getElem?_getD, List.getElem?_eq_getElem (by rw [HLE.out]; exact hlt)]
        rfl
      obtain ⟨x, hx⟩ : ∃ x, l.getD k 0 = x := ⟨_, rfl⟩
      rw [hx] at hcx x256 htk
      have hti : k < t0.size := by omega
      have hcx2 : ((t0[k]'hti).toNat : Int) = (x : Int) := by rw [hcx]
      have hhx : hexL (l.take (k + 1)) = hexL (l.take k) ++ [dig (x / 16), dig (x % 16)] := by rw [htk, hexL_snoc]
      have i1 := fun W : World => dig_at (x / 16) (by omega) W
      have i2 := fun W : World => dig_at (x % 16) (by omega) W
      obtain ⟨D1, hD1⟩ : ∃ D, dig (x / 16) = D := ⟨_, rfl⟩
      obtain ⟨D2, hD2⟩ : ∃ D, dig (x % 16) = D := ⟨_, rfl⟩
      rw [hD1] at i1 hhx; rw [hD2] at i2 hhx
      obtain ⟨n1, hn1⟩ : ∃ n, x / 16 = n := ⟨_, rfl⟩
      obtain ⟨n2, hn2⟩ : ∃ n, x % 16 = n := ⟨_, rfl⟩
      have e1 : (x : Int) / 16 = (n1 : Int) := by omega
      have e2 : (x : Int) % 16 = (n2 : Int) := by omega
      rw [hn1] at i1; rw [hn2] at i2
      have e3 : IntKind.u8.wrap (n1 : Int) = (n1 : Int) := by rw [IntKind.wrap_u8']; omega
      have e4 : IntKind.u8.wrap (n2 : Int) = (n2 : Int) := by rw [IntKind.wrap_u8']; omega
      have e5 : (x : Int).tmod 16 = (n2 : Int) := by rw [Int.tmod_eq_emod_of_nonneg (by omega)]; exact e2
      have HHX := Lib.hid hhx
      have hln := Lib.hid (show (hexL (l.take k)).length ≤ 1000000000 by rw [hexL_len, List.length_take]; omega)
      have HB := Lib.hid hbe
      clear hx hcx htk hhx hD1 hD2 hn1 hn2
      go_wp2
      have HS := Lib.hid (show w.heap.size ≤ wr.heap.size from hbe.size)
      go_region_law (refine stepAppS rfl (.tmp 12) (.tmp 25) 22 rfl w.heap.size _ _ rfl (own_draw (q := 1) (own_alloc how.out _)) (.slice (some ⟨wr.heap.size, 0, none⟩) 2 2) [D1, D2] rfl (src_two _ wr.heap.size D1 D2 (Blk.drew (Blk.new wr 5 #[bv D1, bv D2]))) hln.out (by simp) (by have := HS.out; simp; omega) ?_; intro v' w2 hown' hb2)
      all_goals
        have HO' := Lib.hid (show OwnB w2 w.heap.size v' (hexL (l.take (k + 1))) by rw [HHX.out]; exact hown')
        have HB2 := Lib.hid (show Below w.heap.size w w2 from ((HB.out.alloc HS.out _).drew).trans hb2)
        clear hown' hb2 hbe HB
        have hbe := HB2.out
        go_wp2
        go_roundw
        case rel => exact ⟨k + 1, by omega, by go_num, HO', hbe⟩
        case measure => simp [intOf]; omega
    · have how' := how.out
      rw [List.take_of_length_le (by rw [HLE.out]; omega)] at how'
      obtain ⟨a, cap, e1, hc, hbb⟩ := OwnB.view how' (hexL_lt l HLL.out)
      subst e1
      have cs := conv_str (hexL l) a cap wr hbb
      have BE := Lib.hid hbe
      clear how how' hc hbb hbe
      go_wp2
      go_ret
      exact ⟨rfl, BE.out⟩
/-- The five bytes of a word, the highest first. -/
def five (n : Nat) : List Nat := [n / 2 ^ 32 % 256, n / 2 ^ 24 % 256, n / 2 ^ 16 % 256, n / 2 ^ 8 % 256, n % 256]
end Go.Proofs.YtjeipkoomefekaaDoor
