/- Contracts of the reference: Xor. -/
import Derived.Test.YtjeipkoomefekaaDoorW
namespace Go.Proofs.YtjeipkoomefekaaDoor
set_option linter.unusedVariables false
set_option linter.unusedSimpArgs false
open Go.RowKit
/-- What Xor gives: the first list, the second in it as far as it goes. -/
def xorF (a b : List Nat) (i : Nat) : Nat := a.getD i 0 ^^^ b.getD i 0
def xorP (a b : List Nat) : Nat → List Nat
  | 0 => []
  | n + 1 => xorP a b n ++ [xorF a b n]
theorem xorP_len (a b : List Nat) : ∀ n, (xorP a b n).length = n
  | 0 => rfl
  | n + 1 => by rw [xorP, List.length_append, xorP_len a b n]; rfl
theorem xorF_lt (a b : List Nat) (ha : ∀ x ∈ a, x < 256) (hb : ∀ x ∈ b, x < 256) (i : Nat) : xorF a b i < 256 := Nat.xor_lt_two_pow (n := 8) (getD_lt (by decide) ha i) (getD_lt (by decide) hb i)
theorem xorP_lt (a b : List Nat) (ha : ∀ x ∈ a, x < 256) (hb : ∀ x ∈ b, x < 256) : ∀ n, ∀ x ∈ xorP a b n, x < 256
  | 0 => by simp [xorP]
  | n + 1 => by
    intro x hx
    rw [xorP, List.mem_append] at hx
    rcases hx with hx | hx
    · exact xorP_lt a b ha hb n x hx
    · simp at hx; subst hx; exact xorF_lt a b ha hb n
theorem xorP_getD (a b : List Nat) : ∀ n i, i < n → (xorP a b n).getD i 0 = xorF a b i
  | 0, _, h => by omega
  | n + 1, i, h => by
    rw [xorP]
    by_cases hi : i < n
    · rw [List.getD_eq_getElem?_getD, List.getElem?_append_left (by rw [xorP_len]; exact hi), ← List.getD_eq_getElem?_getD]
      exact xorP_getD a b n i hi
    · obtain rfl : i = n := by omega
      rw [List.getD_eq_getElem?_getD, List.getElem?_append_right (by rw [xorP_len]; omega), xorP_len, Nat.sub_self]
      rfl
theorem xorP_xorL (a b : List Nat) (h : b.length = a.length) : xorP a b a.length = xorL a b := by
  apply List.ext_getElem
  · rw [xorP_len, xorL_len a b h.symm]
  · intro i h1 h2
    rw [xorP_len] at h1
    have e := xorP_getD a b a.length i h1
    rw [List.getD_eq_getElem?_getD, List.getElem?_eq_getElem (by rw [xorP_len]; exact h1)] at e
    have e' : (xorP a b a.length)[i] = xorF a b i := e
    have e2 : (xorL a b)[i] = a[i] ^^^ b[i]'(by omega) := List.getElem_zipWith
    rw [e', e2]
    unfold xorF
    rw [List.getD_eq_getElem?_getD, List.getD_eq_getElem?_getD, List.getElem?_eq_getElem h1, List.getElem?_eq_getElem (by omega)]
    rfl
set_option maxRecDepth 100000 in
set_option maxHeartbeats 1000000 in
theorem xor_any (a b : Option Addr) (ca cb : Nat) (la lb : List Nat) (w : World) (ha : BytesA w a la) (hb : BytesA w b lb) (ma : la.length ≤ 1000000) (mb : lb.length ≤ 9223372036854775807) :
    Calls Tryd.prog 28 #[.slice a la.length ca, .slice b lb.length cb] w (Gives w.heap.size w (xorP la lb la.length)) := by
  have HA := Lib.hid ha; have HB := Lib.hid hb
  obtain ⟨L, hL⟩ : ∃ L, la.length = L := ⟨_, rfl⟩
  obtain ⟨M, hM⟩ : ∃ L, lb.length = L := ⟨_, rfl⟩
  have HLE := Lib.hid hL; have HME := Lib.hid hM
  rw [hL] at ma ⊢; rw [hM] at mb ⊢
  clear ha hb hL hM
  go_enter Tryd.func28, Tryd.ntmps28
  go_wp2
  go_loopw [5, 6, 7] (fun uv ui ux wr => ∃ k : Nat, k ≤ L ∧ ui = .int .i64 k ∧ Hid (OwnB wr w.heap.size uv (xorP la lb k)) ∧ Hid (Below w.heap.size w wr)) (fun _ ui _ _ => L - (intOf ui).toNat)
  case atStart => exact ⟨0, by omega, rfl, Lib.hid (OwnB.nil _ _), Lib.hid (by (repeat' (first | (with_reducible exact Below.refl _ _) | (with_reducible assumption) | (with_reducible refine Below.alloc ?_ ?_ _) | (with_reducible refine Below.drew ?_) | (with_reducible refine below_dn ?_) | (with_reducible refine Below.setCell ?_ ?_ _) | (with_reducible exact Nat.le_refl _) | omega | (simp only [World.size_alloc, World.size_setCell, World.size_drew]; omega) | (simp; omega) | (simp; done))))⟩
  case round =>
    obtain ⟨k, hk, rfl, how, hbe⟩ := hrel
    by_cases hlt : k < L
    · obtain ⟨ba, oa, rfl, p1, p2⟩ := HA.out.mono hbe.out k (by rw [HLE.out]; exact hlt)
      have HS := Lib.hid hbe.out.size
      have hln := Lib.hid (show (xorP la lb k).length ≤ 1000000000 by rw [xorP_len]; omega)
      have hxf : xorP la lb (k + 1) = xorP la lb k ++ [xorF la lb k] := rfl
      unfold xorF at hxf
      obtain ⟨x, hx⟩ : ∃ x, la.getD k 0 = x := ⟨_, rfl⟩
      rw [hx] at p1 p2 hxf
      unfold bv at p1
      by_cases hlb : k < M
      · obtain ⟨bb, ob, rfl, q1, q2⟩ := HB.out.mono hbe.out k (by rw [HME.out]; exact hlb)
        obtain ⟨y, hy⟩ : ∃ x, lb.getD k 0 = x := ⟨_, rfl⟩
        rw [hy] at q1 q2 hxf
        unfold bv at q1
        have kx := u8_xor_nat x y p2 q2
        obtain ⟨z, hz⟩ : ∃ r, x ^^^ y = r := ⟨_, rfl⟩
        rw [hz] at kx hxf
        have HX := Lib.hid hxf
        clear hx hy hz hxf p2 q2
        go_wp2_with (at_builtin; refine wpApp rfl _ _ rfl w.heap.size _ _ rfl how.out z _ ?hy rfl ?hlen ?hBB ?_)
        case hy => rfl
        case hlen => exact hln.out
        case hBB => exact HS.out
        intro v' w2 hown' hb2
        have HO' := Lib.hid (show OwnB w2 w.heap.size v' (xorP la lb (k + 1)) by rw [HX.out]; exact hown')
        have HB2 := Lib.hid (hbe.out.trans hb2)
        clear hown' hb2
        go_wp2
        go_roundw
        case rel => exact ⟨k + 1, by omega, by go_num, HO', HB2⟩
        case measure => simp [intOf]; omega
      · have hy : lb.getD k 0 = 0 := by rw [List.getD_eq_getElem?_getD, List.getElem?_eq_none (by rw [HME.out]; omega)]; rfl
        rw [hy, Nat.xor_zero] at hxf
        have HX := Lib.hid hxf
        clear hx hy hxf p2
        go_wp2_with (at_builtin; refine wpApp rfl _ _ rfl w.heap.size _ _ rfl how.out x _ ?hy rfl ?hlen ?hBB ?_)
        case hy => rfl
        case hlen => exact hln.out
        case hBB => exact HS.out
        intro v' w2 hown' hb2
        have HO' := Lib.hid (show OwnB w2 w.heap.size v' (xorP la lb (k + 1)) by rw [HX.out]; exact hown')
        have HB2 := Lib.hid (hbe.out.trans hb2)
        clear hown' hb2
        go_wp2
        go_roundw
        case rel => exact ⟨k + 1, by omega, by go_num, HO', HB2⟩
        case measure => simp [intOf]; omega
    · obtain rfl : k = L := by omega
      have ho := how.out
      go_wp2
      go_ret
      exact ⟨_, rfl, ho, hbe.out⟩
end Go.Proofs.YtjeipkoomefekaaDoor
