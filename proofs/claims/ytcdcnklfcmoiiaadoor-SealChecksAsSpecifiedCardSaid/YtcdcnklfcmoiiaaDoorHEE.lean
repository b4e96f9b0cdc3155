/- Ported from another seat (wip/hash/EE.src, by wip/port.py): contracts that this chapter calls. -/
import Derived.Test.YtcdcnklfcmoiiaaDoorHP10
namespace Go.Proofs.YtcdcnklfcmoiiaaDoor
set_option linter.unusedVariables false
set_option linter.unusedSimpArgs false
namespace Hs
open Go.RowKit
def lenOf : Value → Nat
  | .slice _ n _ => n
  | _ => 0
set_option maxRecDepth 100000 in
set_option maxHeartbeats 1000000 in
theorem paddedref_any (a : Option Addr) (cap : Nat) (l : List Nat) (w : World) (hp : BytesA w a l) (hm : l.length ≤ 100000) : Calls Tryd.prog 107 #[.slice a l.length cap] w (Gives w.heap.size w (padded l)) := by
  obtain ⟨N, hN⟩ : ∃ N, l.length = N := ⟨_, rfl⟩
  have B2 := Lib.hid ((Below.refl w.heap.size w).alloc (Nat.le_refl _) (.cells #[] 5))
  have SR := Lib.hid (src_bytes (cap := cap) (hp.mono B2.out))
  rw [hN] at SR
  have HE := Lib.hid hN
  have LN := Lib.hid (show l.length ≤ 1000000000 by omega)
  obtain ⟨Z, hZ⟩ : ∃ Z, zeros N = Z := ⟨_, rfl⟩
  have HZ := Lib.hid (show Z = (119 - N % 64) % 64 by rw [← hZ]; rfl)
  have Z64 : Z < 64 := by rw [HZ.out]; omega
  have HP := Lib.hid (show padded l = (l ++ [128]) ++ List.replicate Z 0 ++ be8 (8 * N) by unfold padded; rw [hN, hZ])
  rw [hN] at hm ⊢
  obtain ⟨M, hM⟩ : ∃ M, 8 * N = M := ⟨_, rfl⟩
  rw [hM] at HP
  have eM : (8 : Int) * (N : Int) = (M : Int) := by omega
  have M8 : M ≤ 800000 := by omega
  have wN : IntKind.u64.wrap (N : Int) = (N : Int) := by rw [IntKind.wrap_u64]; omega
  have wM : IntKind.u64.wrap (M : Int) = (M : Int) := by rw [IntKind.wrap_u64]; omega
  have fl : (be8 M).length = 8 := rfl
  have ft : ∀ k, k < 8 → (be8 M).take (k + 1) = (be8 M).take k ++ [(be8 M).getD k 0] := fun k hk => by
    rw [List.take_add_one, List.getElem?_eq_getElem (by rw [fl]; exact hk), List.getD_eq_getElem?_getD, List.getElem?_eq_getElem (by rw [fl]; exact hk)]
    rfl
  have fv : ∀ k, k < 8 → (M : Int) / 2 ^ (56 - 8 * k) % 256 = (((be8 M).getD k 0 : Nat) : Int) := fun k hk => by
    unfold be8
    rcases (by omega : k = 0 ∨ k = 1 ∨ k = 2 ∨ k = 3 ∨ k = 4 ∨ k = 5 ∨ k = 6 ∨ k = 7) with h | h | h | h | h | h | h | h <;> subst h <;> simp
  obtain ⟨F, hF⟩ : ∃ F, be8 M = F := ⟨_, rfl⟩
  rw [hF] at HP; simp only [hF] at fl ft fv
  have FL := Lib.hid fl; have FT := Lib.hid ft; have FV := Lib.hid fv
  clear hp hN hZ hM hF fl ft fv
  go_enter Tryd.func107, Tryd.ntmps107
  go_wp2_with (at_builtin; refine wpAppS rfl _ _ 102 rfl w.heap.size _ _ rfl (OwnB.empty _ _ _ rfl (Nat.le_refl _)) _ l rfl (by rw [HE.out]; exact SR.out) (by simp) LN.out B2.out.size ?_)
  intro v1 w1 ho hb1
  have O1 := Lib.hid (show OwnB w1 w.heap.size v1 l from ho)
  have B3 := Lib.hid (B2.out.trans hb1)
  have S3 := Lib.hid B3.out.size
  clear ho hb1 B2 SR
  go_wp2_with (at_builtin; refine wpApp rfl _ _ rfl w.heap.size _ _ rfl O1.out 128 _ ?hy rfl ?hlen ?hBB ?_)
  case hy => rfl
  case hlen => exact LN.out
  case hBB => exact S3.out
  intro v2 w2 ho hb2
  have O2 := Lib.hid ho
  have B4 := Lib.hid (B3.out.trans hb2)
  clear ho hb2 B3 S3 O1
  go_wp2
  go_loopw [3] (fun uv wr => ∃ j : Nat, j ≤ Z ∧ Hid (OwnB wr w.heap.size uv ((l ++ [128]) ++ List.replicate j 0)) ∧ Hid (Below w.heap.size w wr)) (fun uv _ => N + 1 + Z - lenOf uv)
  case atStart => exact ⟨0, by omega, Lib.hid (by rw [List.replicate_zero, List.append_nil]; exact O2.out), B4⟩
  case round =>
    obtain ⟨j, hj, how, hbe⟩ := hrel
    have hlen : ((l ++ [128]) ++ List.replicate j 0).length = N + 1 + j := by simp [HE.out]; omega
    have HLN := Lib.hid (show ((l ++ [128]) ++ List.replicate j 0).length ≤ 1000000000 by rw [hlen]; omega)
    obtain ⟨a3, c3, rfl, -, -⟩ := own_view how.out
    have how2 := how
    rw [hlen] at how2 ⊢
    obtain ⟨K, hK⟩ : ∃ K, N + 1 + j = K := ⟨_, rfl⟩
    obtain ⟨R, hR⟩ : ∃ R, K % 64 = R := ⟨_, rfl⟩
    have eR : (K : Int) % 64 = (R : Int) := by omega
    have eR2 : (K : Int).tmod 64 = (R : Int) := by rw [Int.tmod_eq_emod_of_nonneg (by omega)]; exact eR
    have hS := Lib.hid hbe.out.size
    rw [hK] at how2 ⊢
    by_cases hlt : j < Z
    · have t1 : ((R : Int) != 56) = true := bne_iff_ne.2 (by have := HZ.out; omega)
      have hnx : ((l ++ [128]) ++ List.replicate j 0) ++ [0] = (l ++ [128]) ++ List.replicate (j + 1) 0 := by rw [List.append_assoc, ← List.replicate_succ']
      have HX := Lib.hid hnx
      have HK := Lib.hid hK
      clear hlen hK hR how hnx
      go_wp2_with (at_builtin; refine wpApp rfl _ _ rfl w.heap.size _ _ rfl how2.out 0 _ ?hy rfl ?hlen ?hBB ?_)
      case hy => rfl
      case hlen => exact HLN.out
      case hBB => exact hS.out
      intro v' w3 hown' hb3
      have HO' := Lib.hid (show OwnB w3 w.heap.size v' ((l ++ [128]) ++ List.replicate (j + 1) 0) by rw [← HX.out]; have h := hown'; simp only [List.append_assoc, List.cons_append, List.nil_append] at h ⊢; exact h)
      have HB2 := Lib.hid (hbe.out.trans hb3)
      clear hown' hb3
      go_wp2
      go_roundw
      case rel => exact ⟨j + 1, by omega, HO', HB2⟩
      case measure =>
        obtain ⟨a4, c4, rfl, -, -⟩ := own_view HO'.out
        have := HE.out; have := HK.out
        simp [lenOf]
        omega
    · have t0 : (R : Int) = 56 := by have := HZ.out; omega
      have t1 : ((R : Int) != 56) = false := by rw [t0]; rfl
      clear t0
      obtain rfl : Z = j := by omega
      have O3 := Lib.hid (show OwnB _ _ _ _ from how2.out)
      obtain ⟨PRE, hPRE⟩ : ∃ m, (l ++ [128]) ++ List.replicate Z 0 = m := ⟨_, rfl⟩
      rw [hPRE] at O3 HP HLN
      have PL := Lib.hid (show PRE.length ≤ 200000 by rw [← hPRE, hlen]; omega)
      clear hlen hK hR how how2 hPRE
      go_wp2
      clear t1 eR eR2
      go_loopw [3, 5] (fun uv ui wr => ∃ k : Nat, k ≤ 8 ∧ ui = .int .i64 k ∧ Hid (OwnB wr w.heap.size uv (PRE ++ F.take k)) ∧ Hid (Below w.heap.size w wr)) (fun _ ui _ => 8 - (intOf ui).toNat)
      case atStart => exact ⟨0, by omega, rfl, Lib.hid (by rw [List.take_zero, List.append_nil]; exact O3.out), hbe⟩
      case round =>
        obtain ⟨k, hk, rfl, how, hbe⟩ := hrel
        by_cases hlt : k < 8
        · have HS := Lib.hid hbe.out.size
          have hln := Lib.hid (show (PRE ++ F.take k).length ≤ 1000000000 by rw [List.length_append, List.length_take, FL.out]; have := PL.out; omega)
          have h1 := FT.out k hlt
          have h2 := FV.out k hlt
          obtain ⟨y, hy⟩ : ∃ m, F.getD k 0 = m := ⟨_, rfl⟩
          rw [hy] at h1 h2
          have e8 : (8 : Int) * (k : Int) = ((8 * k : Nat) : Int) := by omega
          obtain ⟨T, hT⟩ : ∃ M, 8 * k = M := ⟨_, rfl⟩
          have TB : T ≤ 56 := by omega
          rw [hT] at e8 h2
          have e9 : (56 : Int) - (T : Int) = ((56 - T : Nat) : Int) := by omega
          obtain ⟨S, hS⟩ : ∃ S, 56 - T = S := ⟨_, rfl⟩
          have SB : S ≤ 56 := by omega
          rw [hS] at e9 h2
          have HX := Lib.hid h1
          clear hy hT h1 hS
          go_wp2_with (at_builtin; refine wpApp rfl _ _ rfl w.heap.size _ _ rfl how.out y _ ?hy rfl ?hlen ?hBB ?_)
          case hy => rfl
          case hlen => exact hln.out
          case hBB => exact HS.out
          intro v' w3 hown' hb3
          have HO' := Lib.hid (show OwnB w3 w.heap.size v' (PRE ++ F.take (k + 1)) by rw [HX.out]; have h := hown'; (try simp only [List.append_assoc] at h ⊢); exact h)
          have HB2 := Lib.hid (hbe.out.trans hb3)
          clear hown' hb3
          go_wp2
          go_roundw
          case rel => exact ⟨k + 1, by omega, by go_num, HO', HB2⟩
          case measure => simp [intOf]; omega
        · have ho := how.out
          rw [List.take_of_length_le (by rw [FL.out]; omega)] at ho
          go_wp2
          go_ret
          exact ⟨_, rfl, by rw [HP.out]; exact ho, hbe.out⟩
end Hs
end Go.Proofs.YtcdcnklfcmoiiaaDoor
