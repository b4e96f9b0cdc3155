/- Ported from another seat (wip/hash/W.src, by wip/port.py): contracts that this chapter calls. -/
import Derived.Test.YteblnmhaohbkkaaGreatDoorQP3
import Derived.Lib.SlBytesConst
import Derived.Test.YteblnmhaohbkkaaGreatDoorQP1
namespace Go.Proofs.YteblnmhaohbkkaaGreatDoor
section
set_option linter.unusedVariables false
set_option linter.unusedSimpArgs false
namespace Hs
open Go.RowKit
set_option maxRecDepth 100000 in
theorem src_bytes {W : World} {a : Option Addr} {l : List Nat} {cap : Nat} (h : BytesA W a l) : Src Tryz.prog 1 115 (.slice a l.length cap) l.length (l.map bv) W := by
  cases l with
  | nil =>
    cases a with
    | none => exact Src.ofNil W Tryz.underlying115 cap
    | some p => exact Src.ofSlice W Tryz.underlying115 p 0 cap [] (by simp) (fun j u hu => by simp at hu) (fun u hu => by cases hu)
  | cons x l =>
    obtain ⟨b, off, rfl, -, -⟩ := h 0 (by simp)
    refine Src.ofSlice W Tryz.underlying115 ⟨b, off, none⟩ (x :: l).length cap _ (by simp) (fun j u hu => ?_) (fun u hu => by obtain ⟨_, _, rfl⟩ := List.mem_map.1 hu; rfl)
    have hj : j < (x :: l).length := by
      rcases Nat.lt_or_ge j (x :: l).length with hj | hj
      · exact hj
      · rw [List.getElem?_eq_none (by simpa using hj)] at hu; cases hu
    obtain ⟨b', off', e, h1, -⟩ := h j hj
    injection e with e
    injection e with e1 e2
    subst e1; subst e2
    rw [show (⟨b, off, none⟩ : Addr).add j = ⟨b, off + j, none⟩ from Addr.add_mid b off j, h1]
    rw [List.getElem?_map, List.getElem?_eq_getElem hj] at hu
    rw [List.getD_eq_getElem?_getD, List.getElem?_eq_getElem hj]
    exact hu
set_option maxRecDepth 100000 in
theorem BytesA.lt {W : World} {a : Option Addr} {l : List Nat} (h : BytesA W a l) : ∀ x ∈ l, x < 256 := fun x hx => by
  obtain ⟨k, hk, rfl⟩ := List.getElem_of_mem hx
  obtain ⟨_, _, _, _, h2⟩ := h k hk
  rwa [List.getD_eq_getElem?_getD, List.getElem?_eq_getElem hk] at h2
end Hs
end
section
set_option linter.unusedVariables false
set_option linter.unusedSimpArgs false
namespace Hs
open Go.RowKit
set_option maxRecDepth 100000 in
theorem OwnB.empty (w : World) (B g : Nat) (h : w.heap.size = g) (hB : B ≤ g) : OwnB (w.alloc (.cells #[] 5)) B (.slice (some ⟨g, 0, none⟩) 0 0) [] := by
  subst h
  exact ⟨rfl, .inr ⟨w.heap.size, 0, #[], rfl, hB, heap_alloc_new w _, Nat.le_refl _, Nat.zero_le _, rfl, rfl⟩⟩
end Hs
end
section
set_option linter.unusedVariables false
set_option linter.unusedSimpArgs false
namespace Hs
open Go.RowKit
def lenOf : Value → Nat
  | .slice _ n _ => n
  | _ => 0
set_option maxRecDepth 100000 in
set_option maxHeartbeats 1000000 in
theorem paddedref_any (a : Option Addr) (cap : Nat) (l : List Nat) (w : World) (hp : BytesA w a l) (hm : l.length ≤ 100000) : Calls Tryz.prog 103 #[.slice a l.length cap] w (Gives w.heap.size w (padded l)) := by
  obtain ⟨N, hN⟩ : ∃ N, l.length = N := ⟨_, rfl⟩
  have B2 := Lib.hid ((Below.refl w.heap.size w).alloc (Nat.le_refl _) (.cells #[] 5))
  have SR := Lib.hid (src_bytes (cap := cap) (hp.mono B2.out))
  rw [hN] at SR
  have HE := Lib.hid hN
  have LN := Lib.hid (show l.length ≤ 1000000000 by omega)
  obtain ⟨Z, hZ⟩ : ∃ Z, zeros N = Z := ⟨_, rfl⟩
  have HZ := Lib.hid (show Z = (119 - N % 64) % 64 by rw [← hZ]; rfl)
  have Z64 : Z < 64 := by rw [HZ.out]; omega
  have HP := Lib.hid (show padded l = (l ++ [128]) ++ List.replicate Z 0 ++ be8 (8 * N) by unfold padded; rw [hN, hZ])
  rw [hN] at hm ⊢
  obtain ⟨M, hM⟩ : ∃ M, 8 * N = M := ⟨_, rfl⟩
  rw [hM] at HP
  have eM : (8 : Int) * (N : Int) = (M : Int) := by omega
  have M8 : M ≤ 800000 := by omega
  have wN : IntKind.u64.wrap (N : Int) = (N : Int) := by rw [IntKind.wrap_u64]; omega
  have wM : IntKind.u64.wrap (M : Int) = (M : Int) := by rw [IntKind.wrap_u64]; omega
  have fl : (be8 M).length = 8 := rfl
  have ft : ∀ k, k < 8 → (be8 M).take (k + 1) = (be8 M).take k ++ [(be8 M).getD k 0] := fun k hk => by
    rw [List.take_add_one, List.getElem?_eq_getElem (by rw [fl]; exact hk), List.getD_eq_getElem?_getD, List.getElem?_eq_getElem (by rw [fl]; exact hk)]
    rfl
  have fv : ∀ k, k < 8 → (M : Int) / 2 ^ (56 - 8 * k) % 256 = (((be8 M).getD k 0 : Nat) : Int) := fun k hk => by
    unfold be8
    rcases (by omega : k = 0 ∨ k = 1 ∨ k = 2 ∨ k = 3 ∨ k = 4 ∨ k = 5 ∨ k = 6 ∨ k = 7) with h | h | h | h | h | h | h | h <;> subst h <;> simp
  obtain ⟨F, hF⟩ : ∃ F, be8 M = F := ⟨_, rfl⟩
  rw [hF] at HP; simp only [hF] at fl ft fv
  have FL := Lib.hid fl; have FT := Lib.hid ft; have FV := Lib.hid fv
  clear hp hN hZ hM hF fl ft fv
  go_enter Tryz.func103, Tryz.ntmps103
  go_wp2_with (at_builtin; refine wpAppS rfl _ _ 115 rfl w.heap.size _ _ rfl (OwnB.empty _ _ _ rfl (Nat.le_refl _)) _ l rfl (by rw [HE.out]; exact SR.out) (by simp) LN.out B2.out.size ?_)
  intro v1 w1 ho hb1
  have O1 := Lib.hid (show OwnB w1 w.heap.size v1 l from ho)
  have B3 := Lib.hid (B2.out.trans hb1)
  have S3 := Lib.hid B3.out.size
  clear ho hb1 B2 SR
  go_wp2_with (at_builtin; refine wpApp rfl _ _ rfl w.heap.size _ _ rfl O1.out 128 _ ?hy rfl ?hlen ?hBB ?_)
  case hy => rfl
  case hlen => exact LN.out
  case hBB => exact S3.out
  intro v2 w2 ho hb2
  have O2 := Lib.hid ho
  have B4 := Lib.hid (B3.out.trans hb2)
  clear ho hb2 B3 S3 O1
  go_wp2
  go_loopw [3] (fun uv wr => ∃ j : Nat, j ≤ Z ∧ Hid (OwnB wr w.heap.size uv ((l ++ [128]) ++ List.replicate j 0)) ∧ Hid (Below w.heap.size w wr)) (fun uv _ => N + 1 + Z - lenOf uv)
  case atStart => exact ⟨0, by omega, Lib.hid (by rw [List.replicate_zero, List.append_nil]; exact O2.out), B4⟩
  case round =>
    obtain ⟨j, hj, how, hbe⟩ := hrel
    have hlen : ((l ++ [128]) ++ List.replicate j 0).length = N + 1 + j := by simp [HE.out]; omega
    have HLN := Lib.hid (show ((l ++ [128]) ++ List.replicate j 0).length ≤ 1000000000 by rw [hlen]; omega)
    obtain ⟨a3, c3, rfl, -, -⟩ := own_view how.out
    have how2 := how
    rw [hlen] at how2 ⊢
    obtain ⟨K, hK⟩ : ∃ K, N + 1 + j = K := ⟨_, rfl⟩
    obtain ⟨R, hR⟩ : ∃ R, K % 64 = R := ⟨_, rfl⟩
    have eR : (K : Int) % 64 = (R : Int) := by omega
    have eR2 : (K : Int).tmod 64 = (R : Int) := by rw [Int.tmod_eq_emod_of_nonneg (by omega)]; exact eR
    have hS := Lib.hid hbe.out.size
    rw [hK] at how2 ⊢
    by_cases hlt : j < Z
    · have t1 : ((R : Int) != 56) = true := bne_iff_ne.2 (by have := HZ.out; omega)
      have hnx : ((l ++ [128]) ++ List.replicate j 0) ++ [0] = (l ++ [128]) ++ List.replicate (j + 1) 0 := by rw [List.append_assoc, ← List.replicate_succ']
      have HX := Lib.hid hnx
      have HK := Lib.hid hK
      clear hlen hK hR how hnx
      go_wp2_with (at_builtin; refine wpApp rfl _ _ rfl w.heap.size _ _ rfl how2.out 0 _ ?hy rfl ?hlen ?hBB ?_)
      case hy => rfl
      case hlen => exact HLN.out
      case hBB => exact hS.out
      intro v' w3 hown' hb3
      have HO' := Lib.hid (show OwnB w3 w.heap.size v' ((l ++ [128]) ++ List.replicate (j + 1) 0) by rw [← HX.out]; have h := hown'; simp only [List.append_assoc, List.cons_append, List.nil_append] at h ⊢; exact h)
      have HB2 := Lib.hid (hbe.out.trans hb3)
      clear hown' hb3
      go_wp2
      go_roundw
      case rel => exact ⟨j + 1, by omega, HO', HB2⟩
      case measure =>
        obtain ⟨a4, c4, rfl, -, -⟩ := own_view HO'.out
        have := HE.out; have := HK.out
        simp [lenOf]
        omega
    · have t0 : (R : Int) = 56 := by have := HZ.out; omega
      have t1 : ((R : Int) != 56) = false := by rw [t0]; rfl
      clear t0
      obtain rfl : Z = j := by omega
      have O3 := Lib.hid (show OwnB _ _ _ _ from how2.out)
      obtain ⟨PRE, hPRE⟩ : ∃ m, (l ++ [128]) ++ List.replicate Z 0 = m := ⟨_, rfl⟩
      rw [hPRE] at O3 HP HLN
      have PL := Lib.hid (show PRE.length ≤ 200000 by rw [← hPRE, hlen]; omega)
      clear hlen hK hR how how2 hPRE
      go_wp2
      clear t1 eR eR2
      go_loopw [3, 5] (fun uv ui wr => ∃ k : Nat, k ≤ 8 ∧ ui = .int .i64 k ∧ Hid (OwnB wr w.heap.size uv (PRE ++ F.take k)) ∧ Hid (Below w.heap.size w wr)) (fun _ ui _ => 8 - (intOf ui).toNat)
      case atStart => exact ⟨0, by omega, rfl, Lib.hid (by rw [List.take_zero, List.append_nil]; exact O3.out), hbe⟩
      case round =>
        obtain ⟨k, hk, rfl, how, hbe⟩ := hrel
        by_cases hlt : k < 8
        · have HS := Lib.hid hbe.out.size
          have hln := Lib.hid (show (PRE ++ F.take k).length ≤ 1000000000 by rw [List.length_append, List.length_take, FL.out]; have := PL.out; omega)
          have h1 := FT.out k hlt
          have h2 := FV.out k hlt
          obtain ⟨y, hy⟩ : ∃ m, F.getD k 0 = m := ⟨_, rfl⟩
          rw [hy] at h1 h2
          have e8 : (8 : Int) * (k : Int) = ((8 * k : Nat) : Int) := by omega
          obtain ⟨T, hT⟩ : ∃ M, 8 * k = M := ⟨_, rfl⟩
          have TB : T ≤ 56 := by omega
          rw [hT] at e8 h2
          have e9 : (56 : Int) - (T : Int) = ((56 - T : Nat) : Int) := by omega
          obtain ⟨S, hS⟩ : ∃ S, 56 - T = S := ⟨_, rfl⟩
          have SB : S ≤ 56 := by omega
          rw [hS] at e9 h2
          have HX := Lib.hid h1
          clear hy hT h1 hS
          go_wp2_with (at_builtin; refine wpApp rfl _ _ rfl w.heap.size _ _ rfl how.out y _ ?hy rfl ?hlen ?hBB ?_)
          case hy => rfl
          case hlen => exact hln.out
          case hBB => exact HS.out
          intro v' w3 hown' hb3
          have HO' := Lib.hid (show OwnB w3 w.heap.size v' (PRE ++ F.take (k + 1)) by rw [HX.out]; have h := hown'; (try simp only [List.append_assoc] at h ⊢); exact h)
          have HB2 := Lib.hid (hbe.out.trans hb3)
          clear hown' hb3
          go_wp2
          go_roundw
          case rel => exact ⟨k + 1, by omega, by go_num, HO', HB2⟩
          case measure => simp [intOf]; omega
        · have ho := how.out
          rw [List.take_of_length_le (by rw [FL.out]; omega)] at ho
          go_wp2
          go_ret
          exact ⟨_, rfl, by rw [HP.out]; exact ho, hbe.out⟩
end Hs
end
section
set_option linter.unusedVariables false
set_option linter.unusedSimpArgs false
namespace Hs
open Go.RowKit
set_option maxRecDepth 100000 in
set_option maxHeartbeats 1000000 in
theorem wordsblk_any (a : Option Addr) (cap : Nat) (b : List Nat) (w : World) (hp : BytesA w a b) (hb : b.length = 64) :
    Calls Tryz.prog 104 #[.slice a 64 cap] w fun e w' => e = .returned (.agg (wvs (sched b 64))) ∧ Below w.heap.size w w' := by
  have hlt : ∀ k, b.getD k 0 < 256 := getD_lt (by decide) hp.lt
  obtain ⟨gb, off, rfl, -, -⟩ := hp 0 (by omega)
  have hcell : ∀ (W : World), Below w.heap.size w W → ∀ k, k < 64 → W.cell? ⟨gb, off + k, none⟩ = some (bv (b.getD k 0)) := fun W hW k hk => by
    obtain ⟨b', o', e, h1, -⟩ := (hp.mono hW) k (by omega)
    simp only [Option.some.injEq, Addr.mk.injEq, and_true] at e
    obtain ⟨rfl, rfl⟩ := e
    exact h1
  have HB := Lib.hid hb; have HL := Lib.hid hlt; have HC := Lib.hid hcell
  clear hb hlt hp hcell
  go_enter Tryz.func104, Tryz.ntmps104
  go_wp2
  go_loopw [4] (fun uk wr => ∃ k : Nat, k ≤ 16 ∧ uk = .int .i64 k ∧ wr.heap.size = w.heap.size + 2 ∧ Below w.heap.size w wr ∧ Hid (Blk wr w.heap.size 147 (wvs (pad 64 []))) ∧ Hid (Blk wr (w.heap.size + 1) 147 (wvs (pad 64 (sched b k))))) (fun uk _ => 16 - (intOf uk).toNat)
  case atStart =>
    refine ⟨0, by omega, rfl, by simp, by (repeat' (first | (with_reducible exact Below.refl _ _) | (with_reducible assumption) | (with_reducible refine Below.alloc ?_ ?_ _) | (with_reducible refine Below.drew ?_) | (with_reducible refine below_dn ?_) | (with_reducible refine Below.setCell ?_ ?_ _) | (with_reducible exact Nat.le_refl _) | omega | (simp only [World.size_alloc, World.size_setCell, World.size_drew]; omega) | (simp; omega) | (simp; done))), Lib.hid ((Blk.new' w _ _ _ rfl rfl).alloc _), Lib.hid (Blk.new' _ _ _ _ (by simp) rfl)⟩
  case round =>
    obtain ⟨k, hk, rfl, hsz, B, h1, h2⟩ := hrel
    by_cases hlt : k < 16
    · obtain ⟨M, hM⟩ : ∃ M, 4 * k = M := ⟨_, rfl⟩
      have l0 := HL.out M; have l1 := HL.out (M + 1); have l2 := HL.out (M + 2); have l3 := HL.out (M + 3)
      have d0 := HC.out wr B M (by omega)
      have d1 := HC.out wr B (M + 1) (by omega)
      have d2 := HC.out wr B (M + 2) (by omega)
      have d3 := HC.out wr B (M + 3) (by omega)
      have hwd : nextW b (sched b k) k = ((b.getD M 0 * 2 ^ 24 ||| b.getD (M + 1) 0 * 2 ^ 16) ||| b.getD (M + 2) 0 * 2 ^ 8) ||| b.getD (M + 3) 0 := by
        unfold nextW word
        rw [if_pos hlt, hM]
      obtain ⟨x0, e0⟩ : ∃ x, b.getD M 0 = x := ⟨_, rfl⟩
      obtain ⟨x1, e1⟩ : ∃ x, b.getD (M + 1) 0 = x := ⟨_, rfl⟩
      obtain ⟨x2, e2⟩ : ∃ x, b.getD (M + 2) 0 = x := ⟨_, rfl⟩
      obtain ⟨x3, e3⟩ : ∃ x, b.getD (M + 3) 0 = x := ⟨_, rfl⟩
      rw [e0] at l0 d0 hwd; rw [e1] at l1 d1 hwd; rw [e2] at l2 d2 hwd; rw [e3] at l3 d3 hwd
      clear e0 e1 e2 e3
      have fr := h2.out.frozen k
      have dk := (h2.out.cell k).trans (wvs_at _ k (by rw [pad_len _ _ (by rw [sched_len]; omega)]; omega))
      obtain ⟨od, hod⟩ : ∃ x, (pad 64 (sched b k)).getD k 0 = x := ⟨_, rfl⟩
      rw [hod] at dk
      have v0 : IntKind.i64.wrap (4 * (k : Int)) = (M : Int) := by rw [IntKind.wrap_i64]; omega
      have v1 : IntKind.i64.wrap ((M : Int) + 1) = (M : Int) + 1 := by rw [IntKind.wrap_i64]; omega
      have v2 : IntKind.i64.wrap ((M : Int) + 2) = (M : Int) + 2 := by rw [IntKind.wrap_i64]; omega
      have v3 : IntKind.i64.wrap ((M : Int) + 3) = (M : Int) + 3 := by rw [IntKind.wrap_i64]; omega
      have u1 : ((M : Int) + 1).toNat = M + 1 := by omega
      have u2 : ((M : Int) + 2).toNat = M + 2 := by omega
      have u3 : ((M : Int) + 3).toNat = M + 3 := by omega
      have p1 : (0 : Int) ≤ (M : Int) + 1 := by omega
      have p2 : (0 : Int) ≤ (M : Int) + 2 := by omega
      have p3 : (0 : Int) ≤ (M : Int) + 3 := by omega
      have b0 : (M : Int) < 64 := by omega
      have p0 : (0 : Int) ≤ (M : Int) := by omega
      have bk : (k : Int) < 64 := by omega
      have pk : (0 : Int) ≤ (k : Int) := by omega
      have b1 : (M : Int) + 1 < 64 := by omega
      have b2 : (M : Int) + 2 < 64 := by omega
      have b3 : (M : Int) + 3 < 64 := by omega
      have hv := word_val x0 x1 x2 x3 l0 l1 l2 l3
      rw [← hwd] at hv
      obtain ⟨y, hy⟩ : ∃ y, nextW b (sched b k) k = y := ⟨_, rfl⟩
      rw [hy] at hv
      have HY := Lib.hid hy
      clear hM hod hwd hy l0 l1 l2 l3
      go_wp2
      refine wp_region_still_tail 35 (by kernel_rfl) (by kernel_rfl) ?_
      simp only [List.take_succ_cons, List.take_zero, List.drop_succ_cons, List.drop_zero]
      show wpStill _ _ (World.drew _) _ _ _
      repeat still_step
      refine wpStill_nil ?_
      show wpList _ _ _ _ _ (World.drew _)
      go_wp2
      go_roundw
      case rel =>
        refine ⟨k + 1, by omega, by go_num, by simp [hsz], by (repeat' (first | (with_reducible exact Below.refl _ _) | (with_reducible assumption) | (with_reducible refine Below.alloc ?_ ?_ _) | (with_reducible refine Below.drew ?_) | (with_reducible refine below_dn ?_) | (with_reducible refine Below.setCell ?_ ?_ _) | (with_reducible exact Nat.le_refl _) | omega | (simp only [World.size_alloc, World.size_setCell, World.size_drew]; omega) | (simp; omega) | (simp; done))), Lib.hid (h1.out.drew.far (by simp) _), Lib.hid ?_⟩
        have := h2.out.set_ k (wv y)
        rw [wvs_set] at this
        have e := pad_set 64 (sched b k) y (by rw [sched_len]; omega)
        rw [sched_len] at e
        rw [e] at this
        rw [sched, HY.out]
        exact this.drew
      case measure => simp [intOf]; omega
    · have KE := Lib.hid (show k = 16 by omega)
      clear hk
      go_wp2
      go_loopw [5, 6, 7] (fun uk u6 u7 wr => ∃ j : Nat, 16 ≤ j ∧ j ≤ 64 ∧ uk = .int .i64 j ∧ wr.heap.size = w.heap.size + 2 ∧ Below w.heap.size w wr ∧ Hid (Blk wr w.heap.size 147 (wvs (pad 64 []))) ∧ Hid (Blk wr (w.heap.size + 1) 147 (wvs (pad 64 (sched b j))))) (fun uk _ _ _ => 64 - (intOf uk).toNat)
      case atStart => exact ⟨16, by omega, by omega, rfl, hsz, B, h1, by rw [KE.out] at h2; exact h2⟩
      case round =>
        clear hsz B h1 h2
        obtain ⟨j, hk16, hk, rfl, hsz, B, h1, h2⟩ := hrel
        by_cases hlt : j < 64
        · have LS := getD_lt (by decide : 0 < 4294967296) (sched_lt b HL.out j)
          have cell := fun A (hA : A < 64) => ((h2.out.cell A).trans (wvs_at _ A (by rw [pad_len _ _ (by rw [sched_len]; omega)]; exact hA))).trans (by rw [pad_at])
          obtain ⟨A, hA⟩ : ∃ A, j = A + 15 := ⟨j - 15, by omega⟩
          obtain ⟨C, hC⟩ : ∃ C, j = C + 2 := ⟨j - 2, by omega⟩
          obtain ⟨D, hD⟩ : ∃ D, j = D + 16 := ⟨j - 16, by omega⟩
          obtain ⟨E, hE⟩ : ∃ E, j = E + 7 := ⟨j - 7, by omega⟩
          have vA : IntKind.i64.wrap ((j : Int) - 15) = (A : Int) := by rw [IntKind.wrap_i64]; omega
          have vC : IntKind.i64.wrap ((j : Int) - 2) = (C : Int) := by rw [IntKind.wrap_i64]; omega
          have vD : IntKind.i64.wrap ((j : Int) - 16) = (D : Int) := by rw [IntKind.wrap_i64]; omega
          have vE : IntKind.i64.wrap ((j : Int) - 7) = (E : Int) := by rw [IntKind.wrap_i64]; omega
          have hnx : nextW b (sched b j) j = add32 (add32 (add32 ((sched b j).getD D 0) (sg0 ((sched b j).getD A 0))) ((sched b j).getD E 0)) (sg1 ((sched b j).getD C 0)) := by
            unfold nextW
            rw [if_neg (by omega), show j - 16 = D by omega, show j - 15 = A by omega, show j - 7 = E by omega, show j - 2 = C by omega]
          have dA := cell A (by omega); have dC := cell C (by omega); have dD := cell D (by omega); have dE := cell E (by omega)
          have dk := cell j hlt
          have fr := h2.out.frozen j
          have lA := LS A; have lC := LS C; have lD := LS D; have lE := LS E
          obtain ⟨xA, eA⟩ : ∃ x, (sched b j).getD A 0 = x := ⟨_, rfl⟩
          obtain ⟨xC, eC⟩ : ∃ x, (sched b j).getD C 0 = x := ⟨_, rfl⟩
          obtain ⟨xD, eD⟩ : ∃ x, (sched b j).getD D 0 = x := ⟨_, rfl⟩
          obtain ⟨xE, eE⟩ : ∃ x, (sched b j).getD E 0 = x := ⟨_, rfl⟩
          obtain ⟨xk, ek⟩ : ∃ x, (sched b j).getD j 0 = x := ⟨_, rfl⟩
          rw [eA] at dA lA hnx; rw [eC] at dC lC hnx; rw [eD] at dD lD hnx; rw [eE] at dE lE hnx; rw [ek] at dk
          clear eA eC eD eE ek LS cell
          have iA : (A : Int) < 64 := by omega
          have iC : (C : Int) < 64 := by omega
          have iD : (D : Int) < 64 := by omega
          have iE : (E : Int) < 64 := by omega
          have ik : (j : Int) < 64 := by omega
          have pA : (0 : Int) ≤ (A : Int) := by omega
          have pC : (0 : Int) ≤ (C : Int) := by omega
          have pD : (0 : Int) ≤ (D : Int) := by omega
          have pE : (0 : Int) ≤ (E : Int) := by omega
          have pk : (0 : Int) ≤ (j : Int) := by omega
          have q1 := sg0_val xA lA
          have q2 := sg1_val xC lC
          have g1 := rotr_lt xA 7 lA
          have c7 := Lib.hid (fun W : World => rotref7 xA W lA)
          have c18 := Lib.hid (fun W : World => rotref18 xA W lA)
          have c17 := Lib.hid (fun W : World => rotref17 xC W lC)
          have c19 := Lib.hid (fun W : World => rotref19 xC W lC)
          obtain ⟨r7, e7⟩ : ∃ r, rotr xA 7 = r := ⟨_, rfl⟩
          obtain ⟨r18, e18⟩ : ∃ r, rotr xA 18 = r := ⟨_, rfl⟩
          obtain ⟨r17, e17⟩ : ∃ r, rotr xC 17 = r := ⟨_, rfl⟩
          obtain ⟨r19, e19⟩ : ∃ r, rotr xC 19 = r := ⟨_, rfl⟩
          obtain ⟨S0, hS0⟩ : ∃ r, sg0 xA = r := ⟨_, rfl⟩
          obtain ⟨S1, hS1⟩ : ∃ r, sg1 xC = r := ⟨_, rfl⟩
          rw [e7] at c7 q1; rw [e18] at c18 q1; rw [e17] at c17 q2; rw [e19] at c19 q2
          rw [hS0] at q1 hnx; rw [hS1] at q2 hnx
          have q3 := sum4_val xD S0 xE S1
          rw [← hnx] at q3
          obtain ⟨y, hy⟩ : ∃ y, nextW b (sched b j) j = y := ⟨_, rfl⟩
          rw [hy] at q3
          have HY := Lib.hid hy
          have KA := Lib.hid hA
          clear hA hC hD hE hnx hy e7 e18 e17 e19 hS0 hS1 g1 lA lC lD lE
          go_wp2
          go_quiet ((go_at_call 105; first | (with_reducible exact Calls.quiet_of (c7.out _)) | (with_reducible exact Calls.quiet_of (c18.out _))))
          go_wp2
          generalize hWX : World.drewN wr _ = wx
          have h1 : Hid (Blk wx w.heap.size 147 (wvs (pad 64 []))) := Lib.hid (by rw [← hWX]; exact h1.out.drewN _)
          have h2 : Hid (Blk wx (w.heap.size + 1) 147 (wvs (pad 64 (sched b j)))) := Lib.hid (by rw [← hWX]; exact h2.out.drewN _)
          have hsz : wx.heap.size = w.heap.size + 2 := by rw [← hWX]; exact hsz
          have B : Below w.heap.size w wx := by rw [← hWX]; exact below_dn B
          have dC : wx.cell? ⟨w.heap.size + 1, C, none⟩ = some (wv xC) := by rw [← hWX]; exact dC
          have dD : wx.cell? ⟨w.heap.size + 1, D, none⟩ = some (wv xD) := by rw [← hWX]; exact dD
          have dE : wx.cell? ⟨w.heap.size + 1, E, none⟩ = some (wv xE) := by rw [← hWX]; exact dE
          have dk : wx.cell? ⟨w.heap.size + 1, j, none⟩ = some (wv xk) := by rw [← hWX]; exact dk
          have fr : wx.frozen? ⟨w.heap.size + 1, j, none⟩ = false := by rw [← hWX]; exact fr
          clear hWX
          go_quiet ((go_at_call 105; first | (with_reducible exact Calls.quiet_of (c17.out _)) | (with_reducible exact Calls.quiet_of (c19.out _))))
          go_wp2
          refine wp_region_still_tail 15 (by kernel_rfl) (by kernel_rfl) ?_
          simp only [List.take_succ_cons, List.take_zero, List.drop_succ_cons, List.drop_zero]
          show wpStill _ _ (World.drew _) _ _ _
          repeat still_step
          refine wpStill_nil ?_
          show wpList _ _ _ _ _ (World.drew _)
          go_wp2
          go_roundw
          case rel =>
            refine ⟨j + 1, by omega, by omega, by go_num, ?_, ?_, ?_, ?_⟩
            · simp [hsz]
            · (repeat' (first | (with_reducible exact Below.refl _ _) | (with_reducible assumption) | (with_reducible refine Below.alloc ?_ ?_ _) | (with_reducible refine Below.drew ?_) | (with_reducible refine below_dn ?_) | (with_reducible refine Below.setCell ?_ ?_ _) | (with_reducible exact Nat.le_refl _) | omega | (simp only [World.size_alloc, World.size_setCell, World.size_drew]; omega) | (simp; omega) | (simp; done)))
            · refine Lib.hid ?_
              exact ((h1.out.far (by simp) _).drewN _)
            · refine Lib.hid ?_
              have := h2.out.set_ j (wv y)
              rw [wvs_set] at this
              have e := pad_set 64 (sched b j) y (by rw [sched_len]; omega)
              rw [sched_len] at e
              rw [e] at this
              rw [sched, HY.out]
              exact this.drewN _
          case measure => simp [intOf]; omega
        · obtain rfl : j = 64 := by omega
          rw [pad_full _ _ (sched_len b 64)] at h2
          have ia : (Tryz.prog.info? 147).map (·.size) = some (wvs (sched b 64)).size := by rw [wvs_size, sched_len]; kernel_rfl
          have sz : (wvs (pad 64 [])).size = (wvs (sched b 64)).size := by rw [wvs_size, wvs_size, sched_len]; rfl
          have IA := Lib.hid ia; have SZ := Lib.hid sz
          clear ia sz
          go_wp2_with (first | (with_reducible refine wpList_load_blk rfl _ _ rfl _ rfl 147 _ _ _ h2.out Tryz.underlying147 IA.out ?_) | (with_reducible refine wpList_store_blk rfl _ _ _ rfl _ 147 _ _ rfl rfl h1.out IA.out SZ.out (wvs_one _) rfl ?_))
          refine bodyPost_ret (v := .agg (wvs (sched b 64))) (results_cell_row rfl _ _ _ 147 _ (0, 0) _ rfl (h1.out.row_ _) Tryz.underlying147 rfl IA.out) rfl ⟨rfl, ?_⟩
          exact below_setRow B (by omega) _
end Hs
end
section
set_option linter.unusedVariables false
set_option linter.unusedSimpArgs false
namespace Hs
open Go.RowKit
attribute [local go_sem] zeroSt
attribute [local simp] zeroSt_ne
set_option maxRecDepth 100000 in
set_option maxHeartbeats 1000000 in
theorem shortref_any (D : List Nat) (v : Value) (w : World) (hD : D.length = 32) (h : ∀ W, Below w.heap.size w W → Calls Tryz.prog 99 #[v] W fun e w' => e = .returned (.agg (bvs D)) ∧ Below W.heap.size W w') :
    Calls Tryz.prog 91 #[v] w fun e w' => e = .returned (.agg (bvs (D.take 16))) ∧ Below w.heap.size w w' := by
  have C := Lib.hid h
  have HD := Lib.hid hD
  have ia : (Tryz.prog.info? 132).map (·.size) = some (bvs D).size := by rw [bvs_size, hD]; kernel_rfl
  have sz : (bvs (List.replicate 32 0)).size = (bvs D).size := by rw [bvs_size, bvs_size, hD]; rfl
  have IA := Lib.hid ia; have SZ := Lib.hid sz
  clear h hD ia sz
  go_enter Tryz.func91, Tryz.ntmps91
  go_wp2_with fail
  refine (C.out _ (by (repeat' (first | (with_reducible exact Below.refl _ _) | (with_reducible assumption) | (with_reducible refine Below.alloc ?_ ?_ _) | (with_reducible refine Below.drew ?_) | (with_reducible refine below_dn ?_) | (with_reducible refine Below.setCell ?_ ?_ _) | (with_reducible exact Nat.le_refl _) | omega | (simp only [World.size_alloc, World.size_setCell, World.size_drew]; omega) | (simp; omega) | (simp; done))))).mono ?_
  rintro e w1 ⟨rfl, hb1⟩
  have J2 := Lib.hid (show Blk w1 w.heap.size 108 (bvs (List.replicate 16 0)) from (Blk.new' w 108 _ (bvs (List.replicate 16 0)) rfl rfl).below hb1 (by simp))
  have B1 := Lib.hid (show Below w.heap.size w w1 from bt (by (repeat' (first | (with_reducible exact Below.refl _ _) | (with_reducible assumption) | (with_reducible refine Below.alloc ?_ ?_ _) | (with_reducible refine Below.drew ?_) | (with_reducible refine below_dn ?_) | (with_reducible refine Below.setCell ?_ ?_ _) | (with_reducible exact Nat.le_refl _) | omega | (simp only [World.size_alloc, World.size_setCell, World.size_drew]; omega) | (simp; omega) | (simp; done)))) hb1)
  have z1 : w.heap.size < w1.heap.size := by have := J2.out.lt; exact this
  clear hb1 C
  go_wp2_with (with_reducible refine wpList_store_blk rfl _ _ _ rfl w1.heap.size 132 (bvs (List.replicate 32 0)) _ rfl rfl (Blk.new' _ _ _ _ rfl rfl) IA.out SZ.out (bvs_one _) rfl ?_)
  generalize hW : World.setRow _ w1.heap.size (bvs D) = W3
  have hS : W3.heap.size = w1.heap.size + 1 := by rw [← hW]; simp
  have K3 := Lib.hid (show Blk W3 w1.heap.size 132 (bvs D) by rw [← hW]; exact (Blk.new' w1 132 _ (bvs (List.replicate 32 0)) rfl rfl).row_ _)
  have K2 := Lib.hid (show Blk W3 w.heap.size 108 (bvs (List.replicate 16 0)) by rw [← hW]; exact (J2.out.alloc _).rowfar (by omega) _)
  have B3 := Lib.hid (show Below w.heap.size w W3 by rw [← hW]; exact below_setRow (B1.out.alloc B1.out.size _) B1.out.size _)
  obtain ⟨G, hG⟩ : ∃ G, w1.heap.size = G := ⟨_, rfl⟩
  rw [hG] at K3 hS z1 ⊢
  clear hW J2 B1 hG IA SZ
  go_loopw [5] (fun ui wr => ∃ k : Nat, k ≤ 16 ∧ ui = .int .i64 k ∧ Hid (Blk wr w.heap.size 108 (bvs (List.replicate 16 0))) ∧ Hid (Blk wr G 132 (bvs D)) ∧ Hid (Blk wr (G + 1) 108 (bvs (pad 16 (D.take k)))) ∧ Hid (Below w.heap.size w wr)) (fun ui _ => 16 - (intOf ui).toNat)
  case atStart => exact ⟨0, by omega, rfl, Lib.hid (K2.out.alloc _), Lib.hid (K3.out.alloc _), Lib.hid (Blk.new' _ _ _ _ hS rfl), Lib.hid (B3.out.alloc B3.out.size _)⟩
  case round =>
    obtain ⟨k, hk, rfl, h2, h3, h4, hbe⟩ := hrel
    by_cases hlt : k < 16
    · have d0 := (h3.out.cell k).trans (bvs_at D k (by rw [HD.out]; omega))
      have fr := h4.out.frozen k
      have lk : (D.take k).length = k := by rw [List.length_take, HD.out]; omega
      have dk := (h4.out.cell k).trans (bvs_at _ k (by rw [pad_len _ _ (by rw [lk]; omega)]; omega))
      have tk : D.take (k + 1) = D.take k ++ [D.getD k 0] := by
        rw [List.take_add_one, List.getElem?_eq_getElem (by rw [HD.out]; omega), List.getD_eq_getElem?_getD, List.getElem?_eq_getElem (by rw [HD.out]; omega)]
        rfl
      have ps := pad_set 16 (D.take k) (D.getD k 0) (by rw [lk]; omega)
      rw [lk, ← tk] at ps
      obtain ⟨x, hx⟩ : ∃ x, D.getD k 0 = x := ⟨_, rfl⟩
      obtain ⟨od, hod⟩ : ∃ x, (pad 16 (D.take k)).getD k 0 = x := ⟨_, rfl⟩
      rw [hx] at d0 ps; rw [hod] at dk
      have PS := Lib.hid ps
      have i1 : (k : Int) < 32 := by omega
      have i2 : (k : Int) < 16 := by omega
      have pk : (0 : Int) ≤ (k : Int) := by omega
      clear lk tk ps hx hod
      go_wp2
      go_roundw
      case rel =>
        refine ⟨k + 1, by omega, by go_num, Lib.hid (h2.out.far (by simp; omega) _), Lib.hid (h3.out.far (by simp) _), Lib.hid ?_, Lib.hid ?_⟩
        · have := h4.out.set_ k (bv x)
          rw [bvs_set, PS.out] at this
          exact this
        · have := hbe.out; (repeat' (first | (with_reducible exact Below.refl _ _) | (with_reducible assumption) | (with_reducible refine Below.alloc ?_ ?_ _) | (with_reducible refine Below.drew ?_) | (with_reducible refine below_dn ?_) | (with_reducible refine Below.setCell ?_ ?_ _) | (with_reducible exact Nat.le_refl _) | omega | (simp only [World.size_alloc, World.size_setCell, World.size_drew]; omega) | (simp; omega) | (simp; done)))
      case measure => simp [intOf]; omega
    · obtain rfl : k = 16 := by omega
      have l16 : (D.take 16).length = 16 := by rw [List.length_take, HD.out]; rfl
      rw [pad_full _ _ l16] at h4
      have ia : (Tryz.prog.info? 108).map (·.size) = some (bvs (D.take 16)).size := by rw [bvs_size, l16]; kernel_rfl
      have sz : (bvs (List.replicate 16 0)).size = (bvs (D.take 16)).size := by rw [bvs_size, bvs_size, l16]; rfl
      have IA := Lib.hid ia; have SZ := Lib.hid sz
      clear ia sz l16
      go_wp2_with (first | (with_reducible refine wpList_load_blk rfl _ _ rfl (G + 1) rfl 108 _ _ _ h4.out Tryz.underlying108 IA.out ?_) | (with_reducible refine wpList_store_blk rfl _ _ _ rfl w.heap.size 108 _ _ rfl rfl h2.out IA.out SZ.out (bvs_one _) rfl ?_))
      refine bodyPost_ret (v := .agg (bvs (D.take 16))) (results_cell_row rfl _ _ _ 108 _ (0, 0) _ rfl (h2.out.row_ _) Tryz.underlying108 rfl IA.out) rfl ⟨rfl, ?_⟩
      exact below_setRow hbe.out (Nat.le_refl _) _
end Hs
end
end Go.Proofs.YteblnmhaohbkkaaGreatDoor
