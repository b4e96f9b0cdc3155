/- Contracts of the functions of wire: the reference's GetDigests; few. -/
import Derived.Test.YtlihndekeaefcaaV
namespace Go.Proofs.Ytlihndekeaefcaa
set_option linter.unusedVariables false
set_option linter.unusedSimpArgs false
open Go.RowKit
theorem set_same {W : World} {g k : Nat} {v u : Value} (h : W.cell? ⟨g, k, none⟩ = some u) : (W.setCell ⟨g, k, none⟩ v).cell? ⟨g, k, none⟩ = some v := by go_cell
theorem set_other {W : World} {g k j : Nat} {v : Value} (h : j ≠ k) : (W.setCell ⟨g, k, none⟩ v).cell? ⟨g, j, none⟩ = W.cell? ⟨g, j, none⟩ :=
  World.cell?_setCell_other _ _ _ _ (fun e => h (by simp only [Addr.mk.injEq, and_true] at e; exact e.2.symm))
/-- A digest's block while it is filled. -/
def Fill (W : World) (g k : Nat) (x : List Nat) : Prop :=
  (∀ j, j < k → W.cell? ⟨g, j, none⟩ = some (bv (x.getD j 0))) ∧ (∀ j, k ≤ j → j < 16 → W.cell? ⟨g, j, none⟩ = some (.int .u8 0)) ∧ ∀ j, W.frozen? ⟨g, j, none⟩ = false
theorem Fill.new (W : World) (x : List Nat) : Fill (W.alloc (.cells (Array.replicate 16 (.int .u8 0)) 57)) W.heap.size 0 x := by
  refine ⟨fun j hj => absurd hj (by omega), fun j _ hj => ?_, fun j => ?_⟩
  · rw [World.cell?_alloc_new]
    simp [hj]
  · exact World.frozen?_alloc_new _ _ _ _
theorem Fill.step {W : World} {g k : Nat} {x : List Nat} (h : Fill W g k x) (hk : k < 16) : Fill (W.setCell ⟨g, k, none⟩ (bv (x.getD k 0))) g (k + 1) x := by
  obtain ⟨h1, h2, h3⟩ := h
  refine ⟨fun j hj => ?_, fun j hj1 hj2 => ?_, fun j => by rw [World.frozen?_setCell]; exact h3 j⟩
  · by_cases e : j = k
    · subst e; exact set_same (h2 j (Nat.le_refl _) hk)
    · rw [set_other e]; exact h1 j (by omega)
  · rw [set_other (by omega)]; exact h2 j (by omega) hj2
theorem getD_drop (l : List Nat) (n k : Nat) : (l.drop n).getD k 0 = l.getD (n + k) 0 := by
  simp [List.getD_eq_getElem?_getD, List.getElem?_drop]
set_option maxRecDepth 100000 in
set_option maxHeartbeats 4000000 in
theorem getDigestsref_any (a : Option Addr) (cap : Nat) (l : List Nat) (w : World) (hc : l.length ≤ cap) (hp : BytesA w a l) (hm : l.length ≤ 1000000) :
    Calls Try.prog 35 #[.slice a l.length cap] w (GivesL OwnG w.heap.size w (DL GD 16 l)) := by
  have HB := Lib.hid hp.lt
  obtain ⟨g1, g2, g3, g4, g5⟩ := GL_bd (s := 16) hp.lt hm
  have C := Lib.hid (getLengthref_any 16 a cap l w (by omega) (by omega) hp hm)
  unfold GLV at C
  have HP := Lib.hid hp; clear hp
  obtain ⟨n, u, e, hG⟩ : ∃ n u e, GL 16 l = (n, u, e) := ⟨_, _, _, rfl⟩
  rw [hG] at g1 g2 g3 g4 g5 C
  simp only at g1 g2 g3 g4 g5 C
  obtain ⟨n, rfl⟩ : ∃ m : Nat, n = m := ⟨n.toNat, by omega⟩
  by_cases he : e = 0
  · subst he
    have g2' : n * 16 ≤ l.length - u := by
      have := g2 rfl
      have h3 : n ≤ (l.length - u) / 16 := by omega
      exact (Nat.le_div_iff_mul_le (by decide)).1 h3
    rw [DL_ok (D := GD) hG]
    obtain ⟨R, hR⟩ : ∃ R, dlA GD n [] u l = R := ⟨_, rfl⟩
    rw [hR]
    have HR := Lib.hid hR; clear hR
    clear hG g2
    go_enter Try.func35, Try.ntmps35
    go_wp2_with fail
    refine C.out.mono ?_
    rintro e w1 ⟨rfl, rfl⟩
    go_wp2
    go_loopw [6, 8, 9] (fun uat ul ui wr => ∃ (i at' : Nat) (xs : List (List Nat)), i ≤ n ∧ at' = u + i * 16 ∧ xs.length = i ∧ ui = .int .i64 i ∧ uat = .int .i64 at' ∧ Hid (OwnG wr w.heap.size ul xs) ∧ Hid (dlA GD (n - i) xs at' l = R) ∧ Hid (Below w.heap.size w wr)) (fun _ _ ui _ => n - (intOf ui).toNat)
    case atStart => exact ⟨0, u, [], by omega, by omega, rfl, rfl, rfl, Lib.hid (World.ownsRow_nil _ _ _ _), HR, Lib.hid (Below.refl _ _)⟩
    case round =>
      obtain ⟨i, at', xs, hi1, hat, hxl, rfl, rfl, how, hdl, hbe⟩ := hrel
      rename World => wo
      have HXL := Lib.hid hxl; clear hxl
      by_cases hlt : i < n
      · have hroom : at' + 16 ≤ l.length := by omega
        have hD : GD (l.drop at') = ((l.drop at').take 16, 16, 0) := GD_ok (by rw [List.length_drop]; omega)
        obtain ⟨x, hx⟩ : ∃ x, (l.drop at').take 16 = x := ⟨_, rfl⟩
        rw [hx] at hD
        have x16 : x.length = 16 := by rw [← hx, List.length_take, List.length_drop]; omega
        have hxk : ∀ k, k < 16 → l.getD (at' + k) 0 = x.getD k 0 := fun k hk => by rw [← hx, getD_take hk, getD_drop]
        have hdl' := hdl.out
        obtain ⟨r, hr⟩ : ∃ r, n - i = r + 1 := ⟨n - i - 1, by omega⟩
        rw [hr, dlA_ok hD] at hdl'
        have HDL := Lib.hid hdl'
        have HRR := Lib.hid hr
        have HXK := Lib.hid hxk
        have HX := Lib.hid x16
        have HAT := Lib.hid hat
        clear hdl' hD hr hx hxk x16 hat
        have SW := Lib.hid (hbe.out.size)
        go_wp2
        go_loopw [11] (fun kk wq => ∃ k : Nat, k ≤ 16 ∧ kk = .int .i64 k ∧ Hid (Fill wq wo.heap.size k x) ∧ Hid (Below wo.heap.size wo wq)) (fun kk _ => 16 - (intOf kk).toNat)
        case atStart => exact ⟨0, by omega, rfl, Lib.hid (Fill.new wo x), Lib.hid ((Below.refl _ _).alloc (Nat.le_refl _) _)⟩
        case round =>
          obtain ⟨k, hk, rfl, hfill, hbq⟩ := hrel
          by_cases hk16 : k < 16
          · obtain ⟨b, off, rfl, q1, -⟩ := HP.out (at' + k) (by omega)
            rw [HXK.out k hk16] at q1
            have q2 : wr.cell? ⟨b, off + (at' + k), none⟩ = some (bv (x.getD k 0)) := keep (keep q1 hbe.out) hbq.out
            have q3 := hfill.out.2.1 k (Nat.le_refl _) hk16
            have q4 := hfill.out.2.2 k
            have Fsq := Lib.hid (hfill.out.step hk16)
            have BS := Lib.hid (hbq.out.setCell (p := ⟨wo.heap.size, k, none⟩) (Nat.le_refl _) (bv (x.getD k 0)))
            unfold bv at q2 Fsq BS
            obtain ⟨y, hy⟩ : ∃ y, x.getD k 0 = y := ⟨_, rfl⟩
            rw [hy] at q2 Fsq BS
            clear q1 hfill hbq hy
            go_wp2
            go_roundw
            case rel => exact ⟨k + 1, by omega, by go_num, Fsq, BS⟩
            case measure => simp [intOf]; omega
          · obtain rfl : k = 16 := by omega
            have ld := load_digest x (dca x) rfl HX.out wr wo.heap.size 0 (fun j hj => by rw [Nat.zero_add]; exact hfill.out.1 j hj)
            have c1 : (dca x).size = 16 := by rw [dca_size, HX.out]
            obtain ⟨D, hDC⟩ : ∃ D, dca x = D := ⟨_, rfl⟩
            rw [hDC] at ld c1
            have LD := Lib.hid ld; have C1 := Lib.hid c1; have HDC := Lib.hid hDC
            have HO2 := Lib.hid (show OwnG wr w.heap.size _ xs from own_below how.out hbq.out)
            have HB2 := Lib.hid (bt hbe.out hbq.out)
            clear ld c1 hDC hfill
            go_wp2_with (first | (refine wpLoadD rfl _ rfl ⟨wo.heap.size, 0, none⟩ rfl D LD.out ?_) | (refine wpBuildD rfl _ rfl D rfl C1.out ?_) | (at_builtin; refine wpAppG rfl _ _ rfl w.heap.size _ _ rfl HO2.out x D HDC.out HX.out ?hx ?hlen ?hBB ?_))
            case hlen => have := HXL.out; omega
            case hBB => have := HB2.out.size; simp; omega
            intro v3 w3 h3 hb3
            have H3 := Lib.hid h3
            have HB3 := Lib.hid (HB2.out.trans hb3)
            clear h3 hb3
            go_wp2
            go_roundw
            case rel => exact ⟨i + 1, at' + 16, xs ++ [x], by omega, by have := HAT.out; omega, by rw [List.length_append, List.length_singleton, HXL.out], by go_num, by go_num, H3, Lib.hid (by rw [show n - (i + 1) = r by have := HRR.out; omega]; exact HDL.out), HB3⟩
            case measure => simp [intOf]; omega
      · obtain rfl : i = n := by omega
        have hdl' := hdl.out
        rw [Nat.sub_self] at hdl'
        have HDL := Lib.hid (show (xs, at', 0) = R from hdl')
        clear hdl'
        go_wp2
        go_ret3
        have hh := HDL.out
        subst hh
        exact ⟨_, rfl, how.out, hbe.out⟩
  · have HL := Lib.hid (DL_err (D := GD) hG he)
    have he' : ((e : Int) == 0) = false := by simp; omega
    have he2 : ((e : Int) != 0) = true := by simp; omega
    clear hG g2 he
    go_enter Try.func35, Try.ntmps35
    go_wp2_with fail
    refine C.out.mono ?_
    rintro e w1 ⟨rfl, rfl⟩
    go_wp2
    go_ret3
    exact ⟨_, by rw [HL.out]; rfl, by rw [HL.out]; exact World.ownsRow_nil _ _ _ _, Below.refl _ _⟩
/-- How many letters strings have. -/
def letters : List ByteArray → Nat
  | [] => 0
  | s :: l => s.size + letters l
theorem letters_snoc : ∀ (l : List ByteArray) (k : Nat), k < l.length → letters (l.take (k + 1)) = letters (l.take k) + (l.getD k ByteArray.empty).size
  | [], k, h => absurd h (by simp)
  | s :: l, 0, _ => by simp [letters]
  | s :: l, k + 1, h => by
    have := letters_snoc l k (by simpa using h)
    simp only [List.take_succ_cons, letters, this, List.getD_cons_succ]
    omega
theorem letters_take : ∀ (l : List ByteArray) (k : Nat), letters (l.take k) ≤ letters l
  | [], k => by simp [letters]
  | s :: l, 0 => by simp [letters]
  | s :: l, k + 1 => by
    have := letters_take l k
    simp only [List.take_succ_cons, letters]
    omega
set_option maxRecDepth 100000 in
set_option maxHeartbeats 1000000 in
theorem few_any (a : Option Addr) (cap : Nat) (l : List ByteArray) (w : World) (hp : StrsA w a l) (hT : l.length + letters l ≤ 9223372036854775807) :
    Calls Try.prog 11 #[.slice a l.length cap] w fun e w' => e = .returned (.bool (decide (l.length + letters l ≤ 2000))) ∧ w = w' := by
  have HP := Lib.hid hp; clear hp
  go_enter Try.func11, Try.ntmps11
  go_wp2
  go_loopw [3, 5, 10] (fun u3 u5 u10 wr => ∃ k : Nat, k ≤ l.length ∧ u3 = .int .i64 ((l.length + letters (l.take k) : Nat) : Int) ∧ u10 = .int .i64 k ∧ wr = w) (fun _ _ u10 _ => l.length - (intOf u10).toNat)
  case atStart => exact ⟨0, by omega, by simp [letters], rfl, rfl⟩
  case round =>
    obtain ⟨k, hk, rfl, rfl, rfl⟩ := hrel
    by_cases hlt : k < l.length
    · obtain ⟨b, off, rfl, q1⟩ := HP.out k hlt
      have hs := letters_snoc l k hlt
      have ht := letters_take l (k + 1)
      obtain ⟨s, hS⟩ : ∃ s, l.getD k ByteArray.empty = s := ⟨_, rfl⟩
      rw [hS] at q1 hs
      obtain ⟨T, hTk⟩ : ∃ T, letters (l.take k) = T := ⟨_, rfl⟩
      rw [hTk] at hs ⊢
      have HS := Lib.hid hs
      have b1 : l.length + T + s.size ≤ 9223372036854775807 := by omega
      clear hS hs hTk ht
      go_wp2
      go_roundw
      case rel => exact ⟨k + 1, by omega, by rw [HS.out]; go_num, by go_num, by trivial⟩
      case measure => simp [intOf]; omega
    · obtain rfl : k = l.length := by omega
      rw [List.take_length]
      go_wp2
      go_ret
      exact ⟨ret_bool (by first | rfl | (congr 1; simp; omega)), rfl⟩
end Go.Proofs.Ytlihndekeaefcaa
