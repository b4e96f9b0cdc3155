/- For every integer, string, and slices of numbers, strings and digests (nil too), the law WireTruncated returns true, and changes nothing. No condition. -/
import Derived.Test.YtlihndekeaefcaaP9
import Derived.Test.YtlihndekeaefcaaO
import Derived.ProofKit
import Derived.Carry
namespace Go.Proofs.Ytlihndekeaefcaa
set_option linter.unusedVariables false
set_option linter.unusedSimpArgs false
open Go.ChangeShapes Go.WideShapes Go.ChangeAt Go.RowKit Go.Joins
theorem weights_strs {H : Type} {P : Program} {e : TypeId} : ∀ (l : List ByteArray) (s : ByteArray), s ∈ l → s.size ∈ DataW.weightsAll P e (strs (H := H) l)
  | [], s, h => by cases h
  | t :: l, s, h => by
    unfold strs
    simp only [List.map_cons, DataW.weightsAll, DataW.weights, List.mem_append, List.mem_singleton, Array.length_toList]
    rcases List.mem_cons.1 h with rfl | k
    · exact Or.inl rfl
    · exact Or.inr (weights_strs l s k)
theorem sized_strs {H : Type} {P : Program} {ts : List TypeId} {ds : List (DataW H)} (h : (DataW.weightsEach P ts ds).all (· ≤ reachBytes) = true) {j : Nat} {t e : TypeId} {l : List ByteArray} {spare : List (DataW H)} (ht : ts[j]? = some t) (hd : ds[j]? = some (.slice (strs l) spare)) (hu : P.underlying t = some (.slice e)) :
    ∀ s ∈ l, s.size ≤ reachBytes := fun s hs => by
  have := List.all_eq_true.1 h _ (DataW.weights_mem_each ht hd s.size (by
    simp only [DataW.weights, hu, List.mem_cons, List.mem_append]
    exact Or.inr (Or.inl (weights_strs l s hs))))
  simpa using this
theorem letters_le (n : Nat) : ∀ l : List ByteArray, (∀ s ∈ l, s.size ≤ n) → letters l ≤ l.length * n
  | [], _ => by simp [letters]
  | s :: l, h => by
    have := letters_le n l (fun t ht => h t (by simp [ht]))
    have := h s (by simp)
    simp only [letters, List.length_cons, Nat.succ_mul]
    omega
set_option maxRecDepth 100000 in
theorem lifted9 (os : Os) (started : os.Started) (H : Type) (enc : TypeId × Value → H) :
    ReturnsInHanded {} Try.checked os 9 .any (Rows.wireTruncatedSpec.pre6 enc Try.prog Try.f9 Rows.wireTruncatedRow.domain false) (Rows.wireTruncatedSpec.post enc Try.prog Try.f9 false true false false) := by
  refine returnsInHanded_of_change_sized (C := Try.checked) own started (by kernel_rfl) Try.func9
    (ChangeSpec.witness6 (enc := enc) (C := Try.checked) false ⟨#[], #[.int .i64 0, .string ByteArray.empty, .slice none 0 0, .slice none 0 0, .slice none 0 0], []⟩ 8 (by kernel_rfl) (by kernel_rfl) (by kernel_rfl) (by kernel_rfl)) ?_
  intro W base args ds gs before hval0 hW hcnd hz _
  have hval : ∀ (j : Nat) t v, Try.f9.params[j]? = some t → args[j]? = some v → Value.okWide Try.prog W .any base t v := hval0
  have hWh := hW
  obtain ⟨p, q, hA0, hV, rfl, hfz, hnd⟩ := hW
  have hA : DataW.TrodAll enc Try.prog W 0 (fun _ => true) true Try.f9.params.toList args.toList ds p := hA0
  rw [Try.params9] at hA hval
  obtain ⟨v0, vs0, d0, ds0, p0, q0, hargs0, rfl, rfl, h0, r0⟩ := trodAll_cons hA
  obtain ⟨v1, vs1, d1, ds1, p1, q1, hargs1, rfl, rfl, h1, r1⟩ := trodAll_cons r0
  subst hargs1
  obtain ⟨v2, vs2, d2, ds2, p2, q2, hargs2, rfl, rfl, h2, r2⟩ := trodAll_cons r1
  subst hargs2
  obtain ⟨v3, vs3, d3, ds3, p3, q3, hargs3, rfl, rfl, h3, r3⟩ := trodAll_cons r2
  subst hargs3
  obtain ⟨v4, vs4, d4, ds4, p4, q4, hargs4, rfl, rfl, h4, r4⟩ := trodAll_cons r3
  subst hargs4
  obtain ⟨hnl, rfl, rfl⟩ := trodAll_nil r4
  subst hnl
  obtain rfl : args = #[v0, v1, v2, v3, v4] := Array.toList_inj.1 hargs0
  obtain ⟨rfl, rfl⟩ := trodVars_none hV
  obtain ⟨n, rfl, n1, n2⟩ := open_num (hval 0 3 v0 rfl rfl) h0
  obtain ⟨s, rfl, rfl, sm⟩ := open_str (hval 1 9 v1 rfl rfl) h1
  obtain ⟨al, cl, l, rfl, lc, lh, lm, ld⟩ := open_nums (hval 2 22 v2 rfl rfl) h2
  obtain ⟨ax, cx, x, rfl, xc, xh, xd, xm, xz⟩ := open_strs (hval 3 23 v3 rfl rfl) h3
  obtain ⟨ad, cd, d, rfl, dc, dh, dm, dd⟩ := open_digs (hval 4 24 v4 rfl rfl) h4
  have z1 := sized_string hz (j := 1) (t := 9) (by rw [Try.params9]; rfl) rfl
  rw [Array.length_toList, show s.data.size = s.size from rfl] at z1
  have z2 : l.length * 8 ≤ reachBytes := by
    rcases ld with e | ⟨el, sp, rfl, e⟩
    · rw [e]; simp
    · have z := sized_slice hz (j := 2) (t := 22) (by rw [Try.params9]; rfl) rfl Try.underlying22
      rw [show Try.checked.prog.bytesOf 3 = 8 by kernel_rfl] at z
      omega
  have z4 : d.length * 16 ≤ reachBytes := by
    rcases dd with e | ⟨el, sp, rfl, e⟩
    · rw [e]; simp
    · have z := sized_slice hz (j := 4) (t := 24) (by rw [Try.params9]; rfl) rfl Try.underlying24
      rw [show Try.checked.prog.bytesOf 57 = 16 by kernel_rfl] at z
      omega
  have z3 : ∀ s ∈ x, s.size ≤ reachBytes := by
    rcases xd with e | ⟨rest, rfl⟩
    · rw [e]; intro s hs; cases hs
    · exact sized_strs hz (j := 3) (t := 23) (by rw [Try.params9]; rfl) rfl Try.underlying23
  have z5 := letters_le reachBytes x z3
  unfold reachBytes at z1 z2 z4 z5
  refine (truncated n s al ax ad cl cx cd l x d W n1 n2 lh xh dh (by omega) (fun h => by omega) xm).mono fun e W' ⟨he, hb⟩ => ⟨_, he, law_post laidOut ?_ rfl Try.underlying4 rfl rfl rfl hWh hb⟩
  rw [Try.params9]
  exact fun t ht => ⟨(List.all_eq_true.1 (by kernel_rfl : [3, 9, 22, 23, 24].all (fun t => Try.prog.readableRec t) = true)) t ht, of_decide_eq_true ((List.all_eq_true.1 (by kernel_rfl : [3, 9, 22, 23, 24].all (fun t => decide (t < Try.prog.types.size)) = true)) t ht)⟩
set_option maxRecDepth 100000 in
theorem wireTruncated_holds : Rows.WireTruncatedSaid :=
  OpenClaim.holds_of_wide 9 Try.f9 rfl rfl rfl rfl rfl rfl rfl ⟨rfl, rfl, rfl, rfl, rfl⟩ rfl rfl rfl rfl rfl (by kernel_rfl) Try.func9 (by kernel_rfl)
    (of_decide_eq_true (by kernel_rfl)) (by unfold Func.isWrapper; rw [if_neg (of_decide_eq_false (by kernel_rfl))]; exact ⟨rfl, rfl⟩)
    (fun os started H enc _ => lifted9 os started H enc)
#print axioms wireTruncated_holds
end Go.Proofs.Ytlihndekeaefcaa
