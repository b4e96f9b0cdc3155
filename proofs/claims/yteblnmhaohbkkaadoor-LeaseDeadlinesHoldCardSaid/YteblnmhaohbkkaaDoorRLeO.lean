import Derived.Deep.RegionHeld
namespace Go.Proofs.YteblnmhaohbkkaaDoor
set_option linter.unusedVariables false
set_option linter.unusedSimpArgs false
set_option linter.unusedSectionVars false
namespace Le
section
variable {P : Program} {ops : Array Oper} {Q : Exit → Act → World → Prop} {S : Array Bool → World → Prop}
def Ph (P : Program) (ops : Array Oper) (Q : Exit → Act → World → Prop) (S : Array Bool → World → Prop) : Nat → Array Bool → Act → World → Prop
  | 0, l, a, w => Region.ready .any ops l = [] ∧ Q .normal a w
  | n + 1, l, a, w => (Region.ready .any ops l = [] → Q .normal a w) ∧ ∀ i ∈ Region.ready .any ops l, wpOp P ops Q i (fun a' w' => S (l.setIfInBounds i true) w' ∧ Ph P ops Q S n (l.setIfInBounds i true) a' w') a w
theorem Ph.any : ∀ (n : Nat) (l : Array Bool) (a : Act) (w : World), Ph P ops Q S n l a w → wpAny P .any ops Q n l a w
  | 0, _, _, _, h => h
  | n + 1, _, _, _, h => ⟨h.1, fun i hi => wpOp_mono (fun a' w' h' => Ph.any n _ a' w' h'.2) (h.2 i hi)⟩
theorem Ph.start {id : Nat} {a : Act} {w : World} (hm : P.follows .mixedOrders = true) (hS : S (Array.replicate ops.size false) w.drew)
    (h : S (Array.replicate ops.size false) w.drew → Ph P ops Q S ops.size (Array.replicate ops.size false) a w.drew) : (Code.region id ops true).wp P Q a w :=
  wp_region_any hm (Ph.any _ _ _ _ (h hS))
theorem not_on {j i : Nat} {l : Array Bool} {o : Oper} (ho : ops[j]? = some o) (hj : j ∈ Region.ready .any ops l) (hi : l.getD i true = false) : ∀ e ∈ o.after, Region.binds .any e = true → e.on ≠ i := fun e he hb eq => by
  obtain ⟨-, o', ho', hall⟩ := mem_ready.1 hj
  rw [ho] at ho'
  cases ho'
  have h1 := hall e he hb
  rw [eq] at h1
  rcases Nat.lt_or_ge i l.size with h' | h'
  · simp [h'] at hi h1; rw [hi] at h1; cases h1
  · simp [Array.getElem?_eq_none h'] at h1
theorem Ph.first {T : World → Prop} {R : Array Bool → Prop} {i : Nat} {oi : Oper} {v : Value} (hi : ops[i]? = some oi) (hsel : ∀ (j : Nat) (o : Oper) cs b, ops[j]? = some o → o.op ≠ .select cs b)
    (hQ : ∀ c a w, Q (.panic c) (a.put oi.dst v) w → Q (.panic c) a w) (hSi : ∀ l w, S (l.setIfInBounds i true) w → S l w) (hT : ∀ l w, R l → S l w → T w)
    (hR : ∀ l j, R l → l.getD i true = false → j ∈ Region.ready .any ops l → j ≠ i → R (l.setIfInBounds j true)) :
    ∀ (n : Nat) (l : Array Bool) (a : Act) (w : World),
      (∀ j oj, ops[j]? = some oj → j ≠ i → l.getD j true = false → (∀ e ∈ oj.after, Region.binds .any e = true → e.on ≠ i) → oi.apart ops oj = true) →
      i ∈ Region.ready .any ops l → R l → YieldsIf P ops T oi v a → S l w →
      Ph P ops Q S n (l.setIfInBounds i true) (a.put oi.dst v) w → S (l.setIfInBounds i true) w → Ph P ops Q S (n + 1) l a w := by
  intro n
  induction n with
  | zero =>
    intro l a w _ hr hRl hy hS H hS2
    refine ⟨fun h => (by rw [h] at hr; cases hr), fun j hj => ?_⟩
    by_cases e : j = i
    · subst e; exact hy.wpOp hi (hT _ _ hRl hS) ⟨hS2, H⟩
    · have := ready_mono hj e
      rw [H.1] at this
      cases this
  | succ n ih =>
    intro l a w hfree hr hRl hy hS H hS2
    refine ⟨fun h => (by rw [h] at hr; cases hr), fun j hj => ?_⟩
    by_cases e : j = i
    · subst e; exact hy.wpOp hi (hT _ _ hRl hS) ⟨hS2, H⟩
    · have hil := (mem_ready.1 hr).1
      obtain ⟨hjl, oj, hoj, -⟩ := mem_ready.1 hj
      have h2 := wpOp_putIf hoj (hfree j oj hoj e hjl (not_on hoj hj hil)) (fun cs b => hsel i oi cs b hi) (fun cs b => hsel j oj cs b hoj) hQ hy (H.2 j (ready_mono hj e))
      have hil2 : (l.setIfInBounds j true).getD i true = false := by rw [getD_set_ne true e]; exact hil
      refine wpOp_mono (fun a' w' h3 => ?_) h2
      obtain ⟨hy', hs', h4⟩ := h3
      rw [← Array.setIfInBounds_comm _ _ e] at hs' h4
      have hs2 := hs'
      refine ⟨hSi _ _ hs', ih (l.setIfInBounds j true) a' w' (fun k ok hk hki hun hno => hfree k ok hk hki ?_ hno) (ready_mono hr (Ne.symm e)) (hR l j hRl hil hj e) hy' (hSi _ _ hs2) h4 hs2⟩
      by_cases hjk : j = k
      · subst hjk; exact hjl
      · rw [getD_set_ne true hjk] at hun; exact hun
def Till (b : Nat) (T U : World → Prop) : Array Bool → World → Prop := fun l w => (l.getD b true = false → T w) ∧ U w
theorem Till.back {b i : Nat} {T U : World → Prop} (h : i ≠ b) (l : Array Bool) (w : World) (q : Till b T U (l.setIfInBounds i true) w) : Till b T U l w :=
  ⟨fun hl => q.1 (by rw [getD_set_ne true h]; exact hl), q.2⟩
theorem Till.on {b i : Nat} {T U : World → Prop} (h : i ≠ b) (l : Array Bool) (w : World) (q : Till b T U l w) : Till b T U (l.setIfInBounds i true) w :=
  ⟨fun hl => q.1 (by rw [getD_set_ne true h] at hl; exact hl), q.2⟩
theorem Till.low {b : Nat} {T U : World → Prop} {l : Array Bool} {w : World} (h : T w) (k : U w) : Till b T U l w := ⟨fun _ => h, k⟩
theorem Till.high {b : Nat} {T U : World → Prop} {l : Array Bool} {w : World} (h : l.getD b true = true) (k : U w) : Till b T U l w := ⟨fun q => (by rw [h] at q; cases q), k⟩
def waits (ops : Array Oper) (b i : Nat) : Bool := match ops[b]? with
  | some o => o.after.any fun e => Region.binds .any e && e.on == i
  | none => false
theorem Ph.takeT {b i : Nat} {T U : World → Prop} {oi : Oper} {v : Value} {n : Nat} {l : Array Bool} {a : Act} {w : World} (hi : ops[i]? = some oi)
    (hs : Region.noSelect ops = true) (hf : Region.free .any ops l i = true) (hr : (Region.ready .any ops l).contains i = true) (hib : i ≠ b) (hw : waits ops b i = true) (hlb : l.getD b true = false)
    (hQ : ∀ c a w, Q (.panic c) (a.put oi.dst v) w → Q (.panic c) a w) (hy : YieldsIf P ops (fun w => T w ∧ U w) oi v a) (hS : Till b T U l w)
    (h : Ph P ops Q (Till b T U) n (l.setIfInBounds i true) (a.put oi.dst v) w) : Ph P ops Q (Till b T U) (n + 1) l a w := by
  refine Ph.first (T := fun w => T w ∧ U w) (R := fun l => l.getD b true = false) hi (Region.noSelect_spec hs) hQ (Till.back hib) (fun l w hl hS => ⟨hS.1 hl, hS.2⟩) (fun l j hl hil hj hji => ?_) n l a w (Region.free_spec hi hf) (by simpa using hr) hlb hy hS h (Till.on hib _ _ hS)
  have hjb : j ≠ b := fun e => by
    subst e
    unfold waits at hw
    cases ho : ops[j]? with
    | none => rw [ho] at hw; cases hw
    | some o =>
      rw [ho] at hw
      obtain ⟨e, he, q⟩ := Array.any_eq_true'.1 hw
      simp only [Bool.and_eq_true, beq_iff_eq] at q
      exact not_on ho hj hil e he q.1 q.2
  rw [getD_set_ne true hjb]
  exact hl
theorem Ph.takeU {b i : Nat} {T U : World → Prop} {oi : Oper} {v : Value} {n : Nat} {l : Array Bool} {a : Act} {w : World} (hi : ops[i]? = some oi)
    (hy : YieldsIf P ops U oi v a) (hS : Till b T U l w)
    (h : Ph P ops Q (Till b T U) n (l.setIfInBounds i true) (a.put oi.dst v) w)
    (hs : Region.noSelect ops = true := by kernel_rfl) (hf : Region.free .any ops l i = true := by kernel_rfl) (hr : (Region.ready .any ops l).contains i = true := by kernel_rfl) (hib : i ≠ b := by decide)
    (hQ : ∀ c a w, Q (.panic c) (a.put oi.dst v) w → Q (.panic c) a w := by exact fun _ _ _ h => h) : Ph P ops Q (Till b T U) (n + 1) l a w :=
  Ph.first (T := U) (R := fun _ => True) hi (Region.noSelect_spec hs) hQ (Till.back hib) (fun _ _ _ hS => hS.2) (fun _ _ _ _ _ _ => trivial) n l a w (Region.free_spec hi hf) (by simpa using hr) trivial hy hS h (Till.on hib _ _ hS)
def All (P : Program) (ops : Array Oper) (Q : Exit → Act → World → Prop) (S : Array Bool → World → Prop) (n : Nat) (l : Array Bool) (a : Act) (w : World) (rs : List Nat) : Prop :=
  ∀ i ∈ rs, wpOp P ops Q i (fun a' w' => S (l.setIfInBounds i true) w' ∧ Ph P ops Q S n (l.setIfInBounds i true) a' w') a w
theorem All.nil {n : Nat} {l : Array Bool} {a : Act} {w : World} : All P ops Q S n l a w [] := fun _ h => by cases h
theorem All.cons {n : Nat} {l : Array Bool} {a : Act} {w : World} {i : Nat} {o : Oper} {rs : List Nat} (ho : ops[i]? = some o)
    (h : ∀ K : Act → World → Prop, Shut (∀ a w, S (l.setIfInBounds i true) w → (S (l.setIfInBounds i true) w → Ph P ops Q S n (l.setIfInBounds i true) a w) → K a w) → if Region.wanted o (yielded ops a.tmps) = true then Oper.wp P o a w K Q else K (a.put o.dst undef) w)
    (hs : All P ops Q S n l a w rs) : All P ops Q S n l a w (i :: rs) := fun j hj => by
  rcases List.mem_cons.1 hj with rfl | hj
  · exact wpOp_step ho (fun K' hK => h K' (fun a w hS hW => hK a w ⟨hS, hW hS⟩))
  · exact hs j hj
theorem Ph.ready {rs : List Nat} {n : Nat} {l : Array Bool} {a : Act} {w : World} (hr : Region.ready .any ops l = rs) (hne : rs ≠ [])
    (h : All P ops Q S n l a w rs) : Ph P ops Q S (n + 1) l a w := ⟨fun h0 => absurd (hr ▸ h0) hne, hr ▸ h⟩
theorem Ph.takeP {b i : Nat} {T U : World → Prop} {oi : Oper} {v : Value} {n : Nat} {l : Array Bool} {a : Act} {w : World} (hi : ops[i]? = some oi)
    (hv : ∀ W, (execOp a.eval oi).run P W = .ok (.value v) W) (hS : Till b T U l w)
    (h : Ph P ops Q (Till b T U) n (l.setIfInBounds i true) (a.put oi.dst v) w) (hw : Region.wanted oi (yielded ops a.tmps) = true := by rfl)
    (hs : Region.noSelect ops = true := by kernel_rfl) (hf : Region.free .any ops l i = true := by kernel_rfl) (hr : (Region.ready .any ops l).contains i = true := by kernel_rfl) (hib : i ≠ b := by decide)
    (hQ : ∀ c a w, Q (.panic c) (a.put oi.dst v) w → Q (.panic c) a w := by exact fun _ _ _ h => h) : Ph P ops Q (Till b T U) (n + 1) l a w :=
  Ph.takeU hi (Or.inl ⟨hw, fun W _ => hv W⟩) hS h hs hf hr hib hQ
theorem Ph.done {l : Array Bool} {a : Act} {w : World} (hr : Region.ready .any ops l = []) (h : Q .normal a w) : ∀ n, Ph P ops Q S n l a w
  | 0 => ⟨hr, h⟩
  | _ + 1 => ⟨fun _ => h, by rw [hr]; simp⟩
end
end Le
end Go.Proofs.YteblnmhaohbkkaaDoor
