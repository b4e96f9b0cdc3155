import Derived.Test.YtcgdhankllphgaaRA3
namespace Go.Proofs.Ytcgdhankllphgaa
set_option linter.unusedVariables false
set_option linter.unusedSimpArgs false
set_option linter.unusedSectionVars false
section
namespace Am
open Go Go.RowKit
def at_ (T : List Blk) : Nat → Option Blk := fun id => T[id]?
def FnOk (P : Program) (g : FuncId) : Prop := ∃ fn c, P.funcs[g]? = some fn ∧ (fn.name == "runtime.NumGoroutine") = false ∧ fn.body = some c
def EC [Base] (P : Program) (g : FuncId) (T0 : List Blk) (xs : List AV) (T1 : List Blk) (r : AV) : Prop :=
  FnOk P g ∧ ∀ (B : Nat) (D S0 : Nat → Prop) (F : Nat → Option Cn) (w : World) (args : List Value), TabR B D S0 (at_ T0) F w → (∀ id, T0.length ≤ id → F id = none) → LR (stab B D S0 (at_ T0) F w) F w xs args →
    Calls P g args.toArray w fun e w' => ∃ v F', e = .returned v ∧ TabR B D S0 (at_ T1) F' w' ∧ (∀ id, T1.length ≤ id → F' id = none) ∧ Ev (stab B D S0 (at_ T0) F w) F w (stab B D S0 (at_ T1) F' w') F' w' ∧ Kept B D w w' ∧ VR (stab B D S0 (at_ T1) F' w') F' w' r v
def Blk.ren (ρ : Nat → Nat) (b : Blk) : Blk := { b with els := b.els.map (·.map (·.ren1 ρ)) }
def Blk.okB (b : Blk) : Prop := ∀ row ∈ b.els, row.all (·.ok1) = true
def rho (l : List Nat) (nw : Nat) (j : Nat) : Nat := match l[j]? with
  | some id => id
  | none => nw + min (j - l.length) 15
def updC (l : List Nat) (nw : Nat) (T1 : List Blk) : List (Nat × Blk) := T1.zipIdx.map fun p => (rho l nw p.2, p.1.ren (rho l nw))
theorem look_zip {ρ : Nat → Nat} {f : Blk → Blk} : ∀ (T : List Blk) (n : Nat), (∀ i j, n ≤ i → i < n + T.length → n ≤ j → j < n + T.length → ρ i = ρ j → i = j) →
    (∀ j b, T[j]? = some b → look ((T.zipIdx n).map fun p => (ρ p.2, f p.1)) (ρ (n + j)) = some (f b)) ∧ (∀ id b, look ((T.zipIdx n).map fun p => (ρ p.2, f p.1)) id = some b → ∃ j c, T[j]? = some c ∧ ρ (n + j) = id ∧ f c = b)
  | [], n, _ => ⟨fun j b h => by simp at h, fun id b h => by simp [look] at h⟩
  | x :: T, n, hi => by
    have ih := look_zip (f := f) T (n + 1) (fun i j h1 h2 h3 h4 => hi i j (by omega) (by simp; omega) (by omega) (by simp; omega))
    refine ⟨fun j b h => ?_, fun id b h => ?_⟩
    · simp only [List.zipIdx_cons, List.map_cons, look]
      cases j with
      | zero => simp at h; subst h; simp
      | succ j =>
        simp at h
        have hj := (List.getElem?_eq_some_iff.1 h).1
        rw [if_neg (fun e => by have := hi n (n + (j + 1)) (by omega) (by simp) (by omega) (by simp; omega) e; omega)]
        have := ih.1 j b h
        rwa [show n + 1 + j = n + (j + 1) by omega] at this
    · simp only [List.zipIdx_cons, List.map_cons, look] at h
      split at h
      · rename_i e; cases h; exact ⟨0, x, rfl, e, rfl⟩
      · obtain ⟨j, c, h1, h2, h3⟩ := ih.2 id b h
        exact ⟨j + 1, c, by simpa using h1, by rw [← h2]; congr 1; omega, h3⟩
section
variable [Base] {P : Program} {B : Nat} {D S0 : Nat → Prop} {T : Nat → Option Blk} {F : Nat → Option Cn} {w : World} {nw : Nat}
theorem ren_els {ρ : Nat → Nat} {b : Blk} {i : Nat} {row : List AV} (h : b.els[i]? = some row) : (b.ren ρ).els[i]? = some (row.map (·.ren1 ρ)) := by
  show (b.els.map _)[i]? = _
  rw [List.getElem?_map, h]; rfl
theorem ren_els_inv {ρ : Nat → Nat} {b : Blk} {i : Nat} {row : List AV} (h : (b.ren ρ).els[i]? = some row) : ∃ row0, b.els[i]? = some row0 ∧ row = row0.map (·.ren1 ρ) := by
  have h : (b.els.map (·.map (·.ren1 ρ)))[i]? = some row := h
  rw [List.getElem?_map] at h
  cases hr : b.els[i]? with
  | none => rw [hr] at h; cases h
  | some r => rw [hr] at h; cases h; exact ⟨r, rfl, rfl⟩
theorem call_ok {g : FuncId} {l : List Nat} {T0 T1 : List Blk} {xs0 : List AV} {r0 : AV} {args : List Value} (hT : TabR B D S0 T F w) (hfr : ∀ j, j < 16 → F (nw + j) = none ∧ T (nw + j) = none) (hec : EC P g T0 xs0 T1 r0)
    (hl : l.length = T0.length) (hnd : l.Nodup) (h01 : T0.length ≤ T1.length) (h16 : T1.length ≤ T0.length + 16) (hT0 : ∀ j b, T0[j]? = some b → T (rho l nw j) = some (b.ren (rho l nw)) ∧ b.okB)
    (hxs : LR (stab B D S0 T F w) F w (xs0.map (·.ren2 (rho l nw))) args) (hok : xs0.all (·.ok2) = true) {o : Prop} :
    Calls P g args.toArray w fun e w' => ∃ v F', e = .returned v ∧ Did B D S0 T F w nw ⟨o, r0.ren (rho l nw), updC l nw T1⟩ v F' w' := by
  obtain ⟨ρ, hρ⟩ : ∃ ρ, rho l nw = ρ := ⟨_, rfl⟩
  have hlo : ∀ j, j < l.length → ∃ id, l[j]? = some id ∧ ρ j = id := fun j hj => ⟨l[j], List.getElem?_eq_getElem hj, by rw [← hρ]; unfold rho; rw [List.getElem?_eq_getElem hj]⟩
  have hhi : ∀ j, l.length ≤ j → ρ j = nw + min (j - l.length) 15 := fun j hj => by rw [← hρ]; unfold rho; rw [List.getElem?_eq_none hj]
  have hsome : ∀ j, j < T0.length → T (ρ j) ≠ none := fun j hj e => by
    have := (hT0 j T0[j] (List.getElem?_eq_getElem hj)).1
    rw [hρ, e] at this; cases this
  have hFn : ∀ j, l.length ≤ j → j < T1.length → F (ρ j) = none ∧ T (ρ j) = none := fun j h1 h2 => by rw [hhi j h1]; exact hfr _ (by omega)
  have hFn2 : ∀ j, l.length ≤ j → F (ρ j) = none := fun j h1 => by rw [hhi j h1]; exact (hfr _ (by omega)).1
  have hinj : ∀ i j, i < T1.length → j < T1.length → ρ i = ρ j → i = j := fun i j hi hj e => by
    rcases Nat.lt_or_ge i l.length with h1 | h1 <;> rcases Nat.lt_or_ge j l.length with h2 | h2
    · obtain ⟨a, a1, a2⟩ := hlo i h1
      obtain ⟨b, b1, b2⟩ := hlo j h2
      have : l[i] = l[j] := by
        have e1 := (List.getElem?_eq_some_iff.1 a1).2
        have e2 := (List.getElem?_eq_some_iff.1 b1).2
        rw [e1, e2, ← a2, ← b2, e]
      exact (List.getElem_inj hnd).1 this
    · have := (hFn j h2 hj).2
      rw [← e] at this
      exact absurd this (hsome i (by omega))
    · have := (hFn i h1 hi).2
      rw [e] at this
      exact absurd this (hsome j (by omega))
    · rw [hhi i h1, hhi j h2] at e
      omega
  rw [hρ] at hxs
  simp only [hρ] at hT0
  let F0 : Nat → Option Cn := fun j => if j < T0.length then F (ρ j) else none
  let S := stab B D S0 T F w
  let D' : Nat → Prop := fun g => ∃ j b cap k, T0[j]? = some b ∧ b.st = .live ∧ F (ρ j) = some (.blk g cap k)
  have hF0 : ∀ j, j < T0.length → F0 j = F (ρ j) := fun j hj => if_pos hj
  have hSD : ∀ g, S g → ¬ D' g := fun g hg ⟨j, b, cap, k, h1, h2, h3⟩ => hg.2.2 (ρ j) (b.ren ρ) cap k (hT0 j b h1).1 h2 h3
  have hpull : ∀ id c, F (ρ id) = some c → F0 id = some c := fun id c h => by
    rcases Nat.lt_or_ge id T0.length with q | q
    · exact (hF0 id q).trans h
    · rw [hFn2 id (by omega)] at h; cases h
  let St := stab w.heap.size D' S (at_ T0) F0 w
  have hSt : ∀ b, S b → St b := fun b hb => ⟨hb.1, fun _ => .inl hb, fun id bk cap k h1 h2 h3 => by
    have hid : id < T0.length := (List.getElem?_eq_some_iff.1 (show T0[id]? = some bk from h1)).1
    have h3 : F0 id = some (.blk b cap k) := h3
    rw [hF0 id hid] at h3
    exact hb.2.2 (ρ id) (bk.ren ρ) cap k (hT0 id bk h1).1 h2 h3⟩
  have ev0 : Ev S F0 w St F0 w := ⟨hSt, fun _ _ => rfl, fun _ _ h => .inl h⟩
  have tab0 : TabR w.heap.size D' S (at_ T0) F0 w := by
    refine ⟨fun id b hb => ?_, fun id id' b b' gg cap k cap' k' hb hb' hl1 hl2 hg hg' => ?_, hSD, Nat.le_refl _, fun g hg => ⟨Nat.lt_of_lt_of_le (hT.laid g hg).1 hT.big, hT.stabL hg, (hT.laid g hg).2.2⟩⟩
    · have hb : T0[id]? = some b := hb
      have hid := (List.getElem?_eq_some_iff.1 hb).1
      obtain ⟨c, c1, c2⟩ := hT.cov (ρ id) _ (hT0 id b hb).1
      refine ⟨c, (hF0 id hid).trans c1, fun hd => ?_⟩
      have c2 := c2 hd
      cases c with
      | dead => exact c2.elim
      | nil => exact ⟨c2.1, by have h : b.els.map (·.map (·.ren1 ρ)) = [] := c2.2; simpa using h⟩
      | blk gg cap k =>
        obtain ⟨k0, cur, b1, b2, b3, b4, b4b, b5, b6, b7, b8⟩ := c2
        refine ⟨k0, cur, b1, b2, by have h : (b.els.map (·.map (·.ren1 ρ))).length ≤ cap := b3; simpa using h, b4, b4b, fun i row hr => ?_, fun i j row x hr hx => ?_, fun hlv => .inr ⟨id, b, cap, k, hb, hlv, c1⟩, fun hfz => hSt gg (b8 hfz)⟩
        · have := b5 i _ (ren_els hr)
          simpa using this
        · obtain ⟨v, v1, v2⟩ := b6 i j _ (x.ren1 ρ) (ren_els hr) (by rw [List.getElem?_map, hx]; rfl)
          exact ⟨v, v1, VR.mono ev0 (VR.pull1 hpull x v (List.all_eq_true.1 ((hT0 id b hb).2 row (List.mem_of_getElem? hr)) x (List.mem_of_getElem? hx)) v2)⟩
    · have hb : T0[id]? = some b := hb
      have hb' : T0[id']? = some b' := hb'
      have hid := (List.getElem?_eq_some_iff.1 hb).1
      have hid' := (List.getElem?_eq_some_iff.1 hb').1
      rw [hF0 id hid] at hg
      rw [hF0 id' hid'] at hg'
      exact hinj id id' (by omega) (by omega) (hT.inj _ _ _ _ gg cap k cap' k' (hT0 id b hb).1 (hT0 id' b' hb').1 hl1 hl2 hg hg')
  have hxs0 : LR St F0 w xs0 args := (map_pull (VR.pull hpull) hok hxs).mono ev0
  refine (hec.2 w.heap.size D' S F0 w args tab0 (fun id hid => if_neg (by omega)) hxs0).mono fun e w' h => ?_
  obtain ⟨v, F1, he, t1, d1, ev1, k1, vr⟩ := h
  have hlz := look_zip (ρ := ρ) (f := fun b => b.ren ρ) T1 0 (fun i j _ hi _ hj e => hinj i j (by omega) (by omega) e)
  have hupd : updC l nw T1 = (T1.zipIdx 0).map fun p => (ρ p.2, p.1.ren ρ) := by unfold updC; rw [hρ]
  let ι : Nat → Option Nat := fun id => (List.range T1.length).find? fun j => ρ j = id
  have hι1 : ∀ j, j < T1.length → ι (ρ j) = some j := fun j hj => by
    show (List.range T1.length).find? _ = some j
    rw [List.find?_eq_some_iff_getElem]
    refine ⟨by simp, j, by simpa using hj, by simp, fun m hm => ?_⟩
    simp only [List.getElem_range, Bool.not_eq_true', decide_eq_false_iff_not]
    intro e
    have := hinj m j (by omega) hj e
    omega
  have hι2 : ∀ id j, ι id = some j → ρ j = id ∧ j < T1.length := fun id j h => by
    have h1 := List.find?_some h
    have h2 := List.mem_of_find?_eq_some h
    exact ⟨by simpa using h1, by simpa using h2⟩
  let F' : Nat → Option Cn := fun id => match ι id with | some j => F1 j | none => F id
  have hF'1 : ∀ id j, ι id = some j → F' id = F1 j := fun id j h => by show (match ι id with | some j => F1 j | none => F id) = _; rw [h]
  have hF'0 : ∀ id, ι id = none → F' id = F id := fun id h => by show (match ι id with | some j => F1 j | none => F id) = _; rw [h]
  have hT'1 : ∀ id b, ov (updC l nw T1) T id = some b → (∃ j c, ι id = some j ∧ T1[j]? = some c ∧ b = c.ren ρ) ∨ (ι id = none ∧ T id = some b) := fun id b h => by
    rw [hupd] at h
    cases hi : ι id with
    | some j =>
      obtain ⟨e, hj⟩ := hι2 id j hi
      have := hlz.1 j T1[j] (List.getElem?_eq_getElem hj)
      rw [Nat.zero_add, e] at this
      unfold ov at h
      rw [this] at h
      cases h
      exact .inl ⟨j, T1[j], rfl, List.getElem?_eq_getElem hj, rfl⟩
    | none =>
      refine .inr ⟨rfl, ?_⟩
      unfold ov at h
      cases hlk : look ((T1.zipIdx 0).map fun p => (ρ p.2, p.1.ren ρ)) id with
      | some c =>
        obtain ⟨j, c', q1, q2, -⟩ := hlz.2 id c hlk
        rw [Nat.zero_add] at q2
        have := hι1 j (List.getElem?_eq_some_iff.1 q1).1
        rw [q2, hi] at this
        cases this
      | none => rw [hlk] at h; exact h
  have hkeep : ∀ b, b < w.heap.size → ¬ D' b → w'.heap[b]? = w.heap[b]? := fun b h1 h2 => k1.block b h1 h2
  have hlive : ∀ id b cap k, T id = some b → b.st = .live → ∀ gg, F id = some (.blk gg cap k) → ι id = none → ¬ D' gg := fun id b cap k h1 h2 gg h3 h4 ⟨j, b', cap', k', q1, q2, q3⟩ => by
    have := hT.inj id (ρ j) b _ gg cap k cap' k' h1 (hT0 j b' q1).1 h2 q2 h3 q3
    subst this
    have hj := (List.getElem?_eq_some_iff.1 q1).1
    rw [hι1 j (by omega)] at h4
    cases h4
  let S' := stab B D S0 (ov (updC l nw T1) T) F' w'
  have hA : ∀ b, S b → S' b := fun b hb => ⟨Nat.lt_of_lt_of_le hb.1 k1.size, hb.2.1, fun id x cap k h1 h2 h3 => by
    rcases hT'1 id x h1 with ⟨j, c, q1, q2, rfl⟩ | ⟨q1, q2⟩
    · rw [hF'1 id j q1] at h3
      obtain ⟨c', r1, r2⟩ := t1.cov j c q2
      rw [h3] at r1
      cases r1
      have hc : c.st = .live := h2
      obtain ⟨-, _, -, -, -, -, -, -, -, r7, -⟩ := r2 (by rw [hc]; simp)
      rcases r7 hc with r | r
      · have := hb.1; omega
      · exact hSD b hb r
    · rw [hF'0 id q1] at h3
      exact hb.2.2 id x cap k q2 h2 h3⟩
  have hok1 : ∀ gg, (w.heap.size ≤ gg ∨ D' gg) → B ≤ gg ∨ D gg := fun gg h => by
    rcases h with h | ⟨j, b, cap, k, q1, q2, q3⟩
    · exact .inl (Nat.le_trans hT.big h)
    · obtain ⟨c, r1, r2⟩ := hT.cov _ _ (hT0 j b q1).1
      rw [q3] at r1
      cases r1
      have hc : (b.ren ρ).st = .live := q2
      obtain ⟨-, _, -, -, -, -, -, -, -, r7, -⟩ := r2 (by rw [hc]; simp)
      exact r7 hc
  have hB : ∀ b, stab w.heap.size D' S (at_ T1) F1 w' b → S' b := fun b hb => by
    refine ⟨hb.1, fun hlt => ?_, fun id x cap k h1 h2 h3 => ?_⟩
    · rcases hb.2.1 (Nat.lt_of_lt_of_le hlt hT.big) with q | q
      · exact q.2.1 hlt
      · rcases hok1 b (.inr q) with r | r
        · omega
        · exact .inr r
    · rcases hT'1 id x h1 with ⟨j, c, q1, q2, rfl⟩ | ⟨q1, q2⟩
      · rw [hF'1 id j q1] at h3
        exact hb.2.2 j c cap k q2 h2 h3
      rw [hF'0 id q1] at h3
      rcases hb.2.1 (hT.lt q2 (by rw [h2]; simp) h3) with q | q
      · exact q.2.2 id x cap k q2 h2 h3
      · exact hlive id x cap k q2 h2 b h3 q1 q
  have ev : Ev S F w S' F' w' := by
    refine ⟨hA, fun b hb => hkeep b hb.1 (hSD b hb), fun id c hc => ?_⟩
    cases hi : ι id with
    | none => exact .inl ((hF'0 id hi).trans hc)
    | some j =>
      obtain ⟨e, hj⟩ := hι2 id j hi
      rw [hF'1 id j hi]
      rcases Nat.lt_or_ge j T0.length with q | q
      · exact ev1.f j c ((hF0 j q).trans (by rw [e]; exact hc))
      · have := (hFn j (by omega) hj).1
        rw [e, hc] at this
        cases this
  have evB : Ev (stab w.heap.size D' S (at_ T1) F1 w') F1 w' S' F1 w' := ⟨hB, fun _ _ => rfl, fun _ _ h => .inl h⟩
  have hpush : ∀ id c, F1 id = some c → F' (ρ id) = some c := fun id c hc => by
    rcases Nat.lt_or_ge id T1.length with q | q
    · rw [hF'1 _ id (hι1 id q)]; exact hc
    · rw [d1 id q] at hc; cases hc
  refine ⟨v, F', he, ⟨⟨fun id b hb => ?_, fun id id' b b' gg cap k cap' k' hb hb' hl1 hl2 hg hg' => ?_, hT.sh, Nat.le_trans hT.big k1.size, hT.laidEv ev⟩, ev, ⟨k1.os, k1.tape, k1.output, k1.size, fun b h1 h2 => hkeep b (Nat.lt_of_lt_of_le h1 hT.big) (fun hd => ?_)⟩, ?_, fun id hid hn => ?_⟩⟩
  · rcases hT'1 id b hb with ⟨j, c, q1, q2, rfl⟩ | ⟨q1, q2⟩
    · obtain ⟨c', r1, r2⟩ := t1.cov j c q2
      refine ⟨c', (hF'1 id j q1).trans r1, fun hd => ?_⟩
      have r2 := r2 hd
      cases c' with
      | dead => exact r2.elim
      | nil => exact ⟨r2.1, by show c.els.map _ = []; rw [r2.2]; rfl⟩
      | blk gg cap k =>
        obtain ⟨k0, cur, b1, b2, b3, b4, b4b, b5, b6, b7, b8⟩ := r2
        refine ⟨k0, cur, b1, b2, by show (c.els.map _).length ≤ cap; simpa using b3, b4, b4b, fun i row hr => ?_, fun i m row x hr hx => ?_, fun hlv => hok1 gg (b7 hlv), fun hfz => hB gg (b8 hfz)⟩
        · obtain ⟨row0, s1, rfl⟩ := ren_els_inv hr
          simpa using b5 i row0 s1
        · obtain ⟨row0, s1, rfl⟩ := ren_els_inv hr
          rw [List.getElem?_map] at hx
          cases hx0 : row0[m]? with
          | none => rw [hx0] at hx; cases hx
          | some y =>
            rw [hx0] at hx
            cases hx
            obtain ⟨u, u1, u2⟩ := b6 i m row0 y s1 hx0
            exact ⟨u, u1, VR.push1 hpush y u (VR.mono evB u2)⟩
    · obtain ⟨c, r1, r2⟩ := hT.cov id b q2
      refine ⟨c, (hF'0 id q1).trans r1, fun hd => BlkR.mono ev (fun gg cap k e => ?_) (r2 hd)⟩
      subst e
      have hlt := hT.lt q2 hd r1
      cases hst : b.st with
      | live => exact hkeep gg hlt (hlive id b cap k q2 hst gg r1 q1)
      | frozen =>
        obtain ⟨-, _, -, -, -, -, -, -, -, -, r8⟩ := r2 hd
        exact hkeep gg hlt (hSD gg (r8 hst))
      | dead => exact absurd hst hd
  · rcases hT'1 id b hb with ⟨j, c, q1, q2, e1⟩ | ⟨q1, q2⟩
    · rcases hT'1 id' b' hb' with ⟨j', c', q1', q2', e1'⟩ | ⟨q1', q2'⟩
      · rw [hF'1 id j q1] at hg
        rw [hF'1 id' j' q1'] at hg'
        subst e1 e1'
        have := t1.inj j j' c c' gg cap k cap' k' q2 q2' hl1 hl2 hg hg'
        rw [← (hι2 id j q1).1, ← (hι2 id' j' q1').1, this]
      · rw [hF'1 id j q1] at hg
        rw [hF'0 id' q1'] at hg'
        subst e1
        obtain ⟨c2, r1, r2⟩ := t1.cov j c q2
        rw [hg] at r1
        cases r1
        have hc : c.st = .live := hl1
        obtain ⟨-, _, -, -, -, -, -, -, -, r7, -⟩ := r2 (by rw [hc]; simp)
        have hlt := hT.lt q2' (by rw [hl2]; simp) hg'
        rcases r7 hc with r | r
        · omega
        · exact absurd r (hlive id' b' cap' k' q2' hl2 gg hg' q1')
    · rcases hT'1 id' b' hb' with ⟨j', c', q1', q2', e1'⟩ | ⟨q1', q2'⟩
      · rw [hF'0 id q1] at hg
        rw [hF'1 id' j' q1'] at hg'
        subst e1'
        obtain ⟨c2, r1, r2⟩ := t1.cov j' c' q2'
        rw [hg'] at r1
        cases r1
        have hc : c'.st = .live := hl2
        obtain ⟨-, _, -, -, -, -, -, -, -, r7, -⟩ := r2 (by rw [hc]; simp)
        have hlt := hT.lt q2 (by rw [hl1]; simp) hg
        rcases r7 hc with r | r
        · omega
        · exact absurd r (hlive id b cap k q2 hl1 gg hg q1)
      · rw [hF'0 id q1] at hg
        rw [hF'0 id' q1'] at hg'
        exact hT.inj id id' b b' gg cap k cap' k' q2 q2' hl1 hl2 hg hg'
  · rcases hok1 b (.inr hd) with r | r
    · omega
    · exact h2 r
  · rw [hρ]
    exact VR.push hpush (VR.mono evB vr)
  · cases hi : ι id with
    | none => exact (hF'0 id hi).trans hn
    | some j =>
      obtain ⟨e, hj⟩ := hι2 id j hi
      rcases Nat.lt_or_ge j l.length with q | q
      · have h0 : T (ρ j) ≠ none := hsome j (by omega)
        obtain ⟨b, hb⟩ := Option.ne_none_iff_exists'.1 h0
        obtain ⟨c, hc, -⟩ := hT.cov _ b hb
        rw [e, hn] at hc
        cases hc
      · have := hhi j q
        exact absurd (by omega : nw ≤ id ∧ id < nw + 16) hid
end
end Am
end
section
namespace Am
open Go Go.RowKit
def AV.clo0 : AV → Bool
  | .ptr _ _ _ | .own _ _ _ | .agg _ | .tup _ | .fn _ _ _ => false
  | _ => true
def AV.clo : AV → Bool
  | .fn _ a b => a.all (·.clo0) && b.all (·.clo0)
  | x => x.clo0
def frzT : List Nat → (Nat → Option Blk) → List (Nat × Blk)
  | [], _ => []
  | id :: r, T => match T id with
    | some b => frzT r (ov [(id, { b with st := .frozen })] T) ++ [(id, { b with st := .frozen })]
    | none => []
def frzOk : List Nat → (Nat → Option Blk) → Prop
  | [], _ => True
  | id :: r, T => match T id with
    | some b => b.st = .live ∧ (∀ row ∈ b.els, row.all (·.clo) = true) ∧ frzOk r (ov [(id, { b with st := .frozen })] T)
    | none => False
def frzA (T : Nat → Option Blk) (fz : List Nat) : AV → AV
  | .own id ix n => if id ∈ fz then match aliveB T id with
    | some b => if ix + n ≤ b.els.length then .sl ((b.els.drop ix).take n) else .any
    | none => .any
    else .own id ix n
  | x => x
def frzB (T : Nat → Option Blk) (fz : List Nat) : AV → AV
  | .agg cs => .agg (cs.map (frzA T fz))
  | .fn f a b => .fn f (a.map (frzA T fz)) (b.map (frzA T fz))
  | x => frzA T fz x
def CallEff [Base] (P : Program) (T : Nat → Option Blk) (nw : Nat) (g : FuncId) (xs : List AV) (tl : List Nat) (e : Eff) : Prop :=
  ∃ (fz l : List Nat) (T0 : List Blk) (xs0 : List AV) (T1 : List Blk) (r0 : AV), frzOk fz T ∧ EC P g T0 xs0 T1 r0 ∧ l.length = T0.length ∧ l.Nodup ∧ T0.length ≤ T1.length ∧ T1.length ≤ T0.length + 16 ∧
    (∀ j b, T0[j]? = some b → ov (frzT fz T) T (rho l nw j) = some (b.ren (rho l nw)) ∧ b.okB) ∧ xs.map (frzB (ov (frzT fz T) T) fz) = xs0.map (·.ren2 (rho l nw)) ∧ xs0.all (·.ok2) = true ∧ tl = fz ++ l ∧
    e = ⟨True, r0.ren (rho l nw), updC l nw T1 ++ frzT fz T⟩
def AS.app (s : AS) (d : Option Tmp) (e : Eff) : AS := { t := (s.put d e.v).t, T := e.upd ++ s.T, N := s.N, M := s.M }
def idA : AV → List Nat
  | .ptr id _ _ => [id]
  | .own id _ _ => [id]
  | _ => []
def aexe [Base] (P : Program) (ti : TypeId → Option TI) (nw : Nat) (o : Oper) (K : List Nat × List Nat → AS → Prop) (s : AS) : Prop :=
  match asem P ti nw (look s.T) s.ev o.op with
  | some e => e.obl ∧ K ((o.op.operands.toList.map s.ev).flatMap idA, e.upd.map (·.1)) (s.app o.dst e)
  | none => match o.op with
    | .call ⟨.value f, args, _⟩ => match s.ev f with
      | .fn g first caps => ∃ tl e, CallEff P (look s.T) nw g (first ++ args.toList.map s.ev ++ caps) tl e ∧ K (tl, e.upd.map (·.1)) (s.app o.dst e)
      | _ => False
    | _ => False
def guardV (ops : Array Oper) (s : AS) (j : Nat) : AV := match (ops[j]?).bind (·.dst) with
  | some d => (look s.t d).getD .any
  | none => .any
def astep [Base] (P : Program) (ti : TypeId → Option TI) (ops : Array Oper) (nw : Nat) (o : Oper) (K : List Nat × List Nat → AS → Prop) (s : AS) : Prop :=
  match o.guard with
  | none => aexe P ti nw o K s
  | some (j, want) => match guardV ops s j with
    | .v (.bool b) => (b = want → aexe P ti nw o K s) ∧ (b = !want → K ([], []) (s.put o.dst .any))
    | _ => False
section
variable [Base] {P : Program} {ti : TypeId → Option TI} {B : Nat} {D S0 : Nat → Prop} {T : Nat → Option Blk} {F : Nat → Option Cn} {w : World}
theorem VR.close0 {S : Nat → Prop} (x : AV) (v : Value) (hc : x.clo0 = true) (h : VR S F w x v) : VR S (fun _ => none) w x v := by
  cases x with
  | any => exact .any v
  | v x => cases h; exact .v _
  | agg => cases hc
  | tup => cases hc
  | fn => cases hc
  | ptr => cases hc
  | own => cases hc
  | sl els => cases h with | sl _ a n cap k b o f hn hc hk h hv => exact .sl els a n cap k b o f hn hc hk h hv
  | dp cs => cases h with | dp _ b o f h hv => exact .dp cs b o f h hv
theorem lr_close {S : Nat → Prop} {cs : List AV} {vs : List Value} (hc : cs.all (·.clo0) = true) (h : LR S F w cs vs) : LR S (fun _ => none) w cs vs :=
  ⟨h.1, fun i c v h1 h2 => VR.close0 c v (List.all_eq_true.1 hc c (List.mem_of_getElem? h1)) (h.2 i c v h1 h2)⟩
theorem VR.close {S : Nat → Prop} {x : AV} {v : Value} (hc : x.clo = true) (h : VR S F w x v) : VR S (fun _ => none) w x v := by
  by_cases hx : ∃ f a b, x = .fn f a b
  · obtain ⟨f, a, b, rfl⟩ := hx
    have hc : (a.all (·.clo0) && b.all (·.clo0)) = true := hc
    rw [Bool.and_eq_true] at hc
    cases h with
    | fn _ _ _ fv cv hf hc' h1 h2 =>
      have l1 := lr_close hc.1 (⟨hf, h1⟩ : LR S F w a fv)
      have l2 := lr_close hc.2 (⟨hc', h2⟩ : LR S F w b cv)
      exact .fn f a b fv cv l1.1 l2.1 l1.2 l2.2
  · have e : x.clo = x.clo0 := by cases x <;> first | rfl | exact absurd ⟨_, _, _, rfl⟩ hx
    rw [e] at hc
    exact VR.close0 x v hc h
theorem TabR.freeze (h : TabR B D S0 T F w) {id : Nat} {b : Blk} (hT : T id = some b) (hl : b.st = .live) :
    let T' := ov [(id, { b with st := .frozen })] T
    TabR B D S0 T' F w ∧ Ev (stab B D S0 T F w) F w (stab B D S0 T' F w) F w := by
  intro T'
  have ev : Ev (stab B D S0 T F w) F w (stab B D S0 T' F w) F w := by
    refine ⟨fun g hg => ⟨hg.1, hg.2.1, fun j x cap k hx hlx hF => ?_⟩, fun _ _ => rfl, fun _ _ hc => .inl hc⟩
    rcases ov_one hx with ⟨rfl, rfl⟩ | ⟨hne, hx⟩
    · cases hlx
    · exact hg.2.2 j x cap k hx hlx hF
  refine ⟨⟨fun j x hx => ?_, fun j j' x x' g c k c' k' hx hx' hl1 hl2 hg hg' => ?_, h.sh, h.big, h.laid⟩, ev⟩
  · rcases ov_one hx with ⟨rfl, rfl⟩ | ⟨hne, hx⟩
    · obtain ⟨c, q1, q2⟩ := h.cov j b hT
      refine ⟨c, q1, fun _ => ?_⟩
      have q2 := q2 (by rw [hl]; simp)
      cases c with
      | dead => exact q2.elim
      | nil => exact q2
      | blk g cap k =>
        obtain ⟨k0, cur, b1, b2, b3, b4, b4b, b5, b6, b7, b8⟩ := q2
        refine ⟨k0, cur, b1, b2, b3, b4, b4b, b5, fun i m row c a1 a2 => let ⟨v, q1, q2⟩ := b6 i m row c a1 a2; ⟨v, q1, q2.mono ev⟩, (fun q => by cases q), fun _ => ?_⟩
        refine ⟨h.lt hT (by rw [hl]; simp) q1, fun hlt => ?_, fun j' x cap' k' hx hlx hF => ?_⟩
        · rcases b7 hl with q | q
          · omega
          · exact .inr q
        · rcases ov_one hx with ⟨rfl, rfl⟩ | ⟨hne, hx⟩
          · cases hlx
          · exact hne (h.inj j' j x b g cap' k' cap k hx hT hlx hl hF q1)
    · obtain ⟨c, q1, q2⟩ := h.cov j x hx
      exact ⟨c, q1, fun hd => BlkR.mono ev (fun _ _ _ _ => rfl) (q2 hd)⟩
  · rcases ov_one hx with ⟨rfl, rfl⟩ | ⟨hne, hx⟩
    · cases hl1
    · rcases ov_one hx' with ⟨rfl, rfl⟩ | ⟨hne', hx'⟩
      · cases hl2
      · exact h.inj j j' x x' g c k c' k' hx hx' hl1 hl2 hg hg'
end
end Am
end
section
namespace Am
open Go Go.RowKit
section
variable [Base] {P : Program} {ti : TypeId → Option TI} {B : Nat} {D S0 : Nat → Prop} {T : Nat → Option Blk} {F : Nat → Option Cn} {w : World} {nw : Nat}
theorem ov_append (u v : List (Nat × Blk)) : ov (u ++ v) T = ov u (ov v T) := funext fun id => by
  unfold ov
  rw [look_append]
  cases look u id <;> rfl
theorem frz_ok : ∀ (fz : List Nat) {T : Nat → Option Blk}, TabR B D S0 T F w → frzOk fz T → TabR B D S0 (ov (frzT fz T) T) F w ∧ Ev (stab B D S0 T F w) F w (stab B D S0 (ov (frzT fz T) T) F w) F w
  | [], T, h, _ => ⟨h, .refl⟩
  | id :: r, T, h, hok => by
    unfold frzOk at hok
    unfold frzT
    cases hb : T id with
    | none => rw [hb] at hok; exact hok.elim
    | some b =>
      rw [hb] at hok
      obtain ⟨h1, h2, h3⟩ := hok
      obtain ⟨t1, e1⟩ := h.freeze hb h1
      obtain ⟨t2, e2⟩ := frz_ok r t1 h3
      simp only
      rw [ov_append]
      exact ⟨t2, e1.trans e2⟩
theorem frz_at : ∀ (fz : List Nat) {T : Nat → Option Blk}, frzOk fz T → (∀ id ∈ fz, ∃ b, ov (frzT fz T) T id = some b ∧ b.st = .frozen ∧ ∀ row ∈ b.els, row.all (·.clo) = true) ∧ (∀ id, T id = none → ov (frzT fz T) T id = none) ∧ (∀ id b, T id = some b → b.st = .frozen → ov (frzT fz T) T id = some b)
  | [], T, _ => ⟨(fun _ h => by cases h), (fun _ h => h), fun _ _ h _ => h⟩
  | id :: r, T, hok => by
    unfold frzOk at hok
    unfold frzT
    cases hb : T id with
    | none => rw [hb] at hok; exact hok.elim
    | some b =>
      rw [hb] at hok
      obtain ⟨h1, h2, h3⟩ := hok
      obtain ⟨q1, q2, q3⟩ := frz_at r h3
      simp only
      rw [ov_append]
      have hself : ov [(id, { b with st := .frozen })] T id = some { b with st := .frozen } := by unfold ov look; rw [if_pos rfl]; rfl
      refine ⟨fun j hj => ?_, fun j hj => q2 j ?_, fun j x hj hx => q3 j x ?_ hx⟩
      · rcases List.mem_cons.1 hj with rfl | hj
        · exact ⟨_, q3 j _ hself rfl, rfl, h2⟩
        · exact q1 j hj
      · exact ov_none hj (fun e => by subst e; rw [hb] at hj; cases hj)
      · have hne : j ≠ id := fun e => by subst e; rw [hb] at hj; cases hj; rw [h1] at hx; cases hx
        unfold ov look
        rw [if_neg (fun e => hne e.symm)]
        simpa [look] using hj
theorem frzA_ok {T' : Nat → Option Blk} (hT : TabR B D S0 T' F w) {fz : List Nat} (hf : ∀ id ∈ fz, ∃ b, T' id = some b ∧ b.st = .frozen ∧ ∀ row ∈ b.els, row.all (·.clo) = true) (x : AV) (v : Value) (h : VR (stab B D S0 T' F w) F w x v) : VR (stab B D S0 T' F w) F w (frzA T' fz x) v := by
  unfold frzA
  split
  · rename_i id ix n
    split
    · rename_i hm
      split
      · rename_i b hb
        split
        · rename_i hle
          obtain ⟨b', hb', hst, hclo⟩ := hf id hm
          have hbb := (aliveB_eq hb).1
          rw [hb'] at hbb
          cases hbb
          have hat : ∀ (i : Nat) (row : List AV), ((b.els.drop ix).take n)[i]? = some row → b.els[ix + i]? = some row ∧ i < n := fun i row hi => by
            rw [List.getElem?_take] at hi
            split at hi
            · rw [List.getElem?_drop] at hi; exact ⟨hi, ‹_›⟩
            · cases hi
          rcases hT.own hb h with ⟨g, cap, oo, hF, rfl, hn, hoo, -, cur, b1, b2, b3, b4, b4b, b5, b6, b7, b8⟩ | ⟨hF, rfl, rfl, rfl, hels, -⟩
          · have hS := b8 hst
            refine .sl _ _ _ _ b.k g oo (fun i j => cur.getD ((ix + i) * b.k + j) undef) (by simp; omega) trivial (fun i row hi => b5 _ row (hat i row hi).1) (fun i j row c hi hj => ?_) (fun i j row c hi hj => ?_)
            · obtain ⟨hi1, hi2⟩ := hat i row hi
              obtain ⟨u, u1, -⟩ := b6 _ j row c hi1 hj
              refine ⟨rfl, hS, ?_⟩
              rw [hoo (by omega), cell_of_row w g _ cur b.e (0, 0) b1, show ix * b.k + (i * b.k + j) = (ix + i) * b.k + j by rw [Nat.add_mul]; omega, u1]
              simp [u1]
            · obtain ⟨hi1, hi2⟩ := hat i row hi
              obtain ⟨u, u1, u2⟩ := b6 _ j row c hi1 hj
              have : cur.getD ((ix + i) * b.k + j) undef = u := by simp [u1]
              rw [this]
              exact VR.close (List.all_eq_true.1 (hclo row (List.mem_of_getElem? hi1)) c (List.mem_of_getElem? hj)) u2
          · exact .sl _ _ _ _ 0 0 0 (fun _ _ => undef) (by simp) trivial (fun i row hi => by simp at hi) (fun i j row c hi hj => by simp at hi) (fun i j row c hi hj => by simp at hi)
        · exact .any v
      · exact .any v
    · exact h
  · exact h
theorem frzB_ok {T' : Nat → Option Blk} (hT : TabR B D S0 T' F w) {fz : List Nat} (hf : ∀ id ∈ fz, ∃ b, T' id = some b ∧ b.st = .frozen ∧ ∀ row ∈ b.els, row.all (·.clo) = true) (x : AV) (v : Value) (h : VR (stab B D S0 T' F w) F w x v) : VR (stab B D S0 T' F w) F w (frzB T' fz x) v := by
  unfold frzB
  split
  · obtain ⟨vs, rfl, hl⟩ := VR.agg_eq h
    exact (map_push (frzA_ok hT hf) hl).agg
  · cases h with
    | fn _ _ _ fv cv h1 h2 h3 h4 =>
      have l1 := map_push (frzA_ok hT hf) (⟨h1, h3⟩ : LR _ _ _ _ fv)
      have l2 := map_push (frzA_ok hT hf) (⟨h2, h4⟩ : LR _ _ _ _ cv)
      exact .fn _ _ _ fv cv l1.1 l2.1 l1.2 l2.2
  · exact frzA_ok hT hf x v h
theorem callEff_ok (hT : TabR B D S0 T F w) (hfr : ∀ j, j < 16 → F (nw + j) = none ∧ T (nw + j) = none) {g : FuncId} {xs : List AV} {args : List Value} (hxs : LR (stab B D S0 T F w) F w xs args) {tl : List Nat} {e : Eff} (h : CallEff P T nw g xs tl e) :
    FnOk P g ∧ Calls P g args.toArray w fun en w' => ∃ v F', en = .returned v ∧ Did B D S0 T F w nw e v F' w' := by
  obtain ⟨fz, l, T0, xs0, T1, r0, h1, h2, h3, h4, h5, h6, h7, h8, h9, -, rfl⟩ := h
  obtain ⟨t1, e1⟩ := frz_ok fz hT h1
  obtain ⟨q1, q2, -⟩ := frz_at fz h1
  refine ⟨h2.1, (call_ok (o := True) t1 (fun j hj => ⟨(hfr j hj).1, q2 _ (hfr j hj).2⟩) h2 h3 h4 h5 h6 h7 (by rw [← h8]; exact map_push (frzB_ok t1 q1) (hxs.mono e1)) h9).mono fun en w' hh => ?_⟩
  obtain ⟨v, F', rfl, d⟩ := hh
  refine ⟨v, F', rfl, ?_⟩
  obtain ⟨a, b, c, dd, f⟩ := d
  have a : TabR B D S0 (ov (updC l nw T1) (ov (frzT fz T) T)) F' w' := a
  have b : Ev _ _ _ (stab B D S0 (ov (updC l nw T1) (ov (frzT fz T) T)) F' w') F' w' := b
  have dd : VR (stab B D S0 (ov (updC l nw T1) (ov (frzT fz T) T)) F' w') F' w' (r0.ren (rho l nw)) v := dd
  rw [← ov_append] at a b dd
  exact ⟨a, e1.trans b, c, dd, f⟩
end
structure Rel [Base] (B : Nat) (D S0 Si : Nat → Prop) (Fi : Nat → Option Cn) (wi : World) (m : Nat) (fr : Nat → Prop) (s : AS) (F : Nat → Option Cn) (a : Act) (w : World) : Prop where
  tab : TabR B D S0 (look s.T) F w
  tmp : ∀ t x, look s.t t = some x → VR (stab B D S0 (look s.T) F w) F w x (a.tmps.getD t undef)
  size : a.tmps.size = m
  defers : a.defers = []
  ev : Ev Si Fi wi (stab B D S0 (look s.T) F w) F w
  kept : Kept B D wi w
  dom : ∀ id, fr id → F id = none ∧ look s.T id = none
section
variable [Base] {P : Program} {ti : TypeId → Option TI} {B : Nat} {D S0 Si : Nat → Prop} {Fi : Nat → Option Cn} {wi : World} {m : Nat} {fr : Nat → Prop} {s : AS} {F : Nat → Option Cn} {a : Act} {w : World} {nw : Nat}
theorem Rel.eval (h : Rel B D S0 Si Fi wi m fr s F a w) (x : Operand) : VR (stab B D S0 (look s.T) F w) F w (s.ev x) (a.eval x) := by
  cases x with
  | tmp t =>
    show VR _ _ _ ((look s.t t).getD .any) (a.tmps.getD t undef)
    cases hl : look s.t t with
    | none => exact .any _
    | some x => exact h.tmp t x hl
  | const v => exact .v v
  | global g => exact .v _
  | func f => exact .fn f [] [] [] [] rfl rfl (fun i c v h => by simp at h) (fun i c v h => by simp at h)
theorem put_get {d t : Nat} {v : Value} (hd : d < a.tmps.size) : (a.put (some d) v).tmps.getD t undef = if t = d then v else a.tmps.getD t undef := by
  show (a.tmps.setIfInBounds d v).getD t undef = _
  by_cases e : t = d
  · subst e
    rw [if_pos rfl]
    simp [Array.getD, hd]
  · rw [if_neg e]
    by_cases ht : t < a.tmps.size
    · simp [Array.getD, ht, Array.getElem_setIfInBounds_ne, Ne.symm e]
    · simp [Array.getD, ht]
theorem Rel.app (h : Rel B D S0 Si Fi wi m fr s F a w) {d : Option Tmp} (hd : ∀ t, d = some t → t < m) {e : Eff} {r : Value} {F' : Nat → Option Cn} {w' : World} (hD : Did B D S0 (look s.T) F w nw e r F' w') :
    Rel B D S0 Si Fi wi m (fun id => fr id ∧ ¬ (nw ≤ id ∧ id < nw + 16)) (s.app d e) F' (a.put d r) w' := by
  have hT : look (s.app d e).T = ov e.upd (look s.T) := look_ov e.upd s.T
  refine ⟨by rw [hT]; exact hD.tab, fun t x hx => ?_, ?_, ?_, by rw [hT]; exact h.ev.trans hD.ev, h.kept.trans hD.kept, fun id ⟨h1, h2⟩ => ⟨hD.dom id h2 (h.dom id h1).1, ?_⟩⟩
  · rw [hT]
    cases d with
    | none => exact VR.mono hD.ev (h.tmp t x hx)
    | some d =>
      have hx : look ((d, e.v) :: s.t) t = some x := hx
      rw [put_get (by rw [h.size]; exact hd d rfl)]
      unfold look at hx
      by_cases q : d = t
      · rw [if_pos q] at hx
        cases hx
        rw [if_pos q.symm]
        exact hD.val
      · rw [if_neg q] at hx
        rw [if_neg (fun q2 => q q2.symm)]
        exact VR.mono hD.ev (h.tmp t x hx)
  · cases d with
    | none => exact h.size
    | some d => show (a.tmps.setIfInBounds d r).size = m; rw [Array.size_setIfInBounds]; exact h.size
  · cases d <;> exact h.defers
  · rw [hT]
    cases hq : ov e.upd (look s.T) id with
    | none => rfl
    | some b =>
      obtain ⟨c, hc, -⟩ := hD.tab.cov id b hq
      rw [hD.dom id h2 (h.dom id h1).1] at hc
      cases hc
theorem Rel.skip (h : Rel B D S0 Si Fi wi m fr s F a w) {d : Option Tmp} (hd : ∀ t, d = some t → t < m) (r : Value) : Rel B D S0 Si Fi wi m fr (s.put d .any) F (a.put d r) w := by
  have hT : (s.put d .any).T = s.T := by cases d <;> rfl
  refine ⟨by rw [hT]; exact h.tab, fun t x hx => ?_, ?_, ?_, by rw [hT]; exact h.ev, h.kept, fun id h1 => by rw [hT]; exact h.dom id h1⟩
  · rw [hT]
    cases d with
    | none => exact h.tmp t x hx
    | some d =>
      have hx : look ((d, AV.any) :: s.t) t = some x := hx
      rw [put_get (by rw [h.size]; exact hd d rfl)]
      unfold look at hx
      by_cases q : d = t
      · rw [if_pos q] at hx
        cases hx
        exact .any _
      · rw [if_neg q] at hx
        rw [if_neg (fun q2 => q q2.symm)]
        exact h.tmp t x hx
  · cases d with
    | none => exact h.size
    | some d => show (a.tmps.setIfInBounds d r).size = m; rw [Array.size_setIfInBounds]; exact h.size
  · cases d <;> exact h.defers
end
end Am
end
section
namespace Am
open Go Go.RowKit
 inductive Ex where
  | normal
  | exit (id : Nat)
  | ret
def Ex.then (n : AS → Prop) (Q : Ex → AS → Prop) : Ex → AS → Prop
  | .normal, s => n s
  | e, s => Q e s
def Ex.inB (id : Nat) (Q : Ex → AS → Prop) : Ex → AS → Prop
  | .exit j, s => if j = id then Q .normal s else Q (.exit j) s
  | e, s => Q e s
def alist [Base] (P : Program) (ti : TypeId → Option TI) (ops : Array Oper) (K : AS → Prop) : List Oper → Nat → AS → Prop
  | [], _, s => K { t := s.t, T := s.T, N := s.N + 16 * ops.size, M := s.M }
  | o :: r, i, s => astep P ti ops (s.N + 16 * i) o (fun _ s' => alist P ti ops K r (i + 1) s') s
def direct (ops : Array Oper) (i : Nat) : List Nat := match ops[i]? with
  | some o => o.after.toList.filterMap fun e => if Region.binds .any e then some e.on else none
  | none => []
def pre (ops : Array Oper) : Nat → Nat → List Nat
  | 0, _ => []
  | n + 1, i => direct ops i ++ (direct ops i).flatMap (pre ops n)
def indep (a b : List Nat × List Nat) : Bool := a.2.all (fun x => !b.1.contains x && !b.2.contains x) && b.2.all (fun x => !a.1.contains x && !a.2.contains x)
def logOk (ops : Array Oper) (log : List (List Nat × List Nat)) : Bool :=
  (List.range ops.size).all fun i => (List.range i).all fun j => (pre ops ops.size i).contains j || match ops[j]?, ops[i]?, log[j]?, log[i]? with
    | some x, some y, some a, some b => x.apart ops y && indep a b
    | _, _, _, _ => false
def adraw [Base] (P : Program) (ti : TypeId → Option TI) (ops : Array Oper) (K : AS → Prop) : List Oper → Nat → List (List Nat × List Nat) → AS → Prop
  | [], _, log, s => logOk ops log = true ∧ K { t := s.t, T := s.T, N := s.N + 16 * ops.size, M := s.M }
  | o :: r, i, log, s => astep P ti ops (s.N + 16 * i) o (fun x s' => adraw P ti ops K r (i + 1) (log ++ [x]) s') s
def Weak [Base] (s s' : AS) : Prop := s'.M = s.M ∧ ∀ (B : Nat) (D S0 Si : Nat → Prop) (Fi : Nat → Option Cn) (wi : World) (m : Nat) (F : Nat → Option Cn) (a : Act) (w : World), (∀ id, s.M ≤ id → Fi id = none) →
  Rel B D S0 Si Fi wi m (fun id => s.N ≤ id) s F a w → ∃ F', Rel B D S0 Si Fi wi m (fun id => s'.N ≤ id) s' F' a w
def awp [Base] (P : Program) (ti : TypeId → Option TI) : Code → (Ex → AS → Prop) → AS → Prop
  | .skip, Q, s => Q .normal s
  | .region _ ops false, Q, s => alist P ti ops (Q .normal) ops.toList 0 s
  | .region _ ops true, Q, s => adraw P ti ops (Q .normal) ops.toList 0 [] s
  | .seq a b, Q, s => awp P ti a (Ex.then (awp P ti b Q) Q) s
  | .cond c x y, Q, s => match s.ev c with
    | .v (.bool b) => (b = true → awp P ti x Q s) ∧ (b = false → awp P ti y Q s)
    | _ => False
  | .block id c, Q, s => awp P ti c (Ex.inB id Q) s
  | .loop c, Q, s => ∃ (ι : Type) (I : ι → AS) (μ : ι → Nat) (i : ι), Weak s (I i) ∧ ∀ i, awp P ti c (Ex.then (fun s' => ∃ j, μ j < μ i ∧ Weak s' (I j)) Q) (I i)
  | .exit id, Q, s => Q (.exit id) s
  | .ret, Q, s => Q .ret s
  | .label _, Q, s => Q .normal s
  | _, _, _ => False
def okOps (m : Nat) (ops : Array Oper) : Bool := ops.all fun o => match o.dst with
  | some d => decide (d < m)
  | none => true
def okC (m : Nat) : Code → Bool
  | .region _ ops d => okOps m ops && (!d || Region.noSelect ops)
  | .seq a b => okC m a && okC m b
  | .cond _ x y => okC m x && okC m y
  | .block _ c => okC m c
  | .loop c => okC m c
  | _ => true
section
variable [Base] {P : Program} {ti : TypeId → Option TI} {B : Nat} {D S0 Si : Nat → Prop} {Fi : Nat → Option Cn} {wi : World} {m : Nat} {fr : Nat → Prop} {s : AS} {F : Nat → Option Cn} {a : Act} {w : World} {nw : Nat}
theorem Rel.fewer {fr' : Nat → Prop} (h : Rel B D S0 Si Fi wi m fr s F a w) (hf : ∀ id, fr' id → fr id) : Rel B D S0 Si Fi wi m fr' s F a w := ⟨h.tab, h.tmp, h.size, h.defers, h.ev, h.kept, fun id hid => h.dom id (hf id hid)⟩
theorem run_call {o : Oper} {f : Operand} {args : Array Operand} {ats : Array TypeId} {g : FuncId} {fv cv : List Value} (hop : o.op = .call ⟨.value f, args, ats⟩) (hf : a.eval f = .func (.func g) fv.toArray cv.toArray) (hg : FnOk P g) :
    (execOp a.eval o).run P w = .ok (.enter g (fv ++ args.toList.map a.eval ++ cv).toArray) w := by
  obtain ⟨fn, c, h1, h2, h3⟩ := hg
  have he : execOp a.eval o = callFunc g (fv.toArray ++ args.map a.eval ++ cv.toArray) := by
    unfold execOp
    simp only [hop, resolve, hf, Deferred.ofValue]
    rfl
  have ha : (fv.toArray ++ args.map a.eval ++ cv.toArray) = (fv ++ args.toList.map a.eval ++ cv).toArray := by apply Array.ext'; simp
  rw [he, ha]
  have h4 : fn.name ≠ "runtime.NumGoroutine" := by simpa using h2
  simp [callFunc, h1, h4, h3]
theorem aexe_ok (hti : TOk P ti) (h : Rel B D S0 Si Fi wi m fr s F a w) (hnw : ∀ j, j < 16 → fr (nw + j)) {o : Oper} (hd : ∀ t, o.dst = some t → t < m) {K : List Nat × List Nat → AS → Prop} (hx : aexe P ti nw o K s) {next : Act → World → Prop} {Q : Exit → Act → World → Prop}
    (hK : ∀ x s' F' a' w', Rel B D S0 Si Fi wi m (fun id => fr id ∧ ¬ (nw ≤ id ∧ id < nw + 16)) s' F' a' w' → s'.N = s.N → s'.M = s.M → K x s' → next a' w') : o.wp P a w next Q := by
  have hfr : ∀ j, j < 16 → F (nw + j) = none ∧ look s.T (nw + j) = none := fun j hj => h.dom _ (hnw j hj)
  have h0 := hfr 0 (by omega)
  have hN : ∀ (e : Eff), (s.app o.dst e).N = s.N ∧ (s.app o.dst e).M = s.M := fun e => ⟨rfl, rfl⟩
  unfold aexe at hx
  split at hx
  · rename_i e he
    obtain ⟨ho, hk⟩ := hx
    obtain ⟨r, F', w', hg, hD⟩ := asem_ok hti h.tab h0.2 h0.1 h.eval he ho
    have := hK _ _ F' (a.put o.dst r) w' (h.app hd hD) (hN e).1 (hN e).2 hk
    unfold Oper.wp
    rcases hg with hg | ⟨hg, rfl⟩
    · rw [hg]; exact this
    · rw [hg]; exact this
  · split at hx
    · rename_i f args ats hop
      split at hx
      · rename_i g first caps hev
        obtain ⟨tl, e, hc, hk⟩ := hx
        have hv := h.eval f
        rw [hev] at hv
        cases hq : a.eval f with
        | func fn fv0 cv0 =>
          rw [hq] at hv
          cases hv with
          | fn _ _ _ fv cv h1 h2 h3 h4 =>
            have hl : LR (stab B D S0 (look s.T) F w) F w (first ++ args.toList.map s.ev ++ caps) (fv ++ args.toList.map a.eval ++ cv) := LR.append (LR.append ⟨h1, h3⟩ (map_lr h.eval args.toList)) ⟨h2, h4⟩
            obtain ⟨q1, q2⟩ := callEff_ok h.tab hfr hl hc
            unfold Oper.wp
            rw [run_call hop hq q1]
            refine q2.mono fun en w' ⟨v, F', he, hD⟩ => ?_
            subst he
            exact hK _ _ F' (a.put o.dst v) w' (h.app hd hD) (hN e).1 (hN e).2 hk
        | _ => rw [hq] at hv; cases hv
      · exact hx.elim
    · exact hx.elim
theorem guardV_ok (h : Rel B D S0 Si Fi wi m fr s F a w) {ops : Array Oper} {j : Nat} {b : Bool} (hg : guardV ops s j = .v (.bool b)) : yielded ops a.tmps j = some b := by
  unfold guardV at hg
  unfold yielded
  split at hg
  · rename_i d hd
    rw [hd]
    cases hl : look s.t d with
    | none => rw [hl] at hg; cases hg
    | some x =>
      rw [hl] at hg
      have hg : x = .v (.bool b) := hg
      subst hg
      have := (h.tmp d _ hl).v_eq
      by_cases hlt : d < a.tmps.size
      · simp only [Option.bind_some]
        have e : a.tmps[d]? = some (.bool b) := by
          rw [Array.getElem?_eq_getElem hlt]
          simpa [Array.getD, hlt] using this
        rw [e]
      · simp [Array.getD, hlt, undef] at this
  · cases hg
theorem astep_ok (hti : TOk P ti) (h : Rel B D S0 Si Fi wi m fr s F a w) (hnw : ∀ j, j < 16 → fr (nw + j)) {ops : Array Oper} {o : Oper} (hd : ∀ t, o.dst = some t → t < m) {K : List Nat × List Nat → AS → Prop} (hx : astep P ti ops nw o K s) {next : Act → World → Prop} {Q : Exit → Act → World → Prop}
    (hK : ∀ x s' F' a' w', Rel B D S0 Si Fi wi m (fun id => fr id ∧ ¬ (nw ≤ id ∧ id < nw + 16)) s' F' a' w' → s'.N = s.N → s'.M = s.M → K x s' → next a' w') :
    if Region.wanted o (yielded ops a.tmps) then o.wp P a w next Q else next (a.put o.dst undef) w := by
  unfold astep at hx
  cases hg : o.guard with
  | none =>
    rw [hg] at hx
    rw [if_pos (by simp [Region.wanted, hg])]
    exact aexe_ok hti h hnw hd hx hK
  | some jw =>
    obtain ⟨j, want⟩ := jw
    rw [hg] at hx
    simp only at hx
    split at hx
    · rename_i b hb
      have hy := guardV_ok h hb
      by_cases e : b = want
      · rw [if_pos (by simp [Region.wanted, hg, hy, e])]
        exact aexe_ok hti h hnw hd (hx.1 e) hK
      · rw [if_neg (by simp [Region.wanted, hg, hy, e])]
        have e2 : b = !want := by cases b <;> cases want <;> simp_all
        exact hK _ _ F _ w ((h.skip hd undef).fewer fun id hid => hid.1) (by cases o.dst <;> rfl) (by cases o.dst <;> rfl) (hx.2 e2)
    · exact hx.elim
theorem okOps_at {ops : Array Oper} (h : okOps m ops = true) : ∀ o ∈ ops.toList, ∀ t, o.dst = some t → t < m := fun o ho t ht => by
  unfold okOps at h
  have := Array.all_eq_true_iff_forall_mem.1 h o (by simpa using ho)
  rw [ht] at this
  simpa using this
theorem alist_ok (hti : TOk P ti) {ops : Array Oper} {K : AS → Prop} {Q : Exit → Act → World → Prop} {M : Nat} (hQ : ∀ s F a w, Rel B D S0 Si Fi wi m (fun id => s.N ≤ id) s F a w → s.M = M → K s → Q .normal a w) :
    ∀ (l : List Oper) (i : Nat) (s : AS) (F : Nat → Option Cn) (a : Act) (w : World), (∀ o ∈ l, ∀ t, o.dst = some t → t < m) → i + l.length = ops.size → s.M = M → Rel B D S0 Si Fi wi m (fun id => s.N + 16 * i ≤ id) s F a w → alist P ti ops K l i s → wpList P ops Q l a w
  | [], i, s, F, a, w, _, hi, hM, h, hx => by
    have : i = ops.size := by simpa using hi
    subst this
    exact wpList_nil (hQ { t := s.t, T := s.T, N := s.N + 16 * ops.size, M := s.M } F a w ⟨h.tab, h.tmp, h.size, h.defers, h.ev, h.kept, h.dom⟩ hM hx)
  | o :: r, i, s, F, a, w, hd, hi, hM, h, hx => by
    refine wpList_step fun K' hK' => astep_ok hti h (nw := s.N + 16 * i) (fun j _ => by show s.N + 16 * i ≤ _; omega) (hd o (by simp)) hx (fun x s' F' a' w' h' hN' hM' hk => hK' a' w' ?_)
    refine alist_ok hti hQ r (i + 1) s' F' a' w' (fun o ho => hd o (by simp [ho])) (by simp at hi; omega) (hM'.trans hM) (h'.fewer fun id hid => ?_) hk
    have hid : s'.N + 16 * (i + 1) ≤ id := hid
    rw [hN'] at hid
    exact ⟨by show s.N + 16 * i ≤ id; omega, by omega⟩
end
end Am
end
end Go.Proofs.Ytcgdhankllphgaa
