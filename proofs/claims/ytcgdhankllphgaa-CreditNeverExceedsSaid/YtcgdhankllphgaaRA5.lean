import Derived.Test.YtcgdhankllphgaaRA4
import Derived.Deep.RegionHeld
namespace Go.Proofs.Ytcgdhankllphgaa
set_option linter.unusedVariables false
set_option linter.unusedSimpArgs false
set_option linter.unusedSectionVars false
section
namespace Am
open Go Go.RowKit
section
variable [Base] {ti : TypeId → Option TI} {T T' : Nat → Option Blk} {nw : Nat}
theorem aliveB_congr {id : Nat} (h : T id = T' id) : aliveB T id = aliveB T' id := by unfold aliveB; rw [h]
theorem loadE_congr {t : TypeId} {x : AV} (h : ∀ id ∈ idA x, T id = T' id) : loadE ti T t x = loadE ti T' t x := by
  cases x with
  | ptr id ix off =>
    have e := aliveB_congr (h id (by simp [idA]))
    unfold loadE
    repeat' (first | rfl | (simp only [e]; done) | (simp_all; done) | split)
  | own id ix n =>
    have e := aliveB_congr (h id (by simp [idA]))
    unfold loadE
    repeat' (first | rfl | (simp only [e]; done) | (simp_all; done) | split)
  | _ => unfold loadE; repeat' (first | rfl | (simp_all; done) | split)
theorem storeE_congr {t : TypeId} {x p : AV} (h : ∀ id ∈ idA p, T id = T' id) : storeE ti T t x p = storeE ti T' t x p := by
  cases p with
  | ptr id ix off =>
    have e := h id (by simp [idA])
    unfold storeE
    repeat' (first | rfl | (simp only [e]; done) | (simp_all; done) | split)
  | own id ix n =>
    have e := h id (by simp [idA])
    unfold storeE
    repeat' (first | rfl | (simp only [e]; done) | (simp_all; done) | split)
  | _ => unfold storeE; repeat' (first | rfl | (simp_all; done) | split)
theorem fieldAddrE_congr {s : TypeId} {f : Nat} {x : AV} (h : ∀ id ∈ idA x, T id = T' id) : fieldAddrE ti T s f x = fieldAddrE ti T' s f x := by
  cases x with
  | ptr id ix off =>
    have e := aliveB_congr (h id (by simp [idA]))
    unfold fieldAddrE
    repeat' (first | rfl | (simp only [e]; done) | (simp_all; done) | split)
  | own id ix n =>
    have e := aliveB_congr (h id (by simp [idA]))
    unfold fieldAddrE
    repeat' (first | rfl | (simp only [e]; done) | (simp_all; done) | split)
  | _ => unfold fieldAddrE; repeat' (first | rfl | (simp_all; done) | split)
theorem indexAddrE_congr {t : TypeId} {x ix : AV} (h : ∀ id ∈ idA x, T id = T' id) : indexAddrE ti T t x ix = indexAddrE ti T' t x ix := by
  cases x with
  | ptr id ix off =>
    have e := aliveB_congr (h id (by simp [idA]))
    unfold indexAddrE
    repeat' (first | rfl | (simp only [e]; done) | (simp_all; done) | split)
  | own id ix n =>
    have e := aliveB_congr (h id (by simp [idA]))
    unfold indexAddrE
    repeat' (first | rfl | (simp only [e]; done) | (simp_all; done) | split)
  | _ => unfold indexAddrE; repeat' (first | rfl | (simp_all; done) | split)
theorem sliceE_congr {t : TypeId} {lo hi : Option AV} {x : AV} (h : ∀ id ∈ idA x, T id = T' id) : sliceE ti T t lo hi x = sliceE ti T' t lo hi x := by
  cases x with
  | ptr id ix off =>
    have e := aliveB_congr (h id (by simp [idA]))
    unfold sliceE
    repeat' (first | rfl | (simp only [e]; done) | (simp_all; done) | split)
  | own id ix n =>
    have e := aliveB_congr (h id (by simp [idA]))
    unfold sliceE
    repeat' (first | rfl | (simp only [e]; done) | (simp_all; done) | split)
  | _ => unfold sliceE; repeat' (first | rfl | (simp_all; done) | split)
theorem elsOf_congr {x : AV} (h : ∀ id ∈ idA x, T id = T' id) : elsOf T x = elsOf T' x := by
  cases x with
  | ptr id ix off =>
    have e := aliveB_congr (h id (by simp [idA]))
    unfold elsOf
    repeat' (first | rfl | (simp only [e]; done) | (simp_all; done) | split)
  | own id ix n =>
    have e := aliveB_congr (h id (by simp [idA]))
    unfold elsOf
    repeat' (first | rfl | (simp only [e]; done) | (simp_all; done) | split)
  | _ => unfold elsOf; repeat' (first | rfl | (simp_all; done) | split)
theorem appendE_congr {t : TypeId} {x s : AV} (h : ∀ id ∈ idA x, T id = T' id) (h2 : ∀ id ∈ idA s, T id = T' id) : appendE ti T nw t x s = appendE ti T' nw t x s := by
  unfold appendE
  rw [elsOf_congr h]
  split
  · rfl
  · rename_i id n
    rw [h2 id (by simp [idA])]
  · rfl
theorem asem_congr {P : Program} {ρ ρ' : Operand → AV} {o : Op} (hρ : ∀ x ∈ o.operands, ρ x = ρ' x) (hT : ∀ id ∈ (o.operands.toList.map ρ).flatMap idA, T id = T' id) : asem P ti nw T ρ o = asem P ti nw T' ρ' o := by
  have hx : ∀ x ∈ o.operands, ∀ id ∈ idA (ρ' x), T id = T' id := fun x hm id hid => hT id (List.mem_flatMap.2 ⟨ρ x, List.mem_map.2 ⟨x, by simpa using hm, rfl⟩, by rw [hρ x hm]; exact hid⟩)
  have ps : ∀ l : List (Nat × Operand), (∀ p ∈ l, ρ p.2 = ρ' p.2) → pairs ρ l = pairs ρ' l := fun l h => by
    unfold pairs
    exact List.map_congr_left fun p hp => by rw [h p hp]
  cases o with
  | move x => simp only [asem, hρ x (by simp [Op.operands])]
  | assign x => simp only [asem, hρ x (by simp [Op.operands])]
  | pick c a b => simp only [asem, hρ c (by simp [Op.operands]), hρ a (by simp [Op.operands]), hρ b (by simp [Op.operands])]
  | alloc t => rfl
  | box t x => simp only [asem, hρ x (by simp [Op.operands])]
  | build t l => simp only [asem, ps l.toList (fun p hp => hρ p.2 (by simp only [Op.operands, List.mem_toArray]; exact List.mem_map.2 ⟨p, hp, rfl⟩))]
  | buildSlice t n l => simp only [asem, ps l.toList (fun p hp => hρ p.2 (by simp only [Op.operands, List.mem_toArray]; exact List.mem_map.2 ⟨p, hp, rfl⟩))]
  | load t x => simp only [asem, hρ x (by simp [Op.operands])]; exact loadE_congr (hx x (by simp [Op.operands]))
  | store t p x => simp only [asem, hρ x (by simp [Op.operands]), hρ p (by simp [Op.operands])]; exact storeE_congr (hx p (by simp [Op.operands]))
  | fieldAddr s x f => simp only [asem, hρ x (by simp [Op.operands])]; exact fieldAddrE_congr (hx x (by simp [Op.operands]))
  | field s x f => simp only [asem, hρ x (by simp [Op.operands])]
  | indexAddr t x ix => simp only [asem, hρ x (by simp [Op.operands]), hρ ix (by simp [Op.operands])]; exact indexAddrE_congr (hx x (by simp [Op.operands]))
  | index t x ix => simp only [asem, hρ x (by simp [Op.operands]), hρ ix (by simp [Op.operands])]
  | binOp op t x y t2 => simp only [asem, hρ x (by simp [Op.operands]), hρ y (by simp [Op.operands])]
  | unOp op t x => simp only [asem, hρ x (by simp [Op.operands])]
  | convert s d x => simp only [asem, hρ x (by simp [Op.operands])]
  | extract x i => simp only [asem, hρ x (by simp [Op.operands])]
  | makeFunc f first caps =>
    have e1 : first.toList.map ρ = first.toList.map ρ' := List.map_congr_left fun x hm => hρ x (by simp [Op.operands]; exact .inl (by simpa using hm))
    have e2 : caps.toList.map ρ = caps.toList.map ρ' := List.map_congr_left fun x hm => hρ x (by simp [Op.operands]; exact .inr (by simpa using hm))
    cases f <;> simp only [asem, e1, e2]
  | makeSlice t l c => simp only [asem, hρ l (by simp [Op.operands]), hρ c (by simp [Op.operands])]
  | slice t x lo hi mx =>
    cases mx with
    | some m => rfl
    | none =>
      have e1 : lo.map ρ = lo.map ρ' := by cases lo with | none => rfl | some y => simp only [Option.map_some, hρ y (by simp [Op.operands])]
      have e2 : hi.map ρ = hi.map ρ' := by cases hi with | none => rfl | some y => simp only [Option.map_some, hρ y (by simp [Op.operands])]
      simp only [asem, hρ x (by simp [Op.operands]), e1, e2]
      exact sliceE_congr (hx x (by simp [Op.operands]))
  | call c =>
    obtain ⟨callee, args, ats⟩ := c
    have ha : ∀ x ∈ args.toList, x ∈ (Op.call ⟨callee, args, ats⟩).operands := fun x hm => by simp [Op.operands, Call.operands]; exact .inr (by simpa using hm)
    have e1 : args.toList.map ρ = args.toList.map ρ' := List.map_congr_left fun x hm => hρ x (ha x hm)
    simp only [asem, e1]
    split
    · rfl
    · rename_i s x t t2 h1 h2
      have hin : ∀ y ∈ [s, x], ∀ id ∈ idA y, T id = T' id := fun y hy => by
        rw [← h1] at hy
        obtain ⟨z, hz, rfl⟩ := List.mem_map.1 hy
        exact hx z (ha z hz)
      rw [appendE_congr (hin x (by simp)) (hin s (by simp))]
    · rfl
    · rfl
    · rfl
  | _ => rfl
theorem frz_congr : ∀ (fz : List Nat) {T T' : Nat → Option Blk}, (∀ id ∈ fz, T id = T' id) → frzT fz T = frzT fz T' ∧ (frzOk fz T → frzOk fz T')
  | [], _, _, _ => ⟨rfl, fun h => h⟩
  | id :: r, T, T', h => by
    have h0 := h id (by simp)
    unfold frzT frzOk
    rw [← h0]
    cases hb : T id with
    | none => exact ⟨rfl, fun h => h⟩
    | some b =>
      have ih := frz_congr r (T := ov [(id, { b with st := .frozen })] T) (T' := ov [(id, { b with st := .frozen })] T') (fun j hj => by
        unfold ov look
        split
        · rfl
        · simpa [look] using h j (by simp [hj]))
      simp only
      exact ⟨by rw [ih.1], fun ⟨a, b, c⟩ => ⟨a, b, ih.2 c⟩⟩
theorem CallEff.congr {P : Program} {g : FuncId} {xs : List AV} {tl : List Nat} {e : Eff} (h : CallEff P T nw g xs tl e) (hT : ∀ id ∈ tl, T id = T' id) : CallEff P T' nw g xs tl e := by
  obtain ⟨fz, l, T0, xs0, T1, r0, h1, h2, h3, h4, h5, h6, h7, h8, h9, rfl, rfl⟩ := h
  obtain ⟨q1, q2⟩ := frz_congr fz (T := T) (T' := T') (fun id hid => hT id (by simp [hid]))
  have hov : ∀ id, T id = T' id → ov (frzT fz T) T id = ov (frzT fz T') T' id := fun id h => by rw [q1]; unfold ov; rw [h]
  refine ⟨fz, l, T0, xs0, T1, r0, q2 h1, h2, h3, h4, h5, h6, fun j b hj => ?_, ?_, h9, rfl, by rw [q1]⟩
  · obtain ⟨a, b⟩ := h7 j b hj
    refine ⟨?_, b⟩
    have hjl : j < l.length := by rw [h3]; exact (List.getElem?_eq_some_iff.1 hj).1
    rw [← hov]
    · exact a
    · refine hT _ ?_
      unfold rho
      rw [List.getElem?_eq_getElem hjl]
      simp [List.getElem_mem]
  · rw [← h8]
    have hA : ∀ x, frzA (ov (frzT fz T') T') fz x = frzA (ov (frzT fz T) T) fz x := fun x => by
      unfold frzA
      cases x with
      | own id ix n =>
        simp only
        split
        · rename_i hm
          rw [aliveB_congr (hov id (hT id (by simp [hm])))]
        · rfl
      | _ => rfl
    have hA2 : frzA (ov (frzT fz T') T') fz = frzA (ov (frzT fz T) T) fz := funext hA
    apply List.map_congr_left
    intro x _
    unfold frzB
    rw [hA2]
end
end Am
end
section
namespace Am
open Go Go.RowKit
def OpE [Base] (P : Program) (ti : TypeId → Option TI) (nw : Nat) (T : Nat → Option Blk) (ρ : Operand → AV) (o : Op) (tl : List Nat) (e : Eff) : Prop :=
  (asem P ti nw T ρ o = some e ∧ e.obl ∧ tl = (o.operands.toList.map ρ).flatMap idA) ∨
  (asem P ti nw T ρ o = none ∧ ∃ f args ats g first caps, o = .call ⟨.value f, args, ats⟩ ∧ ρ f = .fn g first caps ∧ CallEff P T nw g (first ++ args.toList.map ρ ++ caps) tl e)
def wantA (ops : Array Oper) (o : Oper) (s : AS) : Option Bool := match o.guard with
  | none => some true
  | some (j, want) => match guardV ops s j with
    | .v (.bool b) => some (b == want)
    | _ => none
def StepR [Base] (P : Program) (ti : TypeId → Option TI) (ops : Array Oper) (nw : Nat) (o : Oper) (s : AS) (x : List Nat × List Nat) (s' : AS) : Prop :=
  (wantA ops o s = some true ∧ ∃ e, OpE P ti nw (look s.T) s.ev o.op x.1 e ∧ x.2 = e.upd.map (·.1) ∧ s' = s.app o.dst e) ∨ (wantA ops o s = some false ∧ x = ([], []) ∧ s' = s.put o.dst .any)
structure Eqv (s t : AS) : Prop where
  tt : look s.t = look t.t
  TT : look s.T = look t.T
  N : s.N = t.N
  M : s.M = t.M
theorem Eqv.rfl' {s : AS} : Eqv s s := ⟨rfl, rfl, rfl, rfl⟩
theorem Eqv.trans {a b c : AS} (h : Eqv a b) (k : Eqv b c) : Eqv a c := ⟨h.tt.trans k.tt, h.TT.trans k.TT, h.N.trans k.N, h.M.trans k.M⟩
theorem Eqv.symm {a b : AS} (h : Eqv a b) : Eqv b a := ⟨h.tt.symm, h.TT.symm, h.N.symm, h.M.symm⟩
section
variable [Base] {P : Program} {ti : TypeId → Option TI} {ops : Array Oper} {nw nw' : Nat} {o o' : Oper} {s s1 s2 : AS} {x y : List Nat × List Nat}
theorem aexe_step {K : List Nat × List Nat → AS → Prop} (h : aexe P ti nw o K s) : ∃ x s', (∃ e, OpE P ti nw (look s.T) s.ev o.op x.1 e ∧ x.2 = e.upd.map (·.1) ∧ s' = s.app o.dst e) ∧ K x s' := by
  unfold aexe at h
  split at h
  · rename_i e he
    exact ⟨_, _, ⟨e, .inl ⟨he, h.1, rfl⟩, rfl, rfl⟩, h.2⟩
  · rename_i he
    split at h
    · rename_i f args ats hop
      split at h
      · rename_i g first caps hev
        obtain ⟨tl, e, h1, h2⟩ := h
        exact ⟨_, _, ⟨e, .inr ⟨he, f, args, ats, g, first, caps, hop, hev, h1⟩, rfl, rfl⟩, h2⟩
      · exact h.elim
    · exact h.elim
theorem astep_step {K : List Nat × List Nat → AS → Prop} (h : astep P ti ops nw o K s) : ∃ x s', StepR P ti ops nw o s x s' ∧ K x s' := by
  unfold astep at h
  unfold StepR wantA
  cases hg : o.guard with
  | none =>
    rw [hg] at h
    obtain ⟨x, s', h1, h2⟩ := aexe_step h
    exact ⟨x, s', .inl ⟨rfl, h1⟩, h2⟩
  | some jw =>
    obtain ⟨j, want⟩ := jw
    rw [hg] at h
    simp only at h ⊢
    split at h
    · rename_i b hb
      by_cases e : b = want
      · obtain ⟨x, s', h1, h2⟩ := aexe_step (h.1 e)
        exact ⟨x, s', .inl ⟨by rw [hb]; simp [e], h1⟩, h2⟩
      · have e2 : b = !want := by cases b <;> cases want <;> simp_all
        exact ⟨_, _, .inr ⟨by rw [hb]; simp [e], rfl, rfl⟩, h.2 e2⟩
    · exact h.elim
theorem OpE.aexe {K : List Nat × List Nat → AS → Prop} {tl : List Nat} {e : Eff} (h : OpE P ti nw (look s.T) s.ev o.op tl e) (hk : K (tl, e.upd.map (·.1)) (s.app o.dst e)) : aexe P ti nw o K s := by
  unfold Am.aexe
  rcases h with ⟨h1, h2, rfl⟩ | ⟨h1, f, args, ats, g, first, caps, h2, h3, h4⟩
  · rw [h1]; exact ⟨h2, hk⟩
  · rw [h1]
    simp only [h2, h3]
    exact ⟨tl, e, h4, hk⟩
theorem StepR.astep {K : List Nat × List Nat → AS → Prop} (h : StepR P ti ops nw o s x s1) (hk : K x s1) : astep P ti ops nw o K s := by
  unfold StepR wantA at h
  unfold Am.astep
  cases hg : o.guard with
  | none =>
    rw [hg] at h
    rcases h with ⟨-, e, h1, h2, rfl⟩ | ⟨h1, -⟩
    · exact h1.aexe (by rw [← h2]; exact hk)
    · simp at h1
  | some jw =>
    obtain ⟨j, want⟩ := jw
    rw [hg] at h
    simp only at h ⊢
    split
    · rename_i b hb
      rw [hb] at h
      simp only [Option.some.injEq] at h
      rcases h with ⟨h0, e, h1, h2, rfl⟩ | ⟨h0, rfl, rfl⟩
      · refine ⟨fun _ => h1.aexe (by rw [← h2]; exact hk), fun q => ?_⟩
        subst q; cases want <;> simp at h0
      · exact ⟨fun q => (by subst q; simp at h0), fun _ => hk⟩
    · rename_i hb
      split at h
      · rename_i b hb2; exact absurd hb2 (hb b)
      · rcases h with ⟨h0, -⟩ | ⟨h0, -⟩ <;> cases h0
theorem OpE.congr {T T' : Nat → Option Blk} {ρ ρ' : Operand → AV} {op : Op} {tl : List Nat} {e : Eff} (h : OpE P ti nw T ρ op tl e) (hρ : ∀ x ∈ op.operands, ρ x = ρ' x) (hT : ∀ id ∈ tl, T id = T' id) : OpE P ti nw T' ρ' op tl e := by
  have hl : op.operands.toList.map ρ = op.operands.toList.map ρ' := List.map_congr_left fun x hx => hρ x (by simpa using hx)
  rcases h with ⟨h1, h2, rfl⟩ | ⟨h1, f, args, ats, g, first, caps, h2, h3, h4⟩
  · exact .inl ⟨by rw [← asem_congr hρ hT]; exact h1, h2, by rw [hl]⟩
  · subst h2
    have ha : args.toList.map ρ = args.toList.map ρ' := List.map_congr_left fun x hm => hρ x (by simp [Op.operands, Call.operands]; exact .inr (by simpa using hm))
    refine .inr ⟨?_, f, args, ats, g, first, caps, rfl, by rw [← hρ f (by simp [Op.operands, Call.operands])]; exact h3, by rw [← ha]; exact h4.congr hT⟩
    rw [← h1]
    unfold asem
    rfl
theorem look_put {d : Option Tmp} {v : AV} {t : Nat} (h : d ≠ some t) : look (s.put d v).t t = look s.t t := by
  cases d with
  | none => rfl
  | some d =>
    show look ((d, v) :: s.t) t = _
    unfold look
    rw [if_neg (fun e => h (by rw [e]))]
    cases s.t <;> rfl
theorem wantA_put {d : Option Tmp} {v : AV} (h : ∀ t, d = some t → t ∉ o.looksAt ops) {s' : AS} (hs : s'.t = (s.put d v).t) : wantA ops o s' = wantA ops o s := by
  unfold wantA
  cases hg : o.guard with
  | none => rfl
  | some jw =>
    obtain ⟨j, want⟩ := jw
    have : guardV ops s' j = guardV ops s j := by
      unfold guardV
      cases hd : (ops[j]?).bind (·.dst) with
      | none => rfl
      | some t =>
        simp only
        rw [hs, look_put (fun e => h t e (by simp [Oper.looksAt, hg, hd]))]
    simp only [this]
theorem operand_looks {t : Tmp} (h : .tmp t ∈ o.op.operands) : t ∈ o.looksAt ops := List.mem_append_left _ (List.mem_filterMap.2 ⟨.tmp t, by simpa using h, rfl⟩)
theorem look_upd_none {u : List (Nat × Blk)} {id : Nat} (h : id ∉ u.map (·.1)) : look u id = none := by
  induction u with
  | nil => rfl
  | cons p r ih =>
    obtain ⟨j, b⟩ := p
    simp only [List.map_cons, List.mem_cons, not_or] at h
    unfold look
    rw [if_neg (fun e => h.1 e.symm)]
    exact ih h.2
theorem StepR.out (h : StepR P ti ops nw o s x s1) : ∃ (v : AV) (u : List (Nat × Blk)), s1.t = (s.put o.dst v).t ∧ s1.T = u ++ s.T ∧ s1.N = s.N ∧ s1.M = s.M ∧ x.2 = u.map (·.1) := by
  rcases h with ⟨-, e, -, h2, rfl⟩ | ⟨-, rfl, rfl⟩
  · exact ⟨e.v, e.upd, rfl, rfl, rfl, rfl, h2⟩
  · refine ⟨.any, [], rfl, ?_, ?_, ?_, rfl⟩ <;> cases o.dst <;> rfl
theorem StepR.move (h : StepR P ti ops nw o s x s1) {s' : AS} (hw : wantA ops o s' = wantA ops o s) (hρ : ∀ u ∈ o.op.operands, s.ev u = s'.ev u) (hT : ∀ id ∈ x.1, look s.T id = look s'.T id) :
    ∃ s1', StepR P ti ops nw o s' x s1' ∧ ∃ (v : AV) (u : List (Nat × Blk)), (s1.t = (s.put o.dst v).t ∧ s1.T = u ++ s.T ∧ s1.N = s.N ∧ s1.M = s.M) ∧ (s1'.t = (s'.put o.dst v).t ∧ s1'.T = u ++ s'.T ∧ s1'.N = s'.N ∧ s1'.M = s'.M) ∧ x.2 = u.map (·.1) := by
  rcases h with ⟨h0, e, h1, h2, rfl⟩ | ⟨h0, rfl, rfl⟩
  · exact ⟨_, .inl ⟨hw.trans h0, e, h1.congr hρ hT, h2, rfl⟩, e.v, e.upd, ⟨rfl, rfl, rfl, rfl⟩, ⟨rfl, rfl, rfl, rfl⟩, h2⟩
  · refine ⟨_, .inr ⟨hw.trans h0, rfl, rfl⟩, .any, [], ?_, ?_, rfl⟩ <;> cases o.dst <;> exact ⟨rfl, rfl, rfl, rfl⟩
theorem look_put_eq {d : Option Tmp} {v : AV} {s s' : AS} (h : look s.t = look s'.t) : look (s.put d v).t = look (s'.put d v).t := by
  cases d with
  | none => exact h
  | some d =>
    funext t
    show look ((d, v) :: s.t) t = look ((d, v) :: s'.t) t
    unfold look
    by_cases e : d = t
    · rw [if_pos e, if_pos e]
    · rw [if_neg e, if_neg e]
      have := congrFun h t
      cases hs : s.t <;> cases hs' : s'.t <;> rw [hs, hs'] at this <;> exact this
theorem StepR.eqv (h : StepR P ti ops nw o s x s1) {s' : AS} (he : Eqv s s') : ∃ s1', StepR P ti ops nw o s' x s1' ∧ Eqv s1 s1' := by
  have hev : s.ev = s'.ev := funext fun u => by
    cases u with
    | tmp t => show (look s.t t).getD .any = (look s'.t t).getD .any; rw [he.tt]
    | const c => rfl
    | global g => rfl
    | func f => rfl
  obtain ⟨s1', h1, v, u, ⟨a1, a2, a3, a4⟩, ⟨b1, b2, b3, b4⟩, -⟩ := h.move (s' := s') (by unfold wantA guardV; rw [he.tt]) (fun u _ => by rw [hev]) (fun id _ => by rw [he.TT])
  exact ⟨s1', h1, by rw [a1, b1]; exact look_put_eq he.tt, by rw [a2, b2, look_ov, look_ov, he.TT], by rw [a3, b3, he.N], by rw [a4, b4, he.M]⟩
theorem indep_spec (h : indep x y = true) : (∀ id ∈ x.2, id ∉ y.1 ∧ id ∉ y.2) ∧ (∀ id ∈ y.2, id ∉ x.1 ∧ id ∉ x.2) := by
  unfold indep at h
  rw [Bool.and_eq_true, List.all_eq_true, List.all_eq_true] at h
  exact ⟨fun id hid => by simpa using h.1 id hid, fun id hid => by simpa using h.2 id hid⟩
theorem StepR.swap (h1 : StepR P ti ops nw o s x s1) (h2 : StepR P ti ops nw' o' s1 y s2) (ha : o.apart ops o' = true) (hi : indep x y = true) :
    ∃ s1' s2', StepR P ti ops nw' o' s y s1' ∧ StepR P ti ops nw o s1' x s2' ∧ Eqv s2 s2' := by
  obtain ⟨d1, d2, d3⟩ := Oper.apart_spec ha
  obtain ⟨i1, i2⟩ := indep_spec hi
  obtain ⟨v1, u1, a1, a2, a3, a4, a5⟩ := h1.out
  have hT1 : ∀ id ∈ y.1, look s1.T id = look s.T id := fun id hid => by
    have hn := look_upd_none (u := u1) (id := id) (fun hm => (i1 id (by rw [a5]; exact hm)).1 hid)
    rw [a2, look_append, hn]; rfl
  obtain ⟨s1', k1, v2, u2, ⟨b1, b2, b3, b4⟩, ⟨c1, c2, c3, c4⟩, c5⟩ := h2.move (s' := s) (wantA_put (v := v1) (fun t ht => d1 t ht) a1).symm (fun u hu => by
    cases u with
    | tmp t =>
      show (look s1.t t).getD .any = (look s.t t).getD .any
      rw [a1, look_put (fun e => d1 t e (operand_looks hu))]
    | const c => rfl
    | global g => rfl
    | func f => rfl) hT1
  obtain ⟨s2', k2, v3, u3, ⟨e1, e2, e3, e4⟩, ⟨f1, f2, f3, f4⟩, f5⟩ := h1.move (s' := s1') (wantA_put (v := v2) (fun t ht => d3 t ht) c1) (fun u hu => by
    cases u with
    | tmp t =>
      show (look s.t t).getD .any = (look s1'.t t).getD .any
      rw [c1, look_put (fun e => d3 t e (operand_looks hu))]
    | const c => rfl
    | global g => rfl
    | func f => rfl) (fun id hid => by
    have hn := look_upd_none (u := u2) (id := id) (fun hm => (i2 id (by rw [c5]; exact hm)).1 hid)
    rw [c2, look_append, hn]; rfl)
  refine ⟨s1', s2', k1, k2, ?_, ?_, by rw [b3, e3, f3, c3], by rw [b4, e4, f4, c4]⟩
  · rw [b1, f1]
    funext t
    by_cases q1 : o'.dst = some t
    · have q2 : o.dst ≠ some t := fun e => d2 t e q1
      rw [look_put q2, c1]
      rw [q1]
      show look ((t, v2) :: s1.t) t = look ((t, v2) :: s.t) t
      simp [look]
    · rw [look_put q1, e1]
      by_cases q2 : o.dst = some t
      · rw [q2]
        show look ((t, v3) :: s.t) t = look ((t, v3) :: s1'.t) t
        simp [look]
      · rw [look_put q2, look_put q2, c1, look_put q1]
  · rw [b2, f2, e2, c2]
    funext id
    rw [look_append, look_append, look_append, look_append]
    by_cases q : id ∈ u2.map (·.1)
    · have hu3 : look u3 id = none := look_upd_none (fun hm => (i2 id (by rw [c5]; exact q)).2 (by rw [f5]; exact hm))
      rw [hu3]
      cases look u2 id <;> rfl
    · rw [look_upd_none q]
      cases look u3 id <;> rfl
end
end Am
end
section
namespace Am
open Go Go.RowKit
section
variable [Base] {P : Program} {ti : TypeId → Option TI} {ops : Array Oper} {Nb : Nat} {log : List (List Nat × List Nat)} {s s1 s2 sf : AS}
def StepAt [Base] (P : Program) (ti : TypeId → Option TI) (ops : Array Oper) (Nb : Nat) (log : List (List Nat × List Nat)) (i : Nat) (s s1 : AS) : Prop :=
  ∃ o x, ops[i]? = some o ∧ log[i]? = some x ∧ StepR P ti ops (Nb + 16 * i) o s x s1
def Run [Base] (P : Program) (ti : TypeId → Option TI) (ops : Array Oper) (Nb : Nat) (log : List (List Nat × List Nat)) : List Nat → AS → AS → Prop
  | [], s, sf => Eqv s sf
  | i :: r, s, sf => ∃ s1, StepAt P ti ops Nb log i s s1 ∧ Run P ti ops Nb log r s1 sf
theorem Run.eqv : ∀ {r : List Nat} {s s' sf : AS}, Run P ti ops Nb log r s sf → Eqv s s' → Run P ti ops Nb log r s' sf
  | [], _, _, _, h, e => e.symm.trans h
  | i :: r, s, s', sf, ⟨s1, ⟨o, x, h1, h2, h3⟩, h4⟩, e => by
    obtain ⟨s1', k1, k2⟩ := h3.eqv e
    exact ⟨s1', ⟨o, x, h1, h2, k1⟩, Run.eqv h4 k2⟩
def pairOk (ops : Array Oper) (log : List (List Nat × List Nat)) (j i : Nat) : Prop := ∀ x y a b, ops[j]? = some x → ops[i]? = some y → log[j]? = some a → log[i]? = some b → x.apart ops y = true ∧ indep a b = true
theorem Run.front {i : Nat} {r2 : List Nat} : ∀ {r1 : List Nat} {s sf : AS}, (∀ j ∈ r1, pairOk ops log j i) → Run P ti ops Nb log (r1 ++ i :: r2) s sf → ∃ s1, StepAt P ti ops Nb log i s s1 ∧ Run P ti ops Nb log (r1 ++ r2) s1 sf
  | [], s, sf, _, h => h
  | j :: r1, s, sf, hp, ⟨s1, ⟨o, x, h1, h2, h3⟩, h4⟩ => by
    obtain ⟨s2, ⟨o', y, k1, k2, k3⟩, k4⟩ := Run.front (fun j hj => hp j (by simp [hj])) h4
    obtain ⟨q1, q2⟩ := hp j (by simp) o o' x y h1 k1 h2 k2
    obtain ⟨s1', s2', m1, m2, m3⟩ := h3.swap k3 q1 q2
    exact ⟨s1', ⟨o', y, k1, k2, m1⟩, s2', ⟨o, x, h1, h2, m2⟩, k4.eqv m3⟩
theorem pre_listed {L : Nat → Prop} (hc : ∀ i, L i → ∀ j ∈ direct ops i, L j) : ∀ (n i : Nat), (∀ j ∈ direct ops i, L j) → ∀ j ∈ pre ops n i, L j
  | 0, _, _, j, hj => by cases hj
  | n + 1, i, h, j, hj => by
    unfold pre at hj
    rcases List.mem_append.1 hj with q | q
    · exact h j q
    · obtain ⟨k, k1, k2⟩ := List.mem_flatMap.1 q
      exact pre_listed hc n k (hc k (h k k1)) j k2
def depsOk (ops : Array Oper) : Bool := (List.range ops.size).all fun i => (direct ops i).all (· < i)
variable [Base] {B : Nat} {D S0 Si : Nat → Prop} {Fi : Nat → Option Cn} {wi : World} {m : Nat}
theorem Rel.eqv {fr : Nat → Prop} {F : Nat → Option Cn} {a : Act} {w : World} (h : Rel B D S0 Si Fi wi m fr s F a w) (e : Eqv s sf) : Rel B D S0 Si Fi wi m fr sf F a w := by
  obtain ⟨e1, e2, -, -⟩ := e
  exact ⟨by rw [← e2]; exact h.tab, fun t x hx => by rw [← e2]; exact h.tmp t x (by rw [e1]; exact hx), h.size, h.defers, by rw [← e2]; exact h.ev, h.kept, fun id hid => by rw [← e2]; exact h.dom id hid⟩
theorem adraw_run {K : AS → Prop} : ∀ (l : List Oper) (i : Nat) (lg : List (List Nat × List Nat)) (s : AS), (∀ j, l[j]? = ops[i + j]?) → lg.length = i → s.N = Nb → adraw P ti ops K l i lg s →
    ∃ log sf, logOk ops log = true ∧ (∀ j, j < i → log[j]? = lg[j]?) ∧ Run P ti ops Nb log (List.range' i l.length) s sf ∧ sf.N = Nb ∧ sf.M = s.M ∧ K { t := sf.t, T := sf.T, N := sf.N + 16 * ops.size, M := sf.M }
  | [], i, lg, s, _, hl, hN, h => ⟨lg, s, h.1, fun _ _ => rfl, .rfl', hN, rfl, h.2⟩
  | o :: r, i, lg, s, ho, hl, hN, h => by
    obtain ⟨x, s1, h1, h2⟩ := astep_step h
    obtain ⟨v, u, -, -, q3, q4, -⟩ := h1.out
    obtain ⟨log, sf, k1, k2, k3, k4, k5, k6⟩ := adraw_run r (i + 1) (lg ++ [x]) s1 (fun j => by have := ho (j + 1); rw [show i + 1 + j = i + (j + 1) by omega, ← this]; rfl) (by simp [hl]) (q3.trans hN) h2
    refine ⟨log, sf, k1, fun j hj => ?_, ⟨s1, ⟨o, x, by simpa using (ho 0).symm, ?_, by rw [← hN]; exact h1⟩, k3⟩, k4, k5.trans q4, k6⟩
    · rw [k2 j (by omega), List.getElem?_append_left (by omega)]
    · rw [k2 i (by omega), List.getElem?_append_right (by omega), hl, Nat.sub_self]; rfl
theorem logOk_spec (h : logOk ops log = true) {i j : Nat} (hi : i < ops.size) (hj : j < i) (hp : j ∉ pre ops ops.size i) : pairOk ops log j i := by
  unfold logOk at h
  have h1 := List.all_eq_true.1 h i (by simpa using hi)
  have h2 := List.all_eq_true.1 h1 j (by simpa using hj)
  rw [Bool.or_eq_true] at h2
  rcases h2 with q | q
  · exact absurd (by simpa using q) hp
  · intro x y a b e1 e2 e3 e4
    rw [e1, e2, e3, e4] at q
    simpa using q
theorem direct_mem {i : Nat} {o : Oper} (ho : ops[i]? = some o) {j : Nat} : j ∈ direct ops i ↔ ∃ e ∈ o.after, Region.binds .any e = true ∧ e.on = j := by
  unfold direct
  rw [ho]
  simp only [List.mem_filterMap, Array.mem_toList_iff]
  constructor
  · rintro ⟨e, h1, h2⟩
    split at h2
    · cases h2; exact ⟨e, h1, ‹_›, rfl⟩
    · cases h2
  · rintro ⟨e, h1, h2, rfl⟩
    exact ⟨e, h1, by rw [if_pos h2]⟩
theorem any_ok (hti : TOk P ti) (hm : okOps m ops = true) (hd : depsOk ops = true) (hlog : logOk ops log = true) {Q : Exit → Act → World → Prop} (hQ : ∀ F a w, Rel B D S0 Si Fi wi m (fun id => Nb + 16 * ops.size ≤ id) sf F a w → Q .normal a w) :
    ∀ (n : Nat) (listed : Array Bool) (rem : List Nat) (s : AS) (F : Nat → Option Cn) (a : Act) (w : World), rem.length = n → rem = (List.range ops.size).filter (fun i => !listed.getD i true) → listed.size = ops.size →
      (∀ i, listed.getD i false = true → ∀ j ∈ direct ops i, listed.getD j false = true) → s.N = Nb → Rel B D S0 Si Fi wi m (fun id => Nb ≤ id ∧ listed.getD ((id - Nb) / 16) false = false) s F a w → Run P ti ops Nb log rem s sf → wpAny P .any ops Q n listed a w := by
  intro n
  induction n with
  | zero =>
    intro listed rem s F a w hn hrem hsz hcl hN h hr
    have : rem = [] := List.eq_nil_of_length_eq_zero hn
    subst this
    refine ⟨?_, hQ F a w ((h.eqv hr).fewer fun id hid => ?_)⟩
    · apply List.eq_nil_iff_forall_not_mem.2
      intro i hi
      obtain ⟨q1, o, q2, -⟩ := mem_ready.1 hi
      have : i ∈ (List.range ops.size).filter (fun i => !listed.getD i true) := by
        rw [List.mem_filter]
        exact ⟨by simpa using (Array.getElem?_eq_some_iff.1 q2).1, by simpa using q1⟩
      rw [← hrem] at this
      cases this
    · have hid : Nb + 16 * ops.size ≤ id := hid
      refine ⟨by omega, ?_⟩
      have : ops.size ≤ (id - Nb) / 16 := (Nat.le_div_iff_mul_le (by omega)).2 (by omega)
      simp [Array.getD, show ¬ (id - Nb) / 16 < listed.size by omega]
  | succ n ih =>
    intro listed rem s F a w hn hrem hsz hcl hN h hr
    have hmem : ∀ i, i ∈ rem ↔ i < ops.size ∧ listed.getD i true = false := fun i => by rw [hrem, List.mem_filter]; simp
    have hlt : ∀ i, listed.getD i true = false → listed.getD i false = false := fun i hi => by
      by_cases q : i < listed.size
      · simpa [Array.getD, q] using hi
      · simp [Array.getD, q] at hi
    have hlf : ∀ i, i < ops.size → listed.getD i false = false → listed.getD i true = false := fun i hi q => by
      have : i < listed.size := by omega
      simpa [Array.getD, this] using q
    refine ⟨fun hready => ?_, fun i hi => ?_⟩
    · -- the first that is left is ready
      exfalso
      cases hrm : rem with
      | nil => rw [hrm] at hn; cases hn
      | cons i r =>
        have hi := (hmem i).1 (by rw [hrm]; simp)
        have hdi := List.all_eq_true.1 hd i (by simpa using hi.1)
        have : i ∈ Region.ready .any ops listed := mem_ready.2 ⟨hi.2, ops[i], Array.getElem?_eq_getElem hi.1, fun e he hb => by
          have hlt2 := List.all_eq_true.1 hdi e.on ((direct_mem (Array.getElem?_eq_getElem hi.1)).2 ⟨e, he, hb, rfl⟩)
          have hlt2 : e.on < i := by simpa using hlt2
          by_cases q : listed.getD e.on false = true
          · exact q
          · exfalso
            have hel : e.on ∈ rem := (hmem e.on).2 ⟨by omega, hlf e.on (by omega) (by simpa using q)⟩
            have hsorted : rem.Pairwise (· < ·) := by rw [hrem]; exact List.Pairwise.filter _ List.pairwise_lt_range
            rw [hrm] at hel hsorted
            rcases List.mem_cons.1 hel with e1 | e1
            · omega
            · have := (List.pairwise_cons.1 hsorted).1 e.on e1
              omega⟩
        rw [hready] at this
        cases this
    · obtain ⟨hi1, o, ho, hall⟩ := mem_ready.1 hi
      have hisz : i < ops.size := (Array.getElem?_eq_some_iff.1 ho).1
      have hin : i ∈ rem := (hmem i).2 ⟨hisz, hi1⟩
      have hdir : ∀ j ∈ direct ops i, listed.getD j false = true := fun j hj => by
        obtain ⟨e, he, hb, rfl⟩ := (direct_mem ho).1 hj
        exact hall e he hb
      have hsorted : rem.Pairwise (· < ·) := by rw [hrem]; exact List.Pairwise.filter _ List.pairwise_lt_range
      obtain ⟨r1, r2, hsp⟩ := List.append_of_mem hin
      rw [hsp] at hr hsorted
      have hp : ∀ j ∈ r1, pairOk ops log j i := fun j hj => by
        have hjr : j ∈ rem := by rw [hsp]; simp [hj]
        have hji : j < i := (List.pairwise_append.1 hsorted).2.2 j hj i (by simp)
        refine logOk_spec hlog hisz hji fun hpre => ?_
        have := pre_listed (L := fun j => listed.getD j false = true) hcl ops.size i hdir j hpre
        have h2 := hlt j ((hmem j).1 hjr).2
        rw [this] at h2
        cases h2
      obtain ⟨s1, ⟨o', x, k1, k2, k3⟩, k4⟩ := Run.front hp hr
      rw [ho] at k1
      cases k1
      have hrem' : r1 ++ r2 = (List.range ops.size).filter (fun j => !(listed.setIfInBounds i true).getD j true) := by
        have e1 : (List.range ops.size).filter (fun j => !(listed.setIfInBounds i true).getD j true) = rem.filter (fun j => j ≠ i) := by
          rw [hrem, List.filter_filter]
          apply List.filter_congr
          intro j hj
          by_cases e : j = i
          · subst e
            have : j < listed.size := by rw [hsz]; exact hisz
            simp [Array.getD, this]
          · rw [getD_set_ne true (Ne.symm e)]
            simp [e]
        rw [e1, hsp, List.filter_append, List.filter_cons]
        have hn1 : i ∉ r1 := fun q => by have := (List.pairwise_append.1 hsorted).2.2 i q i (by simp); omega
        have hn2 : i ∉ r2 := fun q => by have := (List.pairwise_cons.1 (List.pairwise_append.1 hsorted).2.1).1 i q; omega
        rw [List.filter_eq_self.2 (fun j hj => by simp; exact fun e => hn1 (e ▸ hj)), List.filter_eq_self.2 (fun j hj => by simp; exact fun e => hn2 (e ▸ hj))]
        simp
      unfold wpOp
      rw [ho]
      simp only
      have hst := k3.astep (K := fun y t => y = x ∧ t = s1) ⟨rfl, rfl⟩
      have := astep_ok (next := wpAny P .any ops Q n (listed.setIfInBounds i true)) (Q := Q) hti h (nw := Nb + 16 * i) (ops := ops) (o := o) (fun j hj => ⟨by omega, by
          have : (Nb + 16 * i + j - Nb) / 16 = i := by omega
          rw [this]; exact hlt i hi1⟩) (okOps_at hm o (by simpa using Array.mem_of_getElem? ho)) hst (fun y s' F' a' w' h' hN' hM' hk => by
        obtain ⟨rfl, rfl⟩ := hk
        refine ih (listed.setIfInBounds i true) (r1 ++ r2) s' F' a' w' (by rw [hsp] at hn; simp at hn ⊢; omega) hrem' (by simp [hsz]) (fun j hj k hk => ?_) (hN'.trans hN) (h'.fewer fun id hid => ?_) k4
        · by_cases e : j = i
          · subst e; exact getD_set_true (hdir k hk)
          · exact getD_set_true (hcl j (by rwa [getD_set_ne false (Ne.symm e)] at hj) k hk)
        · obtain ⟨q1, q2⟩ := hid
          have hne : i ≠ (id - Nb) / 16 := fun e => by
            rw [← e] at q2
            have : i < listed.size := by rw [hsz]; exact hisz
            simp [Array.getD, this] at q2
          rw [getD_set_ne false hne] at q2
          exact ⟨⟨q1, q2⟩, by omega⟩)
      split
      · rw [if_pos ‹_›] at this; exact .inl this
      · rw [if_neg ‹_›] at this; exact this
end
end Am
end
section
namespace Am
open Go Go.RowKit
def exR : Exit → Ex → Prop
  | .normal, .normal => True
  | .exit i, .exit j => i = j
  | .ret, .ret => True
  | _, _ => False
def okD (m : Nat) : Code → Bool
  | .region _ ops d => okOps m ops && (!d || depsOk ops)
  | .seq a b => okD m a && okD m b
  | .cond _ x y => okD m x && okD m y
  | .block _ c => okD m c
  | .loop c => okD m c
  | _ => true
section
variable [Base] {P : Program} {ti : TypeId → Option TI} {B : Nat} {D S0 Si : Nat → Prop} {Fi : Nat → Option Cn} {wi : World} {m M : Nat}
def Post [Base] (B : Nat) (D S0 Si : Nat → Prop) (Fi : Nat → Option Cn) (wi : World) (m M : Nat) (Q : Ex → AS → Prop) : Exit → Act → World → Prop :=
  fun e a w => ∃ x s F, exR e x ∧ Rel B D S0 Si Fi wi m (fun id => s.N ≤ id) s F a w ∧ s.M = M ∧ Q x s
theorem awp_ok (hti : TOk P ti) (hm : P.follows .mixedOrders = true) (hFi : ∀ id, M ≤ id → Fi id = none) : ∀ (c : Code) (Q : Ex → AS → Prop) (s : AS) (F : Nat → Option Cn) (a : Act) (w : World), okD m c = true → Rel B D S0 Si Fi wi m (fun id => s.N ≤ id) s F a w → s.M = M → awp P ti c Q s →
    c.wp P (Post B D S0 Si Fi wi m M Q) a w
  | .skip, Q, s, F, a, w, _, h, hM, hx => wp_skip ⟨.normal, s, F, trivial, h, hM, hx⟩
  | .label l, Q, s, F, a, w, _, h, hM, hx => wp_label ⟨.normal, s, F, trivial, h, hM, hx⟩
  | .exit id, Q, s, F, a, w, _, h, hM, hx => wp_exit ⟨.exit id, s, F, rfl, h, hM, hx⟩
  | .ret, Q, s, F, a, w, _, h, hM, hx => wp_ret ⟨.ret, s, F, trivial, h, hM, hx⟩
  | .region id ops false, Q, s, F, a, w, hok, h, hM, hx => by
    have hok : okOps m ops = true := by simpa [okD] using hok
    exact wp_region_list (alist_ok hti (fun s F a w h hM hk => ⟨.normal, s, F, trivial, h, hM, hk⟩) ops.toList 0 s F a w (okOps_at hok) (by simp) hM (by simpa using h) hx)
  | .region id ops true, Q, s, F, a, w, hok, h, hM, hx => by
    have hok : okOps m ops = true ∧ depsOk ops = true := by simpa [okD] using hok
    obtain ⟨log, sf, k1, -, k3, k4, k5, k6⟩ := adraw_run (Nb := s.N) ops.toList 0 [] s (fun j => by simp) rfl rfl hx
    refine wp_region_any hm ?_
    have hr : List.range' 0 ops.toList.length = (List.range ops.size).filter (fun i => !(Array.replicate ops.size false).getD i true) := by
      rw [Array.length_toList, ← List.range_eq_range', Eq.comm, List.filter_eq_self]
      intro i hi
      have hi : i < ops.size := by simpa using hi
      simp [Array.getD, hi]
    refine any_ok (sf := sf) (log := log) (Nb := s.N) hti hok.1 hok.2 k1 (fun F a w h => ⟨.normal, { t := sf.t, T := sf.T, N := sf.N + 16 * ops.size, M := sf.M }, F, trivial, ⟨h.tab, h.tmp, h.size, h.defers, h.ev, h.kept, fun id hid => h.dom id (by have hid : sf.N + 16 * ops.size ≤ id := hid; omega)⟩, k5.trans hM, k6⟩) ops.size (Array.replicate ops.size false) _ s F a _ (by simp) hr (by simp) (fun i hi => ?_) rfl ?_ k3
    · exfalso
      by_cases q : i < ops.size
      · simp [Array.getD, q] at hi
      · simp [Array.getD, q] at hi
    · have := h.fewer (fr' := fun id => s.N ≤ id ∧ (Array.replicate ops.size false).getD ((id - s.N) / 16) false = false) (fun id hid => hid.1)
      obtain ⟨t2, e2⟩ := TabR.drew this.tab
      exact ⟨t2, fun t x hx => VR.mono e2 (this.tmp t x hx), this.size, this.defers, this.ev.trans e2, ⟨this.kept.os, this.kept.tape, this.kept.output, this.kept.size, this.kept.block⟩, this.dom⟩
  | .seq x y, Q, s, F, a, w, hok, h, hM, hx => by
    have hok : okD m x = true ∧ okD m y = true := by simpa [okD] using hok
    refine wp_seq (wp_mono (awp_ok hti hm hFi x _ s F a w hok.1 h hM hx) fun e a' w' hp => ?_)
    obtain ⟨z, s', F', he, h', hM', hq⟩ := hp
    cases e <;> cases z <;> first | exact he.elim | skip
    · exact awp_ok hti hm hFi y Q s' F' a' w' hok.2 h' hM' hq
    · exact ⟨_, s', F', he, h', hM', hq⟩
    · exact ⟨_, s', F', he, h', hM', hq⟩
  | .cond c x y, Q, s, F, a, w, hok, h, hM, hx => by
    have hok : okD m x = true ∧ okD m y = true := by simpa [okD] using hok
    have hc := h.eval c
    unfold awp at hx
    split at hx
    · rename_i b hb
      rw [hb] at hc
      refine wp_cond_split hc.v_eq (fun q => awp_ok hti hm hFi x Q s F a w hok.1 h hM (hx.1 q)) (fun q => awp_ok hti hm hFi y Q s F a w hok.2 h hM (hx.2 q))
    · exact hx.elim
  | .block id c, Q, s, F, a, w, hok, h, hM, hx => by
    refine wp_block (wp_mono (awp_ok hti hm hFi c _ s F a w hok h hM hx) fun e a' w' hp => ?_)
    obtain ⟨z, s', F', he, h', hM', hq⟩ := hp
    cases e <;> cases z <;> first | exact he.elim | skip
    · exact ⟨.normal, s', F', trivial, h', hM', hq⟩
    · rename_i i j
      have he : i = j := he
      subst he
      show if i = id then _ else _
      have hq : if i = id then Q .normal s' else Q (.exit i) s' := hq
      split
      · rw [if_pos ‹_›] at hq; exact ⟨.normal, s', F', trivial, h', hM', hq⟩
      · rw [if_neg ‹_›] at hq; exact ⟨.exit i, s', F', rfl, h', hM', hq⟩
    · exact ⟨.ret, s', F', trivial, h', hM', hq⟩
  | .loop c, Q, s, F, a, w, hok, h, hM, hx => by
    obtain ⟨ι, I, μ, i0, ⟨hw1, hw2⟩, hbody⟩ := hx
    have key : ∀ (n : Nat) (i : ι) (F : Nat → Option Cn) (a : Act) (w : World), μ i = n → (I i).M = M → Rel B D S0 Si Fi wi m (fun id => (I i).N ≤ id) (I i) F a w → ∀ (b : Frame) (k : List Item) (cs : List Frame),
        ∃ e a' w', Post B D S0 Si Fi wi m M Q e a' w' ∧ Arrives P (lone (b.at a (.code c :: .inLoop c :: k)) cs w) b k cs e a' w' := by
      intro n
      induction n using Nat.strongRecOn with
      | _ n ih =>
        intro i F a w hn hMi hi b k cs
        obtain ⟨e, a₁, w₁, hq, harr⟩ := awp_ok hti hm hFi c _ (I i) F a w hok hi hMi (hbody i) b (.inLoop c :: k) cs
        obtain ⟨z, s', F', he, h', hM', hq⟩ := hq
        cases e <;> cases z <;> first | exact he.elim | skip
        · obtain ⟨j, hj, hwk1, hwk2⟩ := hq
          obtain ⟨F2, h2⟩ := hwk2 B D S0 Si Fi wi m F' a₁ w₁ (by rw [hM']; exact hFi) h'
          obtain ⟨e₂, a₂, w₂, hq₂, harr₂⟩ := ih (μ j) (by omega) j F2 a₁ w₁ rfl (hwk1.trans hM') h2 b k cs
          exact ⟨e₂, a₂, w₂, hq₂, .of_steps (Steps.trans harr (.one step_inLoop)) harr₂⟩
        · exact ⟨_, a₁, w₁, ⟨_, s', F', he, h', hM', hq⟩, .pass (x := .inLoop c) rfl (fun _ _ => .inl (by simp)) harr⟩
        · exact ⟨_, a₁, w₁, ⟨_, s', F', he, h', hM', hq⟩, .pass (x := .inLoop c) rfl (fun _ _ => .inl (by simp)) harr⟩
    intro b k cs
    obtain ⟨F2, h2⟩ := hw2 B D S0 Si Fi wi m F a w (by rw [hM]; exact hFi) h
    obtain ⟨e, a', w', hq, harr⟩ := key _ i0 F2 a w rfl (hw1.trans hM) h2 b k cs
    exact ⟨e, a', w', hq, .of_steps (.one step_loop) harr⟩
  | .rangeFunc _ _ _ _, _, _, _, _, _, _, _, _, hx => hx.elim
  | .scope _, _, _, _, _, _, _, _, _, hx => hx.elim
  | .goto _, _, _, _, _, _, _, _, _, hx => hx.elim
  | .refuse _, _, _, _, _, _, _, _, _, hx => hx.elim
end
end Am
end
end Go.Proofs.Ytcgdhankllphgaa
