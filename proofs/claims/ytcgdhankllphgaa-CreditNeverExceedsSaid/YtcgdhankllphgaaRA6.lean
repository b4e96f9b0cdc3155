import Derived.Test.YtcgdhankllphgaaRA5
namespace Go.Proofs.Ytcgdhankllphgaa
set_option linter.unusedVariables false
set_option linter.unusedSimpArgs false
set_option linter.unusedSectionVars false
section
namespace Am
open Go Go.RowKit
def AV.ok3 : AV → Bool
  | .tup cs => cs.all (·.ok2)
  | x => x.ok2
theorem VR.pull3 [Base] {S : Nat → Prop} {w : World} {F G : Nat → Option Cn} {ρ : Nat → Nat} (hρ : ∀ id c, G (ρ id) = some c → F id = some c) {x : AV} {v : Value} (hok : x.ok3 = true) (h : VR S G w (x.ren ρ) v) : VR S F w x v := by
  by_cases hx : ∃ cs, x = .tup cs
  · obtain ⟨cs, rfl⟩ := hx
    have h : VR S G w (.tup (cs.map (·.ren2 ρ))) v := h
    obtain ⟨vs, rfl, hl⟩ := VR.tup_eq h
    have := map_pull (VR.pull hρ) hok hl
    exact .tup cs vs this.1 this.2
  · have e1 : x.ren ρ = x.ren2 ρ := by cases x <;> first | rfl | exact absurd ⟨_, rfl⟩ hx
    have e2 : x.ok3 = x.ok2 := by cases x <;> first | rfl | exact absurd ⟨_, rfl⟩ hx
    rw [e1] at h
    rw [e2] at hok
    exact VR.pull hρ x v hok h
section
variable [Base] {B : Nat} {D S0 : Nat → Prop} {T : Nat → Option Blk} {F : Nat → Option Cn} {w : World}
theorem TabR.sub (h : TabR B D S0 T F w) {T' : Nat → Option Blk} {F' : Nat → Option Cn} {ρ : Nat → Nat} {dm : Nat → Prop} (h1 : ∀ id b, T' id = some b → dm id ∧ T (ρ id) = some (b.ren ρ) ∧ b.okB) (h2 : ∀ i j, dm i → dm j → ρ i = ρ j → i = j)
    (h3 : ∀ id, dm id → F' id = F (ρ id)) (h4 : ∀ id, ¬ dm id → F' id = none ∧ F (ρ id) = none) :
    TabR B D S0 T' F' w ∧ (∀ b, stab B D S0 T F w b → stab B D S0 T' F' w b) ∧ ∀ id c, F (ρ id) = some c → F' id = some c := by
  have hpull : ∀ id c, F (ρ id) = some c → F' id = some c := fun id c hc => by
    by_cases q : dm id
    · rw [h3 id q]; exact hc
    · rw [(h4 id q).2] at hc; cases hc
  have hS : ∀ b, stab B D S0 T F w b → stab B D S0 T' F' w b := fun b hb => ⟨hb.1, hb.2.1, fun id bk cap k q1 q2 q3 => by
    obtain ⟨r1, r2, -⟩ := h1 id bk q1
    rw [h3 id r1] at q3
    exact hb.2.2 (ρ id) (bk.ren ρ) cap k r2 q2 q3⟩
  refine ⟨⟨fun id b hb => ?_, fun id id' b b' g cap k cap' k' hb hb' hl1 hl2 hg hg' => ?_, h.sh, h.big, h.laid⟩, hS, hpull⟩
  · obtain ⟨r1, r2, r3⟩ := h1 id b hb
    obtain ⟨c, c1, c2⟩ := h.cov (ρ id) _ r2
    refine ⟨c, by rw [h3 id r1]; exact c1, fun hd => ?_⟩
    have c2 := c2 hd
    cases c with
    | dead => exact c2.elim
    | nil => exact ⟨c2.1, by have h : b.els.map (·.map (·.ren1 ρ)) = [] := c2.2; simpa using h⟩
    | blk gg cap k =>
      obtain ⟨k0, cur, b1, b2, b3, b4, b4b, b5, b6, b7, b8⟩ := c2
      refine ⟨k0, cur, b1, b2, by have h : (b.els.map (·.map (·.ren1 ρ))).length ≤ cap := b3; simpa using h, b4, b4b, fun i row hr => by simpa using b5 i _ (ren_els hr), fun i j row x hr hx => ?_, b7, fun hfz => hS gg (b8 hfz)⟩
      obtain ⟨v, v1, v2⟩ := b6 i j _ (x.ren1 ρ) (ren_els hr) (by rw [List.getElem?_map, hx]; rfl)
      exact ⟨v, v1, VR.mono ⟨hS, fun _ _ => rfl, fun _ _ h => .inl h⟩ (VR.pull1 hpull x v (List.all_eq_true.1 (r3 row (List.mem_of_getElem? hr)) x (List.mem_of_getElem? hx)) v2)⟩
  · obtain ⟨r1, r2, -⟩ := h1 id b hb
    obtain ⟨r1', r2', -⟩ := h1 id' b' hb'
    rw [h3 id r1] at hg
    rw [h3 id' r1'] at hg'
    exact h2 id id' r1 r1' (h.inj _ _ _ _ g cap k cap' k' r2 r2' hl1 hl2 hg hg')
end
theorem look_mem {α : Type} {l : List (Nat × α)} {k : Nat} {x : α} (h : look l k = some x) : (k, x) ∈ l := by
  induction l with
  | nil => cases h
  | cons p r ih =>
    obtain ⟨j, a⟩ := p
    unfold look at h
    split at h
    · rename_i e; cases h; subst e; simp
    · exact List.mem_cons_of_mem _ (ih h)
def rhoW (ρl : List (Nat × Nat)) (N : Nat) (id : Nat) : Nat := (look ρl id).getD N
theorem Weak.mk' [Base] {s s' : AS} (ρl : List (Nat × Nat)) (hM : s'.M = s.M) (h0 : ∀ id, id < s.M → look ρl id = some id) (h1 : (ρl.map (·.2)).Nodup) (h2 : ∀ p ∈ ρl, p.1 < s'.N)
    (h3 : ∀ p ∈ s'.t, look s.t p.1 = some (p.2.ren (rhoW ρl s.N)) ∧ p.2.ok3 = true)
    (h4 : ∀ p ∈ s'.T, look s.T (rhoW ρl s.N p.1) = some (p.2.ren (rhoW ρl s.N)) ∧ p.2.okB ∧ (look ρl p.1).isSome = true) : Weak s s' := by
  refine ⟨hM, fun B D S0 Si Fi wi m F a w hFi h => ?_⟩
  let F' : Nat → Option Cn := fun id => match look ρl id with | some _ => F (rhoW ρl s.N id) | none => none
  have hF'1 : ∀ id, (look ρl id).isSome = true → F' id = F (rhoW ρl s.N id) := fun id hd => by
    obtain ⟨y, hy⟩ := Option.isSome_iff_exists.1 hd
    show (match look ρl id with | some _ => _ | none => _) = _
    rw [hy]
  have hF'0 : ∀ id, ¬ (look ρl id).isSome = true → F' id = none ∧ F (rhoW ρl s.N id) = none := fun id hd => by
    have hn : look ρl id = none := by cases hq : look ρl id with | none => rfl | some y => rw [hq] at hd; simp at hd
    refine ⟨by show (match look ρl id with | some _ => _ | none => _) = _; rw [hn], ?_⟩
    unfold rhoW
    rw [hn]
    exact (h.dom s.N (Nat.le_refl _)).1
  have hinj : ∀ i j, (look ρl i).isSome = true → (look ρl j).isSome = true → rhoW ρl s.N i = rhoW ρl s.N j → i = j := fun i j hi hj e => by
    obtain ⟨a, ha⟩ := Option.isSome_iff_exists.1 hi
    obtain ⟨b, hb⟩ := Option.isSome_iff_exists.1 hj
    unfold rhoW at e
    rw [ha, hb] at e
    have e : a = b := e
    subst e
    have m1 := look_mem ha
    have m2 := look_mem hb
    clear ha hb h3 h4 h0 h2 hi hj hF'1 hF'0 F'
    induction ρl with
    | nil => cases m1
    | cons p r ih =>
      rw [List.map_cons, List.nodup_cons] at h1
      rcases List.mem_cons.1 m1 with q1 | q1 <;> rcases List.mem_cons.1 m2 with q2 | q2
      · rw [← q1] at q2; cases q2; rfl
      · subst q1; exact absurd (List.mem_map.2 ⟨_, q2, rfl⟩) h1.1
      · subst q2; exact absurd (List.mem_map.2 ⟨_, q1, rfl⟩) h1.1
      · exact ih h1.2 q1 q2
  obtain ⟨t1, t2, t3⟩ := h.tab.sub (T' := look s'.T) (F' := F') (ρ := rhoW ρl s.N) (dm := fun id => (look ρl id).isSome = true) (fun id b hb => by
    obtain ⟨q1, q2, q3⟩ := h4 _ (look_mem hb)
    exact ⟨q3, q1, q2⟩) hinj hF'1 hF'0
  refine ⟨F', ⟨t1, fun t x hx => ?_, h.size, h.defers, ⟨fun b hb => t2 b (h.ev.s b hb), h.ev.h, fun id c hc => ?_⟩, h.kept, fun id hid => ?_⟩⟩
  · obtain ⟨q1, q2⟩ := h3 _ (look_mem hx)
    exact VR.mono ⟨t2, fun _ _ => rfl, fun _ _ h => .inl h⟩ (VR.pull3 t3 q2 (h.tmp t _ q1))
  · have hlt : id < s.M := by
      rcases Nat.lt_or_ge id s.M with q | q
      · exact q
      · rw [hFi id q] at hc; cases hc
    have hl := h0 id hlt
    have e : F' id = F id := by
      rw [hF'1 id (by rw [hl]; rfl)]
      unfold rhoW
      rw [hl]; rfl
    rw [e]
    exact h.ev.f id c hc
  · have hid : s'.N ≤ id := hid
    have hn : look ρl id = none := by
      cases hq : look ρl id with
      | none => rfl
      | some y =>
        have h5 : id < s'.N := h2 (id, y) (look_mem hq)
        omega
    refine ⟨(hF'0 id (by rw [hn]; simp)).1, ?_⟩
    cases hq : look s'.T id with
    | none => rfl
    | some b =>
      have := (h4 _ (look_mem hq)).2.2
      rw [hn] at this
      cases this
def resA (ti : TypeId → Option TI) (s : AS) : ResultVar → Option Eff
  | .tmp t => eff (s.ev (.tmp t))
  | .cell c ty => loadE ti (look s.T) ty (s.ev (.tmp c))
def resAll (ti : TypeId → Option TI) (s : AS) : List ResultVar → Option (Prop × List AV)
  | [] => some (True, [])
  | x :: l => match resA ti s x with
    | some e => match resAll ti s l with
      | some q => some (e.obl ∧ q.1, e.v :: q.2)
      | none => none
    | none => none
def oneOr : List AV → AV
  | [x] => x
  | l => .tup l
def lat (l : List Nat) (N j : Nat) : Nat := (l[j]?).getD N
def RetOk (ti : TypeId → Option TI) (rs : List ResultVar) (T1 : List Blk) (r : AV) (s : AS) : Prop := match resAll ti s rs with
  | some q => q.1 ∧ ∃ fz l : List Nat, frzOk fz (look s.T) ∧ l.length = T1.length ∧ l.Nodup ∧ s.M ≤ T1.length ∧ (∀ j, j < s.M → l[j]? = some j) ∧ (∀ j b, T1[j]? = some b → ov (frzT fz (look s.T)) (look s.T) (lat l s.N j) = some (b.ren (lat l s.N)) ∧ b.okB) ∧ oneOr (q.2.map (frzB (ov (frzT fz (look s.T)) (look s.T)) fz)) = r.ren (lat l s.N) ∧ r.ok3 = true
  | none => False
def retQ (ti : TypeId → Option TI) (rs : List ResultVar) (T1 : List Blk) (r : AV) : Ex → AS → Prop
  | .normal, s => RetOk ti rs T1 r s
  | .ret, s => RetOk ti rs T1 r s
  | .exit _, _ => False
def start (xs : List AV) (T0 : List Blk) : AS := { t := xs.zipIdx.map fun p => (p.2, p.1), T := T0.zipIdx.map fun p => (p.2, p.1), N := T0.length, M := T0.length }
theorem look_idx {α : Type} (xs : List α) : ∀ n, ∀ t, look ((xs.zipIdx n).map fun p => (p.2, p.1)) t = if n ≤ t then xs[t - n]? else none := by
  induction xs with
  | nil => intro n t; simp [look]
  | cons x xs ih =>
    intro n t
    simp only [List.zipIdx_cons, List.map_cons, look]
    rw [ih]
    by_cases e : n = t
    · subst e; simp
    · rw [if_neg e]
      by_cases q : n ≤ t
      · rw [if_pos (by omega), if_pos q, show t - n = (t - (n + 1)) + 1 by omega]; rfl
      · rw [if_neg (by omega), if_neg q]
section
variable [Base] {P : Program} {ti : TypeId → Option TI} {B : Nat} {D S0 Si : Nat → Prop} {Fi : Nat → Option Cn} {wi : World} {m : Nat} {fr : Nat → Prop} {s : AS} {F : Nat → Option Cn} {a : Act} {w : World}
theorem resAll_ok (hti : TOk P ti) (h : Rel B D S0 Si Fi wi m fr s F a w) : ∀ (l : List ResultVar) (q : Prop × List AV), resAll ti s l = some q → q.1 →
    ∃ vs : List Value, (l.mapM fun | .tmp t => pure (a.tmps.getD t undef) | .cell c t => do loadVar t (← asAddr (a.tmps.getD c undef)) : Sem (List Value)).run P w = .ok vs w ∧ LR (stab B D S0 (look s.T) F w) F w q.2 vs
  | [], q, hq, _ => by cases hq; exact ⟨[], by simp, LR.nil⟩
  | x :: l, q, hq, ho => by
    unfold resAll at hq
    split at hq
    · rename_i e he
      split at hq
      · rename_i q' hq'
        cases hq
        obtain ⟨vs, v1, v2⟩ := resAll_ok hti h l q' hq' ho.2
        cases x with
        | tmp t =>
          cases he
          exact ⟨a.tmps.getD t undef :: vs, by rw [List.mapM_cons]; simp only [Sem.run_bind, Sem.run_pure, Result.andThen_ok, v1], LR.cons (h.eval (.tmp t)) v2⟩
        | cell c ty =>
          obtain ⟨r, r1, r2, -⟩ := loadE_ok hti h.tab (h.eval (.tmp c)) he ho.1
          have hv : a.eval (.tmp c) = a.tmps.getD c undef := rfl
          rw [hv] at r1
          refine ⟨r :: vs, ?_, LR.cons r2 v2⟩
          rw [List.mapM_cons]
          have : (do loadVar ty (← asAddr (a.tmps.getD c undef)) : Sem Value).run P w = .ok r w := by
            simp only [Instr.loadAt, Sem.run_bind] at r1
            rw [Sem.run_bind]
            cases hp : a.tmps.getD c undef with
            | pointer ad =>
              rw [hp] at r1
              cases ad with
              | none => simp [Instr.sureAddr, stuck, Sem.run, Result.andThen] at r1
              | some ad => simpa [Instr.sureAddr, asAddr] using r1
            | _ => rw [hp] at r1; simp [Instr.sureAddr, stuck, Sem.run, Result.andThen] at r1
          rw [Sem.run_bind, this]
          simp only [Result.andThen_ok, Sem.run_bind, v1, Sem.run_pure]
      · cases hq
    · cases hq
end
theorem EC_of_wp [Base] {P : Program} {ti : TypeId → Option TI} (hti : TOk P ti) {g : FuncId} {fn : Func} {c : Code} {T0 T1 : List Blk} {xs : List AV} {r : AV} (hf : P.funcs[g]? = some fn) (hb : fn.body = some c) (hname : (fn.name == "runtime.NumGoroutine") = false) (hx : xs.length ≤ fn.ntmps)
    (h : ∀ (B : Nat) (D S0 Si : Nat → Prop) (Fi : Nat → Option Cn) (wi : World) (F : Nat → Option Cn) (a : Act) (w : World), (∀ id, T0.length ≤ id → Fi id = none) → Rel B D S0 Si Fi wi fn.ntmps (fun id => (start xs T0).N ≤ id) (start xs T0) F a w → c.wp P (Post B D S0 Si Fi wi fn.ntmps T0.length (retQ ti fn.results.toList T1 r)) a w) : EC P g T0 xs T1 r := by
  refine ⟨⟨fn, c, hf, hname, hb⟩, fun B D S0 F w args hT hF hl => ?_⟩
  have hlen : args.length = xs.length := hl.1.symm
  have hTl : look (start xs T0).T = at_ T0 := funext fun id => by
    show look (T0.zipIdx.map fun p => (p.2, p.1)) id = T0[id]?
    rw [look_idx T0 0 id]; simp
  have hrel : Rel B D S0 (stab B D S0 (at_ T0) F w) F w fn.ntmps (fun id => (start xs T0).N ≤ id) (start xs T0) F { tmps := args.toArray ++ Array.replicate (fn.ntmps - args.toArray.size) undef, defers := [] } w := by
    refine ⟨by rw [hTl]; exact hT, fun t x hx => ?_, by simp; omega, rfl, by rw [hTl]; exact .refl, .refl, fun id hid => ⟨hF id hid, by rw [hTl]; exact List.getElem?_eq_none hid⟩⟩
    rw [hTl]
    have hx : look (xs.zipIdx.map fun p => (p.2, p.1)) t = some x := hx
    rw [look_idx xs 0 t] at hx
    simp at hx
    obtain ⟨v, v1, v2⟩ := hl.at hx
    have : (args.toArray ++ Array.replicate (fn.ntmps - args.toArray.size) undef).getD t undef = v := by
      have ht := (List.getElem?_eq_some_iff.1 v1).1
      have : (args.toArray ++ Array.replicate (fn.ntmps - args.toArray.size) undef)[t]? = some v := by
        rw [Array.getElem?_append_left (by simpa using ht)]; simpa using v1
      rw [Array.getD_eq_getD_getElem?, this]
      rfl
    show VR _ _ _ x ((args.toArray ++ Array.replicate (fn.ntmps - args.toArray.size) undef).getD t undef)
    rw [this]
    exact v2
  refine calls_of_wp hf hb (wp_mono (h B D S0 _ F w F _ w hF hrel) fun e a' w' hp => ?_)
  obtain ⟨z, s', F', he, h', hM', hq⟩ := hp
  have fin : RetOk ti fn.results.toList T1 r s' → a'.defers = [] ∧ ∃ v, (results fn a'.tmps).run P w' = .ok v w' ∧ ∃ u F1, Ending.returned v = .returned u ∧ TabR B D S0 (at_ T1) F1 w' ∧ (∀ id, T1.length ≤ id → F1 id = none) ∧ Ev (stab B D S0 (at_ T0) F w) F w (stab B D S0 (at_ T1) F1 w') F1 w' ∧ Kept B D w w' ∧ VR (stab B D S0 (at_ T1) F1 w') F1 w' r u := fun hr => by
    unfold RetOk at hr
    split at hr
    · rename_i q hq'
      obtain ⟨ho, fz, l, hfz, l1, l2, l3, l4, l5, l6, l7⟩ := hr
      obtain ⟨vs, v1, v2⟩ := resAll_ok hti h' _ q hq' ho
      obtain ⟨tf, ef⟩ := frz_ok fz h'.tab hfz
      obtain ⟨qf, -, -⟩ := frz_at fz hfz
      obtain ⟨Tf, hTf⟩ : ∃ Tf, ov (frzT fz (look s'.T)) (look s'.T) = Tf := ⟨_, rfl⟩
      rw [hTf] at tf ef qf l6
      simp only [hTf] at l5
      have v2 := map_push (frzB_ok tf qf) (v2.mono ef)
      obtain ⟨q2, hq2⟩ : ∃ q2, q.2.map (frzB Tf fz) = q2 := ⟨_, rfl⟩
      rw [hq2] at v2 l6
      have hres : ∃ v, (results fn a'.tmps).run P w' = .ok v w' ∧ VR (stab B D S0 Tf F' w') F' w' (oneOr q2) v := by
        have hrun : (results fn a'.tmps).run P w' = .ok (if h : vs.toArray.size = 1 then vs.toArray[0] else .tuple vs.toArray) w' := by
          unfold results
          rw [Array.mapM_eq_mapM_toList]
          simp only [Sem.run_bind]
          have : ∀ {α β : Type} (f : α → β) (x : Sem α), (Functor.map f x).run P w' = (x.run P w').andThen fun a w => .ok (f a) w := fun f x => by
            show (x.bind _).run P w' = _
            exact Sem.run_bind' P x _ w'
          rw [this]
          exact (congrArg (fun z : Result (List Value) => (z.andThen fun a w => Result.ok a.toArray w).andThen fun a w' => Sem.run P (pure (if h : a.size = 1 then a[0] else Value.tuple a)) w') v1).trans rfl
        refine ⟨_, hrun, ?_⟩
        match hvs : vs, hqs : q2 with
        | [v], [x] => rw [hvs, hqs] at v2; exact v2.2 0 x v rfl rfl
        | [], [] => exact .tup [] [] rfl (fun i c v h => by simp at h)
        | v :: v' :: vs', x :: x' :: xs' => rw [hvs, hqs] at v2; exact .tup _ _ v2.1 v2.2
        | [], x :: xs' => rw [hvs, hqs] at v2; exact absurd v2.1 (by simp)
        | [v], [] => rw [hvs, hqs] at v2; exact absurd v2.1 (by simp)
        | [v], x :: x' :: xs' => rw [hvs, hqs] at v2; exact absurd v2.1 (by simp)
        | v :: v' :: vs', [] => rw [hvs, hqs] at v2; exact absurd v2.1 (by simp)
        | v :: v' :: vs', [x] => rw [hvs, hqs] at v2; exact absurd v2.1 (by simp)
      obtain ⟨v, r1, r2⟩ := hres
      let F1 : Nat → Option Cn := fun j => if j < T1.length then F' (lat l s'.N j) else none
      have hlat : ∀ j, j < l.length → l[j]? = some (lat l s'.N j) := fun j hj => by unfold lat; rw [List.getElem?_eq_getElem hj]; rfl
      obtain ⟨t1, t2, t3⟩ := tf.sub (T' := at_ T1) (F' := F1) (ρ := lat l s'.N) (dm := fun j => j < T1.length) (fun j b hb => ⟨(List.getElem?_eq_some_iff.1 (show T1[j]? = some b from hb)).1, l5 j b hb⟩) (fun i j hi hj e => by
        have h1 := hlat i (by omega)
        have h2 := hlat j (by omega)
        rw [e] at h1
        have e1 := (List.getElem?_eq_some_iff.1 h1).2
        have e2 := (List.getElem?_eq_some_iff.1 h2).2
        exact (List.getElem_inj l2).1 (e1.trans e2.symm)) (fun j hj => if_pos hj) (fun j hj => ⟨if_neg hj, by
        unfold lat
        rw [List.getElem?_eq_none (by omega)]
        exact (h'.dom s'.N (Nat.le_refl _)).1⟩)
      refine ⟨h'.defers, v, r1, v, F1, rfl, t1, fun id hid => if_neg (by omega), ⟨fun b hb => t2 b (ef.s b (h'.ev.s b hb)), h'.ev.h, fun id c hc => ?_⟩, h'.kept, ?_⟩
      · have hlt : id < T0.length := by
          rcases Nat.lt_or_ge id T0.length with q | q
          · exact q
          · rw [hF id q] at hc; cases hc
        have e : F1 id = F' id := by
          show (if id < T1.length then _ else _) = _
          rw [if_pos (by omega)]
          unfold lat
          rw [l4 id (by omega)]; rfl
        rw [e]
        exact h'.ev.f id c hc
      · rw [l6] at r2
        exact VR.mono ⟨t2, fun _ _ => rfl, fun _ _ h => .inl h⟩ (VR.pull3 t3 l7 r2)
    · exact hr.elim
  cases e <;> cases z <;> first | exact he.elim | skip
  · exact fin hq
  · exact hq.elim
  · exact fin hq
theorem EC_of_awp [Base] {P : Program} {ti : TypeId → Option TI} (hti : TOk P ti) (hm : P.follows .mixedOrders = true) {g : FuncId} {fn : Func} {c : Code} {T0 T1 : List Blk} {xs : List AV} {r : AV} (hf : P.funcs[g]? = some fn) (hb : fn.body = some c) (hname : (fn.name == "runtime.NumGoroutine") = false) (hok : okD fn.ntmps c = true) (hx : xs.length ≤ fn.ntmps)
    (h : awp P ti c (retQ ti fn.results.toList T1 r) (start xs T0)) : EC P g T0 xs T1 r :=
  EC_of_wp hti hf hb hname hx fun B D S0 Si Fi wi F a w hFi hrel => awp_ok hti hm (M := T0.length) hFi c _ _ F a w hok hrel rfl h
end Am
end
section
namespace Am
open Go Go.RowKit
def vEq : Value → Value → Bool
  | .int k n, .int k' n' => k == k' && n == n'
  | .bool b, .bool b' => b == b'
  | .string a, .string b => a.data.toList == b.data.toList
  | .pointer none, .pointer none => true
  | .slice none 0 0, .slice none 0 0 => true
  | .map none, .map none => true
  | .nilFunc, .nilFunc => true
  | .nilIface, .nilIface => true
  | _, _ => false
theorem vEq_eq {a b : Value} (h : vEq a b = true) : a = b := by
  unfold vEq at h
  split at h
  · simp at h; rw [h.1, h.2]
  · simp at h; rw [h]
  · rename_i x y
    have h : x.data.toList = y.data.toList := by simpa using h
    obtain ⟨⟨x⟩⟩ := x
    obtain ⟨⟨y⟩⟩ := y
    have h : x = y := h
    rw [h]
  · rfl
  · rfl
  · rfl
  · rfl
  · rfl
  · cases h
def vsEq : List Value → List Value → Bool
  | [], [] => true
  | a :: l, b :: r => vEq a b && vsEq l r
  | _, _ => false
theorem vsEq_eq : ∀ {l r : List Value}, vsEq l r = true → l = r
  | [], [], _ => rfl
  | [], _ :: _, h => by cases h
  | _ :: _, [], h => by cases h
  | a :: l, b :: r, h => by
    unfold vsEq at h
    rw [Bool.and_eq_true] at h
    rw [vEq_eq h.1, vsEq_eq h.2]
def fitsL : List (Nat × TypeId) → List Field → Bool
  | [], _ => true
  | p :: l, f :: r => f.offset == p.1 && f.type == p.2 && fitsL l r
  | _ :: _, [] => false
theorem fitsL_at : ∀ {l : List (Nat × TypeId)} {r : List Field}, fitsL l r = true → ∀ (j : Nat) (p : Nat × TypeId), l[j]? = some p → ∃ fd, r[j]? = some fd ∧ fd.offset = p.1 ∧ fd.type = p.2
  | [], _, _, j, p, h => by simp at h
  | _ :: _, [], h, _, _, _ => by cases h
  | q :: l, f :: r, h, j, p, hp => by
    unfold fitsL at h
    simp only [Bool.and_eq_true, beq_iff_eq] at h
    cases j with
    | zero => simp at hp; subst hp; exact ⟨f, rfl, h.1.1, h.1.2⟩
    | succ j => simp at hp; obtain ⟨fd, a, b⟩ := fitsL_at h.2 j p hp; exact ⟨fd, by simpa using a, b⟩
def fitsB : KD → TypeDesc → Bool
  | .int k, .int k' => k == k'
  | .bool, .bool => true
  | .string, .string => true
  | .slice e, .slice e' => e == e'
  | .array n e, .array n' e' => n == n' && e == e'
  | .struct fs, .struct Fq => fitsL fs Fq.toList
  | .other, d => !rowish d
  | _, _ => false
theorem fitsB_ok {k : KD} {d : TypeDesc} (h : fitsB k d = true) : k.fits d := by
  unfold fitsB at h
  split at h
  · rename_i k k'
    have h : k = k' := by simpa using h
    rw [h]; rfl
  · rfl
  · rfl
  · rename_i k k'
    have h : k = k' := by simpa using h
    rw [h]; rfl
  · simp at h
    rw [h.1, h.2]; rfl
  · rename_i fs Fq
    exact ⟨Fq, rfl, fun j p hp => by
      obtain ⟨fd, a, b⟩ := fitsL_at h j p hp
      exact ⟨fd, by simpa using a, b⟩⟩
  · show rowish _ = false
    simpa using h
  · cases h
def chkTI (P : Program) (t : TypeId) (i : TI) : Bool := match P.info? t, P.underlying t with
  | some info, some d => info.size == i.size && info.bytes == i.bytes && fitsB i.desc d && (match info.zero with | some z => vsEq z.cells.toList i.zero | none => false) && i.zero.length == i.size && (i.isAgg || i.size == 1) && i.zero.all (·.oneCell') && decide (0 < i.size) &&
      (match d with | .struct fs => (fs.toList.mapM fun f => (P.info? f.type).map fun i => (f.offset, i.size)).isSome | _ => true)
  | _, _ => false
theorem TOk.of_list {P : Program} {l : List (Nat × TI)} (h : (l.all fun p => chkTI P p.1 p.2) = true) : TOk P (look l) := ⟨fun t i ht => by
  have h1 := List.all_eq_true.1 h _ (look_mem ht)
  unfold chkTI at h1
  simp only at h1
  split at h1
  · rename_i info d hi hd
    simp only [Bool.and_eq_true, beq_iff_eq, Bool.or_eq_true, decide_eq_true_eq] at h1
    obtain ⟨⟨⟨⟨⟨⟨⟨⟨a1, a2⟩, a3⟩, a4⟩, a5⟩, a6⟩, a7⟩, a8⟩, a9⟩ := h1
    split at a4
    · rename_i z hz
      refine ⟨info, z, d, hi, a1, a2, hd, fitsB_ok a3, hz, vsEq_eq a4, a5, fun hA => ?_, List.all_eq_true.1 a7, a8, fun fs e => ?_⟩
      · rcases a6 with q | q
        · rw [hA] at q; cases q
        · exact q
      · subst e; exact a9
    · cases a4
  · cases h1⟩
end Am
end
section
namespace Am
open Go Go.RowKit
theorem wrap_ok {n : Int} (h : -9223372036854775808 ≤ n) (h2 : n < 9223372036854775808) : IntKind.i64.wrap n = n := by rw [IntKind.wrap_i64]; omega
theorem allOne_nil : allOne [] = True := eq_true fun x h => by cases h
theorem allOne_cons (x : AV) (l : List AV) : allOne (x :: l) = (x.one = true ∧ allOne l) := propext ⟨fun h => ⟨h x (by simp), fun y hy => h y (by simp [hy])⟩, fun h y hy => by
  rcases List.mem_cons.1 hy with rfl | q
  · exact h.1
  · exact h.2 y q⟩
abbrev iv (n : Int) : AV := .v (.int .i64 n)
abbrev bv (b : Bool) : AV := .v (.bool b)
section
variable [Base] {P : Program} {ti : TypeId → Option TI} {a b c : Code} {Q : Ex → AS → Prop} {s : AS} {id : Nat} {ops : Array Oper} {l : List Oper} {o : Operand}
theorem zqA (h : ∀ K : AS → Prop, (∀ s, awp P ti b Q s → K s) → awp P ti a (Ex.then K Q) s) : awp P ti (.seq a b) Q s := h _ fun _ h => h
theorem zqB (h : awp P ti c (Ex.inB id Q) s) : awp P ti (.block id c) Q s := h
theorem zqM (h : ∀ K : AS → Prop, (∀ s, Q .normal s → K s) → alist P ti l.toArray K l 0 s) : awp P ti (.region id l.toArray false) Q s := h _ fun _ h => h
theorem zqN (h : ∀ K : AS → Prop, (∀ s, Q .normal s → K s) → adraw P ti l.toArray K l 0 [] s) : awp P ti (.region id l.toArray true) Q s := h _ fun _ h => h
theorem zqO {x : Bool} (hc : s.ev o = .v (.bool x)) (h1 : x = true → awp P ti a Q s) (h2 : x = false → awp P ti b Q s) : awp P ti (.cond o a b) Q s := by
  unfold awp
  rw [hc]
  exact ⟨h1, h2⟩
theorem zqC (h : Q .normal s) : awp P ti .skip Q s := h
theorem zqD (h : Q .ret s) : awp P ti .ret Q s := h
theorem zqE (h : Q (.exit id) s) : awp P ti (.exit id) Q s := h
 inductive Turns [Base] {ι : Type} (I : ι → AS) (μ : ι → Nat) (i : ι) (K : AS → Prop) : Prop
  | mk (h : ∀ s' j, μ j < μ i → Weak s' (I j) → K s')
theorem Turns.go {ι : Type} {I : ι → AS} {μ : ι → Nat} {i : ι} {K : AS → Prop} (h : Turns I μ i K) (j : ι) (hj : μ j < μ i) (hw : Weak s (I j)) : K s := by
  obtain ⟨h⟩ := h
  exact h s j hj hw
theorem awp_loop_k {ι : Type} (I : ι → AS) (μ : ι → Nat) (i : ι) (h0 : Weak s (I i)) (h : ∀ i, ∀ K : AS → Prop, Turns I μ i K → awp P ti c (Ex.then K Q) (I i)) : awp P ti (.loop c) Q s :=
  ⟨ι, I, μ, i, h0, fun i => h i _ ⟨fun _ j hj hw => ⟨j, hj, hw⟩⟩⟩
theorem zqF {K : AS → Prop} (h : K s) : Ex.then K Q .normal s := h
theorem zqG {K : AS → Prop} {i : Nat} (h : Q (.exit i) s) : Ex.then K Q (.exit i) s := h
theorem zqH {K : AS → Prop} (h : Q .ret s) : Ex.then K Q .ret s := h
theorem zqI (h : Q .normal s) : Ex.inB id Q .normal s := h
theorem zqJ (h : Q .ret s) : Ex.inB id Q .ret s := h
theorem zqK (h : Q .normal s) : Ex.inB id Q (.exit id) s := by show if id = id then _ else _; rw [if_pos rfl]; exact h
theorem zqL {j : Nat} (hj : j ≠ id) (h : Q (.exit j) s) : Ex.inB id Q (.exit j) s := by show if j = id then _ else _; rw [if_neg hj]; exact h
theorem frzA_nil (T : Nat → Option Blk) : frzA T [] = _root_.id := funext fun x => by cases x <;> simp [frzA]
theorem frzB_nil (T : Nat → Option Blk) : frzB T [] = _root_.id := funext fun x => by cases x <;> simp [frzB, frzA_nil]
theorem ret_pure {rs : List ResultVar} {r : AV} {p : Prop} {vs : List AV} (h : resAll ti s rs = some (p, vs)) (hM : s.M = 0) (hp : p) (hr : oneOr vs = r) (h2 : r.ren (lat [] s.N) = r) (h3 : r.ok3 = true) : RetOk ti rs [] r s := by
  unfold RetOk
  rw [h]
  exact ⟨hp, [], [], trivial, rfl, List.nodup_nil, by rw [hM]; exact Nat.le_refl _, fun j hj => by rw [hM] at hj; omega, fun j b hj => by simp at hj, by rw [h2, frzB_nil, List.map_id]; exact hr, h3⟩
theorem ret_frz (fz : List Nat) {rs : List ResultVar} {r : AV} {p : Prop} {vs : List AV} (h : resAll ti s rs = some (p, vs)) (hM : s.M = 0) (hf : frzOk fz (look s.T)) (hp : p) (hr : oneOr (vs.map (frzB (ov (frzT fz (look s.T)) (look s.T)) fz)) = r) (h2 : r.ren (lat [] s.N) = r) (h3 : r.ok3 = true) : RetOk ti rs [] r s := by
  unfold RetOk
  rw [h]
  exact ⟨hp, fz, [], hf, rfl, List.nodup_nil, by rw [hM]; exact Nat.le_refl _, fun j hj => by rw [hM] at hj; omega, fun j b hj => by simp at hj, by rw [h2]; exact hr, h3⟩
def frz1 (id : Nat) (els : List (List AV)) : AV → AV
  | .own j ix n => if j = id then if ix + n ≤ els.length then .sl ((els.drop ix).take n) else .any else .own j ix n
  | x => x
def frz2 (id : Nat) (els : List (List AV)) : AV → AV
  | .agg cs => .agg (cs.map (frz1 id els))
  | .fn f a b => .fn f (a.map (frz1 id els)) (b.map (frz1 id els))
  | x => frz1 id els x
theorem frzA_one {T : Nat → Option Blk} {id : Nat} {b : Blk} (hT : aliveB T id = some b) : frzA T [id] = frz1 id b.els := funext fun x => by
  cases x <;> simp only [frzA, frz1, List.mem_singleton]
  rename_i j ix n
  by_cases e : j = id
  · subst e
    rw [if_pos rfl, if_pos rfl, hT]
  · rw [if_neg e, if_neg e]
theorem frzB_one {T : Nat → Option Blk} {id : Nat} {b : Blk} (hT : aliveB T id = some b) : frzB T [id] = frz2 id b.els := funext fun x => by
  cases x <;> simp only [frzB, frz2, frzA_one hT]
theorem ret_frz1 (j : Nat) (b : Blk) {rs : List ResultVar} {r : AV} {p : Prop} {vs : List AV} (h : resAll ti s rs = some (p, vs)) (hM : s.M = 0) (hj : look s.T j = some b) (hl : b.st = .live) (hc : ∀ row ∈ b.els, row.all (·.clo) = true) (hp : p) (hr : oneOr (vs.map (frz2 j b.els)) = r) (h2 : ∀ ρ, r.ren ρ = r) (h3 : r.ok3 = true) : RetOk ti rs [] r s := by
  have e : frzT [j] (look s.T) = [(j, { b with st := .frozen })] := by unfold frzT; rw [hj]; rfl
  refine ret_frz [j] h hM ?_ hp ?_ (h2 _) h3
  · unfold frzOk; rw [hj]; exact ⟨hl, hc, trivial⟩
  · rw [e, frzB_one (b := { b with st := .frozen }) (by unfold aliveB ov look; rw [if_pos rfl]; rfl)]; exact hr
theorem CallEff.pure {T : Nat → Option Blk} {nw : Nat} {g : FuncId} {xs : List AV} {T1 : List Blk} {r : AV} (h : EC P g [] xs T1 r) (h1 : T1.length ≤ 16) (h2 : xs.map (·.ren2 (rho [] nw)) = xs) (h3 : xs.all (·.ok2) = true) :
    CallEff P T nw g xs [] ⟨True, r.ren (rho [] nw), updC [] nw T1⟩ :=
  ⟨[], [], [], xs, T1, r, trivial, h, rfl, List.nodup_nil, Nat.zero_le _, by simpa using h1, fun j b hj => by simp at hj, by show xs.map (frzB T []) = _; rw [frzB_nil, List.map_id, h2], h3, rfl, by simp [frzT]⟩
theorem CallEff.pure0 {T : Nat → Option Blk} {nw : Nat} {g : FuncId} {xs : List AV} {r : AV} (h : EC P g [] xs [] r) (h2 : xs.map (·.ren2 (rho [] nw)) = xs) (h3 : xs.all (·.ok2) = true) (h5 : r.ren (rho [] nw) = r) : CallEff P T nw g xs [] ⟨True, r, []⟩ := by
  have := CallEff.pure (T := T) h (Nat.zero_le _) h2 h3
  rw [h5] at this
  exact this
theorem CallEff.frz1 (j : Nat) (b : Blk) {T : Nat → Option Blk} {nw : Nat} {g : FuncId} {xs xs0 : List AV} {r : AV} (hj : T j = some b) (hl : b.st = .live) (hc : ∀ row ∈ b.els, row.all (·.clo) = true) (h : EC P g [] xs0 [] r) (hx : xs.map (frz2 j b.els) = xs0) (h2 : xs0.map (·.ren2 (rho [] nw)) = xs0) (h3 : xs0.all (·.ok2) = true) (h5 : r.ren (rho [] nw) = r) :
    CallEff P T nw g xs [j] ⟨True, r, [(j, { b with st := .frozen })]⟩ := by
  have e : frzT [j] T = [(j, { b with st := .frozen })] := by unfold frzT; rw [hj]; rfl
  refine ⟨[j], [], [], xs0, [], r, ?_, h, rfl, List.nodup_nil, Nat.le_refl _, Nat.zero_le _, fun i b hi => by simp at hi, ?_, h3, rfl, ?_⟩
  · unfold frzOk; rw [hj]; exact ⟨hl, hc, trivial⟩
  · rw [e, frzB_one (b := { b with st := .frozen }) (by unfold aliveB ov look; rw [if_pos rfl]; rfl), h2]; exact hx
  · rw [e, h5]; rfl
end
end Am
end
end Go.Proofs.Ytcgdhankllphgaa
