import Derived.Test.YtcgdhankllphgaaRA2
import Derived.Deep.AppendSrc
namespace Go.Proofs.Ytcgdhankllphgaa
set_option linter.unusedVariables false
set_option linter.unusedSimpArgs false
set_option linter.unusedSectionVars false
section
namespace Am
open Go Go.RowKit
section
variable [Base] {P : Program} {ti : TypeId → Option TI} {B : Nat} {D S0 : Nat → Prop} {T : Nat → Option Blk} {F : Nat → Option Cn} {w : World} {nw : Nat}
theorem ov_one {id : Nat} {bk : Blk} {j : Nat} {x : Blk} (h : ov [(id, bk)] T j = some x) : (j = id ∧ x = bk) ∨ (j ≠ id ∧ T j = some x) := by
  unfold ov look at h
  by_cases e : id = j
  · rw [if_pos e] at h; cases h; exact .inl ⟨e.symm, rfl⟩
  · rw [if_neg e] at h; exact .inr ⟨fun q => e q.symm, h⟩
theorem ov_cons (x : Nat × Blk) (r : List (Nat × Blk)) : ov (x :: r) T = ov [x] (ov r T) := funext fun id => by
  obtain ⟨j, b⟩ := x
  unfold ov
  simp only [look]
  by_cases e : j = id
  · rw [if_pos e, if_pos e]; rfl
  · rw [if_neg e, if_neg e]; rfl
theorem TabR.kill (h : TabR B D S0 T F w) {id : Nat} {b : Blk} (hT : T id = some b) :
    let F' := fun j => if j = id then some Cn.dead else F j
    let T' := ov [(id, { b with st := .dead })] T
    TabR B D S0 T' F' w ∧ Ev (stab B D S0 T F w) F w (stab B D S0 T' F' w) F' w := by
  intro F' T'
  obtain ⟨c0, hc0, -⟩ := h.cov id b hT
  have ev : Ev (stab B D S0 T F w) F w (stab B D S0 T' F' w) F' w := by
    refine ⟨fun g hg => ⟨hg.1, hg.2.1, fun j x cap k hx hl hF => ?_⟩, fun _ _ => rfl, fun j c hc => ?_⟩
    · rcases ov_one hx with ⟨rfl, rfl⟩ | ⟨hne, hx⟩
      · cases hl
      · have hF : (if j = id then some Cn.dead else F j) = _ := hF
        rw [if_neg hne] at hF
        exact hg.2.2 j x cap k hx hl hF
    · by_cases e : j = id
      · exact .inr (if_pos e)
      · exact .inl ((if_neg e).trans hc)
  refine ⟨⟨fun j x hx => ?_, fun j j' x x' g c k c' k' hx hx' hl hl' hg hg' => ?_, h.sh, h.big, h.laid⟩, ev⟩
  · rcases ov_one hx with ⟨rfl, rfl⟩ | ⟨hne, hx⟩
    · exact ⟨.dead, if_pos rfl, fun hd => absurd rfl hd⟩
    · obtain ⟨c, q1, q2⟩ := h.cov j x hx
      exact ⟨c, (if_neg hne).trans q1, fun hd => BlkR.mono ev (fun _ _ _ _ => rfl) (q2 hd)⟩
  · rcases ov_one hx with ⟨rfl, rfl⟩ | ⟨hne, hx⟩
    · cases hl
    · rcases ov_one hx' with ⟨rfl, rfl⟩ | ⟨hne', hx'⟩
      · cases hl'
      · have hg : (if j = id then some Cn.dead else F j) = _ := hg
        have hg' : (if j' = id then some Cn.dead else F j') = _ := hg'
        rw [if_neg hne] at hg
        rw [if_neg hne'] at hg'
        exact h.inj j j' x x' g c k c' k' hx hx' hl hl' hg hg'
theorem TabR.transfer (h : TabR B D S0 T F w) {id : Nat} {b : Blk} {c0 : Cn} (hT : T id = some b) (hl0 : b.st = .live) (hF0 : F id = some c0) (hN : T nw = none) (hF : F nw = none) :
    let F' := fun j => if j = nw then some c0 else if j = id then some Cn.dead else F j
    let T' := ov [(nw, b), (id, { b with st := .dead })] T
    TabR B D S0 T' F' w ∧ Ev (stab B D S0 T F w) F w (stab B D S0 T' F' w) F' w := by
  intro F' T'
  have hne0 : id ≠ nw := fun e => by subst e; rw [hT] at hN; cases hN
  have hTx : ∀ j x, T' j = some x → (j = nw ∧ x = b) ∨ (j = id ∧ x.st = .dead) ∨ (j ≠ nw ∧ j ≠ id ∧ T j = some x) := fun j x hx => by
    have hx : ov [(nw, b), (id, { b with st := .dead })] T j = some x := hx
    rw [ov_cons] at hx
    rcases ov_one hx with ⟨rfl, rfl⟩ | ⟨h1, hx⟩
    · exact .inl ⟨rfl, rfl⟩
    · rcases ov_one hx with ⟨rfl, rfl⟩ | ⟨h2, hx⟩
      · exact .inr (.inl ⟨rfl, rfl⟩)
      · exact .inr (.inr ⟨h1, h2, hx⟩)
  have hFo : ∀ j, j ≠ nw → j ≠ id → F' j = F j := fun j h1 h2 => by
    show (if j = nw then _ else if j = id then _ else F j) = _
    rw [if_neg h1, if_neg h2]
  have hFn : F' nw = some c0 := if_pos rfl
  have ev : Ev (stab B D S0 T F w) F w (stab B D S0 T' F' w) F' w := by
    refine ⟨fun g hg => ⟨hg.1, hg.2.1, fun j x cap k hx hl hFj => ?_⟩, fun _ _ => rfl, fun j c hc => ?_⟩
    · rcases hTx j x hx with ⟨rfl, rfl⟩ | ⟨-, hd⟩ | ⟨h1, h2, hx⟩
      · rw [hFn] at hFj
        exact hg.2.2 id x cap k hT hl0 (hF0.trans hFj)
      · rw [hd] at hl; cases hl
      · rw [hFo j h1 h2] at hFj
        exact hg.2.2 j x cap k hx hl hFj
    · by_cases e : j = nw
      · subst e; rw [hF] at hc; cases hc
      · by_cases e2 : j = id
        · exact .inr (by show (if j = nw then _ else if j = id then _ else F j) = _; rw [if_neg e, if_pos e2])
        · exact .inl ((hFo j e e2).trans hc)
  refine ⟨⟨fun j x hx => ?_, fun j j' x x' g c k c' k' hx hx' hl hl' hg hg' => ?_, h.sh, h.big, h.laid⟩, ev⟩
  · rcases hTx j x hx with ⟨rfl, rfl⟩ | ⟨rfl, hd⟩ | ⟨h1, h2, hx⟩
    · obtain ⟨c, q1, q2⟩ := h.cov id x hT
      rw [hF0] at q1
      cases q1
      exact ⟨c0, hFn, fun hd => BlkR.mono ev (fun _ _ _ _ => rfl) (q2 hd)⟩
    · exact ⟨.dead, by show (if j = nw then _ else if j = j then _ else F j) = _; rw [if_neg hne0, if_pos rfl], fun hd' => absurd hd hd'⟩
    · obtain ⟨c, q1, q2⟩ := h.cov j x hx
      exact ⟨c, (hFo j h1 h2).trans q1, fun hd => BlkR.mono ev (fun _ _ _ _ => rfl) (q2 hd)⟩
  · rcases hTx j x hx with ⟨e1, e1'⟩ | ⟨-, hd⟩ | ⟨h1, h2, hxo⟩
    · rcases hTx j' x' hx' with ⟨e2, -⟩ | ⟨-, hd⟩ | ⟨h3, h4, hxo'⟩
      · exact e1.trans e2.symm
      · rw [hd] at hl'; cases hl'
      · rw [e1, hFn] at hg
        rw [hFo j' h3 h4] at hg'
        exact absurd (h.inj id j' b x' g c k c' k' hT hxo' hl0 hl' (hF0.trans hg) hg') (Ne.symm h4)
    · rw [hd] at hl; cases hl
    · rcases hTx j' x' hx' with ⟨e2, -⟩ | ⟨-, hd⟩ | ⟨h3, h4, hxo'⟩
      · rw [e2, hFn] at hg'
        rw [hFo j h1 h2] at hg
        exact absurd (h.inj j id x b g c k c' k' hxo hT hl hl0 hg (hF0.trans hg')) h2
      · rw [hd] at hl'; cases hl'
      · rw [hFo j h1 h2] at hg
        rw [hFo j' h3 h4] at hg'
        exact h.inj j j' x x' g c k c' k' hxo hxo' hl hl' hg hg'
theorem TabR.newNil (h : TabR B D S0 T F w) (hN : T nw = none) (hF : F nw = none) {bk : Blk} (h1 : bk.row = true) (h2 : bk.els = []) :
    let F' := fun j => if j = nw then some Cn.nil else F j
    let T' := ov [(nw, bk)] T
    TabR B D S0 T' F' w ∧ Ev (stab B D S0 T F w) F w (stab B D S0 T' F' w) F' w := by
  intro F' T'
  have hFo : ∀ j, j ≠ nw → F' j = F j := fun j h => if_neg h
  have hFn : F' nw = some .nil := if_pos rfl
  have ev : Ev (stab B D S0 T F w) F w (stab B D S0 T' F' w) F' w := by
    refine ⟨fun g hg => ⟨hg.1, hg.2.1, fun j x cap k hx hl hFj => ?_⟩, fun _ _ => rfl, fun j c hc => .inl ((hFo j (fun e => by subst e; rw [hF] at hc; cases hc)).trans hc)⟩
    rcases ov_one hx with ⟨rfl, rfl⟩ | ⟨hne, hx⟩
    · rw [hFn] at hFj; cases hFj
    · rw [hFo j hne] at hFj; exact hg.2.2 j x cap k hx hl hFj
  refine ⟨⟨fun j x hx => ?_, fun j j' x x' g c k c' k' hx hx' hl hl' hg hg' => ?_, h.sh, h.big, h.laid⟩, ev⟩
  · rcases ov_one hx with ⟨rfl, rfl⟩ | ⟨hne, hx⟩
    · exact ⟨.nil, hFn, fun _ => ⟨h1, h2⟩⟩
    · obtain ⟨c, q1, q2⟩ := h.cov j x hx
      exact ⟨c, (hFo j hne).trans q1, fun hd => BlkR.mono ev (fun _ _ _ _ => rfl) (q2 hd)⟩
  · rcases ov_one hx with ⟨e, -⟩ | ⟨hne, hxo⟩
    · rw [e, hFn] at hg; cases hg
    · rcases ov_one hx' with ⟨e, -⟩ | ⟨hne', hxo'⟩
      · rw [e, hFn] at hg'; cases hg'
      · rw [hFo j hne] at hg
        rw [hFo j' hne'] at hg'
        exact h.inj j j' x x' g c k c' k' hxo hxo' hl hl' hg hg'
def ER (S : Nat → Prop) (F : Nat → Option Cn) (w : World) (k : Nat) (els : List (List AV)) (vs : List Value) : Prop :=
  vs.length = els.length * k ∧ (∀ (i : Nat) (row : List AV), els[i]? = some row → row.length = k) ∧ ∀ (i j : Nat) (row : List AV) (c : AV), els[i]? = some row → row[j]? = some c → ∃ v : Value, vs[i * k + j]? = some v ∧ VR S F w c v
theorem ER.append {S : Nat → Prop} {k : Nat} {es fs : List (List AV)} {vs us : List Value} (h : ER S F w k es vs) (g : ER S F w k fs us) : ER S F w k (es ++ fs) (vs ++ us) := by
  have hsp : ∀ (i : Nat) (row : List AV), (es ++ fs)[i]? = some row → (i < es.length ∧ es[i]? = some row) ∨ (es.length ≤ i ∧ fs[i - es.length]? = some row) := fun i row hi => by
    rcases Nat.lt_or_ge i es.length with q | q
    · rw [List.getElem?_append_left q] at hi; exact .inl ⟨q, hi⟩
    · rw [List.getElem?_append_right q] at hi; exact .inr ⟨q, hi⟩
  refine ⟨by simp [h.1, g.1, Nat.add_mul], fun i row hi => ?_, fun i j row c hi hj => ?_⟩
  · rcases hsp i row hi with ⟨_, q⟩ | ⟨_, q⟩
    · exact h.2.1 i row q
    · exact g.2.1 _ row q
  · rcases hsp i row hi with ⟨q0, q⟩ | ⟨q0, q⟩
    · obtain ⟨v, v1, v2⟩ := h.2.2 i j row c q hj
      exact ⟨v, by rw [List.getElem?_append_left (List.getElem?_eq_some_iff.1 v1).1]; exact v1, v2⟩
    · obtain ⟨v, v1, v2⟩ := g.2.2 _ j row c q hj
      have hm : es.length * k ≤ i * k := Nat.mul_le_mul_right _ q0
      refine ⟨v, ?_, v2⟩
      rw [List.getElem?_append_right (by rw [h.1]; omega), h.1]
      rw [Nat.sub_mul] at v1
      rw [show i * k + j - es.length * k = i * k - es.length * k + j by omega]
      exact v1
theorem ER.mono {S S' : Nat → Prop} {F' : Nat → Option Cn} {w' : World} {k : Nat} {es : List (List AV)} {vs : List Value} (e : Ev S F w S' F' w') (h : ER S F w k es vs) : ER S' F' w' k es vs :=
  ⟨h.1, h.2.1, fun i j row c a b => let ⟨v, v1, v2⟩ := h.2.2 i j row c a b; ⟨v, v1, v2.mono e⟩⟩
theorem src_ok (hT : TabR B D S0 T F w) {x : AV} {vx : Value} (hx : VR (stab B D S0 T F w) F w x vx) {xs : List (List AV)} (h : elsOf T x = some xs) {k : Nat} (hk0 : 0 < k) (hk : ∀ r ∈ xs, r.length = k ∧ allOne r) {tx e' : TypeId} (htx : P.underlying tx = some (.slice e')) :
    ∃ news, Src P k tx vx xs.length news w ∧ ER (stab B D S0 T F w) F w k xs news := by
  have hkr : ∀ (i : Nat) (row : List AV), xs[i]? = some row → row.length = k := fun i row hi => (hk row (List.mem_of_getElem? hi)).1
  have fin : ∀ (a : Option Addr) (c : Nat) (f : Nat → Value), vx = .slice a xs.length c → (xs.length ≠ 0 → ∃ A, a = some A ∧ ∀ n, n < xs.length * k → w.cell? (A.add n) = some (f n)) →
      (∀ (i j : Nat) (row : List AV) (c : AV), xs[i]? = some row → row[j]? = some c → VR (stab B D S0 T F w) F w c (f (i * k + j))) → ∃ news, Src P k tx vx xs.length news w ∧ ER (stab B D S0 T F w) F w k xs news := fun a c f e hc hv => by
    subst e
    have er : ER (stab B D S0 T F w) F w k xs ((List.range (xs.length * k)).map f) := ⟨by simp, hkr, fun i j row c hi hj => by
      have hi2 := (List.getElem?_eq_some_iff.1 hi).1
      have hj2 := (List.getElem?_eq_some_iff.1 hj).1
      rw [hkr i row hi] at hj2
      have : (i + 1) * k ≤ xs.length * k := Nat.mul_le_mul_right _ hi2
      rw [Nat.add_mul] at this
      exact ⟨f (i * k + j), by rw [List.getElem?_map, List.getElem?_range (by omega)]; rfl, hv i j row c hi hj⟩⟩
    refine ⟨_, ?_, er⟩
    by_cases h0 : xs.length = 0
    · rw [h0]
      simp only [Nat.zero_mul, List.range_zero, List.map_nil]
      cases a with
      | none => exact Src.ofNil w htx c
      | some A => exact Src.ofSlice w htx A 0 c [] (by simp) (fun j u hu => by simp at hu) (fun u hu => by cases hu)
    · obtain ⟨A, rfl, hA⟩ := hc h0
      refine Src.ofSlice w htx A _ c _ (by simp) (fun j u hu => ?_) (fun u hu => ?_)
      · rw [List.getElem?_map] at hu
        cases hr : (List.range (xs.length * k))[j]? with
        | none => rw [hr] at hu; cases hu
        | some m =>
          rw [hr] at hu
          obtain ⟨h3, h4⟩ := List.getElem?_eq_some_iff.1 hr
          simp at h3 h4
          subst h4
          cases hu
          exact hA j h3
      · obtain ⟨n, hn, rfl⟩ := List.mem_map.1 hu
        have hn := List.mem_range.1 hn
        have hi : n / k < xs.length := (Nat.div_lt_iff_lt_mul hk0).2 hn
        have hrow := List.getElem?_eq_getElem hi
        have hj : n % k < (xs[n / k]).length := by rw [hkr _ _ hrow]; exact Nat.mod_lt _ hk0
        have := hv (n / k) (n % k) _ _ hrow (List.getElem?_eq_getElem hj)
        rw [Nat.div_add_mod' n k] at this
        exact one_of this ((hk _ (List.getElem_mem hi)).2 _ (List.getElem_mem hj))
  unfold elsOf at h
  split at h
  · cases h
    cases hx with
    | sl _ a n cap kk b o f hn hc hk2 h1 h2 =>
      subst hn
      refine fin a cap (fun m => f (m / k) (m % k)) rfl (fun h0 => ?_) (fun i j row c hi hj => ?_)
      · have hrow0 := List.getElem?_eq_getElem (Nat.pos_of_ne_zero h0)
        have hl0 : (xs[0]'(Nat.pos_of_ne_zero h0)).length = k := hkr _ _ hrow0
        have hkk : kk = k := by rw [← hk2 _ _ hrow0, hl0]
        subst hkk
        have ha := (h1 0 0 _ _ hrow0 (List.getElem?_eq_getElem (by omega))).1
        refine ⟨_, ha, fun n hn => ?_⟩
        have hi : n / kk < xs.length := (Nat.div_lt_iff_lt_mul hk0).2 hn
        have hrow := List.getElem?_eq_getElem hi
        have hj : n % kk < (xs[n / kk]).length := by rw [hkr _ _ hrow]; exact Nat.mod_lt _ hk0
        have := (h1 _ _ _ _ hrow (List.getElem?_eq_getElem hj)).2.2
        rw [Nat.div_add_mod' n kk] at this
        rw [addr_add]
        exact this
      · have hj2 := (List.getElem?_eq_some_iff.1 hj).1
        rw [hkr i row hi] at hj2
        have e1 : (i * k + j) / k = i := by rw [Nat.mul_comm, Nat.mul_add_div hk0, Nat.div_eq_of_lt hj2, Nat.add_zero]
        have e2 : (i * k + j) % k = j := by rw [Nat.mul_comm, Nat.mul_add_mod, Nat.mod_eq_of_lt hj2]
        simp only [e1, e2]
        exact VR.any_F (h2 i j row c hi hj)
  · cases h
    have hx := hx.v_eq
    exact fin none 0 (fun _ => undef) hx (fun h0 => absurd rfl h0) (fun i j row c hi hj => by simp at hi)
  · rename_i id ix n
    split at h
    · rename_i b hb
      split at h
      · rename_i hle
        cases h
        have hlen : ((b.els.drop ix).take n).length = n := by simp; omega
        have hat : ∀ (i : Nat) (row : List AV), ((b.els.drop ix).take n)[i]? = some row → b.els[ix + i]? = some row ∧ i < n := fun i row hi => by
          rw [List.getElem?_take] at hi
          split at hi
          · rw [List.getElem?_drop] at hi; exact ⟨hi, ‹_›⟩
          · cases hi
        rcases hT.own hb hx with ⟨g, cap, oo, hF, rfl, hn, hoo, -, cur, b1, b2, b3, b4, b4b, b5, b6, b7, b8⟩ | ⟨hF, rfl, rfl, rfl, -⟩
        · refine fin _ _ (fun m => cur.getD (ix * k + m) undef) (by rw [hlen]) (fun h0 => ?_) (fun i j row c hi hj => ?_)
          · rw [hlen] at h0
            have hbk : b.k = k := by
              have hr0 : ((b.els.drop ix).take n)[0]? = some (((b.els.drop ix).take n)[0]'(by omega)) := List.getElem?_eq_getElem _
              rw [← hkr 0 _ hr0, b5 _ _ (hat 0 _ hr0).1]
            refine ⟨_, rfl, fun m hm => ?_⟩
            rw [hlen] at hm
            rw [addr_add, hoo (by omega), hbk, cell_of_row w g _ cur b.e (0, 0) b1]
            have : (ix + n) * k ≤ cap * k := Nat.mul_le_mul_right _ hn
            rw [Nat.add_mul] at this
            rw [hbk] at b2
            simp [Array.getD, show ix * k + m < cur.size by omega]
          · obtain ⟨hi1, hi2⟩ := hat i row hi
            obtain ⟨v, v1, v2⟩ := b6 _ j row c hi1 hj
            have hbk : b.k = k := by rw [← hkr i _ hi, b5 _ _ hi1]
            rw [hbk] at v1
            have : cur.getD (ix * k + (i * k + j)) undef = v := by
              rw [show ix * k + (i * k + j) = (ix + i) * k + j by rw [Nat.add_mul]; omega]
              simp [v1]
            rw [this]
            exact v2
        · exact fin none 0 (fun _ => undef) (by simp) (fun h0 => absurd (by simp) h0) (fun i j row c hi hj => by simp at hi)
      · cases h
    · cases h
  · cases h
end
end Am
end
section
namespace Am
open Go Go.RowKit
section
variable [Base] {P : Program} {ti : TypeId → Option TI} {B : Nat} {D S0 : Nat → Prop} {T : Nat → Option Blk} {F : Nat → Option Cn} {w : World} {nw : Nat}
theorem TabR.drew (h : TabR B D S0 T F w) : TabR B D S0 T F w.drew ∧ Ev (stab B D S0 T F w) F w (stab B D S0 T F w.drew) F w.drew := by
  have ev : Ev (stab B D S0 T F w) F w (stab B D S0 T F w.drew) F w.drew := ⟨fun _ h => h, fun _ _ => rfl, fun _ _ h => .inl h⟩
  exact ⟨⟨fun id b hb => let ⟨c, q1, q2⟩ := h.cov id b hb; ⟨c, q1, fun hd => BlkR.mono ev (fun _ _ _ _ => rfl) (q2 hd)⟩, h.inj, h.sh, h.big, h.laid⟩, ev⟩
theorem Kept.drew {w w' : World} (h : Kept B D w.drew w') : Kept B D w w' := ⟨h.os, h.tape, h.output, h.size, h.block⟩
theorem grow_new (hT : TabR B D S0 T F w) (hN : T nw = none) (hF : F nw = none) {el : TypeId} {k : Nat} {els : List (List AV)} {vals : List Value} (he : ER (stab B D S0 T F w) F w k els vals) {z : Array Value} (hz : z.size = k) {cap : Nat} (hc : els.length ≤ cap) (hm : cap ≤ maxLen) {n : Nat} (hn : n = els.length) {o : Prop} :
    ∃ F', Did B D S0 T F w nw ⟨o, .own nw 0 n, [(nw, ⟨.live, true, el, k, els⟩)]⟩ (.slice (some ⟨w.heap.size, 0, none⟩) n cap) F' (w.drew.alloc (.cells (vals.toArray ++ Builtin.zeroCells z (cap - els.length)) el)) := by
  obtain ⟨hT2, ev⟩ := hT.drew
  have he2 := he.mono ev
  have hsz : (vals.toArray ++ Builtin.zeroCells z (cap - els.length)).size = cap * k := by
    rw [Array.size_append, List.size_toArray, size_zeroCells, hz, he.1, ← Nat.add_mul, Nat.add_sub_cancel' hc]
  obtain ⟨F', d⟩ := new_row (w := w.drew) (o := o) (t := el) hT2 hN hF (k := k) (n := n) (cap := cap) (els := els) (vs := vals.toArray ++ Builtin.zeroCells z (cap - els.length)) hn hsz hc hm he2.2.1 (fun i j row c hi hj => by
    obtain ⟨v, v1, v2⟩ := he2.2.2 i j row c hi hj
    refine ⟨v, ?_, v2⟩
    have hlt := (List.getElem?_eq_some_iff.1 v1).1
    rw [Array.getElem?_append, List.size_toArray, if_pos hlt]
    simpa using v1)
  exact ⟨F', d.tab, ev.trans d.ev, d.kept.drew, d.val, d.dom⟩
theorem app_nil (hT : TabR B D S0 T F w) (hN : T nw = none) (hF : F nw = none) {t tx ty el : TypeId} {k : TI} (hti : TOk P ti) (hk : ti el = some k) (hu : P.underlying t = some (.slice el)) {xs : List (List AV)} {news : List Value} {vx : Value} (hs : Src P k.size tx vx xs.length news w) (he : ER (stab B D S0 T F w) F w k.size xs news)
    (h63 : xs.length ≤ 9223372036854775807) (hb : xs.length * k.bytes ≤ 140737488355328) {o : Prop} :
    ∃ r F' w', (Builtin.append_ #[t, tx] ty #[.slice none 0 0, vx]).run P w = .ok r w' ∧ Did B D S0 T F w nw ⟨o, .own nw 0 xs.length, [(nw, ⟨.live, true, el, k.size, xs⟩)]⟩ r F' w' := by
  obtain ⟨info, z, dd, q1, q2, q3, q4, qf, q5, q6, q7, q8, q9, q10, q11⟩ := hti.ok _ k hk
  have hzs : z.cells.size = k.size := by rw [← Array.length_toList, q6, q7]
  by_cases hm : xs.length = 0
  · have hx0 : xs = [] := List.eq_nil_of_length_eq_zero hm
    subst hx0
    have hn0 : news = [] := List.eq_nil_of_length_eq_zero (by have := he.1; simpa using this)
    subst hn0
    obtain ⟨t1, e1⟩ := hT.newNil (bk := ⟨.live, true, el, k.size, []⟩) hN hF rfl rfl
    have hc := hs.cells
    have hl := hs.len
    rw [q2.symm] at hc
    refine ⟨.slice none 0 0, _, w, ?_, t1, e1, .refl, .ownN nw (if_pos rfl), fun id hid h => by show (if id = nw then _ else F id) = _; rw [if_neg (by omega)]; exact h⟩
    simp only [List.length_nil] at hc hl
    rcases hs.kind with ⟨e', hk'⟩ | hk' <;> simp [Builtin.append_, run_underlying hu, run_underlying hk', sizeOf, typeInfo, q1, hl, hc]
  · have hr := run_append_grow_src (P := P) w t tx ty el info z hu q1 q5 none 0 0 [] (run_firstCells_none w.drew info.size 0 0 0) vx xs.length news (by rw [q2]; exact hs) (by omega) (by omega) (growslice_fits (by omega) (by rw [q3, Nat.zero_add]; exact hb))
    have h1 := grownCap_ge w (0 + xs.length) 0 el
    have h2 := grownCap_le_maxLen w (0 + xs.length) 0 el (by unfold maxLen; omega)
    obtain ⟨F', d⟩ := grow_new (nw := nw) (o := o) (el := el) (n := xs.length) hT hN hF he hzs (cap := grownCap w (0 + xs.length) 0 el) (by omega) h2 rfl
    refine ⟨_, F', _, hr, ?_⟩
    simp only [List.nil_append, Nat.zero_add] at d ⊢
    exact d
theorem ov_none {id : Nat} {bk : Blk} (h : T nw = none) (hne : nw ≠ id) : ov [(id, bk)] T nw = none := by
  unfold ov look
  rw [if_neg (fun e => hne e.symm)]
  simpa [look] using h
theorem ov_shadow {a : Nat} {x y : Blk} {r : List (Nat × Blk)} : ov [(a, x)] (ov ((a, y) :: r) T) = ov ((a, x) :: r) T := funext fun id => by
  unfold ov
  simp only [look]
  by_cases e : a = id
  · simp only [if_pos e]; rfl
  · simp only [if_neg e]; rfl
theorem Did.join {x y : Nat × Blk} {o o' : Prop} {v : AV} {r : Value} {F1 F' : Nat → Option Cn} {w' : World} (e1 : Ev (stab B D S0 T F w) F w (stab B D S0 (ov [y] T) F1 w) F1 w) (d : Did B D S0 (ov [y] T) F1 w nw ⟨o, v, [x]⟩ r F' w') (hdom : ∀ j, j ≠ nw → F j = none → F1 j = none) : Did B D S0 T F w nw ⟨o', v, [x, y]⟩ r F' w' := by
  have hc : ov [x] (ov [y] T) = ov [x, y] T := (ov_cons x [y]).symm
  obtain ⟨a, b, c, d, f⟩ := d
  have a : TabR B D S0 (ov [x] (ov [y] T)) F' w' := a
  have b : Ev _ _ _ (stab B D S0 (ov [x] (ov [y] T)) F' w') F' w' := b
  have d : VR (stab B D S0 (ov [x] (ov [y] T)) F' w') F' w' v r := d
  rw [hc] at a b d
  exact ⟨a, e1.trans b, c, d, fun j hj hF => f j hj (hdom j (by omega) hF)⟩
theorem appendE_ok (hti : TOk P ti) (hT : TabR B D S0 T F w) (hN : T nw = none) (hF : F nw = none) {t tx ty e' : TypeId} (htx : P.underlying tx = some (.slice e')) {x s : AV} {vx vs : Value} (hx : VR (stab B D S0 T F w) F w x vx) (hs : VR (stab B D S0 T F w) F w s vs) {e : Eff} (h : appendE ti T nw t x s = some e) (ho : e.obl) :
    ∃ r F' w', (Builtin.append_ #[t, tx] ty #[vs, vx]).run P w = .ok r w' ∧ Did B D S0 T F w nw e r F' w' := by
  unfold appendE at h
  split at h
  · have hs := hs.v_eq
    subst hs
    split at h
    · rename_i el hd
      obtain ⟨_, hu, rfl⟩ := hti.tdesc hd
      split at h
      · rename_i k xs hk hxs
        cases h
        obtain ⟨o1, o2, o3⟩ : xs.length ≤ 9223372036854775807 ∧ xs.length * k.bytes ≤ 140737488355328 ∧ (∀ r ∈ xs, r.length = k.size ∧ allOne r) := ho
        obtain ⟨news, s1, s2⟩ := src_ok hT hx hxs (hti.pos hk) o3 htx
        exact app_nil hT hN hF hti hk hu s1 s2 o1 o2
      · cases h
    · cases h
  · rename_i id n
    split at h
    · rename_i el hd
      obtain ⟨_, hu, rfl⟩ := hti.tdesc hd
      split at h
      · rename_i k xs b hk hxs hb
        split at h
        · rename_i hst
          cases h
          obtain ⟨o0, oe, ok, on, o1, o2, o3⟩ : b.row = true ∧ b.e = el ∧ b.k = k.size ∧ n ≤ b.els.length ∧ n + xs.length ≤ 9223372036854775807 ∧ (n + xs.length) * k.bytes ≤ 140737488355328 ∧ (∀ r ∈ xs, r.length = k.size ∧ allOne r) := ho
          obtain ⟨news, s1, s2⟩ := src_ok hT hx hxs (hti.pos hk) o3 htx
          obtain ⟨info, z, dd, q1, q2, q3, q4, qf, q5, q6, q7, q8, q9, q10, q11⟩ := hti.ok _ k hk
          have hzs : z.cells.size = k.size := by rw [← Array.length_toList, q6, q7]
          have hal : aliveB T id = some b := by unfold aliveB; rw [hb]; simp [hst]
          have hne : nw ≠ id := fun e => by subst e; rw [hN] at hb; cases hb
          obtain ⟨t1, e1⟩ := hT.kill hb
          have hN1 : ov [(id, { b with st := .dead })] T nw = none := ov_none hN hne
          have hF1 : (fun j => if j = id then some Cn.dead else F j) nw = none := by show (if nw = id then _ else F nw) = _; rw [if_neg hne]; exact hF
          have hdom : ∀ j, j ≠ nw → F j = none → (fun j => if j = id then some Cn.dead else F j) j = none := fun j hj hFj => by
            show (if j = id then _ else F j) = none
            by_cases q : j = id
            · subst q
              obtain ⟨c, hc, -⟩ := hT.cov j b hb
              rw [hFj] at hc; cases hc
            · rw [if_neg q]; exact hFj
          rcases hT.own hal hs with ⟨g, cap, oo, hFid, rfl, hn, hoo, hkk, cur, b1, b2, b3, b4, b4b, b5, b6, b7, b8⟩ | ⟨hFid, -, rfl, rfl, hels, -⟩
          · rw [ok] at b2 hoo b5 b6
            rw [oe] at b1
            have hold : ER (stab B D S0 T F w) F w k.size (b.els.take n) (cur.toList.take (n * k.size)) := by
              have hnc : n * k.size ≤ cap * k.size := Nat.mul_le_mul_right _ (by omega)
              refine ⟨by simp only [List.length_take, Array.length_toList, b2]; rw [Nat.min_eq_left hnc, Nat.min_eq_left on], fun i row hi => ?_, fun i j row c hi hj => ?_⟩
              · rw [List.getElem?_take] at hi
                split at hi
                · exact b5 i row hi
                · cases hi
              · rw [List.getElem?_take] at hi
                split at hi
                · rename_i hin
                  obtain ⟨v, v1, v2⟩ := b6 i j row c hi hj
                  have hj2 := (List.getElem?_eq_some_iff.1 hj).1
                  rw [b5 i row hi] at hj2
                  have : (i + 1) * k.size ≤ n * k.size := Nat.mul_le_mul_right _ hin
                  rw [Nat.add_mul] at this
                  exact ⟨v, by rw [List.getElem?_take, if_pos (by omega)]; simpa using v1, v2⟩
                · cases hi
            have hall := hold.append s2
            have hlen : (b.els.take n ++ xs).length = n + xs.length := by simp [Nat.min_eq_left on]
            by_cases hroom : n + xs.length ≤ cap
            · obtain ⟨t2, e2⟩ := hT.transfer hb hst hFid hN hF
              have hFn : (fun j => if j = nw then some (Cn.blk g cap b.k) else if j = id then some Cn.dead else F j) nw = some (.blk g cap b.k) := if_pos rfl
              have hTn : ov [(nw, b), (id, { b with st := .dead })] T nw = some b := by unfold ov look; rw [if_pos rfl]; rfl
              have hfit : n * k.size + news.length ≤ cur.size := by rw [s2.1, b2, ← Nat.add_mul]; exact Nat.mul_le_mul_right _ hroom
              have hcur : ∀ m u, (cur.toList.take (n * k.size) ++ news)[m]? = some u → (cur.toList.take (n * k.size) ++ news ++ cur.toList.drop (n * k.size + news.length)).toArray[m]? = some u := fun m u hm => by
                rw [List.getElem?_toArray, List.getElem?_append_left (List.getElem?_eq_some_iff.1 hm).1]
                exact hm
              have hall2 := hall.mono e2
              obtain ⟨w1, w2, w3⟩ := t2.write hTn hst hFn (b.els.take n ++ xs) (cur.toList.take (n * k.size) ++ news ++ cur.toList.drop (n * k.size + news.length)).toArray
                (by rw [ok]; simp only [List.size_toArray, List.length_append, List.length_take, List.length_drop, Array.length_toList]; omega) (by rw [hlen]; exact hroom) (fun i row hi => by rw [ok]; exact hall2.2.1 i row hi)
                (fun i j row c hi hj => by
                  obtain ⟨v, v1, v2⟩ := hall2.2.2 i j row c hi hj
                  exact ⟨v, by rw [ok]; exact hcur _ v v1, v2⟩)
              have hTe : ov [(nw, { b with els := b.els.take n ++ xs })] (ov [(nw, b), (id, { b with st := .dead })] T) = ov [(nw, ⟨.live, true, el, k.size, b.els.take n ++ xs⟩), (id, { b with st := .dead })] T := by
                rw [ov_shadow, hst, o0, oe, ok]
              rw [hTe] at w1 w2
              have hst1 := run_storeCells_at (P := P) g (n * k.size) el news 0 cur w b1 (by simpa using hfit) s1.one
              simp only [Nat.add_zero] at hst1
              refine ⟨.slice (some ⟨g, oo, none⟩) (n + xs.length) (cap - 0), _, _, ?_, ⟨w1, e2.trans w2, w3, ?_, fun j hj hFj => ?_⟩⟩
              · by_cases hc0 : cap = 0
                · have hn0 : n = 0 := by omega
                  have hx0 : xs.length = 0 := by omega
                  have hnews : news = [] := List.eq_nil_of_length_eq_zero (by rw [s2.1, hx0]; simp)
                  subst hn0 hnews
                  have hc := s1.cells
                  have hl := s1.len
                  rw [hx0] at hc hl ⊢
                  have hw : w.setRow g (cur.toList.take (0 * k.size) ++ [] ++ cur.toList.drop (0 * k.size + ([] : List Value).length)).toArray = w := by
                    simp only [Nat.zero_mul, List.take_zero, List.append_nil, List.length_nil, Nat.add_zero, List.drop_zero, List.nil_append, Array.toArray_toList]
                    exact setRow_self w g cur el (0, 0) b1
                  rw [hw]
                  rw [← q2] at hc
                  rcases s1.kind with ⟨e', hk'⟩ | hk' <;> simp [Builtin.append_, run_underlying hu, run_underlying hk', sizeOf, typeInfo, q1, hl, hc, storeCells]
                · have : oo = 0 := by rw [hoo (by omega)]; simp
                  subst this
                  have hc := s1.cells
                  have hl := s1.len
                  have hr2 : n + xs.length ≤ cap - 0 := by simpa using hroom
                  rw [← q2] at hc hst1 ⊢
                  rcases s1.kind with ⟨e', hk'⟩ | hk' <;> simp only [Nat.sub_zero] at hr2 ⊢ <;> simp [Builtin.append_, run_underlying hu, run_underlying hk', sizeOf, typeInfo, q1, hl, hr2, hc, Addr.add_mid, hst1]
              · exact .own nw 0 (n + xs.length) g cap b.k oo hFn (by omega) (fun hc => by rw [ok]; exact hoo hc)
              · show (if j = nw then _ else if j = id then _ else F j) = none
                rw [if_neg (by omega), if_neg (fun q => by subst q; rw [hFid] at hFj; cases hFj)]
                exact hFj
            · have holds : ∀ j u, (cur.toList.take (n * k.size))[j]? = some u → w.drew.cell? ((⟨g, oo, none⟩ : Addr).add j) = some u := fun j u hu2 => by
                have hn0 : 0 < n := by
                  rcases Nat.eq_zero_or_pos n with r | r
                  · subst r; simp at hu2
                  · exact r
                rw [hoo (by omega), Addr.add_mid]
                show w.cell? _ = _
                rw [cell_of_row w g _ cur el (0, 0) b1]
                rw [List.getElem?_take] at hu2
                split at hu2
                · simpa using hu2
                · cases hu2
              have hr := run_append_grow_src (P := P) w t tx ty el info z hu q1 q5 (some ⟨g, oo, none⟩) n (cap - 0) (cur.toList.take (n * k.size)) (by rw [q2]; exact run_firstCells_some w.drew k.size n ⟨g, oo, none⟩ n (cap - 0) _ (by rw [hold.1]; simp [Nat.min_eq_left on]) holds) vx xs.length news (by rw [q2]; exact s1) (by omega) (by omega) (growslice_fits (by omega) (by rw [q3]; omega))
              have h1 := grownCap_ge w (n + xs.length) (cap - 0) el
              have h2 := grownCap_le_maxLen w (n + xs.length) (cap - 0) el (by unfold maxLen; omega)
              obtain ⟨F', d⟩ := grow_new (nw := nw) (o := True) (el := el) (n := n + xs.length) t1 hN1 hF1 (hall.mono e1) hzs (cap := grownCap w (n + xs.length) (cap - 0) el) (by rw [hlen]; exact h1) h2 hlen.symm
              refine ⟨_, F', _, hr, ?_⟩
              rw [hlen] at d
              exact d.join e1 hdom
          · have hall : ER _ _ w k.size xs news := s2.mono e1
            obtain ⟨r, F', w', r1, d⟩ := app_nil (ty := ty) (o := True) t1 hN1 hF1 hti hk hu s1 hall (by omega) (by simpa using o2)
            refine ⟨r, F', w', r1, ?_⟩
            have ed : b.els.take 0 ++ xs = xs := by simp
            simp only [ed, Nat.zero_add]
            exact d.join e1 hdom
        · cases h
      · cases h
    · cases h
  · cases h
end
end Am
end
section
namespace Am
open Go Go.RowKit
section
variable [Base] {P : Program} {ti : TypeId → Option TI} {B : Nat} {D S0 : Nat → Prop} {T : Nat → Option Blk} {F : Nat → Option Cn} {w : World} {nw : Nat}
theorem map_lr {S : Nat → Prop} {ρ : Operand → AV} {σ : Operand → Value} (h : ∀ x, VR S F w (ρ x) (σ x)) : ∀ l : List Operand, LR S F w (l.map ρ) (l.map σ)
  | [] => LR.nil
  | x :: l => LR.cons (h x) (map_lr h l)
theorem OV.map {S : Nat → Prop} {ρ : Operand → AV} {σ : Operand → Value} (h : ∀ x, VR S F w (ρ x) (σ x)) : ∀ o : Option Operand, OV S F w (o.map ρ) (o.map σ)
  | none => trivial
  | some x => h x
def Gives (P : Program) (s : Sem Next) (w w' : World) (r : Value) : Prop := s.run P w = .ok (.value r) w' ∨ (s.run P w = .ok .skip w' ∧ r = undef)
theorem gives_v {s : Sem Value} {w w' : World} {r : Value} (h : s.run P w = .ok r w') : Gives P (do pure (.value (← s))) w w' r := .inl (by simp [h])
theorem asem_ok (hti : TOk P ti) (hT : TabR B D S0 T F w) (hN : T nw = none) (hF : F nw = none) {ρ : Operand → AV} {σ : Operand → Value} (hρ : ∀ x, VR (stab B D S0 T F w) F w (ρ x) (σ x)) {o : Oper} {e : Eff} (h : asem P ti nw T ρ o.op = some e) (ho : e.obl) :
    ∃ r F' w', Gives P (execOp σ o) w w' r ∧ Did B D S0 T F w nw e r F' w' := by
  have pure_ : ∀ {s : Sem Value}, (execOp σ o = do pure (.value (← s))) → (∃ r, s.run P w = .ok r w ∧ VR (stab B D S0 T F w) F w e.v r ∧ e.upd = []) → ∃ r F' w', Gives P (execOp σ o) w w' r ∧ Did B D S0 T F w nw e r F' w' := fun hs ⟨r, r1, r2, r3⟩ =>
    ⟨r, F, w, by rw [hs]; exact gives_v r1, Did.pure hT r2 r3⟩
  have new_ : ∀ {s : Sem Value}, (execOp σ o = do pure (.value (← s))) → (∃ r F' w', s.run P w = .ok r w' ∧ Did B D S0 T F w nw e r F' w') → ∃ r F' w', Gives P (execOp σ o) w w' r ∧ Did B D S0 T F w nw e r F' w' := fun hs ⟨r, F', w', r1, r2⟩ =>
    ⟨r, F', w', by rw [hs]; exact gives_v r1, r2⟩
  cases hop : o.op with
  | move x =>
    rw [hop] at h
    cases h
    exact ⟨σ x, F, w, .inl (by simp [execOp, hop]), Did.pure hT (hρ x) rfl⟩
  | assign x =>
    rw [hop] at h
    cases h
    exact ⟨σ x, F, w, .inl (by simp [execOp, hop]), Did.pure hT (hρ x) rfl⟩
  | pick c a b =>
    rw [hop] at h
    obtain ⟨r, r1, r2, r3⟩ := pickE_ok (P := P) (hρ a) (hρ b) (hρ c) h
    refine ⟨r, F, w, .inl ?_, Did.pure hT r2 r3⟩
    unfold execOp
    simp only [hop]
    rw [Sem.run_bind] at r1 ⊢
    cases hb : (asBool (σ c)).run P w with
    | ok y w2 => rw [hb] at r1; simp only [Result.andThen_ok, Sem.run_pure] at r1 ⊢; cases r1; rfl
    | halt x w2 => rw [hb] at r1; cases r1
  | alloc t => rw [hop] at h; exact new_ (by simp only [execOp, hop]) (allocE_ok hti hT hN hF h)
  | box t x => rw [hop] at h; exact new_ (by simp only [execOp, hop]) (boxE_ok hti hT hN hF (hρ x) h ho)
  | build t ps => rw [hop] at h; exact pure_ (by simp only [execOp, hop]) (buildE_ok hti (fun p _ => hρ p.2) h ho)
  | buildSlice t n ps => rw [hop] at h; exact new_ (by simp only [execOp, hop]) (buildSliceE_ok hti hT hN hF (fun p _ => hρ p.2) h ho)
  | load t a => rw [hop] at h; exact pure_ (by simp only [execOp, hop]) (loadE_ok hti hT (hρ a) h ho)
  | store t a x =>
    rw [hop] at h
    obtain ⟨w', r1, r2⟩ := storeE_ok (nw := nw) hti hT (hρ x) (hρ a) h ho
    refine ⟨undef, F, w', .inr ⟨?_, rfl⟩, r2⟩
    unfold execOp
    simp only [hop]
    rw [Sem.run_bind, r1]
    rfl
  | fieldAddr s x f => rw [hop] at h; exact pure_ (by simp only [execOp, hop]) (fieldAddrE_ok hti hT (hρ x) h)
  | field s x f => rw [hop] at h; exact pure_ (by simp only [execOp, hop]) (fieldE_ok hti (hρ x) h ho)
  | indexAddr t x ix => rw [hop] at h; exact pure_ (by simp only [execOp, hop]) (indexAddrE_ok hti hT (hρ x) (hρ ix) h ho)
  | index t x ix => rw [hop] at h; exact pure_ (by simp only [execOp, hop]) (indexE_ok hti (hρ x) (hρ ix) h ho)
  | binOp op t x y t2 => rw [hop] at h; exact pure_ (s := do eqGuard op t x y (σ x) (σ y); binOp op t (σ x) (σ y)) (by simp only [execOp, hop]) (binE_ok hti (hρ x) (hρ y) h ho)
  | unOp op t x => rw [hop] at h; exact pure_ (by simp only [execOp, hop]) (unE_ok (hρ x) h)
  | convert s d x =>
    rw [hop] at h
    simp only [asem] at h
    split at h
    · rename_i hs; exact pure_ (by simp only [execOp, hop]) (convE_ok hti (let ⟨_, q, e⟩ := hti.tdesc hs; ⟨_, q, by rw [show _ = _ from e]; simp⟩) (hρ x) h)
    · rename_i hs; exact pure_ (by simp only [execOp, hop]) (convE_ok hti (let ⟨_, q, e⟩ := hti.tdesc hs; ⟨_, q, by rw [show _ = _ from e]; simp⟩) (hρ x) h)
    · cases h
  | extract x i => rw [hop] at h; exact pure_ (by simp only [execOp, hop]) (extractE_ok (hρ x) h)
  | makeFunc f first caps =>
    rw [hop] at h
    cases f with
    | func f =>
      cases h
      refine pure_ (s := Instr.makeFunc (.func f) (first.map σ) (caps.map σ)) (by simp only [execOp, hop]) ⟨.func (.func f) (first.toList.map σ).toArray (caps.toList.map σ).toArray, ?_, ?_, rfl⟩
      · have e1 : (first.toList.map σ).toArray = first.map σ := by apply Array.ext'; simp
        have e2 : (caps.toList.map σ).toArray = caps.map σ := by apply Array.ext'; simp
        rw [e1, e2]
        rfl
      · have h1 := map_lr hρ first.toList
        have h2 := map_lr hρ caps.toList
        exact .fn f _ _ _ _ h1.1 h2.1 h1.2 h2.2
    | _ => cases h
  | makeSlice t l c => rw [hop] at h; exact new_ (by simp only [execOp, hop]) (makeSliceE_ok hti hT hN hF (hρ l) (hρ c) h ho)
  | slice t x lo hi mx =>
    rw [hop] at h
    cases mx with
    | none => exact pure_ (s := Instr.sliceAt t (σ x) (lo.map σ) (hi.map σ) none) (by simp only [execOp, hop, Option.map_none]) (sliceE_ok hti hT (OV.map hρ lo) (OV.map hρ hi) (hρ x) h ho)
    | some m => cases h
  | call c =>
    rw [hop] at h
    obtain ⟨callee, args, ats⟩ := c
    simp only [asem] at h
    have hex : ∀ b, callee = .builtin b → execOp σ o = builtin b ats o.type (args.map fun | .const _ => true | _ => false) (args.map σ) := fun b e => by
      subst e
      simp only [execOp, hop, resolve, invoke]
      rfl
    have hl := map_lr hρ args.toList
    split at h
    · rename_i x t hargs hats
      have hl2 : LR (stab B D S0 T F w) F w [x] (args.toList.map σ) := by rw [← hargs]; exact hl
      obtain ⟨v, hv⟩ : ∃ v, args.toList.map σ = [v] := by
        have := hl2.1
        match h0 : args.toList.map σ, this with
        | [v], _ => exact ⟨v, rfl⟩
      have ha : args.map σ = #[v] := by apply Array.ext'; simpa using hv
      have ht : ats = #[t] := by apply Array.ext'; simpa using hats
      have hx : VR (stab B D S0 T F w) F w x v := by rw [hv] at hl2; exact hl2.2 0 x v rfl rfl
      refine pure_ (s := Builtin.len_ #[t] o.type #[v]) ?_ (lenE_ok hti hx h o.type)
      rw [hex _ rfl, ha, ht]
      rfl
    · rename_i s x t t2 hargs hats
      split at h
      · rename_i e' htx
        have hl2 : LR (stab B D S0 T F w) F w [s, x] (args.toList.map σ) := by rw [← hargs]; exact hl
        obtain ⟨vs, vx, hv⟩ : ∃ vs vx, args.toList.map σ = [vs, vx] := by
          have := hl2.1
          match h0 : args.toList.map σ, this with
          | [a, b], _ => exact ⟨a, b, rfl⟩
        have ha : args.map σ = #[vs, vx] := by apply Array.ext'; simpa using hv
        have ht : ats = #[t, t2] := by apply Array.ext'; simpa using hats
        rw [hv] at hl2
        refine new_ (s := Builtin.append_ #[t, t2] o.type #[vs, vx]) ?_ (appendE_ok hti hT hN hF (let ⟨_, q, e⟩ := hti.tdesc htx; e ▸ q) (hl2.2 1 x vx rfl rfl) (hl2.2 0 s vs rfl rfl) h ho)
        rw [hex _ rfl, ha, ht]
        rfl
      · cases h
    · obtain ⟨r, r1, r2, r3⟩ := minE_ok (P := P) hl h ats o.type (args.map fun | .const _ => true | _ => false)
      refine ⟨r, F, w, .inl ?_, Did.pure hT r2 r3⟩
      rw [hex _ rfl]
      have ha : args.map σ = (args.toList.map σ).toArray := by apply Array.ext'; simp
      rw [ha]
      exact r1
    · obtain ⟨r, r1, r2, r3⟩ := minE_ok (P := P) hl h ats o.type (args.map fun | .const _ => true | _ => false)
      refine ⟨r, F, w, .inl ?_, Did.pure hT r2 r3⟩
      rw [hex _ rfl]
      have ha : args.map σ = (args.toList.map σ).toArray := by apply Array.ext'; simp
      rw [ha]
      exact r1
    · cases h
  | _ => rw [hop] at h; cases h
end
end Am
end
section
namespace Am
open Go Go.RowKit
def AV.ren0 (ρ : Nat → Nat) : AV → AV
  | .ptr id ix off => .ptr (ρ id) ix off
  | .own id ix n => .own (ρ id) ix n
  | .agg _ | .tup _ | .fn _ _ _ => .any
  | x => x
def AV.ren1 (ρ : Nat → Nat) : AV → AV
  | .fn f a b => .fn f (a.map (·.ren0 ρ)) (b.map (·.ren0 ρ))
  | x => x.ren0 ρ
def AV.ren2 (ρ : Nat → Nat) : AV → AV
  | .agg cs => .agg (cs.map (·.ren1 ρ))
  | x => x.ren1 ρ
def AV.ren (ρ : Nat → Nat) : AV → AV
  | .tup cs => .tup (cs.map (·.ren2 ρ))
  | x => x.ren2 ρ
section
variable [Base] {S : Nat → Prop} {w : World} {F G : Nat → Option Cn} {ρ : Nat → Nat}
theorem map_push {f : AV → AV} (hf : ∀ (x : AV) (v : Value), VR S F w x v → VR S G w (f x) v) {cs : List AV} {vs : List Value} (h : LR S F w cs vs) : LR S G w (cs.map f) vs :=
  ⟨by simpa using h.1, fun i c v h1 h2 => by
    rw [List.getElem?_map] at h1
    cases hc : cs[i]? with
    | none => rw [hc] at h1; cases h1
    | some d => rw [hc] at h1; cases h1; exact hf d v (h.2 i d v hc h2)⟩
theorem VR.push0 (hρ : ∀ id c, F id = some c → G (ρ id) = some c) (x : AV) (v : Value) (h : VR S F w x v) : VR S G w (x.ren0 ρ) v := by
  cases h with
  | any => exact .any _
  | v => exact .v _
  | agg => exact .any _
  | tup => exact .any _
  | fn => exact .any _
  | ptr id ix off b cap k h => exact .ptr _ ix off b cap k (hρ _ _ h)
  | ptrD id ix off a h => exact .ptrD _ ix off a (hρ _ _ h)
  | sl els a n cap k b o f hn hc hk h hv => exact .sl els a n cap k b o f hn hc hk h hv
  | dp cs b o f h hv => exact .dp cs b o f h hv
  | own id ix n b cap k o h hn ho => exact .own _ ix n b cap k o (hρ _ _ h) hn ho
  | ownN id h => exact .ownN _ (hρ _ _ h)
  | ownD id ix n a cap h => exact .ownD _ ix n a cap (hρ _ _ h)
theorem VR.push1 (hρ : ∀ id c, F id = some c → G (ρ id) = some c) (x : AV) (v : Value) (h : VR S F w x v) : VR S G w (x.ren1 ρ) v := by
  by_cases hx : ∃ f a b, x = .fn f a b
  · obtain ⟨f, a, b, rfl⟩ := hx
    cases h with
    | fn _ _ _ fv cv hf hc h1 h2 =>
      have l1 := map_push (VR.push0 hρ) (⟨hf, h1⟩ : LR S F w a fv)
      have l2 := map_push (VR.push0 hρ) (⟨hc, h2⟩ : LR S F w b cv)
      exact .fn f _ _ fv cv l1.1 l2.1 l1.2 l2.2
  · have : x.ren1 ρ = x.ren0 ρ := by cases x <;> first | rfl | exact absurd ⟨_, _, _, rfl⟩ hx
    rw [this]
    exact VR.push0 hρ x v h
theorem VR.push2 (hρ : ∀ id c, F id = some c → G (ρ id) = some c) (x : AV) (v : Value) (h : VR S F w x v) : VR S G w (x.ren2 ρ) v := by
  by_cases hx : ∃ cs, x = .agg cs
  · obtain ⟨cs, rfl⟩ := hx
    obtain ⟨vs, rfl, hl⟩ := VR.agg_eq h
    exact (map_push (VR.push1 hρ) hl).agg
  · have : x.ren2 ρ = x.ren1 ρ := by cases x <;> first | rfl | exact absurd ⟨_, rfl⟩ hx
    rw [this]
    exact VR.push1 hρ x v h
theorem VR.push (hρ : ∀ id c, F id = some c → G (ρ id) = some c) {x : AV} {v : Value} (h : VR S F w x v) : VR S G w (x.ren ρ) v := by
  by_cases hx : ∃ cs, x = .tup cs
  · obtain ⟨cs, rfl⟩ := hx
    obtain ⟨vs, rfl, hl⟩ := VR.tup_eq h
    have := map_push (VR.push2 hρ) hl
    exact .tup _ vs this.1 this.2
  · have : x.ren ρ = x.ren2 ρ := by cases x <;> first | rfl | exact absurd ⟨_, rfl⟩ hx
    rw [this]
    exact VR.push2 hρ x v h
end
def AV.ok0 : AV → Bool
  | .agg _ | .tup _ | .fn _ _ _ => false
  | _ => true
def AV.ok1 : AV → Bool
  | .fn _ a b => a.all (·.ok0) && b.all (·.ok0)
  | x => x.ok0
def AV.ok2 : AV → Bool
  | .agg cs => cs.all (·.ok1)
  | x => x.ok1
section
variable [Base] {S : Nat → Prop} {w : World} {F G : Nat → Option Cn} {ρ : Nat → Nat}
theorem map_pull {f : AV → AV} {ok : AV → Bool} (hf : ∀ (x : AV) (v : Value), ok x = true → VR S G w (f x) v → VR S F w x v) {cs : List AV} (hok : cs.all ok = true) {vs : List Value} (h : LR S G w (cs.map f) vs) : LR S F w cs vs :=
  ⟨by simpa using h.1, fun i c v h1 h2 => hf c v (List.all_eq_true.1 hok c (List.mem_of_getElem? h1)) (h.2 i (f c) v (by rw [List.getElem?_map, h1]; rfl) h2)⟩
theorem VR.pull0 (hρ : ∀ id c, G (ρ id) = some c → F id = some c) (x : AV) (v : Value) (hok : x.ok0 = true) (h : VR S G w (x.ren0 ρ) v) : VR S F w x v := by
  cases x with
  | any => exact .any v
  | v x => cases h; exact .v _
  | agg => cases hok
  | tup => cases hok
  | fn => cases hok
  | ptr id ix off =>
    cases h with
    | ptr _ _ _ b cap k h => exact .ptr id ix off b cap k (hρ _ _ h)
    | ptrD _ _ _ a h => exact .ptrD id ix off a (hρ _ _ h)
  | sl els =>
    cases h with
    | sl _ a n cap k b o f hn hc hk h hv => exact .sl els a n cap k b o f hn hc hk h hv
  | dp cs =>
    cases h with
    | dp _ b o f h hv => exact .dp cs b o f h hv
  | own id ix n =>
    cases h with
    | own _ _ _ b cap k o h hn ho => exact .own id ix n b cap k o (hρ _ _ h) hn ho
    | ownN _ h => exact .ownN id (hρ _ _ h)
    | ownD _ _ _ a cap h => exact .ownD id ix n a cap (hρ _ _ h)
theorem VR.pull1 (hρ : ∀ id c, G (ρ id) = some c → F id = some c) (x : AV) (v : Value) (hok : x.ok1 = true) (h : VR S G w (x.ren1 ρ) v) : VR S F w x v := by
  by_cases hx : ∃ f a b, x = .fn f a b
  · obtain ⟨f, a, b, rfl⟩ := hx
    have hok : (a.all (·.ok0) && b.all (·.ok0)) = true := hok
    rw [Bool.and_eq_true] at hok
    have h : VR S G w (.fn f (a.map (·.ren0 ρ)) (b.map (·.ren0 ρ))) v := h
    cases h with
    | fn _ _ _ fv cv hf hc h1 h2 =>
      have l1 := map_pull (VR.pull0 hρ) hok.1 (⟨hf, h1⟩ : LR S G w (a.map (·.ren0 ρ)) fv)
      have l2 := map_pull (VR.pull0 hρ) hok.2 (⟨hc, h2⟩ : LR S G w (b.map (·.ren0 ρ)) cv)
      exact .fn f a b fv cv l1.1 l2.1 l1.2 l2.2
  · have e1 : x.ren1 ρ = x.ren0 ρ := by cases x <;> first | rfl | exact absurd ⟨_, _, _, rfl⟩ hx
    have e2 : x.ok1 = x.ok0 := by cases x <;> first | rfl | exact absurd ⟨_, _, _, rfl⟩ hx
    rw [e1] at h
    rw [e2] at hok
    exact VR.pull0 hρ x v hok h
theorem VR.pull (hρ : ∀ id c, G (ρ id) = some c → F id = some c) (x : AV) (v : Value) (hok : x.ok2 = true) (h : VR S G w (x.ren2 ρ) v) : VR S F w x v := by
  by_cases hx : ∃ cs, x = .agg cs
  · obtain ⟨cs, rfl⟩ := hx
    have h : VR S G w (.agg (cs.map (·.ren1 ρ))) v := h
    obtain ⟨vs, rfl, hl⟩ := VR.agg_eq h
    exact (map_pull (VR.pull1 hρ) hok hl).agg
  · have e1 : x.ren2 ρ = x.ren1 ρ := by cases x <;> first | rfl | exact absurd ⟨_, rfl⟩ hx
    have e2 : x.ok2 = x.ok1 := by cases x <;> first | rfl | exact absurd ⟨_, rfl⟩ hx
    rw [e1] at h
    rw [e2] at hok
    exact VR.pull1 hρ x v hok h
end
end Am
end
end Go.Proofs.Ytcgdhankllphgaa
