/- Plain arithmetic: the parts of a bucket keep the bucket's rate. -/
import Derived.Test.YtigalbgailnicaaR5
import Derived.Test.YtigalbgailnicaaR3
namespace Go.Proofs.Ytigalbgailnicaa
set_option linter.unusedVariables false
set_option linter.unusedSimpArgs false
open Go.RowKit
/-- What a part holds at an instant. -/
def lvB (t : Int) (b : Bk) : Int := lvl b.c b.n b.d b.l b.a t
def fillB (t : Int) (b : Bk) : Bk := ⟨b.c, b.n, b.d, lvB t b, t⟩
theorem getD_cons_succ (x : Bk) (xs : List Bk) (k : Nat) : (x :: xs).getD (k + 1) Bk.zero = xs.getD k Bk.zero := by simp [List.getD_eq_getElem?_getD]
theorem tsum_ext (f g : Bk → Int) : ∀ (xs ys : List Bk), xs.length = ys.length → (∀ k, k < ys.length → f (xs.getD k Bk.zero) = g (ys.getD k Bk.zero)) → tsum f xs = tsum g ys
  | [], [], _, _ => rfl
  | [], _ :: _, h, _ => by simp at h
  | _ :: _, [], h, _ => by simp at h
  | x :: xs, y :: ys, h, e => by
    have e0 := e 0 (by simp)
    have := tsum_ext f g xs ys (by simpa using h) (fun k hk => by have := e (k + 1) (by simpa using hk); rwa [getD_cons_succ, getD_cons_succ] at this)
    simp only [tsum, this]
    simp at e0
    omega
theorem tsum_set (f : Bk → Int) (b : Bk) : ∀ (xs : List Bk) (k : Nat), k < xs.length → tsum f (xs.set k b) = tsum f xs - f (xs.getD k Bk.zero) + f b
  | [], k, h => absurd h (by simp)
  | x :: xs, 0, _ => by simp [tsum]; omega
  | x :: xs, k + 1, h => by
    have := tsum_set f b xs k (by simpa using h)
    rw [getD_cons_succ]
    simp only [List.set_cons_succ, tsum, this]
    omega
theorem getD_set (xs : List Bk) (b : Bk) (k j : Nat) (h : k < xs.length) : (xs.set k b).getD j Bk.zero = if j = k then b else xs.getD j Bk.zero := by
  by_cases e : j = k
  · subst e; simp [List.getD_eq_getElem?_getD, h]
  · rw [if_neg e]; simp [List.getD_eq_getElem?_getD, List.getElem?_set_ne (fun z => e z.symm)]
theorem tsum_ge (f : Bk → Int) : ∀ (xs : List Bk) (k : Nat), k < xs.length → (∀ j, j < xs.length → 0 ≤ f (xs.getD j Bk.zero)) → f (xs.getD k Bk.zero) ≤ tsum f xs ∧ 0 ≤ tsum f xs
  | [], k, h, _ => absurd h (by simp)
  | [x], 0, _, e => by have := e 0 (by simp); simp at this; simp [tsum]; omega
  | x :: y :: ys, 0, _, e => by
    have e0 := e 0 (by simp)
    have := tsum_ge f (y :: ys) 0 (by simp) (fun j hj => by have := e (j + 1) (by simpa using hj); rwa [getD_cons_succ] at this)
    simp at e0
    simp only [List.getD_cons_zero, tsum] at this ⊢
    omega
  | x :: xs, k + 1, h, e => by
    have e0 := e 0 (by simp)
    have := tsum_ge f xs k (by simpa using h) (fun j hj => by have := e (j + 1) (by simpa using hj); rwa [getD_cons_succ] at this)
    simp at e0
    rw [getD_cons_succ]
    simp only [tsum]
    omega
theorem tsum_grow (f g h : Bk → Int) (z : Int) : ∀ (xs : List Bk), (∀ k, k < xs.length → g (xs.getD k Bk.zero) ≤ f (xs.getD k Bk.zero) + h (xs.getD k Bk.zero) * z) → tsum g xs ≤ tsum f xs + tsum h xs * z
  | [], _ => by simp [tsum]
  | x :: xs, e => by
    have e0 := e 0 (by simp)
    have := tsum_grow f g h z xs (fun j hj => by have := e (j + 1) (by simpa using hj); rwa [getD_cons_succ] at this)
    simp at e0
    simp only [tsum, Int.add_mul]
    omega
/-- What holds of the parts and the whole after some tries. -/
def Under (c n d : Int) (m : Nat) (ps : List Bk) (t L A : Int) : Prop :=
  ps.length = m ∧ tsum Bk.c ps = c ∧ tsum Bk.n ps = n ∧ OkB c n d L A ∧ A ≤ t ∧ t ≤ 1099511627776 ∧ (∀ k, k < m → OkBk (ps.getD k Bk.zero) ∧ (ps.getD k Bk.zero).d = d ∧ (ps.getD k Bk.zero).a ≤ t) ∧ tsum (lvB t) ps ≤ lvl c n d L A t
theorem under_later {c n d : Int} {m : Nat} {ps : List Bk} {t L A : Int} (h : Under c n d m ps t L A) (u : Int) (hu : t ≤ u) (hu2 : u ≤ 1099511627776) : Under c n d m ps u L A := by
  obtain ⟨rfl, h2, h3, h4, h5, h6, h7, h8⟩ := h
  refine ⟨rfl, h2, h3, h4, by omega, hu2, fun k hk => ⟨(h7 k hk).1, (h7 k hk).2.1, by have := (h7 k hk).2.2; omega⟩, ?_⟩
  have g1 : tsum (lvB u) ps ≤ tsum (lvB t) ps + tsum Bk.n ps * (u - t) := tsum_grow _ _ _ _ ps fun k hk => by
    obtain ⟨ok, hd, ha⟩ := h7 k hk
    obtain ⟨⟨x1, x2, x3, x4, x5⟩, hx⟩ : ∃ b, ps.getD k Bk.zero = b := ⟨_, rfl⟩
    rw [hx] at ok ha ⊢
    have hn : 0 ≤ x2 := ok.2.2.1
    have e := lvl_step x1 x2 x3 x4 x5 t u hn ha hu
    show lvl _ _ _ _ _ _ ≤ lvl _ _ _ _ _ _ + _
    simp only
    rw [← e]
    obtain ⟨y, hy⟩ : ∃ y, lvl x1 x2 x3 x4 x5 t = y := ⟨_, rfl⟩
    rw [hy]
    unfold lvl
    omega
  have g2 : tsum (lvB u) ps ≤ 0 + tsum Bk.c ps * d := by
    have := tsum_grow (fun _ => 0) (lvB u) Bk.c d ps fun k hk => by
      obtain ⟨ok, hd, ha⟩ := h7 k hk
      rw [← hd]
      show lvl _ _ _ _ _ _ ≤ _
      unfold lvl
      omega
    have z : ∀ xs : List Bk, tsum (fun _ => 0) xs = 0 := fun xs => by
      induction xs with
      | nil => rfl
      | cons x xs ih => simp [tsum, ih]
    rw [z] at this
    exact this
  rw [h2] at g2
  rw [h3] at g1
  rw [← lvl_step c n d L A t u h4.2.2.1 h5 hu]
  obtain ⟨y, hy⟩ : ∃ y, lvl c n d L A t = y := ⟨_, rfl⟩
  rw [hy] at h8 ⊢
  unfold lvl
  omega
theorem lv_ok {b : Bk} (t : Int) (h : OkBk b) (ha : b.a ≤ t) (ht : t ≤ 1099511627776) : OkBk (fillB t b) := lvl_ok h t ha ht
/-- What a part gives, the whole gives. -/
theorem under_gives {c n d : Int} {m : Nat} {ps : List Bk} {t L A : Int} (h : Under c n d m ps t L A) (k : Nat) (hk : k < m) : lvB t (ps.getD k Bk.zero) ≤ lvl c n d L A t := by
  obtain ⟨rfl, h2, h3, h4, h5, h6, h7, h8⟩ := h
  have := tsum_ge (lvB t) ps k hk fun j hj => (lv_ok t (h7 j hj).1 (h7 j hj).2.2 h6).2.2.2.2.2.2.1
  omega
theorem lvl_now (c n d l t : Int) : lvl c n d l t t = min l (c * d) := by
  unfold lvl
  rw [Int.sub_self, Int.mul_zero, Int.add_zero]
theorem under_take {c n d : Int} {m : Nat} {ps : List Bk} {t L A : Int} (h : Under c n d m ps t L A) (k : Nat) (hk : k < m) (x : Int) (hx : 0 ≤ x) (hl : x * d ≤ lvB t (ps.getD k Bk.zero)) :
    Under c n d m (ps.set k ⟨(ps.getD k Bk.zero).c, (ps.getD k Bk.zero).n, (ps.getD k Bk.zero).d, lvB t (ps.getD k Bk.zero) - x * d, t⟩) t (lvl c n d L A t - x * d) t := by
  have hg := under_gives h k hk
  obtain ⟨rfl, h2, h3, h4, h5, h6, h7, h8⟩ := h
  have ok := lvl_ok h4 t h5 h6
  obtain ⟨okb, hd, ha⟩ := h7 k hk
  have okf : OkBk (fillB t (ps.getD k Bk.zero)) := lv_ok t okb ha h6
  obtain ⟨b, hb⟩ : ∃ b, ps.getD k Bk.zero = b := ⟨_, rfl⟩
  rw [hb] at okb hd ha hl hg okf ⊢
  have hd1 : 1 ≤ d := h4.2.2.2.2.1
  have xd : 0 ≤ x * d := Int.mul_nonneg hx (by omega)
  obtain ⟨y, hy⟩ : ∃ y, lvB t b = y := ⟨_, rfl⟩
  have okf' : OkB b.c b.n b.d y t := by rw [← hy]; exact okf
  have okn : OkB b.c b.n b.d (y - x * d) t := by
    obtain ⟨f1, f2, f3, f4, f5, f6, f7, f8, f9, f10⟩ := okf'
    exact ⟨f1, f2, f3, f4, f5, f6, by omega, by omega, f9, f10⟩
  have hnew : lvB t (⟨b.c, b.n, b.d, y - x * d, t⟩ : Bk) = y - x * d := by
    show lvl _ _ _ _ _ _ = _
    rw [lvl_now]
    have := okn.2.2.2.2.2.2.2.1
    simp only
    omega
  have okw : OkB c n d (lvl c n d L A t - x * d) t := by
    obtain ⟨f1, f2, f3, f4, f5, f6, f7, f8, f9, f10⟩ := ok
    exact ⟨f1, f2, f3, f4, f5, f6, by omega, by omega, f9, f10⟩
  rw [hy]
  refine ⟨by simp, ?_, ?_, okw, Int.le_refl _, h6, ?_, ?_⟩
  · rw [tsum_set _ _ _ _ hk, hb, h2]; simp only; omega
  · rw [tsum_set _ _ _ _ hk, hb, h3]; simp only; omega
  · intro j hj
    rw [getD_set _ _ _ _ hk]
    by_cases e : j = k
    · rw [if_pos e]; exact ⟨okn, hd, Int.le_refl _⟩
    · rw [if_neg e]; exact h7 j hj
  · rw [tsum_set _ _ _ _ hk, hb, hnew, hy, lvl_now]
    have := okw.2.2.2.2.2.2.2.1
    omega
/-- After the last refill. -/
theorem under_end {c n d : Int} {m : Nat} {ps qs : List Bk} {t L A : Int} (h : Under c n d m ps t L A) (h1 : 1 ≤ m) (hl : qs.length = m) (hq : ∀ k, k < m → qs.getD k Bk.zero = fillB t (ps.getD k Bk.zero)) :
    (∀ k, k < qs.length → Goes qs k) ∧ OkB (tsum Bk.c qs) (tsum Bk.n qs) (qs.getD 0 Bk.zero).d (tsum Bk.l qs) (qs.getD 0 Bk.zero).a ∧ tsum Bk.l qs ≤ lvl c n d L A t := by
  obtain ⟨rfl, h2, h3, h4, h5, h6, h7, h8⟩ := h
  have q0 := hq 0 (by omega)
  have d0 : (qs.getD 0 Bk.zero).d = d := by rw [q0]; exact (h7 0 (by omega)).2.1
  have a0 : (qs.getD 0 Bk.zero).a = t := by rw [q0]; rfl
  have e1 : tsum Bk.c qs = c := by rw [← h2]; exact tsum_ext _ _ _ _ hl fun k hk => by rw [hq k hk]; rfl
  have e2 : tsum Bk.n qs = n := by rw [← h3]; exact tsum_ext _ _ _ _ hl fun k hk => by rw [hq k hk]; rfl
  have e3 : tsum Bk.l qs = tsum (lvB t) ps := tsum_ext _ _ _ _ hl fun k hk => by rw [hq k hk]; rfl
  have ok := lvl_ok h4 t h5 h6
  have nn := tsum_ge (lvB t) ps 0 (by omega) fun j hj => (lv_ok t (h7 j hj).1 (h7 j hj).2.2 h6).2.2.2.2.2.2.1
  refine ⟨fun k hk => ?_, ?_, by rw [e3]; exact h8⟩
  · unfold Goes
    rw [d0, a0, hq k (by omega)]
    exact ⟨lv_ok t (h7 k (by omega)).1 (h7 k (by omega)).2.2 h6, (h7 k (by omega)).2.1, rfl⟩
  · rw [e1, e2, e3, d0, a0]
    obtain ⟨f1, f2, f3, f4, f5, f6, f7, f8, f9, f10⟩ := ok
    exact ⟨f1, f2, f3, f4, f5, f6, nn.2, by omega, f9, f10⟩
theorem addB_sum : ∀ (zs : List Int) (s : Int), addB s zs = true → zs.foldr (· + ·) 0 = s
  | [], s, h => by simp [addB] at h ⊢; omega
  | z :: zs, s, h => by
    simp only [addB, Bool.and_eq_true, decide_eq_true_eq] at h
    have := addB_sum zs (s - z) h.2
    simp only [List.foldr_cons, this]
    omega
theorem tsum_map (f : Bk → Int) (p : Nat → Bk) : ∀ (m : Nat), tsum f ((List.range (m + 1)).map p) = tsum f ((List.range m).map p) + f (p m) := by
  intro m
  rw [List.range_succ, List.map_append, List.map_singleton, tsum_snoc]
theorem sum_take (zs : List Int) (k : Nat) (h : k < zs.length) : (zs.take (k + 1)).foldr (· + ·) 0 = (zs.take k).foldr (· + ·) 0 + zs.getD k 0 := by
  have key : ∀ (xs : List Int) (x : Int), (xs ++ [x]).foldr (· + ·) 0 = xs.foldr (· + ·) 0 + x := fun xs x => by
    induction xs with
    | nil => simp
    | cons y ys ih => simp only [List.cons_append, List.foldr_cons, ih]; omega
  rw [List.take_succ_eq_append_getElem h, key]
  simp [List.getD_eq_getElem?_getD, List.getElem?_eq_getElem h]
theorem part_sums (l d a : Int) (cs ns : List Int) (hn : ns.length = cs.length) : ∀ k, k ≤ cs.length →
    tsum Bk.c ((List.range k).map (partK l d a cs ns)) = (cs.take k).foldr (· + ·) 0 ∧ tsum Bk.n ((List.range k).map (partK l d a cs ns)) = (ns.take k).foldr (· + ·) 0 ∧ tsum Bk.l ((List.range k).map (partK l d a cs ns)) = l - leftK l d cs k := by
  intro k
  induction k with
  | zero => intro _; simp [tsum, leftK]
  | succ k ih =>
    intro hk
    obtain ⟨i1, i2, i3⟩ := ih (by omega)
    rw [tsum_map, tsum_map, tsum_map, i1, i2, i3, sum_take cs k (by omega), sum_take ns k (by omega)]
    refine ⟨rfl, rfl, ?_⟩
    show _ + min _ _ = l - (leftK l d cs k - min _ _)
    omega
/-- Nothing of the level is left over. -/
theorem left_none (l d : Int) (cs : List Int) (hd : 1 ≤ d) (hp : ∀ k, k < cs.length → 0 ≤ cs.getD k 0) (hl : 0 ≤ l) : ∀ k, k ≤ cs.length → leftK l d cs k = max 0 (l - (cs.take k).foldr (· + ·) 0 * d) := by
  intro k
  induction k with
  | zero => intro _; simp [leftK]; omega
  | succ k ih =>
    intro hk
    have i := ih (by omega)
    have p := Int.mul_nonneg (hp k (by omega)) (by omega : 0 ≤ d)
    show leftK l d cs k - min (leftK l d cs k) _ = _
    rw [i, sum_take cs k (by omega), Int.add_mul]
    omega
theorem split_sums {c n d l a : Int} {cs ns : List Int} (h : OkB c n d l a) (h3 : ns.length = cs.length) (hbc : addB c cs = true) (hbn : addB n ns = true) :
    tsum Bk.c (parts l d a cs ns) = c ∧ tsum Bk.n (parts l d a cs ns) = n ∧ tsum Bk.l (parts l d a cs ns) = l := by
  obtain ⟨i1, i2, i3⟩ := part_sums l d a cs ns h3 cs.length (Nat.le_refl _)
  have e := left_none l d cs h.2.2.2.2.1 (fun k hk => (addB_bd cs c hbc k hk).1) h.2.2.2.2.2.2.1 cs.length (Nat.le_refl _)
  rw [List.take_length, addB_sum cs c hbc] at e
  have := h.2.2.2.2.2.2.2.1
  refine ⟨?_, ?_, ?_⟩
  · unfold parts; rw [i1, List.take_length]; exact addB_sum cs c hbc
  · unfold parts; rw [i2, ← h3, List.take_length]; exact addB_sum ns n hbn
  · unfold parts; rw [i3, e]; omega
theorem part_ok {c n d l a : Int} {cs ns : List Int} (h : OkB c n d l a) (h3 : ns.length = cs.length) (hbc : addB c cs = true) (hbn : addB n ns = true) (k : Nat) (hk : k < cs.length) : OkBk (partK l d a cs ns k) := by
  obtain ⟨g1, g2, g3, g4, g5, g6, g7, g8, g9, g10⟩ := h
  have b1 := addB_bd cs c hbc k hk
  have b2 := addB_bd ns n hbn k (by omega)
  have b3 := leftK_bd l d cs g7 (by omega) (fun k hk => (addB_bd cs c hbc k hk).1) k (by omega)
  have b4 := Int.mul_nonneg b1.1 (by omega : 0 ≤ d)
  show OkB (cs.getD k 0) (ns.getD k 0) d (min (leftK l d cs k) (cs.getD k 0 * d)) a
  exact ⟨b1.1, by omega, b2.1, by omega, g5, g6, by omega, by omega, g9, g10⟩
theorem under_start {c n d l a : Int} {cs ns : List Int} (h : OkB c n d l a) (h3 : ns.length = cs.length) (hbc : addB c cs = true) (hbn : addB n ns = true) : Under c n d cs.length (parts l d a cs ns) a l a := by
  obtain ⟨s1, s2, s3⟩ := split_sums (a := a) h h3 hbc hbn
  refine ⟨parts_len _ _ _ _ _, s1, s2, h, Int.le_refl _, h.2.2.2.2.2.2.2.2.2, fun k hk => ?_, ?_⟩
  · rw [parts_at _ _ _ _ _ _ hk]
    exact ⟨part_ok h h3 hbc hbn k hk, rfl, Int.le_refl _⟩
  · rw [lvl_now]
    have : tsum (lvB a) (parts l d a cs ns) = tsum Bk.l (parts l d a cs ns) := tsum_ext _ _ _ _ rfl fun k hk => by
      rw [parts_len] at hk
      rw [parts_at _ _ _ _ _ _ hk]
      have ok := part_ok (a := a) h h3 hbc hbn k hk
      show lvl _ _ _ _ _ _ = _
      rw [show (partK l d a cs ns k).a = a from rfl, lvl_now]
      have := ok.2.2.2.2.2.2.2.1
      show min (partK l d a cs ns k).l _ = _
      omega
    rw [this, s3]
    have := h.2.2.2.2.2.2.2.1
    omega
theorem parts_goes {c n d l a : Int} {cs ns : List Int} (h : OkB c n d l a) (h1 : 1 ≤ cs.length) (h3 : ns.length = cs.length) (hbc : addB c cs = true) (hbn : addB n ns = true) : ∀ k, k < (parts l d a cs ns).length → Goes (parts l d a cs ns) k := by
  intro k hk
  rw [parts_len] at hk
  unfold Goes
  rw [parts_at _ _ _ _ _ _ hk, parts_at _ _ _ _ _ _ (by omega : 0 < cs.length)]
  exact ⟨part_ok h h3 hbc hbn k hk, rfl, rfl⟩
end Go.Proofs.Ytigalbgailnicaa
