import Derived.Test.YteblnmhaohbkkaaDoorRLMs
namespace Go.Proofs.YteblnmhaohbkkaaDoor
set_option linter.unusedVariables false
set_option linter.unusedSimpArgs false
set_option linter.unusedSectionVars false
section
namespace Le
def confX (n e : Int) (l : List Gr) : Gr := (n, max (rowL n l).2.1 e, (rowL n l).2.2)
def grantX (n u : Int) (l : List Gr) : Gr := (n, (rowL n l).2.1, max (rowL n l).2.2 u)
theorem dead_le (l : List Gr) (e B : Int) (k : Nat) : deadK l e k ≤ B ↔ 0 ≤ B ∧ ∀ j, j < k → (l.getD j g0).2.1 < e → (l.getD j g0).2.2 ≤ B := by
  induction k with
  | zero => exact ⟨fun h => ⟨h, fun j hj => absurd hj (by omega)⟩, fun h => h.1⟩
  | succ k ih =>
    have es : deadK l e (k + 1) = if (l.getD k g0).2.1 < e then max (deadK l e k) (l.getD k g0).2.2 else deadK l e k := rfl
    rw [es]
    constructor
    · intro h
      have hk : deadK l e k ≤ B := by split at h <;> omega
      obtain ⟨h0, h1⟩ := ih.1 hk
      refine ⟨h0, fun j hj hh => ?_⟩
      by_cases q : j = k
      · subst q
        rw [if_pos hh] at h
        omega
      · exact h1 j (by omega) hh
    · rintro ⟨h0, h1⟩
      have hk := ih.2 ⟨h0, fun j hj => h1 j (by omega)⟩
      split
      · rename_i hh
        have := h1 k (by omega) hh
        omega
      · exact hk
theorem with_mem (l : List Gr) (x : Gr) {j : Nat} (hj : j < (withL x l).length) : (withL x l).getD j g0 = x ∨ ∃ i, i < l.length ∧ (withL x l).getD j g0 = l.getD i g0 := by
  have hle := posG_le x.1 l
  unfold withL at hj ⊢
  by_cases h : hasG x.1 l = true
  · rw [if_pos h] at hj ⊢
    rw [set_getD (has_yes h).1]
    split
    · exact .inl rfl
    · exact .inr ⟨j, by simpa using hj, rfl⟩
  · rw [if_neg h] at hj ⊢
    by_cases e : x = (x.1, 0, 0)
    · rw [if_pos e] at hj ⊢
      exact .inr ⟨j, hj, rfl⟩
    · rw [if_neg e] at hj ⊢
      rw [insL_len _ _ _ hle] at hj
      rw [insL_getD hle]
      split
      · exact .inr ⟨j, by omega, rfl⟩
      · split
        · exact .inl rfl
        · exact .inr ⟨j - 1, by omega, rfl⟩
theorem dead_with {l : List Gr} {x : Gr} {e B : Int} (h : deadK l e l.length ≤ B) (hx : x.2.1 < e → x.2.2 ≤ B) : deadK (withL x l) e (withL x l).length ≤ B := by
  obtain ⟨h0, h1⟩ := (dead_le l e B l.length).1 h
  refine (dead_le _ e B _).2 ⟨h0, fun j hj hh => ?_⟩
  rcases with_mem l x hj with q | ⟨i, hi, q⟩
  · rw [q] at hh ⊢; exact hx hh
  · rw [q] at hh ⊢; exact h1 i hi hh
theorem dead_row {l : List Gr} (n e : Int) (h : (rowL n l).2.1 < e) : (rowL n l).2.2 ≤ deadK l e l.length := by
  obtain ⟨h0, h1⟩ := (dead_le l e (deadK l e l.length) l.length).1 (Int.le_refl _)
  by_cases q : hasG n l = true
  · unfold rowL at h ⊢
    rw [if_pos q] at h ⊢
    exact h1 _ (has_yes q).1 h
  · unfold rowL
    rw [if_neg q]
    exact h0
theorem dead_conf {l : List Gr} (n ep e : Int) : deadK (withL (confX n ep l) l) e (withL (confX n ep l) l).length ≤ deadK l e l.length :=
  dead_with (Int.le_refl _) fun h => by
    unfold confX at h ⊢
    simp only at h ⊢
    exact dead_row n e (by omega)
theorem dead_grant {l : List Gr} (n u e : Int) (h : e ≤ (rowL n l).2.1) : deadK (withL (grantX n u l) l) e (withL (grantX n u l) l).length ≤ deadK l e l.length :=
  dead_with (Int.le_refl _) fun q => by
    unfold grantX at q
    simp only at q
    omega
end Le
end
section
namespace Le
structure Wd where
  la : Int
  mo : Int
  l : List Gr
  hd : Nat → Int
  ls : Nat → Int × Int
  sent : List (Int × Int × Int)
  bs : List Int
  T : Int
structure Inv (s : Wd) : Prop where
  ok : GsOk s.la s.mo s.l
  nb : (s.bs.length : Int) = s.la
  hs : ∀ n : Nat, n < 3 → (rowL n s.l).2.1 ≤ s.hd n ∧ s.hd n ≤ s.la
  st : ∀ x ∈ s.sent, ∃ n : Nat, n < 3 ∧ x.1 = n ∧ 0 ≤ x.2.1 ∧ x.2.1 ≤ s.hd n ∧ 1 ≤ x.2.2 ∧ x.2.2 ≤ (rowL n s.l).2.2
  old : ∀ i : Nat, i < s.bs.length → ∀ x ∈ s.sent, x.2.1 ≤ i → x.2.2 ≤ s.bs.getD i 0
  dl : ∀ i : Nat, i < s.bs.length → deadK s.l (i + 1) s.l.length ≤ s.bs.getD i 0
  un : ∀ j, j < s.l.length → (s.l.getD j g0).2.2 ≤ s.T + s.mo
  si : ∀ n : Nat, n < 3 → (s.ls n).2 = 0 ∨ ((n : Int), s.ls n) ∈ s.sent
theorem Inv.time {s : Wd} (h : Inv s) (T : Int) (hT : s.T ≤ T) : Inv { s with T := T } :=
  ⟨h.ok, h.nb, h.hs, h.st, h.old, h.dl, fun j hj => Int.le_trans (h.un j hj) (by show s.T + s.mo ≤ T + s.mo; omega), h.si⟩
theorem Inv.dead_new {s : Wd} (h : Inv s) (h0 : 0 ≤ s.T + s.mo) (e : Int) : deadK s.l e s.l.length ≤ s.T + s.mo :=
  (dead_le _ _ _ _).2 ⟨h0, fun j hj _ => h.un j hj⟩
theorem Inv.issue {s : Wd} (h : Inv s) (hl : s.la < 1099511627776) : Inv { s with la := s.la + 1, bs := s.bs ++ [deadK s.l (s.la + 1) s.l.length] } := by
  have hrow : ∀ j, j < s.l.length → (s.l.getD j g0).2.1 < s.la + 1 := fun j hj => by have := (h.ok.rows j hj).2.1.2; omega
  refine ⟨⟨⟨by have := h.ok.la0; show 0 ≤ s.la + 1; omega, by show s.la + 1 ≤ _; omega⟩, h.ok.mo1, fun k hk => ?_, h.ok.ord⟩, ?_, fun n hn => ?_, h.st, fun i hi x hx hxi => ?_, fun i hi => ?_, h.un, h.si⟩
  · have := h.ok.rows k hk
    exact ⟨this.1, ⟨this.2.1.1, Int.le_trans this.2.1.2 (by show s.la ≤ s.la + 1; omega)⟩, this.2.2⟩
  · have := h.nb
    simp
    omega
  · have := h.hs n hn
    exact ⟨this.1, Int.le_trans this.2 (by show s.la ≤ s.la + 1; omega)⟩
  · have hi' : i < s.bs.length + 1 := by simpa using hi
    show x.2.2 ≤ (s.bs ++ [deadK s.l (s.la + 1) s.l.length]).getD i 0
    rw [List.getD_eq_getElem?_getD]
    by_cases q : i < s.bs.length
    · rw [List.getElem?_append_left q, ← List.getD_eq_getElem?_getD]
      exact h.old i q x hx hxi
    · obtain rfl : i = s.bs.length := by omega
      rw [List.getElem?_append_right (Nat.le_refl _), Nat.sub_self]
      show x.2.2 ≤ deadK s.l (s.la + 1) s.l.length
      obtain ⟨n, hn, -, -, -, -, hu⟩ := h.st x hx
      have hh := h.hs n hn
      have := dead_row (l := s.l) n (s.la + 1) (by omega)
      omega
  · have hi' : i < s.bs.length + 1 := by simpa using hi
    show deadK s.l (i + 1) s.l.length ≤ (s.bs ++ [deadK s.l (s.la + 1) s.l.length]).getD i 0
    rw [List.getD_eq_getElem?_getD]
    by_cases q : i < s.bs.length
    · rw [List.getElem?_append_left q, ← List.getD_eq_getElem?_getD]
      exact h.dl i q
    · obtain rfl : i = s.bs.length := by omega
      rw [List.getElem?_append_right (Nat.le_refl _), Nat.sub_self]
      have := h.nb
      rw [show ((s.bs.length : Int) + 1) = s.la + 1 by omega]
      exact Int.le_refl _
theorem Inv.hear {s : Wd} (h : Inv s) (n : Nat) (e : Int) (he : e ≤ s.la) : Inv { s with hd := fun k => if k = n then max (s.hd n) e else s.hd k } := by
  have up : ∀ k : Nat, s.hd k ≤ (if k = n then max (s.hd n) e else s.hd k) := fun k => by
    by_cases q : k = n
    · rw [if_pos q, q]; omega
    · rw [if_neg q]; exact Int.le_refl _
  refine ⟨h.ok, h.nb, fun k hk => ?_, fun x hx => ?_, h.old, h.dl, h.un, h.si⟩
  · have h1 := h.hs k hk
    have h2 := up k
    refine ⟨Int.le_trans h1.1 h2, ?_⟩
    show (if k = n then max (s.hd n) e else s.hd k) ≤ s.la
    split
    · rename_i q; subst q; omega
    · exact h1.2
  · obtain ⟨k, h1, h2, h3, h4, h5⟩ := h.st x hx
    exact ⟨k, h1, h2, h3, Int.le_trans h4 (up k), h5⟩
theorem Inv.take {s : Wd} (h : Inv s) (n : Nat) (p : Int × Int) (hp : ((n : Int), p) ∈ s.sent) : Inv { s with ls := fun k => if k = n then p else s.ls k } :=
  ⟨h.ok, h.nb, h.hs, h.st, h.old, h.dl, h.un, fun k hk => by
    show (if k = n then p else s.ls k).2 = 0 ∨ ((k : Int), if k = n then p else s.ls k) ∈ s.sent
    by_cases q : k = n
    · rw [if_pos q, q]; exact .inr hp
    · rw [if_neg q]; exact h.si k hk⟩
theorem Inv.safe {s : Wd} (h : Inv s) (i : Nat) (hi : i < s.bs.length) (n : Nat) (hn : n < 3) (hh : s.hd n ≤ i) (hb : 0 ≤ s.bs.getD i 0) : (s.ls n).2 ≤ s.bs.getD i 0 := by
  rcases h.si n hn with q | q
  · omega
  · obtain ⟨m, h1, h2, h3, h4, h5⟩ := h.st _ q
    have e : m = n := by simp only at h2; omega
    subst e
    exact h.old i hi _ q (Int.le_trans h4 hh)
end Le
end
section
namespace Le
theorem row_found {l : List Gr} (ord : OrdG l) {k : Int} {i : Nat} (hi : i < l.length) (h : (l.getD i g0).1 = k) : rowL k l = l.getD i g0 := by
  have q := has_at ord hi
  rw [h] at q
  unfold rowL
  rw [if_pos q.1, q.2]
theorem row_none {l : List Gr} {k : Int} (h : ∀ i, i < l.length → (l.getD i g0).1 ≠ k) : rowL k l = (k, 0, 0) := by
  unfold rowL
  by_cases q : hasG k l = true
  · have := has_yes q
    exact absurd this.2 (h _ this.1)
  · rw [if_neg q]
theorem with_keeps (l : List Gr) (x : Gr) {i : Nat} (hi : i < l.length) (h : (l.getD i g0).1 ≠ x.1) : ∃ j, j < (withL x l).length ∧ (withL x l).getD j g0 = l.getD i g0 := by
  have hle := posG_le x.1 l
  unfold withL
  by_cases q : hasG x.1 l = true
  · rw [if_pos q]
    obtain ⟨h1, h2⟩ := has_yes q
    refine ⟨i, by simpa using hi, ?_⟩
    rw [set_getD h1, if_neg (fun e => h (by rw [e]; exact h2))]
  · rw [if_neg q]
    by_cases e : x = (x.1, 0, 0)
    · rw [if_pos e]; exact ⟨i, hi, rfl⟩
    · rw [if_neg e]
      by_cases p : i < posG x.1 l
      · exact ⟨i, by rw [insL_len _ _ _ hle]; omega, by rw [insL_getD hle, if_pos p]⟩
      · exact ⟨i + 1, by rw [insL_len _ _ _ hle]; omega, by rw [insL_getD hle, if_neg (by omega), if_neg (by omega), Nat.add_sub_cancel]⟩
theorem with_other {l : List Gr} (ord : OrdG l) {x : Gr} (ord2 : OrdG (withL x l)) {k : Int} (h : k ≠ x.1) : rowL k (withL x l) = rowL k l := by
  by_cases q : ∃ i, i < l.length ∧ (l.getD i g0).1 = k
  · obtain ⟨i, hi, e⟩ := q
    obtain ⟨j, hj, e2⟩ := with_keeps l x hi (by rw [e]; exact h)
    rw [row_found ord hi e, ← e2]
    exact row_found ord2 hj (by rw [e2]; exact e)
  · have n1 : ∀ i, i < l.length → (l.getD i g0).1 ≠ k := fun i hi e => q ⟨i, hi, e⟩
    rw [row_none n1]
    refine row_none fun j hj e => ?_
    rcases with_mem l x hj with r | ⟨i, hi, r⟩
    · rw [r] at e; exact h e.symm
    · rw [r] at e; exact n1 i hi e
theorem Inv.row_un {s : Wd} (h : Inv s) (h0 : 0 ≤ s.T + s.mo) (k : Int) : (rowL k s.l).2.2 ≤ s.T + s.mo := by
  by_cases q : ∃ i, i < s.l.length ∧ (s.l.getD i g0).1 = k
  · obtain ⟨i, hi, e⟩ := q
    rw [row_found h.ok.ord hi e]
    exact h.un i hi
  · rw [row_none fun i hi e => q ⟨i, hi, e⟩]
    exact h0
theorem with_un {l : List Gr} {x : Gr} {B : Int} (h : ∀ j, j < l.length → (l.getD j g0).2.2 ≤ B) (hx : x.2.2 ≤ B) : ∀ j, j < (withL x l).length → ((withL x l).getD j g0).2.2 ≤ B := fun j hj => by
  rcases with_mem l x hj with r | ⟨i, hi, r⟩
  · rw [r]; exact hx
  · rw [r]; exact h i hi
theorem rowL_okX {la mo : Int} {l : List Gr} (ok : GsOk la mo l) {n : Int} (hn : 0 ≤ n ∧ n < 64) : rowOk la (rowL n l) := by
  unfold rowL
  by_cases q : hasG n l = true
  · rw [if_pos q]; exact ok.rows _ (has_yes q).1
  · rw [if_neg q]; exact ⟨hn, ⟨Int.le_refl _, ok.la0.1⟩, Int.le_refl _, by show (0 : Int) ≤ _; omega⟩
theorem site64 {n : Nat} (hn : n < 3) : 0 ≤ (n : Int) ∧ (n : Int) < 64 := by omega
theorem Inv.conf {s : Wd} (h : Inv s) (h0 : 0 ≤ s.T + s.mo) {n : Nat} (hn : n < 3) (ep : Int) (hep : ep ≤ s.hd n) : Inv { s with l := withL (confX n ep s.l) s.l } := by
  have ro := rowL_okX h.ok (site64 hn)
  have hh := h.hs n hn
  have ok2 : GsOk s.la s.mo (withL (confX n ep s.l) s.l) := with_ok h.ok ⟨site64 hn, ⟨by have := ro.2.1.1; show 0 ≤ max _ _; omega, by show max _ _ ≤ _; omega⟩, ro.2.2⟩
  have self : rowL (n : Int) (withL (confX n ep s.l) s.l) = confX n ep s.l := with_row h.ok.ord (confX n ep s.l)
  have row : ∀ m : Nat, (rowL (m : Int) (withL (confX n ep s.l) s.l)).2.2 = (rowL (m : Int) s.l).2.2 := fun m => by
    by_cases e : (m : Int) = n
    · rw [e, self]; rfl
    · rw [with_other h.ok.ord ok2.ord e]
  refine ⟨ok2, h.nb, fun m hm => ?_, fun x hx => ?_, h.old, fun i hi => Int.le_trans (dead_conf n ep _) (h.dl i hi), with_un h.un (h.row_un h0 n), h.si⟩
  · show (rowL (m : Int) (withL (confX n ep s.l) s.l)).2.1 ≤ s.hd m ∧ s.hd m ≤ s.la
    by_cases e : (m : Int) = n
    · have e2 : m = n := by omega
      subst e2
      rw [self]
      exact ⟨by show max _ _ ≤ _; omega, hh.2⟩
    · rw [with_other h.ok.ord ok2.ord e]
      exact h.hs m hm
  · obtain ⟨m, h1, h2, h3, h4, h5, h6⟩ := h.st x hx
    exact ⟨m, h1, h2, h3, h4, h5, by rw [row]; exact h6⟩
theorem Inv.grant {s : Wd} (h : Inv s) (h0 : 0 ≤ s.T + s.mo) {n : Nat} (hn : n < 3) (u : Int) (hr : ¬ (rowL (n : Int) s.l).2.1 < s.la) (hu : 1 ≤ u ∧ u ≤ 1099511627776) (hT : u ≤ s.T + s.mo) : Inv { s with l := withL (grantX n u s.l) s.l, sent := s.sent ++ [((n : Int), s.la, u)] } := by
  have ro := rowL_okX h.ok (site64 hn)
  have hh := h.hs n hn
  have hla := h.ok.la0
  have ok2 : GsOk s.la s.mo (withL (grantX n u s.l) s.l) := with_ok h.ok ⟨site64 hn, ro.2.1, by have := ro.2.2.1; show 0 ≤ max _ _; omega, by have := ro.2.2.2; show max _ _ ≤ _; omega⟩
  have self : rowL (n : Int) (withL (grantX n u s.l) s.l) = grantX n u s.l := with_row h.ok.ord (grantX n u s.l)
  have row : ∀ m : Nat, (rowL (m : Int) s.l).2.2 ≤ (rowL (m : Int) (withL (grantX n u s.l) s.l)).2.2 := fun m => by
    by_cases e : (m : Int) = n
    · rw [e, self]; show _ ≤ max _ _; omega
    · rw [with_other h.ok.ord ok2.ord e]; exact Int.le_refl _
  refine ⟨ok2, h.nb, fun m hm => ?_, fun x hx => ?_, fun i hi x hx hxi => ?_, fun i hi => Int.le_trans (dead_grant n u _ ?_) (h.dl i hi), with_un h.un ?_, fun m hm => ?_⟩
  · show (rowL (m : Int) (withL (grantX n u s.l) s.l)).2.1 ≤ s.hd m ∧ s.hd m ≤ s.la
    by_cases e : (m : Int) = n
    · have e2 : m = n := by omega
      subst e2
      rw [self]
      exact hh
    · rw [with_other h.ok.ord ok2.ord e]
      exact h.hs m hm
  · rcases List.mem_append.1 hx with q | q
    · obtain ⟨m, h1, h2, h3, h4, h5, h6⟩ := h.st x q
      exact ⟨m, h1, h2, h3, h4, h5, Int.le_trans h6 (row m)⟩
    · obtain rfl : x = ((n : Int), s.la, u) := by simpa using q
      refine ⟨n, hn, rfl, hla.1, ?_, hu.1, ?_⟩
      · show s.la ≤ s.hd n
        omega
      · show u ≤ (rowL (n : Int) (withL (grantX n u s.l) s.l)).2.2
        rw [self]
        show u ≤ max _ _
        omega
  · rcases List.mem_append.1 hx with q | q
    · exact h.old i hi x q hxi
    · obtain rfl : x = ((n : Int), s.la, u) := by simpa using q
      have h1 := h.nb
      have h2 : i < s.bs.length := hi
      have h3 : s.la ≤ i := hxi
      omega
  · have h1 := h.nb
    have h2 : i < s.bs.length := hi
    omega
  · have := h.row_un h0 n
    show max (rowL (n : Int) s.l).2.2 u ≤ s.T + s.mo
    omega
  · rcases h.si m hm with q | q
    · exact .inl q
    · exact .inr (List.mem_append_left _ q)
end Le
end
end Go.Proofs.YteblnmhaohbkkaaDoor
