import Derived.Test.YtcgdhankllphgaaRMB
import Derived.Test.YtcgdhankllphgaaRMP
import Derived.Test.YtcgdhankllphgaaRRV
import Derived.Test.YtcgdhankllphgaaRSP
import Derived.Test.YtcgdhankllphgaaRCaW
import Derived.Test.YtcgdhankllphgaaRCaE
namespace Go.Proofs.Ytcgdhankllphgaa
set_option linter.unusedVariables false
set_option linter.unusedSimpArgs false
set_option linter.unusedSectionVars false
section
namespace Am
theorem coin_none {l : List Rw} {v : Int} (h : ∀ x ∈ l, x.1 ≠ v) : coinL l v = (v, 0, 0, 0) := by
  unfold coinL
  cases hh : hasC (cW v) l
  · rfl
  · obtain ⟨A, x, B, e, -, e1, -⟩ := csplit_has hh
    exact absurd e1 (h x (by rw [e]; simp))
theorem coin_same {l l' : List Rw} (o : OrdW l) (o' : OrdW l') {v : Int} (k : ∀ x : Rw, x.1 = v → (x ∈ l ↔ x ∈ l')) : coinL l v = coinL l' v := by
  by_cases e : ∃ x ∈ l, x.1 = v
  · obtain ⟨x, hx, rfl⟩ := e
    rw [(coin_mem o hx).2, (coin_mem o' ((k x rfl).1 hx)).2]
  · rw [coin_none fun x hx q => e ⟨x, hx, q⟩, coin_none fun x hx q => e ⟨x, (k x q).2 hx, q⟩]
theorem back_same {l l' : List Rw} (o : OrdR l) (o' : OrdR l') {v h : Int} (k : ∀ x : Rw, x.1 = v → x.2.1 = h → (x ∈ l ↔ x ∈ l')) : backL l v h = backL l' v h := by
  by_cases e : ∃ x ∈ l, x.1 = v ∧ x.2.1 = h
  · obtain ⟨x, hx, rfl, rfl⟩ := e
    rw [(dealt_mem o hx).2.2, (dealt_mem o' ((k x rfl rfl).1 hx)).2.2]
  · rw [(dealt_none (fun x hx q => e ⟨x, hx, q⟩)).2.2, (dealt_none (fun x hx q => e ⟨x, (k x q.1 q.2).2 hx, q⟩)).2.2]
theorem mem_deal {l : List Rw} {w g n : Int} (ord : OrdR l) {x : Rw} (hx : ¬ (x.1 = w ∧ x.2.1 = g)) : x ∈ dealL l w g n ↔ x ∈ l := by
  cases hh : hasC (cR w g) l
  · obtain ⟨A, B, e, ha, -, -⟩ := split_not ord hh
    have ed : dealL l w g n = A ++ (w, g, n, 0) :: B := by
      unfold dealL insL
      rw [if_neg (by rw [hh]; simp), ← ha, e, List.take_left' rfl, List.drop_left' rfl]
    have n1 : x ≠ (w, g, n, 0) := fun q => hx (by rw [q]; exact ⟨rfl, rfl⟩)
    rw [ed, e]
    simp [n1]
  · obtain ⟨A, y, B, e, ha, e1, e2, e3⟩ := split_has hh
    have ed : dealL l w g n = A ++ (y.1, y.2.1, y.2.2.1 + n, y.2.2.2) :: B := by
      unfold dealL
      rw [if_pos hh, e3, ← ha, e, set_mid]
    have n1 : x ≠ (y.1, y.2.1, y.2.2.1 + n, y.2.2.2) := fun q => hx (by rw [q]; exact ⟨e1, e2⟩)
    have n2 : x ≠ y := fun q => hx (by rw [q]; exact ⟨e1, e2⟩)
    rw [ed, e]
    simp [n1, n2]
theorem mem_ret {l : List Rw} {w g t : Int} {x : Rw} (hx : ¬ (x.1 = w ∧ x.2.1 = g)) : x ∈ retL l w g t ↔ x ∈ l := by
  cases hh : hasC (cR w g) l
  · have e : retL l w g t = l := ret_old (fun q => by rw [hh] at q; cases q)
    rw [e]
  · obtain ⟨A, y, B, e, ha, e1, e2, e3⟩ := split_has hh
    have ed : retL l w g t = A ++ (y.1, y.2.1, y.2.2.1, max y.2.2.2 t) :: B := by
      unfold retL
      rw [if_pos hh, e3, ← ha, e, set_mid]
    have n1 : x ≠ (y.1, y.2.1, y.2.2.1, max y.2.2.2 t) := fun q => hx (by rw [q]; exact ⟨e1, e2⟩)
    have n2 : x ≠ y := fun q => hx (by rw [q]; exact ⟨e1, e2⟩)
    rw [ed, e]
    simp [n1, n2]
theorem deal_all {cap : Int} {l : List Rw} {w g n : Int} (ok : OkB cap 100 l) (p1 : winOk w) (p2 : gateOk g) (p3 : 0 ≤ n) (h1 : outL l w + n ≤ cap) (h2 : dealtL l w g + n ≤ 1099511627776) (h3 : l.length < 10000) :
    OkB cap 100 (dealL l w g n) ∧ (∀ v h, dealtL l v h ≤ dealtL (dealL l w g n) v h ∧ backL (dealL l w g n) v h = backL l v h) ∧ (dealL l w g n).length ≤ l.length + 1 := by
  obtain ⟨k1, -, k3, k4, k5⟩ := deal_facts ok p1 p2 p3 h1 h2 (.inr h3)
  refine ⟨k1, fun v h => ?_, k5⟩
  by_cases q : v = w ∧ h = g
  · obtain ⟨rfl, rfl⟩ := q
    exact ⟨by rw [k3.2.1]; omega, k3.2.2⟩
  · exact ⟨by rw [k4 v h q]; exact Int.le_refl _, back_same k1.ord ok.ord fun x e1 e2 => mem_deal ok.ord (fun z => q ⟨by rw [← e1]; exact z.1, by rw [← e2]; exact z.2⟩)⟩
theorem ret_all {cap : Int} {l : List Rw} {w g t : Int} (ok : OkB cap 100 l) (ht : 0 ≤ t ∧ t ≤ dealtL l w g) :
    OkB cap 100 (retL l w g t) ∧ (∀ v h, dealtL (retL l w g t) v h = dealtL l v h ∧ (backL (retL l w g t) v h = backL l v h ∨ (v = w ∧ h = g ∧ backL (retL l w g t) v h ≤ max (backL l v h) t))) ∧ (retL l w g t).length = l.length := by
  cases hh : hasC (cR w g) l
  · have e : retL l w g t = l := ret_old (fun q => by rw [hh] at q; cases q)
    rw [e]
    exact ⟨ok, fun v h => ⟨rfl, .inl rfl⟩, rfl⟩
  · by_cases hb : t ≤ backL l w g
    · have e : retL l w g t = l := ret_old (fun _ => hb)
      rw [e]
      exact ⟨ok, fun v h => ⟨rfl, .inl rfl⟩, rfl⟩
    · obtain ⟨k1, -, k3, k4, k5⟩ := ret_facts ok hh (by omega) ht.2
      refine ⟨k1, fun v h => ⟨k4 v h, ?_⟩, k5⟩
      by_cases q : v = w ∧ h = g
      · obtain ⟨rfl, rfl⟩ := q
        exact .inr ⟨rfl, rfl, by rw [k3.2.2]; omega⟩
      · exact .inl (back_same k1.ord ok.ord fun x e1 e2 => mem_ret (fun z => q ⟨by rw [← e1]; exact z.1, by rw [← e2]; exact z.2⟩))
theorem mem_with {l : List Rw} {y : Rw} (ord : OrdW l) (he : y ≠ (y.1, 0, 0, 0)) {x : Rw} (hx : x.1 ≠ y.1) : x ∈ withL l y ↔ x ∈ l := by
  have n1 : x ≠ y := fun q => hx (by rw [q])
  cases hh : hasC (cW y.1) l
  · obtain ⟨A, B, e, ha, -, -⟩ := csplit_not ord hh
    have ed : withL l y = A ++ y :: B := by
      unfold withL insL
      rw [if_neg (by rw [hh]; simp), if_neg he, ← ha, e, List.take_left' rfl, List.drop_left' rfl]
    rw [ed, e]
    simp [n1]
  · obtain ⟨A, z, B, e, ha, e1, e3⟩ := csplit_has hh
    have ed : withL l y = A ++ y :: B := by
      unfold withL
      rw [if_pos hh, ← ha, e, set_mid]
    have n2 : x ≠ z := fun q => hx (by rw [q]; exact e1)
    rw [ed, e]
    simp [n1, n2]
theorem with_all {l : List Rw} {y : Rw} (ok : OkP 100 l) (hy : coinV y) (hl : l.length < 10000) (he : y ≠ (y.1, 0, 0, 0)) :
    OkP 100 (withL l y) ∧ (∀ v, coinL (withL l y) v = if v = y.1 then y else coinL l v) ∧ (withL l y).length ≤ l.length + 1 := by
  obtain ⟨k1, k2, k3⟩ := with_facts ok hy hl he
  refine ⟨k1, fun v => ?_, k3⟩
  by_cases q : v = y.1
  · rw [if_pos q, q]; exact k2
  · rw [if_neg q]
    exact coin_same k1.ord ok.ord fun x e1 => mem_with ok.ord he (by rw [e1]; exact q)
theorem recv_all {l : List Rw} {w t : Int} (ok : OkP 100 l) (p1 : winOk w) (ht : 0 ≤ t ∧ t ≤ 1099511627776) (hl : l.length < 10000) :
    OkP 100 (recvL l w t) ∧ (∀ v, (coinL (recvL l w t) v).2.2 = (coinL l v).2.2 ∧ ((coinL (recvL l w t) v).2.1 = (coinL l v).2.1 ∨ (v = w ∧ (coinL (recvL l w t) v).2.1 = t))) ∧ (recvL l w t).length ≤ l.length + 1 := by
  by_cases h : (coinL l w).2.1 < t
  · have hw := coinL_w (l := l) w
    have hv := coinV_coin ok p1
    have ex : recvL l w t = withL l ((coinL l w).1, t, (coinL l w).2.2.1, (coinL l w).2.2.2) := by unfold recvL recvX; rw [if_pos h]
    obtain ⟨k1, k2, k3⟩ := with_all (y := ((coinL l w).1, t, (coinL l w).2.2.1, (coinL l w).2.2.2)) ok (by unfold coinV at hv ⊢; refine ⟨hv.1, ?_⟩; simp only; omega) hl (fun q => by simp only [Prod.mk.injEq] at q; have := (coinL_ok ok w).1; omega)
    rw [ex]
    refine ⟨k1, fun v => ?_, k3⟩
    rw [k2, hw]
    by_cases q : v = w
    · subst q; rw [if_pos rfl]; exact ⟨rfl, .inr ⟨rfl, rfl⟩⟩
    · rw [if_neg q]; exact ⟨rfl, .inl rfl⟩
  · rw [recv_old (by omega)]
    exact ⟨ok, fun v => ⟨rfl, .inl rfl⟩, Nat.le_succ _⟩
theorem spend_all {l : List Rw} {w : Int} (ok : OkP 100 l) (p1 : winOk w) (hl : l.length < 10000) (h : leftX (coinL l w) ≠ 0) :
    OkP 100 (spendL l w) ∧ (∀ v, coinL (spendL l w) v = if v = w then ((coinL l w).1, (coinL l w).2.1, (coinL l w).2.2.1 + 1, (coinL l w).2.2.2) else coinL l v) ∧ (spendL l w).length ≤ l.length + 1 := by
  have hw := coinL_w (l := l) w
  have hv := coinV_coin ok p1
  obtain ⟨k1, k2, k3⟩ := with_all (y := ((coinL l w).1, (coinL l w).2.1, (coinL l w).2.2.1 + 1, (coinL l w).2.2.2)) ok (by unfold coinV at hv ⊢; unfold leftX at h; refine ⟨hv.1, ?_⟩; simp only; omega) hl (fun q => by simp only [Prod.mk.injEq] at q; unfold coinV at hv; omega)
  unfold spendL
  refine ⟨k1, fun v => ?_, k3⟩
  rw [k2, hw]
theorem give_all {l : List Rw} {w n : Int} (ok : OkP 100 l) (p1 : winOk w) (hn : 1 ≤ n) (hl : l.length < 10000) (h : ¬ leftX (coinL l w) < n) :
    OkP 100 (giveL l w n) ∧ (∀ v, coinL (giveL l w n) v = if v = w then ((coinL l w).1, (coinL l w).2.1, (coinL l w).2.2.1, (coinL l w).2.2.2 + n) else coinL l v) ∧ (giveL l w n).length ≤ l.length + 1 := by
  have hw := coinL_w (l := l) w
  have hv := coinV_coin ok p1
  obtain ⟨k1, k2, k3⟩ := with_all (y := ((coinL l w).1, (coinL l w).2.1, (coinL l w).2.2.1, (coinL l w).2.2.2 + n)) ok (by unfold coinV at hv ⊢; unfold leftX at h; refine ⟨hv.1, ?_⟩; simp only; omega) hl (fun q => by simp only [Prod.mk.injEq] at q; unfold coinV at hv; omega)
  unfold giveL
  refine ⟨k1, fun v => ?_, k3⟩
  rw [k2, hw]
theorem outS_filter {l : List Rw} (h : ∀ x ∈ l, 0 ≤ outX x) (p : Rw → Bool) (w : Int) : outS w (l.filter p) ≤ outS w l := by
  induction l with
  | nil => exact Int.le_refl _
  | cons x l ih =>
    have ih := ih fun y hy => h y (by simp [hy])
    have h0 := h x (by simp)
    rw [List.filter_cons]
    split
    · simp only [outS]; omega
    · simp only [outS]; split <;> omega
theorem forget_mem {l : List Rw} {lo : Int} {x : Rw} : x ∈ forgetL l 100 lo ↔ x ∈ l ∧ ¬ (x.1 + 1) * 100 ≤ lo := by
  unfold forgetL
  rw [List.mem_filter]
  simp
theorem forgetB_all {cap : Int} {l : List Rw} {lo : Int} (ok : OkB cap 100 l) :
    OkB cap 100 (forgetL l 100 lo) ∧ (∀ v h, lo < (v + 1) * 100 → dealtL (forgetL l 100 lo) v h = dealtL l v h ∧ backL (forgetL l 100 lo) v h = backL l v h) ∧ (forgetL l 100 lo).length ≤ l.length := by
  have V := ok.v
  have OK : OkB cap 100 (forgetL l 100 lo) := by
    refine VOk.b ⟨fun x hx => V.rows x (forget_mem.1 hx).1, V.ord.filter _, fun w => Int.le_trans (outS_filter (fun x hx => (V.rows x hx).nn) _ w) (V.sum w)⟩ ?_
    have h := ok.head
    unfold headOk at h ⊢
    exact ⟨h.1, h.2.1, Nat.le_trans (List.length_filter_le _ _) h.2.2⟩
  refine ⟨OK, fun v h hv => ?_, List.length_filter_le _ _⟩
  have k : ∀ x : Rw, x.1 = v → x.2.1 = h → (x ∈ forgetL l 100 lo ↔ x ∈ l) := fun x e1 e2 => by
    rw [forget_mem]
    exact ⟨fun q => q.1, fun q => ⟨q, by rw [e1]; omega⟩⟩
  exact ⟨dealt_same OK.ord ok.ord k, back_same OK.ord ok.ord k⟩
theorem forgetP_all {l : List Rw} {lo : Int} (ok : OkP 100 l) :
    OkP 100 (forgetL l 100 lo) ∧ (∀ v, lo < (v + 1) * 100 → coinL (forgetL l 100 lo) v = coinL l v) ∧ (forgetL l 100 lo).length ≤ l.length := by
  have V := ok.v
  have OK : OkP 100 (forgetL l 100 lo) := by
    refine VPok.p ⟨fun x hx => V.rows x (forget_mem.1 hx).1, V.ord.filter _⟩ ?_
    have h := ok.head
    unfold headP at h ⊢
    exact ⟨h.1, Nat.le_trans (List.length_filter_le _ _) h.2⟩
  refine ⟨OK, fun v hv => ?_, List.length_filter_le _ _⟩
  exact coin_same OK.ord ok.ord fun x e1 => by
    rw [forget_mem]
    exact ⟨fun q => q.1, fun q => ⟨q, by rw [e1]; omega⟩⟩
theorem outS_one {w : Int} {l : List Rw} (h : ∀ x ∈ l, 0 ≤ outX x) {y : Rw} (hy : y ∈ l) (e : y.1 = w) : outX y ≤ outS w l := by
  induction l with
  | nil => cases hy
  | cons x l ih =>
    have h0 := h x (by simp)
    have h2 := outS_nonneg (w := w) (l := l) fun z hz => h z (by simp [hz])
    rcases List.mem_cons.1 hy with rfl | hy
    · simp only [outS]; rw [if_pos e]; omega
    · have := ih (fun z hz => h z (by simp [hz])) hy
      simp only [outS]; split <;> omega
theorem out_two {cap : Int} {l : List Rw} (ok : OkB cap 100 l) (w : Int) : (dealtL l w 1 - backL l w 1) + (dealtL l w 2 - backL l w 2) ≤ cap := by
  have V := ok.v
  have hs := V.sum w
  have h0 : ∀ x ∈ l, 0 ≤ outX x := fun x hx => (V.rows x hx).nn
  have n0 := outS_nonneg (w := w) h0
  have one : ∀ g, (∃ x ∈ l, x.1 = w ∧ x.2.1 = g ∧ dealtL l w g - backL l w g = outX x) ∨ dealtL l w g - backL l w g = 0 := fun g => by
    by_cases e : ∃ x ∈ l, x.1 = w ∧ x.2.1 = g
    · obtain ⟨x, hx, rfl, rfl⟩ := e
      obtain ⟨-, a, b⟩ := dealt_mem ok.ord hx
      exact .inl ⟨x, hx, rfl, rfl, by rw [a, b]; rfl⟩
    · obtain ⟨-, a, b⟩ := dealt_none (fun x hx q => e ⟨x, hx, q⟩)
      exact .inr (by rw [a, b]; rfl)
  rcases one 1 with ⟨x, hx, x1, x2, ex⟩ | ex
  · rcases one 2 with ⟨y, hy, y1, y2, ey⟩ | ey
    · obtain ⟨i, hi, rfl⟩ := List.mem_iff_getElem.1 hx
      have hne : y ≠ l[i] := fun q => by rw [q] at y2; omega
      have e : l = l.take i ++ l[i] :: l.drop (i + 1) := by rw [← List.drop_eq_getElem_cons hi, List.take_append_drop]
      have hA : ∀ x ∈ l.take i, 0 ≤ outX x := fun x hx => h0 x (List.mem_of_mem_take hx)
      have hB : ∀ x ∈ l.drop (i + 1), 0 ≤ outX x := fun x hx => h0 x (List.mem_of_mem_drop hx)
      have nA := outS_nonneg (w := w) hA
      have nB := outS_nonneg (w := w) hB
      have es : outS w l = outS w (l.take i) + (outX l[i] + outS w (l.drop (i + 1))) := by
        conv => lhs; rw [e]
        rw [outS_append]
        simp only [outS]
        rw [if_pos x1]
      have hy' : y ∈ l.take i ∨ y ∈ l.drop (i + 1) := by
        rw [e] at hy
        rcases List.mem_append.1 hy with q | q
        · exact .inl q
        · rcases List.mem_cons.1 q with q | q
          · exact absurd q hne
          · exact .inr q
      rcases hy' with q | q
      · have := outS_one hA q y1; omega
      · have := outS_one hB q y1; omega
    · have := outS_one h0 hx x1; omega
  · rcases one 2 with ⟨y, hy, y1, y2, ey⟩ | ey
    · have := outS_one h0 hy y1; omega
    · omega
end Am
end
section
namespace Am
structure Wd where
  cap : Int
  b : List Rw
  P : Int → List Rw
  D : List (Int × Int × Int)
  K : List (Int × Int × Int)
  T : Int
  C : Nat → Int
abbrev live (T w : Int) : Prop := T < (w + 1) * 100
structure Inv (s : Wd) : Prop where
  okB : OkB s.cap 100 s.b
  okP : ∀ g, g = 0 ∨ g = 1 → OkP 100 (s.P g)
  T : 0 ≤ s.T ∧ s.T ≤ 3999
  got : ∀ g w, g = 0 ∨ g = 1 → live s.T w → (coinL (s.P g) w).2.1 ≤ dealtL s.b w (g + 1)
  back : ∀ g w, g = 0 ∨ g = 1 → live s.T w → backL s.b w (g + 1) ≤ (coinL (s.P g) w).2.2.2
  cnt : ∀ m : Nat, m < 40 → live s.T m → s.C m = (coinL (s.P 0) m).2.2.1 + (coinL (s.P 1) m).2.2.1
  dm : ∀ x ∈ s.D, (x.1 = 0 ∨ x.1 = 1) ∧ winOk x.2.1 ∧ (0 ≤ x.2.2 ∧ x.2.2 ≤ 1099511627776) ∧ (live s.T x.2.1 → x.2.2 ≤ dealtL s.b x.2.1 (x.1 + 1))
  km : ∀ x ∈ s.K, (x.1 = 0 ∨ x.1 = 1) ∧ winOk x.2.1 ∧ (live s.T x.2.1 → x.2.2 ≤ (coinL (s.P x.1) x.2.1).2.2.2)
theorem Inv.time {s : Wd} (h : Inv s) (t : Int) (h1 : s.T ≤ t) (h2 : t ≤ 3999) : Inv { s with T := t } := by
  have lv : ∀ w, live t w → live s.T w := fun w hw => by unfold live at hw ⊢; omega
  have hT := h.T
  exact ⟨h.okB, h.okP, ⟨by show 0 ≤ t; omega, h2⟩, fun g w hg hw => h.got g w hg (lv w hw), fun g w hg hw => h.back g w hg (lv w hw), fun m hm hw => h.cnt m hm (lv m hw), fun x hx => ⟨(h.dm x hx).1, (h.dm x hx).2.1, (h.dm x hx).2.2.1, fun hw => (h.dm x hx).2.2.2 (lv _ hw)⟩, fun x hx => ⟨(h.km x hx).1, (h.km x hx).2.1, fun hw => (h.km x hx).2.2 (lv _ hw)⟩⟩
theorem Inv.bank {s : Wd} (h : Inv s) (b : List Rw) (ok : OkB s.cap 100 b) (hd : ∀ w g, live s.T w → dealtL s.b w g ≤ dealtL b w g) (hb : ∀ g w, g = 0 ∨ g = 1 → live s.T w → backL b w (g + 1) ≤ (coinL (s.P g) w).2.2.2) : Inv { s with b := b } :=
  ⟨ok, h.okP, h.T, fun g w hg hw => Int.le_trans (h.got g w hg hw) (hd w (g + 1) hw), hb, h.cnt, fun x hx => ⟨(h.dm x hx).1, (h.dm x hx).2.1, (h.dm x hx).2.2.1, fun hw => Int.le_trans ((h.dm x hx).2.2.2 hw) (hd _ _ hw)⟩, h.km⟩
theorem Inv.toldD {s : Wd} (h : Inv s) (x : Int × Int × Int) (h1 : x.1 = 0 ∨ x.1 = 1) (h2 : winOk x.2.1) (h3 : 0 ≤ x.2.2 ∧ x.2.2 ≤ 1099511627776) (h4 : x.2.2 ≤ dealtL s.b x.2.1 (x.1 + 1)) : Inv { s with D := s.D ++ [x] } :=
  ⟨h.okB, h.okP, h.T, h.got, h.back, h.cnt, fun y hy => by
    rcases List.mem_append.1 hy with q | q
    · exact h.dm y q
    · rw [List.mem_singleton.1 q]; exact ⟨h1, h2, h3, fun _ => h4⟩, h.km⟩
theorem Inv.toldK {s : Wd} (h : Inv s) (x : Int × Int × Int) (h1 : x.1 = 0 ∨ x.1 = 1) (h2 : winOk x.2.1) (h4 : x.2.2 ≤ (coinL (s.P x.1) x.2.1).2.2.2) : Inv { s with K := s.K ++ [x] } :=
  ⟨h.okB, h.okP, h.T, h.got, h.back, h.cnt, h.dm, fun y hy => by
    rcases List.mem_append.1 hy with q | q
    · exact h.km y q
    · rw [List.mem_singleton.1 q]; exact ⟨h1, h2, fun _ => h4⟩⟩
theorem Inv.purse {s : Wd} (h : Inv s) (g : Int) (hg : g = 0 ∨ g = 1) (l : List Rw) (C : Nat → Int) (ok : OkP 100 l) (h1 : ∀ w, live s.T w → (coinL l w).2.1 ≤ dealtL s.b w (g + 1)) (h2 : ∀ w, live s.T w → (coinL (s.P g) w).2.2.2 ≤ (coinL l w).2.2.2)
    (h3 : ∀ m : Nat, m < 40 → live s.T m → C m - s.C m = (coinL l m).2.2.1 - (coinL (s.P g) m).2.2.1) : Inv { s with P := fun j => if j = g then l else s.P j, C := C } := by
  refine ⟨h.okB, fun j hj => ?_, h.T, fun j w hj hw => ?_, fun j w hj hw => ?_, fun m hm hw => ?_, h.dm, fun x hx => ⟨(h.km x hx).1, (h.km x hx).2.1, fun hw => ?_⟩⟩
  · show OkP 100 (if j = g then l else s.P j)
    split
    · exact ok
    · exact h.okP j hj
  · show (coinL (if j = g then l else s.P j) w).2.1 ≤ _
    split
    · rename_i e; rw [e]; exact h1 w hw
    · exact h.got j w hj hw
  · show _ ≤ (coinL (if j = g then l else s.P j) w).2.2.2
    split
    · rename_i e; rw [e]; rw [e] at hj; exact Int.le_trans (h.back g w hg hw) (h2 w hw)
    · exact h.back j w hj hw
  · show C m = (coinL (if (0 : Int) = g then l else s.P 0) m).2.2.1 + (coinL (if (1 : Int) = g then l else s.P 1) m).2.2.1
    have a := h.cnt m hm hw
    have b := h3 m hm hw
    rcases hg with rfl | rfl
    · rw [if_pos rfl, if_neg (by decide)]; omega
    · rw [if_neg (by decide), if_pos rfl]; omega
  · show x.2.2 ≤ (coinL (if x.1 = g then l else s.P x.1) x.2.1).2.2.2
    have q := (h.km x hx).2.2 hw
    split
    · rename_i e; rw [e] at q; exact Int.le_trans q (h2 _ hw)
    · exact q
theorem Inv.fits {s : Wd} (h : Inv s) (m : Nat) (hm : m < 40) (hl : live s.T m) : s.C m ≤ s.cap := by
  have c := h.cnt m hm hl
  have o := out_two h.okB m
  have a0 := h.got 0 m (.inl rfl) hl
  have a1 := h.got 1 m (.inr rfl) hl
  have b0 := h.back 0 m (.inl rfl) hl
  have b1 := h.back 1 m (.inr rfl) hl
  have k0 := coinL_ok (h.okP 0 (.inl rfl)) m
  have k1 := coinL_ok (h.okP 1 (.inr rfl)) m
  rw [show (0 : Int) + 1 = 1 from rfl] at a0 b0
  rw [show (1 : Int) + 1 = 2 from rfl] at a1 b1
  omega
theorem Inv.c0 {s : Wd} (h : Inv s) (m : Nat) (hm : m < 40) (hl : live s.T m) : 0 ≤ s.C m := by
  have c := h.cnt m hm hl
  have k0 := coinL_ok (h.okP 0 (.inl rfl)) m
  have k1 := coinL_ok (h.okP 1 (.inr rfl)) m
  omega
theorem Inv.deal {s : Wd} (h : Inv s) (w g n : Int) (hg : g = 0 ∨ g = 1) (p1 : winOk w) (p3 : 1 ≤ n) (hl : s.b.length < 10000) (h1 : outL s.b w + n ≤ s.cap) (h2 : dealtL s.b w (g + 1) + n ≤ 1099511627776) :
    Inv { s with b := dealL s.b w (g + 1) n, D := s.D ++ [(g, w, dealtL (dealL s.b w (g + 1) n) w (g + 1))] } := by
  have pg : gateOk (g + 1) := by unfold gateOk; omega
  obtain ⟨k1, k2, -⟩ := deal_all h.okB p1 pg (by omega) h1 h2 hl
  obtain ⟨-, -, k3, -⟩ := deal_facts h.okB p1 pg (by omega) h1 h2 (.inr hl)
  have d0 : 0 ≤ dealtL s.b w (g + 1) := by
    by_cases e : ∃ x ∈ s.b, x.1 = w ∧ x.2.1 = g + 1
    · obtain ⟨x, hx, e1, e2⟩ := e
      have := (dealt_mem h.okB.ord hx).2.1
      rw [e1, e2] at this
      have r := h.okB.v.rows x hx
      unfold rowOk at r
      omega
    · rw [(dealt_none fun x hx q => e ⟨x, hx, q⟩).2.1]; exact Int.le_refl _
  have i2 := h.bank _ k1 (fun v j _ => (k2 v j).1) (fun j v hj hv => by rw [(k2 v (j + 1)).2]; exact h.back j v hj hv)
  exact i2.toldD (g, w, _) hg p1 (by simp only; rw [k3.2.1]; omega) (Int.le_refl _)
theorem Inv.recv {s : Wd} (h : Inv s) (x : Int × Int × Int) (hx : x ∈ s.D) (hl : (s.P x.1).length < 10000) : Inv { s with P := fun j => if j = x.1 then recvL (s.P x.1) x.2.1 x.2.2 else s.P j } := by
  obtain ⟨d1, d2, d3, d4⟩ := h.dm x hx
  obtain ⟨k1, k2, -⟩ := recv_all (h.okP _ d1) d2 d3 hl
  exact h.purse x.1 d1 _ s.C k1 (fun w hw => by
    rcases (k2 w).2 with q | ⟨q1, q2⟩
    · rw [q]; exact h.got _ w d1 hw
    · rw [q2]; subst q1; exact d4 hw) (fun w hw => by rw [(k2 w).1]; exact Int.le_refl _) (fun m hm hw => by rw [(k2 m).1]; omega)
theorem Inv.spend {s : Wd} (h : Inv s) (g : Int) (hg : g = 0 ∨ g = 1) (m : Nat) (hm : m < 40) (hl : (s.P g).length < 10000) (hx : leftX (coinL (s.P g) m) ≠ 0) :
    Inv { s with P := fun j => if j = g then spendL (s.P g) m else s.P j, C := fun j => if j = m then s.C m + 1 else s.C j } := by
  have pw : winOk (m : Int) := by unfold winOk; omega
  obtain ⟨k1, k2, -⟩ := spend_all (h.okP _ hg) pw hl hx
  refine h.purse g hg _ _ k1 (fun w hw => ?_) (fun w hw => ?_) (fun j hj hw => ?_)
  · rw [k2]
    split
    · rename_i e; subst e; exact h.got g _ hg hw
    · exact h.got g w hg hw
  · rw [k2]
    split
    · rename_i e; subst e; exact Int.le_refl _
    · exact Int.le_refl _
  · rw [k2]
    by_cases e : j = m
    · subst e; rw [if_pos rfl, if_pos rfl]; simp only; omega
    · rw [if_neg e, if_neg (by omega)]; omega
theorem Inv.give {s : Wd} (h : Inv s) (g : Int) (hg : g = 0 ∨ g = 1) (w n : Int) (p1 : winOk w) (hn : 1 ≤ n) (hl : (s.P g).length < 10000) (hx : ¬ leftX (coinL (s.P g) w) < n) :
    Inv { s with P := fun j => if j = g then giveL (s.P g) w n else s.P j, K := s.K ++ [(g, w, (coinL (giveL (s.P g) w n) w).2.2.2)] } := by
  obtain ⟨k1, k2, -⟩ := give_all (h.okP _ hg) p1 hn hl hx
  have i2 := h.purse g hg _ s.C k1 (fun v hv => by
    rw [k2]
    split
    · rename_i e; subst e; exact h.got g _ hg hv
    · exact h.got g v hg hv) (fun v hv => by
    rw [k2]
    split
    · rename_i e; subst e; simp only; omega
    · exact Int.le_refl _) (fun m hm hv => by
    rw [k2]
    split
    · rename_i e; rw [← e]; simp only; omega
    · omega)
  refine i2.toldK (g, w, _) hg p1 ?_
  show _ ≤ (coinL (if g = g then giveL (s.P g) w n else s.P g) w).2.2.2
  rw [if_pos rfl]
  exact Int.le_refl _
theorem Inv.ret {s : Wd} (h : Inv s) (x : Int × Int × Int) (hx : x ∈ s.K) (ht : 0 ≤ x.2.2 ∧ x.2.2 ≤ dealtL s.b x.2.1 (x.1 + 1)) : Inv { s with b := retL s.b x.2.1 (x.1 + 1) x.2.2 } := by
  obtain ⟨d1, d2, d4⟩ := h.km x hx
  obtain ⟨k1, k2, -⟩ := ret_all (w := x.2.1) (g := x.1 + 1) h.okB ht
  refine h.bank _ k1 (fun w j _ => by rw [(k2 w j).1]; exact Int.le_refl _) (fun g w hg hw => ?_)
  rcases (k2 w (g + 1)).2 with q | ⟨q1, q2, q3⟩
  · rw [q]; exact h.back g w hg hw
  · have e : g = x.1 := by omega
    subst q1 e
    have a := d4 hw
    have b := h.back x.1 x.2.1 hg hw
    omega
theorem Inv.forget {s : Wd} (h : Inv s) (g lo : Int) (hg : g = 0 ∨ g = 1) (hlo : lo ≤ s.T) : Inv { s with b := forgetL s.b 100 lo, P := fun j => if j = g then forgetL (s.P g) 100 lo else s.P j } := by
  obtain ⟨k1, k2, -⟩ := forgetB_all (lo := lo) h.okB
  obtain ⟨c1, c2, -⟩ := forgetP_all (lo := lo) (h.okP _ hg)
  have lv : ∀ w, live s.T w → lo < (w + 1) * 100 := fun w hw => by unfold live at hw; omega
  have i2 := h.bank _ k1 (fun v j hv => by rw [(k2 v j (lv v hv)).1]; exact Int.le_refl _) (fun j v hj hv => by rw [(k2 v (j + 1) (lv v hv)).2]; exact h.back j v hj hv)
  exact i2.purse g hg _ s.C c1 (fun w hw => by rw [c2 w (lv w hw)]; exact i2.got g w hg hw) (fun w hw => by rw [c2 w (lv w hw)]; exact Int.le_refl _) (fun m hm hw => by
    have e := c2 m (lv m hw)
    show s.C m - s.C m = (coinL (forgetL (s.P g) 100 lo) m).2.2.1 - (coinL (s.P g) m).2.2.1
    rw [e]; omega)
end Am
end
section
namespace Am
open Go
attribute [local go_sem] true_implies false_implies List.take_length bne_self_eq_false beq_self_eq_true List.forall_mem_cons List.not_mem_nil false_imp_iff allOne_nil allOne_cons iv bv Value.oneCell' astep aexe asem AS.put AS.app AS.ev look eff effIf binE unE convE lenE loadE storeE fieldAddrE fieldE indexAddrE indexE sliceE low bound extractE pickE minE allocE boxE buildE buildSliceE makeSliceE appendE elsOf aliveB pairs fillA litEls partOf tdesc TI.isAgg KD.row AV.cells AV.one guardV Option.map_some Option.map_none Option.getD_some Option.bind_some Option.bind_none List.map_cons List.map_nil List.nil_append List.cons_append List.append_nil true_and and_true cond_true cond_false Nat.zero_add Nat.add_zero Nat.zero_mul Nat.mul_zero List.getElem?_cons_zero List.getElem?_cons_succ List.getElem?_nil List.getElem?_toArray List.length_cons List.length_nil List.size_toArray List.take_succ_cons List.take_zero List.drop_succ_cons List.drop_zero List.drop_nil List.take_nil List.set_cons_zero List.set_cons_succ Bool.not_true Bool.not_false List.flatMap_cons List.flatMap_nil idA false_and forall_eq implies_true Bool.false_eq_true imp_false not_true_eq_false not_false_eq_true goInt Int.toNat_natCast ne_eq Nat.le_refl and_self List.append_assoc AV.ren AV.ren2 AV.ren1 AV.ren0 updC List.zipIdx_cons List.zipIdx_nil rho Blk.ren frzT frzB frzA ti_1 ti_2 ti_3 ti_4 ti_5 ti_6 ti_7 ti_8 ti_9 ti_10 ti_11 ti_12 ti_13 ti_14 ti_15 ti_16 ti_17 ti_18 ti_19 ti_20 ti_21 ti_22 ti_23 ti_24 ti_25 ti_26 ti_27 ti_28 ti_30 ti_31 ti_32 ti_33 ti_34 ti_35 ti_36 ti_37 ti_38 ti_39 ti_40 ti_41 ti_42 ti_43 ti_44 ti_45 ti_47 ti_48 ti_49 ti_50 ti_51 ti_52 ti_53 ti_54 ti_55 ti_56 ti_57 ti_58 ti_59 ti_60 ti_61 ti_62 ti_63 ti_64 ti_65 ti_66 ti_67 ti_68 ti_69 ti_70 ti_71 ti_72 ti_73 ti_74 ti_75 ti_77 ti_78 ti_79 ti_80 ti_81 ti_82 ti_83 ti_85 ti_86 ti_87 ti_88 ti_89 ti_90 ti_91 ti_92 ti_93 ti_94 ti_96 ti_97 ti_98 ti_99 ti_100 ti_101 ti_102 ti_103 ti_104 ti_105 ti_106 ti_107 ti_108 ti_109 ti_110 ti_111 ti_112 ti_113 ti_114 ti_115 ti_116 ti_117 ti_118 ti_119 ti_120 ti_121 ti_125 ti_126 ti_127 ti_128 ti_129 ti_130 ti_131 ti_132 ti_133 ti_134
set_option maxRecDepth 100000
structure WRow (W : List AV) : Prop where
  len : W.length = 51
  one : allOne W
  ren : ∀ ρ : Nat → Nat, W.map (·.ren1 ρ) = W
  ok : W.all (·.ok1) = true
def kI (W : List AV) (E : List (List AV)) (most : Int) (i : Nat) : AS := { t := [(7, iv i), (5, iv most), (6, .ptr 0 0 0), (1, .sl E)], T := [(0, ⟨.live, false, 64, 51, [W]⟩)], N := 1, M := 0 }
set_option maxHeartbeats 8000000 in
theorem law_ec [Base] (limit : Int) (E : List (List AV)) (Ws : Nat → List AV) (tt cc : Nat → Int) (hm : 0 ≤ limit ∧ limit < 256) (hE : E.length ≤ 100) (hW : ∀ i, i ≤ E.length → WRow (Ws i))
    (hE7 : ∀ i, i < E.length → ∃ a b c d e f g : Int, E.getD i [] = [.v (.int .u8 a), .v (.int .u8 b), .v (.int .u8 c), .v (.int .u8 d), .v (.int .u8 e), .v (.int .u8 f), .v (.int .u8 g)])
    (hB : EC Try.prog 41 [] [iv (limit.tmod 21)] [] (.agg (Ws 0)))
    (hA : ∀ i, i < E.length → EC Try.prog 42 [] [.agg (Ws i), .agg (E.getD i [])] [] (.agg (Ws (i + 1))))
    (hbad : ∀ i, i < E.length → (Ws (i + 1))[50]? = some (bv false)) (htt : ∀ i, i < E.length → (Ws (i + 1))[9]? = some (iv (tt i)) ∧ 0 ≤ tt i ∧ tt i < 4000)
    (hcc : ∀ i, i < E.length → (Ws (i + 1))[10 + ((tt i).tdiv 100).toNat * 1]? = some (iv (cc i)) ∧ cc i ≤ limit.tmod 21) (hsan : EC Try.prog 8 [] [] [] (bv true)) :
    EC Try.prog 5 [] [.v (.int .u8 limit), .sl E] [] (bv true) := by
  have wm : 0 ≤ limit.tmod 21 ∧ limit.tmod 21 < 21 := by
    rw [Int.tmod_eq_emod_of_nonneg (by omega)]
    exact ⟨Int.emod_nonneg _ (by omega), Int.emod_lt_of_pos _ (by omega)⟩
  have w1 : IntKind.i64.wrap limit = limit := wrap_ok (by omega) (by omega)
  have w3 : decide (100 < (E.length : Int)) = false := decide_eq_false (by omega)
  have w2 := w3
  have h0 := hW 0 (Nat.zero_le _)
  have lW := h0.len
  have oW := h0.one
  have tW : List.take 51 (Ws 0) = Ws 0 := List.take_of_length_le (by omega)
  have vW := lW
  have l2 := lW
  have dW := lW
  have o2 := oW
  refine EC_of_awp tiOk mixed Try.func5 rfl rfl (by kernel_rfl) (by simp [Try.f5]) ?_
  simp only [start, List.zipIdx_cons, List.zipIdx_nil, List.map_cons, List.map_nil, List.length_nil, List.length_cons, Nat.zero_add, Nat.reduceAdd]
  (repeat' (first | (with_reducible first | refine zqA (fun _ _ => ?_) | refine zqB ?_ | refine zqC ?_ | refine zqD ?_ | refine zqE ?_ | refine zqF ?_ | refine zqG ?_ | refine zqH ?_ | refine zqI ?_ | refine zqJ ?_ | refine zqK ?_ | refine zqL (by decide) ?_) | ((with_reducible first | refine zqM (fun _ _ => ?_) | refine zqN (fun _ _ => ?_)); simp only [go_sem, alist, adraw, seval, w1, w2, w3, lW, oW, tW, vW, l2, o2, dW]) | (with_reducible first | refine And.intro trivial ?_ | apply_assumption -exfalso -symm)))
  refine zqO (by simp only [go_sem, alist, adraw, seval] <;> rfl) (fun h => absurd h (by simp)) (fun _ => ?_)
  (repeat' (first | (with_reducible first | refine zqA (fun _ _ => ?_) | refine zqB ?_ | refine zqC ?_ | refine zqD ?_ | refine zqE ?_ | refine zqF ?_ | refine zqG ?_ | refine zqH ?_ | refine zqI ?_ | refine zqJ ?_ | refine zqK ?_ | refine zqL (by decide) ?_) | ((with_reducible first | refine zqM (fun _ _ => ?_) | refine zqN (fun _ _ => ?_)); simp only [go_sem, alist, adraw, seval, w1, w2, w3, lW, oW, tW, vW, l2, o2, dW]) | (with_reducible first | refine And.intro trivial ?_ | apply_assumption -exfalso -symm)))
  refine ⟨[], _, CallEff.pure0 hB rfl rfl (by simp only [AV.ren, List.map_cons, List.map_nil, AV.ren2, h0.ren] <;> rfl), ?_⟩
  simp only [go_sem, alist, adraw, seval, w1, w2, w3, lW, oW, tW]
  (repeat' (first | (with_reducible first | refine zqA (fun _ _ => ?_) | refine zqB ?_ | refine zqC ?_ | refine zqD ?_ | refine zqE ?_ | refine zqF ?_ | refine zqG ?_ | refine zqH ?_ | refine zqI ?_ | refine zqJ ?_ | refine zqK ?_ | refine zqL (by decide) ?_) | ((with_reducible first | refine zqM (fun _ _ => ?_) | refine zqN (fun _ _ => ?_)); simp only [go_sem, alist, adraw, seval, w1, w2, w3, lW, oW, tW, vW, l2, o2, dW]) | (with_reducible first | refine And.intro trivial ?_ | apply_assumption -exfalso -symm)))
  refine awp_loop_k (ι := {i : Nat // i ≤ E.length}) (fun i => kI (Ws i.1) E (limit.tmod 21) i.1) (fun i => E.length - i.1) ⟨0, Nat.zero_le _⟩ ?_ fun ⟨i, hi⟩ K hK => ?_
  · refine Weak.mk' [(0, 160)] rfl (fun id h => absurd h (Nat.not_lt_zero _)) (by decide) (by simp [kI]) ?_ fun p hp => ?_
    · simp only [kI, List.mem_cons, forall_eq_or_imp, List.not_mem_nil, false_imp_iff, implies_true, and_true, go_sem, alist, adraw, seval]
      (repeat' apply And.intro) <;> rfl
    · simp only [kI] at hp
      rw [List.mem_singleton.1 hp]
      refine ⟨?_, fun row hr => by rw [List.mem_singleton.1 hr]; exact h0.ok, rfl⟩
      simp only [Blk.ren, List.map_cons, List.map_nil, h0.ren]
      rfl
  have dW : List.drop 51 (Ws i) = [] := List.drop_eq_nil_of_le (by have := (hW i hi).len; omega)
  simp only [kI]
  have h1 := hW i hi
  have lW := h1.len
  have oW := h1.one
  have tW : List.take 51 (Ws i) = Ws i := List.take_of_length_le (by omega)
  (repeat' (first | (with_reducible first | refine zqA (fun _ _ => ?_) | refine zqB ?_ | refine zqC ?_ | refine zqD ?_ | refine zqE ?_ | refine zqF ?_ | refine zqG ?_ | refine zqH ?_ | refine zqI ?_ | refine zqJ ?_ | refine zqK ?_ | refine zqL (by decide) ?_) | ((with_reducible first | refine zqM (fun _ _ => ?_) | refine zqN (fun _ _ => ?_)); simp only [go_sem, alist, adraw, seval, w1, w2, w3, lW, oW, tW, vW, l2, o2, dW]) | (with_reducible first | refine And.intro trivial ?_ | apply_assumption -exfalso -symm)))
  refine zqO (by simp only [go_sem, alist, adraw, seval] <;> rfl) ?_ ?_
  · intro hlt
    have hlt : i < E.length := by simpa using hlt
    have h2 := hW (i + 1) hlt
    have vW : List.take 51 (Ws (i + 1)) = Ws (i + 1) := List.take_of_length_le (by have := h2.len; omega)
    obtain ⟨a, b, c, d, e, f, g, eE⟩ := hE7 i hlt
    have hA := hA i hlt
    rw [eE] at hA
    have w1 : E.getD i [] = _ := eE
    obtain ⟨ht, ht0⟩ := htt i hlt
    obtain ⟨hc, hc0⟩ := hcc i hlt
    have l2 := h2.len
    have o2 := h2.one
    have w2 := hbad i hlt
    have w3 := ht
    have w4 := hc
    have w5 : decide (limit.tmod 21 < cc i) = false := decide_eq_false (by omega)
    have wt := tdiv_in (x := tt i) (y := 100) ht0.1 (by omega)
    have wu : (tt i).tdiv 100 < 40 := by rw [Int.tdiv_eq_ediv_of_nonneg (by omega)]; omega
    have w6 : IntKind.i64.wrap ((tt i).tdiv 100) = (tt i).tdiv 100 := wrap_ok (by omega) (by omega)
    (repeat' (first | (with_reducible first | refine zqA (fun _ _ => ?_) | refine zqB ?_ | refine zqC ?_ | refine zqD ?_ | refine zqE ?_ | refine zqF ?_ | refine zqG ?_ | refine zqH ?_ | refine zqI ?_ | refine zqJ ?_ | refine zqK ?_ | refine zqL (by decide) ?_) | ((with_reducible first | refine zqM (fun _ _ => ?_) | refine zqN (fun _ _ => ?_)); simp only [go_sem, alist, adraw, seval, w1, w2, w3, w4, w5, w6, lW, oW, tW, vW, l2, o2, dW]) | (with_reducible first | refine And.intro trivial ?_ | apply_assumption -exfalso -symm)))
    try refine ⟨by omega, ?_⟩
    refine ⟨[], _, CallEff.pure0 hA (by simp only [List.map_cons, List.map_nil, AV.ren2, h1.ren] <;> rfl) (by simp only [List.all_cons, List.all_nil, AV.ok2, h1.ok] <;> rfl) (by simp only [AV.ren, AV.ren2, h2.ren]), ?_⟩
    simp only [go_sem, alist, adraw, seval, w1, w2, w3, w4, w5, w6, lW, oW, tW, vW, l2, o2, dW]
    refine ⟨rfl, ?_⟩
    (repeat' (first | (with_reducible first | refine zqA (fun _ _ => ?_) | refine zqB ?_ | refine zqC ?_ | refine zqD ?_ | refine zqE ?_ | refine zqF ?_ | refine zqG ?_ | refine zqH ?_ | refine zqI ?_ | refine zqJ ?_ | refine zqK ?_ | refine zqL (by decide) ?_) | ((with_reducible first | refine zqM (fun _ _ => ?_) | refine zqN (fun _ _ => ?_)); simp only [go_sem, alist, adraw, seval, w1, w2, w3, w4, w5, w6, lW, oW, tW, vW, l2, o2, dW]) | (with_reducible first | refine And.intro trivial ?_ | apply_assumption -exfalso -symm)))
    repeat refine ⟨by omega, ?_⟩
    try (repeat' (first | (with_reducible first | refine zqA (fun _ _ => ?_) | refine zqB ?_ | refine zqC ?_ | refine zqD ?_ | refine zqE ?_ | refine zqF ?_ | refine zqG ?_ | refine zqH ?_ | refine zqI ?_ | refine zqJ ?_ | refine zqK ?_ | refine zqL (by decide) ?_) | ((with_reducible first | refine zqM (fun _ _ => ?_) | refine zqN (fun _ _ => ?_)); simp only [go_sem, alist, adraw, seval, w1, w2, w3, w4, w5, w6, lW, oW, tW, vW, l2, o2, dW]) | (with_reducible first | refine And.intro trivial ?_ | apply_assumption -exfalso -symm)))
    refine zqO (by simp only [go_sem, alist, adraw, seval, w1, w2, w3, w4, w5, w6, lW, oW, tW, vW, l2, o2, dW] <;> rfl) (fun h => absurd h (by simp)) (fun _ => ?_)
    (repeat' (first | (with_reducible first | refine zqA (fun _ _ => ?_) | refine zqB ?_ | refine zqC ?_ | refine zqD ?_ | refine zqE ?_ | refine zqF ?_ | refine zqG ?_ | refine zqH ?_ | refine zqI ?_ | refine zqJ ?_ | refine zqK ?_ | refine zqL (by decide) ?_) | ((with_reducible first | refine zqM (fun _ _ => ?_) | refine zqN (fun _ _ => ?_)); simp only [go_sem, alist, adraw, seval, w1, w2, w3, w4, w5, w6, lW, oW, tW, vW, l2, o2, dW]) | (with_reducible first | refine And.intro trivial ?_ | apply_assumption -exfalso -symm)))
    rw [wrap_ok (by omega) (by omega)]
    refine hK.go ⟨i + 1, hlt⟩ (by simp; omega) ?_
    refine Weak.mk' [(0, 0)] rfl (fun id h => absurd h (Nat.not_lt_zero _)) (by decide) (by simp [kI]) ?_ fun p hp => ?_
    · simp only [kI, List.mem_cons, forall_eq_or_imp, List.not_mem_nil, false_imp_iff, implies_true, and_true, go_sem, alist, adraw, seval]
      (repeat' apply And.intro) <;> rfl
    · simp only [kI] at hp
      rw [List.mem_singleton.1 hp]
      refine ⟨?_, fun row hr => by rw [List.mem_singleton.1 hr]; exact h2.ok, rfl⟩
      simp only [Blk.ren, List.map_cons, List.map_nil, h2.ren]
      rfl
  · intro hlt
    (repeat' (first | (with_reducible first | refine zqA (fun _ _ => ?_) | refine zqB ?_ | refine zqC ?_ | refine zqD ?_ | refine zqE ?_ | refine zqF ?_ | refine zqG ?_ | refine zqH ?_ | refine zqI ?_ | refine zqJ ?_ | refine zqK ?_ | refine zqL (by decide) ?_) | ((with_reducible first | refine zqM (fun _ _ => ?_) | refine zqN (fun _ _ => ?_)); simp only [go_sem, alist, adraw, seval, w1, w2, w3, lW, oW, tW, vW, l2, o2, dW]) | (with_reducible first | refine And.intro trivial ?_ | apply_assumption -exfalso -symm)))
    refine ⟨[], _, CallEff.pure0 hsan rfl rfl rfl, ?_⟩
    simp only [go_sem, alist, adraw, seval, w1, w2, w3, lW, oW, tW]
    (repeat' (first | (with_reducible first | refine zqA (fun _ _ => ?_) | refine zqB ?_ | refine zqC ?_ | refine zqD ?_ | refine zqE ?_ | refine zqF ?_ | refine zqG ?_ | refine zqH ?_ | refine zqI ?_ | refine zqJ ?_ | refine zqK ?_ | refine zqL (by decide) ?_) | ((with_reducible first | refine zqM (fun _ _ => ?_) | refine zqN (fun _ _ => ?_)); simp only [go_sem, alist, adraw, seval, w1, w2, w3, lW, oW, tW, vW, l2, o2, dW]) | (with_reducible first | refine And.intro trivial ?_ | apply_assumption -exfalso -symm)))
    simp only [retQ, Try.f5]; refine ret_pure (by simp only [resAll, resA, go_sem, alist, adraw, seval]; rfl) rfl ?_ ?_ ?_ ?_
    · trivial
    · rfl
    · rfl
    · rfl
set_option maxHeartbeats 8000000 in
theorem law_long [Base] (limit : Int) (E : List (List AV)) (hE : 100 < E.length) (hsan : EC Try.prog 8 [] [] [] (bv true)) :
    EC Try.prog 5 [] [.v (.int .u8 limit), .sl E] [] (bv true) := by
  have w3 : decide (100 < (E.length : Int)) = true := decide_eq_true (by omega)
  have w1 := w3
  have w2 := w3
  have lW := w3
  have oW := w3
  have tW := w3
  have vW := w3
  have l2 := w3
  have dW := w3
  have o2 := w3
  refine EC_of_awp tiOk mixed Try.func5 rfl rfl (by kernel_rfl) (by simp [Try.f5]) ?_
  simp only [start, List.zipIdx_cons, List.zipIdx_nil, List.map_cons, List.map_nil, List.length_nil, List.length_cons, Nat.zero_add, Nat.reduceAdd]
  (repeat' (first | (with_reducible first | refine zqA (fun _ _ => ?_) | refine zqB ?_ | refine zqC ?_ | refine zqD ?_ | refine zqE ?_ | refine zqF ?_ | refine zqG ?_ | refine zqH ?_ | refine zqI ?_ | refine zqJ ?_ | refine zqK ?_ | refine zqL (by decide) ?_) | ((with_reducible first | refine zqM (fun _ _ => ?_) | refine zqN (fun _ _ => ?_)); simp only [go_sem, alist, adraw, seval, w1, w2, w3, lW, oW, tW, vW, l2, o2, dW]) | (with_reducible first | refine And.intro trivial ?_ | apply_assumption -exfalso -symm)))
  refine zqO (by simp only [go_sem, alist, adraw, seval] <;> rfl) (fun _ => ?_) (fun h => absurd h (by simp))
  (repeat' (first | (with_reducible first | refine zqA (fun _ _ => ?_) | refine zqB ?_ | refine zqC ?_ | refine zqD ?_ | refine zqE ?_ | refine zqF ?_ | refine zqG ?_ | refine zqH ?_ | refine zqI ?_ | refine zqJ ?_ | refine zqK ?_ | refine zqL (by decide) ?_) | ((with_reducible first | refine zqM (fun _ _ => ?_) | refine zqN (fun _ _ => ?_)); simp only [go_sem, alist, adraw, seval, w1, w2, w3, lW, oW, tW, vW, l2, o2, dW]) | (with_reducible first | refine And.intro trivial ?_ | apply_assumption -exfalso -symm)))
  refine ⟨[], _, CallEff.pure0 hsan rfl rfl rfl, ?_⟩
  simp only [go_sem, alist, adraw, seval, w1, w2, w3, lW, oW, tW]
  (repeat' (first | (with_reducible first | refine zqA (fun _ _ => ?_) | refine zqB ?_ | refine zqC ?_ | refine zqD ?_ | refine zqE ?_ | refine zqF ?_ | refine zqG ?_ | refine zqH ?_ | refine zqI ?_ | refine zqJ ?_ | refine zqK ?_ | refine zqL (by decide) ?_) | ((with_reducible first | refine zqM (fun _ _ => ?_) | refine zqN (fun _ _ => ?_)); simp only [go_sem, alist, adraw, seval, w1, w2, w3, lW, oW, tW, vW, l2, o2, dW]) | (with_reducible first | refine And.intro trivial ?_ | apply_assumption -exfalso -symm)))
  simp only [retQ, Try.f5]; refine ret_pure (by simp only [resAll, resA, go_sem, alist, adraw, seval]; rfl) rfl ?_ ?_ ?_ ?_
  all_goals first | trivial | rfl
end Am
end
section
namespace Am
open Go
attribute [local go_sem] true_implies false_implies List.take_length bne_self_eq_false beq_self_eq_true List.forall_mem_cons List.not_mem_nil false_imp_iff allOne_nil allOne_cons iv bv Value.oneCell' astep aexe asem AS.put AS.app AS.ev look eff effIf binE unE convE lenE loadE storeE fieldAddrE fieldE indexAddrE indexE sliceE low bound extractE pickE minE allocE boxE buildE buildSliceE makeSliceE appendE elsOf aliveB pairs fillA litEls partOf tdesc TI.isAgg KD.row AV.cells AV.one guardV Option.map_some Option.map_none Option.getD_some Option.bind_some Option.bind_none List.map_cons List.map_nil List.nil_append List.cons_append List.append_nil true_and and_true cond_true cond_false Nat.zero_add Nat.add_zero Nat.zero_mul Nat.mul_zero List.getElem?_cons_zero List.getElem?_cons_succ List.getElem?_nil List.getElem?_toArray List.length_cons List.length_nil List.size_toArray List.take_succ_cons List.take_zero List.drop_succ_cons List.drop_zero List.drop_nil List.take_nil List.set_cons_zero List.set_cons_succ Bool.not_true Bool.not_false List.flatMap_cons List.flatMap_nil idA false_and forall_eq implies_true Bool.false_eq_true imp_false not_true_eq_false not_false_eq_true goInt Int.toNat_natCast ne_eq Nat.le_refl and_self List.append_assoc AV.ren AV.ren2 AV.ren1 AV.ren0 updC List.zipIdx_cons List.zipIdx_nil rho Blk.ren frzT frzB frzA ti_1 ti_2 ti_3 ti_4 ti_5 ti_6 ti_7 ti_8 ti_9 ti_10 ti_11 ti_12 ti_13 ti_14 ti_15 ti_16 ti_17 ti_18 ti_19 ti_20 ti_21 ti_22 ti_23 ti_24 ti_25 ti_26 ti_27 ti_28 ti_30 ti_31 ti_32 ti_33 ti_34 ti_35 ti_36 ti_37 ti_38 ti_39 ti_40 ti_41 ti_42 ti_43 ti_44 ti_45 ti_47 ti_48 ti_49 ti_50 ti_51 ti_52 ti_53 ti_54 ti_55 ti_56 ti_57 ti_58 ti_59 ti_60 ti_61 ti_62 ti_63 ti_64 ti_65 ti_66 ti_67 ti_68 ti_69 ti_70 ti_71 ti_72 ti_73 ti_74 ti_75 ti_77 ti_78 ti_79 ti_80 ti_81 ti_82 ti_83 ti_85 ti_86 ti_87 ti_88 ti_89 ti_90 ti_91 ti_92 ti_93 ti_94 ti_96 ti_97 ti_98 ti_99 ti_100 ti_101 ti_102 ti_103 ti_104 ti_105 ti_106 ti_107 ti_108 ti_109 ti_110 ti_111 ti_112 ti_113 ti_114 ti_115 ti_116 ti_117 ti_118 ti_119 ti_120 ti_121 ti_125 ti_126 ti_127 ti_128 ti_129 ti_130 ti_131 ti_132 ti_133 ti_134
set_option maxRecDepth 100000
abbrev nilA : AV := .v (.slice none 0 0)
def bw (cap x y z : Int) : List AV := [iv cap, iv x, nilA, iv y, nilA, iv z, nilA, nilA, nilA, iv 0, iv 0, iv 0, iv 0, iv 0, iv 0, iv 0, iv 0, iv 0, iv 0, iv 0, iv 0, iv 0, iv 0, iv 0, iv 0, iv 0, iv 0, iv 0, iv 0, iv 0, iv 0, iv 0, iv 0, iv 0, iv 0, iv 0, iv 0, iv 0, iv 0, iv 0, iv 0, iv 0, iv 0, iv 0, iv 0, iv 0, iv 0, iv 0, iv 0, iv 0, bv false]
def bI (cap y z : Int) (i : Nat) : AS := { t := [(6, iv i), (5, .ptr 1 0 0), (2, .ptr 0 0 0)], T := [(0, ⟨.live, false, 64, 51, [bw 0 0 0 0]⟩), (1, ⟨.live, false, 64, 51, [bw cap 100 y z]⟩)], N := 2, M := 0 }
set_option maxHeartbeats 4000000 in
theorem begin_ec [Base] (cap : Int) (hN : EC Try.prog 9 [] [iv cap, iv 100] [] (.tup [.agg [iv cap, iv 100, nilA], iv 0])) (hP : EC Try.prog 24 [] [iv 100] [] (.tup [.agg [iv 100, nilA], iv 0])) :
    EC Try.prog 41 [] [iv cap] [] (.agg (bw cap 100 100 100)) := by
  refine EC_of_awp tiOk mixed Try.func41 rfl rfl (by kernel_rfl) (by simp [Try.f41]) ?_
  simp only [start, List.zipIdx_cons, List.zipIdx_nil, List.map_cons, List.map_nil, List.length_nil, List.length_cons, Nat.zero_add, Nat.reduceAdd]
  (repeat' (first | (with_reducible first | refine zqA (fun _ _ => ?_) | refine zqB ?_ | refine zqC ?_ | refine zqD ?_ | refine zqE ?_ | refine zqF ?_ | refine zqG ?_ | refine zqH ?_ | refine zqI ?_ | refine zqJ ?_ | refine zqK ?_ | refine zqL (by decide) ?_) | ((with_reducible first | refine zqM (fun _ _ => ?_) | refine zqN (fun _ _ => ?_)); simp only [go_sem, alist, adraw, seval]) | (with_reducible first | refine And.intro trivial ?_ | apply_assumption -exfalso -symm)))
  refine ⟨[], _, CallEff.pure (hN) (Nat.zero_le _) rfl rfl, ?_⟩; simp only [go_sem, alist, adraw, seval]
  (repeat' (first | (with_reducible first | refine zqA (fun _ _ => ?_) | refine zqB ?_ | refine zqC ?_ | refine zqD ?_ | refine zqE ?_ | refine zqF ?_ | refine zqG ?_ | refine zqH ?_ | refine zqI ?_ | refine zqJ ?_ | refine zqK ?_ | refine zqL (by decide) ?_) | ((with_reducible first | refine zqM (fun _ _ => ?_) | refine zqN (fun _ _ => ?_)); simp only [go_sem, alist, adraw, seval]) | (with_reducible first | refine And.intro trivial ?_ | apply_assumption -exfalso -symm)))
  refine awp_loop_k (ι := Fin 3) (fun i => bI cap (if 1 ≤ i.1 then 100 else 0) (if 2 ≤ i.1 then 100 else 0) i.1) (fun i => 2 - i.1) 0 ?_ fun i K hK => ?_
  · refine Weak.mk' [(0, 0), (1, 208)] rfl (fun id h => absurd h (Nat.not_lt_zero _)) (by decide) (by simp [bI]) ?_ fun p hp => ?_
    · simp only [bI, List.mem_cons, forall_eq_or_imp, List.not_mem_nil, false_imp_iff, implies_true, and_true, go_sem, alist, adraw, seval]
      (repeat' apply And.intro) <;> rfl
    · simp only [bI] at hp
      rcases List.mem_cons.1 hp with rfl | hp
      · exact ⟨rfl, fun row hr => by rw [List.mem_singleton.1 hr]; rfl, rfl⟩
      · rw [List.mem_singleton.1 hp]
        exact ⟨rfl, fun row hr => by rw [List.mem_singleton.1 hr]; rfl, rfl⟩
  obtain ⟨i, hi⟩ := i
  rcases i with _ | _ | _ | i
  · simp only [bI, bw, Nat.reduceLeDiff, reduceIte, Nat.zero_add, Nat.reduceAdd]
    (repeat' (first | (with_reducible first | refine zqA (fun _ _ => ?_) | refine zqB ?_ | refine zqC ?_ | refine zqD ?_ | refine zqE ?_ | refine zqF ?_ | refine zqG ?_ | refine zqH ?_ | refine zqI ?_ | refine zqJ ?_ | refine zqK ?_ | refine zqL (by decide) ?_) | ((with_reducible first | refine zqM (fun _ _ => ?_) | refine zqN (fun _ _ => ?_)); simp only [go_sem, alist, adraw, seval]) | (with_reducible first | refine And.intro trivial ?_ | apply_assumption -exfalso -symm)))
    refine zqO (by simp only [go_sem, alist, adraw, seval] <;> rfl) (fun _ => ?_) (fun h => absurd h (by simp))
    (repeat' (first | (with_reducible first | refine zqA (fun _ _ => ?_) | refine zqB ?_ | refine zqC ?_ | refine zqD ?_ | refine zqE ?_ | refine zqF ?_ | refine zqG ?_ | refine zqH ?_ | refine zqI ?_ | refine zqJ ?_ | refine zqK ?_ | refine zqL (by decide) ?_) | ((with_reducible first | refine zqM (fun _ _ => ?_) | refine zqN (fun _ _ => ?_)); simp only [go_sem, alist, adraw, seval]) | (with_reducible first | refine And.intro trivial ?_ | apply_assumption -exfalso -symm)))
    refine ⟨[], _, CallEff.pure (hP) (Nat.zero_le _) rfl rfl, ?_⟩; simp only [go_sem, alist, adraw, seval]
    (repeat' (first | (with_reducible first | refine zqA (fun _ _ => ?_) | refine zqB ?_ | refine zqC ?_ | refine zqD ?_ | refine zqE ?_ | refine zqF ?_ | refine zqG ?_ | refine zqH ?_ | refine zqI ?_ | refine zqJ ?_ | refine zqK ?_ | refine zqL (by decide) ?_) | ((with_reducible first | refine zqM (fun _ _ => ?_) | refine zqN (fun _ _ => ?_)); simp only [go_sem, alist, adraw, seval]) | (with_reducible first | refine And.intro trivial ?_ | apply_assumption -exfalso -symm)))
    refine hK.go ⟨1, by omega⟩ (by simp) ?_
    · refine Weak.mk' [(0, 0), (1, 1)] rfl (fun id h => absurd h (Nat.not_lt_zero _)) (by decide) (by simp [bI]) ?_ fun p hp => ?_
      · simp only [bI, List.mem_cons, forall_eq_or_imp, List.not_mem_nil, false_imp_iff, implies_true, and_true, go_sem, alist, adraw, seval]
        (repeat' apply And.intro) <;> rfl
      · simp only [bI] at hp
        rcases List.mem_cons.1 hp with rfl | hp
        · exact ⟨rfl, fun row hr => by rw [List.mem_singleton.1 hr]; rfl, rfl⟩
        · rw [List.mem_singleton.1 hp]
          exact ⟨rfl, fun row hr => by rw [List.mem_singleton.1 hr]; rfl, rfl⟩
  · simp only [bI, bw, Nat.reduceLeDiff, reduceIte, Nat.zero_add, Nat.reduceAdd]
    (repeat' (first | (with_reducible first | refine zqA (fun _ _ => ?_) | refine zqB ?_ | refine zqC ?_ | refine zqD ?_ | refine zqE ?_ | refine zqF ?_ | refine zqG ?_ | refine zqH ?_ | refine zqI ?_ | refine zqJ ?_ | refine zqK ?_ | refine zqL (by decide) ?_) | ((with_reducible first | refine zqM (fun _ _ => ?_) | refine zqN (fun _ _ => ?_)); simp only [go_sem, alist, adraw, seval]) | (with_reducible first | refine And.intro trivial ?_ | apply_assumption -exfalso -symm)))
    refine zqO (by simp only [go_sem, alist, adraw, seval] <;> rfl) (fun _ => ?_) (fun h => absurd h (by simp))
    (repeat' (first | (with_reducible first | refine zqA (fun _ _ => ?_) | refine zqB ?_ | refine zqC ?_ | refine zqD ?_ | refine zqE ?_ | refine zqF ?_ | refine zqG ?_ | refine zqH ?_ | refine zqI ?_ | refine zqJ ?_ | refine zqK ?_ | refine zqL (by decide) ?_) | ((with_reducible first | refine zqM (fun _ _ => ?_) | refine zqN (fun _ _ => ?_)); simp only [go_sem, alist, adraw, seval]) | (with_reducible first | refine And.intro trivial ?_ | apply_assumption -exfalso -symm)))
    refine ⟨[], _, CallEff.pure (hP) (Nat.zero_le _) rfl rfl, ?_⟩; simp only [go_sem, alist, adraw, seval]
    (repeat' (first | (with_reducible first | refine zqA (fun _ _ => ?_) | refine zqB ?_ | refine zqC ?_ | refine zqD ?_ | refine zqE ?_ | refine zqF ?_ | refine zqG ?_ | refine zqH ?_ | refine zqI ?_ | refine zqJ ?_ | refine zqK ?_ | refine zqL (by decide) ?_) | ((with_reducible first | refine zqM (fun _ _ => ?_) | refine zqN (fun _ _ => ?_)); simp only [go_sem, alist, adraw, seval]) | (with_reducible first | refine And.intro trivial ?_ | apply_assumption -exfalso -symm)))
    refine hK.go ⟨2, by omega⟩ (by simp) ?_
    · refine Weak.mk' [(0, 0), (1, 1)] rfl (fun id h => absurd h (Nat.not_lt_zero _)) (by decide) (by simp [bI]) ?_ fun p hp => ?_
      · simp only [bI, List.mem_cons, forall_eq_or_imp, List.not_mem_nil, false_imp_iff, implies_true, and_true, go_sem, alist, adraw, seval]
        (repeat' apply And.intro) <;> rfl
      · simp only [bI] at hp
        rcases List.mem_cons.1 hp with rfl | hp
        · exact ⟨rfl, fun row hr => by rw [List.mem_singleton.1 hr]; rfl, rfl⟩
        · rw [List.mem_singleton.1 hp]
          exact ⟨rfl, fun row hr => by rw [List.mem_singleton.1 hr]; rfl, rfl⟩
  · simp only [bI, bw, Nat.reduceLeDiff, reduceIte, Nat.zero_add, Nat.reduceAdd]
    (repeat' (first | (with_reducible first | refine zqA (fun _ _ => ?_) | refine zqB ?_ | refine zqC ?_ | refine zqD ?_ | refine zqE ?_ | refine zqF ?_ | refine zqG ?_ | refine zqH ?_ | refine zqI ?_ | refine zqJ ?_ | refine zqK ?_ | refine zqL (by decide) ?_) | ((with_reducible first | refine zqM (fun _ _ => ?_) | refine zqN (fun _ _ => ?_)); simp only [go_sem, alist, adraw, seval]) | (with_reducible first | refine And.intro trivial ?_ | apply_assumption -exfalso -symm)))
    refine zqO (by simp only [go_sem, alist, adraw, seval] <;> rfl) (fun h => absurd h (by simp)) (fun _ => ?_)
    (repeat' (first | (with_reducible first | refine zqA (fun _ _ => ?_) | refine zqB ?_ | refine zqC ?_ | refine zqD ?_ | refine zqE ?_ | refine zqF ?_ | refine zqG ?_ | refine zqH ?_ | refine zqI ?_ | refine zqJ ?_ | refine zqK ?_ | refine zqL (by decide) ?_) | ((with_reducible first | refine zqM (fun _ _ => ?_) | refine zqN (fun _ _ => ?_)); simp only [go_sem, alist, adraw, seval]) | (with_reducible first | refine And.intro trivial ?_ | apply_assumption -exfalso -symm)))
    simp only [retQ, Try.f41]; refine ret_pure (by simp only [resAll, resA, go_sem, alist, adraw, seval]; rfl) rfl ?_ ?_ ?_ ?_
    · trivial
    · rfl
    · rfl
    · rfl
  · omega
theorem begin_map (cap : Int) : (bw cap 100 100 100).map nilS = wC cap [] [] [] [] [] 0 (List.replicate 40 (iv 0)) false := rfl
theorem begin_full [Base] (cap : Int) (h : 0 ≤ cap ∧ cap ≤ 1000) : EC Try.prog 41 [] [iv cap] [] (.agg (wC cap [] [] [] [] [] 0 (List.replicate 40 (iv 0)) false)) :=
  (begin_ec cap (newbank_ec cap (by
    refine ⟨?_, fun k hk => absurd hk (Nat.not_lt_zero _)⟩
    unfold headOk
    simp
    omega)) (newpurse_ec (by decide))).weaker fun S F w v hv => by
    obtain ⟨us, rfl, q3⟩ := hv.agg_eq
    have := map_push (f := nilS) nilS_ok q3
    rw [begin_map] at this
    exact this.agg
end Am
end
end Go.Proofs.Ytcgdhankllphgaa
