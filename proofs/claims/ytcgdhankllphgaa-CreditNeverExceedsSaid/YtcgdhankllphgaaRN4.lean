import Derived.Test.YtcgdhankllphgaaRN1
import Derived.Test.YtcgdhankllphgaaRCaE
import Derived.Test.YtcgdhankllphgaaRN2
import Derived.Test.YtcgdhankllphgaaRN5
import Derived.Test.YtcgdhankllphgaaRCaT
import Derived.Test.YtcgdhankllphgaaRN3
import Derived.Test.YtcgdhankllphgaaRO1
namespace Go.Proofs.Ytcgdhankllphgaa
set_option linter.unusedVariables false
set_option linter.unusedSimpArgs false
set_option linter.unusedSectionVars false
section
namespace Am
open Go
set_option maxRecDepth 100000
abbrev rowsA (l : List Rw) : List (List AV) := l.map fun x => vrow (encR x)
def msA (x : Int × Int × Int) : List AV := [iv x.1, iv x.2.1, iv x.2.2]
def cA (C : Nat → Int) : List AV := (List.range 40).map fun i => iv (C i)
def rowW (s : Wd) : List AV := wC s.cap (rowsA s.b) (rowsA (s.P 0)) (rowsA (s.P 1)) (s.D.map msA) (s.K.map msA) s.T (cA s.C) false
theorem cA_len (C : Nat → Int) : (cA C).length = 40 := by simp [cA]
theorem cA_plain (C : Nat → Int) : plain (cA C) := fun x hx => by
  obtain ⟨i, -, rfl⟩ := List.mem_map.1 hx
  exact ⟨_, rfl, rfl⟩
theorem cA_at (C : Nat → Int) {m : Nat} (hm : m < 40) : (cA C)[m]? = some (iv (C m)) := by simp [cA, hm]
theorem cA_set (C : Nat → Int) {m : Nat} (hm : m < 40) (y : Int) : (cA C).set m (iv y) = cA (fun j => if j = m then y else C j) := by
  refine List.ext_getElem? fun j => ?_
  rw [List.getElem?_set]
  by_cases e : m = j
  · subst e
    rw [if_pos rfl, if_pos (by rw [cA_len]; exact hm), cA_at _ hm, if_pos rfl]
  · rw [if_neg e]
    by_cases hj : j < 40
    · rw [cA_at _ hj, cA_at _ hj, if_neg (fun q => e q.symm)]
    · rw [List.getElem?_eq_none (by rw [cA_len]; omega), List.getElem?_eq_none (by rw [cA_len]; omega)]
theorem ms1 (l : List (Int × Int × Int)) : ∀ r ∈ l.map msA, r.length = 3 ∧ allOne r := fun r hr => by
  obtain ⟨x, -, rfl⟩ := List.mem_map.1 hr
  refine ⟨rfl, fun y hy => ?_⟩
  simp only [msA, List.mem_cons, List.not_mem_nil, or_false] at hy
  rcases hy with rfl | rfl | rfl <;> rfl
theorem ms2 (l : List (Int × Int × Int)) : ∀ r ∈ l.map msA, r.all (·.clo) = true := fun r hr => by
  obtain ⟨x, -, rfl⟩ := List.mem_map.1 hr
  rfl
theorem ms_getD (l : List (Int × Int × Int)) (j : Nat) (hj : j < l.length) : (l.map msA).getD j [] = msA (l.getD j (0, 0, 0)) := by
  simp [List.getD_eq_getElem?_getD, hj]
theorem ms_mem (l : List (Int × Int × Int)) (j : Nat) (hj : j < l.length) : l.getD j (0, 0, 0) ∈ l := by
  rw [List.getD_eq_getElem?_getD, List.getElem?_eq_getElem hj]
  exact List.getElem_mem _
theorem rowW_ok (s : Wd) : WRow (rowW s) := ⟨wC_len (cA_len _), wC_one (cA_plain _), fun ρ => wC_ren1 (cA_plain _) ρ, wC_all1 (cA_plain _)⟩
structure Good (s : Wd) (k : Nat) : Prop where
  inv : Inv s
  cap : 0 ≤ s.cap ∧ s.cap ≤ 20
  lb : s.b.length ≤ k
  lp : ∀ g, g = 0 ∨ g = 1 → (s.P g).length ≤ k
  lD : s.D.length ≤ k
  lK : s.K.length ≤ k
  cb : ∀ m : Nat, m < 40 → 0 ≤ s.C m ∧ s.C m ≤ k
structure EvOk (k ga wi n af ea la : Int) : Prop where
  k : 0 ≤ k ∧ k < 256
  ga : 0 ≤ ga ∧ ga < 256
  wi : 0 ≤ wi ∧ wi < 256
  n : 0 ≤ n ∧ n < 256
  af : 0 ≤ af ∧ af < 256
  ea : 0 ≤ ea ∧ ea < 256
  la : 0 ≤ la ∧ la < 256
theorem Good.time {s : Wd} {k : Nat} (h : Good s k) (t : Int) (h1 : s.T ≤ t) (h2 : t ≤ 3999) : Good { s with T := t } (k + 1) :=
  ⟨h.inv.time t h1 h2, h.cap, Nat.le_succ_of_le h.lb, fun g hg => Nat.le_succ_of_le (h.lp g hg), Nat.le_succ_of_le h.lD, Nat.le_succ_of_le h.lK, fun m hm => by have := h.cb m hm; exact ⟨this.1, by show s.C m ≤ _; omega⟩⟩
theorem win_rows {l : List Rw} (h : ∀ x ∈ l, rowOk x) : ∀ x ∈ l, winOk x.1 := fun x hx => (h x hx).1
theorem t_div {t : Int} (h : 0 ≤ t ∧ t ≤ 3999) : t.tdiv 100 = t / 100 ∧ 0 ≤ t / 100 ∧ t / 100 < 40 := by
  rw [Int.tdiv_eq_ediv_of_nonneg h.1]
  exact ⟨rfl, by omega, by omega⟩
section
variable [Base] {s : Wd} {c : Nat} {k ga wi n af ea la : Int}
def Next (s : Wd) (c : Nat) (k ga wi n af ea la : Int) : Prop := ∃ s', Good s' (c + 1) ∧ s'.cap = s.cap ∧ EC Try.prog 42 [] [.agg (rowW s), evC k ga wi n af ea la] [] (.agg (rowW s'))
theorem next0 (h : Good s c) (hc : c < 100) (e : EvOk k ga wi n af ea la) (hk : k.tmod 8 = 0) : Next s c k ga wi n af ea la := by
  obtain ⟨t, ht⟩ : ∃ t, t = min 3999 (s.T + af.tmod 64) := ⟨_, rfl⟩
  obtain ⟨lo, hlo⟩ : ∃ lo, lo = max 0 (t - ea.tmod 60) := ⟨_, rfl⟩
  obtain ⟨at_, hat⟩ : ∃ x, x = t.tdiv 100 + wi.tmod 3 := ⟨_, rfl⟩
  have m1 := tmod_in (x := af) (y := 64) e.af.1 (by omega)
  have m2 := tmod_in (x := ea) (y := 60) e.ea.1 (by omega)
  have m3 := tmod_in (x := la) (y := 60) e.la.1 (by omega)
  have m4 := tmod_in (x := wi) (y := 3) e.wi.1 (by omega)
  have mg := tmod_in (x := ga) (y := 2) e.ga.1 (by omega)
  have hT := h.inv.T
  have hcap := h.cap
  have hlb := h.lb
  have hlD := h.lD
  have hlK := h.lK
  have t0 : 0 ≤ t ∧ t ≤ 3999 := by omega
  have td := t_div t0
  have tn : s.T ≤ t := by omega
  have G := h.time t tn t0.2
  have pw : winOk at_ := by unfold winOk; omega
  have pb : perB lo (t + la.tmod 60) = true := decide_eq_true (by omega)
  have m6 := tmod_in (x := n) (y := 8) e.n.1 (by omega)
  have gg : ga.tmod 2 = 0 ∨ ga.tmod 2 = 1 := by omega
  have pg : gateOk (ga.tmod 2 + 1) := by unfold gateOk; omega
  by_cases L : s.cap < outL s.b at_ + (1 + n.tmod 8) ∨ 1099511627776 < dealtL s.b at_ (ga.tmod 2 + 1) + (1 + n.tmod 8) ∨ (hasC (cR at_ (ga.tmod 2 + 1)) s.b = false ∧ 10000 ≤ s.b.length)
  · exact ⟨{ s with T := t }, G, rfl, act0e s.cap s.T t lo at_ (ga.tmod 2) _ _ _ _ _ _ k ga wi n af ea la (cA_len _) (cA_plain _) hk rfl (by omega) e.k e.ga e.wi e.n e.af e.ea e.la hT ht hlo hat (deal_lim_ec s.cap s.b at_ _ _ h.inv.okB pw pg (by omega) L)⟩
  · have ok2 := deal_all h.inv.okB pw pg (n := 1 + n.tmod 8) (by omega) (by omega) (by omega) (by omega)
    have i2 := G.inv.deal at_ (ga.tmod 2) (1 + n.tmod 8) gg pw (by omega) (by show s.b.length < _; omega) (by show outL s.b at_ + _ ≤ s.cap; omega) (by show dealtL s.b at_ _ + _ ≤ _; omega)
    refine ⟨{ { s with T := t } with b := dealL s.b at_ (ga.tmod 2 + 1) (1 + n.tmod 8), D := s.D ++ [(ga.tmod 2, at_, dealtL (dealL s.b at_ (ga.tmod 2 + 1) (1 + n.tmod 8)) at_ (ga.tmod 2 + 1))] }, ⟨i2, hcap, by have := ok2.2.2; show (dealL s.b at_ (ga.tmod 2 + 1) (1 + n.tmod 8)).length ≤ _; omega, G.lp, by simp; omega, G.lK, G.cb⟩, rfl, ?_⟩
    have := act0 s.cap s.T t lo at_ (ga.tmod 2) (rowsA s.b) (rowsA (s.P 0)) (rowsA (s.P 1)) (s.D.map msA) (s.K.map msA) (cA s.C) k ga wi n af ea la (cA_len _) (cA_plain _) hk rfl (by omega) e.k e.ga e.wi e.n e.af e.ea e.la hT ht hlo hat (by rw [List.length_map]; omega) (ms1 _) (ms2 _) _ _ (deal_ec s.cap s.b at_ _ _ h.inv.okB pw pg (by omega) L) (dealt_ec s.cap _ at_ _ ok2.1)
    unfold rowW
    rw [List.map_append]
    exact this
theorem next1e (h : Good s c) (hc : c < 100) (e : EvOk k ga wi n af ea la) (hk : k.tmod 8 = 1) (h0 : s.D = []) : Next s c k ga wi n af ea la := by
  obtain ⟨t, ht⟩ : ∃ t, t = min 3999 (s.T + af.tmod 64) := ⟨_, rfl⟩
  obtain ⟨lo, hlo⟩ : ∃ lo, lo = max 0 (t - ea.tmod 60) := ⟨_, rfl⟩
  obtain ⟨at_, hat⟩ : ∃ x, x = t.tdiv 100 + wi.tmod 3 := ⟨_, rfl⟩
  have m1 := tmod_in (x := af) (y := 64) e.af.1 (by omega)
  have m2 := tmod_in (x := ea) (y := 60) e.ea.1 (by omega)
  have m3 := tmod_in (x := la) (y := 60) e.la.1 (by omega)
  have m4 := tmod_in (x := wi) (y := 3) e.wi.1 (by omega)
  have mg := tmod_in (x := ga) (y := 2) e.ga.1 (by omega)
  have hT := h.inv.T
  have hcap := h.cap
  have hlb := h.lb
  have hlD := h.lD
  have hlK := h.lK
  have t0 : 0 ≤ t ∧ t ≤ 3999 := by omega
  have td := t_div t0
  have tn : s.T ≤ t := by omega
  have G := h.time t tn t0.2
  have pw : winOk at_ := by unfold winOk; omega
  have pb : perB lo (t + la.tmod 60) = true := decide_eq_true (by omega)
  have := act1e s.cap s.T t lo at_ (ga.tmod 2) (rowsA s.b) (rowsA (s.P 0)) (rowsA (s.P 1)) (s.D.map msA) (s.K.map msA) (cA s.C) k ga wi n af ea la (cA_len _) (cA_plain _) hk rfl (by omega) e.k e.ga e.wi e.n e.af e.ea e.la hT ht hlo hat (by rw [h0]; rfl)
  refine ⟨{ s with T := t }, G, rfl, ?_⟩
  unfold rowW
  rw [h0] at this ⊢
  exact this
theorem next1_0 (h : Good s c) (hc : c < 100) (e : EvOk k ga wi n af ea la) (hk : k.tmod 8 = 1) (h0 : 0 < s.D.length) (w x : Int) (hx : s.D.getD (n.tmod s.D.length).toNat (0, 0, 0) = (0, w, x)) (hm : ((0 : Int), w, x) ∈ s.D) : Next s c k ga wi n af ea la := by
  obtain ⟨t, ht⟩ : ∃ t, t = min 3999 (s.T + af.tmod 64) := ⟨_, rfl⟩
  obtain ⟨lo, hlo⟩ : ∃ lo, lo = max 0 (t - ea.tmod 60) := ⟨_, rfl⟩
  obtain ⟨at_, hat⟩ : ∃ x, x = t.tdiv 100 + wi.tmod 3 := ⟨_, rfl⟩
  have m1 := tmod_in (x := af) (y := 64) e.af.1 (by omega)
  have m2 := tmod_in (x := ea) (y := 60) e.ea.1 (by omega)
  have m3 := tmod_in (x := la) (y := 60) e.la.1 (by omega)
  have m4 := tmod_in (x := wi) (y := 3) e.wi.1 (by omega)
  have mg := tmod_in (x := ga) (y := 2) e.ga.1 (by omega)
  have hT := h.inv.T
  have hcap := h.cap
  have hlb := h.lb
  have hlD := h.lD
  have hlK := h.lK
  have t0 : 0 ≤ t ∧ t ≤ 3999 := by omega
  have td := t_div t0
  have tn : s.T ≤ t := by omega
  have G := h.time t tn t0.2
  have pw : winOk at_ := by unfold winOk; omega
  have pb : perB lo (t + la.tmod 60) = true := decide_eq_true (by omega)
  have m6 := tmod_in (x := n) (y := s.D.length) e.n.1 (by omega)
  obtain ⟨-, d2, d3, -⟩ := h.inv.dm _ hm
  have hl := h.lp 0 (by decide)
  have i2 := G.inv.recv (0, w, x) hm (by show (s.P 0).length < _; omega)
  have lr := (recv_all (h.inv.okP 0 (by decide)) d2 d3 (by omega)).2.2
  refine ⟨{ { s with T := t } with P := fun i => if i = 0 then recvL (s.P 0) w x else s.P i }, ⟨i2, hcap, G.lb, fun g hg => ?_, G.lD, G.lK, G.cb⟩, rfl, ?_⟩
  · show (if g = 0 then recvL (s.P 0) w x else s.P g).length ≤ _
    split
    · simp only at lr; omega
    · exact G.lp g hg
  exact act1_0 s.cap s.T t lo at_ (ga.tmod 2) _ _ _ _ _ _ k ga wi n af ea la (cA_len _) (cA_plain _) hk rfl (by omega) e.k e.ga e.wi e.n e.af e.ea e.la hT ht hlo hat (by rw [List.length_map]; omega) (ms1 _) (ms2 _) _ w x (by rw [List.length_map]; omega) (by rw [List.length_map, ms_getD _ _ (by omega), hx]; rfl) (recv_ec _ w x (h.inv.okP 0 (by decide)) d2 d3 (.inr (.inr (by omega))))
theorem next1_1 (h : Good s c) (hc : c < 100) (e : EvOk k ga wi n af ea la) (hk : k.tmod 8 = 1) (h0 : 0 < s.D.length) (w x : Int) (hx : s.D.getD (n.tmod s.D.length).toNat (0, 0, 0) = (1, w, x)) (hm : ((1 : Int), w, x) ∈ s.D) : Next s c k ga wi n af ea la := by
  obtain ⟨t, ht⟩ : ∃ t, t = min 3999 (s.T + af.tmod 64) := ⟨_, rfl⟩
  obtain ⟨lo, hlo⟩ : ∃ lo, lo = max 0 (t - ea.tmod 60) := ⟨_, rfl⟩
  obtain ⟨at_, hat⟩ : ∃ x, x = t.tdiv 100 + wi.tmod 3 := ⟨_, rfl⟩
  have m1 := tmod_in (x := af) (y := 64) e.af.1 (by omega)
  have m2 := tmod_in (x := ea) (y := 60) e.ea.1 (by omega)
  have m3 := tmod_in (x := la) (y := 60) e.la.1 (by omega)
  have m4 := tmod_in (x := wi) (y := 3) e.wi.1 (by omega)
  have mg := tmod_in (x := ga) (y := 2) e.ga.1 (by omega)
  have hT := h.inv.T
  have hcap := h.cap
  have hlb := h.lb
  have hlD := h.lD
  have hlK := h.lK
  have t0 : 0 ≤ t ∧ t ≤ 3999 := by omega
  have td := t_div t0
  have tn : s.T ≤ t := by omega
  have G := h.time t tn t0.2
  have pw : winOk at_ := by unfold winOk; omega
  have pb : perB lo (t + la.tmod 60) = true := decide_eq_true (by omega)
  have m6 := tmod_in (x := n) (y := s.D.length) e.n.1 (by omega)
  obtain ⟨-, d2, d3, -⟩ := h.inv.dm _ hm
  have hl := h.lp 1 (by decide)
  have i2 := G.inv.recv (1, w, x) hm (by show (s.P 1).length < _; omega)
  have lr := (recv_all (h.inv.okP 1 (by decide)) d2 d3 (by omega)).2.2
  refine ⟨{ { s with T := t } with P := fun i => if i = 1 then recvL (s.P 1) w x else s.P i }, ⟨i2, hcap, G.lb, fun g hg => ?_, G.lD, G.lK, G.cb⟩, rfl, ?_⟩
  · show (if g = 1 then recvL (s.P 1) w x else s.P g).length ≤ _
    split
    · simp only at lr; omega
    · exact G.lp g hg
  exact act1_1 s.cap s.T t lo at_ (ga.tmod 2) _ _ _ _ _ _ k ga wi n af ea la (cA_len _) (cA_plain _) hk rfl (by omega) e.k e.ga e.wi e.n e.af e.ea e.la hT ht hlo hat (by rw [List.length_map]; omega) (ms1 _) (ms2 _) _ w x (by rw [List.length_map]; omega) (by rw [List.length_map, ms_getD _ _ (by omega), hx]; rfl) (recv_ec _ w x (h.inv.okP 1 (by decide)) d2 d3 (.inr (.inr (by omega))))
theorem next2_0 (h : Good s c) (hc : c < 100) (e : EvOk k ga wi n af ea la) (hk : k.tmod 8 = 2) (hj : ga.tmod 2 = 0) : Next s c k ga wi n af ea la := by
  obtain ⟨t, ht⟩ : ∃ t, t = min 3999 (s.T + af.tmod 64) := ⟨_, rfl⟩
  obtain ⟨lo, hlo⟩ : ∃ lo, lo = max 0 (t - ea.tmod 60) := ⟨_, rfl⟩
  obtain ⟨at_, hat⟩ : ∃ x, x = t.tdiv 100 + wi.tmod 3 := ⟨_, rfl⟩
  have m1 := tmod_in (x := af) (y := 64) e.af.1 (by omega)
  have m2 := tmod_in (x := ea) (y := 60) e.ea.1 (by omega)
  have m3 := tmod_in (x := la) (y := 60) e.la.1 (by omega)
  have m4 := tmod_in (x := wi) (y := 3) e.wi.1 (by omega)
  have mg := tmod_in (x := ga) (y := 2) e.ga.1 (by omega)
  have hT := h.inv.T
  have hcap := h.cap
  have hlb := h.lb
  have hlD := h.lD
  have hlK := h.lK
  have t0 : 0 ≤ t ∧ t ≤ 3999 := by omega
  have td := t_div t0
  have tn : s.T ≤ t := by omega
  have G := h.time t tn t0.2
  have pw : winOk at_ := by unfold winOk; omega
  have pb : perB lo (t + la.tmod 60) = true := decide_eq_true (by omega)
  have okp := h.inv.okP 0 (by decide)
  have hl := h.lp 0 (by decide)
  by_cases q : lo / 100 = (t + la.tmod 60) / 100
  · by_cases z : leftX (coinL (s.P 0) (lo / 100)) = 0
    · exact ⟨{ s with T := t }, G, rfl, act2e4_0 s.cap s.T t lo at_ 0 _ _ _ _ _ _ k ga wi n af ea la (cA_len _) (cA_plain _) hk hj (by omega) e.k e.ga e.wi e.n e.af e.ea e.la hT ht hlo hat rfl (spend_none_ec _ lo _ okp pb q z)⟩
    · have em : ((t / 100).toNat : Int) = lo / 100 := by omega
      have hm : (t / 100).toNat < 40 := by omega
      have cb := h.cb _ hm
      rw [← em] at z
      have i2 := G.inv.spend 0 (by decide) (t / 100).toNat hm (by show (s.P 0).length < _; omega) z
      have ls := (spend_all okp (by unfold winOk; omega) (by omega) z).2.2
      refine ⟨{ { s with T := t } with P := fun i => if i = 0 then spendL (s.P 0) (t / 100).toNat else s.P i, C := fun i => if i = (t / 100).toNat then s.C (t / 100).toNat + 1 else s.C i }, ⟨i2, hcap, G.lb, fun g hg => ?_, G.lD, G.lK, fun m hm2 => ?_⟩, rfl, ?_⟩
      · show (if g = 0 then spendL (s.P 0) (t / 100).toNat else s.P g).length ≤ _
        split
        · omega
        · exact G.lp g hg
      · show 0 ≤ (if m = (t / 100).toNat then s.C (t / 100).toNat + 1 else s.C m) ∧ (if m = (t / 100).toNat then s.C (t / 100).toNat + 1 else s.C m) ≤ _
        have := h.cb m hm2
        split <;> omega
      rw [em] at z
      have := act2_0 s.cap s.T t lo at_ 0 (rowsA s.b) (rowsA (s.P 0)) (rowsA (s.P 1)) (s.D.map msA) (s.K.map msA) _ k ga wi n af ea la (cA_len _) (cA_plain _) hk hj (by omega) e.k e.ga e.wi e.n e.af e.ea e.la hT ht hlo hat rfl _ (s.C (t / 100).toNat) (by rw [td.1]; exact cA_at _ hm) (by omega) (spend_ec _ lo _ okp pb q z)
      rw [td.1, cA_set _ hm, ← em] at this
      exact this
  · exact ⟨{ s with T := t }, G, rfl, act2e9_0 s.cap s.T t lo at_ 0 _ _ _ _ _ _ k ga wi n af ea la (cA_len _) (cA_plain _) hk hj (by omega) e.k e.ga e.wi e.n e.af e.ea e.la hT ht hlo hat rfl (spend_time_ec _ lo _ okp pb q)⟩
theorem next2_1 (h : Good s c) (hc : c < 100) (e : EvOk k ga wi n af ea la) (hk : k.tmod 8 = 2) (hj : ga.tmod 2 = 1) : Next s c k ga wi n af ea la := by
  obtain ⟨t, ht⟩ : ∃ t, t = min 3999 (s.T + af.tmod 64) := ⟨_, rfl⟩
  obtain ⟨lo, hlo⟩ : ∃ lo, lo = max 0 (t - ea.tmod 60) := ⟨_, rfl⟩
  obtain ⟨at_, hat⟩ : ∃ x, x = t.tdiv 100 + wi.tmod 3 := ⟨_, rfl⟩
  have m1 := tmod_in (x := af) (y := 64) e.af.1 (by omega)
  have m2 := tmod_in (x := ea) (y := 60) e.ea.1 (by omega)
  have m3 := tmod_in (x := la) (y := 60) e.la.1 (by omega)
  have m4 := tmod_in (x := wi) (y := 3) e.wi.1 (by omega)
  have mg := tmod_in (x := ga) (y := 2) e.ga.1 (by omega)
  have hT := h.inv.T
  have hcap := h.cap
  have hlb := h.lb
  have hlD := h.lD
  have hlK := h.lK
  have t0 : 0 ≤ t ∧ t ≤ 3999 := by omega
  have td := t_div t0
  have tn : s.T ≤ t := by omega
  have G := h.time t tn t0.2
  have pw : winOk at_ := by unfold winOk; omega
  have pb : perB lo (t + la.tmod 60) = true := decide_eq_true (by omega)
  have okp := h.inv.okP 1 (by decide)
  have hl := h.lp 1 (by decide)
  by_cases q : lo / 100 = (t + la.tmod 60) / 100
  · by_cases z : leftX (coinL (s.P 1) (lo / 100)) = 0
    · exact ⟨{ s with T := t }, G, rfl, act2e4_1 s.cap s.T t lo at_ 1 _ _ _ _ _ _ k ga wi n af ea la (cA_len _) (cA_plain _) hk hj (by omega) e.k e.ga e.wi e.n e.af e.ea e.la hT ht hlo hat rfl (spend_none_ec _ lo _ okp pb q z)⟩
    · have em : ((t / 100).toNat : Int) = lo / 100 := by omega
      have hm : (t / 100).toNat < 40 := by omega
      have cb := h.cb _ hm
      rw [← em] at z
      have i2 := G.inv.spend 1 (by decide) (t / 100).toNat hm (by show (s.P 1).length < _; omega) z
      have ls := (spend_all okp (by unfold winOk; omega) (by omega) z).2.2
      refine ⟨{ { s with T := t } with P := fun i => if i = 1 then spendL (s.P 1) (t / 100).toNat else s.P i, C := fun i => if i = (t / 100).toNat then s.C (t / 100).toNat + 1 else s.C i }, ⟨i2, hcap, G.lb, fun g hg => ?_, G.lD, G.lK, fun m hm2 => ?_⟩, rfl, ?_⟩
      · show (if g = 1 then spendL (s.P 1) (t / 100).toNat else s.P g).length ≤ _
        split
        · omega
        · exact G.lp g hg
      · show 0 ≤ (if m = (t / 100).toNat then s.C (t / 100).toNat + 1 else s.C m) ∧ (if m = (t / 100).toNat then s.C (t / 100).toNat + 1 else s.C m) ≤ _
        have := h.cb m hm2
        split <;> omega
      rw [em] at z
      have := act2_1 s.cap s.T t lo at_ 1 (rowsA s.b) (rowsA (s.P 0)) (rowsA (s.P 1)) (s.D.map msA) (s.K.map msA) _ k ga wi n af ea la (cA_len _) (cA_plain _) hk hj (by omega) e.k e.ga e.wi e.n e.af e.ea e.la hT ht hlo hat rfl _ (s.C (t / 100).toNat) (by rw [td.1]; exact cA_at _ hm) (by omega) (spend_ec _ lo _ okp pb q z)
      rw [td.1, cA_set _ hm, ← em] at this
      exact this
  · exact ⟨{ s with T := t }, G, rfl, act2e9_1 s.cap s.T t lo at_ 1 _ _ _ _ _ _ k ga wi n af ea la (cA_len _) (cA_plain _) hk hj (by omega) e.k e.ga e.wi e.n e.af e.ea e.la hT ht hlo hat rfl (spend_time_ec _ lo _ okp pb q)⟩
theorem next3_0 (h : Good s c) (hc : c < 100) (e : EvOk k ga wi n af ea la) (hk : k.tmod 8 = 3) (hj : ga.tmod 2 = 0) : Next s c k ga wi n af ea la := by
  obtain ⟨t, ht⟩ : ∃ t, t = min 3999 (s.T + af.tmod 64) := ⟨_, rfl⟩
  obtain ⟨lo, hlo⟩ : ∃ lo, lo = max 0 (t - ea.tmod 60) := ⟨_, rfl⟩
  obtain ⟨at_, hat⟩ : ∃ x, x = t.tdiv 100 + wi.tmod 3 := ⟨_, rfl⟩
  have m1 := tmod_in (x := af) (y := 64) e.af.1 (by omega)
  have m2 := tmod_in (x := ea) (y := 60) e.ea.1 (by omega)
  have m3 := tmod_in (x := la) (y := 60) e.la.1 (by omega)
  have m4 := tmod_in (x := wi) (y := 3) e.wi.1 (by omega)
  have mg := tmod_in (x := ga) (y := 2) e.ga.1 (by omega)
  have hT := h.inv.T
  have hcap := h.cap
  have hlb := h.lb
  have hlD := h.lD
  have hlK := h.lK
  have t0 : 0 ≤ t ∧ t ≤ 3999 := by omega
  have td := t_div t0
  have tn : s.T ≤ t := by omega
  have G := h.time t tn t0.2
  have pw : winOk at_ := by unfold winOk; omega
  have pb : perB lo (t + la.tmod 60) = true := decide_eq_true (by omega)
  have okp := h.inv.okP 0 (by decide)
  have hl := h.lp 0 (by decide)
  by_cases q : lo / 100 = (t + la.tmod 60) / 100
  · by_cases z : leftX (coinL (s.P 0) (lo / 100)) = 0
    · exact ⟨{ s with T := t }, G, rfl, act3e4_0 s.cap s.T t lo at_ 0 _ _ _ _ _ _ k ga wi n af ea la (cA_len _) (cA_plain _) hk hj (by omega) e.k e.ga e.wi e.n e.af e.ea e.la hT ht hlo hat rfl (spend_none_ec _ lo _ okp pb q z)⟩
    · have em : ((t / 100).toNat : Int) = lo / 100 := by omega
      have hm : (t / 100).toNat < 40 := by omega
      have cb := h.cb _ hm
      rw [← em] at z
      have i2 := G.inv.spend 0 (by decide) (t / 100).toNat hm (by show (s.P 0).length < _; omega) z
      have ls := (spend_all okp (by unfold winOk; omega) (by omega) z).2.2
      refine ⟨{ { s with T := t } with P := fun i => if i = 0 then spendL (s.P 0) (t / 100).toNat else s.P i, C := fun i => if i = (t / 100).toNat then s.C (t / 100).toNat + 1 else s.C i }, ⟨i2, hcap, G.lb, fun g hg => ?_, G.lD, G.lK, fun m hm2 => ?_⟩, rfl, ?_⟩
      · show (if g = 0 then spendL (s.P 0) (t / 100).toNat else s.P g).length ≤ _
        split
        · omega
        · exact G.lp g hg
      · show 0 ≤ (if m = (t / 100).toNat then s.C (t / 100).toNat + 1 else s.C m) ∧ (if m = (t / 100).toNat then s.C (t / 100).toNat + 1 else s.C m) ≤ _
        have := h.cb m hm2
        split <;> omega
      rw [em] at z
      have := act3_0 s.cap s.T t lo at_ 0 (rowsA s.b) (rowsA (s.P 0)) (rowsA (s.P 1)) (s.D.map msA) (s.K.map msA) _ k ga wi n af ea la (cA_len _) (cA_plain _) hk hj (by omega) e.k e.ga e.wi e.n e.af e.ea e.la hT ht hlo hat rfl _ (s.C (t / 100).toNat) (by rw [td.1]; exact cA_at _ hm) (by omega) (spend_ec _ lo _ okp pb q z)
      rw [td.1, cA_set _ hm, ← em] at this
      exact this
  · exact ⟨{ s with T := t }, G, rfl, act3e9_0 s.cap s.T t lo at_ 0 _ _ _ _ _ _ k ga wi n af ea la (cA_len _) (cA_plain _) hk hj (by omega) e.k e.ga e.wi e.n e.af e.ea e.la hT ht hlo hat rfl (spend_time_ec _ lo _ okp pb q)⟩
theorem next3_1 (h : Good s c) (hc : c < 100) (e : EvOk k ga wi n af ea la) (hk : k.tmod 8 = 3) (hj : ga.tmod 2 = 1) : Next s c k ga wi n af ea la := by
  obtain ⟨t, ht⟩ : ∃ t, t = min 3999 (s.T + af.tmod 64) := ⟨_, rfl⟩
  obtain ⟨lo, hlo⟩ : ∃ lo, lo = max 0 (t - ea.tmod 60) := ⟨_, rfl⟩
  obtain ⟨at_, hat⟩ : ∃ x, x = t.tdiv 100 + wi.tmod 3 := ⟨_, rfl⟩
  have m1 := tmod_in (x := af) (y := 64) e.af.1 (by omega)
  have m2 := tmod_in (x := ea) (y := 60) e.ea.1 (by omega)
  have m3 := tmod_in (x := la) (y := 60) e.la.1 (by omega)
  have m4 := tmod_in (x := wi) (y := 3) e.wi.1 (by omega)
  have mg := tmod_in (x := ga) (y := 2) e.ga.1 (by omega)
  have hT := h.inv.T
  have hcap := h.cap
  have hlb := h.lb
  have hlD := h.lD
  have hlK := h.lK
  have t0 : 0 ≤ t ∧ t ≤ 3999 := by omega
  have td := t_div t0
  have tn : s.T ≤ t := by omega
  have G := h.time t tn t0.2
  have pw : winOk at_ := by unfold winOk; omega
  have pb : perB lo (t + la.tmod 60) = true := decide_eq_true (by omega)
  have okp := h.inv.okP 1 (by decide)
  have hl := h.lp 1 (by decide)
  by_cases q : lo / 100 = (t + la.tmod 60) / 100
  · by_cases z : leftX (coinL (s.P 1) (lo / 100)) = 0
    · exact ⟨{ s with T := t }, G, rfl, act3e4_1 s.cap s.T t lo at_ 1 _ _ _ _ _ _ k ga wi n af ea la (cA_len _) (cA_plain _) hk hj (by omega) e.k e.ga e.wi e.n e.af e.ea e.la hT ht hlo hat rfl (spend_none_ec _ lo _ okp pb q z)⟩
    · have em : ((t / 100).toNat : Int) = lo / 100 := by omega
      have hm : (t / 100).toNat < 40 := by omega
      have cb := h.cb _ hm
      rw [← em] at z
      have i2 := G.inv.spend 1 (by decide) (t / 100).toNat hm (by show (s.P 1).length < _; omega) z
      have ls := (spend_all okp (by unfold winOk; omega) (by omega) z).2.2
      refine ⟨{ { s with T := t } with P := fun i => if i = 1 then spendL (s.P 1) (t / 100).toNat else s.P i, C := fun i => if i = (t / 100).toNat then s.C (t / 100).toNat + 1 else s.C i }, ⟨i2, hcap, G.lb, fun g hg => ?_, G.lD, G.lK, fun m hm2 => ?_⟩, rfl, ?_⟩
      · show (if g = 1 then spendL (s.P 1) (t / 100).toNat else s.P g).length ≤ _
        split
        · omega
        · exact G.lp g hg
      · show 0 ≤ (if m = (t / 100).toNat then s.C (t / 100).toNat + 1 else s.C m) ∧ (if m = (t / 100).toNat then s.C (t / 100).toNat + 1 else s.C m) ≤ _
        have := h.cb m hm2
        split <;> omega
      rw [em] at z
      have := act3_1 s.cap s.T t lo at_ 1 (rowsA s.b) (rowsA (s.P 0)) (rowsA (s.P 1)) (s.D.map msA) (s.K.map msA) _ k ga wi n af ea la (cA_len _) (cA_plain _) hk hj (by omega) e.k e.ga e.wi e.n e.af e.ea e.la hT ht hlo hat rfl _ (s.C (t / 100).toNat) (by rw [td.1]; exact cA_at _ hm) (by omega) (spend_ec _ lo _ okp pb q z)
      rw [td.1, cA_set _ hm, ← em] at this
      exact this
  · exact ⟨{ s with T := t }, G, rfl, act3e9_1 s.cap s.T t lo at_ 1 _ _ _ _ _ _ k ga wi n af ea la (cA_len _) (cA_plain _) hk hj (by omega) e.k e.ga e.wi e.n e.af e.ea e.la hT ht hlo hat rfl (spend_time_ec _ lo _ okp pb q)⟩
theorem next4_0 (h : Good s c) (hc : c < 100) (e : EvOk k ga wi n af ea la) (hk : k.tmod 8 = 4) (hj : ga.tmod 2 = 0) : Next s c k ga wi n af ea la := by
  obtain ⟨t, ht⟩ : ∃ t, t = min 3999 (s.T + af.tmod 64) := ⟨_, rfl⟩
  obtain ⟨lo, hlo⟩ : ∃ lo, lo = max 0 (t - ea.tmod 60) := ⟨_, rfl⟩
  obtain ⟨at_, hat⟩ : ∃ x, x = t.tdiv 100 + wi.tmod 3 := ⟨_, rfl⟩
  have m1 := tmod_in (x := af) (y := 64) e.af.1 (by omega)
  have m2 := tmod_in (x := ea) (y := 60) e.ea.1 (by omega)
  have m3 := tmod_in (x := la) (y := 60) e.la.1 (by omega)
  have m4 := tmod_in (x := wi) (y := 3) e.wi.1 (by omega)
  have mg := tmod_in (x := ga) (y := 2) e.ga.1 (by omega)
  have hT := h.inv.T
  have hcap := h.cap
  have hlb := h.lb
  have hlD := h.lD
  have hlK := h.lK
  have t0 : 0 ≤ t ∧ t ≤ 3999 := by omega
  have td := t_div t0
  have tn : s.T ≤ t := by omega
  have G := h.time t tn t0.2
  have pw : winOk at_ := by unfold winOk; omega
  have pb : perB lo (t + la.tmod 60) = true := decide_eq_true (by omega)
  have okp := h.inv.okP 0 (by decide)
  have hl := h.lp 0 (by decide)
  by_cases q : lo / 100 = (t + la.tmod 60) / 100
  · by_cases z : leftX (coinL (s.P 0) (lo / 100)) = 0
    · exact ⟨{ s with T := t }, G, rfl, act4e4_0 s.cap s.T t lo at_ 0 _ _ _ _ _ _ k ga wi n af ea la (cA_len _) (cA_plain _) hk hj (by omega) e.k e.ga e.wi e.n e.af e.ea e.la hT ht hlo hat rfl (spend_none_ec _ lo _ okp pb q z)⟩
    · have em : ((t / 100).toNat : Int) = lo / 100 := by omega
      have hm : (t / 100).toNat < 40 := by omega
      have cb := h.cb _ hm
      rw [← em] at z
      have i2 := G.inv.spend 0 (by decide) (t / 100).toNat hm (by show (s.P 0).length < _; omega) z
      have ls := (spend_all okp (by unfold winOk; omega) (by omega) z).2.2
      refine ⟨{ { s with T := t } with P := fun i => if i = 0 then spendL (s.P 0) (t / 100).toNat else s.P i, C := fun i => if i = (t / 100).toNat then s.C (t / 100).toNat + 1 else s.C i }, ⟨i2, hcap, G.lb, fun g hg => ?_, G.lD, G.lK, fun m hm2 => ?_⟩, rfl, ?_⟩
      · show (if g = 0 then spendL (s.P 0) (t / 100).toNat else s.P g).length ≤ _
        split
        · omega
        · exact G.lp g hg
      · show 0 ≤ (if m = (t / 100).toNat then s.C (t / 100).toNat + 1 else s.C m) ∧ (if m = (t / 100).toNat then s.C (t / 100).toNat + 1 else s.C m) ≤ _
        have := h.cb m hm2
        split <;> omega
      rw [em] at z
      have := act4_0 s.cap s.T t lo at_ 0 (rowsA s.b) (rowsA (s.P 0)) (rowsA (s.P 1)) (s.D.map msA) (s.K.map msA) _ k ga wi n af ea la (cA_len _) (cA_plain _) hk hj (by omega) e.k e.ga e.wi e.n e.af e.ea e.la hT ht hlo hat rfl _ (s.C (t / 100).toNat) (by rw [td.1]; exact cA_at _ hm) (by omega) (spend_ec _ lo _ okp pb q z)
      rw [td.1, cA_set _ hm, ← em] at this
      exact this
  · exact ⟨{ s with T := t }, G, rfl, act4e9_0 s.cap s.T t lo at_ 0 _ _ _ _ _ _ k ga wi n af ea la (cA_len _) (cA_plain _) hk hj (by omega) e.k e.ga e.wi e.n e.af e.ea e.la hT ht hlo hat rfl (spend_time_ec _ lo _ okp pb q)⟩
theorem next4_1 (h : Good s c) (hc : c < 100) (e : EvOk k ga wi n af ea la) (hk : k.tmod 8 = 4) (hj : ga.tmod 2 = 1) : Next s c k ga wi n af ea la := by
  obtain ⟨t, ht⟩ : ∃ t, t = min 3999 (s.T + af.tmod 64) := ⟨_, rfl⟩
  obtain ⟨lo, hlo⟩ : ∃ lo, lo = max 0 (t - ea.tmod 60) := ⟨_, rfl⟩
  obtain ⟨at_, hat⟩ : ∃ x, x = t.tdiv 100 + wi.tmod 3 := ⟨_, rfl⟩
  have m1 := tmod_in (x := af) (y := 64) e.af.1 (by omega)
  have m2 := tmod_in (x := ea) (y := 60) e.ea.1 (by omega)
  have m3 := tmod_in (x := la) (y := 60) e.la.1 (by omega)
  have m4 := tmod_in (x := wi) (y := 3) e.wi.1 (by omega)
  have mg := tmod_in (x := ga) (y := 2) e.ga.1 (by omega)
  have hT := h.inv.T
  have hcap := h.cap
  have hlb := h.lb
  have hlD := h.lD
  have hlK := h.lK
  have t0 : 0 ≤ t ∧ t ≤ 3999 := by omega
  have td := t_div t0
  have tn : s.T ≤ t := by omega
  have G := h.time t tn t0.2
  have pw : winOk at_ := by unfold winOk; omega
  have pb : perB lo (t + la.tmod 60) = true := decide_eq_true (by omega)
  have okp := h.inv.okP 1 (by decide)
  have hl := h.lp 1 (by decide)
  by_cases q : lo / 100 = (t + la.tmod 60) / 100
  · by_cases z : leftX (coinL (s.P 1) (lo / 100)) = 0
    · exact ⟨{ s with T := t }, G, rfl, act4e4_1 s.cap s.T t lo at_ 1 _ _ _ _ _ _ k ga wi n af ea la (cA_len _) (cA_plain _) hk hj (by omega) e.k e.ga e.wi e.n e.af e.ea e.la hT ht hlo hat rfl (spend_none_ec _ lo _ okp pb q z)⟩
    · have em : ((t / 100).toNat : Int) = lo / 100 := by omega
      have hm : (t / 100).toNat < 40 := by omega
      have cb := h.cb _ hm
      rw [← em] at z
      have i2 := G.inv.spend 1 (by decide) (t / 100).toNat hm (by show (s.P 1).length < _; omega) z
      have ls := (spend_all okp (by unfold winOk; omega) (by omega) z).2.2
      refine ⟨{ { s with T := t } with P := fun i => if i = 1 then spendL (s.P 1) (t / 100).toNat else s.P i, C := fun i => if i = (t / 100).toNat then s.C (t / 100).toNat + 1 else s.C i }, ⟨i2, hcap, G.lb, fun g hg => ?_, G.lD, G.lK, fun m hm2 => ?_⟩, rfl, ?_⟩
      · show (if g = 1 then spendL (s.P 1) (t / 100).toNat else s.P g).length ≤ _
        split
        · omega
        · exact G.lp g hg
      · show 0 ≤ (if m = (t / 100).toNat then s.C (t / 100).toNat + 1 else s.C m) ∧ (if m = (t / 100).toNat then s.C (t / 100).toNat + 1 else s.C m) ≤ _
        have := h.cb m hm2
        split <;> omega
      rw [em] at z
      have := act4_1 s.cap s.T t lo at_ 1 (rowsA s.b) (rowsA (s.P 0)) (rowsA (s.P 1)) (s.D.map msA) (s.K.map msA) _ k ga wi n af ea la (cA_len _) (cA_plain _) hk hj (by omega) e.k e.ga e.wi e.n e.af e.ea e.la hT ht hlo hat rfl _ (s.C (t / 100).toNat) (by rw [td.1]; exact cA_at _ hm) (by omega) (spend_ec _ lo _ okp pb q z)
      rw [td.1, cA_set _ hm, ← em] at this
      exact this
  · exact ⟨{ s with T := t }, G, rfl, act4e9_1 s.cap s.T t lo at_ 1 _ _ _ _ _ _ k ga wi n af ea la (cA_len _) (cA_plain _) hk hj (by omega) e.k e.ga e.wi e.n e.af e.ea e.la hT ht hlo hat rfl (spend_time_ec _ lo _ okp pb q)⟩
theorem next5_0 (h : Good s c) (hc : c < 100) (e : EvOk k ga wi n af ea la) (hk : k.tmod 8 = 5) (hj : ga.tmod 2 = 0) : Next s c k ga wi n af ea la := by
  obtain ⟨t, ht⟩ : ∃ t, t = min 3999 (s.T + af.tmod 64) := ⟨_, rfl⟩
  obtain ⟨lo, hlo⟩ : ∃ lo, lo = max 0 (t - ea.tmod 60) := ⟨_, rfl⟩
  obtain ⟨at_, hat⟩ : ∃ x, x = t.tdiv 100 + wi.tmod 3 := ⟨_, rfl⟩
  have m1 := tmod_in (x := af) (y := 64) e.af.1 (by omega)
  have m2 := tmod_in (x := ea) (y := 60) e.ea.1 (by omega)
  have m3 := tmod_in (x := la) (y := 60) e.la.1 (by omega)
  have m4 := tmod_in (x := wi) (y := 3) e.wi.1 (by omega)
  have mg := tmod_in (x := ga) (y := 2) e.ga.1 (by omega)
  have hT := h.inv.T
  have hcap := h.cap
  have hlb := h.lb
  have hlD := h.lD
  have hlK := h.lK
  have t0 : 0 ≤ t ∧ t ≤ 3999 := by omega
  have td := t_div t0
  have tn : s.T ≤ t := by omega
  have G := h.time t tn t0.2
  have pw : winOk at_ := by unfold winOk; omega
  have pb : perB lo (t + la.tmod 60) = true := decide_eq_true (by omega)
  have m6 := tmod_in (x := n) (y := 4) e.n.1 (by omega)
  have okp := h.inv.okP 0 (by decide)
  have hl := h.lp 0 (by decide)
  by_cases q : leftX (coinL (s.P 0) at_) < 1 + n.tmod 4
  · exact ⟨{ s with T := t }, G, rfl, act5e_0 s.cap s.T t lo at_ 0 _ _ _ _ _ _ k ga wi n af ea la (cA_len _) (cA_plain _) hk hj (by omega) e.k e.ga e.wi e.n e.af e.ea e.la hT ht hlo hat rfl (give_err_ec _ at_ _ okp pw (by omega) q)⟩
  · have gv := give_all okp pw (n := 1 + n.tmod 4) (by omega) (by omega) q
    have i2 := G.inv.give 0 (by decide) at_ (1 + n.tmod 4) pw (by omega) (by show (s.P 0).length < _; omega) q
    have lg := gv.2.2
    refine ⟨{ { s with T := t } with P := fun i => if i = 0 then giveL (s.P 0) at_ (1 + n.tmod 4) else s.P i, K := s.K ++ [(0, at_, (coinL (giveL (s.P 0) at_ (1 + n.tmod 4)) at_).2.2.2)] }, ⟨i2, hcap, G.lb, fun g hg => ?_, G.lD, by simp; omega, G.cb⟩, rfl, ?_⟩
    · show (if g = 0 then giveL (s.P 0) at_ (1 + n.tmod 4) else s.P g).length ≤ _
      split
      · omega
      · exact G.lp g hg
    have := act5_0 s.cap s.T t lo at_ 0 (rowsA s.b) (rowsA (s.P 0)) (rowsA (s.P 1)) (s.D.map msA) (s.K.map msA) (cA s.C) k ga wi n af ea la (cA_len _) (cA_plain _) hk hj (by omega) e.k e.ga e.wi e.n e.af e.ea e.la hT ht hlo hat (by rw [List.length_map]; omega) (ms1 _) (ms2 _) rfl _ _ (give_ec _ at_ _ okp pw (by omega) q) (back_ec _ at_ gv.1)
    unfold rowW
    rw [List.map_append]
    exact this
theorem next5_1 (h : Good s c) (hc : c < 100) (e : EvOk k ga wi n af ea la) (hk : k.tmod 8 = 5) (hj : ga.tmod 2 = 1) : Next s c k ga wi n af ea la := by
  obtain ⟨t, ht⟩ : ∃ t, t = min 3999 (s.T + af.tmod 64) := ⟨_, rfl⟩
  obtain ⟨lo, hlo⟩ : ∃ lo, lo = max 0 (t - ea.tmod 60) := ⟨_, rfl⟩
  obtain ⟨at_, hat⟩ : ∃ x, x = t.tdiv 100 + wi.tmod 3 := ⟨_, rfl⟩
  have m1 := tmod_in (x := af) (y := 64) e.af.1 (by omega)
  have m2 := tmod_in (x := ea) (y := 60) e.ea.1 (by omega)
  have m3 := tmod_in (x := la) (y := 60) e.la.1 (by omega)
  have m4 := tmod_in (x := wi) (y := 3) e.wi.1 (by omega)
  have mg := tmod_in (x := ga) (y := 2) e.ga.1 (by omega)
  have hT := h.inv.T
  have hcap := h.cap
  have hlb := h.lb
  have hlD := h.lD
  have hlK := h.lK
  have t0 : 0 ≤ t ∧ t ≤ 3999 := by omega
  have td := t_div t0
  have tn : s.T ≤ t := by omega
  have G := h.time t tn t0.2
  have pw : winOk at_ := by unfold winOk; omega
  have pb : perB lo (t + la.tmod 60) = true := decide_eq_true (by omega)
  have m6 := tmod_in (x := n) (y := 4) e.n.1 (by omega)
  have okp := h.inv.okP 1 (by decide)
  have hl := h.lp 1 (by decide)
  by_cases q : leftX (coinL (s.P 1) at_) < 1 + n.tmod 4
  · exact ⟨{ s with T := t }, G, rfl, act5e_1 s.cap s.T t lo at_ 1 _ _ _ _ _ _ k ga wi n af ea la (cA_len _) (cA_plain _) hk hj (by omega) e.k e.ga e.wi e.n e.af e.ea e.la hT ht hlo hat rfl (give_err_ec _ at_ _ okp pw (by omega) q)⟩
  · have gv := give_all okp pw (n := 1 + n.tmod 4) (by omega) (by omega) q
    have i2 := G.inv.give 1 (by decide) at_ (1 + n.tmod 4) pw (by omega) (by show (s.P 1).length < _; omega) q
    have lg := gv.2.2
    refine ⟨{ { s with T := t } with P := fun i => if i = 1 then giveL (s.P 1) at_ (1 + n.tmod 4) else s.P i, K := s.K ++ [(1, at_, (coinL (giveL (s.P 1) at_ (1 + n.tmod 4)) at_).2.2.2)] }, ⟨i2, hcap, G.lb, fun g hg => ?_, G.lD, by simp; omega, G.cb⟩, rfl, ?_⟩
    · show (if g = 1 then giveL (s.P 1) at_ (1 + n.tmod 4) else s.P g).length ≤ _
      split
      · omega
      · exact G.lp g hg
    have := act5_1 s.cap s.T t lo at_ 1 (rowsA s.b) (rowsA (s.P 0)) (rowsA (s.P 1)) (s.D.map msA) (s.K.map msA) (cA s.C) k ga wi n af ea la (cA_len _) (cA_plain _) hk hj (by omega) e.k e.ga e.wi e.n e.af e.ea e.la hT ht hlo hat (by rw [List.length_map]; omega) (ms1 _) (ms2 _) rfl _ _ (give_ec _ at_ _ okp pw (by omega) q) (back_ec _ at_ gv.1)
    unfold rowW
    rw [List.map_append]
    exact this
theorem next6e (h : Good s c) (hc : c < 100) (e : EvOk k ga wi n af ea la) (hk : k.tmod 8 = 6) (h0 : s.K = []) : Next s c k ga wi n af ea la := by
  obtain ⟨t, ht⟩ : ∃ t, t = min 3999 (s.T + af.tmod 64) := ⟨_, rfl⟩
  obtain ⟨lo, hlo⟩ : ∃ lo, lo = max 0 (t - ea.tmod 60) := ⟨_, rfl⟩
  obtain ⟨at_, hat⟩ : ∃ x, x = t.tdiv 100 + wi.tmod 3 := ⟨_, rfl⟩
  have m1 := tmod_in (x := af) (y := 64) e.af.1 (by omega)
  have m2 := tmod_in (x := ea) (y := 60) e.ea.1 (by omega)
  have m3 := tmod_in (x := la) (y := 60) e.la.1 (by omega)
  have m4 := tmod_in (x := wi) (y := 3) e.wi.1 (by omega)
  have mg := tmod_in (x := ga) (y := 2) e.ga.1 (by omega)
  have hT := h.inv.T
  have hcap := h.cap
  have hlb := h.lb
  have hlD := h.lD
  have hlK := h.lK
  have t0 : 0 ≤ t ∧ t ≤ 3999 := by omega
  have td := t_div t0
  have tn : s.T ≤ t := by omega
  have G := h.time t tn t0.2
  have pw : winOk at_ := by unfold winOk; omega
  have pb : perB lo (t + la.tmod 60) = true := decide_eq_true (by omega)
  have := act6e s.cap s.T t lo at_ (ga.tmod 2) (rowsA s.b) (rowsA (s.P 0)) (rowsA (s.P 1)) (s.D.map msA) (s.K.map msA) (cA s.C) k ga wi n af ea la (cA_len _) (cA_plain _) hk rfl (by omega) e.k e.ga e.wi e.n e.af e.ea e.la hT ht hlo hat (by rw [h0]; rfl)
  refine ⟨{ s with T := t }, G, rfl, ?_⟩
  unfold rowW
  rw [h0] at this ⊢
  exact this
theorem next6 (h : Good s c) (hc : c < 100) (e : EvOk k ga wi n af ea la) (hk : k.tmod 8 = 6) (h0 : 0 < s.K.length) (y w x : Int) (hx : s.K.getD (n.tmod s.K.length).toNat (0, 0, 0) = (y, w, x)) (hm : (y, w, x) ∈ s.K) : Next s c k ga wi n af ea la := by
  obtain ⟨t, ht⟩ : ∃ t, t = min 3999 (s.T + af.tmod 64) := ⟨_, rfl⟩
  obtain ⟨lo, hlo⟩ : ∃ lo, lo = max 0 (t - ea.tmod 60) := ⟨_, rfl⟩
  obtain ⟨at_, hat⟩ : ∃ x, x = t.tdiv 100 + wi.tmod 3 := ⟨_, rfl⟩
  have m1 := tmod_in (x := af) (y := 64) e.af.1 (by omega)
  have m2 := tmod_in (x := ea) (y := 60) e.ea.1 (by omega)
  have m3 := tmod_in (x := la) (y := 60) e.la.1 (by omega)
  have m4 := tmod_in (x := wi) (y := 3) e.wi.1 (by omega)
  have mg := tmod_in (x := ga) (y := 2) e.ga.1 (by omega)
  have hT := h.inv.T
  have hcap := h.cap
  have hlb := h.lb
  have hlD := h.lD
  have hlK := h.lK
  have t0 : 0 ≤ t ∧ t ≤ 3999 := by omega
  have td := t_div t0
  have tn : s.T ≤ t := by omega
  have G := h.time t tn t0.2
  have pw : winOk at_ := by unfold winOk; omega
  have pb : perB lo (t + la.tmod 60) = true := decide_eq_true (by omega)
  have m6 := tmod_in (x := n) (y := s.K.length) e.n.1 (by omega)
  obtain ⟨d1, d2, -⟩ := h.inv.km _ hm
  simp only at d1 d2
  have pg : gateOk (y + 1) := by unfold gateOk; omega
  by_cases q : 0 ≤ x ∧ x ≤ dealtL s.b w (y + 1)
  · have i2 := G.inv.ret (y, w, x) hm q
    have lr := (ret_all (w := w) (g := y + 1) (t := x) h.inv.okB q).2.2
    refine ⟨{ { s with T := t } with b := retL s.b w (y + 1) x }, ⟨i2, hcap, by show (retL s.b w (y + 1) x).length ≤ _; omega, G.lp, G.lD, G.lK, G.cb⟩, rfl, ?_⟩
    exact act6 s.cap s.T t lo at_ (ga.tmod 2) _ _ _ _ _ _ k ga wi n af ea la (cA_len _) (cA_plain _) hk rfl (by omega) e.k e.ga e.wi e.n e.af e.ea e.la hT ht hlo hat (by rw [List.length_map]; omega) (ms1 _) (ms2 _) y w x (by omega) (by rw [List.length_map]; omega) (by rw [List.length_map, ms_getD _ _ (by omega), hx]; rfl) _ (ret_ec s.cap s.b w (y + 1) x h.inv.okB d2 pg q)
  · exact ⟨{ s with T := t }, G, rfl, act6x s.cap s.T t lo at_ (ga.tmod 2) _ _ _ _ _ _ k ga wi n af ea la (cA_len _) (cA_plain _) hk rfl (by omega) e.k e.ga e.wi e.n e.af e.ea e.la hT ht hlo hat (by rw [List.length_map]; omega) (ms1 _) (ms2 _) y w x (by omega) (by rw [List.length_map]; omega) (by rw [List.length_map, ms_getD _ _ (by omega), hx]; rfl) (ret_err_ec s.cap s.b w (y + 1) x (by omega) (fun z => q ⟨z.2.2.2.1, z.2.2.2.2⟩))⟩
theorem next7_0 (h : Good s c) (hc : c < 100) (e : EvOk k ga wi n af ea la) (hk : k.tmod 8 = 7) (hj : ga.tmod 2 = 0) : Next s c k ga wi n af ea la := by
  obtain ⟨t, ht⟩ : ∃ t, t = min 3999 (s.T + af.tmod 64) := ⟨_, rfl⟩
  obtain ⟨lo, hlo⟩ : ∃ lo, lo = max 0 (t - ea.tmod 60) := ⟨_, rfl⟩
  obtain ⟨at_, hat⟩ : ∃ x, x = t.tdiv 100 + wi.tmod 3 := ⟨_, rfl⟩
  have m1 := tmod_in (x := af) (y := 64) e.af.1 (by omega)
  have m2 := tmod_in (x := ea) (y := 60) e.ea.1 (by omega)
  have m3 := tmod_in (x := la) (y := 60) e.la.1 (by omega)
  have m4 := tmod_in (x := wi) (y := 3) e.wi.1 (by omega)
  have mg := tmod_in (x := ga) (y := 2) e.ga.1 (by omega)
  have hT := h.inv.T
  have hcap := h.cap
  have hlb := h.lb
  have hlD := h.lD
  have hlK := h.lK
  have t0 : 0 ≤ t ∧ t ≤ 3999 := by omega
  have td := t_div t0
  have tn : s.T ≤ t := by omega
  have G := h.time t tn t0.2
  have pw : winOk at_ := by unfold winOk; omega
  have pb : perB lo (t + la.tmod 60) = true := decide_eq_true (by omega)
  have okp := h.inv.okP 0 (by decide)
  have hl := h.lp 0 (by decide)
  have i2 := G.inv.forget 0 lo (by decide) (by show lo ≤ t; omega)
  have lb := (forgetB_all (lo := lo) h.inv.okB).2.2
  have lp := (forgetP_all (lo := lo) okp).2.2
  refine ⟨{ { s with T := t } with b := forgetL s.b 100 lo, P := fun i => if i = 0 then forgetL (s.P 0) 100 lo else s.P i }, ⟨i2, hcap, by show (forgetL s.b 100 lo).length ≤ _; omega, fun g hg => ?_, G.lD, G.lK, G.cb⟩, rfl, ?_⟩
  · show (if g = 0 then forgetL (s.P 0) 100 lo else s.P g).length ≤ _
    split
    · omega
    · exact G.lp g hg
  exact act7_0 s.cap s.T t lo at_ 0 _ _ _ _ _ _ k ga wi n af ea la (cA_len _) (cA_plain _) hk hj (by omega) e.k e.ga e.wi e.n e.af e.ea e.la hT ht hlo hat rfl _ _ (forget_ec s.cap s.b lo _ h.inv.okB pb (win_rows h.inv.okB.v.rows)) (drop_ec _ lo _ okp pb (fun x hx => (okp.v.rows x hx).1))
theorem next7_1 (h : Good s c) (hc : c < 100) (e : EvOk k ga wi n af ea la) (hk : k.tmod 8 = 7) (hj : ga.tmod 2 = 1) : Next s c k ga wi n af ea la := by
  obtain ⟨t, ht⟩ : ∃ t, t = min 3999 (s.T + af.tmod 64) := ⟨_, rfl⟩
  obtain ⟨lo, hlo⟩ : ∃ lo, lo = max 0 (t - ea.tmod 60) := ⟨_, rfl⟩
  obtain ⟨at_, hat⟩ : ∃ x, x = t.tdiv 100 + wi.tmod 3 := ⟨_, rfl⟩
  have m1 := tmod_in (x := af) (y := 64) e.af.1 (by omega)
  have m2 := tmod_in (x := ea) (y := 60) e.ea.1 (by omega)
  have m3 := tmod_in (x := la) (y := 60) e.la.1 (by omega)
  have m4 := tmod_in (x := wi) (y := 3) e.wi.1 (by omega)
  have mg := tmod_in (x := ga) (y := 2) e.ga.1 (by omega)
  have hT := h.inv.T
  have hcap := h.cap
  have hlb := h.lb
  have hlD := h.lD
  have hlK := h.lK
  have t0 : 0 ≤ t ∧ t ≤ 3999 := by omega
  have td := t_div t0
  have tn : s.T ≤ t := by omega
  have G := h.time t tn t0.2
  have pw : winOk at_ := by unfold winOk; omega
  have pb : perB lo (t + la.tmod 60) = true := decide_eq_true (by omega)
  have okp := h.inv.okP 1 (by decide)
  have hl := h.lp 1 (by decide)
  have i2 := G.inv.forget 1 lo (by decide) (by show lo ≤ t; omega)
  have lb := (forgetB_all (lo := lo) h.inv.okB).2.2
  have lp := (forgetP_all (lo := lo) okp).2.2
  refine ⟨{ { s with T := t } with b := forgetL s.b 100 lo, P := fun i => if i = 1 then forgetL (s.P 1) 100 lo else s.P i }, ⟨i2, hcap, by show (forgetL s.b 100 lo).length ≤ _; omega, fun g hg => ?_, G.lD, G.lK, G.cb⟩, rfl, ?_⟩
  · show (if g = 1 then forgetL (s.P 1) 100 lo else s.P g).length ≤ _
    split
    · omega
    · exact G.lp g hg
  exact act7_1 s.cap s.T t lo at_ 1 _ _ _ _ _ _ k ga wi n af ea la (cA_len _) (cA_plain _) hk hj (by omega) e.k e.ga e.wi e.n e.af e.ea e.la hT ht hlo hat rfl _ _ (forget_ec s.cap s.b lo _ h.inv.okB pb (win_rows h.inv.okB.v.rows)) (drop_ec _ lo _ okp pb (fun x hx => (okp.v.rows x hx).1))
theorem next_any (h : Good s c) (hc : c < 100) (e : EvOk k ga wi n af ea la) : Next s c k ga wi n af ea la := by
  have k8 := tmod_in (x := k) (y := 8) e.k.1 (by omega)
  have g2 := tmod_in (x := ga) (y := 2) e.ga.1 (by omega)
  have ck : k.tmod 8 = 0 ∨ k.tmod 8 = 1 ∨ k.tmod 8 = 2 ∨ k.tmod 8 = 3 ∨ k.tmod 8 = 4 ∨ k.tmod 8 = 5 ∨ k.tmod 8 = 6 ∨ k.tmod 8 = 7 := by omega
  have cg : ga.tmod 2 = 0 ∨ ga.tmod 2 = 1 := by omega
  rcases ck with q | q | q | q | q | q | q | q
  · exact next0 h hc e q
  · by_cases z : s.D = []
    · exact next1e h hc e q z
    · have z0 : 0 < s.D.length := Nat.pos_of_ne_zero fun y => z (List.length_eq_zero_iff.1 y)
      have m := tmod_in (x := n) (y := s.D.length) e.n.1 (by omega)
      have mem := ms_mem s.D (n.tmod s.D.length).toNat (by omega)
      obtain ⟨⟨y, w, x⟩, hx⟩ : ∃ x, s.D.getD (n.tmod s.D.length).toNat (0, 0, 0) = x := ⟨_, rfl⟩
      rw [hx] at mem
      rcases (h.inv.dm _ mem).1 with r | r
      · simp only at r; subst r; exact next1_0 h hc e q z0 w x hx mem
      · simp only at r; subst r; exact next1_1 h hc e q z0 w x hx mem
  · rcases cg with p | p
    · exact next2_0 h hc e q p
    · exact next2_1 h hc e q p
  · rcases cg with p | p
    · exact next3_0 h hc e q p
    · exact next3_1 h hc e q p
  · rcases cg with p | p
    · exact next4_0 h hc e q p
    · exact next4_1 h hc e q p
  · rcases cg with p | p
    · exact next5_0 h hc e q p
    · exact next5_1 h hc e q p
  · by_cases z : s.K = []
    · exact next6e h hc e q z
    · have z0 : 0 < s.K.length := Nat.pos_of_ne_zero fun y => z (List.length_eq_zero_iff.1 y)
      have m := tmod_in (x := n) (y := s.K.length) e.n.1 (by omega)
      have mem := ms_mem s.K (n.tmod s.K.length).toNat (by omega)
      obtain ⟨⟨y, w, x⟩, hx⟩ : ∃ x, s.K.getD (n.tmod s.K.length).toNat (0, 0, 0) = x := ⟨_, rfl⟩
      rw [hx] at mem
      exact next6 h hc e q z0 y w x hx mem
  · rcases cg with p | p
    · exact next7_0 h hc e q p
    · exact next7_1 h hc e q p
end
end Am
end
section
namespace Am
open Go
set_option maxRecDepth 100000
section
variable [Base]
structure EvsOk (E : List (List AV)) : Prop where
  all : ∀ i, i < E.length → ∃ k ga wi n af ea la : Int, E.getD i [] = [u8 k, u8 ga, u8 wi, u8 n, u8 af, u8 ea, u8 la] ∧ EvOk k ga wi n af ea la
theorem chain {E : List (List AV)} (hE : EvsOk E) (s0 : Wd) (h0 : Good s0 0) : ∀ m, m ≤ E.length → m ≤ 100 → ∃ f : Nat → Wd, f 0 = s0 ∧ (∀ i, i ≤ m → Good (f i) i ∧ (f i).cap = s0.cap) ∧ ∀ i, i < m → EC Try.prog 42 [] [.agg (rowW (f i)), .agg (E.getD i [])] [] (.agg (rowW (f (i + 1))))
  | 0, _, _ => ⟨fun _ => s0, rfl, fun i hi => ⟨Nat.le_zero.1 hi ▸ h0, rfl⟩, fun i hi => absurd hi (Nat.not_lt_zero _)⟩
  | m + 1, h1, h2 => by
    obtain ⟨f, f0, fg, fe⟩ := chain hE s0 h0 m (by omega) (by omega)
    obtain ⟨k, ga, wi, n, af, ea, la, e1, e2⟩ := hE.all m (by omega)
    obtain ⟨s', g', gc, ec⟩ := next_any (fg m (Nat.le_refl _)).1 (by omega) e2
    refine ⟨fun j => if j ≤ m then f j else s', ?_, fun i hi => ?_, fun i hi => ?_⟩
    · show (if 0 ≤ m then f 0 else s') = s0
      rw [if_pos (Nat.zero_le _)]; exact f0
    · by_cases q : i ≤ m
      · simp only [if_pos q]; exact fg i q
      · obtain rfl : i = m + 1 := by omega
        simp only [if_neg q]; exact ⟨g', gc.trans (fg m (Nat.le_refl _)).2⟩
    · simp only [if_pos (show i ≤ m by omega)]
      by_cases q : i + 1 ≤ m
      · simp only [if_pos q]; exact fe i (by omega)
      · obtain rfl : i = m := by omega
        simp only [if_neg q]
        rw [e1]
        exact ec
def begW (cap : Int) : Wd := { cap := cap, b := [], P := fun _ => [], D := [], K := [], T := 0, C := fun _ => 0 }
theorem begW_good (cap : Int) (h : 0 ≤ cap ∧ cap ≤ 20) : Good (begW cap) 0 := by
  have e : ∀ g : Int, (begW cap).P g = [] := fun _ => rfl
  have d : ∀ w g : Int, dealtL [] w g = 0 := fun w g => rfl
  refine ⟨⟨⟨?_, fun k hk => absurd hk (Nat.not_lt_zero _)⟩, fun g hg => ⟨(by decide : headP 100 []), fun k hk => absurd hk (Nat.not_lt_zero _)⟩, ⟨Int.le_refl _, by show (0 : Int) ≤ _; omega⟩, fun g w hg hw => Int.le_refl _, fun g w hg hw => Int.le_refl _, fun m hm hw => rfl, fun x hx => absurd hx List.not_mem_nil, fun x hx => absurd hx List.not_mem_nil⟩, h, Nat.le_refl _, fun g hg => Nat.le_refl _, Nat.le_refl _, Nat.le_refl _, fun m hm => ⟨Int.le_refl _, Int.le_refl _⟩⟩
  show headOk cap 100 _
  unfold headOk
  simp [begW]
  omega
theorem rowW_50 (s : Wd) : (rowW s)[50]? = some (bv false) := by
  show (iv s.cap :: iv 100 :: .sl (rowsA s.b) :: iv 100 :: .sl (rowsA (s.P 0)) :: iv 100 :: .sl (rowsA (s.P 1)) :: .sl (s.D.map msA) :: .sl (s.K.map msA) :: iv s.T :: (cA s.C ++ [bv false]))[50]? = _
  simp only [List.getElem?_cons_succ]
  exact c_at (cA_len _) _
theorem law5_ec (limit : Int) (E : List (List AV)) (hm : 0 ≤ limit ∧ limit < 256) (hE : EvsOk E) : EC Try.prog 5 [] [.v (.int .u8 limit), .sl E] [] (bv true) := by
  have wm := tmod_in (x := limit) (y := 21) hm.1 (by omega)
  have hB := begin_full (limit.tmod 21) (by omega)
  have g0 := begW_good (limit.tmod 21) (by omega)
  by_cases hl : E.length ≤ 100
  · obtain ⟨f, f0, fg, fe⟩ := chain hE _ g0 E.length (Nat.le_refl _) hl
    have hT : ∀ i, i ≤ E.length → 0 ≤ (f i).T ∧ (f i).T ≤ 3999 := fun i hi => (fg i hi).1.inv.T
    refine law_ec limit E (fun i => rowW (f i)) (fun i => (f (i + 1)).T) (fun i => (f (i + 1)).C ((f (i + 1)).T / 100).toNat) hm hl (fun i _ => rowW_ok _) (fun i hi => ?_) ?_ fe (fun i hi => rowW_50 _) (fun i hi => ⟨rfl, by have := hT (i + 1) hi; omega⟩) (fun i hi => ?_) sanity_ec
    · obtain ⟨k, ga, wi, n, af, ea, la, e1, e2⟩ := hE.all i hi
      exact ⟨k, ga, wi, n, af, ea, la, e1⟩
    · rw [f0]
      exact hB
    · have t := hT (i + 1) hi
      obtain ⟨td, t0, t1⟩ := t_div t
      have hm' : ((f (i + 1)).T / 100).toNat < 40 := by omega
      simp only [td]
      refine ⟨?_, ?_⟩
      · exact c_get (cA_len _) hm' (cA_at _ hm')
      · have := (fg (i + 1) hi).1.inv.fits _ hm' (by unfold live; omega)
        rw [(fg (i + 1) hi).2] at this
        exact this
  · exact law_long limit E (by omega) sanity_ec
end
end Am
end
section
namespace Am
open Go
open Go.ChangeShapes Go.WideShapes Go.ChangeAt Go.RowKit Go.Joins Go.Deep
set_option maxRecDepth 100000
structure Ev7 where
  k : Int
  ga : Int
  wi : Int
  n : Int
  af : Int
  ea : Int
  la : Int
  deriving Inhabited
def encE (x : Ev7) : List Value := [.int .u8 x.k, .int .u8 x.ga, .int .u8 x.wi, .int .u8 x.n, .int .u8 x.af, .int .u8 x.ea, .int .u8 x.la]
theorem encE_len (x : Ev7) : (encE x).length = 7 := rfl
abbrev Ev7.Ok (x : Ev7) : Prop := EvOk x.k x.ga x.wi x.n x.af x.ea x.la
theorem cellsByte : Try.prog.cellsOf 5 = 1 := by kernel_rfl
theorem cellsAct : Try.prog.cellsOf 68 = 7 := by kernel_rfl
section
variable {H : Type} {encT : TypeId × Value → H} {W : World} {base : Nat} {v : Value} {d : DataW H} {p : List MemPlace}
theorem act_cells {fuel : Nat} {cs : List Value} {y : DataW H × List MemPlace} (hc : cs.length = 7) (h : DataW.trod encT Try.prog W 0 (fun _ => true) true fuel 68 cs = some y) : ∃ x : Ev7, cs = encE x ∧ x.Ok := by
  obtain ⟨xs, n, _, hx, hl, hlen, hg⟩ := DataW.trod_struct Try.underlying68 h
  match cs, hc with
  | [c0, c1, c2, c3, c4, c5, c6], _ =>
    match xs, hlen with
    | [y0, y1, y2, y3, y4, y5, y6], _ =>
      have g0 := hg 0 _ rfl
      have g1 := hg 1 _ rfl
      have g2 := hg 2 _ rfl
      have g3 := hg 3 _ rfl
      have g4 := hg 4 _ rfl
      have g5 := hg 5 _ rfl
      have g6 := hg 6 _ rfl
      simp [cellsByte] at g0 g1 g2 g3 g4 g5 g6
      obtain ⟨a0, e0, -, w0⟩ := DataW.trod_int Try.underlying5 g0
      obtain ⟨a1, e1, -, w1⟩ := DataW.trod_int Try.underlying5 g1
      obtain ⟨a2, e2, -, w2⟩ := DataW.trod_int Try.underlying5 g2
      obtain ⟨a3, e3, -, w3⟩ := DataW.trod_int Try.underlying5 g3
      obtain ⟨a4, e4, -, w4⟩ := DataW.trod_int Try.underlying5 g4
      obtain ⟨a5, e5, -, w5⟩ := DataW.trod_int Try.underlying5 g5
      obtain ⟨a6, e6, -, w6⟩ := DataW.trod_int Try.underlying5 g6
      simp only [List.cons.injEq, and_true] at e0 e1 e2 e3 e4 e5 e6
      subst e0 e1 e2 e3 e4 e5 e6
      have b0 := bounds_u8 w0
      have b1 := bounds_u8 w1
      have b2 := bounds_u8 w2
      have b3 := bounds_u8 w3
      have b4 := bounds_u8 w4
      have b5 := bounds_u8 w5
      have b6 := bounds_u8 w6
      exact ⟨⟨a0, a1, a2, a3, a4, a5, a6⟩, rfl, ⟨by simp only; omega, by simp only; omega, by simp only; omega, by simp only; omega, by simp only; omega, by simp only; omega, by simp only; omega⟩⟩
theorem open_acts (hv : Value.okWide Try.prog W .any base 59 v) (h : DataW.Trod encT Try.prog W 0 (fun _ => true) true 59 v d p) :
    ∃ (a : Option Addr) (c : Nat) (l : List Ev7), v = .slice a l.length c ∧ RowsA 7 encE W a l ∧ ∀ x ∈ l, x.Ok := by
  obtain ⟨a, c, l, rfl, hl, -, hq⟩ := open_rows (α := Ev7) (k := 7) (enc := encE) (Q := Ev7.Ok) Try.underlying59 cellsAct (by decide) encE_len (fun fuel cs y hc h => act_cells hc h) hv h
  exact ⟨a, c, l, rfl, hl, hq⟩
theorem open_u8 (hv : Value.okWide Try.prog W .any base 5 v) (h : DataW.Trod encT Try.prog W 0 (fun _ => true) true 5 v d p) : ∃ t : Int, v = .int .u8 t ∧ 0 ≤ t ∧ t < 256 := by
  obtain ⟨t, rfl, rfl, rfl, w2⟩ := open_int Try.underlying5 hv h
  have b := bounds_u8 w2
  exact ⟨t, rfl, by omega, by omega⟩
end
theorem acts_ok (l : List Ev7) (h : ∀ x ∈ l, x.Ok) : EvsOk (l.map fun x => vrow (encE x)) := ⟨fun i hi => by
  have hi : i < l.length := by simpa using hi
  refine ⟨l[i].k, l[i].ga, l[i].wi, l[i].n, l[i].af, l[i].ea, l[i].la, ?_, h _ (List.getElem_mem hi)⟩
  rw [List.getD_eq_getElem?_getD, List.getElem?_map, List.getElem?_eq_getElem hi]
  rfl⟩
theorem acts_lt {W : World} {a : Option Addr} {l : List Ev7} (h : RowsA 7 encE W a l) (hl : 0 < l.length) : ∀ p, a = some p → p.block < W.heap.size := by
  intro p hp
  obtain ⟨b, off, e, h1⟩ := h 0 l[0] (List.getElem?_eq_getElem hl)
  rw [hp] at e
  cases e
  have := h1 0 _ rfl
  rcases Nat.lt_or_ge b W.heap.size with q | q
  · exact q
  · unfold World.cell? at this
    simp [Array.getElem?_eq_none q] at this
theorem law5 (limit : Int) (a : Option Addr) (c : Nat) (l : List Ev7) (W : World) (hm : 0 ≤ limit ∧ limit < 256) (h : RowsA 7 encE W a l) (hq : ∀ x ∈ l, x.Ok) :
    Calls Try.prog 5 #[.int .u8 limit, .slice a l.length c] W fun e W' => e = .returned (.bool true) ∧ Below W.heap.size W W' := by
  letI : Base := ⟨W⟩
  exact (law5_ec limit _ hm (acts_ok l hq)).law (args := [.int .u8 limit, .slice a l.length c]) (LR.cons (.v _) (LR.cons (VR.ofRows encE_len trivial h (fun p hp h0 => acts_lt h h0 p hp)) LR.nil))
end Am
end
end Go.Proofs.Ytcgdhankllphgaa
