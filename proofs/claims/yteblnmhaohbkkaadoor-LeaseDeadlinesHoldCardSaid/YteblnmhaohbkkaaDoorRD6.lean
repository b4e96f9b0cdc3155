import Derived.Test.YteblnmhaohbkkaaDoorRD5
import Derived.Test.YteblnmhaohbkkaaDoorRD1
import Derived.Test.YteblnmhaohbkkaaDoorRD2
import Derived.Test.YteblnmhaohbkkaaDoorRD3
import Derived.Test.YteblnmhaohbkkaaDoorRLMt
import Derived.Test.YteblnmhaohbkkaaDoorRF1
import Derived.Test.YteblnmhaohbkkaaDoorRA7
namespace Go.Proofs.YteblnmhaohbkkaaDoor
set_option linter.unusedVariables false
set_option linter.unusedSimpArgs false
set_option linter.unusedSectionVars false
section
namespace Am
open Go Le
set_option maxRecDepth 100000
def leaseA (n : Int) (p : Int × Int) : List AV := if p.2 = 0 then vrow (leaseL 0 0 0 0 (List.replicate 16 0)) else vrow (leaseL n p.1 p.2 1 (sealD 1 kS n p.1 p.2))
def siteA (n : Int) (he : Int) (p : Int × Int) : List AV := iv n :: iv he :: leaseA n p
def sentA (x : Int × Int × Int) : List AV := vrow (leaseL x.1 x.2.1 x.2.2 1 (sealD 1 kS x.1 x.2.1 x.2.2))
def rowW (s : Wd) : List AV := wA [iv s.la, iv s.mo, gsA s.l] (siteA 0 (s.hd 0) (s.ls 0)) (siteA 1 (s.hd 1) (s.ls 1)) (siteA 2 (s.hd 2) (s.ls 2)) [.sl (s.sent.map sentA), .sl (s.bs.map fun x => [iv x]), iv s.T, bv false]
theorem plain_cons {v : Value} {l : List AV} (h : v.oneCell' = true) (p : plain l) : plain (.v v :: l) := fun x hx => by
  rcases List.mem_cons.1 hx with rfl | hx
  · exact ⟨_, rfl, h⟩
  · exact p x hx
theorem plain_vals {vs : List Value} (h : ∀ v ∈ vs, v.oneCell' = true) : plain (vrow vs) := fun x hx => by
  obtain ⟨v, hv, rfl⟩ := List.mem_map.1 hx
  exact ⟨v, rfl, h v hv⟩
theorem leaseL_one (s e u r : Int) (D : List Nat) : ∀ v ∈ leaseL s e u r D, v.oneCell' = true := by
  intro v hv
  simp only [leaseL, List.mem_append, List.mem_cons, List.not_mem_nil, or_false, List.mem_map] at hv
  rcases hv with (rfl | rfl | rfl | rfl) | ⟨x, -, rfl⟩ <;> rfl
theorem leaseL_len (s e u r : Int) {D : List Nat} (h : D.length = 16) : (leaseL s e u r D).length = 20 := by simp [leaseL, h]
theorem leaseA_plain (n : Int) (p : Int × Int) : plain (leaseA n p) := by
  unfold leaseA
  split <;> exact plain_vals (leaseL_one _ _ _ _ _)
theorem leaseA_len (n : Int) (p : Int × Int) : (leaseA n p).length = 20 := by
  unfold leaseA vrow
  split <;> rw [List.length_map]
  · rfl
  · exact leaseL_len _ _ _ _ (sealD_len _ _ _ _ _)
theorem leaseA_2 (n : Int) (p : Int × Int) : (leaseA n p)[2]? = some (.v (.int .i64 p.2)) := by
  unfold leaseA
  split
  · rename_i h; rw [h]; rfl
  · rfl
theorem siteA_plain (n he : Int) (p : Int × Int) : plain (siteA n he p) := plain_cons rfl (plain_cons rfl (leaseA_plain n p))
theorem siteA_len (n he : Int) (p : Int × Int) : (siteA n he p).length = 22 := by simp [siteA, leaseA_len]
theorem siteA_1 (n he : Int) (p : Int × Int) : (siteA n he p)[1]? = some (.v (.int .i64 he)) := rfl
theorem siteA_4 (n he : Int) (p : Int × Int) : (siteA n he p)[4]? = some (.v (.int .i64 p.2)) := leaseA_2 n p
theorem siteA_held (n he : Int) (p : Int × Int) : ∃ (ls le lr : Int) (D : List Nat), D.length = 16 ∧ siteA n he p = vrow (heldL n he ls le p.2 lr D) := by
  by_cases h : p.2 = 0
  · refine ⟨0, 0, 0, List.replicate 16 0, rfl, ?_⟩
    unfold siteA leaseA
    rw [if_pos h, h]
    rfl
  · refine ⟨n, p.1, 1, sealD 1 kS n p.1 p.2, sealD_len _ _ _ _ _, ?_⟩
    unfold siteA leaseA
    rw [if_neg h]
    rfl
theorem sentA_plain (x : Int × Int × Int) : plain (sentA x) := plain_vals (leaseL_one _ _ _ _ _)
theorem sentA_len (x : Int × Int × Int) : (sentA x).length = 20 := by
  unfold sentA vrow
  rw [List.length_map]
  exact leaseL_len _ _ _ _ (sealD_len _ _ _ _ _)
theorem rowW_ok (s : Wd) : WRow (rowW s) := by
  have p0 := siteA_plain 0 (s.hd 0) (s.ls 0)
  have p1 := siteA_plain 1 (s.hd 1) (s.ls 1)
  have p2 := siteA_plain 2 (s.hd 2) (s.ls 2)
  refine ⟨wA_len (siteA_len _ _ _) (siteA_len _ _ _) (siteA_len _ _ _), ?_, fun ρ => wA_ren1 p0 p1 p2 _ _ _ _ _ _ _ ρ, wA_all1 p0 p1 p2 _ _ _ _ _ _ _⟩
  unfold rowW
  rw [wA_one]
  refine ⟨?_, p0.one, p1.one, p2.one, ?_⟩
  · intro x hx
    simp only [List.mem_cons, List.not_mem_nil, or_false] at hx
    rcases hx with rfl | rfl | rfl <;> rfl
  · intro x hx
    simp only [List.mem_cons, List.not_mem_nil, or_false] at hx
    rcases hx with rfl | rfl | rfl | rfl <;> rfl
theorem rowW_72 (s : Wd) : (rowW s)[72]? = some (bv false) := wA_72 (siteA_len _ _ _) (siteA_len _ _ _) (siteA_len _ _ _)
structure Good (s : Wd) (k : Nat) : Prop where
  inv : Inv s
  la : s.la ≤ k
  T : 1000 ≤ s.T ∧ s.T ≤ 1000 + 256 * k
  nb : s.bs.length ≤ k
  ns : s.sent.length ≤ k
  mo : 1 ≤ s.mo ∧ s.mo ≤ 500
  bb : ∀ i : Nat, i < s.bs.length → s.bs.getD i 0 ≤ s.T + s.mo
theorem Good.b0 {s : Wd} {k : Nat} (h : Good s k) (i : Nat) (hi : i < s.bs.length) : 0 ≤ s.bs.getD i 0 :=
  ((dead_le _ _ _ _).1 (h.inv.dl i hi)).1
theorem Good.hd0 {s : Wd} {k : Nat} (h : Good s k) {n : Nat} (hn : n < 3) : 0 ≤ s.hd n := by
  have a := h.inv.hs n hn
  have b := (rowL_okX h.inv.ok (site64 hn)).2.1.1
  omega
theorem Good.time {s : Wd} {k : Nat} (h : Good s k) (af : Int) (ha : 0 ≤ af ∧ af < 256) : Good { s with T := s.T + af } (k + 1) :=
  ⟨h.inv.time _ (by omega), by have := h.la; show s.la ≤ _; omega, by have := h.T; show 1000 ≤ s.T + af ∧ s.T + af ≤ _; omega, Nat.le_succ_of_le h.nb, Nat.le_succ_of_le h.ns, h.mo, fun i hi => by have := h.bb i hi; show s.bs.getD i 0 ≤ s.T + af + s.mo; omega⟩
theorem sent_len1 (s : Wd) : ∀ r ∈ s.sent.map sentA, r.length = 20 ∧ allOne r := fun r hr => by
  obtain ⟨x, -, rfl⟩ := List.mem_map.1 hr
  exact ⟨sentA_len x, (sentA_plain x).one⟩
theorem sent_clo (s : Wd) : ∀ r ∈ s.sent.map sentA, r.all (·.clo) = true := fun r hr => by
  obtain ⟨x, -, rfl⟩ := List.mem_map.1 hr
  exact (sentA_plain x).all fun _ => rfl
theorem bs_len1 (l : List Int) : ∀ r ∈ l.map (fun x => [iv x]), r.length = 1 ∧ allOne r := fun r hr => by
  obtain ⟨x, -, rfl⟩ := List.mem_map.1 hr
  exact ⟨rfl, fun y hy => by rw [List.mem_singleton.1 hy]; rfl⟩
theorem bs_clo (l : List Int) : ∀ r ∈ l.map (fun x => [iv x]), r.all (·.clo) = true := fun r hr => by
  obtain ⟨x, -, rfl⟩ := List.mem_map.1 hr
  rfl
structure EvOk (k s n af ea lt : Int) : Prop where
  k : 0 ≤ k ∧ k < 256
  s : 0 ≤ s ∧ s < 256
  n : 0 ≤ n ∧ n < 256
  af : 0 ≤ af ∧ af < 256
  ea : 0 ≤ ea ∧ ea < 256
  lt : 0 ≤ lt ∧ lt < 256
section
variable [Base] {s : Wd} {c : Nat} {k st n af ea lt : Int}
def Next (s : Wd) (c : Nat) (k st n af ea lt : Int) : Prop := ∃ s', Good s' (c + 1) ∧ EC Tryd.prog 25 [] [.agg (rowW s), evA k st n af ea lt] [] (.agg (rowW s'))
theorem next0 (h : Good s c) (hc : c < 60) (e : EvOk k st n af ea lt) (hk : k.tmod 5 = 0) : Next s c k st n af ea lt := by
  have g := h.time af e.af
  have ok := h.inv.ok
  have h1 := h.la
  have h2 := h.T
  have h3 := h.mo
  have i2 := g.inv.issue (by show s.la < _; omega)
  have hd : deadK s.l (s.la + 1) s.l.length ≤ s.T + af + s.mo := g.inv.dead_new (by show 0 ≤ s.T + af + s.mo; have := e.af; omega) _
  have h5 : s.bs.length ≤ c := h.nb
  have few := ok.few
  refine ⟨{ { s with T := s.T + af } with la := s.la + 1, bs := s.bs ++ [deadK s.l (s.la + 1) s.l.length] }, ⟨i2, by show s.la + 1 ≤ _; omega, g.T, by simp; omega, g.ns, h.mo, fun i hi => ?_⟩, ?_⟩
  · have hi : i < s.bs.length + 1 := by simpa using hi
    show (s.bs ++ [_]).getD i 0 ≤ s.T + af + s.mo
    rw [List.getD_eq_getElem?_getD]
    by_cases q : i < s.bs.length
    · rw [List.getElem?_append_left q, ← List.getD_eq_getElem?_getD]
      exact g.bb i q
    · obtain rfl : i = s.bs.length := by omega
      rw [List.getElem?_append_right (Nat.le_refl _), Nat.sub_self]
      exact hd
  · have := act0 s.la s.mo (s.la + 1) (deadK s.l (s.la + 1) s.l.length) s.T _ _ _ _ (s.sent.map sentA) (s.bs.map fun x => [iv x]) k st n af ea lt (siteA_len 0 (s.hd 0) (s.ls 0)) (siteA_len 1 (s.hd 1) (s.ls 1)) (siteA_len 2 (s.hd 2) (s.ls 2)) (siteA_plain _ _ _) (siteA_plain _ _ _) (siteA_plain _ _ _) rfl hk e.k e.s e.n e.af e.ea e.lt (by omega)
      (issue_full s.la s.mo s.l (by omega) ok (by omega)) (deadline_ec (s.la + 1) s.mo s.l (s.la + 1) (by omega) i2.ok (by have := ok.la0; omega)) hd (by omega) (by rw [List.length_map]; omega) (bs_len1 _) (bs_clo _)
    unfold rowW
    rw [List.map_append]
    exact this
end
end Am
end
section
namespace Am
open Go Le
set_option maxRecDepth 100000
theorem tmod_in {x y : Int} (hx : 0 ≤ x) (hy : 0 < y) : 0 ≤ x.tmod y ∧ x.tmod y < y := by
  rw [Int.tmod_eq_emod_of_nonneg hx]
  exact ⟨Int.emod_nonneg _ (by omega), Int.emod_lt_of_pos _ hy⟩
theorem Good.lu {s : Wd} {k : Nat} (h : Good s k) {n : Nat} (hn : n < 3) : 0 ≤ (s.ls n).2 ∧ (s.ls n).2 ≤ 1099511627776 := by
  rcases h.inv.si n hn with q | q
  · omega
  · obtain ⟨m, h1, h2, h3, h4, h5, h6⟩ := h.inv.st _ q
    have := (rowL_okX h.inv.ok (site64 h1)).2.2.2
    simp only at h5 h6
    omega
section
variable [Base] {s : Wd} {c : Nat} {k st n af ea lt : Int}
theorem next1_0 (h : Good s c) (hc : c < 60) (e : EvOk k st n af ea lt) (hk : k.tmod 5 = 1) (hs : st.tmod 3 = 0) : Next s c k st n af ea lt := by
  have g := h.time af e.af
  have ok := h.inv.ok
  have h1 := h.la
  have h2 := h.T
  have l0 := ok.la0
  have e0 := h.hd0 (n := 0) (by decide)
  have e1 := (h.inv.hs 0 (by decide)).2
  have m := tmod_in (x := n) (y := s.la + 1) e.n.1 (by omega)
  have gi := g.inv.hear 0 (n.tmod (s.la + 1)) (by show _ ≤ s.la; omega)
  have lu : 0 ≤ (s.ls 0).2 ∧ (s.ls 0).2 ≤ 1099511627776 := h.lu (by decide)
  refine ⟨{ { s with T := s.T + af } with hd := fun j => if j = 0 then max (s.hd 0) (n.tmod (s.la + 1)) else s.hd j }, ⟨gi, g.la, g.T, g.nb, g.ns, g.mo, g.bb⟩, ?_⟩
  have hH := hear_ec 0 (s.hd 0) (s.ls 0).2 (n.tmod (s.la + 1)) _ (leaseA_plain 0 (s.ls 0)) (leaseA_len _ _) (leaseA_2 _ _) (by decide) ⟨e0, by omega⟩ lu (by omega)
  exact act1_0 s.la s.mo s.T _ _ _ _ (siteA 0 (max (s.hd 0) (n.tmod (s.la + 1))) (s.ls 0)) _ _ k st n af ea lt (siteA_len 0 _ _) (siteA_len 1 _ _) (siteA_len 2 _ _) (siteA_plain _ _ _) (siteA_plain _ _ _) (siteA_plain _ _ _) hk hs e.k e.s e.n e.af e.ea e.lt (by omega) (siteA_len _ _ _) (siteA_plain _ _ _) (by omega) hH
theorem next1_1 (h : Good s c) (hc : c < 60) (e : EvOk k st n af ea lt) (hk : k.tmod 5 = 1) (hs : st.tmod 3 = 1) : Next s c k st n af ea lt := by
  have g := h.time af e.af
  have ok := h.inv.ok
  have h1 := h.la
  have h2 := h.T
  have l0 := ok.la0
  have e0 := h.hd0 (n := 1) (by decide)
  have e1 := (h.inv.hs 1 (by decide)).2
  have m := tmod_in (x := n) (y := s.la + 1) e.n.1 (by omega)
  have gi := g.inv.hear 1 (n.tmod (s.la + 1)) (by show _ ≤ s.la; omega)
  have lu : 0 ≤ (s.ls 1).2 ∧ (s.ls 1).2 ≤ 1099511627776 := h.lu (by decide)
  refine ⟨{ { s with T := s.T + af } with hd := fun j => if j = 1 then max (s.hd 1) (n.tmod (s.la + 1)) else s.hd j }, ⟨gi, g.la, g.T, g.nb, g.ns, g.mo, g.bb⟩, ?_⟩
  have hH := hear_ec 1 (s.hd 1) (s.ls 1).2 (n.tmod (s.la + 1)) _ (leaseA_plain 1 (s.ls 1)) (leaseA_len _ _) (leaseA_2 _ _) (by decide) ⟨e0, by omega⟩ lu (by omega)
  exact act1_1 s.la s.mo s.T _ _ _ _ (siteA 1 (max (s.hd 1) (n.tmod (s.la + 1))) (s.ls 1)) _ _ k st n af ea lt (siteA_len 0 _ _) (siteA_len 1 _ _) (siteA_len 2 _ _) (siteA_plain _ _ _) (siteA_plain _ _ _) (siteA_plain _ _ _) hk hs e.k e.s e.n e.af e.ea e.lt (by omega) (siteA_len _ _ _) (siteA_plain _ _ _) (by omega) hH
theorem next1_2 (h : Good s c) (hc : c < 60) (e : EvOk k st n af ea lt) (hk : k.tmod 5 = 1) (hs : st.tmod 3 = 2) : Next s c k st n af ea lt := by
  have g := h.time af e.af
  have ok := h.inv.ok
  have h1 := h.la
  have h2 := h.T
  have l0 := ok.la0
  have e0 := h.hd0 (n := 2) (by decide)
  have e1 := (h.inv.hs 2 (by decide)).2
  have m := tmod_in (x := n) (y := s.la + 1) e.n.1 (by omega)
  have gi := g.inv.hear 2 (n.tmod (s.la + 1)) (by show _ ≤ s.la; omega)
  have lu : 0 ≤ (s.ls 2).2 ∧ (s.ls 2).2 ≤ 1099511627776 := h.lu (by decide)
  refine ⟨{ { s with T := s.T + af } with hd := fun j => if j = 2 then max (s.hd 2) (n.tmod (s.la + 1)) else s.hd j }, ⟨gi, g.la, g.T, g.nb, g.ns, g.mo, g.bb⟩, ?_⟩
  have hH := hear_ec 2 (s.hd 2) (s.ls 2).2 (n.tmod (s.la + 1)) _ (leaseA_plain 2 (s.ls 2)) (leaseA_len _ _) (leaseA_2 _ _) (by decide) ⟨e0, by omega⟩ lu (by omega)
  exact act1_2 s.la s.mo s.T _ _ _ _ (siteA 2 (max (s.hd 2) (n.tmod (s.la + 1))) (s.ls 2)) _ _ k st n af ea lt (siteA_len 0 _ _) (siteA_len 1 _ _) (siteA_len 2 _ _) (siteA_plain _ _ _) (siteA_plain _ _ _) (siteA_plain _ _ _) hk hs e.k e.s e.n e.af e.ea e.lt (by omega) (siteA_len _ _ _) (siteA_plain _ _ _) (by omega) hH
theorem next2_0 (h : Good s c) (hc : c < 60) (e : EvOk k st n af ea lt) (hk : k.tmod 5 = 2) (hs : st.tmod 3 = 0) : Next s c k st n af ea lt := by
  have g := h.time af e.af
  have ok := h.inv.ok
  have few := ok.few
  have h1 := h.la
  have h2 := h.T
  have h3 := h.mo
  have l0 := ok.la0
  have e0 := h.hd0 (n := 0) (by decide)
  have e1 := (h.inv.hs 0 (by decide)).2
  have m := tmod_in (x := n) (y := s.hd 0 + 1) e.n.1 (by omega)
  have gi := g.inv.conf (by show 0 ≤ s.T + af + s.mo; have := e.af; omega) (n := 0) (by decide) (n.tmod (s.hd 0 + 1)) (by show _ ≤ s.hd 0; omega)
  refine ⟨{ { s with T := s.T + af } with l := withL (confX 0 (n.tmod (s.hd 0 + 1)) s.l) s.l }, ⟨gi, g.la, g.T, g.nb, g.ns, g.mo, g.bb⟩, ?_⟩
  exact act2_0 s.la s.mo s.T (s.hd 0) _ _ _ _ _ _ _ k st n af ea lt (siteA_len 0 _ _) (siteA_len 1 _ _) (siteA_len 2 _ _) (siteA_plain _ _ _) (siteA_plain _ _ _) (siteA_plain _ _ _) hk hs e.k e.s e.n e.af e.ea e.lt (by omega) (siteA_1 _ _ _) (by omega) (conf_full s.la s.mo 0 (n.tmod (s.hd 0 + 1)) s.l (by omega) ok (by decide) (by omega))
theorem next2_1 (h : Good s c) (hc : c < 60) (e : EvOk k st n af ea lt) (hk : k.tmod 5 = 2) (hs : st.tmod 3 = 1) : Next s c k st n af ea lt := by
  have g := h.time af e.af
  have ok := h.inv.ok
  have few := ok.few
  have h1 := h.la
  have h2 := h.T
  have h3 := h.mo
  have l0 := ok.la0
  have e0 := h.hd0 (n := 1) (by decide)
  have e1 := (h.inv.hs 1 (by decide)).2
  have m := tmod_in (x := n) (y := s.hd 1 + 1) e.n.1 (by omega)
  have gi := g.inv.conf (by show 0 ≤ s.T + af + s.mo; have := e.af; omega) (n := 1) (by decide) (n.tmod (s.hd 1 + 1)) (by show _ ≤ s.hd 1; omega)
  refine ⟨{ { s with T := s.T + af } with l := withL (confX 1 (n.tmod (s.hd 1 + 1)) s.l) s.l }, ⟨gi, g.la, g.T, g.nb, g.ns, g.mo, g.bb⟩, ?_⟩
  exact act2_1 s.la s.mo s.T (s.hd 1) _ _ _ _ _ _ _ k st n af ea lt (siteA_len 0 _ _) (siteA_len 1 _ _) (siteA_len 2 _ _) (siteA_plain _ _ _) (siteA_plain _ _ _) (siteA_plain _ _ _) hk hs e.k e.s e.n e.af e.ea e.lt (by omega) (siteA_1 _ _ _) (by omega) (conf_full s.la s.mo 1 (n.tmod (s.hd 1 + 1)) s.l (by omega) ok (by decide) (by omega))
theorem next2_2 (h : Good s c) (hc : c < 60) (e : EvOk k st n af ea lt) (hk : k.tmod 5 = 2) (hs : st.tmod 3 = 2) : Next s c k st n af ea lt := by
  have g := h.time af e.af
  have ok := h.inv.ok
  have few := ok.few
  have h1 := h.la
  have h2 := h.T
  have h3 := h.mo
  have l0 := ok.la0
  have e0 := h.hd0 (n := 2) (by decide)
  have e1 := (h.inv.hs 2 (by decide)).2
  have m := tmod_in (x := n) (y := s.hd 2 + 1) e.n.1 (by omega)
  have gi := g.inv.conf (by show 0 ≤ s.T + af + s.mo; have := e.af; omega) (n := 2) (by decide) (n.tmod (s.hd 2 + 1)) (by show _ ≤ s.hd 2; omega)
  refine ⟨{ { s with T := s.T + af } with l := withL (confX 2 (n.tmod (s.hd 2 + 1)) s.l) s.l }, ⟨gi, g.la, g.T, g.nb, g.ns, g.mo, g.bb⟩, ?_⟩
  exact act2_2 s.la s.mo s.T (s.hd 2) _ _ _ _ _ _ _ k st n af ea lt (siteA_len 0 _ _) (siteA_len 1 _ _) (siteA_len 2 _ _) (siteA_plain _ _ _) (siteA_plain _ _ _) (siteA_plain _ _ _) hk hs e.k e.s e.n e.af e.ea e.lt (by omega) (siteA_1 _ _ _) (by omega) (conf_full s.la s.mo 2 (n.tmod (s.hd 2 + 1)) s.l (by omega) ok (by decide) (by omega))
end
end Am
end
section
namespace Am
open Go Le
set_option maxRecDepth 100000
section
variable [Base] {s : Wd} {c : Nat} {k st n af ea lt : Int}
theorem key_pl : plain (vrow [.int .i64 1, .int .i64 1, .string ⟨#[115]⟩, .int .i64 0, .int .i64 1099511627776]) := plain_vals (by intro v hv; simp only [List.mem_cons, List.not_mem_nil, or_false] at hv; rcases hv with rfl | rfl | rfl | rfl | rfl <;> rfl)
theorem next3e (h : Good s c) (hc : c < 60) (e : EvOk k st n af ea lt) (hk : k.tmod 5 = 3) (i : Nat) (hi : i < 3) (hs : st.tmod 3 = i) (hr : (rowL (i : Int) s.l).2.1 < s.la) : Next s c k st n af ea lt := by
  have g := h.time af e.af
  have ok := h.inv.ok
  have few := ok.few
  have h2 := h.T
  have h3 := h.mo
  have ea2 := e.ea
  have af2 := e.af
  have lt2 := e.lt
  have m := tmod_in (x := n) (y := s.mo) e.n.1 (by omega)
  refine ⟨{ s with T := s.T + af }, g, ?_⟩
  exact act3e s.la s.mo s.T 0 i _ [] _ _ _ _ _ _ _ k st n af ea lt (siteA_len 0 _ _) (siteA_len 1 _ _) (siteA_len 2 _ _) (siteA_plain _ _ _) (siteA_plain _ _ _) (siteA_plain _ _ _) hk hs e.k e.s e.n e.af e.ea e.lt (by omega) key_ec key_pl rfl h3
    (refused_ec s.la s.mo s.l 1 ⟨#[115]⟩ 0 1099511627776 i (s.T + af - ea) (s.T + af + lt) (1 + n.tmod s.mo) (by omega) ok (by omega) (decide_eq_true (by omega)) (by omega) k0_ok hr) (plain_vals (leaseL_one 0 0 0 0 (List.replicate 16 0))) rfl
theorem next3 (hla : Hs.LaidC Base.w) (h : Good s c) (hc : c < 60) (e : EvOk k st n af ea lt) (hk : k.tmod 5 = 3) (i : Nat) (hi : i < 3) (hs : st.tmod 3 = i) (hr : ¬ (rowL (i : Int) s.l).2.1 < s.la) : Next s c k st n af ea lt := by
  have g := h.time af e.af
  have ok := h.inv.ok
  have few := ok.few
  have h2 := h.T
  have h3 := h.mo
  have h4 := h.ns
  have ea2 := e.ea
  have af2 := e.af
  have lt2 := e.lt
  have m := tmod_in (x := n) (y := s.mo) e.n.1 (by omega)
  have gi := g.inv.grant (by show 0 ≤ s.T + af + s.mo; omega) hi (s.T + af - ea + (1 + n.tmod s.mo)) hr (by omega) (by show _ ≤ s.T + af + s.mo; omega)
  refine ⟨{ { s with T := s.T + af } with l := withL (grantX i (s.T + af - ea + (1 + n.tmod s.mo)) s.l) s.l, sent := s.sent ++ [((i : Int), s.la, s.T + af - ea + (1 + n.tmod s.mo))] }, ⟨gi, g.la, g.T, g.nb, by simp; omega, g.mo, g.bb⟩, ?_⟩
  have := act3 s.la s.mo s.T (s.T + af - ea + (1 + n.tmod s.mo)) i _ _ _ _ _ _ _ (s.sent.map sentA) (s.bs.map fun x => [iv x]) k st n af ea lt (siteA_len 0 (s.hd 0) (s.ls 0)) (siteA_len 1 (s.hd 1) (s.ls 1)) (siteA_len 2 (s.hd 2) (s.ls 2)) (siteA_plain _ _ _) (siteA_plain _ _ _) (siteA_plain _ _ _) hk hs e.k e.s e.n e.af e.ea e.lt (by omega) key_ec key_pl rfl h3
    (grant_full hla s.la s.mo s.l 1 ⟨#[115]⟩ 0 1099511627776 i (s.T + af - ea) (s.T + af + lt) (1 + n.tmod s.mo) (by omega) ok (by omega) (decide_eq_true (by omega)) (by omega) k0_ok hr (by omega)) (plain_vals (leaseL_one _ _ _ _ _)) (sentA_len (i, s.la, _)) rfl (by omega) (by rw [List.length_map]; omega) (sent_len1 s) (sent_clo s)
  unfold rowW
  rw [List.map_append]
  exact this
theorem next4e (h : Good s c) (hc : c < 60) (e : EvOk k st n af ea lt) (hk : k.tmod 5 = 4) (h0 : s.sent = []) : Next s c k st n af ea lt := by
  have h2 := h.T
  exact ⟨{ s with T := s.T + af }, h.time af e.af, act4e s.la s.mo s.T _ _ _ _ _ _ k st n af ea lt (siteA_len 0 _ _) (siteA_len 1 _ _) (siteA_len 2 _ _) (siteA_plain _ _ _) (siteA_plain _ _ _) (siteA_plain _ _ _) hk rfl e.k e.s e.n e.af e.ea e.lt (by omega) (by rw [h0]; rfl)⟩
def newP (p q : Int × Int) : Int × Int := if p.2 < q.2 then q else p
theorem took_ec (hla : Hs.LaidC Base.w) (i : Nat) (hi : i < 3) (he : Int) (p : Int × Int) (ep un : Int) (h1 : 0 ≤ he ∧ he ≤ 1099511627776) (h2 : 0 ≤ p.2 ∧ p.2 ≤ 1099511627776) (h3 : 0 ≤ ep ∧ ep ≤ he) (h4 : 1 ≤ un ∧ un ≤ 1099511627776) :
    EC Tryd.prog 32 [] [.sl [vrow [.int .i64 1, .int .i64 1, .string ⟨#[115]⟩, .int .i64 0, .int .i64 1099511627776]], .agg (siteA i he p), .agg (sentA (i, ep, un))] [] (.tup [.agg (siteA i he (newP p (ep, un))), iv 0]) := by
  obtain ⟨ls, le, lr, D, hD, e⟩ := siteA_held i he p
  have q : tookL i he ls le p.2 lr D ep un 1 (sealD 1 kS i ep un) = if p.2 < un then heldL i he i ep un 1 (sealD 1 kS i ep un) else heldL i he ls le p.2 lr D := rfl
  have r : siteA i he (newP p (ep, un)) = vrow (tookL i he ls le p.2 lr D ep un 1 (sealD 1 kS i ep un)) := by
    rw [q]
    unfold newP
    by_cases w : p.2 < un
    · rw [if_pos w, if_pos w]
      unfold siteA leaseA
      rw [if_neg (by show ¬ un = 0; omega)]
      rfl
    · rw [if_neg w, if_neg w, e]
  rw [r, e]
  exact take_ec hla [k0] i he ls le p.2 lr ep un 1 D (sealD 1 kS i ep un) ring0_ok hD (sealD_len _ _ _ _ _) ⟨by omega, h1, h2⟩ (by unfold i64Ok; omega) (chk_own i ep un h4) (by omega)
theorem take_inv (h : Inv s) (m : Nat) (q : Int × Int) (hq : ((m : Int), q) ∈ s.sent) : Inv { s with ls := fun j => if j = m then newP (s.ls m) q else s.ls j } := by
  by_cases w : (s.ls m).2 < q.2
  · have := h.take m q hq
    unfold newP
    rw [if_pos w]
    exact this
  · unfold newP
    rw [if_neg w]
    have : (fun j => if j = m then s.ls m else s.ls j) = s.ls := funext fun j => by split <;> simp_all
    rw [this]
    exact h
theorem sent_getD (l : List (Int × Int × Int)) (j : Nat) (hj : j < l.length) : (l.map sentA).getD j [] = sentA (l.getD j (0, 0, 0)) := by
  simp [List.getD_eq_getElem?_getD, hj]
theorem next4_0 (hla : Hs.LaidC Base.w) (h : Good s c) (hc : c < 60) (e : EvOk k st n af ea lt) (hk : k.tmod 5 = 4) (h0 : 0 < s.sent.length) (ep un : Int) (hx : s.sent.getD (n.tmod s.sent.length).toNat (0, 0, 0) = (0, ep, un)) (hm : ((0 : Int), ep, un) ∈ s.sent) : Next s c k st n af ea lt := by
  have g := h.time af e.af
  have h2 := h.T
  have h4 := h.ns
  have m := tmod_in (x := n) (y := s.sent.length) e.n.1 (by omega)
  have gi := take_inv g.inv 0 (ep, un) hm
  obtain ⟨m', m1, m2, m3, m4, m5, m6⟩ := h.inv.st _ hm
  obtain rfl : m' = 0 := by simp only at m2; omega
  simp only at m3 m4 m5 m6
  have r2 := (rowL_okX h.inv.ok (site64 m1)).2.2.2
  have l0 := h.inv.ok.la0
  have e0 := h.hd0 (n := 0) (by decide)
  have e1 := (h.inv.hs 0 (by decide)).2
  have lu := h.lu (n := 0) (by decide)
  refine ⟨{ { s with T := s.T + af } with ls := fun j => if j = 0 then newP (s.ls 0) (ep, un) else s.ls j }, ⟨gi, g.la, g.T, g.nb, g.ns, g.mo, g.bb⟩, ?_⟩
  exact act4_0 s.la s.mo s.T _ _ _ _ _ _ _ _ _ k st n af ea lt (siteA_len 0 _ _) (siteA_len 1 _ _) (siteA_len 2 _ _) (siteA_plain _ _ _) (siteA_plain _ _ _) (siteA_plain _ _ _) hk rfl e.k e.s e.n e.af e.ea e.lt (by omega) key_ec key_pl rfl
    (siteA_len _ _ _) (siteA_plain _ _ _) (sentA_plain (0, ep, un)) (sentA_len _) rfl (by rw [List.length_map]; exact h0) (by rw [List.length_map]; omega) (by rw [List.length_map, sent_getD _ _ (by omega), hx]) (took_ec hla 0 (by decide) (s.hd 0) (s.ls 0) ep un (by omega) lu ⟨m3, m4⟩ (by omega))
theorem next4_1 (hla : Hs.LaidC Base.w) (h : Good s c) (hc : c < 60) (e : EvOk k st n af ea lt) (hk : k.tmod 5 = 4) (h0 : 0 < s.sent.length) (ep un : Int) (hx : s.sent.getD (n.tmod s.sent.length).toNat (0, 0, 0) = (1, ep, un)) (hm : ((1 : Int), ep, un) ∈ s.sent) : Next s c k st n af ea lt := by
  have g := h.time af e.af
  have h2 := h.T
  have h4 := h.ns
  have m := tmod_in (x := n) (y := s.sent.length) e.n.1 (by omega)
  have gi := take_inv g.inv 1 (ep, un) hm
  obtain ⟨m', m1, m2, m3, m4, m5, m6⟩ := h.inv.st _ hm
  obtain rfl : m' = 1 := by simp only at m2; omega
  simp only at m3 m4 m5 m6
  have r2 := (rowL_okX h.inv.ok (site64 m1)).2.2.2
  have l0 := h.inv.ok.la0
  have e0 := h.hd0 (n := 1) (by decide)
  have e1 := (h.inv.hs 1 (by decide)).2
  have lu := h.lu (n := 1) (by decide)
  refine ⟨{ { s with T := s.T + af } with ls := fun j => if j = 1 then newP (s.ls 1) (ep, un) else s.ls j }, ⟨gi, g.la, g.T, g.nb, g.ns, g.mo, g.bb⟩, ?_⟩
  exact act4_1 s.la s.mo s.T _ _ _ _ _ _ _ _ _ k st n af ea lt (siteA_len 0 _ _) (siteA_len 1 _ _) (siteA_len 2 _ _) (siteA_plain _ _ _) (siteA_plain _ _ _) (siteA_plain _ _ _) hk rfl e.k e.s e.n e.af e.ea e.lt (by omega) key_ec key_pl rfl
    (siteA_len _ _ _) (siteA_plain _ _ _) (sentA_plain (1, ep, un)) (sentA_len _) rfl (by rw [List.length_map]; exact h0) (by rw [List.length_map]; omega) (by rw [List.length_map, sent_getD _ _ (by omega), hx]) (took_ec hla 1 (by decide) (s.hd 1) (s.ls 1) ep un (by omega) lu ⟨m3, m4⟩ (by omega))
theorem next4_2 (hla : Hs.LaidC Base.w) (h : Good s c) (hc : c < 60) (e : EvOk k st n af ea lt) (hk : k.tmod 5 = 4) (h0 : 0 < s.sent.length) (ep un : Int) (hx : s.sent.getD (n.tmod s.sent.length).toNat (0, 0, 0) = (2, ep, un)) (hm : ((2 : Int), ep, un) ∈ s.sent) : Next s c k st n af ea lt := by
  have g := h.time af e.af
  have h2 := h.T
  have h4 := h.ns
  have m := tmod_in (x := n) (y := s.sent.length) e.n.1 (by omega)
  have gi := take_inv g.inv 2 (ep, un) hm
  obtain ⟨m', m1, m2, m3, m4, m5, m6⟩ := h.inv.st _ hm
  obtain rfl : m' = 2 := by simp only at m2; omega
  simp only at m3 m4 m5 m6
  have r2 := (rowL_okX h.inv.ok (site64 m1)).2.2.2
  have l0 := h.inv.ok.la0
  have e0 := h.hd0 (n := 2) (by decide)
  have e1 := (h.inv.hs 2 (by decide)).2
  have lu := h.lu (n := 2) (by decide)
  refine ⟨{ { s with T := s.T + af } with ls := fun j => if j = 2 then newP (s.ls 2) (ep, un) else s.ls j }, ⟨gi, g.la, g.T, g.nb, g.ns, g.mo, g.bb⟩, ?_⟩
  exact act4_2 s.la s.mo s.T _ _ _ _ _ _ _ _ _ k st n af ea lt (siteA_len 0 _ _) (siteA_len 1 _ _) (siteA_len 2 _ _) (siteA_plain _ _ _) (siteA_plain _ _ _) (siteA_plain _ _ _) hk rfl e.k e.s e.n e.af e.ea e.lt (by omega) key_ec key_pl rfl
    (siteA_len _ _ _) (siteA_plain _ _ _) (sentA_plain (2, ep, un)) (sentA_len _) rfl (by rw [List.length_map]; exact h0) (by rw [List.length_map]; omega) (by rw [List.length_map, sent_getD _ _ (by omega), hx]) (took_ec hla 2 (by decide) (s.hd 2) (s.ls 2) ep un (by omega) lu ⟨m3, m4⟩ (by omega))
theorem next_any (hla : Hs.LaidC Base.w) (h : Good s c) (hc : c < 60) (e : EvOk k st n af ea lt) : Next s c k st n af ea lt := by
  have k5 := tmod_in (x := k) (y := 5) e.k.1 (by omega)
  have s3 := tmod_in (x := st) (y := 3) e.s.1 (by omega)
  have ck : k.tmod 5 = 0 ∨ k.tmod 5 = 1 ∨ k.tmod 5 = 2 ∨ k.tmod 5 = 3 ∨ k.tmod 5 = 4 := by omega
  have cs : st.tmod 3 = 0 ∨ st.tmod 3 = 1 ∨ st.tmod 3 = 2 := by omega
  rcases ck with q | q | q | q | q
  · exact next0 h hc e q
  · rcases cs with p | p | p
    · exact next1_0 h hc e q p
    · exact next1_1 h hc e q p
    · exact next1_2 h hc e q p
  · rcases cs with p | p | p
    · exact next2_0 h hc e q p
    · exact next2_1 h hc e q p
    · exact next2_2 h hc e q p
  · obtain ⟨i, hi, p⟩ : ∃ i : Nat, i < 3 ∧ st.tmod 3 = i := ⟨(st.tmod 3).toNat, by omega, by omega⟩
    by_cases r : (rowL (i : Int) s.l).2.1 < s.la
    · exact next3e h hc e q i hi p r
    · exact next3 hla h hc e q i hi p r
  · by_cases z : s.sent = []
    · exact next4e h hc e q z
    · have z0 : 0 < s.sent.length := by
        rcases Nat.eq_zero_or_pos s.sent.length with y | y
        · exact absurd (List.length_eq_zero_iff.1 y) z
        · exact y
      have m := tmod_in (x := n) (y := s.sent.length) e.n.1 (by omega)
      have mem : s.sent.getD (n.tmod s.sent.length).toNat (0, 0, 0) ∈ s.sent := by
        rw [List.getD_eq_getElem?_getD, List.getElem?_eq_getElem (by omega)]
        exact List.getElem_mem _
      obtain ⟨⟨x, ep, un⟩, hx⟩ : ∃ x, s.sent.getD (n.tmod s.sent.length).toNat (0, 0, 0) = x := ⟨_, rfl⟩
      rw [hx] at mem
      obtain ⟨m', m1, m2, -⟩ := h.inv.st _ mem
      simp only at m2
      have : m' = 0 ∨ m' = 1 ∨ m' = 2 := by omega
      rcases this with rfl | rfl | rfl
      · obtain rfl : x = 0 := m2
        exact next4_0 hla h hc e q z0 ep un hx mem
      · obtain rfl : x = 1 := m2
        exact next4_1 hla h hc e q z0 ep un hx mem
      · obtain rfl : x = 2 := m2
        exact next4_2 hla h hc e q z0 ep un hx mem
end
end Am
end
section
namespace Am
open Go Le
set_option maxRecDepth 100000
section
variable [Base] {s : Wd} {c : Nat} {k st n af ea lt : Int}
theorem nserve (i : Nat) (he : Int) (p : Int × Int) (T late B : Int) (hB : p.2 ≤ B) : EC Tryd.prog 29 [] [.agg (siteA i he p), .agg [iv (max 0 (max T B - late)), iv (max T B)]] [] (bv false) := by
  obtain ⟨ls, le, lr, D, hD, e⟩ := siteA_held i he p
  rw [e]
  have := serve_ec i he ls le p.2 lr (max 0 (max T B - late)) (max T B) D hD
  have q : serveB i he p.2 (max 0 (max T B - late)) (max T B) = false := by
    unfold serveB
    rw [show decide (max T B < p.2) = false from decide_eq_false (by omega), Bool.and_false]
  rw [q] at this
  exact this
theorem safe_full (h : Good s c) (hc : c ≤ 60) (late : Int) (hl : 0 ≤ late ∧ late < 256) : EC Tryd.prog 26 [] [.agg (rowW s), iv late] [] (bv true) := by
  have ok := h.inv.ok
  have few := ok.few
  have h2 := h.T
  have h3 := h.mo
  have h4 := h.nb
  have nb := h.inv.nb
  have ms : ∀ (n : Nat), n < 3 → ∀ i : Nat, i < s.bs.length → ¬ (i : Int) < s.hd n → (s.ls n).2 ≤ s.bs.getD i 0 ∧ EC Tryd.prog 29 [] [.agg (siteA n (s.hd n) (s.ls n)), .agg [iv (max 0 (max s.T (s.bs.getD i 0) - late)), iv (max s.T (s.bs.getD i 0))]] [] (bv false) := fun n hn i hi hh => by
    have q := h.inv.safe i hi n hn (by omega) (h.b0 i hi)
    exact ⟨q, nserve n _ _ _ _ _ q⟩
  exact safe_ec s.la s.mo s.T late _ _ _ _ (s.sent.map sentA) s.bs (fun i => deadK s.l (i + 1) s.l.length) (s.hd 0) (s.hd 1) (s.hd 2) (s.ls 0).2 (s.ls 1).2 (s.ls 2).2 (siteA_len _ _ _) (siteA_len _ _ _) (siteA_len _ _ _) (siteA_plain _ _ _) (siteA_plain _ _ _) (siteA_plain _ _ _) (by omega)
    (siteA_1 _ _ _) (siteA_1 _ _ _) (siteA_1 _ _ _) (siteA_4 _ _ _) (siteA_4 _ _ _) (siteA_4 _ _ _) (fun i hi => deadline_ec s.la s.mo s.l (i + 1) (by omega) ok (by omega)) (fun i hi => h.inv.dl i hi) hl (by omega) (fun i hi => ⟨h.b0 i hi, by have := h.bb i hi; omega⟩)
    (ms 0 (by decide)) (ms 1 (by decide)) (ms 2 (by decide))
structure EvsOk (E : List (List AV)) : Prop where
  all : ∀ i, i < E.length → ∃ k st n af ea lt : Int, E.getD i [] = [u8 k, u8 st, u8 n, u8 af, u8 ea, u8 lt] ∧ EvOk k st n af ea lt
theorem chain (hla : Hs.LaidC Base.w) {E : List (List AV)} (hE : EvsOk E) (s0 : Wd) (h0 : Good s0 0) : ∀ m, m ≤ E.length → m ≤ 60 → ∃ f : Nat → Wd, f 0 = s0 ∧ (∀ i, i ≤ m → Good (f i) i) ∧ ∀ i, i < m → EC Tryd.prog 25 [] [.agg (rowW (f i)), .agg (E.getD i [])] [] (.agg (rowW (f (i + 1))))
  | 0, _, _ => ⟨fun _ => s0, rfl, fun i hi => Nat.le_zero.1 hi ▸ h0, fun i hi => absurd hi (Nat.not_lt_zero _)⟩
  | m + 1, h1, h2 => by
    obtain ⟨f, f0, fg, fe⟩ := chain hla hE s0 h0 m (by omega) (by omega)
    obtain ⟨k, st, n, af, ea, lt, e1, e2⟩ := hE.all m (by omega)
    obtain ⟨s', g', ec⟩ := next_any hla (fg m (Nat.le_refl _)) (by omega) e2
    refine ⟨fun j => if j ≤ m then f j else s', ?_, fun i hi => ?_, fun i hi => ?_⟩
    · show (if 0 ≤ m then f 0 else s') = s0
      rw [if_pos (Nat.zero_le _)]; exact f0
    · by_cases q : i ≤ m
      · simp only [if_pos q]; exact fg i q
      · obtain rfl : i = m + 1 := by omega
        simp only [if_neg q]; exact g'
    · simp only [if_pos (show i ≤ m by omega)]
      by_cases q : i + 1 ≤ m
      · simp only [if_pos q]; exact fe i (by omega)
      · obtain rfl : i = m := by omega
        simp only [if_neg q]
        rw [e1]
        exact ec
def begW (mo : Int) : Wd := { la := 0, mo := mo, l := [], hd := fun _ => 0, ls := fun _ => (0, 0), sent := [], bs := [], T := 1000 }
theorem begW_good (mo : Int) (h : 1 ≤ mo ∧ mo ≤ 500) : Good (begW mo) 0 := by
  refine ⟨⟨⟨⟨Int.le_refl _, by show (0 : Int) ≤ _; omega⟩, ⟨h.1, by show mo ≤ _; omega⟩, fun k hk => absurd hk (Nat.not_lt_zero _), fun k hk => absurd hk (Nat.not_lt_zero _)⟩, rfl, fun n hn => ⟨Int.le_refl _, Int.le_refl _⟩, fun x hx => absurd hx (List.not_mem_nil), fun i hi => absurd hi (Nat.not_lt_zero _), fun i hi => absurd hi (Nat.not_lt_zero _), fun j hj => absurd hj (Nat.not_lt_zero _), fun n hn => .inl rfl⟩, Int.le_refl _, ⟨Int.le_refl _, by show (1000 : Int) ≤ _; omega⟩, Nat.le_refl _, Nat.le_refl _, h, fun i hi => absurd hi (Nat.not_lt_zero _)⟩
theorem law4_ec (hla : Hs.LaidC Base.w) (most : Int) (E : List (List AV)) (hm : 0 ≤ most ∧ most < 65536) (hE : EvsOk E) : EC Tryd.prog 4 [] [.v (.int .u16 most), .sl E] [] (bv true) := by
  have wm := tmod_in (x := most) (y := 500) hm.1 (by omega)
  have hB := begin_full (1 + most.tmod 500) (by omega)
  have g0 := begW_good (1 + most.tmod 500) (by omega)
  by_cases hl : E.length ≤ 60
  · obtain ⟨f, f0, fg, fe⟩ := chain hla hE _ g0 E.length (Nat.le_refl _) hl
    have ex : ∀ i, ∃ ea : Int, i < E.length → (∃ k st n af lt : Int, E.getD i [] = [u8 k, u8 st, u8 n, u8 af, u8 ea, u8 lt]) ∧ 0 ≤ ea ∧ ea < 256 := fun i => by
      by_cases hi : i < E.length
      · obtain ⟨k, st, n, af, ea, lt, e1, e2⟩ := hE.all i hi
        exact ⟨ea, fun _ => ⟨⟨k, st, n, af, lt, e1⟩, e2.ea⟩⟩
      · exact ⟨0, fun h => absurd h hi⟩
    refine law_ec most E (fun i => rowW (f i)) (fun i => Classical.choose (ex i)) hm hl (fun i _ => rowW_ok _) (fun i hi => ((Classical.choose_spec (ex i)) hi).1) (fun i hi => ((Classical.choose_spec (ex i)) hi).2) ?_ fe (fun i hi => safe_full (fg (i + 1) hi) (by omega) _ ((Classical.choose_spec (ex i)) hi).2) (fun i _ => rowW_72 _) (sanity_ec hla)
    rw [f0]
    exact hB
  · exact law_long most E _ hm (by omega) (rowW_ok (begW (1 + most.tmod 500))) hB (sanity_ec hla)
end
end Am
end
section
namespace Am
open Go Le
open Go.ChangeShapes Go.WideShapes Go.ChangeAt Go.RowKit Go.Joins Go.Deep Go.ChangeMaps
set_option maxRecDepth 100000
structure Ev6 where
  k : Int
  s : Int
  n : Int
  af : Int
  ea : Int
  lt : Int
  deriving Inhabited
def encE (x : Ev6) : List Value := [.int .u8 x.k, .int .u8 x.s, .int .u8 x.n, .int .u8 x.af, .int .u8 x.ea, .int .u8 x.lt]
theorem encE_len (x : Ev6) : (encE x).length = 6 := rfl
abbrev Ev6.Ok (x : Ev6) : Prop := EvOk x.k x.s x.n x.af x.ea x.lt
theorem cellsAct : Tryd.prog.cellsOf 76 = 6 := by kernel_rfl
section
variable {H : Type} {encT : TypeId × Value → H} {W : World} {base : Nat} {v : Value} {d : DataW H} {p : List MemPlace}
theorem act_cells {fuel : Nat} {cs : List Value} {y : DataW H × List MemPlace} (hc : cs.length = 6) (h : DataW.trod encT Tryd.prog W 0 (fun _ => true) true fuel 76 cs = some y) : ∃ x : Ev6, cs = encE x ∧ x.Ok := by
  obtain ⟨xs, n, _, hx, hl, hlen, hg⟩ := DataW.trod_struct Tryd.underlying76 h
  match cs, hc with
  | [c0, c1, c2, c3, c4, c5], _ =>
    match xs, hlen with
    | [y0, y1, y2, y3, y4, y5], _ =>
      have g0 := hg 0 _ rfl
      have g1 := hg 1 _ rfl
      have g2 := hg 2 _ rfl
      have g3 := hg 3 _ rfl
      have g4 := hg 4 _ rfl
      have g5 := hg 5 _ rfl
      simp [cellsByte] at g0 g1 g2 g3 g4 g5
      obtain ⟨a0, e0, -, w0⟩ := DataW.trod_int Tryd.underlying5 g0
      obtain ⟨a1, e1, -, w1⟩ := DataW.trod_int Tryd.underlying5 g1
      obtain ⟨a2, e2, -, w2⟩ := DataW.trod_int Tryd.underlying5 g2
      obtain ⟨a3, e3, -, w3⟩ := DataW.trod_int Tryd.underlying5 g3
      obtain ⟨a4, e4, -, w4⟩ := DataW.trod_int Tryd.underlying5 g4
      obtain ⟨a5, e5, -, w5⟩ := DataW.trod_int Tryd.underlying5 g5
      simp only [List.cons.injEq, and_true] at e0 e1 e2 e3 e4 e5
      subst e0 e1 e2 e3 e4 e5
      have b0 := bounds_u8 w0
      have b1 := bounds_u8 w1
      have b2 := bounds_u8 w2
      have b3 := bounds_u8 w3
      have b4 := bounds_u8 w4
      have b5 := bounds_u8 w5
      exact ⟨⟨a0, a1, a2, a3, a4, a5⟩, rfl, ⟨by simp only; omega, by simp only; omega, by simp only; omega, by simp only; omega, by simp only; omega, by simp only; omega⟩⟩
theorem open_acts (hv : Value.okWide Tryd.prog W .any base 65 v) (h : DataW.Trod encT Tryd.prog W 0 (fun _ => true) true 65 v d p) :
    ∃ (a : Option Addr) (c : Nat) (l : List Ev6), v = .slice a l.length c ∧ RowsA 6 encE W a l ∧ l.length ≤ c ∧ ∀ x ∈ l, x.Ok := by
  obtain ⟨a, c, l, rfl, hl, -, hq⟩ := open_rows (α := Ev6) (k := 6) (enc := encE) (Q := Ev6.Ok) Tryd.underlying65 cellsAct (by decide) encE_len (fun fuel cs y hc h => act_cells hc h) hv h
  exact ⟨a, c, l, rfl, hl, open_cap Tryd.underlying65 h, hq⟩
theorem open_u16 (hv : Value.okWide Tryd.prog W .any base 64 v) (h : DataW.Trod encT Tryd.prog W 0 (fun _ => true) true 64 v d p) : ∃ t : Int, v = .int .u16 t ∧ 0 ≤ t ∧ t < 65536 := by
  obtain ⟨t, rfl, rfl, rfl, w2⟩ := open_int Tryd.underlying64 hv h
  have b := bounds_u16 w2
  exact ⟨t, rfl, by omega, by omega⟩
end
theorem acts_ok (l : List Ev6) (h : ∀ x ∈ l, x.Ok) : EvsOk (l.map fun x => vrow (encE x)) := ⟨fun i hi => by
  have hi : i < l.length := by simpa using hi
  refine ⟨l[i].k, l[i].s, l[i].n, l[i].af, l[i].ea, l[i].lt, ?_, h _ (List.getElem_mem hi)⟩
  rw [List.getD_eq_getElem?_getD, List.getElem?_map, List.getElem?_eq_getElem hi]
  rfl⟩
theorem acts_lt {W : World} {a : Option Addr} {l : List Ev6} (h : RowsA 6 encE W a l) (hl : 0 < l.length) : ∀ p, a = some p → p.block < W.heap.size := by
  intro p hp
  obtain ⟨b, off, e, h1⟩ := h 0 l[0] (List.getElem?_eq_getElem hl)
  rw [hp] at e
  cases e
  have := h1 0 _ rfl
  rcases Nat.lt_or_ge b W.heap.size with q | q
  · exact q
  · unfold World.cell? at this
    simp [Array.getElem?_eq_none q] at this
theorem law4 (most : Int) (a : Option Addr) (c : Nat) (l : List Ev6) (W : World) (hm : 0 ≤ most ∧ most < 65536) (h : RowsA 6 encE W a l) (hc : l.length ≤ c) (hq : ∀ x ∈ l, x.Ok) (hla : Hs.LaidC W) :
    Calls Tryd.prog 4 #[.int .u16 most, .slice a l.length c] W fun e W' => e = .returned (.bool true) ∧ Below W.heap.size W W' := by
  letI : Base := ⟨W⟩
  exact (law4_ec hla most _ hm (acts_ok l hq)).law (args := [.int .u16 most, .slice a l.length c]) (LR.cons (.v _) (LR.cons (VR.ofRows encE_len hc h (fun p hp h0 => acts_lt h h0 p hp)) LR.nil))
end Am
end
end Go.Proofs.YteblnmhaohbkkaaDoor
