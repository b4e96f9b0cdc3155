/- Contracts: Add. -/
import Derived.Test.YtmmjkhamknfhpaaDoorJ
namespace Go.Proofs.YtmmjkhamknfhpaaDoor
set_option linter.unusedVariables false
set_option linter.unusedSimpArgs false
open Go.RowKit Go.Shelf
attribute [local go_sem] Oper.semAt_some
/-- What lies in memory between two rounds of Add. -/
structure MidA (w0 : World) (Bx Br Bp Bs Bk g : Nat) (box : Array Value) (c : Int) (key : ByteArray) (f : Nat → List Int) (k : Nat) (X : World) : Prop where
  bx : Blk X Bx 24 box
  br : Blk X Br 24 #[.int .i64 0, .int .i64 0, .int .i64 0, .slice none 0 0]
  bp : Blk X Bp 3 #[.int .i64 c]
  bs : Blk X Bs 24 box
  bk : Blk X Bk 9 #[.string key]
  row : RowI X g (f k)
  bw : Below w0.heap.size w0 X
theorem below_put {B : Nat} {w X : World} (h : Below B w X) {D : Nat} {o : Obj} (hD : B ≤ D) : Below B w (X.putObj D o) := h.trans ⟨rfl, rfl, rfl, by simp, fun k hk => World.putObj_heap_other (by omega)⟩
theorem RowI.put {X : World} {g : Nat} {l : List Int} (h : RowI X g l) (i : Nat) (o : Obj) (hl : g ≠ i) : RowI (X.putObj i o) g l := by obtain ⟨cs, h, h1⟩ := h; exact ⟨cs, h.put i o hl, h1⟩
section
variable {w0 X : World} {Bx Br Bp Bs Bk g : Nat} {box : Array Value} {c : Int} {key : ByteArray} {f : Nat → List Int} {k : Nat}
theorem MidA.put (h : MidA w0 Bx Br Bp Bs Bk g box c key f k X) (l : Nat) (o : Obj) (h1 : Bx ≠ l) (h2 : Br ≠ l) (h3 : Bp ≠ l) (h4 : Bs ≠ l) (h5 : Bk ≠ l) (h6 : g ≠ l) (h7 : w0.heap.size ≤ l) : MidA w0 Bx Br Bp Bs Bk g box c key f k (X.putObj l o) :=
  ⟨h.bx.put l o h1, h.br.put l o h2, h.bp.put l o h3, h.bs.put l o h4, h.bk.put l o h5, h.row.put l o h6, h.bw.trans ⟨rfl, rfl, rfl, by simp, fun k hk => World.putObj_heap_other (by omega)⟩⟩
theorem MidA.alloc (h : MidA w0 Bx Br Bp Bs Bk g box c key f k X) (o : Obj) : MidA w0 Bx Br Bp Bs Bk g box c key f k (X.alloc o) := ⟨h.bx.alloc o, h.br.alloc o, h.bp.alloc o, h.bs.alloc o, h.bk.alloc o, h.row.alloc o, h.bw.alloc h.bw.size o⟩
theorem MidA.below {X' : World} (h : MidA w0 Bx Br Bp Bs Bk g box c key f k X) (hb : Below X.heap.size X X') : MidA w0 Bx Br Bp Bs Bk g box c key f k X' := ⟨h.bx.below hb h.bx.lt, h.br.below hb h.br.lt, h.bp.below hb h.bp.lt, h.bs.below hb h.bs.lt, h.bk.below hb h.bk.lt, h.row.below hb h.row.lt, bt h.bw hb⟩
theorem MidA.drewN (h : MidA w0 Bx Br Bp Bs Bk g box c key f k X) (n : Nat) : MidA w0 Bx Br Bp Bs Bk g box c key f k (X.drewN n) := ⟨h.bx, h.br, h.bp, h.bs, h.bk, h.row, below_dn h.bw⟩
theorem MidA.same (h : MidA w0 Bx Br Bp Bs Bk g box c key f k X) (e : f (k + 1) = f k) : MidA w0 Bx Br Bp Bs Bk g box c key f (k + 1) X := ⟨h.bx, h.br, h.bp, h.bs, h.bk, by rw [e]; exact h.row, h.bw⟩
theorem MidA.setR (h : MidA w0 Bx Br Bp Bs Bk g box c key f k X) (i : Nat) (x : Int) (e : f (k + 1) = (f k).set i x) (h1 : Bx ≠ g) (h2 : Br ≠ g) (h3 : Bp ≠ g) (h4 : Bs ≠ g) (h5 : Bk ≠ g) (h7 : w0.heap.size ≤ g) : MidA w0 Bx Br Bp Bs Bk g box c key f (k + 1) (X.setCell ⟨g, i, none⟩ (.int .i64 x)) :=
  ⟨h.bx.far h1 _, h.br.far h2 _, h.bp.far h3 _, h.bs.far h4 _, h.bk.far h5 _, by rw [e]; exact h.row.set_ i x, h.bw.setCell h7 _⟩
end
theorem wpListIn_store_blk {F : Fence} {n : Nat} {P : Program} {ops : Array Oper} {rest : List Oper} {op : Oper} {a : Act} {w : World} {Q : Exit → Act → World → Prop} (hgd : op.guard = none) (ty : TypeId) (x y : Operand) (ho : op.op = .store ty x y)
    (g : Nat) (t : TypeId) (old cells : Array Value) (hx : a.eval x = .pointer (some ⟨g, 0, none⟩)) (hy : a.eval y = .agg cells)
    (hg : Blk w g t old) (hi : (P.info? ty).map (·.size) = some cells.size) (hs : old.size = cells.size) (h1 : cells.all (·.oneCell') = true)
    (hd : op.dst = none) (h : wpListIn F n P ops Q rest a (w.setRow g cells)) : wpListIn F n P ops Q (op :: rest) a w := by
  refine wpListIn_plain hgd fun K hK => ?_
  unfold Oper.wpIn
  refine ⟨by simp [Oper.about, ho], ?_⟩
  rw [Oper.semAt_plain F _ _ (by rw [ho]; intro c hc'; cases hc')]
  unfold execOp
  simp only [ho, hx, hy, Instr.storeAt, Instr.sureAddr, Sem.run_bind, Sem.run_pure, Result.andThen_ok, run_storeVar_row w g t ty old cells hg hi hs h1]
  have e : a.put op.dst undef = a := by rw [hd]; rfl
  have := hK _ _ h
  rw [← e] at this
  exact this
/-- What is counted after an addition. -/
def nxA (S A : Int) : Int := if A + 1 = S then (A + 1) / 2 else A + 1
def nxL (W : Nat) (p : Nat → Nat) (S A : Int) (l : List Int) : List Int := if A + 1 = S then halve (addL W p l) else addL W p l
theorem addL_bd {W : Nat} (p : Nat → Nat) (l : List Int) (hW : 0 < W) (hl : l.length = 4 * W) (h : ∀ x ∈ l, 0 ≤ x ∧ x ≤ 15) : ∀ x ∈ addL W p l, 0 ≤ x ∧ x ≤ 15 := fun x hx => by
  obtain ⟨j, hj, rfl⟩ := List.getElem_of_mem hx
  rw [addL_len] at hj
  have h1 := h l[j] (List.getElem_mem _)
  rw [← getD_at 0 hj] at h1
  have h2 := addL_step p l hW hl j
  rw [getD_at 0 (show j < (addL W p l).length by rw [addL_len]; exact hj)] at h2
  rcases h2 with h2 | h2 <;> omega
theorem getD_small (l : List Int) (h : ∀ x ∈ l, 0 ≤ x ∧ x ≤ 15) (i : Nat) : 0 ≤ l.getD i 0 ∧ l.getD i 0 ≤ 15 := by
  rcases Nat.lt_or_ge i l.length with hi | hi
  · rw [getD_at 0 hi]; exact h _ (List.getElem_mem hi)
  · rw [List.getD_eq_getElem?_getD, List.getElem?_eq_none hi]; exact ⟨Int.le_refl _, by decide⟩
set_option maxRecDepth 100000 in
set_option maxHeartbeats 1000000 in
theorem add_any (W : Nat) (S A : Int) (a : Option Addr) (cap : Nat) (l : List Int) (key : ByteArray) (w : World) (hp : IntsA w a l) (hl : l.length = 4 * W) (hk : key.size ≤ 400) (hW : ∃ k : Nat, k ≤ 12 ∧ W = 2 ^ k)
    (h0 : ∀ x ∈ l, 0 ≤ x ∧ x ≤ 15) (hA : 0 ≤ A) (hS : A < S) (hS2 : S ≤ 1048576) (hla : LaidC w) :
    Calls Tryd.prog 22 #[.agg #[.int .i64 W, .int .i64 S, .int .i64 A, .slice a l.length cap], .string key] w fun e w' => (∃ g c, e = .returned (.agg #[.int .i64 W, .int .i64 S, .int .i64 (nxA S A), .slice (some ⟨g, 0, none⟩) l.length c]) ∧ l.length ≤ c ∧ w.heap.size ≤ g ∧ RowI w' g (nxL W (pl key) S A l)) ∧ Below w.heap.size w w' := by
  have W0 : 0 < W := by obtain ⟨k, -, h2⟩ := hW; rw [h2]; exact Nat.two_pow_pos k
  have W4 : W ≤ 4096 := by
    obtain ⟨k, h1, h2⟩ := hW
    have := Nat.pow_le_pow_right (n := 2) (by decide) h1
    have e : (2 : Nat) ^ 12 = 4096 := by decide
    omega
  have HP := Lib.hid hp; have LA := Lib.hid hla; have HL := Lib.hid hl; have HW := Lib.hid hW
  have CN := Lib.hid (fun (X : World) (h : IntsA X a l) (h2 : LaidC X) => count_any W S A a cap l key X h hl hk hW h2)
  have CP := Lib.hid (fun (X : World) (h : IntsA X a l) => copied_any a cap l X h (by omega))
  have SM := Lib.hid (fun (i : Nat) => getD_small l h0 i)
  have HB := Lib.hid (addL_bd (pl key) l W0 hl h0)
  have IL := Lib.hid (fun (k : Nat) (h : k < 4) => show idx W (pl key) k < l.length by rw [hl]; exact idx_lt _ W0 h)
  have OWN := Lib.hid (fun (k : Nat) => addK_own (pl key) l (cnt W (pl key) l) W0 k)
  have LEN := Lib.hid (fun (k : Nat) => addK_len W (pl key) l (cnt W (pl key) l) k)
  have STEP := Lib.hid (fun (k : Nat) => show addK W (pl key) l (cnt W (pl key) l) (k + 1) = if l.getD (idx W (pl key) k) 0 = cnt W (pl key) l ∧ cnt W (pl key) l < 15 then (addK W (pl key) l (cnt W (pl key) l) k).set (idx W (pl key) k) (cnt W (pl key) l + 1) else addK W (pl key) l (cnt W (pl key) l) k from rfl)
  have FIN := Lib.hid (show addK W (pl key) l (cnt W (pl key) l) 4 = addL W (pl key) l from rfl)
  have ALN := Lib.hid (addL_len W (pl key) l)
  have NL0 := Lib.hid (show 0 < l.length by omega)
  have NLM := Lib.hid (show l.length ≤ 1000000 by omega)
  obtain ⟨n, hn⟩ : ∃ n, l.length = n := ⟨_, rfl⟩
  have HE := Lib.hid hn
  have hC15 := cnt_le W (pl key) l
  obtain ⟨c, hc⟩ : ∃ c, cnt W (pl key) l = c := ⟨_, rfl⟩
  rw [hn] at CN CP HL IL NL0 NLM ⊢
  simp only [hc] at CN OWN LEN STEP FIN
  rw [hc] at hC15
  clear hp hla hl hW h0 hn hc W0 W4
  refine (callsIn_wide (n := 4)).1 ?_
  refine callsIn_of_wp_marks Tryd.func22 rfl trivial ?_ rfl
  simp only [Tryd.ntmps22, List.size_toArray, List.length_cons, List.length_nil, Nat.reduceAdd, Nat.reduceSub, Array.replicate_succ, Array.replicate_zero, List.push_toArray, List.append_toArray, List.nil_append, List.cons_append]
  gi_wp2_with (gi_at_call 15; fail)
  refine ⟨trivial, ?_⟩
  refine (callsIn_wide.2 (CN.out _ (HP.out.mono (by (repeat' (first | (with_reducible exact Below.refl _ _) | (with_reducible assumption) | (with_reducible refine Below.alloc ?_ ?_ _) | (with_reducible refine Below.drew ?_) | (with_reducible refine below_dn ?_) | (with_reducible refine Below.setCell ?_ ?_ _) | (with_reducible exact Nat.le_refl _) | omega | (simp only [World.size_alloc, World.size_setCell, World.size_drew]; omega) | (simp; omega) | (simp; done))))) (LA.out.mono (by (repeat' (first | (with_reducible exact Below.refl _ _) | (with_reducible assumption) | (with_reducible refine Below.alloc ?_ ?_ _) | (with_reducible refine Below.drew ?_) | (with_reducible refine below_dn ?_) | (with_reducible refine Below.setCell ?_ ?_ _) | (with_reducible exact Nat.le_refl _) | omega | (simp only [World.size_alloc, World.size_setCell, World.size_drew]; omega) | (simp; omega) | (simp; done))))))).mono ?_
  rintro e w1 ⟨rfl, hb1⟩
  have K1 := Lib.hid (show Blk w1 w.heap.size 24 #[.int .i64 W, .int .i64 S, .int .i64 A, .slice a n cap] from ((Blk.new' w _ _ _ rfl rfl).alloc _).below hb1 (by simp; omega))
  have K2 := Lib.hid (show Blk w1 (w.heap.size + 1) 24 #[.int .i64 0, .int .i64 0, .int .i64 0, .slice none 0 0] from (Blk.new' _ _ _ _ (World.size_alloc _ _) rfl).below hb1 (by simp))
  have B1 := Lib.hid (show Below w.heap.size w w1 from bt (by (repeat' (first | (with_reducible exact Below.refl _ _) | (with_reducible assumption) | (with_reducible refine Below.alloc ?_ ?_ _) | (with_reducible refine Below.drew ?_) | (with_reducible refine below_dn ?_) | (with_reducible refine Below.setCell ?_ ?_ _) | (with_reducible exact Nat.le_refl _) | omega | (simp only [World.size_alloc, World.size_setCell, World.size_drew]; omega) | (simp; omega) | (simp; done)))) hb1)
  have z1 : w.heap.size + 2 ≤ w1.heap.size := by have := K2.out.lt; omega
  have c3 : (w1.alloc (.cells #[.int .i64 c] 3)).cell? ⟨w.heap.size, 3, none⟩ = some (.slice a n cap) := (K1.out.alloc _).cell 3
  clear hb1 CN
  gi_wp2_with (gi_at_call 35; fail)
  refine ⟨trivial, ?_⟩
  refine (callsIn_wide.2 (CP.out _ (HP.out.mono (B1.out.alloc B1.out.size _)))).mono ?_
  rintro e w2 ⟨v, rfl, ho, hb2⟩
  obtain ⟨g, cc, rfl, hg, hcc, hr⟩ := ho.row (by rw [HE.out]; exact NL0.out)
  rw [HE.out] at hcc ⊢
  rw [World.size_alloc] at hg
  have K1 := Lib.hid ((K1.out.alloc _).below hb2 (by simp; omega))
  have K2 := Lib.hid ((K2.out.alloc _).below hb2 (by simp; omega))
  have K3 := Lib.hid (show Blk w2 w1.heap.size 3 #[.int .i64 c] from (Blk.new w1 3 _).below hb2 (by simp))
  have B2 := Lib.hid (show Below w.heap.size w w2 from bt (B1.out.alloc B1.out.size _) hb2)
  have HR := Lib.hid hr; have HCC := Lib.hid hcc
  have z2 : g < w2.heap.size := hr.lt
  obtain ⟨s1, hs1⟩ : ∃ s, w1.heap.size = s := ⟨_, rfl⟩
  rw [hs1] at K3 z1 hg ⊢
  clear hb2 ho hr hcc c3 B1 CP hs1
  have c3 : w2.cell? ⟨w.heap.size, 3, none⟩ = some (.slice a n cap) := K1.out.cell 3
  have f3 := K1.out.frozen 3
  have KX := Lib.hid (show Blk (w2.setCell ⟨w.heap.size, 3, none⟩ (.slice (some ⟨g, 0, none⟩) n cc)) w.heap.size 24 #[.int .i64 W, .int .i64 S, .int .i64 A, .slice (some ⟨g, 0, none⟩) n cc] from K1.out.set_ 3 _)
  have KY := Lib.hid (show Blk (w2.setCell ⟨w.heap.size, 3, none⟩ (.slice (some ⟨g, 0, none⟩) n cc)) (w.heap.size + 1) 24 #[.int .i64 0, .int .i64 0, .int .i64 0, .slice none 0 0] from K2.out.far (by simp) _)
  have KZ := Lib.hid (show Blk (w2.setCell ⟨w.heap.size, 3, none⟩ (.slice (some ⟨g, 0, none⟩) n cc)) s1 3 #[.int .i64 c] from K3.out.far (by simp; omega) _)
  have RX := Lib.hid (show RowI (w2.setCell ⟨w.heap.size, 3, none⟩ (.slice (some ⟨g, 0, none⟩) n cc)) g l from HR.out.far (by simp; omega) _)
  have BX := Lib.hid (show Below w.heap.size w (w2.setCell ⟨w.heap.size, 3, none⟩ (.slice (some ⟨g, 0, none⟩) n cc)) from B2.out.setCell (Nat.le_refl _) _)
  have d0 := KX.out.cell 0
  have d1 := KX.out.cell 1
  have d2 := KX.out.cell 2
  have d3 := KX.out.cell 3
  change _ = some (Value.int .i64 (W : Int)) at d0
  change _ = some (Value.int .i64 S) at d1
  change _ = some (Value.int .i64 A) at d2
  change _ = some (Value.slice (some ⟨g, 0, none⟩) n cc) at d3
  gi_wp2_with (gi_at_call 32; fail)
  refine ⟨trivial, ?_⟩
  refine (callsIn_wide.2 (cells_mk _ _ _ _ _ _ _ _)).mono ?_
  rintro e w3 ⟨rfl, hw3⟩
  have ls : (w2.setCell ⟨w.heap.size, 3, none⟩ (.slice (some ⟨g, 0, none⟩) n cc)).heap.size = w2.heap.size := World.size_setCell _ _ _
  obtain ⟨s2, hs2⟩ : ∃ s, w2.heap.size = s := ⟨_, rfl⟩
  rw [hs2] at ls z2
  have M0 : MidA w w.heap.size (w.heap.size + 1) s1 s2 (s2 + 1) g #[.int .i64 W, .int .i64 S, .int .i64 A, .slice (some ⟨g, 0, none⟩) n cc] c key (addK W (pl key) l c) 0 w3 := by
    rw [hw3]
    exact ⟨(KX.out.alloc _).alloc _, (KY.out.alloc _).alloc _, (KZ.out.alloc _).alloc _, (Blk.new' _ _ _ _ ls rfl).alloc _, Blk.new' _ _ _ _ (by rw [World.size_alloc, ls]) rfl, (RX.out.alloc _).alloc _, (BX.out.alloc BX.out.size _).alloc (Nat.le_trans BX.out.size (by simp)) _⟩
  have z3 : w3.heap.size = s2 + 2 := by rw [hw3]; simp [hs2]
  have Z3 := Lib.hid z3; have MH := Lib.hid M0
  have s12 : s1 < s2 := by have := K3.out.lt; omega
  clear hw3 z3 M0 KX KY KZ RX BX d0 d1 d2 d3 c3 f3 K1 K2 K3 B2 HR hs2
  gi_wp2
  refine range_run rfl (by omega) (gf := 36) (lb := #[.pointer (some ⟨s2, 0, none⟩), .pointer (some ⟨s2 + 1, 0, none⟩)]) rfl trivial (enters_of Tryd.func36 (by kernel_rfl) rfl)
    (MidA w w.heap.size (w.heap.size + 1) s1 s2 (s2 + 1) g #[.int .i64 W, .int .i64 S, .int .i64 A, .slice (some ⟨g, 0, none⟩) n cc] c key (addK W (pl key) l c)) (fun x _ k => k < 4 ∧ x = (idx W (pl key) k : Int)) (fun _ _ k => k + 1) 0 (fun k => k = 4)
    (fun s X j o o' hs hl hk ho => hs.put j o' (by have := Z3.out; omega) (by have := Z3.out; omega) (by have := Z3.out; omega) (by have := Z3.out; omega) (by have := Z3.out; omega) (by have := Z3.out; omega) (by have := Z3.out; omega))
    (fun o o' => (MH.out.alloc o).alloc o')
    (cells_in 3 (by omega) s2 (s2 + 1) g 0 n cc W key _ _ hk HW.out HL.out
      (fun k X h => ⟨h.bs.cell 0, h.bs.cell 3, h.bk.cell 0, LA.out.mono h.bw, fun hk => ⟨_, by rw [Nat.zero_add]; exact h.row.cell (by rw [LEN.out, HE.out]; exact IL.out k hk), hk, rfl⟩⟩) (fun k X X' h hb => h.below hb))
    ?a1 ?assign ?body ?done
  case assign =>
    intro l x y W K hK
    gi_wp2
    exact hK
  case body =>
    rintro j x y k X ⟨hk4, rfl⟩ M
    have b3 : X.cell? ⟨w.heap.size, 3, none⟩ = some (.slice (some ⟨g, 0, none⟩) n cc) := M.bx.cell 3
    have bp : X.cell? ⟨s1, 0, none⟩ = some (.int .i64 c) := M.bp.cell 0
    have il := IL.out k hk4
    have q := M.row.cell (k := idx W (pl key) k) (by rw [LEN.out, HE.out]; exact il)
    rw [OWN.out k] at q
    have fr := M.row.frozen (idx W (pl key) k)
    have st := STEP.out k
    obtain ⟨i, hi⟩ : ∃ i, idx W (pl key) k = i := ⟨_, rfl⟩
    rw [hi] at q fr st il ⊢
    obtain ⟨x, hx⟩ : ∃ x, l.getD i 0 = x := ⟨_, rfl⟩
    rw [hx] at q st
    have iL : (i : Int) < (n : Int) := by omega
    have x0 := SM.out i
    rw [hx] at x0
    have WR := Lib.hid (show wrap64 (x + 1) = x + 1 from by unfold wrap64; omega)
    have i0 : (0 : Int) ≤ (i : Int) := by omega
    have MM := Lib.hid M
    clear M hi hx il
    by_cases hxc : x = c
    · subst hxc
      have t1 : (x == x) = true := beq_self_eq_true x
      by_cases h15 : x < 15
      · have t2 : decide (x < 15) = true := decide_eq_true h15
        rw [if_pos ⟨rfl, h15⟩] at st
        have ST := Lib.hid st
        clear st
        gi_wp2
        gi_region
        all_goals gi_wp2
        all_goals exact ⟨(KeepsOthers.setCell _ _ _).trans (KeepsOthers.drew _), by
          exact (MM.out.setR i (x + 1) ST.out (by omega) (by omega) (by omega) (by omega) (by omega) (by omega)).drewN 1⟩
      · have t2 : decide (x < 15) = false := decide_eq_false h15
        rw [if_neg (fun h => h15 h.2)] at st
        have ST := Lib.hid st
        clear st
        gi_wp2
        gi_region
        all_goals gi_wp2
        all_goals exact ⟨KeepsOthers.drew _, (MM.out.same ST.out).drewN 1⟩
    · have t1 : (x == c) = false := beq_eq_false_iff_ne.mpr hxc
      have t2 : decide (x = c) = false := decide_eq_false hxc
      rw [if_neg (fun h => hxc h.1)] at st
      have ST := Lib.hid st
      clear st
      gi_wp2
      gi_region
      all_goals gi_wp2
      all_goals exact ⟨KeepsOthers.drew _, (MM.out.same ST.out).drewN 1⟩
  case done =>
    rintro D k X hD hf M hK
    have hk4 : k = 4 := hf
    have R0 := M.row
    rw [hk4, FIN.out] at R0
    have hD2 : s2 + 2 ≤ D := by rw [Z3.out] at hD; exact hD
    have b2 : X.cell? ⟨w.heap.size, 2, none⟩ = some (.int .i64 A) := M.bx.cell 2
    have f2 := M.bx.frozen 2
    obtain ⟨A1, hA1⟩ : ∃ x, A + 1 = x := ⟨_, rfl⟩
    have wr : IntKind.i64.wrap A1 = A1 := by rw [IntKind.wrap_i64]; omega
    have KX := Lib.hid (show Blk (X.setCell ⟨w.heap.size, 2, none⟩ (.int .i64 A1)) w.heap.size 24 #[.int .i64 W, .int .i64 S, .int .i64 A1, .slice (some ⟨g, 0, none⟩) n cc] from M.bx.set_ 2 _)
    have KR := Lib.hid (show Blk (X.setCell ⟨w.heap.size, 2, none⟩ (.int .i64 A1)) (w.heap.size + 1) 24 #[.int .i64 0, .int .i64 0, .int .i64 0, .slice none 0 0] from M.br.far (by simp) _)
    have RX := Lib.hid (show RowI (X.setCell ⟨w.heap.size, 2, none⟩ (.int .i64 A1)) g (addL W (pl key) l) from R0.far (by simp; omega) _)
    have BX := Lib.hid (show Below w.heap.size w (X.setCell ⟨w.heap.size, 2, none⟩ (.int .i64 A1)) from M.bw.setCell (Nat.le_refl _) _)
    have DK := Lib.hid (show (X.setCell ⟨w.heap.size, 2, none⟩ (.int .i64 A1)).heap[D]? = some (.deferred (some [])) from (KeepsOthers.setCell _ _ _).same D _ hK rfl)
    clear M hK R0 MH STEP OWN LEN
    have d0 := KX.out.cell 0
    have d1 := KX.out.cell 1
    have d2 := KX.out.cell 2
    have d3 := KX.out.cell 3
    change _ = some (Value.int .i64 (W : Int)) at d0
    change _ = some (Value.int .i64 S) at d1
    change _ = some (Value.int .i64 A1) at d2
    change _ = some (Value.slice (some ⟨g, 0, none⟩) n cc) at d3
    by_cases hS1 : A1 = S
    · have EA := Lib.hid (show nxA S A = A1 / 2 by unfold nxA; rw [hA1, if_pos hS1])
      have EL := Lib.hid (show nxL W (pl key) S A l = halve (addL W (pl key) l) by unfold nxL; rw [hA1, if_pos hS1])
      subst hS1
      have HV := Lib.hid (fun (Y : World) (IA : IntsA Y (some ⟨g, 0, none⟩) (addL W (pl key) l)) => halve_any W A1 A1 (some ⟨g, 0, none⟩) cc (addL W (pl key) l) Y IA (by rw [ALN.out, HE.out]; exact NLM.out) HB.out (by rw [ALN.out, HE.out]; exact NL0.out) (by omega) (by omega))
      rw [ALN.out, HE.out] at HV
      gi_wp2_with (gi_at_call 26; fail)
      refine ⟨trivial, ?_⟩
      refine (callsIn_wide.2 (HV.out _ RX.out.ints)).mono ?_
      rintro e w5 ⟨⟨g2, c2, rfl, hc2, hg2, hr2⟩, hb5⟩
      have KR := Lib.hid (KR.out.below hb5 (by have := KR.out.lt; omega))
      have DK0 := DK
      have DK := Lib.hid (show w5.heap[D]? = some (.deferred (some [])) from (hb5.block D (Array.getElem?_eq_some_iff.1 DK.out).1).trans DK.out)
      have BX := Lib.hid (bt BX.out hb5)
      have GD := Lib.hid (show D < g2 from Nat.lt_of_lt_of_le (Array.getElem?_eq_some_iff.1 DK0.out).1 hg2)
      obtain ⟨A2, hA2⟩ : ∃ x, A1 / 2 = x := ⟨_, rfl⟩
      rw [hA2] at EA ⊢
      have HR2 := Lib.hid hr2
      have HC2 := Lib.hid hc2
      have G2 := Lib.hid (show w.heap.size + 2 ≤ g2 from Nat.le_trans (by have := KX.out.lt; have := RX.out.lt; omega) hg2)
      clear hb5 hr2 hc2 HV d0 d1 d2 d3 b2 f2
      have IX := Lib.hid (show (Tryd.prog.info? 24).map (·.size) = some (#[.int .i64 W, .int .i64 A1, .int .i64 A2, .slice (some ⟨g2, 0, none⟩) n c2] : Array Value).size by kernel_rfl)
      have Ioq := Lib.hid (show (#[.int .i64 W, .int .i64 A1, .int .i64 A2, .slice (some ⟨g2, 0, none⟩) n c2] : Array Value).all (·.oneCell') = true by simp [Value.oneCell'])
      gi_wp2_with (with_reducible refine wpListIn_store_blk rfl _ _ _ rfl (w.heap.size + 1) 24 #[.int .i64 0, .int .i64 0, .int .i64 0, .slice none 0 0] #[.int .i64 W, .int .i64 A1, .int .i64 A2, .slice (some ⟨g2, 0, none⟩) n c2] rfl rfl KR.out IX.out rfl Ioq.out rfl ?_)
      rw [EA.out, EL.out]
      refine ⟨by simp, .inl ⟨_, _, rfl, run_takeDeferred ((setRow_other _ _ _ _ (by omega)).trans DK.out), ?_⟩⟩
      exact ⟨_, results_cell_row rfl _ _ _ 24 _ (0, 0) _ rfl (((KR.out.row_ _).put D (.deferred none) (by omega)) : Blk _ _ _ _) Tryd.underlying24 rfl IX.out, ⟨g2, c2, rfl, HC2.out, by have := G2.out; omega, (HR2.out.rowfar (by have := G2.out; omega) _).put D _ (by have := GD.out; omega)⟩, below_put (below_setRow BX.out (by omega) _) (by omega)⟩
    · have t1 : (A1 == S) = false := beq_eq_false_iff_ne.mpr hS1
      have t2 : decide (A1 = S) = false := decide_eq_false hS1
      have EA := Lib.hid (show nxA S A = A1 by unfold nxA; rw [hA1, if_neg hS1])
      have EL := Lib.hid (show nxL W (pl key) S A l = addL W (pl key) l by unfold nxL; rw [hA1, if_neg hS1])
      have IX := Lib.hid (show (Tryd.prog.info? 24).map (·.size) = some (#[.int .i64 W, .int .i64 S, .int .i64 A1, .slice (some ⟨g, 0, none⟩) n cc] : Array Value).size by kernel_rfl)
      have Ioq := Lib.hid (show (#[.int .i64 W, .int .i64 S, .int .i64 A1, .slice (some ⟨g, 0, none⟩) n cc] : Array Value).all (·.oneCell') = true by simp [Value.oneCell'])
      gi_wp2_with (with_reducible refine wpListIn_store_blk rfl _ _ _ rfl (w.heap.size + 1) 24 #[.int .i64 0, .int .i64 0, .int .i64 0, .slice none 0 0] #[.int .i64 W, .int .i64 S, .int .i64 A1, .slice (some ⟨g, 0, none⟩) n cc] rfl rfl KR.out IX.out rfl Ioq.out rfl ?_)
      rw [EA.out, EL.out]
      refine ⟨by simp, .inl ⟨_, _, rfl, run_takeDeferred ((setRow_other _ _ _ _ (by omega)).trans DK.out), ?_⟩⟩
      exact ⟨_, results_cell_row rfl _ _ _ 24 _ (0, 0) _ rfl (((KR.out.row_ _).put D (.deferred none) (by omega)) : Blk _ _ _ _) Tryd.underlying24 rfl IX.out, ⟨g, cc, rfl, HCC.out, by omega, (RX.out.rowfar (by omega) _).put D _ (by omega)⟩, below_put (below_setRow BX.out (by omega) _) (by omega)⟩
end Go.Proofs.YtmmjkhamknfhpaaDoor
