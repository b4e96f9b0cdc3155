/- Mathematics of law 8: a key of a ring finds itself. -/
import Derived.Test.YtcdcnklfcmoiiaaDoorQZC
import Derived.Test.YtcdcnklfcmoiiaaDoorQZB
import Derived.Test.YtcdcnklfcmoiiaaDoorQRE
import Derived.Test.YtcdcnklfcmoiiaaDoorQEP
import Derived.Test.YtcdcnklfcmoiiaaDoorQEQ
namespace Go.Proofs.YtcdcnklfcmoiiaaDoor
set_option linter.unusedVariables false
set_option linter.unusedSimpArgs false
open Go.RowKit Go.Sort
theorem mem_pos {l : List Rw} (h : OrdR l) {i : Nat} (hi : i < l.length) {x : Rw} (hx : l.getD i r0 = x) : posC (cR x.1 x.2.1) l = i :=
  posC_is _ _ i (by omega) (fun j hj => by
    have q := h.lt hj hi
    rw [hx] at q
    exact cR_neg.2 q) (fun _ => by
    rw [hx]
    intro q
    have := cR_neg.1 q
    omega)
theorem mem_has {l : List Rw} (h : OrdR l) {i : Nat} (hi : i < l.length) {x : Rw} (hx : l.getD i r0 = x) : hasC (cR x.1 x.2.1) l = true ∧ findL l x.1 x.2.1 = x := by
  have hp := mem_pos h hi hx
  have hh : hasC (cR x.1 x.2.1) l = true := (hasC_iff _ _).2 ⟨by rw [hp]; exact hi, by rw [hp, hx]; exact cR_zero.2 ⟨rfl, rfl⟩⟩
  refine ⟨hh, ?_⟩
  rw [(find_yes hh).1, hp, hx]
theorem chk_own {l : List Rw} (ok : RingOk l) {i : Nat} (hi : i < l.length) {x : Rw} (hx : l.getD i r0 = x) {p : Int} (hp : p = x.1) (t : Nat) (P : List ByteArray) {lo hi2 : Int} (hc : countsB x lo hi2 = true) : chkE l p x.2.1 t P (mkS t x.2.2.1 P) lo hi2 = 0 := by
  subst hp
  obtain ⟨h1, h2⟩ := mem_has ok.ord hi hx
  unfold chkE
  rw [if_pos h1, h2, if_pos hc, if_pos rfl]
theorem chk_other {l : List Rw} (ok : RingOk l) {i : Nat} (hi : i < l.length) {x : Rw} (hx : l.getD i r0 = x) (t : Nat) (P : List ByteArray) (V : List Nat) {lo hi2 : Int} (hc : countsB x lo hi2 = true) : chkE l x.1 x.2.1 t P V lo hi2 = if mkS t x.2.2.1 P = V then 0 else 8 := by
  obtain ⟨h1, h2⟩ := mem_has ok.ord hi hx
  unfold chkE
  rw [if_pos h1, h2, if_pos hc]
theorem counts_until {x : Rw} (hk : keyOk x) {u : Int} (h1 : x.2.2.2.1 < u) (h2 : u ≤ x.2.2.2.2) : countsB x (u - 1) (u - 1) = true := by
  refine decide_eq_true ?_
  unfold countsP
  unfold keyOk at hk
  omega
theorem rec_setA (A : List Value) (B : List Nat) (C : List Value) (S : List Nat) (n : Nat) (v : Value) (hn : n < A.length) : (recC A B C S).setIfInBounds n v = recC (A.set n v) B C S := by
  unfold recC recL
  simp only [List.setIfInBounds_toArray]
  rw [List.append_assoc, List.set_append_left _ _ hn, ← List.append_assoc]
theorem wp_store_row {P : Program} {a : Act} {W : World} {o : Oper} {K : Act → World → Prop} {Q : Exit → Act → World → Prop} (ty : TypeId) (x y : Operand) (ho : o.op = .store ty x y) (g : Nat) (t : TypeId) (cur cells : Array Value) (hx : a.eval x = .pointer (some ⟨g, 0, none⟩)) (hy : a.eval y = .agg cells)
    (hg : Hs.Blk W g t cur) (hi : (P.info? ty).map (·.size) = some cells.size) (hs : cur.size = cells.size) (h1 : cells.all (·.oneCell') = true)
    (hd : o.dst = none) (h : K a (W.setRow g cells)) : o.wp P a W K Q := by
  have hl : cur.toList.length = cells.size := by rw [Array.length_toList, hs]
  have q := wp_store_mid (P := P) (a := a) (W := W) (o := o) (K := K) (Q := Q) ty x y ho g 0 t cur.toList cells hx hy (by rw [Array.toArray_toList]; exact hg) hi (by omega) h1 hd
  refine q ?_
  have e : (splice cur.toList 0 cells.toList).toArray = cells := by
    unfold splice
    apply Array.ext'
    simp
    omega
  rw [e]
  exact h
theorem EpM.rowfar {W : World} {pa ra : Option Addr} {pl : List Pu} {rl : List Dg} {g : Nat} (h : EpM W pa pl ra rl) (h1 : ∀ p, pa = some p → p.block ≠ g) (h2 : ∀ p, ra = some p → p.block ≠ g) (cs : Array Value) : EpM (W.setRow g cs) pa pl ra rl := ⟨h.1.rowfar h1 cs, h.2.rowfar h2 cs⟩
set_option maxRecDepth 100000 in
theorem field8 (ad va tg : ByteArray) (st sz lo hi ga se : Int) (B S : List Nat) (W : World) (hB : B.length = 16) (hS : S.length = 16) : (Instr.field 58 (.agg (recC [.string ad, .string va, .int .i64 st, .int .i64 sz] B [.string tg, .int .i64 lo, .int .i64 hi, .int .i64 ga, .int .i64 se] S)) 9).run Tryd.prog W = .ok (.agg (S.map Hs.bv).toArray) W := by
  have hp := part_many (W := W) (aggS W) (sizeS W) (recC_S (A := [.string ad, .string va, .int .i64 st, .int .i64 sz]) (C := [.string tg, .int .i64 lo, .int .i64 hi, .int .i64 ga, .int .i64 se]) hB hS (n := 25) rfl)
  unfold Instr.field
  simp [run_underlying Tryd.underlying58, asAgg, hp]
  rfl
theorem counts_same (k1 k2 : Int) (k3 o : ByteArray) (k4 k5 lo hi : Int) : countsB (k1, k2, o, k4, k5) lo hi = countsB (k1, k2, k3, k4, k5) lo hi := rfl
end Go.Proofs.YtcdcnklfcmoiiaaDoor
