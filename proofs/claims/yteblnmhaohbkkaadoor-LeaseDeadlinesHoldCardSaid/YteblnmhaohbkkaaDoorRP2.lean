import Derived.Test.YteblnmhaohbkkaaDoorRP1
import Derived.Laws.CopyOwn
import Derived.Laws.CopyRow
import Derived.Lib.BufferWrite
import Derived.Laws.BytesArg
namespace Go.Proofs.YteblnmhaohbkkaaDoor
set_option linter.unusedVariables false
set_option linter.unusedSimpArgs false
set_option linter.unusedSectionVars false
section
namespace Hs
open Go.RowKit
structure LaidC (W : World) : Prop where
  rounds : ∀ k, k < 64 → W.cell? ⟨0, k, none⟩ = some (wv (KS.getD k 0))
set_option maxRecDepth 100000 in
theorem LaidC.mono {W W' : World} (h : LaidC W) (hb : Below W.heap.size W W') : LaidC W' := ⟨fun k hk => keep (h.rounds k hk) hb⟩
set_option maxRecDepth 100000 in
theorem wpList_load_words {P : Program} {ops : Array Oper} {rest : List Oper} {op : Oper} {a : Act} {w : World} {Q : Exit → Act → World → Prop} (hgd : op.guard = none) (ty : TypeId) (x : Operand) (ho : op.op = .load ty x)
    (g : Nat) (hx : a.eval x = .pointer (some ⟨g, 0, none⟩)) (l : List Nat) (n : Nat) (e : TypeId) (hg : ∀ k, k < l.length → w.cell? ⟨g, k, none⟩ = some (wv (l.getD k 0)))
    (hu : P.underlying ty = some (.array n e)) (hi : (P.info? ty).map (·.size) = some l.length)
    (h : wpList P ops Q rest (a.put op.dst (.agg (wvs l))) w) : wpList P ops Q (op :: rest) a w :=
  wpList_load_mid hgd ty x ho g 0 hx (l.map wv) (.array n e) (fun j v hv => by
    rw [List.getElem?_map] at hv
    by_cases hj : j < l.length
    · rw [Nat.zero_add, hg j hj, ← hv, List.getElem?_eq_getElem hj, List.getD_eq_getElem?_getD, List.getElem?_eq_getElem hj]; rfl
    · rw [List.getElem?_eq_none (by omega)] at hv; cases hv) hu rfl (by rw [List.length_map]; exact hi) h
set_option maxRecDepth 100000 in
theorem index_words (l : List Nat) (t : Nat) (hl : l.length = 64) (ht : t < 64) (W : World) : (Instr.index 159 (.agg (wvs l)) (.int .i64 (t : Int))).run Tryd.prog W = .ok (wv (l.getD t 0)) W := by
  have hn : 0 ≤ (t : Int) ∧ (t : Int) < ((64 : Nat) : Int) := by omega
  have hz : (sizeOf 131).run Tryd.prog W = .ok 1 W := by kernel_rfl
  have hp := run_part_plain (P := Tryd.prog) (w := W) (e := 131) (by kernel_rfl) (xs := wvs l) (off := t) (wvs_at l t (by omega))
  simp [Instr.index, run_underlying Tryd.underlying159, asIntOf, hn, go_sem, hz, hp, ht, wvs_at l t (by omega)]
set_option maxRecDepth 100000 in
theorem not_val (e : Nat) (he : e < 4294967296) : bits .xor .u32 4294967295 (e : Int) = ((e ^^^ 4294967295 : Nat) : Int) := by
  have := u32_xor_nat 4294967295 e (by decide) he
  rw [Nat.xor_comm] at this
  exact this
def St.arr (s : St) : Array Value := #[wv (s.a), wv (s.b), wv (s.c), wv (s.d), wv (s.e), wv (s.f), wv (s.g), wv (s.h)]
set_option maxRecDepth 100000 in
set_option maxHeartbeats 1000000 in
theorem compress_any (s : St) (b : List Nat) (w : World) (hs : s.Ok) (hb : b.length = 64) (hlt : ∀ k, b.getD k 0 < 256) (hla : LaidC w) :
    Calls Tryd.prog 90 #[.agg #[wv s.a, wv s.b, wv s.c, wv s.d, wv s.e, wv s.f, wv s.g, wv s.h], .agg (bvs b)] w fun e w' => e = .returned (.agg (comp s b).arr) ∧ Below w.heap.size w w' := by
  have C54 := Lib.hid (fun W : World => schedule_any b W hb hlt)
  have HLA := Lib.hid hla
  have SL := Lib.hid (fun k => getD_lt (by decide : 0 < 4294967296) (sched_lt b hlt 64) k)
  have SN := Lib.hid (sched_len b 64)
  have hcomp : comp s b = s.plus (rounds (sched b 64) s 64) := rfl
  obtain ⟨ws, hws⟩ : ∃ ws, sched b 64 = ws := ⟨_, rfl⟩
  rw [hws] at C54 SL SN hcomp
  have HC := Lib.hid hcomp
  have ib : (Tryd.prog.info? 133).map (·.size) = some (bvs b).size := by rw [bvs_size, hb]; kernel_rfl
  have iw : (Tryd.prog.info? 159).map (·.size) = some (wvs ws).size := by rw [wvs_size, SN.out]; kernel_rfl
  have sw : (wvs (List.replicate 64 0)).size = (wvs ws).size := by rw [wvs_size, wvs_size, SN.out]; rfl
  have IB := Lib.hid ib; have IW := Lib.hid iw; have SW := Lib.hid sw
  clear hws hcomp hb hlt hla ib iw sw
  obtain ⟨sa, sb, sc, sd, se, sf, sg, sh⟩ := s
  have HS := Lib.hid hs
  have HV := Lib.hid (rounds_ok ws hs)
  clear hs
  go_enter Tryd.func90, Tryd.ntmps90
  go_wp2_with (first | (with_reducible refine wpList_load_blk rfl _ _ rfl _ rfl 133 _ _ _ (((Blk.new' _ _ _ _ (by simp) rfl).alloc _)) Tryd.underlying133 IB.out ?_) | fail)
  refine (C54.out _).mono ?_
  rintro e w1 ⟨rfl, hb1⟩
  have k0 : Blk w1 w.heap.size 132 #[wv sa, wv sb, wv sc, wv sd, wv se, wv sf, wv sg, wv sh] := (((Blk.new w _ _).alloc _).alloc _).below hb1 (by first | (simp; done) | (simp; omega))
  have k4 : Blk w1 (w.heap.size + 1 + 1) 132 (wvs (List.replicate 8 0)) := (Blk.new' _ _ _ _ (by simp) rfl).below hb1 (by first | (simp; done) | (simp; omega))
  have B1 : Below w.heap.size w w1 := bt (by (repeat' (first | (with_reducible exact Below.refl _ _) | (with_reducible assumption) | (with_reducible refine Below.alloc ?_ ?_ _) | (with_reducible refine Below.drew ?_) | (with_reducible refine below_dn ?_) | (with_reducible refine Below.setCell ?_ ?_ _) | (with_reducible exact Nat.le_refl _) | omega | (simp only [World.size_alloc, World.size_setCell, World.size_drew]; omega) | (simp; omega) | (simp; done)))) hb1
  have s1 : w.heap.size + 3 ≤ w1.heap.size := by have := hb1.size; simp at this; omega
  clear hb1
  go_wp2_with (first | (with_reducible refine wpList_store_blk rfl _ _ _ rfl _ 159 (wvs (List.replicate 64 0)) _ rfl rfl (Blk.new' _ _ _ _ rfl rfl) IW.out SW.out (wvs_one _) rfl ?_) | fail)
  generalize hW : World.setRow _ w1.heap.size (wvs ws) = W2
  have j0 : Blk W2 w.heap.size 132 #[wv sa, wv sb, wv sc, wv sd, wv se, wv sf, wv sg, wv sh] := by rw [← hW]; exact (k0.alloc _).rowfar (by omega) _
  have j4 : Blk W2 (w.heap.size + 1 + 1) 132 (wvs (List.replicate 8 0)) := by rw [← hW]; exact (k4.alloc _).rowfar (by omega) _
  have j5 : Blk W2 w1.heap.size 159 (wvs ws) := by rw [← hW]; exact (Blk.new' w1 159 _ (wvs (List.replicate 64 0)) rfl rfl).row_ _
  have B2 : Below w.heap.size w W2 := by rw [← hW]; exact below_setRow (B1.alloc (by omega) _) (by omega) _
  have s2 : w1.heap.size + 1 ≤ W2.heap.size := by rw [← hW]; simp
  clear hW k0 k4 B1
  have d0 : W2.cell? ⟨w.heap.size, 0, none⟩ = some (wv sa) := j0.cell 0
  have d1 : W2.cell? ⟨w.heap.size, 1, none⟩ = some (wv sb) := j0.cell 1
  have d2 : W2.cell? ⟨w.heap.size, 2, none⟩ = some (wv sc) := j0.cell 2
  have d3 : W2.cell? ⟨w.heap.size, 3, none⟩ = some (wv sd) := j0.cell 3
  have d4 : W2.cell? ⟨w.heap.size, 4, none⟩ = some (wv se) := j0.cell 4
  have d5 : W2.cell? ⟨w.heap.size, 5, none⟩ = some (wv sf) := j0.cell 5
  have d6 : W2.cell? ⟨w.heap.size, 6, none⟩ = some (wv sg) := j0.cell 6
  have d7 : W2.cell? ⟨w.heap.size, 7, none⟩ = some (wv sh) := j0.cell 7
  have J0 := Lib.hid j0; have J4 := Lib.hid j4; have J5 := Lib.hid j5
  clear j0 j4 j5
  go_wp2
  go_quiet (fail)
  have cells : ∀ (q : Nat) k, k < KS.length → (W2.drewN q).cell? ⟨0, k, none⟩ = some (wv (KS.getD k 0)) := fun q k hk => keep (HLA.out.rounds k hk) (by (repeat' (first | (with_reducible exact Below.refl _ _) | (with_reducible assumption) | (with_reducible refine Below.alloc ?_ ?_ _) | (with_reducible refine Below.drew ?_) | (with_reducible refine below_dn ?_) | (with_reducible refine Below.setCell ?_ ?_ _) | (with_reducible exact Nat.le_refl _) | omega | (simp only [World.size_alloc, World.size_setCell, World.size_drew]; omega) | (simp; omega) | (simp; done))))
  have CE := Lib.hid cells
  clear cells
  go_wp2_with (first | (with_reducible refine wpList_load_words rfl _ _ rfl 0 rfl KS _ _ (CE.out _) Tryd.underlying159 (by kernel_rfl) ?_) | fail)
  go_loopw [37, 6, 7, 8, 9, 10, 11, 12, 13] (fun uk u6 u7 u8 u9 u10 u11 u12 u13 wr => ∃ (t : Nat) (v : St), t ≤ 64 ∧ uk = .int .i64 t ∧ u6 = wv v.a ∧ u7 = wv v.b ∧ u8 = wv v.c ∧ u9 = wv v.d ∧ u10 = wv v.e ∧ u11 = wv v.f ∧ u12 = wv v.g ∧ u13 = wv v.h ∧ wr.heap.size = W2.heap.size ∧ Below w.heap.size w wr ∧ Hid (Blk wr w.heap.size 132 #[wv sa, wv sb, wv sc, wv sd, wv se, wv sf, wv sg, wv sh]) ∧ Hid (Blk wr (w.heap.size + 1 + 1) 132 (wvs (List.replicate 8 0))) ∧ Hid (Blk wr w1.heap.size 159 (wvs ws)) ∧ Hid (rounds ws ⟨sa, sb, sc, sd, se, sf, sg, sh⟩ t = v)) (fun uk _ _ _ _ _ _ _ _ _ => 64 - (intOf uk).toNat)
  case atStart => exact ⟨0, _, by omega, rfl, rfl, rfl, rfl, rfl, rfl, rfl, rfl, rfl, by simp, by (repeat' (first | (with_reducible exact Below.refl _ _) | (with_reducible assumption) | (with_reducible refine Below.alloc ?_ ?_ _) | (with_reducible refine Below.drew ?_) | (with_reducible refine below_dn ?_) | (with_reducible refine Below.setCell ?_ ?_ _) | (with_reducible exact Nat.le_refl _) | omega | (simp only [World.size_alloc, World.size_setCell, World.size_drew]; omega) | (simp; omega) | (simp; done))), Lib.hid (J0.out.drewN _), Lib.hid (J4.out.drewN _), Lib.hid (J5.out.drewN _), Lib.hid rfl⟩
  case round =>
    clear J0 J4 J5 d0 d1 d2 d3 d4 d5 d6 d7 B2
    obtain ⟨t, v, ht, rfl, rfl, rfl, rfl, rfl, rfl, rfl, rfl, rfl, hsz, B2, J0, J4, J5, hv⟩ := hrel
    have vok := HV.out t
    rw [hv.out] at vok
    by_cases hlt : t < 64
    · have hnx : rounds ws ⟨sa, sb, sc, sd, se, sf, sg, sh⟩ (t + 1) = rnd v (KS.getD t 0) (ws.getD t 0) := by rw [rounds, hv.out]
      clear hv
      obtain ⟨a, b', c, d, e, f, g, h⟩ := v
      obtain ⟨va, vb, vc, vd, ve, vf, vg, vh⟩ := vok
      dsimp only at va vb vc vd ve vf vg vh
      have ix := fun W : World => index_words KS t rfl hlt W
      have dw0 := (J5.out).cell t |>.trans (wvs_at ws t (by rw [SN.out]; exact hlt))
      obtain ⟨kt, hkt⟩ : ∃ x, KS.getD t 0 = x := ⟨_, rfl⟩
      obtain ⟨wt, hwt⟩ : ∃ x, ws.getD t 0 = x := ⟨_, rfl⟩
      rw [hkt] at ix hnx
      rw [hwt] at dw0 hnx
      have hx : tx ⟨a, b', c, d, e, f, g, h⟩ kt wt = add32 (add32 (add32 (add32 h ((rotr e 6 ^^^ rotr e 11) ^^^ rotr e 25)) ((e &&& f) ^^^ ((e ^^^ 4294967295) &&& g))) kt) wt := rfl
      have hy : ty ⟨a, b', c, d, e, f, g, h⟩ = add32 ((rotr a 2 ^^^ rotr a 13) ^^^ rotr a 22) (((a &&& b') ^^^ (a &&& c)) ^^^ (b' &&& c)) := rfl
      have v1 : bits .xor .u32 (rotr e 6 : Int) (rotr e 11 : Int) = ((rotr e 6 ^^^ rotr e 11 : Nat) : Int) := u32_xor_nat _ _ (rotr_lt _ _ ve) (rotr_lt _ _ ve)
      have w1 : rotr e 6 ^^^ rotr e 11 < 4294967296 := xor32 (rotr_lt _ _ ve) (rotr_lt _ _ ve)
      obtain ⟨R1, eR1⟩ : ∃ x, rotr e 6 ^^^ rotr e 11 = x := ⟨_, rfl⟩
      rw [eR1] at v1 w1 hx
      have v2 : bits .xor .u32 (R1 : Int) (rotr e 25 : Int) = ((R1 ^^^ rotr e 25 : Nat) : Int) := u32_xor_nat _ _ w1 (rotr_lt _ _ ve)
      have w2 : R1 ^^^ rotr e 25 < 4294967296 := xor32 w1 (rotr_lt _ _ ve)
      obtain ⟨R2, eR2⟩ : ∃ x, R1 ^^^ rotr e 25 = x := ⟨_, rfl⟩
      rw [eR2] at v2 w2 hx
      have v3 : bits .and .u32 (e : Int) (f : Int) = ((e &&& f : Nat) : Int) := u32_and_nat _ _ ve vf
      have w3 : e &&& f < 4294967296 := and32 vf
      obtain ⟨N1, eN1⟩ : ∃ x, e &&& f = x := ⟨_, rfl⟩
      rw [eN1] at v3 w3 hx
      have v4 : bits .xor .u32 4294967295 (e : Int) = ((e ^^^ 4294967295 : Nat) : Int) := not_val e ve
      have w4 : e ^^^ 4294967295 < 4294967296 := xor32 ve (by decide)
      have v4b : bits .xor .u32 IntKind.u32.max (e : Int) = ((e ^^^ 4294967295 : Nat) : Int) := not_val e ve
      have v4c : bits .xor .u32 (if IntKind.u32.signed = true then -1 else IntKind.u32.max) (e : Int) = ((e ^^^ 4294967295 : Nat) : Int) := not_val e ve
      obtain ⟨N2, eN2⟩ : ∃ x, e ^^^ 4294967295 = x := ⟨_, rfl⟩
      rw [eN2] at v4 w4 hx v4b v4c
      have v5 : bits .and .u32 (N2 : Int) (g : Int) = ((N2 &&& g : Nat) : Int) := u32_and_nat _ _ w4 vg
      have w5 : N2 &&& g < 4294967296 := and32 vg
      obtain ⟨N3, eN3⟩ : ∃ x, N2 &&& g = x := ⟨_, rfl⟩
      rw [eN3] at v5 w5 hx
      have v6 : bits .xor .u32 (N1 : Int) (N3 : Int) = ((N1 ^^^ N3 : Nat) : Int) := u32_xor_nat _ _ w3 w5
      have w6 : N1 ^^^ N3 < 4294967296 := xor32 w3 w5
      obtain ⟨N4, eN4⟩ : ∃ x, N1 ^^^ N3 = x := ⟨_, rfl⟩
      rw [eN4] at v6 w6 hx
      have v7 : bits .and .u32 (a : Int) (b' : Int) = ((a &&& b' : Nat) : Int) := u32_and_nat _ _ va vb
      have w7 : a &&& b' < 4294967296 := and32 vb
      obtain ⟨M1, eM1⟩ : ∃ x, a &&& b' = x := ⟨_, rfl⟩
      rw [eM1] at v7 w7 hy
      have v8 : bits .and .u32 (a : Int) (c : Int) = ((a &&& c : Nat) : Int) := u32_and_nat _ _ va vc
      have w8 : a &&& c < 4294967296 := and32 vc
      obtain ⟨M2, eM2⟩ : ∃ x, a &&& c = x := ⟨_, rfl⟩
      rw [eM2] at v8 w8 hy
      have v9 : bits .and .u32 (b' : Int) (c : Int) = ((b' &&& c : Nat) : Int) := u32_and_nat _ _ vb vc
      have w9 : b' &&& c < 4294967296 := and32 vc
      obtain ⟨M3, eM3⟩ : ∃ x, b' &&& c = x := ⟨_, rfl⟩
      rw [eM3] at v9 w9 hy
      have v10 : bits .xor .u32 (M1 : Int) (M2 : Int) = ((M1 ^^^ M2 : Nat) : Int) := u32_xor_nat _ _ w7 w8
      have w10 : M1 ^^^ M2 < 4294967296 := xor32 w7 w8
      obtain ⟨M4, eM4⟩ : ∃ x, M1 ^^^ M2 = x := ⟨_, rfl⟩
      rw [eM4] at v10 w10 hy
      have v11 : bits .xor .u32 (M4 : Int) (M3 : Int) = ((M4 ^^^ M3 : Nat) : Int) := u32_xor_nat _ _ w10 w9
      have w11 : M4 ^^^ M3 < 4294967296 := xor32 w10 w9
      obtain ⟨M5, eM5⟩ : ∃ x, M4 ^^^ M3 = x := ⟨_, rfl⟩
      rw [eM5] at v11 w11 hy
      have v12 : bits .xor .u32 (rotr a 2 : Int) (rotr a 13 : Int) = ((rotr a 2 ^^^ rotr a 13 : Nat) : Int) := u32_xor_nat _ _ (rotr_lt _ _ va) (rotr_lt _ _ va)
      have w12 : rotr a 2 ^^^ rotr a 13 < 4294967296 := xor32 (rotr_lt _ _ va) (rotr_lt _ _ va)
      obtain ⟨R3, eR3⟩ : ∃ x, rotr a 2 ^^^ rotr a 13 = x := ⟨_, rfl⟩
      rw [eR3] at v12 w12 hy
      have v13 : bits .xor .u32 (R3 : Int) (rotr a 22 : Int) = ((R3 ^^^ rotr a 22 : Nat) : Int) := u32_xor_nat _ _ w12 (rotr_lt _ _ va)
      have w13 : R3 ^^^ rotr a 22 < 4294967296 := xor32 w12 (rotr_lt _ _ va)
      obtain ⟨R4, eR4⟩ : ∃ x, R3 ^^^ rotr a 22 = x := ⟨_, rfl⟩
      rw [eR4] at v13 w13 hy
      have sP1 := add_val h R2
      have tP1 := add_mod h R2
      obtain ⟨P1, eP1⟩ : ∃ x, add32 h R2 = x := ⟨_, rfl⟩
      rw [eP1] at sP1 tP1 hx
      have sP2 := add_val P1 N4
      have tP2 := add_mod P1 N4
      obtain ⟨P2, eP2⟩ : ∃ x, add32 P1 N4 = x := ⟨_, rfl⟩
      rw [eP2] at sP2 tP2 hx
      have sP3 := add_val P2 kt
      have tP3 := add_mod P2 kt
      obtain ⟨P3, eP3⟩ : ∃ x, add32 P2 kt = x := ⟨_, rfl⟩
      rw [eP3] at sP3 tP3 hx
      have sX := add_val P3 wt
      have tX := add_mod P3 wt
      obtain ⟨X, eX⟩ : ∃ x, add32 P3 wt = x := ⟨_, rfl⟩
      rw [eX] at sX tX hx
      have sY := add_val R4 M5
      have tY := add_mod R4 M5
      obtain ⟨Y, eY⟩ : ∃ x, add32 R4 M5 = x := ⟨_, rfl⟩
      rw [eY] at sY tY hy
      have hr : rnd ⟨a, b', c, d, e, f, g, h⟩ kt wt = ⟨add32 (tx ⟨a, b', c, d, e, f, g, h⟩ kt wt) (ty ⟨a, b', c, d, e, f, g, h⟩), a, b', c, add32 d (tx ⟨a, b', c, d, e, f, g, h⟩ kt wt), e, f, g⟩ := rfl
      rw [hr, hx, hy] at hnx
      have sA := add_val X Y
      have tA := add_mod X Y
      obtain ⟨A, eA⟩ : ∃ x, add32 X Y = x := ⟨_, rfl⟩
      rw [eA] at sA tA hnx
      have sD := add_val d X
      have tD := add_mod d X
      obtain ⟨D, eD⟩ : ∃ x, add32 d X = x := ⟨_, rfl⟩
      rw [eD] at sD tD hnx
      have c6 := Lib.hid (fun W : World => rotq6 e W ve)
      have c11 := Lib.hid (fun W : World => rotq11 e W ve)
      have c25 := Lib.hid (fun W : World => rotq25 e W ve)
      have c2 := Lib.hid (fun W : World => rot2 a W va)
      have c13 := Lib.hid (fun W : World => rot13 a W va)
      have c22 := Lib.hid (fun W : World => rot22 a W va)
      obtain ⟨r6, h6⟩ : ∃ r, rotr e 6 = r := ⟨_, rfl⟩
      obtain ⟨r11, h11⟩ : ∃ r, rotr e 11 = r := ⟨_, rfl⟩
      obtain ⟨r25, h25⟩ : ∃ r, rotr e 25 = r := ⟨_, rfl⟩
      obtain ⟨r2, h2⟩ : ∃ r, rotr a 2 = r := ⟨_, rfl⟩
      obtain ⟨r13, h13⟩ : ∃ r, rotr a 13 = r := ⟨_, rfl⟩
      obtain ⟨r22, h22⟩ : ∃ r, rotr a 22 = r := ⟨_, rfl⟩
      rw [h6] at c6 v1; rw [h11] at c11 v1; rw [h25] at c25 v2; rw [h2] at c2 v12; rw [h13] at c13 v12; rw [h22] at c22 v13
      have it : (t : Int) < 64 := by omega
      have pt : (0 : Int) ≤ (t : Int) := by omega
      have NX := Lib.hid hnx
      clear hkt hwt hx hy hr hnx h6 h11 h25 h2 h13 h22 va vb vc vd ve vf vg vh eR1 w1 eR2 w2 eN1 w3 eN2 w4 eN3 w5 eN4 w6 eM1 w7 eM2 w8 eM3 w9 eM4 w10 eM5 w11 eR3 w12 eR4 w13 eP1 eP2 eP3 eX eY eA eD
      go_wp2
      go_quiet ((go_at_call 98; first | (with_reducible exact Calls.quiet_of_same (c6.out _)) | (with_reducible exact Calls.quiet_of_same (c11.out _)) | (with_reducible exact Calls.quiet_of_same (c25.out _))))
      go_wp2_with fail
      refine (c2.out _).mono ?_
      rintro e w3 ⟨rfl, rfl⟩
      go_wp2_with fail
      refine (c13.out _).mono ?_
      rintro e w3 ⟨rfl, rfl⟩
      go_wp2_with fail
      refine (c22.out _).mono ?_
      rintro e w3 ⟨rfl, rfl⟩
      go_wp2
      go_roundw
      case rel => exact ⟨t + 1, _, by omega, by go_num, rfl, rfl, rfl, rfl, rfl, rfl, rfl, rfl, by simp [hsz], by (repeat' (first | (with_reducible exact Below.refl _ _) | (with_reducible assumption) | (with_reducible refine Below.alloc ?_ ?_ _) | (with_reducible refine Below.drew ?_) | (with_reducible refine below_dn ?_) | (with_reducible refine Below.setCell ?_ ?_ _) | (with_reducible exact Nat.le_refl _) | omega | (simp only [World.size_alloc, World.size_setCell, World.size_drew]; omega) | (simp; omega) | (simp; done))), Lib.hid (J0.out.drewN _), Lib.hid (J4.out.drewN _), Lib.hid (J5.out.drewN _), NX⟩
      case measure => simp [intOf]; omega
    · have KE := Lib.hid (show t = 64 by omega)
      have hc := HC.out
      have hv' := hv.out
      rw [KE.out] at hv'
      rw [hv'] at hc
      have HC := Lib.hid hc
      clear hc hv' hv vok ht
      obtain ⟨a, b', c, d, e, f, g, h⟩ := v
      have d0 : wr.cell? ⟨w.heap.size, 0, none⟩ = some (wv sa) := J0.out.cell 0
      have d1 : wr.cell? ⟨w.heap.size, 1, none⟩ = some (wv sb) := J0.out.cell 1
      have d2 : wr.cell? ⟨w.heap.size, 2, none⟩ = some (wv sc) := J0.out.cell 2
      have d3 : wr.cell? ⟨w.heap.size, 3, none⟩ = some (wv sd) := J0.out.cell 3
      have d4 : wr.cell? ⟨w.heap.size, 4, none⟩ = some (wv se) := J0.out.cell 4
      have d5 : wr.cell? ⟨w.heap.size, 5, none⟩ = some (wv sf) := J0.out.cell 5
      have d6 : wr.cell? ⟨w.heap.size, 6, none⟩ = some (wv sg) := J0.out.cell 6
      have d7 : wr.cell? ⟨w.heap.size, 7, none⟩ = some (wv sh) := J0.out.cell 7
      have qa := add_val sa a
      have pa := add_mod sa a
      have qb := add_val sb b'
      have pb := add_mod sb b'
      have qc := add_val sc c
      have pc := add_mod sc c
      have qd := add_val sd d
      have pd := add_mod sd d
      have qe := add_val se e
      have pe := add_mod se e
      have qf := add_val sf f
      have pf := add_mod sf f
      have qg := add_val sg g
      have pg := add_mod sg g
      have qh := add_val sh h
      have ph := add_mod sh h
      obtain ⟨Sa, ha⟩ : ∃ x, add32 sa a = x := ⟨_, rfl⟩
      obtain ⟨Sb, hb⟩ : ∃ x, add32 sb b' = x := ⟨_, rfl⟩
      obtain ⟨Sc, hc⟩ : ∃ x, add32 sc c = x := ⟨_, rfl⟩
      obtain ⟨Sd, hd⟩ : ∃ x, add32 sd d = x := ⟨_, rfl⟩
      obtain ⟨Se, he⟩ : ∃ x, add32 se e = x := ⟨_, rfl⟩
      obtain ⟨Sf, hf⟩ : ∃ x, add32 sf f = x := ⟨_, rfl⟩
      obtain ⟨Sg, hg⟩ : ∃ x, add32 sg g = x := ⟨_, rfl⟩
      obtain ⟨Sh, hh⟩ : ∃ x, add32 sh h = x := ⟨_, rfl⟩
      rw [ha] at qa pa
      rw [hb] at qb pb
      rw [hc] at qc pc
      rw [hd] at qd pd
      rw [he] at qe pe
      rw [hf] at qf pf
      rw [hg] at qg pg
      rw [hh] at qh ph
      have HC2 : (comp ⟨sa, sb, sc, sd, se, sf, sg, sh⟩ b).arr = #[wv Sa, wv Sb, wv Sc, wv Sd, wv Se, wv Sf, wv Sg, wv Sh] := by
        rw [HC.out]
        simp only [St.plus, St.arr, ha, hb, hc, hd, he, hf, hg, hh]
      have HF := Lib.hid HC2
      clear HC2 ha hb hc hd he hf hg hh
      have iz : (Tryd.prog.info? 132).map (·.size) = some (#[wv Sa, wv Sb, wv Sc, wv Sd, wv Se, wv Sf, wv Sg, wv Sh] : Array Value).size := by kernel_rfl
      have iy : (wvs (List.replicate 8 0)).size = (#[wv Sa, wv Sb, wv Sc, wv Sd, wv Se, wv Sf, wv Sg, wv Sh] : Array Value).size := rfl
      have ix : (#[wv Sa, wv Sb, wv Sc, wv Sd, wv Se, wv Sf, wv Sg, wv Sh] : Array Value).all (·.oneCell') = true := by simp [Value.oneCell']
      have IZ := Lib.hid iz; have IY := Lib.hid iy; have IX := Lib.hid ix
      clear iz iy ix
      go_wp2_with (first | (with_reducible refine wpList_store_blk rfl _ _ _ rfl _ 132 (wvs (List.replicate 8 0)) #[wv Sa, wv Sb, wv Sc, wv Sd, wv Se, wv Sf, wv Sg, wv Sh] rfl rfl J4.out IZ.out IY.out IX.out rfl ?_) | fail)
      refine bodyPost_ret (v := .agg #[wv Sa, wv Sb, wv Sc, wv Sd, wv Se, wv Sf, wv Sg, wv Sh]) (results_cell_row rfl _ _ _ 132 _ (0, 0) _ rfl (J4.out.row_ _) Tryd.underlying132 rfl IZ.out) rfl ⟨?_, ?_⟩
      · rw [HF.out]
      · exact below_setRow B2 (by omega) _
end Hs
end
section
namespace Hs
open Go
structure Is (s : St) (r m : List Nat) : Prop where
  st : s = blocks m (m.length / 64)
  len : r.length = 64
  lt : ∀ x ∈ r, x < 256
  mlt : ∀ x ∈ m, x < 256
  rest : r.take (m.length % 64) = m.drop (64 * (m.length / 64))
set_option maxRecDepth 100000 in
theorem is_begin (r : List Nat) (h : r.length = 64) (hr : ∀ x ∈ r, x < 256) : Is st0 r [] := ⟨rfl, h, hr, by simp, by simp⟩
set_option maxRecDepth 100000 in
theorem Is.ok {s : St} {r m : List Nat} (h : Is s r m) : s.Ok := by rw [h.st]; exact blocks_ok _ _
set_option maxRecDepth 100000 in
theorem splice_mem {L x : List Nat} {u : Nat} {P : Nat → Prop} (h : ∀ y ∈ L, P y) (k : ∀ y ∈ x, P y) : ∀ y ∈ splice L u x, P y := by
  intro y hy
  unfold splice at hy
  simp only [List.mem_append] at hy
  rcases hy with hy | hy | hy
  · exact h y (List.mem_of_mem_take hy)
  · exact k y hy
  · exact h y (List.mem_of_mem_drop hy)
set_option maxRecDepth 100000 in
theorem splice_take {L x : List Nat} {u : Nat} (h : u + x.length ≤ L.length) : (splice L u x).take (u + x.length) = L.take u ++ x := by
  unfold splice
  rw [← List.append_assoc, List.take_append_of_le_length (by simp; omega), List.take_of_length_le (by simp; omega)]
set_option maxRecDepth 100000 in
theorem splice_whole {L x : List Nat} {u : Nat} (h : u + x.length = L.length) : splice L u x = L.take u ++ x := by
  unfold splice
  rw [List.drop_eq_nil_of_le (by omega), List.append_nil]
set_option maxRecDepth 100000 in
theorem drop_app (m x : List Nat) (n : Nat) (h : n ≤ m.length) : (m ++ x).drop n = m.drop n ++ x := List.drop_append_of_le_length h
set_option maxRecDepth 100000 in
theorem blocks_app (m x : List Nat) (n : Nat) (h : 64 * n ≤ m.length) : blocks (m ++ x) n = blocks m n :=
  blocks_same (m ++ x) m n (by rw [List.take_append_of_le_length h]) n (Nat.le_refl _)
set_option maxRecDepth 100000 in
theorem Is.some {s : St} {r m : List Nat} (h : Is s r m) (x : List Nat) (hx : ∀ y ∈ x, y < 256) (hn : m.length % 64 + x.length < 64) : Is s (splice r (m.length % 64) x) (m ++ x) := by
  have e1 : (m ++ x).length / 64 = m.length / 64 := by rw [List.length_append]; omega
  have e2 : (m ++ x).length % 64 = m.length % 64 + x.length := by rw [List.length_append]; omega
  have hl := h.len
  refine ⟨?_, ?_, splice_mem h.lt hx, ?_, ?_⟩
  · rw [e1, blocks_app _ _ _ (by omega)]; exact h.st
  · rw [length_splice _ _ _ (by omega)]; exact hl
  · intro y hy
    rcases List.mem_append.1 hy with hy | hy
    · exact h.mlt y hy
    · exact hx y hy
  · rw [e1, e2, splice_take (by omega), drop_app _ _ _ (by omega), h.rest]
set_option maxRecDepth 100000 in
theorem Is.full {s : St} {r m : List Nat} (h : Is s r m) (x : List Nat) (hx : ∀ y ∈ x, y < 256) (hn : m.length % 64 + x.length = 64) : Is (comp s (splice r (m.length % 64) x)) (splice r (m.length % 64) x) (m ++ x) := by
  have e1 : (m ++ x).length / 64 = m.length / 64 + 1 := by rw [List.length_append]; omega
  have e2 : (m ++ x).length % 64 = 0 := by rw [List.length_append]; omega
  have hl := h.len
  have e3 : splice r (m.length % 64) x = m.drop (64 * (m.length / 64)) ++ x := by rw [splice_whole (by omega), h.rest]
  refine ⟨?_, ?_, splice_mem h.lt hx, ?_, ?_⟩
  · rw [e1, blocks, blocks_app _ _ _ (by omega), ← h.st, drop_app _ _ _ (by omega), e3]
    congr 1
    rw [List.take_of_length_le (by rw [List.length_append, List.length_drop]; omega)]
  · rw [length_splice _ _ _ (by omega)]; exact hl
  · intro y hy
    rcases List.mem_append.1 hy with hy | hy
    · exact h.mlt y hy
    · exact hx y hy
  · rw [e1, e2, List.take_zero, List.drop_eq_nil_of_le (by rw [List.length_append]; omega)]
def tailB (r : List Nat) (u : Nat) : List Nat := r.take u ++ [128] ++ List.replicate (63 - u) 0
set_option maxRecDepth 100000 in
theorem tailB_len {r : List Nat} {u : Nat} (hr : r.length = 64) (hu : u < 64) : (tailB r u).length = 64 := by unfold tailB; simp; omega
set_option maxRecDepth 100000 in
theorem tailB_lt {r : List Nat} {u : Nat} (hr : ∀ x ∈ r, x < 256) : ∀ x ∈ tailB r u, x < 256 := by
  intro x hx
  unfold tailB at hx
  simp only [List.mem_append, List.mem_singleton, List.mem_replicate] at hx
  rcases hx with (hx | hx) | hx
  · exact hr x (List.mem_of_mem_take hx)
  · omega
  · omega
set_option maxRecDepth 100000 in
theorem sha_short {s : St} {r m : List Nat} (h : Is s r m) (hu : m.length % 64 < 56) : sha m = (comp s ((tailB r (m.length % 64)).take 56 ++ be8 (8 * m.length))).bytes := by
  obtain ⟨q, hq⟩ : ∃ q, m.length / 64 = q := ⟨_, rfl⟩
  obtain ⟨u, hu'⟩ : ∃ u, m.length % 64 = u := ⟨_, rfl⟩
  have hl : m.length = 64 * q + u := by omega
  have hp : padded m = m ++ ([128] ++ List.replicate (55 - u) 0 ++ be8 (8 * m.length)) := by
    unfold padded zeros
    rw [hu', show (119 - u) % 64 = 55 - u by omega, List.append_assoc, List.append_assoc, List.append_assoc]
  have hlen : (padded m).length / 64 = q + 1 := by
    rw [hp]; simp [be8]; omega
  have hr := h.rest
  have hs := h.st
  have hlr := h.len
  rw [hq, hu'] at hr
  rw [hq] at hs
  unfold sha
  rw [hlen, blocks, hp, blocks_app _ _ _ (by omega), ← hs, drop_app _ _ _ (by omega), ← hr, hu']
  congr 2
  have e : (tailB r u).take 56 = r.take u ++ ([128] ++ List.replicate (55 - u) 0) := by
    unfold tailB
    rw [List.append_assoc, List.take_append, List.take_of_length_le (by simp; omega)]
    congr 1
    rw [List.length_take, Nat.min_eq_left (by omega), List.take_append, List.take_of_length_le (by simp; omega), List.take_replicate]
    congr 2
    simp; omega
  rw [e, List.take_of_length_le (by simp [be8]; omega)]
  simp only [List.append_assoc]
set_option maxRecDepth 100000 in
theorem sha_long {s : St} {r m : List Nat} (h : Is s r m) (hu : 56 ≤ m.length % 64) : sha m = (comp (comp s (tailB r (m.length % 64))) (List.replicate 56 0 ++ be8 (8 * m.length))).bytes := by
  obtain ⟨q, hq⟩ : ∃ q, m.length / 64 = q := ⟨_, rfl⟩
  obtain ⟨u, hu'⟩ : ∃ u, m.length % 64 = u := ⟨_, rfl⟩
  have hl : m.length = 64 * q + u := by omega
  have hp : padded m = m ++ (([128] ++ List.replicate (63 - u) 0) ++ (List.replicate 56 0 ++ be8 (8 * m.length))) := by
    unfold padded zeros
    rw [hu', show (119 - u) % 64 = (63 - u) + 56 by omega, ← List.replicate_append_replicate]
    simp only [List.append_assoc]
  have hlen : (padded m).length / 64 = q + 1 + 1 := by
    rw [hp]; simp [be8]; omega
  have hr := h.rest
  have hs := h.st
  have hlr := h.len
  rw [hq, hu'] at hr
  rw [hq] at hs
  have hm1 : (m ++ ([128] ++ List.replicate (63 - u) 0)).length = 64 * (q + 1) := by simp; omega
  unfold sha
  rw [hlen, blocks, hp, ← List.append_assoc, blocks_app _ _ _ (by omega), drop_app _ _ _ (by omega), List.drop_eq_nil_of_le (by omega), List.nil_append, blocks, blocks_app _ _ _ (by omega), ← hs, drop_app _ _ _ (by omega), ← hr, hu']
  have e : r.take u ++ ([128] ++ List.replicate (63 - u) 0) = tailB r u := by unfold tailB; rw [List.append_assoc]
  rw [e, List.take_of_length_le (by rw [tailB_len hlr (by omega)]; omega), List.take_of_length_le (by simp [be8])]
end Hs
end
section
namespace Hs
open Go.RowKit
def St.list (s : St) : List Value := [wv s.a, wv s.b, wv s.c, wv s.d, wv s.e, wv s.f, wv s.g, wv s.h]
def svL (s : St) (r : List Nat) (n : Nat) : List Value := s.list ++ (r.map bv ++ [.int .u64 (n : Int)])
def svA (s : St) (r : List Nat) (n : Nat) : Array Value := (svL s r n).toArray
set_option maxRecDepth 100000 in
theorem svL_len (s : St) (r : List Nat) (n : Nat) (h : r.length = 64) : (svL s r n).length = 73 := by unfold svL St.list; simp; omega
set_option maxRecDepth 100000 in
theorem svA_size (s : St) (r : List Nat) (n : Nat) (h : r.length = 64) : (svA s r n).size = 73 := by unfold svA; simp [svL_len s r n h]
set_option maxRecDepth 100000 in
theorem list_len (s : St) : s.list.length = 8 := rfl
set_option maxRecDepth 100000 in
theorem svL_st (s s' : St) (r : List Nat) (n : Nat) : splice (svL s r n) 0 s'.list = svL s' r n := by
  unfold splice svL
  rw [List.take_zero, List.nil_append, list_len, Nat.zero_add, List.drop_append_of_le_length (by rw [list_len]; omega), List.drop_of_length_le (by rw [list_len]; omega), List.nil_append]
set_option maxRecDepth 100000 in
theorem svL_rest (s : St) (r x : List Nat) (n u : Nat) (h : u + x.length ≤ r.length) : splice (svL s r n) (8 + u) (x.map bv) = svL s (splice r u x) n := by
  unfold splice svL
  rw [List.take_append, list_len, List.take_of_length_le (by rw [list_len]; omega), show 8 + u - 8 = u by omega, List.take_append_of_le_length (by simp; omega), List.drop_append, list_len, List.drop_of_length_le (by rw [list_len, List.length_map]; omega), List.nil_append, List.length_map, show 8 + u + x.length - 8 = u + x.length by omega, List.drop_append_of_le_length (by simp; omega)]
  simp only [List.map_append, List.map_take, List.map_drop, List.append_assoc]
set_option maxRecDepth 100000 in
theorem svL_size (s : St) (r : List Nat) (n n' : Nat) (h : r.length = 64) : (svL s r n).set 72 (.int .u64 (n' : Int)) = svL s r n' := by
  unfold svL
  rw [List.set_append_right _ _ (by rw [list_len]; omega), List.set_append_right _ _ (by rw [list_len, List.length_map]; omega), list_len, List.length_map, h]
  rfl
set_option maxRecDepth 100000 in
theorem svL_byte (s : St) (r : List Nat) (n k x : Nat) (h : k < r.length) : (svL s r n).set (8 + k) (bv x) = svL s (r.set k x) n := by
  unfold svL
  rw [List.set_append_right _ _ (by rw [list_len]; omega), list_len, show 8 + k - 8 = k by omega, List.set_append_left _ _ (by simp; omega), List.map_set]
set_option maxRecDepth 100000 in
theorem svA_st_at (s : St) (r : List Nat) (n j : Nat) (v : Value) (h : s.list[j]? = some v) : (svA s r n)[j]? = some v := by
  unfold svA svL
  have hj : j < s.list.length := by
    rcases Nat.lt_or_ge j s.list.length with hj | hj
    · exact hj
    · rw [List.getElem?_eq_none hj] at h; cases h
  rw [List.getElem?_toArray, List.getElem?_append_left hj]
  exact h
set_option maxRecDepth 100000 in
theorem svA_at (s : St) (r : List Nat) (n k : Nat) (h : k < r.length) : (svA s r n)[8 + k]? = some (bv (r.getD k 0)) := by
  unfold svA svL
  rw [List.getElem?_toArray, List.getElem?_append_right (by rw [list_len]; omega), list_len, show 8 + k - 8 = k by omega, List.getElem?_append_left (by simp; omega), List.getElem?_map, List.getElem?_eq_getElem h, List.getD_eq_getElem?_getD, List.getElem?_eq_getElem h]
  rfl
set_option maxRecDepth 100000 in
theorem svA_n (s : St) (r : List Nat) (n : Nat) (h : r.length = 64) : (svA s r n)[72]? = some (.int .u64 (n : Int)) := by
  unfold svA svL
  rw [List.getElem?_toArray, List.getElem?_append_right (by rw [list_len]; omega), list_len, List.getElem?_append_right (by simp; omega), List.length_map, h]
  rfl
set_option maxRecDepth 100000 in
theorem svL_one (s : St) (r : List Nat) (n : Nat) : ∀ v ∈ svL s r n, v.oneCell' = true := by
  intro v hv
  unfold svL St.list at hv
  simp only [List.mem_append, List.mem_map, List.mem_cons, List.not_mem_nil, or_false] at hv
  rcases hv with (h | h | h | h | h | h | h | h) | (⟨x, _, h⟩ | h) <;> subst h <;> rfl
set_option maxRecDepth 100000 in
theorem svA_one (s : St) (r : List Nat) (n : Nat) : (svA s r n).all (·.oneCell') = true := by
  unfold svA
  exact all_oneCell_toArray (svL_one s r n)
section
variable {P : Program} {ops : Array Oper} {rest : List Oper} {op : Oper} {a : Act} {w : World} {Q : Exit → Act → World → Prop}
set_option maxRecDepth 100000 in
theorem wpList_load_bytes (hgd : op.guard = none) (ty : TypeId) (x : Operand) (ho : op.op = .load ty x)
    (g o : Nat) (hx : a.eval x = .pointer (some ⟨g, o, none⟩)) (l : List Nat) (n : Nat) (e : TypeId) (hg : ∀ k, k < l.length → w.cell? ⟨g, o + k, none⟩ = some (bv (l.getD k 0)))
    (hu : P.underlying ty = some (.array n e)) (hi : (P.info? ty).map (·.size) = some l.length)
    (h : wpList P ops Q rest (a.put op.dst (.agg (bvs l))) w) : wpList P ops Q (op :: rest) a w :=
  wpList_load_mid hgd ty x ho g o hx (l.map bv) (.array n e) (fun j v hv => by
    rw [List.getElem?_map] at hv
    by_cases hj : j < l.length
    · rw [hg j hj, ← hv, List.getElem?_eq_getElem hj, List.getD_eq_getElem?_getD, List.getElem?_eq_getElem hj]; rfl
    · rw [List.getElem?_eq_none (by omega)] at hv; cases hv) hu rfl (by rw [List.length_map]; exact hi) h
set_option maxRecDepth 100000 in
theorem wpList_load_rest (hgd : op.guard = none) (ty : TypeId) (x : Operand) (ho : op.op = .load ty x)
    (g : Nat) (hx : a.eval x = .pointer (some ⟨g, 8, none⟩)) (t : TypeId) (s : St) (r : List Nat) (m n : Nat) (e : TypeId) (hg : Blk w g t (svA s r m))
    (hu : P.underlying ty = some (.array n e)) (hi : (P.info? ty).map (·.size) = some r.length)
    (h : wpList P ops Q rest (a.put op.dst (.agg (bvs r))) w) : wpList P ops Q (op :: rest) a w :=
  wpList_load_bytes hgd ty x ho g 8 hx r n e (fun k hk => (hg.cell (8 + k)).trans (svA_at s r m k hk)) hu hi h
set_option maxRecDepth 100000 in
theorem wpList_load_st (hgd : op.guard = none) (ty : TypeId) (x : Operand) (ho : op.op = .load ty x)
    (g : Nat) (hx : a.eval x = .pointer (some ⟨g, 0, none⟩)) (t : TypeId) (s : St) (r : List Nat) (m n : Nat) (e : TypeId) (hg : Blk w g t (svA s r m))
    (hu : P.underlying ty = some (.array n e)) (hi : (P.info? ty).map (·.size) = some 8)
    (h : wpList P ops Q rest (a.put op.dst (.agg s.arr)) w) : wpList P ops Q (op :: rest) a w :=
  wpList_load_mid hgd ty x ho g 0 hx s.list (.array n e) (fun j v hv => by rw [Nat.zero_add]; exact (hg.cell j).trans (svA_st_at s r m j v hv)) hu rfl hi h
set_option maxRecDepth 100000 in
theorem wpList_load_all (hgd : op.guard = none) (ty : TypeId) (x : Operand) (ho : op.op = .load ty x)
    (g : Nat) (hx : a.eval x = .pointer (some ⟨g, 0, none⟩)) (t : TypeId) (cs : Array Value) (fs : Array Field) (hg : Blk w g t cs)
    (hu : P.underlying ty = some (.struct fs)) (hi : (P.info? ty).map (·.size) = some cs.size)
    (h : wpList P ops Q rest (a.put op.dst (.agg cs)) w) : wpList P ops Q (op :: rest) a w :=
  wpList_load_row hgd ty x ho g hx t cs (0, 0) (.struct fs) hg hu rfl hi h
set_option maxRecDepth 100000 in
theorem run_storeVar_mid_row (w : World) (g o : Nat) (t ty : TypeId) (cur : List Value) (cells : Array Value) (hg : Blk w g t cur.toArray) (hi : (P.info? ty).map (·.size) = some cells.size)
    (hf : o + cells.size ≤ cur.length) (h1 : cells.all (·.oneCell') = true) :
    (storeVar ty ⟨g, o, none⟩ (.agg cells)).run P w = .ok () (w.setRow g (splice cur o cells.toList).toArray) := by
  have := run_storeCells_at (P := P) g o t cells.toList 0 cur.toArray w hg (by simpa using hf) (fun v hv => (Array.all_eq_true_iff_forall_mem.1 h1) v (by simpa using hv))
  cases hq : P.info? ty with
  | none => simp [hq] at hi
  | some i =>
    have hs : cells.size = i.size := by simp [hq] at hi; omega
    simp only [Nat.add_zero, List.append_assoc] at this
    simp [storeVar, sizeOf, typeInfo, hq, Value.cells, hs, this, splice]
set_option maxRecDepth 100000 in
theorem wpList_store_mid_blk (hgd : op.guard = none) (ty : TypeId) (x y : Operand) (ho : op.op = .store ty x y)
    (g o : Nat) (t : TypeId) (cur : List Value) (cells : Array Value) (hx : a.eval x = .pointer (some ⟨g, o, none⟩)) (hy : a.eval y = .agg cells)
    (hg : Blk w g t cur.toArray) (hi : (P.info? ty).map (·.size) = some cells.size) (hf : o + cells.size ≤ cur.length) (h1 : cells.all (·.oneCell') = true)
    (hd : op.dst = none) (h : wpList P ops Q rest a (w.setRow g (splice cur o cells.toList).toArray)) : wpList P ops Q (op :: rest) a w := by
  refine wpList_plain hgd fun K hK => ?_
  unfold Oper.wp execOp
  simp only [ho, hx, hy, Instr.storeAt, Instr.sureAddr, Sem.run_bind, Sem.run_pure, Result.andThen_ok, run_storeVar_mid_row w g o t ty cur cells hg hi hf h1]
  have e : a.put op.dst undef = a := by rw [hd]; rfl
  have := hK _ _ h
  rw [← e] at this
  exact this
set_option maxRecDepth 100000 in
theorem arr_one (s : St) : s.arr.all (·.oneCell') = true := by simp [St.arr, Value.oneCell']
set_option maxRecDepth 100000 in
theorem wpList_store_st (hgd : op.guard = none) (ty : TypeId) (x y : Operand) (ho : op.op = .store ty x y)
    (g : Nat) (t : TypeId) (s s' : St) (r : List Nat) (n : Nat) (hx : a.eval x = .pointer (some ⟨g, 0, none⟩)) (hy : a.eval y = .agg s'.arr)
    (hg : Blk w g t (svA s r n)) (hr : r.length = 64) (hi : (P.info? ty).map (·.size) = some 8)
    (hd : op.dst = none) (h : wpList P ops Q rest a (w.setRow g (svA s' r n))) : wpList P ops Q (op :: rest) a w :=
  wpList_store_mid_blk hgd ty x y ho g 0 t (svL s r n) s'.arr hx hy hg hi (by rw [svL_len s r n hr]; show 0 + 8 ≤ 73; omega) (arr_one s') hd (by
    have e : s'.arr.toList = s'.list := rfl
    rw [e, svL_st]; exact h)
set_option maxRecDepth 100000 in
theorem wpList_store_rest (hgd : op.guard = none) (ty : TypeId) (x y : Operand) (ho : op.op = .store ty x y)
    (g : Nat) (t : TypeId) (s : St) (r r' : List Nat) (n : Nat) (hx : a.eval x = .pointer (some ⟨g, 8, none⟩)) (hy : a.eval y = .agg (bvs r'))
    (hg : Blk w g t (svA s r n)) (hr : r.length = 64) (hr' : r'.length = 64) (hi : (P.info? ty).map (·.size) = some r'.length)
    (hd : op.dst = none) (h : wpList P ops Q rest a (w.setRow g (svA s r' n))) : wpList P ops Q (op :: rest) a w :=
  wpList_store_mid_blk hgd ty x y ho g 8 t (svL s r n) (bvs r') hx hy hg (by rw [bvs_size]; exact hi) (by rw [svL_len s r n hr, bvs_size]; omega) (bvs_one r') hd (by
    have e : (bvs r').toList = r'.map bv := rfl
    have k := svL_rest s r r' n 0 (by omega)
    have k2 : splice r 0 r' = r' := by rw [splice_whole (by omega), List.take_zero, List.nil_append]
    rw [Nat.add_zero, k2] at k
    rw [e, k]; exact h)
set_option maxRecDepth 100000 in
theorem wpList_copy_rest (hgd : op.guard = none) (d sx : Operand) (dT sT : TypeId)
    (ho : op.op = .call { callee := .builtin .copy, args := #[d, sx], argTypes := #[dT, sT] }) (elem : TypeId) (hu : P.underlying dT = some (.slice elem)) (hsz : (P.info? elem).map (·.size) = some 1)
    (g u dLen dCap : Nat) (ad : Option Addr) (sLen sCap : Nat) (t : TypeId) (s : St) (r l x : List Nat) (n : Nat) (hd : a.eval d = .slice (some ⟨g, 8 + u, none⟩) dLen dCap) (hs : a.eval sx = .slice ad sLen sCap)
    (hg : Blk w g t (svA s r n)) (hr : r.length = 64) (hb : BytesA w ad l) (hx : x = l.take (Nat.min sLen dLen)) (hl : sLen = l.length) (hpos : 0 < x.length) (hfit : u + x.length ≤ 64) (nx : Nat) (hnx : x.length = nx) (r2 : List Nat) (hr2 : splice r u x = r2)
    (h : wpList P ops Q rest (a.put op.dst (.int .i64 (nx : Int))) (w.setRow g (svA s r2 n))) : wpList P ops Q (op :: rest) a w := by
  subst hnx; subst hr2
  obtain ⟨b, off, rfl, -, -⟩ := hb 0 (by rw [hx, List.length_take] at hpos; omega)
  have hxl : x.length = Nat.min sLen dLen := by
    rw [hx, List.length_take, Nat.min_eq_left]
    rw [← hl]; exact Nat.min_le_left _ _
  refine wpList_copy_own hgd d sx dT sT ho elem hu hsz g (8 + u) dLen dCap ⟨b, off, none⟩ sLen sCap hd hs (svA s r n) t hg (x.map bv) (by rw [List.length_map]; exact hxl) (fun j v hv => ?_) (by rw [svA_size s r n hr, List.length_map]; omega) (fun v hv => ?_) ?_
  · rw [List.getElem?_map] at hv
    by_cases hj : j < x.length
    · obtain ⟨b', off', e, h1, h2⟩ := hb j (by rw [hx, List.length_take] at hj; omega)
      injection e with e
      injection e with e1 e2
      subst e1; subst e2
      rw [List.getElem?_eq_getElem hj] at hv
      have e3 : x[j] = l.getD j 0 := by
        subst hx
        rw [List.getElem_take, List.getD_eq_getElem?_getD, List.getElem?_eq_getElem (by rw [List.length_take] at hj; omega)]
        rfl
      rw [← hv, e3]
      have : (⟨b, off, none⟩ : Addr).add j = ⟨b, off + j, none⟩ := Addr.add_mid b off j
      rw [this]
      exact h1
    · rw [List.getElem?_eq_none (by omega)] at hv; cases hv
  · rw [List.mem_map] at hv
    obtain ⟨y, _, rfl⟩ := hv
    rfl
  · have k := svL_rest s r x n u (by omega)
    unfold splice at k
    have e : (svA s r n).toList = svL s r n := rfl
    rw [e, k, List.length_map]
    exact h
end
set_option maxRecDepth 100000 in
theorem compress_arr (s : St) (b : List Nat) (w : World) (hs : s.Ok) (hb : b.length = 64) (hlt : ∀ x ∈ b, x < 256) (hla : LaidC w) :
    Calls Tryd.prog 90 #[.agg s.arr, .agg (bvs b)] w fun e w' => e = .returned (.agg (comp s b).arr) ∧ Below w.heap.size w w' :=
  compress_any s b w hs hb (getD_lt (by decide) hlt) hla
end Hs
end
section
namespace Hs
open Go.RowKit
def cutA (a : Option Addr) (cap u : Nat) : Option Addr := if cap = u then a else a.map (·.add (u * 1))
set_option maxRecDepth 100000 in
theorem cutA_bytes {W : World} {a : Option Addr} {l : List Nat} {cap u : Nat} (h : BytesA W a l) (hc : l.length ≤ cap) (n : Nat) (hn : u + n ≤ l.length) : BytesA W (cutA a cap u) ((l.drop u).take n) := by
  intro k hk
  rw [List.length_take, List.length_drop] at hk
  obtain ⟨b, off, rfl, h1, h2⟩ := h (u + k) (by omega)
  have e : ((l.drop u).take n).getD k 0 = l.getD (u + k) 0 := by
    simp [List.getD_eq_getElem?_getD, List.getElem?_take, show k < n by omega, List.getElem?_drop]
  rw [e]
  refine ⟨b, off + u, ?_, by rw [Nat.add_assoc]; exact h1, h2⟩
  unfold cutA
  rw [if_neg (by omega)]
  simp [Addr.add]
set_option maxRecDepth 100000 in
theorem cutA_tail {W : World} {a : Option Addr} {l : List Nat} {cap u : Nat} (h : BytesA W a l) (hc : l.length ≤ cap) (hu : u ≤ l.length) : BytesA W (cutA a cap u) (l.drop u) := by
  have := cutA_bytes (u := u) h hc (l.length - u) (by omega)
  rwa [List.take_of_length_le (by simp)] at this
set_option maxRecDepth 100000 in
theorem sizeOf5 (W : World) : (sizeOf 5).run Tryd.prog W = .ok 1 W := by kernel_rfl
set_option maxRecDepth 100000 in
theorem slice_l (a : Option Addr) (n cap u : Nat) (h1 : u ≤ n) (W : World) : (Instr.slice 138 (.slice a n cap) (some (.int .i64 (u : Int))) none none).run Tryd.prog W = .ok (.slice (cutA a cap u) (n - u) (cap - u)) W := by
  have ht' : Tryd.prog.underlying 138 = some (.slice (Tryd.prog.elem 138)) := by kernel_rfl
  have he : Tryd.prog.elem 138 = 5 := by kernel_rfl
  rw [run_slice_l W 138 _ _ _ ht' .i64 _ (by omega) (by omega), he, sizeOf5]
  rfl
def slen : Value → Nat
  | .slice _ n _ => n
  | .string s => s.size
  | _ => 0
def st00 : St := ⟨0, 0, 0, 0, 0, 0, 0, 0⟩
set_option maxRecDepth 100000 in
theorem zeroSt (w : World) : (zeroValue 136).run Tryd.prog w = .ok (.agg (svA st00 (List.replicate 64 0) 0)) w := by kernel_rfl
set_option maxRecDepth 100000 in
theorem zeroSt_ne : svA st00 (List.replicate 64 0) 0 ≠ #[] := by decide +kernel
attribute [local go_sem] zeroSt
attribute [local simp] zeroSt_ne
def Fed (w : World) (m l : List Nat) (e : Ending) (w' : World) : Prop := ∃ s r, Is s r (m ++ l) ∧ e = .returned (.agg (svA s r (m.length + l.length))) ∧ Below w.heap.size w w'
set_option maxRecDepth 100000 in
set_option maxHeartbeats 2000000 in
theorem feed_bytes (s : St) (r m l : List Nat) (a : Option Addr) (cap : Nat) (w : World) (h : Is s r m) (hN : m.length + l.length < 1152921504606846976) (hb : BytesA w a l) (hll : ∀ x ∈ l, x < 256) (hc : l.length ≤ cap) (hla : LaidC w) :
    Calls Tryd.prog 77 #[.agg (svA s r m.length), .slice a l.length cap] w (Fed w m l) := by
  have HI := Lib.hid h; have HBy := Lib.hid hb; have HLL := Lib.hid hll; have HLA := Lib.hid hla
  have n72 := svA_n s r m.length h.len
  have R64 := h.len
  obtain ⟨u0, hu0⟩ : ∃ u, m.length % 64 = u := ⟨_, rfl⟩
  have e1 : ((m.length : Nat) : Int) % 64 = (u0 : Int) := by omega
  have hu64 : u0 < 64 := by omega
  obtain ⟨T, hT⟩ : ∃ T, m.length + l.length = T := ⟨_, rfl⟩
  have e2 : ((m.length : Nat) : Int) + ((l.length : Nat) : Int) = (T : Int) := by omega
  have e3 : IntKind.u64.wrap (((m.length : Nat) : Int) + ((l.length : Nat) : Int)) = (T : Int) := by rw [e2, show IntKind.u64.wrap (T : Int) = (T : Int) % 18446744073709551616 from by simp [IntKind.wrap, IntKind.bits, IntKind.signed]]; omega
  have hTb : T < 1152921504606846976 := by omega
  obtain ⟨N, hN'⟩ : ∃ N, m.length = N := ⟨_, rfl⟩
  obtain ⟨L, hL⟩ : ∃ L, l.length = L := ⟨_, rfl⟩
  rw [hN'] at n72 e1 e2 e3 hu0 hN hT
  rw [hL] at e2 e3 hN hT hc
  have NB : N < 1152921504606846976 := by omega
  have LB : L < 1152921504606846976 := by omega
  have HU0 := Lib.hid hu0; have HT := Lib.hid hT; have HN := Lib.hid hN'; have HLe := Lib.hid hL; have HR := Lib.hid R64
  have HCap := Lib.hid hc
  rw [hN', hL]
  clear h hb hll hla hu0 hT hN' hL R64 hN hc
  go_enter Tryd.func77, Tryd.ntmps77
  go_wp2
  clear e1 e2 e3 n72
  go_loopw [1, 5] (fun ut uu wr => ∃ (k M : Nat) (s1 : St) (r1 : List Nat) (a1 : Option Addr) (c1 u : Nat), k + M = L ∧ ut = .slice a1 M c1 ∧ uu = .int .i64 u ∧ u < 64 ∧ w.heap.size + 2 ≤ wr.heap.size ∧ Below w.heap.size w wr ∧ M ≤ c1 ∧ Hid ((N + k) % 64 = u) ∧ Hid (Is s1 r1 (m ++ l.take k)) ∧ Hid (BytesA w a1 (l.drop k)) ∧ Hid (Blk wr w.heap.size 136 (svA s1 r1 T)) ∧ Hid (Blk wr (w.heap.size + 1) 136 (svA st00 (List.replicate 64 0) 0))) (fun ut _ _ => slen ut)
  case atStart =>
    refine ⟨0, L, s, r, a, cap, u0, by omega, rfl, rfl, hu64, by simp, by (repeat' (first | (with_reducible exact Below.refl _ _) | (with_reducible assumption) | (with_reducible refine Below.alloc ?_ ?_ _) | (with_reducible refine Below.drew ?_) | (with_reducible refine below_dn ?_) | (with_reducible refine Below.setCell ?_ ?_ _) | (with_reducible exact Nat.le_refl _) | omega | (simp only [World.size_alloc, World.size_setCell, World.size_drew]; omega) | (simp; omega) | (simp; done))), HCap.out, HU0, Lib.hid ?_, Lib.hid ?_, Lib.hid ?_, Lib.hid ?_⟩
    · rw [List.take_zero, List.append_nil]; exact HI.out
    · rw [List.drop_zero]; exact HBy.out
    · have e := svL_size s r N T HR.out
      refine (Blk.new' _ _ _ _ rfl ?_).alloc _
      unfold svA
      rw [List.setIfInBounds_toArray, e]
    · exact Blk.new' _ _ _ _ (by simp) rfl
  case round =>
    obtain ⟨k, M, s1, r1, a1, c1, u, hkM, rfl, rfl, hu, hsz, B, hc1, hku, hI, hBy, h0, h4⟩ := hrel
    have hr1 := hI.out.len
    by_cases hlt : 0 < M
    · obtain ⟨n, hn⟩ : ∃ n, min M (64 - u) = n := ⟨_, rfl⟩
      have n1 : 1 ≤ n := by omega
      have n2 : n ≤ M := by omega
      have n3 : u + n ≤ 64 := by omega
      obtain ⟨x, hx⟩ : ∃ x, (l.drop k).take n = x := ⟨_, rfl⟩
      have hxl : x.length = n := by rw [← hx, List.length_take, List.length_drop, HLe.out]; omega
      have i1 : (u : Int) ≤ 64 := by omega
      have p1 : (0 : Int) ≤ (u : Int) := by omega
      have xlt : ∀ y ∈ x, y < 256 := by rw [← hx]; exact fun y hy => HLL.out y (List.mem_of_mem_drop (List.mem_of_mem_take hy))
      have HX := Lib.hid (show x = (l.drop k).take (Nat.min M (64 - u)) by rw [← hx]; congr 1; exact hn.symm)
      have HLM := Lib.hid (show M = (l.drop k).length by rw [List.length_drop, HLe.out]; omega)
      have HPOS := Lib.hid (show 0 < x.length by omega)
      have HFIT := Lib.hid (show u + x.length ≤ 64 by omega)
      have HXL := Lib.hid hxl; have HR1 := Lib.hid hr1; have XLT := Lib.hid xlt
      have hml : (m ++ l.take k).length = N + k := by rw [List.length_append, List.length_take, HN.out, HLe.out]; omega
      have hnew : (m ++ l.take k) ++ x = m ++ l.take (k + n) := by rw [List.append_assoc, ← hx, List.take_add]
      have hum : (m ++ l.take k).length % 64 = u := by rw [hml]; exact hku.out
      have HNEW := Lib.hid hnew; have HUM := Lib.hid hum
      obtain ⟨r2, hr2⟩ : ∃ r2, splice r1 u x = r2 := ⟨_, rfl⟩
      have HR2 := Lib.hid hr2
      have sl := fun W : World => slice_l a1 M c1 n n2 W
      have by2 := Lib.hid (cutA_tail (u := n) hBy.out (by rw [← HLM.out]; exact hc1) (by rw [← HLM.out]; exact n2))
      obtain ⟨a2, ha2⟩ : ∃ a2, cutA a1 c1 n = a2 := ⟨_, rfl⟩
      obtain ⟨M2, hM2⟩ : ∃ M2, M - n = M2 := ⟨_, rfl⟩
      obtain ⟨c2, hc2⟩ : ∃ c2, c1 - n = c2 := ⟨_, rfl⟩
      have k2 : (k + n) + M2 = L := by omega
      have c21 : M2 ≤ c2 := by omega
      have mless : M2 < M := by omega
      rw [ha2, hM2, hc2] at sl
      rw [ha2] at by2
      rw [List.drop_drop] at by2
      obtain ⟨v, hv⟩ : ∃ v, u + n = v := ⟨_, rfl⟩
      have hv64 : v ≤ 64 := by omega
      have e5 : (u : Int) + (n : Int) = (v : Int) := by omega
      have e6 : IntKind.i64.wrap ((u : Int) + (n : Int)) = (v : Int) := by rw [IntKind.wrap_i64]; omega
      have HV := Lib.hid (show u + x.length = v by omega)
      have HKU := Lib.hid (show v < 64 → (N + (k + n)) % 64 = v from fun _ => by have := hku.out; omega)
      have HKZ := Lib.hid (show v = 64 → (N + (k + n)) % 64 = 0 from fun _ => by have := hku.out; omega)
      clear hx hxl hr1 hn xlt hml hnew hum hr2 ha2 hM2 hc2 hv hku
      by_cases hfull : v = 64
      · have t1 : ((v : Int) == 64) = true := beq_iff_eq.2 (by omega)
        have hI2 := Lib.hid (hI.out.full x XLT.out (by rw [HUM.out, HV.out]; exact hfull))
        rw [HUM.out, HR2.out, HNEW.out] at hI2
        have HF := Lib.hid hfull
        clear hfull
        go_wp2_with (first | (with_reducible refine wpList_copy_rest rfl _ _ 138 138 rfl 5 Tryd.underlying138 (by kernel_rfl) w.heap.size u _ _ a1 _ _ 136 s1 r1 (l.drop k) x T rfl rfl h0.out HR1.out (hBy.out.mono B) HX.out HLM.out HPOS.out HFIT.out n HXL.out r2 HR2.out ?_) | (with_reducible refine wpList_load_st rfl _ _ rfl w.heap.size rfl 136 s1 r2 T _ _ (h0.out.row_ _) Tryd.underlying132 (by kernel_rfl) ?_) | (with_reducible refine wpList_load_rest rfl _ _ rfl w.heap.size rfl 136 s1 r2 T _ _ (h0.out.row_ _) Tryd.underlying133 (by rw [hI2.out.len]; kernel_rfl) ?_))
        refine (compress_arr s1 r2 _ hI.out.ok hI2.out.len hI2.out.lt (HLA.out.mono (below_setRow B (by omega) _))).mono ?_
        rintro e w3 ⟨rfl, hb3⟩
        have hz3 := hb3.size
        rw [setRow_size] at hz3
        have g0 : Blk w3 w.heap.size 136 (svA s1 r2 T) := (h0.out.row_ _).below hb3 (by rw [setRow_size]; omega)
        have g4 : Blk w3 (w.heap.size + 1) 136 (svA st00 (List.replicate 64 0) 0) := (h4.out.rowfar (by omega) _).below hb3 (by rw [setRow_size]; omega)
        have B3 : Below w.heap.size w w3 := bt (below_setRow B (by omega) _) hb3
        have G0 := Lib.hid g0; have G4 := Lib.hid g4
        clear hb3 g0 g4 h0 h4 B hBy
        go_wp2_with (first | (with_reducible refine wpList_store_st rfl _ _ _ rfl w.heap.size 136 s1 (comp s1 r2) r2 T rfl rfl G0.out hI2.out.len (by kernel_rfl) rfl ?_))
        go_roundw
        case rel =>
          refine ⟨k + n, M2, comp s1 r2, r2, a2, c2, 0, k2, rfl, rfl, by omega, by rw [setRow_size]; omega, below_setRow B3 (by omega) _, c21, Lib.hid (HKZ.out HF.out), hI2, by2, Lib.hid (G0.out.row_ _), Lib.hid (G4.out.rowfar (by omega) _)⟩
        case measure => simp [slen]; omega
      · have t1 : ((v : Int) == 64) = false := beq_eq_false_iff_ne.2 (by omega)
        have hv64' : v < 64 := by omega
        have hI2 := Lib.hid (hI.out.some x XLT.out (by rw [HUM.out, HV.out]; exact hv64'))
        rw [HUM.out, HR2.out, HNEW.out] at hI2
        go_wp2_with (first | (with_reducible refine wpList_copy_rest rfl _ _ 138 138 rfl 5 Tryd.underlying138 (by kernel_rfl) w.heap.size u _ _ a1 _ _ 136 s1 r1 (l.drop k) x T rfl rfl h0.out HR1.out (hBy.out.mono B) HX.out HLM.out HPOS.out HFIT.out n HXL.out r2 HR2.out ?_))
        go_roundw
        case rel =>
          refine ⟨k + n, M2, s1, r2, a2, c2, v, k2, rfl, rfl, hv64', by rw [setRow_size]; omega, below_setRow B (by omega) _, c21, Lib.hid (HKU.out hv64'), hI2, by2, Lib.hid (h0.out.row_ _), Lib.hid (h4.out.rowfar (by omega) _)⟩
        case measure => simp [slen]; omega
    · have hk : k = L := by omega
      have M0 : M = 0 := by omega
      have hI' := hI.out
      rw [hk, ← HLe.out, List.take_length] at hI'
      have HI' := Lib.hid hI'
      have ia : (Tryd.prog.info? 136).map (·.size) = some (svA s1 r1 T).size := by rw [svA_size _ _ _ hr1]; kernel_rfl
      have sz : (svA st00 (List.replicate 64 0) 0).size = (svA s1 r1 T).size := by rw [svA_size _ _ _ hr1]; rfl
      have IA := Lib.hid ia; have SZ := Lib.hid sz
      clear hk hI hI' hr1 ia sz
      subst M0
      go_wp2_with (first | (with_reducible refine wpList_load_all rfl _ _ rfl w.heap.size rfl 136 _ _ h0.out Tryd.underlying136 IA.out ?_) | (with_reducible refine wpList_store_blk rfl _ _ _ rfl (w.heap.size + 1) 136 _ _ rfl rfl h4.out IA.out SZ.out (svA_one _ _ _) rfl ?_))
      refine bodyPost_ret (v := .agg (svA s1 r1 T)) (results_cell_row rfl _ _ _ 136 _ (0, 0) _ rfl (h4.out.row_ _) Tryd.underlying136 rfl IA.out) rfl ⟨s1, r1, HI'.out, ?_, below_setRow B (by omega) _⟩
      rw [HN.out, HLe.out, HT.out]
end Hs
end
section
namespace Hs
open Go.RowKit
attribute [local go_sem] zeroSt
attribute [local simp] zeroSt_ne
def sb (s : ByteArray) : List Nat := s.data.toList.map UInt8.toNat
set_option maxRecDepth 100000 in
theorem sb_len (s : ByteArray) : (sb s).length = s.size := by unfold sb; simp
set_option maxRecDepth 100000 in
theorem sb_lt (s : ByteArray) : ∀ x ∈ sb s, x < 256 := by
  intro x hx
  unfold sb at hx
  obtain ⟨y, -, rfl⟩ := List.mem_map.1 hx
  exact y.toNat_lt
set_option maxRecDepth 100000 in
theorem sb_extract (s : ByteArray) (n : Nat) : sb (s.extract n s.size) = (sb s).drop n := by
  unfold sb
  rw [ByteArray.data_extract, Array.toList_extract, List.extract_eq_take_drop, List.map_take, List.map_drop]
  rw [List.take_of_length_le]
  simp
set_option maxRecDepth 100000 in
theorem slice_s (s : ByteArray) (n : Nat) (h1 : n ≤ s.size) (W : World) : (Instr.slice 9 (.string s) (some (.int .i64 (n : Int))) none none).run Tryd.prog W = .ok (.string (s.extract n s.size)) W := by
  have ht : Tryd.prog.underlying 9 = some .string := Tryd.underlying9
  rw [run_slice_string_l]
  all_goals first | rfl | exact ht | omega | skip
section
variable {P : Program} {ops : Array Oper} {rest : List Oper} {op : Oper} {a : Act} {w : World} {Q : Exit → Act → World → Prop}
set_option maxRecDepth 100000 in
theorem run_copy_str (w : World) (dT sT ty elem : TypeId) (g o dLen dCap : Nat) (t0 : ByteArray) (cur : List Value) (t : TypeId) (x : List Nat)
    (hu : P.underlying dT = some (.slice elem)) (hs : (P.info? elem).map (·.size) = some 1) (hg : Blk w g t cur.toArray) (hx : x = (sb t0).take (Nat.min t0.size dLen)) (hfit : o + x.length ≤ cur.length) :
    (Builtin.copy_ #[dT, sT] ty #[.slice (some ⟨g, o, none⟩) dLen dCap, .string t0]).run P w = .ok (.int .i64 (x.length : Int)) (w.setRow g (splice cur o (x.map bv)).toArray) := by
  have hst := run_storeCells_at P g o t (x.map bv) 0 cur.toArray w hg (by simpa using hfit) (fun v hv => by
    obtain ⟨y, _, rfl⟩ := List.mem_map.1 hv
    rfl)
  have hxl : x.length = Nat.min t0.size dLen := by
    rw [hx, List.length_take, sb_len, Nat.min_eq_left]
    exact Nat.min_le_left _ _
  have htk : List.take (Nat.min t0.size dLen) (List.map (fun b : UInt8 => Value.int IntKind.u8 (b.toNat : Int)) t0.data.toList) = x.map bv := by
    rw [hx]
    unfold sb
    rw [List.map_take, List.map_map]
    rfl
  simp only [Nat.add_zero, List.append_assoc] at hst
  cases hq : P.info? elem with
  | none => simp [hq] at hs
  | some i =>
    simp [Builtin.copy_, run_underlying hu, Builtin.lenOf, Builtin.firstCells, sizeOf, typeInfo, hq]
    rw [htk, hst, hxl]
    simp [Result.andThen, goInt, splice, hxl]
set_option maxRecDepth 100000 in
theorem wpList_copy_srest (hgd : op.guard = none) (d sx : Operand) (dT sT : TypeId)
    (ho : op.op = .call { callee := .builtin .copy, args := #[d, sx], argTypes := #[dT, sT] }) (elem : TypeId) (hu : P.underlying dT = some (.slice elem)) (hsz : (P.info? elem).map (·.size) = some 1)
    (g u dLen dCap : Nat) (t0 : ByteArray) (t : TypeId) (s : St) (r l x : List Nat) (n : Nat) (hd : a.eval d = .slice (some ⟨g, 8 + u, none⟩) dLen dCap) (hs : a.eval sx = .string t0)
    (hg : Blk w g t (svA s r n)) (hr : r.length = 64) (hb : sb t0 = l) (M : Nat) (hM : t0.size = M) (hx : x = l.take (Nat.min M dLen)) (hfit : u + x.length ≤ 64) (nx : Nat) (hnx : x.length = nx) (r2 : List Nat) (hr2 : splice r u x = r2)
    (h : wpList P ops Q rest (a.put op.dst (.int .i64 (nx : Int))) (w.setRow g (svA s r2 n))) : wpList P ops Q (op :: rest) a w := by
  subst hnx; subst hr2; subst hb; subst hM
  have hrun := run_copy_str (P := P) w dT sT op.type elem g (8 + u) dLen dCap t0 (svL s r n) t x hu hsz hg hx (by rw [svL_len s r n hr]; omega)
  rw [svL_rest s r x n u (by omega)] at hrun
  refine wpList_plain hgd fun K hK => ?_
  unfold Oper.wp execOp
  simp only [ho, resolve, invoke, builtin, Sem.run_bind, Sem.run_pure, Result.andThen_ok, List.map_toArray, List.map_cons, List.map_nil, hd, hs, hrun]
  exact hK _ _ h
end
set_option maxRecDepth 100000 in
set_option maxHeartbeats 2000000 in
theorem feed_string (s : St) (r m l : List Nat) (t0 : ByteArray) (w : World) (h : Is s r m) (hN : m.length + l.length < 1152921504606846976) (hb : sb t0 = l) (hla : LaidC w) :
    Calls Tryd.prog 79 #[.agg (svA s r m.length), .string t0] w (Fed w m l) := by
  have hll : ∀ x ∈ l, x < 256 := by rw [← hb]; exact sb_lt t0
  have hc : t0.size = l.length := by rw [← hb, sb_len]
  have HI := Lib.hid h; have HBy := Lib.hid hb; have HLL := Lib.hid hll; have HLA := Lib.hid hla
  have n72 := svA_n s r m.length h.len
  have R64 := h.len
  obtain ⟨u0, hu0⟩ : ∃ u, m.length % 64 = u := ⟨_, rfl⟩
  have e1 : ((m.length : Nat) : Int) % 64 = (u0 : Int) := by omega
  have hu64 : u0 < 64 := by omega
  obtain ⟨T, hT⟩ : ∃ T, m.length + l.length = T := ⟨_, rfl⟩
  have e2 : ((m.length : Nat) : Int) + ((l.length : Nat) : Int) = (T : Int) := by omega
  have e3 : IntKind.u64.wrap (((m.length : Nat) : Int) + ((l.length : Nat) : Int)) = (T : Int) := by rw [e2, show IntKind.u64.wrap (T : Int) = (T : Int) % 18446744073709551616 from by simp [IntKind.wrap, IntKind.bits, IntKind.signed]]; omega
  have hTb : T < 1152921504606846976 := by omega
  obtain ⟨N, hN'⟩ : ∃ N, m.length = N := ⟨_, rfl⟩
  obtain ⟨L, hL⟩ : ∃ L, l.length = L := ⟨_, rfl⟩
  rw [hN'] at n72 e1 e2 e3 hu0 hN hT
  rw [hL] at e2 e3 hN hT hc
  have NB : N < 1152921504606846976 := by omega
  have LB : L < 1152921504606846976 := by omega
  have HU0 := Lib.hid hu0; have HT := Lib.hid hT; have HN := Lib.hid hN'; have HLe := Lib.hid hL; have HR := Lib.hid R64
  have HCap := Lib.hid hc
  rw [hN']
  clear h hb hll hla hu0 hT hN' hL R64 hN hc
  have tz : t0.size = L := HCap.out
  go_enter Tryd.func79, Tryd.ntmps79
  go_wp2
  clear e1 e2 e3 n72 tz
  go_loopw [1, 5] (fun ut uu wr => ∃ (k M : Nat) (s1 : St) (r1 : List Nat) (t1 : ByteArray) (u : Nat), k + M = L ∧ ut = .string t1 ∧ uu = .int .i64 u ∧ u < 64 ∧ w.heap.size + 2 ≤ wr.heap.size ∧ Below w.heap.size w wr ∧ Hid (t1.size = M) ∧ Hid ((N + k) % 64 = u) ∧ Hid (Is s1 r1 (m ++ l.take k)) ∧ Hid (sb t1 = l.drop k) ∧ Hid (Blk wr w.heap.size 136 (svA s1 r1 T)) ∧ Hid (Blk wr (w.heap.size + 1) 136 (svA st00 (List.replicate 64 0) 0))) (fun ut _ _ => slen ut)
  case atStart =>
    refine ⟨0, L, s, r, t0, u0, by omega, rfl, rfl, hu64, by simp, by (repeat' (first | (with_reducible exact Below.refl _ _) | (with_reducible assumption) | (with_reducible refine Below.alloc ?_ ?_ _) | (with_reducible refine Below.drew ?_) | (with_reducible refine below_dn ?_) | (with_reducible refine Below.setCell ?_ ?_ _) | (with_reducible exact Nat.le_refl _) | omega | (simp only [World.size_alloc, World.size_setCell, World.size_drew]; omega) | (simp; omega) | (simp; done))), HCap, HU0, Lib.hid ?_, Lib.hid ?_, Lib.hid ?_, Lib.hid ?_⟩
    · rw [List.take_zero, List.append_nil]; exact HI.out
    · rw [List.drop_zero]; exact HBy.out
    · have e := svL_size s r N T HR.out
      refine (Blk.new' _ _ _ _ rfl ?_).alloc _
      unfold svA
      rw [List.setIfInBounds_toArray, e]
    · exact Blk.new' _ _ _ _ (by simp) rfl
  case round =>
    obtain ⟨k, M, s1, r1, t1, u, hkM, rfl, rfl, hu, hsz, B, hc1, hku, hI, hBy, h0, h4⟩ := hrel
    have hr1 := hI.out.len
    by_cases hlt : 0 < M
    · obtain ⟨n, hn⟩ : ∃ n, min M (64 - u) = n := ⟨_, rfl⟩
      have n1 : 1 ≤ n := by omega
      have n2 : n ≤ M := by omega
      have n3 : u + n ≤ 64 := by omega
      obtain ⟨x, hx⟩ : ∃ x, (l.drop k).take n = x := ⟨_, rfl⟩
      have hxl : x.length = n := by rw [← hx, List.length_take, List.length_drop, HLe.out]; omega
      have i1 : (u : Int) ≤ 64 := by omega
      have p1 : (0 : Int) ≤ (u : Int) := by omega
      have xlt : ∀ y ∈ x, y < 256 := by rw [← hx]; exact fun y hy => HLL.out y (List.mem_of_mem_drop (List.mem_of_mem_take hy))
      have HX := Lib.hid (show x = (l.drop k).take (Nat.min M (64 - u)) by rw [← hx]; congr 1; exact hn.symm)
      have HFIT := Lib.hid (show u + x.length ≤ 64 by omega)
      have HXL := Lib.hid hxl; have HR1 := Lib.hid hr1; have XLT := Lib.hid xlt
      have hml : (m ++ l.take k).length = N + k := by rw [List.length_append, List.length_take, HN.out, HLe.out]; omega
      have hnew : (m ++ l.take k) ++ x = m ++ l.take (k + n) := by rw [List.append_assoc, ← hx, List.take_add]
      have hum : (m ++ l.take k).length % 64 = u := by rw [hml]; exact hku.out
      have HNEW := Lib.hid hnew; have HUM := Lib.hid hum
      obtain ⟨r2, hr2⟩ : ∃ r2, splice r1 u x = r2 := ⟨_, rfl⟩
      have HR2 := Lib.hid hr2
      have sl := fun W : World => slice_s t1 n (by rw [hc1.out]; exact n2) W
      have hby2 : sb (t1.extract n t1.size) = l.drop (k + n) := by rw [sb_extract, hBy.out, List.drop_drop]
      have hz2 : (t1.extract n t1.size).size = M - n := by rw [← sb_len, hby2, List.length_drop, HLe.out]; omega
      obtain ⟨t2, ht2⟩ : ∃ t2, t1.extract n t1.size = t2 := ⟨_, rfl⟩
      obtain ⟨M2, hM2⟩ : ∃ M2, M - n = M2 := ⟨_, rfl⟩
      have k2 : (k + n) + M2 = L := by omega
      have mless : M2 < M := by omega
      rw [ht2] at sl hby2 hz2
      rw [hM2] at hz2
      have by2 := Lib.hid hby2; have HZ2 := Lib.hid hz2
      have tz1 : t1.size = M := hc1.out
      have ML := Lib.hid (show t2.size < t1.size by omega)
      obtain ⟨v, hv⟩ : ∃ v, u + n = v := ⟨_, rfl⟩
      have hv64 : v ≤ 64 := by omega
      have e5 : (u : Int) + (n : Int) = (v : Int) := by omega
      have e6 : IntKind.i64.wrap ((u : Int) + (n : Int)) = (v : Int) := by rw [IntKind.wrap_i64]; omega
      have HV := Lib.hid (show u + x.length = v by omega)
      have HKU := Lib.hid (show v < 64 → (N + (k + n)) % 64 = v from fun _ => by have := hku.out; omega)
      have HKZ := Lib.hid (show v = 64 → (N + (k + n)) % 64 = 0 from fun _ => by have := hku.out; omega)
      clear hx hxl hr1 hn xlt hml hnew hum hr2 ht2 hM2 hby2 hz2 hv hku
      by_cases hfull : v = 64
      · have tf : ((v : Int) == 64) = true := beq_iff_eq.2 (by omega)
        have hI2 := Lib.hid (hI.out.full x XLT.out (by rw [HUM.out, HV.out]; exact hfull))
        rw [HUM.out, HR2.out, HNEW.out] at hI2
        have HF := Lib.hid hfull
        clear hfull
        go_wp2_with (first | (with_reducible refine wpList_copy_srest rfl _ _ 138 9 rfl 5 Tryd.underlying138 (by kernel_rfl) w.heap.size u _ _ t1 136 s1 r1 (l.drop k) x T rfl rfl h0.out HR1.out hBy.out M hc1.out HX.out HFIT.out n HXL.out r2 HR2.out ?_) | (with_reducible refine wpList_load_st rfl _ _ rfl w.heap.size rfl 136 s1 r2 T _ _ (h0.out.row_ _) Tryd.underlying132 (by kernel_rfl) ?_) | (with_reducible refine wpList_load_rest rfl _ _ rfl w.heap.size rfl 136 s1 r2 T _ _ (h0.out.row_ _) Tryd.underlying133 (by rw [hI2.out.len]; kernel_rfl) ?_))
        refine (compress_arr s1 r2 _ hI.out.ok hI2.out.len hI2.out.lt (HLA.out.mono (below_setRow B (by omega) _))).mono ?_
        rintro e w3 ⟨rfl, hb3⟩
        have hz3 := hb3.size
        rw [setRow_size] at hz3
        have g0 : Blk w3 w.heap.size 136 (svA s1 r2 T) := (h0.out.row_ _).below hb3 (by rw [setRow_size]; omega)
        have g4 : Blk w3 (w.heap.size + 1) 136 (svA st00 (List.replicate 64 0) 0) := (h4.out.rowfar (by omega) _).below hb3 (by rw [setRow_size]; omega)
        have B3 : Below w.heap.size w w3 := bt (below_setRow B (by omega) _) hb3
        have G0 := Lib.hid g0; have G4 := Lib.hid g4
        clear hb3 g0 g4 h0 h4 B hBy
        go_wp2_with (first | (with_reducible refine wpList_store_st rfl _ _ _ rfl w.heap.size 136 s1 (comp s1 r2) r2 T rfl rfl G0.out hI2.out.len (by kernel_rfl) rfl ?_))
        go_roundw
        case rel =>
          refine ⟨k + n, M2, comp s1 r2, r2, t2, 0, k2, rfl, rfl, by omega, by rw [setRow_size]; omega, below_setRow B3 (by omega) _, HZ2, Lib.hid (HKZ.out HF.out), hI2, by2, Lib.hid (G0.out.row_ _), Lib.hid (G4.out.rowfar (by omega) _)⟩
        case measure => exact ML.out
      · have tf : ((v : Int) == 64) = false := beq_eq_false_iff_ne.2 (by omega)
        have hv64' : v < 64 := by omega
        have hI2 := Lib.hid (hI.out.some x XLT.out (by rw [HUM.out, HV.out]; exact hv64'))
        rw [HUM.out, HR2.out, HNEW.out] at hI2
        go_wp2_with (first | (with_reducible refine wpList_copy_srest rfl _ _ 138 9 rfl 5 Tryd.underlying138 (by kernel_rfl) w.heap.size u _ _ t1 136 s1 r1 (l.drop k) x T rfl rfl h0.out HR1.out hBy.out M hc1.out HX.out HFIT.out n HXL.out r2 HR2.out ?_))
        go_roundw
        case rel =>
          refine ⟨k + n, M2, s1, r2, t2, v, k2, rfl, rfl, hv64', by rw [setRow_size]; omega, below_setRow B (by omega) _, HZ2, Lib.hid (HKU.out hv64'), hI2, by2, Lib.hid (h0.out.row_ _), Lib.hid (h4.out.rowfar (by omega) _)⟩
        case measure => exact ML.out
    · have hk : k = L := by omega
      have M0 : M = 0 := by omega
      have hI' := hI.out
      rw [hk, ← HLe.out, List.take_length] at hI'
      have HI' := Lib.hid hI'
      have ia : (Tryd.prog.info? 136).map (·.size) = some (svA s1 r1 T).size := by rw [svA_size _ _ _ hr1]; kernel_rfl
      have sz : (svA st00 (List.replicate 64 0) 0).size = (svA s1 r1 T).size := by rw [svA_size _ _ _ hr1]; rfl
      have IA := Lib.hid ia; have SZ := Lib.hid sz
      clear hk hI hI' hr1 ia sz
      have hz0 := hc1.out
      rw [M0] at hz0
      go_wp2_with (first | (with_reducible refine wpList_load_all rfl _ _ rfl w.heap.size rfl 136 _ _ h0.out Tryd.underlying136 IA.out ?_) | (with_reducible refine wpList_store_blk rfl _ _ _ rfl (w.heap.size + 1) 136 _ _ rfl rfl h4.out IA.out SZ.out (svA_one _ _ _) rfl ?_))
      refine bodyPost_ret (v := .agg (svA s1 r1 T)) (results_cell_row rfl _ _ _ 136 _ (0, 0) _ rfl (h4.out.row_ _) Tryd.underlying136 rfl IA.out) rfl ⟨s1, r1, HI'.out, ?_, below_setRow B (by omega) _⟩
      rw [HN.out, HLe.out, HT.out]
end Hs
end
end Go.Proofs.YteblnmhaohbkkaaDoor
