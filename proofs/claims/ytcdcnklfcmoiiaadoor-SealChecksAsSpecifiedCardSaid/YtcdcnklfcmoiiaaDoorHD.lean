/- Ported from another seat (wip/hash/D.src, by wip/port.py): contracts that this chapter calls. -/
import Derived.Test.YtcdcnklfcmoiiaaDoorHC
namespace Go.Proofs.YtcdcnklfcmoiiaaDoor
set_option linter.unusedVariables false
set_option linter.unusedSimpArgs false
namespace Hs
open Go.RowKit
structure LaidC (W : World) : Prop where
  rounds : ∀ k, k < 64 → W.cell? ⟨0, k, none⟩ = some (wv (KS.getD k 0))
set_option maxRecDepth 100000 in
theorem LaidC.mono {W W' : World} (h : LaidC W) (hb : Below W.heap.size W W') : LaidC W' := ⟨fun k hk => keep (h.rounds k hk) hb⟩
set_option maxRecDepth 100000 in
theorem wpList_load_words {P : Program} {ops : Array Oper} {rest : List Oper} {op : Oper} {a : Act} {w : World} {Q : Exit → Act → World → Prop} (hgd : op.guard = none) (ty : TypeId) (x : Operand) (ho : op.op = .load ty x)
    (g : Nat) (hx : a.eval x = .pointer (some ⟨g, 0, none⟩)) (l : List Nat) (n : Nat) (e : TypeId) (hg : ∀ k, k < l.length → w.cell? ⟨g, k, none⟩ = some (wv (l.getD k 0)))
    (hu : P.underlying ty = some (.array n e)) (hi : (P.info? ty).map (·.size) = some l.length)
    (h : wpList P ops Q rest (a.put op.dst (.agg (wvs l))) w) : wpList P ops Q (op :: rest) a w :=
  wpList_load_mid hgd ty x ho g 0 hx (l.map wv) (.array n e) (fun j v hv => by
    rw [List.getElem?_map] at hv
    by_cases hj : j < l.length
    · rw [Nat.zero_add, hg j hj, ← hv, List.getElem?_eq_getElem hj, List.getD_eq_getElem?_getD, List.getElem?_eq_getElem hj]; rfl
    · rw [List.getElem?_eq_none (by omega)] at hv; cases hv) hu rfl (by rw [List.length_map]; exact hi) h
set_option maxRecDepth 100000 in
theorem index_words (l : List Nat) (t : Nat) (hl : l.length = 64) (ht : t < 64) (W : World) : (Instr.index 142 (.agg (wvs l)) (.int .i64 (t : Int))).run Tryd.prog W = .ok (wv (l.getD t 0)) W := by
  have hn : 0 ≤ (t : Int) ∧ (t : Int) < ((64 : Nat) : Int) := by omega
  have hz : (sizeOf 118).run Tryd.prog W = .ok 1 W := by kernel_rfl
  have hp := run_part_plain (P := Tryd.prog) (w := W) (e := 118) (by kernel_rfl) (xs := wvs l) (off := t) (wvs_at l t (by omega))
  simp [Instr.index, run_underlying Tryd.underlying142, asIntOf, hn, go_sem, hz, hp, ht, wvs_at l t (by omega)]
set_option maxRecDepth 100000 in
theorem not_val (e : Nat) (he : e < 4294967296) : bits .xor .u32 4294967295 (e : Int) = ((e ^^^ 4294967295 : Nat) : Int) := by
  have := u32_xor_nat 4294967295 e (by decide) he
  rw [Nat.xor_comm] at this
  exact this
def St.arr (s : St) : Array Value := #[wv (s.a), wv (s.b), wv (s.c), wv (s.d), wv (s.e), wv (s.f), wv (s.g), wv (s.h)]
set_option maxRecDepth 100000 in
set_option maxHeartbeats 1000000 in
theorem compress_any (s : St) (b : List Nat) (w : World) (hs : s.Ok) (hb : b.length = 64) (hlt : ∀ k, b.getD k 0 < 256) (hla : LaidC w) :
    Calls Tryd.prog 97 #[.agg #[wv s.a, wv s.b, wv s.c, wv s.d, wv s.e, wv s.f, wv s.g, wv s.h], .agg (bvs b)] w fun e w' => e = .returned (.agg (comp s b).arr) ∧ Below w.heap.size w w' := by
  have C54 := Lib.hid (fun W : World => schedule_any b W hb hlt)
  have HLA := Lib.hid hla
  have SL := Lib.hid (fun k => getD_lt (by decide : 0 < 4294967296) (sched_lt b hlt 64) k)
  have SN := Lib.hid (sched_len b 64)
  have hcomp : comp s b = s.plus (rounds (sched b 64) s 64) := rfl
  obtain ⟨ws, hws⟩ : ∃ ws, sched b 64 = ws := ⟨_, rfl⟩
  rw [hws] at C54 SL SN hcomp
  have HC := Lib.hid hcomp
  have ib : (Tryd.prog.info? 120).map (·.size) = some (bvs b).size := by rw [bvs_size, hb]; kernel_rfl
  have iw : (Tryd.prog.info? 142).map (·.size) = some (wvs ws).size := by rw [wvs_size, SN.out]; kernel_rfl
  have sw : (wvs (List.replicate 64 0)).size = (wvs ws).size := by rw [wvs_size, wvs_size, SN.out]; rfl
  have IB := Lib.hid ib; have IW := Lib.hid iw; have SW := Lib.hid sw
  clear hws hcomp hb hlt hla ib iw sw
  obtain ⟨sa, sb, sc, sd, se, sf, sg, sh⟩ := s
  have HS := Lib.hid hs
  have HV := Lib.hid (rounds_ok ws hs)
  clear hs
  go_enter Tryd.func97, Tryd.ntmps97
  go_wp2_with (first | (with_reducible refine wpList_load_blk rfl _ _ rfl _ rfl 120 _ _ _ (((Blk.new' _ _ _ _ (by simp) rfl).alloc _)) Tryd.underlying120 IB.out ?_) | fail)
  refine (C54.out _).mono ?_
  rintro e w1 ⟨rfl, hb1⟩
  have k0 : Blk w1 w.heap.size 119 #[wv sa, wv sb, wv sc, wv sd, wv se, wv sf, wv sg, wv sh] := (((Blk.new w _ _).alloc _).alloc _).below hb1 (by first | (simp; done) | (simp; omega))
  have k4 : Blk w1 (w.heap.size + 1 + 1) 119 (wvs (List.replicate 8 0)) := (Blk.new' _ _ _ _ (by simp) rfl).below hb1 (by first | (simp; done) | (simp; omega))
  have B1 : Below w.heap.size w w1 := bt (by (repeat' (first | (with_reducible exact Below.refl _ _) | (with_reducible assumption) | (with_reducible refine Below.alloc ?_ ?_ _) | (with_reducible refine Below.drew ?_) | (with_reducible refine below_dn ?_) | (with_reducible refine Below.setCell ?_ ?_ _) | (with_reducible exact Nat.le_refl _) | omega | (simp only [World.size_alloc, World.size_setCell, World.size_drew]; omega) | (simp; omega) | (simp; done)))) hb1
  have s1 : w.heap.size + 3 ≤ w1.heap.size := by have := hb1.size; simp at this; omega
  clear hb1
  go_wp2_with (first | (with_reducible refine wpList_store_blk rfl _ _ _ rfl _ 142 (wvs (List.replicate 64 0)) _ rfl rfl (Blk.new' _ _ _ _ rfl rfl) IW.out SW.out (wvs_one _) rfl ?_) | fail)
  generalize hW : World.setRow _ w1.heap.size (wvs ws) = W2
  have j0 : Blk W2 w.heap.size 119 #[wv sa, wv sb, wv sc, wv sd, wv se, wv sf, wv sg, wv sh] := by rw [← hW]; exact (k0.alloc _).rowfar (by omega) _
  have j4 : Blk W2 (w.heap.size + 1 + 1) 119 (wvs (List.replicate 8 0)) := by rw [← hW]; exact (k4.alloc _).rowfar (by omega) _
  have j5 : Blk W2 w1.heap.size 142 (wvs ws) := by rw [← hW]; exact (Blk.new' w1 142 _ (wvs (List.replicate 64 0)) rfl rfl).row_ _
  have B2 : Below w.heap.size w W2 := by rw [← hW]; exact below_setRow (B1.alloc (by omega) _) (by omega) _
  have s2 : w1.heap.size + 1 ≤ W2.heap.size := by rw [← hW]; simp
  clear hW k0 k4 B1
  have d0 : W2.cell? ⟨w.heap.size, 0, none⟩ = some (wv sa) := j0.cell 0
  have d1 : W2.cell? ⟨w.heap.size, 1, none⟩ = some (wv sb) := j0.cell 1
  have d2 : W2.cell? ⟨w.heap.size, 2, none⟩ = some (wv sc) := j0.cell 2
  have d3 : W2.cell? ⟨w.heap.size, 3, none⟩ = some (wv sd) := j0.cell 3
  have d4 : W2.cell? ⟨w.heap.size, 4, none⟩ = some (wv se) := j0.cell 4
  have d5 : W2.cell? ⟨w.heap.size, 5, none⟩ = some (wv sf) := j0.cell 5
  have d6 : W2.cell? ⟨w.heap.size, 6, none⟩ = some (wv sg) := j0.cell 6
  have d7 : W2.cell? ⟨w.heap.size, 7, none⟩ = some (wv sh) := j0.cell 7
  have J0 := Lib.hid j0; have J4 := Lib.hid j4; have J5 := Lib.hid j5
  clear j0 j4 j5
  go_wp2
  go_quiet (fail)
  have cells : ∀ (q : Nat) k, k < KS.length → (W2.drewN q).cell? ⟨0, k, none⟩ = some (wv (KS.getD k 0)) := fun q k hk => keep (HLA.out.rounds k hk) (by (repeat' (first | (with_reducible exact Below.refl _ _) | (with_reducible assumption) | (with_reducible refine Below.alloc ?_ ?_ _) | (with_reducible refine Below.drew ?_) | (with_reducible refine below_dn ?_) | (with_reducible refine Below.setCell ?_ ?_ _) | (with_reducible exact Nat.le_refl _) | omega | (simp only [World.size_alloc, World.size_setCell, World.size_drew]; omega) | (simp; omega) | (simp; done))))
  have CE := Lib.hid cells
  clear cells
  go_wp2_with (first | (with_reducible refine wpList_load_words rfl _ _ rfl 0 rfl KS _ _ (CE.out _) Tryd.underlying142 (by kernel_rfl) ?_) | fail)
  go_loopw [37, 6, 7, 8, 9, 10, 11, 12, 13] (fun uk u6 u7 u8 u9 u10 u11 u12 u13 wr => ∃ (t : Nat) (v : St), t ≤ 64 ∧ uk = .int .i64 t ∧ u6 = wv v.a ∧ u7 = wv v.b ∧ u8 = wv v.c ∧ u9 = wv v.d ∧ u10 = wv v.e ∧ u11 = wv v.f ∧ u12 = wv v.g ∧ u13 = wv v.h ∧ wr.heap.size = W2.heap.size ∧ Below w.heap.size w wr ∧ Hid (Blk wr w.heap.size 119 #[wv sa, wv sb, wv sc, wv sd, wv se, wv sf, wv sg, wv sh]) ∧ Hid (Blk wr (w.heap.size + 1 + 1) 119 (wvs (List.replicate 8 0))) ∧ Hid (Blk wr w1.heap.size 142 (wvs ws)) ∧ Hid (rounds ws ⟨sa, sb, sc, sd, se, sf, sg, sh⟩ t = v)) (fun uk _ _ _ _ _ _ _ _ _ => 64 - (intOf uk).toNat)
  case atStart => exact ⟨0, _, by omega, rfl, rfl, rfl, rfl, rfl, rfl, rfl, rfl, rfl, by simp, by (repeat' (first | (with_reducible exact Below.refl _ _) | (with_reducible assumption) | (with_reducible refine Below.alloc ?_ ?_ _) | (with_reducible refine Below.drew ?_) | (with_reducible refine below_dn ?_) | (with_reducible refine Below.setCell ?_ ?_ _) | (with_reducible exact Nat.le_refl _) | omega | (simp only [World.size_alloc, World.size_setCell, World.size_drew]; omega) | (simp; omega) | (simp; done))), Lib.hid (J0.out.drewN _), Lib.hid (J4.out.drewN _), Lib.hid (J5.out.drewN _), Lib.hid rfl⟩
  case round =>
    clear J0 J4 J5 d0 d1 d2 d3 d4 d5 d6 d7 B2
    obtain ⟨t, v, ht, rfl, rfl, rfl, rfl, rfl, rfl, rfl, rfl, rfl, hsz, B2, J0, J4, J5, hv⟩ := hrel
    have vok := HV.out t
    rw [hv.out] at vok
    by_cases hlt : t < 64
    · have hnx : rounds ws ⟨sa, sb, sc, sd, se, sf, sg, sh⟩ (t + 1) = rnd v (KS.getD t 0) (ws.getD t 0) := by rw [rounds, hv.out]
      clear hv
      obtain ⟨a, b', c, d, e, f, g, h⟩ := v
      obtain ⟨va, vb, vc, vd, ve, vf, vg, vh⟩ := vok
      dsimp only at va vb vc vd ve vf vg vh
      have ix := fun W : World => index_words KS t rfl hlt W
      have dw0 := (J5.out).cell t |>.trans (wvs_at ws t (by rw [SN.out]; exact hlt))
      obtain ⟨kt, hkt⟩ : ∃ x, KS.getD t 0 = x := ⟨_, rfl⟩
      obtain ⟨wt, hwt⟩ : ∃ x, ws.getD t 0 = x := ⟨_, rfl⟩
      rw [hkt] at ix hnx
      rw [hwt] at dw0 hnx
      have hx : tx ⟨a, b', c, d, e, f, g, h⟩ kt wt = add32 (add32 (add32 (add32 h ((rotr e 6 ^^^ rotr e 11) ^^^ rotr e 25)) ((e &&& f) ^^^ ((e ^^^ 4294967295) &&& g))) kt) wt := rfl
      have hy : ty ⟨a, b', c, d, e, f, g, h⟩ = add32 ((rotr a 2 ^^^ rotr a 13) ^^^ rotr a 22) (((a &&& b') ^^^ (a &&& c)) ^^^ (b' &&& c)) := rfl
      have v1 : bits .xor .u32 (rotr e 6 : Int) (rotr e 11 : Int) = ((rotr e 6 ^^^ rotr e 11 : Nat) : Int) := u32_xor_nat _ _ (rotr_lt _ _ ve) (rotr_lt _ _ ve)
      have w1 : rotr e 6 ^^^ rotr e 11 < 4294967296 := xor32 (rotr_lt _ _ ve) (rotr_lt _ _ ve)
      obtain ⟨R1, eR1⟩ : ∃ x, rotr e 6 ^^^ rotr e 11 = x := ⟨_, rfl⟩
      rw [eR1] at v1 w1 hx
      have v2 : bits .xor .u32 (R1 : Int) (rotr e 25 : Int) = ((R1 ^^^ rotr e 25 : Nat) : Int) := u32_xor_nat _ _ w1 (rotr_lt _ _ ve)
      have w2 : R1 ^^^ rotr e 25 < 4294967296 := xor32 w1 (rotr_lt _ _ ve)
      obtain ⟨R2, eR2⟩ : ∃ x, R1 ^^^ rotr e 25 = x := ⟨_, rfl⟩
      rw [eR2] at v2 w2 hx
      have v3 : bits .and .u32 (e : Int) (f : Int) = ((e &&& f : Nat) : Int) := u32_and_nat _ _ ve vf
      have w3 : e &&& f < 4294967296 := and32 vf
      obtain ⟨N1, eN1⟩ : ∃ x, e &&& f = x := ⟨_, rfl⟩
      rw [eN1] at v3 w3 hx
      have v4 : bits .xor .u32 4294967295 (e : Int) = ((e ^^^ 4294967295 : Nat) : Int) := not_val e ve
      have w4 : e ^^^ 4294967295 < 4294967296 := xor32 ve (by decide)
      have v4b : bits .xor .u32 IntKind.u32.max (e : Int) = ((e ^^^ 4294967295 : Nat) : Int) := not_val e ve
      have v4c : bits .xor .u32 (if IntKind.u32.signed = true then -1 else IntKind.u32.max) (e : Int) = ((e ^^^ 4294967295 : Nat) : Int) := not_val e ve
      obtain ⟨N2, eN2⟩ : ∃ x, e ^^^ 4294967295 = x := ⟨_, rfl⟩
      rw [eN2] at v4 w4 hx v4b v4c
      have v5 : bits .and .u32 (N2 : Int) (g : Int) = ((N2 &&& g : Nat) : Int) := u32_and_nat _ _ w4 vg
      have w5 : N2 &&& g < 4294967296 := and32 vg
      obtain ⟨N3, eN3⟩ : ∃ x, N2 &&& g = x := ⟨_, rfl⟩
      rw [eN3] at v5 w5 hx
      have v6 : bits .xor .u32 (N1 : Int) (N3 : Int) = ((N1 ^^^ N3 : Nat) : Int) := u32_xor_nat _ _ w3 w5
      have w6 : N1 ^^^ N3 < 4294967296 := xor32 w3 w5
      obtain ⟨N4, eN4⟩ : ∃ x, N1 ^^^ N3 = x := ⟨_, rfl⟩
      rw [eN4] at v6 w6 hx
      have v7 : bits .and .u32 (a : Int) (b' : Int) = ((a &&& b' : Nat) : Int) := u32_and_nat _ _ va vb
      have w7 : a &&& b' < 4294967296 := and32 vb
      obtain ⟨M1, eM1⟩ : ∃ x, a &&& b' = x := ⟨_, rfl⟩
      rw [eM1] at v7 w7 hy
      have v8 : bits .and .u32 (a : Int) (c : Int) = ((a &&& c : Nat) : Int) := u32_and_nat _ _ va vc
      have w8 : a &&& c < 4294967296 := and32 vc
      obtain ⟨M2, eM2⟩ : ∃ x, a &&& c = x := ⟨_, rfl⟩
      rw [eM2] at v8 w8 hy
      have v9 : bits .and .u32 (b' : Int) (c : Int) = ((b' &&& c : Nat) : Int) := u32_and_nat _ _ vb vc
      have w9 : b' &&& c < 4294967296 := and32 vc
      obtain ⟨M3, eM3⟩ : ∃ x, b' &&& c = x := ⟨_, rfl⟩
      rw [eM3] at v9 w9 hy
      have v10 : bits .xor .u32 (M1 : Int) (M2 : Int) = ((M1 ^^^ M2 : Nat) : Int) := u32_xor_nat _ _ w7 w8
      have w10 : M1 ^^^ M2 < 4294967296 := xor32 w7 w8
      obtain ⟨M4, eM4⟩ : ∃ x, M1 ^^^ M2 = x := ⟨_, rfl⟩
      rw [eM4] at v10 w10 hy
      have v11 : bits .xor .u32 (M4 : Int) (M3 : Int) = ((M4 ^^^ M3 : Nat) : Int) := u32_xor_nat _ _ w10 w9
      have w11 : M4 ^^^ M3 < 4294967296 := xor32 w10 w9
      obtain ⟨M5, eM5⟩ : ∃ x, M4 ^^^ M3 = x := ⟨_, rfl⟩
      rw [eM5] at v11 w11 hy
      have v12 : bits .xor .u32 (rotr a 2 : Int) (rotr a 13 : Int) = ((rotr a 2 ^^^ rotr a 13 : Nat) : Int) := u32_xor_nat _ _ (rotr_lt _ _ va) (rotr_lt _ _ va)
      have w12 : rotr a 2 ^^^ rotr a 13 < 4294967296 := xor32 (rotr_lt _ _ va) (rotr_lt _ _ va)
      obtain ⟨R3, eR3⟩ : ∃ x, rotr a 2 ^^^ rotr a 13 = x := ⟨_, rfl⟩
      rw [eR3] at v12 w12 hy
      have v13 : bits .xor .u32 (R3 : Int) (rotr a 22 : Int) = ((R3 ^^^ rotr a 22 : Nat) : Int) := u32_xor_nat _ _ w12 (rotr_lt _ _ va)
      have w13 : R3 ^^^ rotr a 22 < 4294967296 := xor32 w12 (rotr_lt _ _ va)
      obtain ⟨R4, eR4⟩ : ∃ x, R3 ^^^ rotr a 22 = x := ⟨_, rfl⟩
      rw [eR4] at v13 w13 hy
      have sP1 := add_val h R2
      have tP1 := add_mod h R2
      obtain ⟨P1, eP1⟩ : ∃ x, add32 h R2 = x := ⟨_, rfl⟩
      rw [eP1] at sP1 tP1 hx
      have sP2 := add_val P1 N4
      have tP2 := add_mod P1 N4
      obtain ⟨P2, eP2⟩ : ∃ x, add32 P1 N4 = x := ⟨_, rfl⟩
      rw [eP2] at sP2 tP2 hx
      have sP3 := add_val P2 kt
      have tP3 := add_mod P2 kt
      obtain ⟨P3, eP3⟩ : ∃ x, add32 P2 kt = x := ⟨_, rfl⟩
      rw [eP3] at sP3 tP3 hx
      have sX := add_val P3 wt
      have tX := add_mod P3 wt
      obtain ⟨X, eX⟩ : ∃ x, add32 P3 wt = x := ⟨_, rfl⟩
      rw [eX] at sX tX hx
      have sY := add_val R4 M5
      have tY := add_mod R4 M5
      obtain ⟨Y, eY⟩ : ∃ x, add32 R4 M5 = x := ⟨_, rfl⟩
      rw [eY] at sY tY hy
      have hr : rnd ⟨a, b', c, d, e, f, g, h⟩ kt wt = ⟨add32 (tx ⟨a, b', c, d, e, f, g, h⟩ kt wt) (ty ⟨a, b', c, d, e, f, g, h⟩), a, b', c, add32 d (tx ⟨a, b', c, d, e, f, g, h⟩ kt wt), e, f, g⟩ := rfl
      rw [hr, hx, hy] at hnx
      have sA := add_val X Y
      have tA := add_mod X Y
      obtain ⟨A, eA⟩ : ∃ x, add32 X Y = x := ⟨_, rfl⟩
      rw [eA] at sA tA hnx
      have sD := add_val d X
      have tD := add_mod d X
      obtain ⟨D, eD⟩ : ∃ x, add32 d X = x := ⟨_, rfl⟩
      rw [eD] at sD tD hnx
      have c6 := Lib.hid (fun W : World => rotq6 e W ve)
      have c11 := Lib.hid (fun W : World => rotq11 e W ve)
      have c25 := Lib.hid (fun W : World => rotq25 e W ve)
      have c2 := Lib.hid (fun W : World => rot2 a W va)
      have c13 := Lib.hid (fun W : World => rot13 a W va)
      have c22 := Lib.hid (fun W : World => rot22 a W va)
      obtain ⟨r6, h6⟩ : ∃ r, rotr e 6 = r := ⟨_, rfl⟩
      obtain ⟨r11, h11⟩ : ∃ r, rotr e 11 = r := ⟨_, rfl⟩
      obtain ⟨r25, h25⟩ : ∃ r, rotr e 25 = r := ⟨_, rfl⟩
      obtain ⟨r2, h2⟩ : ∃ r, rotr a 2 = r := ⟨_, rfl⟩
      obtain ⟨r13, h13⟩ : ∃ r, rotr a 13 = r := ⟨_, rfl⟩
      obtain ⟨r22, h22⟩ : ∃ r, rotr a 22 = r := ⟨_, rfl⟩
      rw [h6] at c6 v1; rw [h11] at c11 v1; rw [h25] at c25 v2; rw [h2] at c2 v12; rw [h13] at c13 v12; rw [h22] at c22 v13
      have it : (t : Int) < 64 := by omega
      have pt : (0 : Int) ≤ (t : Int) := by omega
      have NX := Lib.hid hnx
      clear hkt hwt hx hy hr hnx h6 h11 h25 h2 h13 h22 va vb vc vd ve vf vg vh eR1 w1 eR2 w2 eN1 w3 eN2 w4 eN3 w5 eN4 w6 eM1 w7 eM2 w8 eM3 w9 eM4 w10 eM5 w11 eR3 w12 eR4 w13 eP1 eP2 eP3 eX eY eA eD
      go_wp2
      go_quiet ((go_at_call 105; first | (with_reducible exact Calls.quiet_of_same (c6.out _)) | (with_reducible exact Calls.quiet_of_same (c11.out _)) | (with_reducible exact Calls.quiet_of_same (c25.out _))))
      go_wp2_with fail
      refine (c2.out _).mono ?_
      rintro e w3 ⟨rfl, rfl⟩
      go_wp2_with fail
      refine (c13.out _).mono ?_
      rintro e w3 ⟨rfl, rfl⟩
      go_wp2_with fail
      refine (c22.out _).mono ?_
      rintro e w3 ⟨rfl, rfl⟩
      go_wp2
      go_roundw
      case rel => exact ⟨t + 1, _, by omega, by go_num, rfl, rfl, rfl, rfl, rfl, rfl, rfl, rfl, by simp [hsz], by (repeat' (first | (with_reducible exact Below.refl _ _) | (with_reducible assumption) | (with_reducible refine Below.alloc ?_ ?_ _) | (with_reducible refine Below.drew ?_) | (with_reducible refine below_dn ?_) | (with_reducible refine Below.setCell ?_ ?_ _) | (with_reducible exact Nat.le_refl _) | omega | (simp only [World.size_alloc, World.size_setCell, World.size_drew]; omega) | (simp; omega) | (simp; done))), Lib.hid (J0.out.drewN _), Lib.hid (J4.out.drewN _), Lib.hid (J5.out.drewN _), NX⟩
      case measure => simp [intOf]; omega
    · have KE := Lib.hid (show t = 64 by omega)
      have hc := HC.out
      have hv' := hv.out
      rw [KE.out] at hv'
      rw [hv'] at hc
      have HC := Lib.hid hc
      clear hc hv' hv vok ht
      obtain ⟨a, b', c, d, e, f, g, h⟩ := v
      have d0 : wr.cell? ⟨w.heap.size, 0, none⟩ = some (wv sa) := J0.out.cell 0
      have d1 : wr.cell? ⟨w.heap.size, 1, none⟩ = some (wv sb) := J0.out.cell 1
      have d2 : wr.cell? ⟨w.heap.size, 2, none⟩ = some (wv sc) := J0.out.cell 2
      have d3 : wr.cell? ⟨w.heap.size, 3, none⟩ = some (wv sd) := J0.out.cell 3
      have d4 : wr.cell? ⟨w.heap.size, 4, none⟩ = some (wv se) := J0.out.cell 4
      have d5 : wr.cell? ⟨w.heap.size, 5, none⟩ = some (wv sf) := J0.out.cell 5
      have d6 : wr.cell? ⟨w.heap.size, 6, none⟩ = some (wv sg) := J0.out.cell 6
      have d7 : wr.cell? ⟨w.heap.size, 7, none⟩ = some (wv sh) := J0.out.cell 7
      have qa := add_val sa a
      have pa := add_mod sa a
      have qb := add_val sb b'
      have pb := add_mod sb b'
      have qc := add_val sc c
      have pc := add_mod sc c
      have qd := add_val sd d
      have pd := add_mod sd d
      have qe := add_val se e
      have pe := add_mod se e
      have qf := add_val sf f
      have pf := add_mod sf f
      have qg := add_val sg g
      have pg := add_mod sg g
      have qh := add_val sh h
      have ph := add_mod sh h
      obtain ⟨Sa, ha⟩ : ∃ x, add32 sa a = x := ⟨_, rfl⟩
      obtain ⟨Sb, hb⟩ : ∃ x, add32 sb b' = x := ⟨_, rfl⟩
      obtain ⟨Sc, hc⟩ : ∃ x, add32 sc c = x := ⟨_, rfl⟩
      obtain ⟨Sd, hd⟩ : ∃ x, add32 sd d = x := ⟨_, rfl⟩
      obtain ⟨Se, he⟩ : ∃ x, add32 se e = x := ⟨_, rfl⟩
      obtain ⟨Sf, hf⟩ : ∃ x, add32 sf f = x := ⟨_, rfl⟩
      obtain ⟨Sg, hg⟩ : ∃ x, add32 sg g = x := ⟨_, rfl⟩
      obtain ⟨Sh, hh⟩ : ∃ x, add32 sh h = x := ⟨_, rfl⟩
      rw [ha] at qa pa
      rw [hb] at qb pb
      rw [hc] at qc pc
      rw [hd] at qd pd
      rw [he] at qe pe
      rw [hf] at qf pf
      rw [hg] at qg pg
      rw [hh] at qh ph
      have HC2 : (comp ⟨sa, sb, sc, sd, se, sf, sg, sh⟩ b).arr = #[wv Sa, wv Sb, wv Sc, wv Sd, wv Se, wv Sf, wv Sg, wv Sh] := by
        rw [HC.out]
        simp only [St.plus, St.arr, ha, hb, hc, hd, he, hf, hg, hh]
      have HF := Lib.hid HC2
      clear HC2 ha hb hc hd he hf hg hh
      have iz : (Tryd.prog.info? 119).map (·.size) = some (#[wv Sa, wv Sb, wv Sc, wv Sd, wv Se, wv Sf, wv Sg, wv Sh] : Array Value).size := by kernel_rfl
      have iy : (wvs (List.replicate 8 0)).size = (#[wv Sa, wv Sb, wv Sc, wv Sd, wv Se, wv Sf, wv Sg, wv Sh] : Array Value).size := rfl
      have ix : (#[wv Sa, wv Sb, wv Sc, wv Sd, wv Se, wv Sf, wv Sg, wv Sh] : Array Value).all (·.oneCell') = true := by simp [Value.oneCell']
      have IZ := Lib.hid iz; have IY := Lib.hid iy; have IX := Lib.hid ix
      clear iz iy ix
      go_wp2_with (first | (with_reducible refine wpList_store_blk rfl _ _ _ rfl _ 119 (wvs (List.replicate 8 0)) #[wv Sa, wv Sb, wv Sc, wv Sd, wv Se, wv Sf, wv Sg, wv Sh] rfl rfl J4.out IZ.out IY.out IX.out rfl ?_) | fail)
      refine bodyPost_ret (v := .agg #[wv Sa, wv Sb, wv Sc, wv Sd, wv Se, wv Sf, wv Sg, wv Sh]) (results_cell_row rfl _ _ _ 119 _ (0, 0) _ rfl (J4.out.row_ _) Tryd.underlying119 rfl IZ.out) rfl ⟨?_, ?_⟩
      · rw [HF.out]
      · exact below_setRow B2 (by omega) _
end Hs
end Go.Proofs.YtcdcnklfcmoiiaaDoor
