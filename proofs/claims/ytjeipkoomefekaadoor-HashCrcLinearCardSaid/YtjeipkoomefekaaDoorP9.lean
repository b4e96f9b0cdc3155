/- The law HashCrcLinear, walked. -/
import Derived.Test.YtjeipkoomefekaaDoorY
import Derived.Laws.OwnMore
import Derived.Deep.OwnRows
namespace Go.Proofs.YtjeipkoomefekaaDoor
set_option linter.unusedVariables false
set_option linter.unusedSimpArgs false
open Go.RowKit
def zs (n : Nat) : List Nat := List.replicate n 0
theorem zs_lt (n : Nat) : ∀ x ∈ zs n, x < 256 := fun x hx => by rw [List.eq_of_mem_replicate hx]; decide
theorem run_madeB (n : Nat) (hn : n ≤ 1000) (W : World) : (Instr.makeSlice 22 (.int .i64 (n : Int)) (.int .i64 (n : Int))).run Tryd.prog W = .ok (.slice (some ⟨W.heap.size, 0, none⟩) n n) (W.alloc (.cells (bvs (zs n)) 5)) := by
  obtain ⟨i, hi, hz, hs, hb⟩ := info_parts infoB
  have := run_make (P := Tryd.prog) W 22 5 i _ Tryd.underlying22 hi hz .i64 .i64 n n (by omega) (by omega) (by rw [hb]; omega) (by omega)
  have e : madeCells #[Value.int .u8 0] n = bvs (zs n) := by
    apply Array.ext'
    rw [toList_madeCells_one]
    simp [bvs, zs, bv]
  rw [← e]
  simpa [hs, Value.cells] using this
theorem crc_lin (la l1 l2 : List Nat) (n : Nat) (hn : la.length = n) : crc (xorP (xorP la (xorP (zs n) l1 n) n) (xorP (zs n) l2 n) n) = (crc la ^^^ crc (xorP (zs n) l1 n)) ^^^ crc (xorP (zs n) l2 n) := by
  subst hn
  have e1 := xorP_xorL la (xorP (zs la.length) l1 la.length) (by rw [xorP_len])
  have e2 := xorP_xorL (xorL la (xorP (zs la.length) l1 la.length)) (xorP (zs la.length) l2 la.length) (by rw [xorP_len, xorL_len _ _ (by rw [xorP_len])])
  rw [xorL_len _ _ (by rw [xorP_len])] at e2
  rw [e1, e2]
  exact crc_linear _ _ _ (by rw [xorP_len]) (by rw [xorP_len])
set_option maxRecDepth 100000 in
set_option maxHeartbeats 2000000 in
theorem crcLinear (aa ab ac : Option Addr) (ca cb cc : Nat) (la lb lc : List Nat) (w : World) (hca : la.length ≤ ca) (hcb : lb.length ≤ cb) (hcc : lc.length ≤ cc) (ha : BytesA w aa la) (hb : BytesA w ab lb) (hc : BytesA w ac lc)
    (ma : la.length ≤ 9223372036854775807) (mb : lb.length ≤ 9223372036854775807) (mc : lc.length ≤ 9223372036854775807) (hla : LaidC w) :
    Calls Tryd.prog 9 #[.slice aa la.length ca, .slice ab lb.length cb, .slice ac lc.length cc] w fun e w' => e = .returned (.bool true) ∧ Below w.heap.size w w' := by
  have LA := Lib.hid hla
  have HA := Lib.hid ha; have HB := Lib.hid hb; have HC := Lib.hid hc
  by_cases h1 : 400 < la.length
  · clear ha hb hc hla
    go_enter Tryd.func9, Tryd.ntmps9
    go_wp2_with fail
    refine (sane _ LA.out).mono ?_
    rintro e w1 ⟨rfl, hb1⟩
    have B1 := Lib.hid hb1
    clear hb1
    go_wp2
    go_ret
    exact ⟨rfl, B1.out⟩
  obtain ⟨N, hN⟩ : ∃ N, la.length = N := ⟨_, rfl⟩
  have NB : N ≤ 400 := by omega
  have zl := zs_lt N
  have zn : (zs N).length = N := List.length_replicate
  have lty := xorP_lt (zs N) lb zl hb.lt N
  have ltz := xorP_lt (zs N) lc zl hc.lt N
  have lty2 := xorP_lt la (xorP (zs N) lb N) ha.lt lty N
  have ltx := xorP_lt (xorP la (xorP (zs N) lb N) N) (xorP (zs N) lc N) lty2 ltz N
  have ly := xorP_len (zs N) lb N
  have lz := xorP_len (zs N) lc N
  have ly2 := xorP_len la (xorP (zs N) lb N) N
  have lx := xorP_len (xorP la (xorP (zs N) lb N) N) (xorP (zs N) lc N) N
  have hlin := crc_lin la lb lc N hN
  have D0 := Lib.hid (fun W : World => run_madeB N (by omega) W)
  have D1 := Lib.hid (fun (g : Nat) (W : World) (h : Blk W g 5 (bvs (zs N))) (h2 : BytesA W ab lb) => by have := xor_any (some ⟨g, 0, none⟩) ab N cb (zs N) lb W (h.bytes zl) h2 (by omega) mb; rw [zn] at this; exact this)
  have D2 := Lib.hid (fun (g : Nat) (W : World) (h : Blk W g 5 (bvs (zs N))) (h2 : BytesA W ac lc) => by have := xor_any (some ⟨g, 0, none⟩) ac N cc (zs N) lc W (h.bytes zl) h2 (by omega) mc; rw [zn] at this; exact this)
  obtain ⟨Y, hY⟩ : ∃ Y, xorP (zs N) lb N = Y := ⟨_, rfl⟩
  obtain ⟨Z, hZ⟩ : ∃ Y, xorP (zs N) lc N = Y := ⟨_, rfl⟩
  simp only [hY] at D1; simp only [hZ] at D2
  rw [hY] at lty lty2 ly ly2 ltx lx hlin; rw [hZ] at ltz lz ltx lx hlin
  have D3 := Lib.hid (fun (a2 : Option Addr) (c2 : Nat) (W : World) (h : BytesA W aa la) (h2 : BytesA W a2 Y) => by have := xor_any aa a2 ca c2 la Y W h h2 (by omega) (by omega); rw [hN, ly] at this; exact this)
  obtain ⟨U, hU⟩ : ∃ m, xorP la Y N = m := ⟨_, rfl⟩
  simp only [hU] at D3
  rw [hU] at lty2 ly2 ltx lx hlin
  have D4 := Lib.hid (fun (a1 a2 : Option Addr) (c1 c2 : Nat) (W : World) (h : BytesA W a1 U) (h2 : BytesA W a2 Z) => by have := xor_any a1 a2 c1 c2 U Z W h h2 (by omega) (by omega); rw [ly2, lz] at this; exact this)
  obtain ⟨X, hX⟩ : ∃ m, xorP U Z N = m := ⟨_, rfl⟩
  simp only [hX] at D4
  rw [hX] at ltx lx hlin
  have C1 := Lib.hid (fun (a : Option Addr) (cap : Nat) (W : World) (h : BytesA W a X) (h2 : LaidC W) => by have := crc40_any a cap X W h (by omega) h2; rw [lx, hlin] at this; exact this)
  have C2 := Lib.hid (fun (W : World) (h : BytesA W aa la) (h2 : LaidC W) => by have := crc40_any aa ca la W h (by omega) h2; rw [hN] at this; exact this)
  have C3 := Lib.hid (fun (a : Option Addr) (cap : Nat) (W : World) (h : BytesA W a Y) (h2 : LaidC W) => by have := crc40_any a cap Y W h (by omega) h2; rw [ly] at this; exact this)
  have C4 := Lib.hid (fun (a : Option Addr) (cap : Nat) (W : World) (h : BytesA W a Z) (h2 : LaidC W) => by have := crc40_any a cap Z W h (by omega) h2; rw [lz] at this; exact this)
  have lp := crc_lt la; have lq := crc_lt Y; have lr := crc_lt Z
  obtain ⟨p, hp⟩ : ∃ m, crc la = m := ⟨_, rfl⟩
  obtain ⟨q, hq⟩ : ∃ m, crc Y = m := ⟨_, rfl⟩
  obtain ⟨r, hr⟩ : ∃ m, crc Z = m := ⟨_, rfl⟩
  simp only [hp, hq, hr] at C1 C2 C3 C4
  rw [hp] at lp; rw [hq] at lq; rw [hr] at lr
  have k1 : bits .xor .i64 (p : Int) (q : Int) = ((p ^^^ q : Nat) : Int) := i64_xor_nat p q (by omega) (by omega)
  have lpq : p ^^^ q < 1099511627776 := Nat.xor_lt_two_pow (n := 40) lp lq
  obtain ⟨s, hs⟩ : ∃ m, p ^^^ q = m := ⟨_, rfl⟩
  rw [hs] at k1 lpq; simp only [hs] at C1
  have k2 : bits .xor .i64 (s : Int) (r : Int) = ((s ^^^ r : Nat) : Int) := i64_xor_nat s r (by omega) (by omega)
  obtain ⟨t, ht⟩ : ∃ m, s ^^^ r = m := ⟨_, rfl⟩
  rw [ht] at k2; simp only [ht] at C1
  have d0 := D0.out
  have V1 := Lib.hid (fun (W : World) (B : Nat) (v : Value) (h : OwnB W B v Y) => by have := OwnB.view h lty; rw [ly] at this; exact this)
  have V2 := Lib.hid (fun (W : World) (B : Nat) (v : Value) (h : OwnB W B v Z) => by have := OwnB.view h ltz; rw [lz] at this; exact this)
  have V3 := Lib.hid (fun (W : World) (B : Nat) (v : Value) (h : OwnB W B v U) => by have := OwnB.view h lty2; rw [ly2] at this; exact this)
  have V4 := Lib.hid (fun (W : World) (B : Nat) (v : Value) (h : OwnB W B v X) => by have := OwnB.view h ltx; rw [lx] at this; exact this)
  rw [hN]
  clear ha hb hc hla h1 zl zn lty ltz lty2 ltx ly lz ly2 lx hlin hY hZ hU hX hp hq hr lp lq lr hs lpq ht D0 hN hca
  go_enter Tryd.func9, Tryd.ntmps9
  go_wp2_with fail
  refine (sane _ LA.out).mono ?_
  rintro e w1 ⟨rfl, hb1⟩
  have B1 := Lib.hid (show Below w.heap.size w (w1.alloc (.cells (bvs (zs N)) 5)) from hb1.alloc hb1.size _)
  clear hb1
  go_wp2_with fail
  refine (D1.out w1.heap.size _ (Blk.new _ _ _) (HB.out.mono B1.out)).mono ?_
  rintro e w2 ⟨v, rfl, ho, hb2⟩
  have K2 := Lib.hid ((Blk.new w1 5 (bvs (zs N))).below hb2 (by simp))
  have B2 := Lib.hid (bt B1.out hb2)
  obtain ⟨a1, c1, rfl, -, y1⟩ := V1.out _ _ _ ho
  have Y1 := Lib.hid y1
  clear ho hb2 y1 B1
  go_wp2_with fail
  refine (D2.out w1.heap.size _ K2.out (HC.out.mono B2.out)).mono ?_
  rintro e w3 ⟨v, rfl, ho, hb3⟩
  have Y3 := Lib.hid (Y1.out.mono hb3)
  have B3 := Lib.hid (bt B2.out hb3)
  obtain ⟨a2, c2, rfl, -, y2⟩ := V2.out _ _ _ ho
  have Z3 := Lib.hid y2
  clear ho hb3 y2 B2 K2 Y1
  go_wp2_with fail
  refine (D3.out _ _ _ (HA.out.mono B3.out) Y3.out).mono ?_
  rintro e w4 ⟨v, rfl, ho, hb4⟩
  have Y4 := Lib.hid (Y3.out.mono hb4); have Z4 := Lib.hid (Z3.out.mono hb4)
  have B4 := Lib.hid (bt B3.out hb4)
  obtain ⟨a3, c3, rfl, -, y3⟩ := V3.out _ _ _ ho
  have U4 := Lib.hid y3
  clear ho hb4 y3 B3 Y3 Z3
  go_wp2_with fail
  refine (D4.out _ _ _ _ _ U4.out Z4.out).mono ?_
  rintro e w5 ⟨v, rfl, ho, hb5⟩
  have Y5 := Lib.hid (Y4.out.mono hb5); have Z5 := Lib.hid (Z4.out.mono hb5)
  have B5 := Lib.hid (bt B4.out hb5)
  obtain ⟨a4, c4, rfl, -, y4⟩ := V4.out _ _ _ ho
  have X5 := Lib.hid y4
  clear ho hb5 y4 B4 Y4 Z4 U4
  go_wp2_with fail
  refine (C1.out _ _ _ X5.out (LA.out.mono B5.out)).mono ?_
  rintro e w6 ⟨rfl, hb6⟩
  have Y6 := Lib.hid (Y5.out.mono hb6); have Z6 := Lib.hid (Z5.out.mono hb6)
  have B6 := Lib.hid (bt B5.out hb6)
  clear hb6 B5 Y5 Z5
  go_wp2_with fail
  refine (C2.out _ (HA.out.mono B6.out) (LA.out.mono B6.out)).mono ?_
  rintro e w7 ⟨rfl, hb7⟩
  have Y7 := Lib.hid (Y6.out.mono hb7); have Z7 := Lib.hid (Z6.out.mono hb7)
  have B7 := Lib.hid (bt B6.out hb7)
  clear hb7 B6 Y6 Z6
  go_wp2_with fail
  refine (C3.out _ _ _ Y7.out (LA.out.mono B7.out)).mono ?_
  rintro e w8 ⟨rfl, hb8⟩
  have Z8 := Lib.hid (Z7.out.mono hb8)
  have B8 := Lib.hid (bt B7.out hb8)
  clear hb8 B7 Y7 Z7
  go_wp2_with fail
  refine (C4.out _ _ _ Z8.out (LA.out.mono B8.out)).mono ?_
  rintro e w9 ⟨rfl, hb9⟩
  have B9 := Lib.hid (bt B8.out hb9)
  clear hb9 B8 Z8
  go_wp2
  go_ret
  exact ⟨rfl, B9.out⟩
end Go.Proofs.YtjeipkoomefekaaDoor
