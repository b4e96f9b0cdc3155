/- The law HashOfSeparates, walked. -/
import Derived.Test.YtjeipkoomefekaaDoorMM
import Derived.Test.YtjeipkoomefekaaDoorLL
import Derived.Test.YtjeipkoomefekaaDoorX
import Derived.Deep.Cut
import Derived.Deep.CutRange
import Derived.Deep.CutBlock
namespace Go.Proofs.YtjeipkoomefekaaDoor
set_option linter.unusedVariables false
set_option linter.unusedSimpArgs false
open Go.RowKit
theorem eqItems_all (d : Nat) (xs ys : List Nat) (n : Nat) (W : World) (hx : xs.length = n) (hy : ys.length = n) : ∀ is : List Nat, (∀ i ∈ is, i < n) → (Op.eqItems (d + 1) 5 (Tryd.prog.cellsOf 5) (bvs xs) (bvs ys) is).run Tryd.prog W = .ok (is.all fun i => xs.getD i 0 == ys.getD i 0) W
  | [], _ => by simp [Op.eqItems]
  | i :: is, h => by
    have hi := h i (by simp)
    have ih := eqItems_all d xs ys n W hx hy is (fun j hj => h j (by simp [hj]))
    have e1 : Tryd.prog.cellsOf 5 = 1 := by kernel_rfl
    have hp : ∀ zs : List Nat, zs.length = n → (part 5 (bvs zs) (i * Tryd.prog.cellsOf 5)).run Tryd.prog W = .ok (bv (zs.getD i 0)) W := fun zs hz => by
      have ha := bvs_at zs i (by omega)
      rw [e1, Nat.mul_one]
      have h2 : (isAgg 5).run Tryd.prog W = .ok false W := by kernel_rfl
      simp [part, h2, ha]
    simp only [Op.eqItems, Sem.run_bind, hp xs hx, hp ys hy, Result.andThen_ok]
    have h3 : (Op.equalIn (d + 1) 5 (bv (xs.getD i 0)) (bv (ys.getD i 0))).run Tryd.prog W = .ok (xs.getD i 0 == ys.getD i 0) W := by
      have := run_equalIn_int (P := Tryd.prog) W d 5 .u8 .u8 ((xs.getD i 0 : Nat) : Int) ((ys.getD i 0 : Nat) : Int) Tryd.underlying5
      rw [this]
      by_cases h : xs.getD i 0 = ys.getD i 0
      · rw [h, beq_self_eq_true, beq_self_eq_true]
      · rw [beq_eq_false_iff_ne.2 h, beq_eq_false_iff_ne.2 (show ((xs.getD i 0 : Nat) : Int) ≠ ((ys.getD i 0 : Nat) : Int) from fun h' => h (by omega))]
    simp only [h3, Result.andThen_ok, List.all_cons]
    cases (xs.getD i 0 == ys.getD i 0)
    · simp
    · simpa using ih
theorem equalIn_16d (xs ys : List Nat) (hx : xs.length = 16) (hy : ys.length = 16) (W : World) : (Op.equalIn 10000 58 (.agg (bvs xs)) (.agg (bvs ys))).run Tryd.prog W = .ok (decide (xs = ys)) W := by
  obtain ⟨i, hi⟩ : ∃ i, Tryd.prog.info? 5 = some i := by
    obtain ⟨i0, hi, -⟩ := info_parts infoB
    exact ⟨_, hi⟩
  show (Op.equalIn (9999 + 1) 58 (.agg (bvs xs)) (.agg (bvs ys))).run Tryd.prog W = _
  rw [run_equalIn_array W 9999 (n := 16) (bvs xs) (bvs ys) Tryd.underlying58 hi, eqItems_all 9998 xs ys 16 W hx hy _ (fun i hi => by simpa using hi)]
  congr 1
  by_cases h : xs = ys
  · rw [h, decide_eq_true rfl]; simp
  · rw [decide_eq_false h, List.all_eq_false]
    apply Classical.byContradiction
    intro hn
    apply h
    apply List.ext_getElem (by omega)
    intro k h1 h2
    apply Classical.byContradiction
    intro hk
    apply hn
    refine ⟨k, by simp; omega, ?_⟩
    rw [getD_at 0 h1, getD_at 0 h2]
    simpa using hk
theorem inL_lt (t : Nat) (ss : List ByteArray) (ht : t < 256) : ∀ x ∈ inL t ss, x < 256 := fun x hx => by
  rcases List.mem_cons.1 hx with h | h
  · omega
  · obtain ⟨s, _, hx⟩ := List.mem_flatMap.1 h
    rcases List.mem_append.1 hx with h | h
    · exact enc_lt _ _ h
    · exact sb_lt s x h
theorem strB_ne {l m : List Nat} (hl : ∀ x ∈ l, x < 256) (hm : ∀ x ∈ m, x < 256) (h : l ≠ m) : strB l ≠ strB m := fun e => h (by rw [← sb_strB l hl, e, sb_strB m hm])
theorem str_ne {x y : ByteArray} (h : ¬ x = y) : ¬ x.toList = y.toList := fun e => h (ByteArray.ext (Array.toList_inj.1 (by rw [← ByteArray.toList_eq, ← ByteArray.toList_eq]; exact e)))
theorem take_iff (x y : List Nat) (k : Nat) (hx : k ≤ x.length) (hy : k ≤ y.length) : x.take k = y.take k ↔ ∀ j, j < k → x.getD j 0 = y.getD j 0 := by
  constructor
  · intro h j hj
    have := congrArg (fun l : List Nat => l.getD j 0) h
    simpa [List.getD_eq_getElem?_getD, List.getElem?_take, hj] using this
  · intro h
    apply List.ext_getElem (by simp; omega)
    intro j h1 h2
    have := h j (by simp at h1; omega)
    rw [getD_at 0 (by simp at h1; omega), getD_at 0 (by simp at h2; omega)] at this
    simpa using this
theorem strs_ext {x y : List ByteArray} (hl : x.length = y.length) (h : ∀ j, j < x.length → x.getD j ByteArray.empty = y.getD j ByteArray.empty) : x = y := by
  apply List.ext_getElem hl
  intro j h1 h2
  have := h j h1
  rwa [getD_at _ h1, getD_at _ h2] at this
set_option maxRecDepth 100000 in
set_option maxHeartbeats 1000000 in
theorem ofSeparates (t0 t1 : Nat) (aa ab : Option Addr) (ca cb : Nat) (sa sc : List ByteArray) (w : World) (h0 : t0 < 256) (h1 : t1 < 256)
    (hpa : StrsA w aa sa) (hpb : StrsA w ab sc) (hca : sa.length ≤ ca) (hcb : sc.length ≤ cb) (hma : ca ≤ 9223372036854775807) (hmb : cb ≤ 9223372036854775807)
    (hza : ∀ s ∈ sa, s.size ≤ 9223372036854775807) (hzb : ∀ s ∈ sc, s.size ≤ 9223372036854775807) (hla : LaidC w) :
    Calls Tryd.prog 14 #[.agg #[bv t0, bv t1], .slice aa sa.length ca, .slice ab sc.length cb] w fun e w' => e = .returned (.bool true) ∧ Below w.heap.size w w' := by
  have LA := Lib.hid hla
  have HPA := Lib.hid hpa; have HPB := Lib.hid hpb
  have FA := Lib.hid (fun (W : World) (h : StrsA W aa sa) => few_any aa ca sa W h (by omega) hza)
  have FB := Lib.hid (fun (W : World) (h : StrsA W ab sc) => few_any ab cb sc W h (by omega) hzb)
  by_cases hA : ¬ Few sa
  · obtain ⟨na, hna⟩ : ∃ n, sa.length = n := ⟨_, rfl⟩
    obtain ⟨nb, hnb⟩ : ∃ n, sc.length = n := ⟨_, rfl⟩
    rw [hna] at FA; rw [hnb] at FB; rw [hna, hnb]
    clear hpa hpb hla hna hnb hza hzb hca hcb hma hmb h0 h1
    go_enter Tryd.func14, Tryd.ntmps14
    go_wp2_with fail
    refine (sane _ (LA.out.mono (by (repeat' (first | (with_reducible exact Below.refl _ _) | (with_reducible assumption) | (with_reducible refine Below.alloc ?_ ?_ _) | (with_reducible refine Below.drew ?_) | (with_reducible refine below_dn ?_) | (with_reducible refine Below.setCell ?_ ?_ _) | (with_reducible exact Nat.le_refl _) | omega | (simp only [World.size_alloc, World.size_setCell, World.size_drew]; omega) | (simp; omega) | (simp; done)))))).mono ?_
    rintro e w1 ⟨rfl, hb1⟩
    have B1 := Lib.hid (show Below w.heap.size w w1 from bt (by (repeat' (first | (with_reducible exact Below.refl _ _) | (with_reducible assumption) | (with_reducible refine Below.alloc ?_ ?_ _) | (with_reducible refine Below.drew ?_) | (with_reducible refine below_dn ?_) | (with_reducible refine Below.setCell ?_ ?_ _) | (with_reducible exact Nat.le_refl _) | omega | (simp only [World.size_alloc, World.size_setCell, World.size_drew]; omega) | (simp; omega) | (simp; done)))) hb1)
    clear hb1
    go_wp2_with fail
    refine (FA.out _ (HPA.out.mono B1.out)).mono ?_
    rintro e w2 ⟨⟨f, rfl, hf⟩, rfl⟩
    obtain rfl : f = false := by cases f; rfl; exact absurd (hf.1 rfl) hA
    clear hf
    go_wp2
    go_ret
    exact ⟨rfl, B1.out⟩
  have fA : Few sa := Classical.byContradiction hA
  clear hA
  by_cases hB : ¬ Few sc
  · obtain ⟨na, hna⟩ : ∃ n, sa.length = n := ⟨_, rfl⟩
    obtain ⟨nb, hnb⟩ : ∃ n, sc.length = n := ⟨_, rfl⟩
    rw [hna] at FA; rw [hnb] at FB; rw [hna, hnb]
    clear hpa hpb hla hna hnb hza hzb hca hcb hma hmb h0 h1
    go_enter Tryd.func14, Tryd.ntmps14
    go_wp2_with fail
    refine (sane _ (LA.out.mono (by (repeat' (first | (with_reducible exact Below.refl _ _) | (with_reducible assumption) | (with_reducible refine Below.alloc ?_ ?_ _) | (with_reducible refine Below.drew ?_) | (with_reducible refine below_dn ?_) | (with_reducible refine Below.setCell ?_ ?_ _) | (with_reducible exact Nat.le_refl _) | omega | (simp only [World.size_alloc, World.size_setCell, World.size_drew]; omega) | (simp; omega) | (simp; done)))))).mono ?_
    rintro e w1 ⟨rfl, hb1⟩
    have B1 := Lib.hid (show Below w.heap.size w w1 from bt (by (repeat' (first | (with_reducible exact Below.refl _ _) | (with_reducible assumption) | (with_reducible refine Below.alloc ?_ ?_ _) | (with_reducible refine Below.drew ?_) | (with_reducible refine below_dn ?_) | (with_reducible refine Below.setCell ?_ ?_ _) | (with_reducible exact Nat.le_refl _) | omega | (simp only [World.size_alloc, World.size_setCell, World.size_drew]; omega) | (simp; omega) | (simp; done)))) hb1)
    clear hb1
    go_wp2_with fail
    refine (FA.out _ (HPA.out.mono B1.out)).mono ?_
    rintro e w2 ⟨⟨f, rfl, hf⟩, rfl⟩
    obtain rfl : f = true := hf.2 fA
    clear hf
    go_wp2_with fail
    refine (FB.out _ (HPB.out.mono B1.out)).mono ?_
    rintro e w2 ⟨⟨f, rfl, hf⟩, rfl⟩
    obtain rfl : f = false := by cases f; rfl; exact absurd (hf.1 rfl) hB
    clear hf
    go_wp2
    go_ret
    exact ⟨rfl, B1.out⟩
  have fB : Few sc := Classical.byContradiction hB
  clear hB
  have FA2 := Lib.hid fA; have FB2 := Lib.hid fB
  have X1 := Lib.hid (fun (W : World) (h : StrsA W aa sa) => input_any (t0 : Int) t0 aa ca sa W (by omega) h fA)
  have X2 := Lib.hid (fun (W : World) (h : StrsA W ab sc) => input_any (t1 : Int) t1 ab cb sc W (by omega) h fB)
  have O1 := Lib.hid (fun (W : World) (h : StrsA W aa sa) (h2 : LaidC W) => of_any (t0 : Int) t0 aa ca sa W (by omega) h fA h2)
  have O2 := Lib.hid (fun (W : World) (h : StrsA W ab sc) (h2 : LaidC W) => of_any (t1 : Int) t1 ab cb sc W (by omega) h fB h2)
  have XL := Lib.hid (inL_lt t0 sa h0); have YL := Lib.hid (inL_lt t1 sc h1)
  have XB := Lib.hid (show (inL t0 sa).length < 1152921504606846976 by have := inL_len t0 sa fA.2; have := fA.1; omega)
  have YB := Lib.hid (show (inL t1 sc).length < 1152921504606846976 by have := inL_len t1 sc fB.2; have := fB.1; omega)
  obtain ⟨X, hX⟩ : ∃ x, inL t0 sa = x := ⟨_, rfl⟩
  obtain ⟨Y, hY⟩ : ∃ x, inL t1 sc = x := ⟨_, rfl⟩
  have XY := Lib.hid (show X = Y ↔ (t0 = t1 ∧ sa.length = sc.length ∧ ∀ j, j < sa.length → sa.getD j ByteArray.empty = sc.getD j ByteArray.empty) by
    rw [← hX, ← hY]
    constructor
    · intro h
      obtain ⟨e1, e2⟩ := inL_inj fA.2 fB.2 h
      exact ⟨e1, by rw [e2], fun j _ => by rw [e2]⟩
    · rintro ⟨e1, e2, e3⟩
      rw [e1, strs_ext e2 e3])
  simp only [hX] at X1 O1; simp only [hY] at X2 O2
  rw [hX] at XL XB; rw [hY] at YL YB
  obtain ⟨na, hna⟩ : ∃ n, sa.length = n := ⟨_, rfl⟩
  obtain ⟨nb, hnb⟩ : ∃ n, sc.length = n := ⟨_, rfl⟩
  have NA := Lib.hid hna; have NB := Lib.hid hnb
  have na12 : na ≤ 12 := by have := fA.1; omega
  have nb12 : nb ≤ 12 := by have := fB.1; omega
  simp only [hna] at FA X1 O1 XY; simp only [hnb] at FB X2 O2 XY
  rw [hna, hnb]
  rw [hna] at hca; rw [hnb] at hcb
  clear hpa hpb hla hna hnb hza hzb fA fB hX hY
  go_enter Tryd.func14, Tryd.ntmps14
  go_wp2_with fail
  refine (sane _ (LA.out.mono (by (repeat' (first | (with_reducible exact Below.refl _ _) | (with_reducible assumption) | (with_reducible refine Below.alloc ?_ ?_ _) | (with_reducible refine Below.drew ?_) | (with_reducible refine below_dn ?_) | (with_reducible refine Below.setCell ?_ ?_ _) | (with_reducible exact Nat.le_refl _) | omega | (simp only [World.size_alloc, World.size_setCell, World.size_drew]; omega) | (simp; omega) | (simp; done)))))).mono ?_
  rintro e w1 ⟨rfl, hb1⟩
  have K1 := Lib.hid (show Blk w1 w.heap.size 62 #[bv t0, bv t1] from (Blk.new' w 62 _ #[bv t0, bv t1] rfl rfl).below hb1 (by simp))
  have B1 := Lib.hid (show Below w.heap.size w w1 from bt (by (repeat' (first | (with_reducible exact Below.refl _ _) | (with_reducible assumption) | (with_reducible refine Below.alloc ?_ ?_ _) | (with_reducible refine Below.drew ?_) | (with_reducible refine below_dn ?_) | (with_reducible refine Below.setCell ?_ ?_ _) | (with_reducible exact Nat.le_refl _) | omega | (simp only [World.size_alloc, World.size_setCell, World.size_drew]; omega) | (simp; omega) | (simp; done)))) hb1)
  clear hb1
  go_wp2_with fail
  refine (FA.out _ (HPA.out.mono B1.out)).mono ?_
  rintro e w2 ⟨⟨f, rfl, hf⟩, rfl⟩
  obtain rfl : f = true := hf.2 FA2.out
  clear hf FA
  go_wp2_with fail
  refine (FB.out _ (HPB.out.mono B1.out)).mono ?_
  rintro e w2 ⟨⟨f, rfl, hf⟩, rfl⟩
  obtain rfl : f = true := hf.2 FB2.out
  clear hf FB
  have c0 : w1.cell? ⟨w.heap.size, 0, none⟩ = some (bv t0) := K1.out.cell 0
  have c1 : w1.cell? ⟨w.heap.size, 1, none⟩ = some (bv t1) := K1.out.cell 1
  go_upto_region 4 with (fail)
  go_cut [8] from 28 (fun u8 wx => ∃ s : Bool, u8 = .bool s ∧ (s = true ↔ t0 = t1 ∧ na = nb) ∧ wx = w1)
  case first =>
    by_cases ht : t0 = t1
    · have q1 : ((t0 : Int) == (t1 : Int)) = true := beq_iff_eq.2 (by omega)
      by_cases hn : na = nb
      · have q2 : ((na : Int) == (nb : Int)) = true := beq_iff_eq.2 (by omega)
        go_wp2
        go_meet
        case rel => exact ⟨true, rfl, by simp [ht, hn], rfl⟩
      · have q2 : ((na : Int) == (nb : Int)) = false := beq_eq_false_iff_ne.2 (by omega)
        go_wp2
        go_meet
        case rel => exact ⟨false, rfl, by simp [hn], rfl⟩
    · have q1 : ((t0 : Int) == (t1 : Int)) = false := beq_eq_false_iff_ne.2 (by omega)
      go_wp2
      go_meet
      case rel => exact ⟨false, rfl, by simp [ht], rfl⟩
  case rest =>
    obtain ⟨s, rfl, hs, rfl⟩ := hcut
    have HS := Lib.hid hs
    clear hs
    go_upto_block 0 with (fail)
    go_cut [8, 9] from 40 (fun u8 _ wx => ∃ s : Bool, u8 = .bool s ∧ (s = true ↔ X = Y) ∧ Hid (Blk wx w.heap.size 62 #[bv t0, bv t1]) ∧ Hid (Below w.heap.size w wx))
    case first =>
      go_wp2_with fail
      go_loopw [9, 8] (fun u9 u8 wr => ∃ (i : Nat) (s : Bool), u9 = .int .i64 i ∧ u8 = .bool s ∧ i ≤ na ∧ Hid (s = true ↔ t0 = t1 ∧ na = nb ∧ ∀ j, j < i → sa.getD j ByteArray.empty = sc.getD j ByteArray.empty) ∧ Hid (Blk wr w.heap.size 62 #[bv t0, bv t1]) ∧ Hid (Below w.heap.size w wr)) (fun u9 _ _ => na - (intOf u9).toNat)
      case atStart => exact ⟨0, s, rfl, rfl, by omega, Lib.hid (by rw [HS.out]; exact ⟨fun ⟨a, b⟩ => ⟨a, b, fun j hj => absurd hj (by omega)⟩, fun ⟨a, b, _⟩ => ⟨a, b⟩⟩), K1, B1⟩
      case round =>
        clear HS K1 B1 c0 c1
        obtain ⟨i, s, rfl, rfl, hi, hs, K1, B1⟩ := hrel
        by_cases hlt : i < na
        · cases s
          · go_wp2
            go_meet
            case rel =>
              refine ⟨false, rfl, ?_, K1, B1⟩
              have h := hs.out
              rw [XY.out]
              exact ⟨(fun h => by cases h), fun ⟨a, b, c⟩ => h.2 ⟨a, b, fun j hj => c j (by omega)⟩⟩
          · obtain ⟨e1, e2, e3⟩ := hs.out.1 rfl
            have E1 := Lib.hid e1; have E2 := Lib.hid e2; have E3 := Lib.hid e3
            have i2 : (i : Int) < (nb : Int) := by omega
            obtain ⟨b1, f1, rfl, q1⟩ := HPA.out.mono B1.out i (by rw [NA.out]; exact hlt)
            obtain ⟨b2, f2, rfl, q2⟩ := HPB.out.mono B1.out i (by rw [NB.out]; omega)
            by_cases hxy : sa.getD i ByteArray.empty = sc.getD i ByteArray.empty
            · have HXY := Lib.hid hxy
              rw [hxy] at q1
              obtain ⟨x, hx⟩ : ∃ x, sc.getD i ByteArray.empty = x := ⟨_, rfl⟩
              rw [hx] at q1 q2
              clear hx hxy e1 e2 e3 hs
              go_wp2
              go_quiet (fail)
              go_wp2
              go_roundw
              case rel =>
                refine ⟨i + 1, true, by go_num, rfl, by omega, Lib.hid ⟨fun _ => ⟨E1.out, E2.out, fun j hj => ?_⟩, fun _ => rfl⟩, Lib.hid (K1.out.drewN _), Lib.hid (below_dn B1.out)⟩
                rcases Nat.lt_or_ge j i with h | h
                · exact E3.out j h
                · rw [show j = i by omega]; exact HXY.out
              case measure => simp [intOf]; omega
            · have HXY := Lib.hid hxy
              obtain ⟨x, hx⟩ : ∃ x, sa.getD i ByteArray.empty = x := ⟨_, rfl⟩
              obtain ⟨y, hy⟩ : ∃ x, sc.getD i ByteArray.empty = x := ⟨_, rfl⟩
              rw [hx] at q1 hxy; rw [hy] at q2 hxy
              have ne3 : ¬ x.toList = y.toList := str_ne hxy
              have ne2 : (x.toList == y.toList) = false := beq_eq_false_iff_ne.2 ne3
              have ne1 : (x == y) = false := by rw [beq_toListBytes]; exact ne2
              clear hx hy e1 e2 e3 hs
              go_wp2
              go_quiet (fail)
              go_wp2
              go_roundw
              case rel => exact ⟨i + 1, false, by go_num, rfl, by omega, Lib.hid ⟨(fun h => by cases h), fun ⟨_, _, h⟩ => absurd (h i (by omega)) HXY.out⟩, Lib.hid (K1.out.drewN _), Lib.hid (below_dn B1.out)⟩
              case measure => simp [intOf]; omega
        · go_wp2
          go_meet
          case rel =>
            refine ⟨s, rfl, ?_, K1, B1⟩
            have h := hs.out
            rw [XY.out, h, show i = na by omega]
    case rest =>
      clear HS K1 B1 c0 c1
      obtain ⟨s, rfl, hs, K1, B1⟩ := hcut
      have HS := Lib.hid hs
      have c0 : wc.cell? ⟨w.heap.size, 0, none⟩ = some (bv t0) := K1.out.cell 0
      have wt0 : IntKind.i64.wrap (t0 : Int) = (t0 : Int) := by rw [IntKind.wrap_i64]; omega
      have wt1 : IntKind.i64.wrap (t1 : Int) = (t1 : Int) := by rw [IntKind.wrap_i64]; omega
      clear hs
      go_wp2_with fail
      refine (X1.out _ (HPA.out.mono B1.out)).mono ?_
      rintro e wA hg
      obtain ⟨ax, cx, rfl, hcx, yx, hbx⟩ := gives_view hg XL.out
      have YX := Lib.hid yx; have HCX := Lib.hid hcx
      have KA := Lib.hid (K1.out.below hbx K1.out.lt)
      have BA := Lib.hid (bt B1.out hbx)
      clear hg yx hcx hbx K1 B1 c0
      have c1 : wA.cell? ⟨w.heap.size, 1, none⟩ = some (bv t1) := KA.out.cell 1
      go_wp2_with fail
      refine (X2.out _ (HPB.out.mono BA.out)).mono ?_
      rintro e wB hg
      obtain ⟨ay, cy, rfl, hcy, yy, hby⟩ := gives_view hg YL.out
      have YY := Lib.hid yy; have HCY := Lib.hid hcy
      have YX := Lib.hid (YX.out.mono hby)
      have KB := Lib.hid (KA.out.below hby KA.out.lt)
      have BB := Lib.hid (bt BA.out hby)
      clear hg yy hcy hby KA BA c1
      by_cases hXY : X = Y
      · obtain rfl : s = true := HS.out.2 hXY
        have S1 := conv_str X ax cx wB YX.out
        have S2 := conv_str Y ay cy wB YY.out
        rw [← hXY] at S2 ⊢
        obtain ⟨T, hT⟩ : ∃ T, strB X = T := ⟨_, rfl⟩
        rw [hT] at S1 S2
        clear hT hXY HS
        go_wp2
        go_ret
        exact ⟨rfl, BB.out⟩
      · obtain rfl : s = false := by cases s; rfl; exact absurd (HS.out.1 rfl) hXY
        have SXL := sha_len X; have SYL := sha_len Y
        have T1 : ((sha X).take 16).length = 16 := by rw [List.length_take, SXL]; rfl
        have T2 : ((sha Y).take 16).length = 16 := by rw [List.length_take, SYL]; rfl
        have EQ := equalIn_16d _ _ T1 T2
        have QI := take_iff (sha X) (sha Y) 16 (by omega) (by omega)
        have HX := Lib.hid (fun (W : World) (h : BytesA W ax X) (h2 : LaidC W) => hashsum_any X ax cx W XB.out h XL.out HCX.out h2)
        have HY := Lib.hid (fun (W : World) (h : BytesA W ay Y) (h2 : LaidC W) => hashsum_any Y ay cy W YB.out h YL.out HCY.out h2)
        have A1 := Lib.hid (show (Tryd.prog.info? 58).map (·.size) = some (bvs ((sha X).take 16)).size by rw [bvs_size, T1]; kernel_rfl)
        have A2 := Lib.hid (show (Tryd.prog.info? 58).map (·.size) = some (bvs ((sha Y).take 16)).size by rw [bvs_size, T2]; kernel_rfl)
        have A3 := Lib.hid (show (Tryd.prog.info? 47).map (·.size) = some (bvs (sha X)).size by rw [bvs_size, SXL]; kernel_rfl)
        have A4 := Lib.hid (show (Tryd.prog.info? 47).map (·.size) = some (bvs (sha Y)).size by rw [bvs_size, SYL]; kernel_rfl)
        have Z1 := Lib.hid (show (bvs (List.replicate 16 0)).size = (bvs ((sha X).take 16)).size by rw [bvs_size, bvs_size, T1]; rfl)
        have Z2 := Lib.hid (show (bvs (List.replicate 16 0)).size = (bvs ((sha Y).take 16)).size by rw [bvs_size, bvs_size, T2]; rfl)
        have Z3 := Lib.hid (show (bvs (List.replicate 32 0)).size = (bvs (sha X)).size by rw [bvs_size, bvs_size, SXL]; rfl)
        have Z4 := Lib.hid (show (bvs (List.replicate 32 0)).size = (bvs (sha Y)).size by rw [bvs_size, bvs_size, SYL]; rfl)
        have N1 := Lib.hid (bvs_one ((sha X).take 16)); have N2 := Lib.hid (bvs_one ((sha Y).take 16))
        obtain ⟨q, hq⟩ : ∃ q, decide ((sha X).take 16 = (sha Y).take 16) = q := ⟨_, rfl⟩
        have QQ : q = true ↔ ∀ j, j < 16 → (sha X).getD j 0 = (sha Y).getD j 0 := by rw [← QI, ← hq]; exact decide_eq_true_iff
        have QQ := Lib.hid QQ
        simp only [hq] at EQ
        obtain ⟨DX, hDX⟩ : ∃ x, bvs ((sha X).take 16) = x := ⟨_, rfl⟩
        obtain ⟨DY, hDY⟩ : ∃ x, bvs ((sha Y).take 16) = x := ⟨_, rfl⟩
        simp only [hDX] at O1 EQ; simp only [hDY] at O2 EQ
        rw [hDX] at A1 Z1 N1; rw [hDY] at A2 Z2 N2
        obtain ⟨SX, hSX⟩ : ∃ x, sha X = x := ⟨_, rfl⟩
        obtain ⟨SY, hSY⟩ : ∃ x, sha Y = x := ⟨_, rfl⟩
        simp only [hSX] at HX QQ; simp only [hSY] at HY QQ
        rw [hSX] at A3 Z3 SXL; rw [hSY] at A4 Z4 SYL
        have LX := Lib.hid SXL; have LY := Lib.hid SYL
        have NE := strB_ne XL.out YL.out hXY
        obtain ⟨TX, hTX⟩ : ∃ x, strB X = x := ⟨_, rfl⟩
        obtain ⟨TY, hTY⟩ : ∃ x, strB Y = x := ⟨_, rfl⟩
        rw [hTX, hTY] at NE
        have SC1 := Lib.hid (fun (W : World) (h : BytesA W ax X) => by have := conv_str X ax cx W h; rw [hTX] at this; exact this)
        have SC2 := Lib.hid (fun (W : World) (h : BytesA W ay Y) => by have := conv_str Y ay cy W h; rw [hTY] at this; exact this)
        have NEH := Lib.hid NE
        clear T1 T2 QI hq hDX hDY hSX hSY SXL SYL hTX hTY NE HS XY XL YL hXY X1 X2 HCX HCY
        have c0 : wB.cell? ⟨w.heap.size, 0, none⟩ = some (bv t0) := KB.out.cell 0
        go_wp2_with fail
        refine (O1.out _ (HPA.out.mono BB.out) (LA.out.mono BB.out)).mono ?_
        rintro e wC ⟨rfl, hb⟩
        have KC := Lib.hid (KB.out.below hb KB.out.lt); have BC := Lib.hid (bt BB.out hb)
        have YX := Lib.hid (YX.out.mono hb); have YY := Lib.hid (YY.out.mono hb)
        clear hb KB BB c0 O1
        go_upto_region 14 with (with_reducible refine wpList_store_blk rfl _ _ _ rfl wC.heap.size 58 (bvs (List.replicate 16 0)) DX rfl rfl (Blk.new' _ _ _ _ rfl rfl) A1.out Z1.out N1.out rfl ?_)
        generalize hW : World.setRow _ wC.heap.size DX = wD
        have P1 := Lib.hid (show Blk wD wC.heap.size 58 DX by rw [← hW]; exact (Blk.new' wC 58 _ (bvs (List.replicate 16 0)) rfl rfl).row_ _)
        have KD := Lib.hid (show Blk wD w.heap.size 62 #[bv t0, bv t1] by rw [← hW]; exact (KC.out.alloc _).rowfar (by have := KC.out.lt; omega) _)
        have BD := Lib.hid (show Below w.heap.size w wD by rw [← hW]; exact below_setRow (BC.out.alloc BC.out.size _) BC.out.size _)
        have bd : Below wC.heap.size wC wD := by rw [← hW]; exact below_setRow ((Below.refl _ _).alloc (Nat.le_refl _) _) (Nat.le_refl _) _
        have YX := Lib.hid (YX.out.mono bd); have YY := Lib.hid (YY.out.mono bd)
        obtain ⟨G1, hG1⟩ : ∃ G, wC.heap.size = G := ⟨_, rfl⟩
        rw [hG1] at P1 ⊢
        clear hW hG1 KC BC bd
        have c1 : wD.cell? ⟨w.heap.size, 1, none⟩ = some (bv t1) := KD.out.cell 1
        go_wp2_with fail
        refine (O2.out _ (HPB.out.mono BD.out) (LA.out.mono BD.out)).mono ?_
        rintro e wE ⟨rfl, hb⟩
        have P1 := Lib.hid (P1.out.below hb P1.out.lt); have BE := Lib.hid (bt BD.out hb)
        have YX := Lib.hid (YX.out.mono hb); have YY := Lib.hid (YY.out.mono hb)
        clear hb KD BD c1 O2
        go_upto_region 15 with (with_reducible refine wpList_store_blk rfl _ _ _ rfl wE.heap.size 58 (bvs (List.replicate 16 0)) DY rfl rfl (Blk.new' _ _ _ _ rfl rfl) A2.out Z2.out N2.out rfl ?_)
        generalize hW : World.setRow _ wE.heap.size DY = wF
        have P2 := Lib.hid (show Blk wF wE.heap.size 58 DY by rw [← hW]; exact (Blk.new' wE 58 _ (bvs (List.replicate 16 0)) rfl rfl).row_ _)
        have P1 := Lib.hid (show Blk wF G1 58 DX by rw [← hW]; exact (P1.out.alloc _).rowfar (by have := P1.out.lt; omega) _)
        have BF := Lib.hid (show Below w.heap.size w wF by rw [← hW]; exact below_setRow (BE.out.alloc BE.out.size _) BE.out.size _)
        have bd : Below wE.heap.size wE wF := by rw [← hW]; exact below_setRow ((Below.refl _ _).alloc (Nat.le_refl _) _) (Nat.le_refl _) _
        have YX := Lib.hid (YX.out.mono bd); have YY := Lib.hid (YY.out.mono bd)
        obtain ⟨G2, hG2⟩ : ∃ G, wE.heap.size = G := ⟨_, rfl⟩
        rw [hG2] at P2 ⊢
        clear hW hG2 BE bd
        go_wp2_with fail
        refine (HX.out _ YX.out (LA.out.mono BF.out)).mono ?_
        rintro e wG ⟨rfl, hb⟩
        have P1 := Lib.hid (P1.out.below hb P1.out.lt); have P2 := Lib.hid (P2.out.below hb P2.out.lt); have BG := Lib.hid (bt BF.out hb)
        have YX := Lib.hid (YX.out.mono hb); have YY := Lib.hid (YY.out.mono hb)
        clear hb BF HX
        go_upto_region 16 with (with_reducible refine wpList_store_blk rfl _ _ _ rfl wG.heap.size 47 (bvs (List.replicate 32 0)) (bvs SX) rfl rfl (Blk.new' _ _ _ _ rfl rfl) A3.out Z3.out (bvs_one _) rfl ?_)
        generalize hW : World.setRow _ wG.heap.size (bvs SX) = wH
        have P3 := Lib.hid (show Blk wH wG.heap.size 47 (bvs SX) by rw [← hW]; exact (Blk.new' wG 47 _ (bvs (List.replicate 32 0)) rfl rfl).row_ _)
        have P1 := Lib.hid (show Blk wH G1 58 DX by rw [← hW]; exact (P1.out.alloc _).rowfar (by have := P1.out.lt; omega) _)
        have P2 := Lib.hid (show Blk wH G2 58 DY by rw [← hW]; exact (P2.out.alloc _).rowfar (by have := P2.out.lt; omega) _)
        have BH := Lib.hid (show Below w.heap.size w wH by rw [← hW]; exact below_setRow (BG.out.alloc BG.out.size _) BG.out.size _)
        have bd : Below wG.heap.size wG wH := by rw [← hW]; exact below_setRow ((Below.refl _ _).alloc (Nat.le_refl _) _) (Nat.le_refl _) _
        have YX := Lib.hid (YX.out.mono bd); have YY := Lib.hid (YY.out.mono bd)
        obtain ⟨G3, hG3⟩ : ∃ G, wG.heap.size = G := ⟨_, rfl⟩
        rw [hG3] at P3 ⊢
        clear hW hG3 BG bd
        go_wp2_with fail
        refine (HY.out _ YY.out (LA.out.mono BH.out)).mono ?_
        rintro e wI ⟨rfl, hb⟩
        have P1 := Lib.hid (P1.out.below hb P1.out.lt); have P2 := Lib.hid (P2.out.below hb P2.out.lt); have P3 := Lib.hid (P3.out.below hb P3.out.lt); have BI := Lib.hid (bt BH.out hb)
        have YX := Lib.hid (YX.out.mono hb); have YY := Lib.hid (YY.out.mono hb)
        clear hb BH HY
        go_upto_region 17 with (with_reducible refine wpList_store_blk rfl _ _ _ rfl wI.heap.size 47 (bvs (List.replicate 32 0)) (bvs SY) rfl rfl (Blk.new' _ _ _ _ rfl rfl) A4.out Z4.out (bvs_one _) rfl ?_)
        generalize hW : World.setRow _ wI.heap.size (bvs SY) = wJ
        have P4 := Lib.hid (show Blk wJ wI.heap.size 47 (bvs SY) by rw [← hW]; exact (Blk.new' wI 47 _ (bvs (List.replicate 32 0)) rfl rfl).row_ _)
        have P1 := Lib.hid (show Blk wJ G1 58 DX by rw [← hW]; exact (P1.out.alloc _).rowfar (by have := P1.out.lt; omega) _)
        have P2 := Lib.hid (show Blk wJ G2 58 DY by rw [← hW]; exact (P2.out.alloc _).rowfar (by have := P2.out.lt; omega) _)
        have P3 := Lib.hid (show Blk wJ G3 47 (bvs SX) by rw [← hW]; exact (P3.out.alloc _).rowfar (by have := P3.out.lt; omega) _)
        have BJ := Lib.hid (show Below w.heap.size w wJ by rw [← hW]; exact below_setRow (BI.out.alloc BI.out.size _) BI.out.size _)
        have bd : Below wI.heap.size wI wJ := by rw [← hW]; exact below_setRow ((Below.refl _ _).alloc (Nat.le_refl _) _) (Nat.le_refl _) _
        have YX := Lib.hid (YX.out.mono bd); have YY := Lib.hid (YY.out.mono bd)
        obtain ⟨G4, hG4⟩ : ∃ G, wI.heap.size = G := ⟨_, rfl⟩
        rw [hG4] at P4 ⊢
        clear hW hG4 BI bd
        go_wp2
        go_loopw [17, 16] (fun u17 u16 wr => ∃ (i : Nat) (c : Bool), u17 = .int .i64 i ∧ u16 = .bool c ∧ i ≤ 16 ∧ Hid (c = true ↔ ∀ j, j < i → SX.getD j 0 = SY.getD j 0) ∧ Hid (Blk wr G1 58 DX) ∧ Hid (Blk wr G2 58 DY) ∧ Hid (Blk wr G3 47 (bvs SX)) ∧ Hid (Blk wr G4 47 (bvs SY)) ∧ Hid (BytesA wr ax X) ∧ Hid (BytesA wr ay Y) ∧ Hid (Below w.heap.size w wr)) (fun u17 _ _ => 16 - (intOf u17).toNat)
        case atStart => exact ⟨0, true, rfl, rfl, by omega, Lib.hid ⟨fun _ j hj => absurd hj (by omega), fun _ => rfl⟩, P1, P2, P3, P4, YX, YY, BJ⟩
        case round =>
          clear P1 P2 P3 P4 YX YY BJ
          obtain ⟨i, c, rfl, rfl, hi, hc, P1, P2, P3, P4, YX, YY, BJ⟩ := hrel
          by_cases hlt : i < 16
          · cases c
            · go_wp2
              go_quiet (fail)
              go_wp2
              go_roundw
              case rel => exact ⟨i + 1, false, by go_num, rfl, by omega, Lib.hid ⟨(fun h => by cases h), fun h => hc.out.2 fun j hj => h j (by omega)⟩, Lib.hid (P1.out.drewN _), Lib.hid (P2.out.drewN _), Lib.hid (P3.out.drewN _), Lib.hid (P4.out.drewN _), Lib.hid (YX.out.mono (below_dn (Below.refl _ _))), Lib.hid (YY.out.mono (below_dn (Below.refl _ _))), Lib.hid (below_dn BJ.out)⟩
              case measure => simp [intOf]; omega
            · have d1 := (P3.out.cell i).trans (bvs_at SX i (by rw [LX.out]; omega))
              have d2 := (P4.out.cell i).trans (bvs_at SY i (by rw [LY.out]; omega))
              have i1 : (i : Int) < 32 := by omega
              have hx0 : ∃ x, SX.getD i 0 = x := ⟨_, rfl⟩
              have hy0 : ∃ x, SY.getD i 0 = x := ⟨_, rfl⟩
              obtain ⟨x, hx⟩ := hx0
              obtain ⟨y, hy⟩ := hy0
              rw [hx] at d1; rw [hy] at d2
              have HX0 := Lib.hid hx; have HY0 := Lib.hid hy
              by_cases hxy : x = y
              · have h1 : ((x : Int) == (y : Int)) = true := beq_iff_eq.2 (by omega)
                have h2 := Lib.hid hxy
                clear hx hy hxy
                go_wp2
                go_quiet (fail)
                go_wp2
                go_roundw
                case rel =>
                  refine ⟨i + 1, true, by go_num, rfl, by omega, Lib.hid ⟨fun _ j hj => ?_, fun _ => rfl⟩, Lib.hid (P1.out.drewN _), Lib.hid (P2.out.drewN _), Lib.hid (P3.out.drewN _), Lib.hid (P4.out.drewN _), Lib.hid (YX.out.mono (below_dn (Below.refl _ _))), Lib.hid (YY.out.mono (below_dn (Below.refl _ _))), Lib.hid (below_dn BJ.out)⟩
                  rcases Nat.lt_or_ge j i with h | h
                  · exact hc.out.1 (by trivial) j h
                  · rw [show j = i by omega, HX0.out, HY0.out]; exact h2.out
                case measure => simp [intOf]; omega
              · have h1 : ((x : Int) == (y : Int)) = false := beq_eq_false_iff_ne.2 (by omega)
                have h2 := Lib.hid hxy
                clear hx hy hxy
                go_wp2
                go_quiet (fail)
                go_wp2
                go_roundw
                case rel => exact ⟨i + 1, false, by go_num, rfl, by omega, Lib.hid ⟨(fun h => by cases h), fun h => absurd (by rw [← HX0.out, ← HY0.out]; exact h i (by omega)) h2.out⟩, Lib.hid (P1.out.drewN _), Lib.hid (P2.out.drewN _), Lib.hid (P3.out.drewN _), Lib.hid (P4.out.drewN _), Lib.hid (YX.out.mono (below_dn (Below.refl _ _))), Lib.hid (YY.out.mono (below_dn (Below.refl _ _))), Lib.hid (below_dn BJ.out)⟩
                case measure => simp [intOf]; omega
          · have i16 : i = 16 := by omega
            obtain rfl : q = c := by
              have h1 := QQ.out; have h2 := hc.out
              rw [i16, ← h1] at h2
              cases q <;> cases c <;> simp at h2 <;> rfl
            have S1 := SC1.out _ YX.out
            have S2 := SC2.out _ YY.out
            have ne3 : ¬ TX.toList = TY.toList := str_ne NEH.out
            have ne2 : (TX.toList == TY.toList) = false := beq_eq_false_iff_ne.2 ne3
            have ne1 : (TX == TY) = false := by rw [beq_toListBytes]; exact ne2
            have ne4 : (TX.toList != TY.toList) = true := bne_iff_ne.2 ne3
            have ne5 : (TX != TY) = true := by unfold bne; rw [ne1]; rfl
            clear i16
            go_wp2_with (first | (refine wpList_load_g (by rfl) _ _ rfl G1 rfl 58 DX _ _ P1.out Tryd.underlying58 A1.out ?_) | (refine wpList_load_g (by rfl) _ _ rfl G2 rfl 58 DY _ _ P2.out Tryd.underlying58 A2.out ?_))
            go_ret
            exact ⟨rfl, BJ.out⟩
end Go.Proofs.YtjeipkoomefekaaDoor
