/- Contracts of the functions of hash: Join, Begin, Sum, Add. -/
import Derived.Test.YtjeipkoomefekaaDoorJ
namespace Go.Proofs.YtjeipkoomefekaaDoor
set_option linter.unusedVariables false
set_option linter.unusedSimpArgs false
open Go.RowKit
/-- An integer's lowest 40 bits. -/
def low (a : Int) : Nat := (a % 1099511627776).toNat
theorem low_lt (a : Int) : low a < 1099511627776 := by unfold low; omega
theorem low_nat (a : Nat) : low (a : Int) = a % 1099511627776 := by unfold low; omega
theorem low_val (a : Int) : bits .and .u64 (IntKind.u64.wrap a) 1099511627775 = ((low a : Nat) : Int) := by
  have e : IntKind.u64.wrap a = a % 18446744073709551616 := by simp [IntKind.wrap, IntKind.bits, IntKind.signed]
  obtain ⟨k, hk⟩ : ∃ k : Nat, a % 18446744073709551616 = (k : Int) := ⟨(a % 18446744073709551616).toNat, by omega⟩
  rw [e, hk, and_mask k (by omega)]
  unfold low
  omega
theorem ofInt64 (a : Nat) (ha : a < 18446744073709551616) : (BitVec.ofInt 64 (a : Int)).toNat = a := by
  rw [BitVec.ofInt_natCast, BitVec.toNat_ofNat]; exact Nat.mod_eq_of_lt (by omega)
theorem i64_and_nat (a b : Nat) (ha : a < 9223372036854775808) (hb : b < 9223372036854775808) : bits .and .i64 (a : Int) (b : Int) = ((a &&& b : Nat) : Int) := by
  have hx : a &&& b < 2 ^ 63 := Nat.and_lt_two_pow _ (by omega)
  show IntKind.i64.wrap ((BitVec.ofInt 64 (a : Int) &&& BitVec.ofInt 64 (b : Int)).toNat : Int) = _
  rw [BitVec.toNat_and, ofInt64 a (by omega), ofInt64 b (by omega), IntKind.wrap_i64]
  omega
theorem i64_xor_nat (a b : Nat) (ha : a < 9223372036854775808) (hb : b < 9223372036854775808) : bits .xor .i64 (a : Int) (b : Int) = ((a ^^^ b : Nat) : Int) := by
  have hx : a ^^^ b < 2 ^ 63 := Nat.xor_lt_two_pow (by omega) (by omega)
  show IntKind.i64.wrap ((BitVec.ofInt 64 (a : Int) ^^^ BitVec.ofInt 64 (b : Int)).toNat : Int) = _
  rw [BitVec.toNat_xor, ofInt64 a (by omega), ofInt64 b (by omega), IntKind.wrap_i64]
  omega
theorem i64_low (a : Int) : bits .and .i64 a 1099511627775 = ((low a : Nat) : Int) := by
  show IntKind.i64.wrap ((BitVec.ofInt 64 a &&& BitVec.ofInt 64 ((1099511627775 : Nat) : Int)).toNat : Int) = _
  rw [BitVec.toNat_and, ofInt64 1099511627775 (by decide), BitVec.toNat_ofInt, show (1099511627775 : Nat) = 2 ^ 40 - 1 by decide, Nat.and_two_pow_sub_one_eq_mod, IntKind.wrap_i64]
  unfold low
  have e : (2 : Nat) ^ 40 = 1099511627776 := by decide
  have e2 : (2 : Nat) ^ 64 = 18446744073709551616 := by decide
  rw [e, e2]
  omega
theorem join_neg (a b n : Int) (w : World) (hn : n < 0) : Calls Tryd.prog 26 #[.int .i64 a, .int .i64 b, .int .i64 n] w fun e w' => e = .returned (.int .i64 0) ∧ w = w' := by
  go_enter Tryd.func26, Tryd.ntmps26
  go_wp2
  go_ret
  exact ⟨rfl, rfl⟩
set_option maxHeartbeats 1000000 in
theorem join_any (a b : Int) (n : Nat) (w : World) (hn : n ≤ 9223372036854775807) : Calls Tryd.prog 26 #[.int .i64 a, .int .i64 b, .int .i64 n] w fun e w' => e = .returned (.int .i64 ((join (low a) (low b) n : Nat) : Int)) ∧ w = w' := by
  have k1 := low_val a
  have k2 := low_val b
  have a40 := low_lt a
  have b40 := low_lt b
  have hj : join (low a) (low b) n = dblN (8 * n) (low a) ^^^ low b := by unfold join; rw [Nat.mod_eq_of_lt a40, Nat.mod_eq_of_lt b40]
  obtain ⟨A, hA⟩ : ∃ A, low a = A := ⟨_, rfl⟩
  obtain ⟨B, hB⟩ : ∃ B, low b = B := ⟨_, rfl⟩
  rw [hA] at k1 a40 hj ⊢; rw [hB] at k2 b40 hj ⊢
  have HJ := Lib.hid hj
  clear hA hB hj
  go_enter Tryd.func26, Tryd.ntmps26
  go_wp2
  go_loopw [2, 7, 8] (fun un ur uf wr => ∃ (m r f s : Nat), un = .int .i64 m ∧ ur = .int .u64 r ∧ uf = .int .u64 f ∧ m ≤ n ∧ r < 1099511627776 ∧ f < 1099511627776 ∧ Hid (f = dblN s 1) ∧ Hid (dblN (8 * n) A = dblN (s * m) r) ∧ w = wr) (fun un _ _ _ => (intOf un).toNat)
  case atStart => exact ⟨n, A, 256, 8, rfl, rfl, rfl, Nat.le_refl _, a40, by decide, Lib.hid (by decide +kernel), Lib.hid rfl, rfl⟩
  case round =>
    obtain ⟨m, r, f, s, rfl, rfl, rfl, hmn, hr, hf, hfs, hd, rfl⟩ := hrel
    by_cases h0 : m = 0
    · have hd0 := hd.out
      rw [h0, Nat.mul_zero] at hd0
      have hx : bits .xor .u64 (r : Int) (B : Int) = ((r ^^^ B : Nat) : Int) := u64_xor_nat r B (by omega) (by omega)
      have hlt2 : r ^^^ B < 1099511627776 := Nat.xor_lt_two_pow (n := 40) hr b40
      have hjj := HJ.out
      rw [hd0] at hjj
      have hjj2 : join A B n = r ^^^ B := hjj
      obtain ⟨X, hX⟩ : ∃ X, r ^^^ B = X := ⟨_, rfl⟩
      rw [hX] at hx hlt2 hjj2
      have HJ2 := Lib.hid hjj2
      clear hX hjj hjj2 hd0 hd hfs
      subst h0
      go_wp2
      go_ret
      exact ⟨by rw [HJ2.out]; rfl, rfl⟩
    · have hm0 : (0 : Int) < (m : Int) := by omega
      obtain ⟨M, hM⟩ : ∃ M, m / 2 = M := ⟨_, rfl⟩
      obtain ⟨Q, hQ⟩ : ∃ Q, m % 2 = Q := ⟨_, rfl⟩
      have eM : (m : Int) / 2 = (M : Int) := by omega
      have mb : m ≤ 9223372036854775807 := by omega
      have k3 : bits .and .i64 (m : Int) 1 = (Q : Int) := by
        have := i64_and_nat m 1 (by omega) (by decide)
        rw [nat_mask1, hQ] at this
        exact this
      have MM : M < m := by omega
      have cr := Lib.hid (fun W : World => multiply_any r f W hr hf)
      have cf := Lib.hid (fun W : World => multiply_any f f W hf hf)
      have rf : mul r f = dblN s r := by rw [hfs.out]; exact mul_shift r hr s
      have ff : mul f f = dblN (2 * s) 1 := by
        have e := mul_shift f hf s
        rw [← hfs.out] at e
        rw [e, hfs.out, ← dblN_add]
        congr 1; omega
      have rlt : dblN s r < 1099511627776 := dblN_lt _ _ hr
      have flt : dblN (2 * s) 1 < 1099511627776 := dblN_lt _ _ (by decide)
      rw [rf] at cr; rw [ff] at cf
      obtain ⟨F, hF⟩ : ∃ F, dblN (2 * s) 1 = F := ⟨_, rfl⟩
      rw [hF] at cf flt
      have HF := Lib.hid hF.symm
      by_cases hq : Q = 1
      · have t1 : ((Q : Int) == 1) = true := beq_iff_eq.2 (by omega)
        have hd2 : dblN (8 * n) A = dblN (2 * s * M) (dblN s r) := by
          rw [hd.out, ← dblN_add, show m = 2 * M + 1 by omega]
          congr 1
          rw [Nat.mul_add, Nat.mul_one, ← Nat.mul_assoc, Nat.mul_comm s 2]
        obtain ⟨R, hR⟩ : ∃ R, dblN s r = R := ⟨_, rfl⟩
        rw [hR] at cr rlt hd2
        have HD := Lib.hid hd2
        clear hM hQ hq hd hd2 hR hF rf ff hfs h0
        go_wp2_with fail
        refine (cr.out _).mono ?_
        rintro e w1 ⟨rfl, rfl⟩
        go_wp2_with fail
        refine (cf.out _).mono ?_
        rintro e w1 ⟨rfl, rfl⟩
        go_wp2
        go_roundw
        case rel => exact ⟨M, R, F, 2 * s, rfl, rfl, rfl, by omega, rlt, flt, HF, HD, trivial⟩
        case measure => simp [intOf]; omega
      · have t1 : ((Q : Int) == 1) = false := beq_eq_false_iff_ne.2 (by omega)
        have hd2 : dblN (8 * n) A = dblN (2 * s * M) r := by
          rw [hd.out, show m = 2 * M by omega]
          congr 1
          rw [← Nat.mul_assoc, Nat.mul_comm s 2]
        have HD := Lib.hid hd2
        clear hM hQ hq hd hd2 hF rf ff hfs h0 cr rlt
        go_wp2_with fail
        refine (cf.out _).mono ?_
        rintro e w1 ⟨rfl, rfl⟩
        go_wp2
        go_roundw
        case rel => exact ⟨M, r, F, 2 * s, rfl, rfl, rfl, by omega, hr, flt, HF, HD, trivial⟩
        case measure => simp [intOf]; omega
def z64 : List Nat := List.replicate 64 0
set_option maxRecDepth 100000 in
set_option maxHeartbeats 1000000 in
theorem begin_any (w : World) : Calls Tryd.prog 31 #[] w fun e w' => e = .returned (.agg (svA st0 z64 0)) ∧ Below w.heap.size w w' := by
  have ia : (Tryd.prog.info? 53).map (·.size) = some (svA st0 z64 0).size := by kernel_rfl
  have sz : (svA st00 z64 0).size = (svA st0 z64 0).size := rfl
  have IA := Lib.hid ia; have SZ := Lib.hid sz
  clear ia sz
  go_enter Tryd.func31, Tryd.ntmps31
  go_wp2_with (first | (refine wpList_store_blk rfl _ _ _ rfl w.heap.size 53 (svA st00 z64 0) (svA st0 z64 0) rfl rfl (Blk.new' _ _ _ _ rfl rfl) IA.out SZ.out (svA_one _ _ _) rfl ?_))
  refine bodyPost_ret (v := .agg (svA st0 z64 0)) (results_cell_row rfl _ _ _ 53 _ (0, 0) _ rfl ((Blk.new' w 53 _ (svA st00 z64 0) rfl rfl).row_ _) Tryd.underlying53 rfl IA.out) rfl ⟨rfl, below_setRow (by (repeat' (first | (with_reducible exact Below.refl _ _) | (with_reducible assumption) | (with_reducible refine Below.alloc ?_ ?_ _) | (with_reducible refine Below.drew ?_) | (with_reducible refine below_dn ?_) | (with_reducible refine Below.setCell ?_ ?_ _) | (with_reducible exact Nat.le_refl _) | omega | (simp only [World.size_alloc, World.size_setCell, World.size_drew]; omega) | (simp; omega) | (simp; done)))) (by omega) _⟩
theorem is_zero : Is st0 z64 [] := is_begin z64 rfl (fun x hx => by rw [List.eq_of_mem_replicate hx]; decide)
/-- What feed makes of a stream that has just begun. -/
def Fed0 (w : World) (l : List Nat) (e : Ending) (w' : World) : Prop := ∃ s r, Is s r l ∧ e = .returned (.agg (svA s r l.length)) ∧ Below w.heap.size w w'
theorem feed0_bytes (l : List Nat) (a : Option Addr) (cap : Nat) (w : World) (hN : l.length < 1152921504606846976) (hb : BytesA w a l) (hll : ∀ x ∈ l, x < 256) (hc : l.length ≤ cap) (hla : LaidC w) :
    Calls Tryd.prog 45 #[.agg (svA st0 z64 0), .slice a l.length cap] w (Fed0 w l) :=
  (feed_bytes st0 z64 [] l a cap w is_zero (by simpa using hN) hb hll hc hla).mono fun e w' ⟨s, r, h1, h2, h3⟩ => ⟨s, r, h1, by rw [h2]; simp, h3⟩
/-- What feed makes of a stream: what is in it, and the text. -/
def FedM (w : World) (m : List Nat) (e : Ending) (w' : World) : Prop := ∃ s r, Is s r m ∧ e = .returned (.agg (svA s r m.length)) ∧ Below w.heap.size w w'
theorem feedM_bytes (s : St) (r m l : List Nat) (a : Option Addr) (cap : Nat) (w : World) (h : Is s r m) (hN : m.length + l.length < 1152921504606846976) (hb : BytesA w a l) (hll : ∀ x ∈ l, x < 256) (hc : l.length ≤ cap) (hla : LaidC w) :
    Calls Tryd.prog 45 #[.agg (svA s r m.length), .slice a l.length cap] w (FedM w (m ++ l)) :=
  (feed_bytes s r m l a cap w h hN hb hll hc hla).mono fun e w' ⟨s, r, h1, h2, h3⟩ => ⟨s, r, h1, by rw [h2, List.length_append], h3⟩
theorem feedM_string (s : St) (r m l : List Nat) (t0 : ByteArray) (w : World) (h : Is s r m) (hN : m.length + l.length < 1152921504606846976) (hb : sb t0 = l) (hla : LaidC w) :
    Calls Tryd.prog 49 #[.agg (svA s r m.length), .string t0] w (FedM w (m ++ l)) :=
  (feed_string s r m l t0 w h hN hb hla).mono fun e w' ⟨s, r, h1, h2, h3⟩ => ⟨s, r, h1, by rw [h2, List.length_append], h3⟩
theorem sha_len (m : List Nat) : (sha m).length = 32 := rfl
set_option maxRecDepth 100000 in
set_option maxHeartbeats 1000000 in
theorem hashsum_any (l : List Nat) (a : Option Addr) (cap : Nat) (w : World) (hN : l.length < 1152921504606846976) (hb : BytesA w a l) (hll : ∀ x ∈ l, x < 256) (hc : l.length ≤ cap) (hla : LaidC w) :
    Calls Tryd.prog 29 #[.slice a l.length cap] w fun e w' => e = .returned (.agg (bvs (sha l))) ∧ Below w.heap.size w w' := by
  have C := Lib.hid (fun (W : World) (h1 : BytesA W a l) (h2 : LaidC W) => feed0_bytes l a cap W hN h1 hll hc h2)
  have D := Lib.hid (fun (s : St) (r : List Nat) (W : World) (h : Is s r l) (h2 : LaidC W) => sum_any s r l W h hN h2)
  have HB := Lib.hid hb; have LA := Lib.hid hla
  have ia : (Tryd.prog.info? 47).map (·.size) = some (bvs (sha l)).size := by rw [bvs_size, sha_len]; kernel_rfl
  have sz : (bvs (List.replicate 32 0)).size = (bvs (sha l)).size := by rw [bvs_size, bvs_size, sha_len]; rfl
  have IA := Lib.hid ia; have SZ := Lib.hid sz
  obtain ⟨S, hS⟩ : ∃ S, sha l = S := ⟨_, rfl⟩
  rw [hS] at D IA SZ ⊢
  clear hN hb hll hc hla ia sz hS
  go_enter Tryd.func29, Tryd.ntmps29
  go_wp2_with fail
  refine (begin_any _).mono ?_
  rintro e w1 ⟨rfl, hb1⟩
  have j0 : Blk w1 w.heap.size 47 (bvs (List.replicate 32 0)) := (Blk.new' w 47 _ (bvs (List.replicate 32 0)) rfl rfl).below hb1 (by simp)
  have B1 : Below w.heap.size w w1 := bt (by (repeat' (first | (with_reducible exact Below.refl _ _) | (with_reducible assumption) | (with_reducible refine Below.alloc ?_ ?_ _) | (with_reducible refine Below.drew ?_) | (with_reducible refine below_dn ?_) | (with_reducible refine Below.setCell ?_ ?_ _) | (with_reducible exact Nat.le_refl _) | omega | (simp only [World.size_alloc, World.size_setCell, World.size_drew]; omega) | (simp; omega) | (simp; done)))) hb1
  clear hb1
  go_wp2_with fail
  refine (C.out _ (HB.out.mono B1) (LA.out.mono B1)).mono ?_
  rintro e w2 ⟨s, r, hI, rfl, hb2⟩
  have j0 := j0.below hb2 j0.lt
  have B2 : Below w.heap.size w w2 := bt B1 hb2
  clear hb2 B1
  go_wp2_with fail
  refine (D.out s r _ hI (LA.out.mono B2)).mono ?_
  rintro e w3 ⟨rfl, hb3⟩
  have J0 := Lib.hid (j0.below hb3 j0.lt)
  have B3 := Lib.hid (bt B2 hb3)
  clear hb3 B2 j0 hI
  go_wp2_with (first | (with_reducible refine wpList_store_blk rfl _ _ _ rfl w.heap.size 47 _ _ rfl rfl J0.out IA.out SZ.out (bvs_one _) rfl ?_))
  refine bodyPost_ret (v := .agg (bvs S)) (results_cell_row rfl _ _ _ 47 _ (0, 0) _ rfl (J0.out.row_ _) Tryd.underlying47 rfl IA.out) rfl ⟨rfl, below_setRow B3.out (by omega) _⟩
set_option maxRecDepth 100000 in
set_option maxHeartbeats 1000000 in
theorem add_any (s : St) (r m l : List Nat) (t0 : ByteArray) (w : World) (h : Is s r m) (hN : m.length + l.length < 1152921504606846976) (hb : sb t0 = l) (hla : LaidC w) :
    Calls Tryd.prog 32 #[.agg (svA s r m.length), .string t0] w (FedM w (m ++ l)) := by
  have C := Lib.hid (fun (W : World) (h2 : LaidC W) => feedM_string s r m l t0 W h hN hb h2)
  have LA := Lib.hid hla
  have i0 : (Tryd.prog.info? 53).map (·.size) = some (svA s r m.length).size := by rw [svA_size _ _ _ h.len]; kernel_rfl
  have I0 := Lib.hid i0
  obtain ⟨N, hN'⟩ : ∃ N, m.length = N := ⟨_, rfl⟩
  rw [hN'] at C I0 ⊢
  clear h hN hb hla i0 hN'
  go_enter Tryd.func32, Tryd.ntmps32
  go_wp2_with (first | (with_reducible refine wpList_load_all rfl _ _ rfl w.heap.size rfl 53 _ _ ((Blk.new w _ _).alloc _) Tryd.underlying53 I0.out ?_) | fail)
  refine (C.out _ (LA.out.mono (by (repeat' (first | (with_reducible exact Below.refl _ _) | (with_reducible assumption) | (with_reducible refine Below.alloc ?_ ?_ _) | (with_reducible refine Below.drew ?_) | (with_reducible refine below_dn ?_) | (with_reducible refine Below.setCell ?_ ?_ _) | (with_reducible exact Nat.le_refl _) | omega | (simp only [World.size_alloc, World.size_setCell, World.size_drew]; omega) | (simp; omega) | (simp; done)))))).mono ?_
  rintro e w1 ⟨s1, r1, hI, rfl, hb1⟩
  have J0 := Lib.hid (show Blk w1 (w.heap.size + 1) 53 (svA st00 z64 0) from (Blk.new' _ _ _ _ (by simp) rfl).below hb1 (by simp))
  have B1 := Lib.hid (show Below w.heap.size w w1 from bt (by (repeat' (first | (with_reducible exact Below.refl _ _) | (with_reducible assumption) | (with_reducible refine Below.alloc ?_ ?_ _) | (with_reducible refine Below.drew ?_) | (with_reducible refine below_dn ?_) | (with_reducible refine Below.setCell ?_ ?_ _) | (with_reducible exact Nat.le_refl _) | omega | (simp only [World.size_alloc, World.size_setCell, World.size_drew]; omega) | (simp; omega) | (simp; done)))) hb1)
  have ia : (Tryd.prog.info? 53).map (·.size) = some (svA s1 r1 (m ++ l).length).size := by rw [svA_size _ _ _ hI.len]; kernel_rfl
  have sz : (svA st00 z64 0).size = (svA s1 r1 (m ++ l).length).size := by rw [svA_size _ _ _ hI.len]; rfl
  have IA := Lib.hid ia; have SZ := Lib.hid sz; have HI := Lib.hid hI
  obtain ⟨N1, hN1⟩ : ∃ N, (m ++ l).length = N := ⟨_, rfl⟩
  have HN1 := Lib.hid hN1
  rw [hN1] at IA SZ ⊢
  clear hb1 ia sz hI hN1
  go_wp2_with (first | (with_reducible refine wpList_store_blk rfl _ _ _ rfl (w.heap.size + 1) 53 _ _ rfl rfl J0.out IA.out SZ.out (svA_one _ _ _) rfl ?_))
  refine bodyPost_ret (v := .agg (svA s1 r1 N1)) (results_cell_row rfl _ _ _ 53 _ (0, 0) _ rfl (J0.out.row_ _) Tryd.underlying53 rfl IA.out) rfl ⟨s1, r1, HI.out, by rw [HN1.out], below_setRow B1.out (by omega) _⟩
end Go.Proofs.YtjeipkoomefekaaDoor
