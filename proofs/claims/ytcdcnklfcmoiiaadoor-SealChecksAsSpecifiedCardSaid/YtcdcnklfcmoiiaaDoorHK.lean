/- Ported from another seat (wip/hash/K.src, by wip/port.py): contracts that this chapter calls. -/
import Derived.Test.YtcdcnklfcmoiiaaDoorHI
namespace Go.Proofs.YtcdcnklfcmoiiaaDoor
set_option linter.unusedVariables false
set_option linter.unusedSimpArgs false
namespace Hs
open Go.RowKit
attribute [local go_sem] zeroSt
attribute [local simp] zeroSt_ne
set_option maxRecDepth 100000 in
theorem ofInt64 (a : Nat) (ha : a < 18446744073709551616) : (BitVec.ofInt 64 (a : Int)).toNat = a := by
  rw [BitVec.ofInt_natCast, BitVec.toNat_ofNat]; exact Nat.mod_eq_of_lt (by omega)
set_option maxRecDepth 100000 in
theorem i64_and_nat (a b : Nat) (ha : a < 9223372036854775808) (hb : b < 9223372036854775808) : bits .and .i64 (a : Int) (b : Int) = ((a &&& b : Nat) : Int) := by
  have hx : a &&& b < 2 ^ 63 := Nat.and_lt_two_pow _ (by omega)
  show IntKind.i64.wrap ((BitVec.ofInt 64 (a : Int) &&& BitVec.ofInt 64 (b : Int)).toNat : Int) = _
  rw [BitVec.toNat_and, ofInt64 a (by omega), ofInt64 b (by omega), IntKind.wrap_i64]
  omega
def z64 : List Nat := List.replicate 64 0
set_option maxRecDepth 100000 in
set_option maxHeartbeats 1000000 in
theorem begin_any (w : World) : Calls Tryd.prog 86 #[] w fun e w' => e = .returned (.agg (svA st0 z64 0)) ∧ Below w.heap.size w w' := by
  have ia : (Tryd.prog.info? 123).map (·.size) = some (svA st0 z64 0).size := by kernel_rfl
  have sz : (svA st00 z64 0).size = (svA st0 z64 0).size := rfl
  have IA := Lib.hid ia; have SZ := Lib.hid sz
  clear ia sz
  go_enter Tryd.func86, Tryd.ntmps86
  go_wp2_with (first | (refine wpList_store_blk rfl _ _ _ rfl w.heap.size 123 (svA st00 z64 0) (svA st0 z64 0) rfl rfl (Blk.new' _ _ _ _ rfl rfl) IA.out SZ.out (svA_one _ _ _) rfl ?_))
  refine bodyPost_ret (v := .agg (svA st0 z64 0)) (results_cell_row rfl _ _ _ 123 _ (0, 0) _ rfl ((Blk.new' w 123 _ (svA st00 z64 0) rfl rfl).row_ _) Tryd.underlying123 rfl IA.out) rfl ⟨rfl, below_setRow (by (repeat' (first | (with_reducible exact Below.refl _ _) | (with_reducible assumption) | (with_reducible refine Below.alloc ?_ ?_ _) | (with_reducible refine Below.drew ?_) | (with_reducible refine below_dn ?_) | (with_reducible refine Below.setCell ?_ ?_ _) | (with_reducible exact Nat.le_refl _) | omega | (simp only [World.size_alloc, World.size_setCell, World.size_drew]; omega) | (simp; omega) | (simp; done)))) (by omega) _⟩
set_option maxRecDepth 100000 in
theorem is_zero : Is st0 z64 [] := is_begin z64 rfl (fun x hx => by rw [List.eq_of_mem_replicate hx]; decide)
/-- What feed makes of a stream that has just begun. -/
def Fed0 (w : World) (l : List Nat) (e : Ending) (w' : World) : Prop := ∃ s r, Is s r l ∧ e = .returned (.agg (svA s r l.length)) ∧ Below w.heap.size w w'
set_option maxRecDepth 100000 in
theorem feed0_bytes (l : List Nat) (a : Option Addr) (cap : Nat) (w : World) (hN : l.length < 1152921504606846976) (hb : BytesA w a l) (hll : ∀ x ∈ l, x < 256) (hc : l.length ≤ cap) (hla : LaidC w) :
    Calls Tryd.prog 85 #[.agg (svA st0 z64 0), .slice a l.length cap] w (Fed0 w l) :=
  (feed_bytes st0 z64 [] l a cap w is_zero (by simpa using hN) hb hll hc hla).mono fun e w' ⟨s, r, h1, h2, h3⟩ => ⟨s, r, h1, by rw [h2]; simp, h3⟩
/-- What feed makes of a stream: what is in it, and the text. -/
def FedM (w : World) (m : List Nat) (e : Ending) (w' : World) : Prop := ∃ s r, Is s r m ∧ e = .returned (.agg (svA s r m.length)) ∧ Below w.heap.size w w'
set_option maxRecDepth 100000 in
theorem feedM_bytes (s : St) (r m l : List Nat) (a : Option Addr) (cap : Nat) (w : World) (h : Is s r m) (hN : m.length + l.length < 1152921504606846976) (hb : BytesA w a l) (hll : ∀ x ∈ l, x < 256) (hc : l.length ≤ cap) (hla : LaidC w) :
    Calls Tryd.prog 85 #[.agg (svA s r m.length), .slice a l.length cap] w (FedM w (m ++ l)) :=
  (feed_bytes s r m l a cap w h hN hb hll hc hla).mono fun e w' ⟨s, r, h1, h2, h3⟩ => ⟨s, r, h1, by rw [h2, List.length_append], h3⟩
set_option maxRecDepth 100000 in
theorem feedM_string (s : St) (r m l : List Nat) (t0 : ByteArray) (w : World) (h : Is s r m) (hN : m.length + l.length < 1152921504606846976) (hb : sb t0 = l) (hla : LaidC w) :
    Calls Tryd.prog 87 #[.agg (svA s r m.length), .string t0] w (FedM w (m ++ l)) :=
  (feed_string s r m l t0 w h hN hb hla).mono fun e w' ⟨s, r, h1, h2, h3⟩ => ⟨s, r, h1, by rw [h2, List.length_append], h3⟩
set_option maxRecDepth 100000 in
theorem sha_len (m : List Nat) : (sha m).length = 32 := rfl
end Hs
end Go.Proofs.YtcdcnklfcmoiiaaDoor
