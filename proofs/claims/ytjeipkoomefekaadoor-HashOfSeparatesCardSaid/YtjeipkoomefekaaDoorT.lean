/- Contracts of the functions of hash: Words; Of without parts. -/
import Derived.Test.YtjeipkoomefekaaDoorS
namespace Go.Proofs.YtjeipkoomefekaaDoor
set_option linter.unusedVariables false
set_option linter.unusedSimpArgs false
open Go.RowKit
def IntsA (W : World) (a : Option Addr) (l : List Int) : Prop := ∀ k, k < l.length → ∃ b off, a = some ⟨b, off, none⟩ ∧ W.cell? ⟨b, off + k, none⟩ = some (.int .i64 (l.getD k 0))
theorem IntsA.mono {W W' : World} {a : Option Addr} {l : List Int} (h : IntsA W a l) (hb : Below W.heap.size W W') : IntsA W' a l := by
  intro k hk
  obtain ⟨b, off, e, h1⟩ := h k hk
  exact ⟨b, off, e, keep h1 hb⟩
theorem Blk.bytes {W : World} {g : Nat} {t : TypeId} {l : List Nat} (h : Blk W g t (bvs l)) (hl : ∀ x ∈ l, x < 256) : BytesA W (some ⟨g, 0, none⟩) l := fun k hk =>
  ⟨g, 0, rfl, by rw [Nat.zero_add, h.cell k]; exact bvs_at l k hk, getD_lt (by decide) hl k⟩
theorem five_lt (n : Nat) : ∀ x ∈ five n, x < 256 := by
  intro x hx
  unfold five at hx
  simp at hx
  omega
def bytesL (l : List Int) : List Nat := l.flatMap fun n => five (low n)
theorem bytesL_take (l : List Int) (k : Nat) (h : k < l.length) : bytesL (l.take (k + 1)) = bytesL (l.take k) ++ five (low (l.getD k 0)) := by
  unfold bytesL
  rw [List.take_add_one, List.flatMap_append, List.getElem?_eq_getElem h, List.getD_eq_getElem?_getD, List.getElem?_eq_getElem h]
  simp
theorem bytesL_len (l : List Int) : (bytesL l).length = 5 * l.length := by
  induction l with
  | nil => rfl
  | cons n l ih =>
    have : bytesL (n :: l) = five (low n) ++ bytesL l := rfl
    rw [this, List.length_append, ih, List.length_cons, show (five (low n)).length = 5 from rfl]
    omega
theorem bytesL_lt (l : List Int) : ∀ x ∈ bytesL l, x < 256 := by
  intro x hx
  unfold bytesL at hx
  obtain ⟨n, _, hx⟩ := List.mem_flatMap.1 hx
  exact five_lt _ x hx
set_option maxRecDepth 100000 in
set_option maxHeartbeats 1000000 in
theorem words_any (a : Option Addr) (cap : Nat) (l : List Int) (w : World) (hp : IntsA w a l) (hm : l.length ≤ 9223372036854775807) (hla : LaidC w) :
    Calls Tryd.prog 23 #[.slice a l.length cap] w fun e w' => e = .returned (.int .i64 (crc (bytesL l))) ∧ Below w.heap.size w w' := by
  have HP := Lib.hid hp; have LA := Lib.hid hla
  obtain ⟨L, hL⟩ : ∃ L, l.length = L := ⟨_, rfl⟩
  have HLE := Lib.hid hL
  rw [hL] at hm ⊢
  clear hp hla hL
  go_enter Tryd.func23, Tryd.ntmps23
  go_wp2
  go_loopw [3, 8] (fun ur uk wr => ∃ k r : Nat, k ≤ L ∧ uk = .int .i64 k ∧ ur = .int .u64 r ∧ r < 1099511627776 ∧ Hid (run 1099511627775 (bytesL (l.take k)) = r) ∧ Below w.heap.size w wr) (fun _ uk _ => L - (intOf uk).toNat)
  case atStart => exact ⟨0, 1099511627775, by omega, rfl, rfl, by decide, Lib.hid rfl, by (repeat' (first | (with_reducible exact Below.refl _ _) | (with_reducible assumption) | (with_reducible refine Below.alloc ?_ ?_ _) | (with_reducible refine Below.drew ?_) | (with_reducible refine below_dn ?_) | (with_reducible refine Below.setCell ?_ ?_ _) | (with_reducible exact Nat.le_refl _) | omega | (simp only [World.size_alloc, World.size_setCell, World.size_drew]; omega) | (simp; omega) | (simp; done)))⟩
  case round =>
    obtain ⟨k, r, hk, rfl, rfl, hr, hrun, hbe⟩ := hrel
    by_cases hlt : k < L
    · obtain ⟨b, off, rfl, q0⟩ := HP.out k (by rw [HLE.out]; exact hlt)
      have q1 := keep q0 hbe
      have ht := bytesL_take l k (by rw [HLE.out]; exact hlt)
      obtain ⟨n, hn⟩ : ∃ n, l.getD k 0 = n := ⟨_, rfl⟩
      rw [hn] at q0 q1 ht
      have y0 : n / 4294967296 % 256 = ((low n / 2 ^ 32 % 256 : Nat) : Int) := by unfold low; omega
      have y1 : n / 16777216 % 256 = ((low n / 2 ^ 24 % 256 : Nat) : Int) := by unfold low; omega
      have y2 : n / 65536 % 256 = ((low n / 2 ^ 16 % 256 : Nat) : Int) := by unfold low; omega
      have y3 : n / 256 % 256 = ((low n / 2 ^ 8 % 256 : Nat) : Int) := by unfold low; omega
      have y4 : n % 256 = ((low n % 256 : Nat) : Int) := by unfold low; omega
      have flt := five_lt (low n)
      have hf : five (low n) = [low n / 2 ^ 32 % 256, low n / 2 ^ 24 % 256, low n / 2 ^ 16 % 256, low n / 2 ^ 8 % 256, low n % 256] := rfl
      obtain ⟨Y0, r0⟩ : ∃ y, low n / 2 ^ 32 % 256 = y := ⟨_, rfl⟩
      obtain ⟨Y1, r1⟩ : ∃ y, low n / 2 ^ 24 % 256 = y := ⟨_, rfl⟩
      obtain ⟨Y2, r2⟩ : ∃ y, low n / 2 ^ 16 % 256 = y := ⟨_, rfl⟩
      obtain ⟨Y3, r3⟩ : ∃ y, low n / 2 ^ 8 % 256 = y := ⟨_, rfl⟩
      obtain ⟨Y4, r4⟩ : ∃ y, low n % 256 = y := ⟨_, rfl⟩
      rw [r0, r1, r2, r3, r4] at hf
      rw [r0] at y0; rw [r1] at y1; rw [r2] at y2; rw [r3] at y3; rw [r4] at y4
      rw [hf] at flt ht
      have SB := Lib.hid (fun (W : World) (h : Blk W wr.heap.size 5 (bvs [Y0, Y1, Y2, Y3, Y4])) (h2 : LaidC W) => shift_bytes r (some ⟨wr.heap.size, 0, none⟩) 5 [Y0, Y1, Y2, Y3, Y4] W hr (h.bytes flt) (by simp) h2)
      have hnew : run 1099511627775 (bytesL (l.take (k + 1))) = run r [Y0, Y1, Y2, Y3, Y4] := by rw [ht, run_append, hrun.out]
      have rlt := run_lt [Y0, Y1, Y2, Y3, Y4] r hr
      obtain ⟨R, hR⟩ : ∃ R, run r [Y0, Y1, Y2, Y3, Y4] = R := ⟨_, rfl⟩
      rw [hR] at SB hnew rlt
      have HN := Lib.hid hnew; have LB := Lib.hid (LA.out.mono hbe); have BE := Lib.hid hbe
      clear hn r0 r1 r2 r3 r4 hf flt ht hnew hR hrun q0 hbe
      go_wp2_with fail
      refine (SB.out _ (Blk.new _ _ _) (LB.out.mono (by (repeat' (first | (with_reducible exact Below.refl _ _) | (with_reducible assumption) | (with_reducible refine Below.alloc ?_ ?_ _) | (with_reducible refine Below.drew ?_) | (with_reducible refine below_dn ?_) | (with_reducible refine Below.setCell ?_ ?_ _) | (with_reducible exact Nat.le_refl _) | omega | (simp only [World.size_alloc, World.size_setCell, World.size_drew]; omega) | (simp; omega) | (simp; done)))))).mono ?_
      rintro e w2 ⟨rfl, rfl⟩
      have hbe : Below w.heap.size w (wr.alloc (.cells (bvs [Y0, Y1, Y2, Y3, Y4]) 5)) := BE.out.alloc BE.out.size _
      have BE2 := Lib.hid hbe
      clear hbe
      go_wp2
      go_roundw
      case rel => exact ⟨k + 1, R, by omega, by go_num, rfl, rlt, HN, BE2.out⟩
      case measure => simp [intOf]; omega
    · have hrn := hrun.out
      rw [List.take_of_length_le (by rw [HLE.out]; omega)] at hrn
      have C := Lib.hid (fun W : World => value_any r W hr)
      have E := Lib.hid (show crc (bytesL l) = r ^^^ 1099511627775 by unfold crc; rw [hrn])
      have BE := Lib.hid hbe
      clear hrn hrun hbe
      go_wp2_with fail
      refine (C.out _).mono ?_
      rintro e w2 ⟨rfl, hb⟩
      have HB := Lib.hid (BE.out.trans (hb.mono BE.out.size))
      clear hb
      go_wp2
      go_ret
      exact ⟨by rw [E.out]; rfl, HB.out⟩
theorem array_at (g : Nat) (W : World) : (Instr.arrayAt 58 (.slice (some ⟨g, 0, none⟩) 16 32)).run Tryd.prog W = .ok (.pointer (some ⟨g, 0, none⟩)) W := by
  have hu := Tryd.underlying58
  simp [Instr.arrayAt, run_underlying hu]
set_option maxRecDepth 100000 in
set_option maxHeartbeats 1000000 in
theorem of_none (tag : Int) (t : Nat) (w : World) (ht : tag % 256 = t) (hla : LaidC w) :
    Calls Tryd.prog 34 #[.int .i64 tag, .slice none 0 0] w fun e w' => e = .returned (.agg (bvs ((sha [t]).take 16))) ∧ Below w.heap.size w w' := by
  have t256 : t < 256 := by omega
  have LA := Lib.hid hla
  have C := Lib.hid (fun (g : Nat) (W : World) (h1 : Blk W g 5 (bvs [t])) (h2 : LaidC W) => feed0_bytes [t] (some ⟨g, 0, none⟩) 1 W (by simp) (h1.bytes (by simp; omega)) (by simp; omega) (by simp) h2)
  have D := Lib.hid (fun (s : St) (r : List Nat) (W : World) (h : Is s r [t]) (h2 : LaidC W) => sum_any s r [t] W h (by simp) h2)
  have sl : (sha [t]).length = 32 := rfl
  obtain ⟨S, hS⟩ : ∃ S, sha [t] = S := ⟨_, rfl⟩
  rw [hS] at D sl ⊢
  have SL := Lib.hid sl
  clear hla t256 hS sl
  go_enter Tryd.func34, Tryd.ntmps34
  go_wp2_with fail
  refine (begin_any _).mono ?_
  rintro e w1 ⟨rfl, hb1⟩
  have j0 : Blk w1 w.heap.size 58 (bvs (List.replicate 16 0)) := (Blk.new' w 58 _ (bvs (List.replicate 16 0)) rfl rfl).below hb1 (by simp)
  have B1 : Below w.heap.size w w1 := bt (by (repeat' (first | (with_reducible exact Below.refl _ _) | (with_reducible assumption) | (with_reducible refine Below.alloc ?_ ?_ _) | (with_reducible refine Below.drew ?_) | (with_reducible refine below_dn ?_) | (with_reducible refine Below.setCell ?_ ?_ _) | (with_reducible exact Nat.le_refl _) | omega | (simp only [World.size_alloc, World.size_setCell, World.size_drew]; omega) | (simp; omega) | (simp; done)))) hb1
  have J0 := Lib.hid j0; have BE := Lib.hid B1
  clear hb1 j0 B1
  go_wp2_with fail
  refine (C.out w1.heap.size _ (Blk.new _ _ _) (LA.out.mono (BE.out.alloc BE.out.size _))).mono ?_
  rintro e w2 ⟨s, r, hI, rfl, hb2⟩
  have j0 := (J0.out.alloc _).below hb2 (by have := J0.out.lt; simp; omega)
  have B2 : Below w.heap.size w w2 := bt (BE.out.alloc BE.out.size _) hb2
  have ia : (Tryd.prog.info? 53).map (·.size) = some (svA s r 1).size := by rw [svA_size _ _ _ hI.len]; kernel_rfl
  have sz : (svA st00 z64 0).size = (svA s r 1).size := by rw [svA_size _ _ _ hI.len]; rfl
  have IA := Lib.hid ia; have SZ := Lib.hid sz; have HI := Lib.hid hI
  have J0 := Lib.hid j0; have BE := Lib.hid B2
  clear hb2 j0 B2 ia sz hI C
  go_wp2_with (first | (with_reducible refine wpList_store_blk rfl _ _ _ rfl w2.heap.size 53 (svA st00 z64 0) _ rfl rfl (Blk.new' _ _ _ _ rfl rfl) IA.out SZ.out (svA_one _ _ _) rfl ?_))
  generalize hW : World.setRow _ w2.heap.size (svA s r 1) = W3
  have k5 : Blk W3 w2.heap.size 53 (svA s r 1) := by rw [← hW]; exact (Blk.new' w2 53 _ (svA st00 z64 0) rfl rfl).row_ _
  have k0 : Blk W3 w.heap.size 58 (bvs (List.replicate 16 0)) := by rw [← hW]; exact (J0.out.alloc _).rowfar (by have := J0.out.lt; omega) _
  have k3 : Below w.heap.size w W3 := by rw [← hW]; exact below_setRow (BE.out.alloc BE.out.size _) BE.out.size _
  have K5 := Lib.hid k5; have K0 := Lib.hid k0
  clear hW k5 k0
  go_loopw [16] (fun uk wr => uk = .int .i64 0 ∧ Hid (Blk wr w2.heap.size 53 (svA s r 1)) ∧ Hid (Blk wr w.heap.size 58 (bvs (List.replicate 16 0))) ∧ Below w.heap.size w wr) (fun uk _ => (intOf uk).toNat)
  case atStart => exact ⟨rfl, K5, K0, k3⟩
  case round =>
    clear K5 K0 k3
    obtain ⟨rfl, K5, K0, k3⟩ := hrel
    have KB := Lib.hid k3
    clear k3
    go_wp2_with (first | (with_reducible refine wpList_load_all rfl _ _ rfl w2.heap.size rfl 53 _ _ K5.out Tryd.underlying53 IA.out ?_))
    refine (D.out s r _ HI.out (LA.out.mono KB.out)).mono ?_
    rintro e w4 ⟨rfl, hb4⟩
    have K0' := Lib.hid (K0.out.below hb4 K0.out.lt)
    have B4 := Lib.hid (bt KB.out hb4)
    have sl := SL.out
    have ia : (Tryd.prog.info? 47).map (·.size) = some (bvs S).size := by rw [bvs_size, sl]; kernel_rfl
    have sz : (bvs (List.replicate 32 0)).size = (bvs S).size := by rw [bvs_size, bvs_size, sl]; rfl
    have IA2 := Lib.hid ia; have SZ2 := Lib.hid sz
    have tl : (S.take 16).length = 16 := by rw [List.length_take, sl]; rfl
    have ib : (Tryd.prog.info? 58).map (·.size) = some (S.take 16).length := by rw [tl]; kernel_rfl
    have ib2 : (Tryd.prog.info? 58).map (·.size) = some (bvs (S.take 16)).size := by rw [bvs_size]; exact ib
    have sz3 : (bvs (List.replicate 16 0)).size = (bvs (S.take 16)).size := by rw [bvs_size, bvs_size, tl]; rfl
    have IB := Lib.hid ib; have IB2 := Lib.hid ib2; have SZ3 := Lib.hid sz3
    have BK := Lib.hid (fun (W : World) (h : Blk W w4.heap.size 47 (bvs S)) (k : Nat) (hk : k < (S.take 16).length) => show W.cell? ⟨w4.heap.size, 0 + k, none⟩ = some (bv ((S.take 16).getD k 0)) by
      rw [tl] at hk
      rw [Nat.zero_add, h.cell k, bvs_at _ k (by rw [sl]; omega)]
      simp only [List.getD_eq_getElem?_getD, List.getElem?_take, if_pos hk])
    clear hb4 sl ia sz tl ib ib2 sz3 K0 KB
    have NB : Blk (w4.alloc (.cells #[.int .u8 0, .int .u8 0, .int .u8 0, .int .u8 0, .int .u8 0, .int .u8 0, .int .u8 0, .int .u8 0, .int .u8 0, .int .u8 0, .int .u8 0, .int .u8 0, .int .u8 0, .int .u8 0, .int .u8 0, .int .u8 0, .int .u8 0, .int .u8 0, .int .u8 0, .int .u8 0, .int .u8 0, .int .u8 0, .int .u8 0, .int .u8 0, .int .u8 0, .int .u8 0, .int .u8 0, .int .u8 0, .int .u8 0, .int .u8 0, .int .u8 0, .int .u8 0] 47)) w4.heap.size 47 (bvs (List.replicate 32 0)) := Blk.new' w4 47 _ _ rfl rfl
    have NB := Lib.hid NB
    have AT := fun (W : World) => array_at w4.heap.size W
    go_wp2_with (first | (with_reducible refine wpList_store_blk rfl _ _ _ rfl w4.heap.size 47 (bvs (List.replicate 32 0)) _ rfl rfl (Blk.new' _ _ _ _ rfl rfl) IA2.out SZ2.out (bvs_one _) rfl ?_) | (with_reducible refine wpList_load_bytes rfl _ _ rfl w4.heap.size 0 rfl (S.take 16) 16 5 (BK.out _ (NB.out.row_ _)) Tryd.underlying58 IB.out ?_) | (with_reducible refine wpList_store_blk rfl _ _ _ rfl w.heap.size 58 (bvs (List.replicate 16 0)) _ rfl rfl ((K0'.out.alloc _).rowfar (by have := K0'.out.lt; omega) _) IB2.out SZ3.out (bvs_one _) rfl ?_))
    have k0 := K0'.out.lt
    refine bodyPost_ret (v := .agg (bvs (S.take 16))) (results_cell_row rfl _ _ _ 58 _ (0, 0) _ rfl (((K0'.out.alloc _).rowfar (by omega) _).row_ _) Tryd.underlying58 rfl IB2.out) rfl ⟨rfl, below_setRow (below_setRow (B4.out.alloc B4.out.size _) B4.out.size _) (by omega) _⟩
end Go.Proofs.YtjeipkoomefekaaDoor
