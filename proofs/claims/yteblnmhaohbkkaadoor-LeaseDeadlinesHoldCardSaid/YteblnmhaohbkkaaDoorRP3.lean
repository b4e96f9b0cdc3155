import Derived.Test.YteblnmhaohbkkaaDoorRP2
import Derived.Maps.AppendAt
import Derived.Deep.AppendSrc
import Derived.Deep.RegionLaw
namespace Go.Proofs.YteblnmhaohbkkaaDoor
set_option linter.unusedVariables false
set_option linter.unusedSimpArgs false
set_option linter.unusedSectionVars false
section
namespace Hs
open Go.RowKit
attribute [local go_sem] zeroSt
attribute [local simp] zeroSt_ne
section
variable {P : Program} {ops : Array Oper} {rest : List Oper} {op : Oper} {a : Act} {w : World} {Q : Exit → Act → World → Prop}
set_option maxRecDepth 100000 in
theorem wpList_clear_rest (hgd : op.guard = none) (d : Operand) (dT : TypeId)
    (ho : op.op = .call { callee := .builtin .clear, args := #[d], argTypes := #[dT] }) (elem : TypeId) (hu : P.underlying dT = some (.slice elem)) (hz : ∀ w, (zeroValue elem).run P w = .ok (bv 0) w)
    (g u n c : Nat) (ad : Option Addr) (t : TypeId) (s : St) (r : List Nat) (N : Nat) (hd : a.eval d = .slice ad n c) (had : 0 < n → ad = some ⟨g, 8 + u, none⟩)
    (hg : Blk w g t (svA s r N)) (hr : r.length = 64) (hn : u + n = 64) (r2 : List Nat) (hr2 : splice r u (List.replicate n 0) = r2) (hdst : op.dst = none)
    (h : wpList P ops Q rest a (w.setRow g (svA s r2 N))) : wpList P ops Q (op :: rest) a w := by
  subst hr2
  have hrun : (Builtin.clear_ #[dT] op.type #[.slice ad n c]).run P w = .ok (.tuple #[]) (w.setRow g (svA s (splice r u (List.replicate n 0)) N)) := by
    rcases Nat.eq_zero_or_pos n with h0 | h0
    · subst h0
      have e : splice r u (List.replicate 0 0) = r := by
        unfold splice
        simp
      rw [e, setRow_self w g (svA s r N) t (0, 0) hg]
      cases ad <;> simp [Builtin.clear_, run_underlying hu]
    · rw [had h0]
      have hzc : (Builtin.zeroCells (bv 0).cells n).toList = (List.replicate n 0).map bv := by
        simp [Builtin.zeroCells, Value.cells]
        apply List.ext_getElem
        · simp
        · intro i h1 h2
          simp [Nat.mod_one]
      have hst := run_storeCells_at P g (8 + u) t ((List.replicate n 0).map bv) 0 (svA s r N) w hg (by rw [svA_size _ _ _ hr]; simp; omega) (fun v hv => by
        obtain ⟨y, _, rfl⟩ := List.mem_map.1 hv
        rfl)
      have k := svL_rest s r (List.replicate n 0) N u (by simp; omega)
      unfold splice at k
      have e : (svA s r N).toList = svL s r N := rfl
      simp only [Nat.add_zero, List.append_assoc] at hst
      rw [e, k] at hst
      obtain ⟨m, rfl⟩ : ∃ m, n = m + 1 := ⟨n - 1, by omega⟩
      have e2 : List.map bv (List.replicate (m + 1) 0) = List.replicate (m + 1) (bv 0) := by simp
      simp only [e2] at hst
      simp [Builtin.clear_, run_underlying hu, hz, hzc]
      rw [hst]
      rfl
  refine wpList_plain hgd fun K hK => ?_
  unfold Oper.wp execOp
  simp only [ho, resolve, invoke, builtin, Sem.run_bind, Sem.run_pure, Result.andThen_ok, List.map_toArray, List.map_cons, List.map_nil, hd, hrun]
  have e : a.put op.dst (.tuple #[]) = a := by rw [hdst]; rfl
  have := hK _ _ h
  rw [← e] at this
  exact this
end
def put8 (r : List Nat) (v : Nat) : Nat → List Nat
  | 0 => r
  | k + 1 => (put8 r v k).set (63 - k) (v / 2 ^ (8 * k) % 256)
set_option maxRecDepth 100000 in
theorem put8_len (r : List Nat) (v : Nat) : ∀ k, (put8 r v k).length = r.length
  | 0 => rfl
  | k + 1 => by rw [put8, List.length_set, put8_len r v k]
set_option maxRecDepth 100000 in
theorem put8_all (r : List Nat) (v : Nat) (h : r.length = 64) : put8 r v 8 = r.take 56 ++ be8 v := by
  have e : r = r.take 56 ++ r.drop 56 := (List.take_append_drop 56 r).symm
  obtain ⟨x, hx⟩ : ∃ x, r.take 56 = x := ⟨_, rfl⟩
  obtain ⟨y, hy⟩ : ∃ y, r.drop 56 = y := ⟨_, rfl⟩
  have hxl : x.length = 56 := by rw [← hx, List.length_take]; omega
  have hyl : y.length = 8 := by rw [← hy, List.length_drop]; omega
  rw [hx, hy] at e
  rw [hx]
  match y, hyl with
  | [y0, y1, y2, y3, y4, y5, y6, y7], _ =>
    rw [e]
    simp only [put8]
    repeat rw [List.set_append_right _ _ (by omega)]
    rw [hxl]
    unfold be8
    simp
set_option maxRecDepth 100000 in
theorem put8_lt (r : List Nat) (v : Nat) (h : ∀ x ∈ r, x < 256) : ∀ k, ∀ x ∈ put8 r v k, x < 256
  | 0 => h
  | k + 1 => by
    intro x hx
    rw [put8] at hx
    rcases List.mem_or_eq_of_mem_set hx with hx | hx
    · exact put8_lt r v h k x hx
    · omega
set_option maxRecDepth 100000 in
theorem tailB_is (r : List Nat) (u : Nat) (hr : r.length = 64) (hu : u < 64) : splice (r.set u 128) (u + 1) (List.replicate (63 - u) 0) = tailB r u := by
  unfold splice tailB
  rw [List.drop_eq_nil_of_le (by simp; omega), List.append_nil]
  congr 1
  rw [List.take_set, List.take_add_one, List.getElem?_eq_getElem (by omega)]
  simp only [Option.toList_some]
  have hl : (r.take u).length = u := by rw [List.length_take]; omega
  rw [List.set_append_right _ _ (by omega)]
  have : u - (r.take u).length = 0 := by omega
  rw [this]
  rfl
def St.words (s : St) : List Nat := [s.a, s.b, s.c, s.d, s.e, s.f, s.g, s.h]
set_option maxRecDepth 100000 in
theorem words_lt {s : St} (h : s.Ok) (k : Nat) : s.words.getD k 0 < 4294967296 := getD_lt (by decide) (fun x hx => by
  unfold St.words at hx
  simp only [List.mem_cons, List.not_mem_nil, or_false] at hx
  have := h.a; have := h.b; have := h.c; have := h.d; have := h.e; have := h.f; have := h.g; have := h.h
  omega) k
set_option maxRecDepth 100000 in
theorem bytes_take (s : St) (k : Nat) (h : k < 8) : s.bytes.take (4 * (k + 1)) = s.bytes.take (4 * k) ++ be4 (s.words.getD k 0) := by
  rcases (by omega : k = 0 ∨ k = 1 ∨ k = 2 ∨ k = 3 ∨ k = 4 ∨ k = 5 ∨ k = 6 ∨ k = 7) with h | h | h | h | h | h | h | h <;> subst h <;> rfl
set_option maxRecDepth 100000 in
theorem index_st (s : St) (t : Nat) (ht : t < 8) (W : World) : (Instr.index 132 (.agg s.arr) (.int .i64 (t : Int))).run Tryd.prog W = .ok (wv (s.words.getD t 0)) W := by
  have hn : 0 ≤ (t : Int) ∧ (t : Int) < ((8 : Nat) : Int) := by omega
  have hz : (sizeOf 131).run Tryd.prog W = .ok 1 W := by kernel_rfl
  have e : s.arr = wvs s.words := rfl
  rw [e]
  have hp := run_part_plain (P := Tryd.prog) (w := W) (e := 131) (by kernel_rfl) (xs := wvs s.words) (off := t) (wvs_at s.words t ht)
  simp [Instr.index, run_underlying Tryd.underlying132, asIntOf, hn, go_sem, hz, hp, ht, wvs_at s.words t ht]
set_option maxRecDepth 100000 in
theorem pad_set4 (n : Nat) (l : List Nat) (M a b c d : Nat) (hl : l.length = M) (h : M + 4 ≤ n) : ((((pad n l).set M a).set (M + 1) b).set (M + 2) c).set (M + 3) d = pad n (l ++ [a, b, c, d]) := by
  subst hl
  have e0 := pad_set n l a (by omega)
  have e1 := pad_set n (l ++ [a]) b (by simp; omega)
  have e2 := pad_set n (l ++ [a] ++ [b]) c (by simp; omega)
  have e3 := pad_set n (l ++ [a] ++ [b] ++ [c]) d (by simp; omega)
  simp only [List.length_append, List.length_cons, List.length_nil] at e1 e2 e3
  rw [e0, e1, e2, e3]
  simp only [List.append_assoc, List.cons_append, List.nil_append]
set_option maxRecDepth 100000 in
theorem slice_rest (g U : Nat) (hU : U ≤ 64) : ∃ ad : Option Addr, (∀ W, (Instr.sliceAt 133 (.pointer (some ⟨g, 8, none⟩)) (some (.int .u64 (U : Int))) none none).run Tryd.prog W = .ok (.slice ad (64 - U) (64 - U)) W) ∧ (0 < 64 - U → ad = some ⟨g, 8 + U, none⟩) := by
  refine ⟨some (if 64 = U then ⟨g, 8, none⟩ else (⟨g, 8, none⟩ : Addr).add (U * 1)), fun W => ?_, fun h => ?_⟩
  · have ht : Tryd.prog.underlying 133 = some (.array (Tryd.prog.arrayLen 133) (Tryd.prog.elem 133)) := by kernel_rfl
    have h1 : Tryd.prog.arrayLen 133 = 64 := by kernel_rfl
    have h2 : Tryd.prog.elem 133 = 5 := by kernel_rfl
    rw [run_sliceAt_array_l W 133 _ ht .u64 _ (by omega) (by rw [h1]; omega), h1, h2, sizeOf5]
    rfl
  · rw [if_neg (by omega), Addr.add_mid, Nat.mul_one]
set_option maxRecDepth 100000 in
set_option maxHeartbeats 2000000 in
theorem sum_any (s : St) (r m : List Nat) (w : World) (h : Is s r m) (hN : m.length < 1152921504606846976) (hla : LaidC w) :
    Calls Tryd.prog 81 #[.agg (svA s r m.length)] w fun e w' => e = .returned (.agg (bvs (sha m))) ∧ Below w.heap.size w w' := by
  have HI := Lib.hid h; have HLA := Lib.hid hla
  have n72 := svA_n s r m.length h.len
  have R64 := h.len
  obtain ⟨u, hu0⟩ : ∃ u, m.length % 64 = u := ⟨_, rfl⟩
  have e1 : ((m.length : Nat) : Int) % 64 = (u : Int) := by omega
  have hu64 : (u : Int) < 64 := by omega
  have hu0' : (0 : Int) ≤ (u : Int) := by omega
  obtain ⟨N, hN'⟩ : ∃ N, m.length = N := ⟨_, rfl⟩
  have HU := Lib.hid hu0
  rw [hN'] at n72 e1 hN
  have HN := Lib.hid hN'; have HR := Lib.hid R64
  have c128 := svA_at s r N u (by omega)
  obtain ⟨x0, hx0⟩ : ∃ x, r.getD u 0 = x := ⟨_, rfl⟩
  rw [hx0] at c128
  rw [hN']
  have hset : (svA s r N).setIfInBounds (8 + u) (.int .u8 128) = svA s (r.set u 128) N := by
    have k := svL_byte s r N u 128 (by omega)
    unfold svA
    rw [List.setIfInBounds_toArray]
    exact congrArg List.toArray k
  obtain ⟨U, hU⟩ : ∃ U, u + 1 = U := ⟨_, rfl⟩
  have e4 : (u : Int) + 1 = (U : Int) := by omega
  obtain ⟨ad, sl, had⟩ := slice_rest w.heap.size U (by omega)
  have HAD := Lib.hid had
  have h128 : (r.set u 128).length = 64 := by rw [List.length_set]; exact R64
  have htb : splice (r.set u 128) U (List.replicate (64 - U) 0) = tailB r u := by
    rw [← hU, show 64 - (u + 1) = 63 - u by omega]
    exact tailB_is r u R64 (by omega)
  have tbl := tailB_len R64 (show u < 64 by omega)
  have tblt := tailB_lt (u := u) h.lt
  obtain ⟨tb, hte⟩ : ∃ t, tailB r u = t := ⟨_, rfl⟩
  rw [hte] at htb tbl tblt
  have hsh : u < 56 → sha m = (comp s (tb.take 56 ++ be8 (8 * N))).bytes := fun h' => by
    have := sha_short h (by omega)
    rwa [hu0, hN', hte] at this
  have hlg : 56 ≤ u → sha m = (comp (comp s tb) ((List.replicate 64 0).take 56 ++ be8 (8 * N))).bytes := fun h' => by
    have := sha_long h (by omega)
    rwa [hu0, hN', hte] at this
  have HS128 := Lib.hid h128; have HTB := Lib.hid htb; have TBL := Lib.hid tbl; have TBLT := Lib.hid tblt
  have HZ := Lib.hid (show U + (64 - U) = 64 by omega)
  have zv : ∀ W, (zeroValue 5).run Tryd.prog W = .ok (bv 0) W := fun W => by kernel_rfl
  have ZV := Lib.hid zv
  have hUl : (U : Int) ≤ 64 := by omega
  have hU0 : (0 : Int) ≤ (U : Int) := by omega
  clear h hla hu0 hN' R64 hx0 had h128 htb tbl tblt hte zv
  by_cases hs : u < 56
  case' pos =>
    have SH := Lib.hid (hsh hs)
    have hU56 : decide (56 < (U : Int)) = false := decide_eq_false (by omega)
    clear hsh hlg hU
    go_enter Tryd.func81, Tryd.ntmps81
    go_wp2_with (first | (with_reducible refine wpList_clear_rest rfl _ 138 rfl 5 Tryd.underlying138 ZV.out w.heap.size U _ _ ad 136 s (r.set u 128) N rfl HAD.out ((Blk.new w _ _).alloc _) HS128.out HZ.out tb HTB.out rfl ?_))
    generalize hW : World.setRow (World.alloc (World.alloc w _) _) w.heap.size (svA s tb N) = W1
    have j0 : Blk W1 w.heap.size 136 (svA s tb N) := by rw [← hW]; exact ((Blk.new w _ _).alloc _).row_ _
    have j1 : Blk W1 (w.heap.size + 1) 142 (bvs (List.replicate 32 0)) := by rw [← hW]; exact (Blk.new' _ _ _ _ (by simp) rfl).rowfar (by omega) _
    have B1 : Below w.heap.size w W1 := by rw [← hW]; exact below_setRow (by (repeat' (first | (with_reducible exact Below.refl _ _) | (with_reducible assumption) | (with_reducible refine Below.alloc ?_ ?_ _) | (with_reducible refine Below.drew ?_) | (with_reducible refine below_dn ?_) | (with_reducible refine Below.setCell ?_ ?_ _) | (with_reducible exact Nat.le_refl _) | omega | (simp only [World.size_alloc, World.size_setCell, World.size_drew]; omega) | (simp; omega) | (simp; done)))) (by omega) _
    have z1 : w.heap.size + 2 ≤ W1.heap.size := by rw [← hW, setRow_size]; simp
    have J0 := Lib.hid j0; have J1 := Lib.hid j1
    clear hW j0 j1
    have OK1 := Lib.hid HI.out.ok
    obtain ⟨s1, r1, J0, SH, OK1, RL1, RT1⟩ : ∃ (s1 : St) (r1 : List Nat), Hid (Blk W1 w.heap.size 136 (svA s1 r1 N)) ∧ Hid (sha m = (comp s1 (r1.take 56 ++ be8 (8 * N))).bytes) ∧ Hid s1.Ok ∧ Hid (r1.length = 64) ∧ Hid (∀ x ∈ r1, x < 256) := ⟨_, _, J0, SH, OK1, TBL, TBLT⟩
  case' neg =>
    have SH := Lib.hid (hlg (by omega))
    have hU56 : decide (56 < (U : Int)) = true := decide_eq_true (by omega)
    clear hsh hlg hU
    go_enter Tryd.func81, Tryd.ntmps81
    go_wp2_with (first | (with_reducible refine wpList_clear_rest rfl _ 138 rfl 5 Tryd.underlying138 ZV.out w.heap.size U _ _ ad 136 s (r.set u 128) N rfl HAD.out ((Blk.new w _ _).alloc _) HS128.out HZ.out tb HTB.out rfl ?_) | (with_reducible refine wpList_load_st rfl _ _ rfl w.heap.size rfl 136 s tb N _ _ (((Blk.new w _ _).alloc _).row_ _) Tryd.underlying132 (by kernel_rfl) ?_) | (with_reducible refine wpList_load_rest rfl _ _ rfl w.heap.size rfl 136 s tb N _ _ (((Blk.new w _ _).alloc _).row_ _) Tryd.underlying133 (by rw [TBL.out]; kernel_rfl) ?_))
    refine (compress_arr s tb _ HI.out.ok TBL.out TBLT.out (HLA.out.mono (below_setRow (by (repeat' (first | (with_reducible exact Below.refl _ _) | (with_reducible assumption) | (with_reducible refine Below.alloc ?_ ?_ _) | (with_reducible refine Below.drew ?_) | (with_reducible refine below_dn ?_) | (with_reducible refine Below.setCell ?_ ?_ _) | (with_reducible exact Nat.le_refl _) | omega | (simp only [World.size_alloc, World.size_setCell, World.size_drew]; omega) | (simp; omega) | (simp; done)))) (by omega) _))).mono ?_
    rintro e w3 ⟨rfl, hb3⟩
    have hz3 := hb3.size
    rw [setRow_size] at hz3
    simp only [World.size_alloc] at hz3
    have g0 : Blk w3 w.heap.size 136 (svA s tb N) := (((Blk.new w _ _).alloc _).row_ _).below hb3 (by rw [setRow_size]; simp only [World.size_alloc]; omega)
    have g1 : Blk w3 (w.heap.size + 1) 142 (bvs (List.replicate 32 0)) := ((Blk.new' _ _ _ _ (by simp) rfl).rowfar (by omega) _).below hb3 (by rw [setRow_size]; simp only [World.size_alloc]; omega)
    have B3 : Below w.heap.size w w3 := bt (below_setRow (by (repeat' (first | (with_reducible exact Below.refl _ _) | (with_reducible assumption) | (with_reducible refine Below.alloc ?_ ?_ _) | (with_reducible refine Below.drew ?_) | (with_reducible refine below_dn ?_) | (with_reducible refine Below.setCell ?_ ?_ _) | (with_reducible exact Nat.le_refl _) | omega | (simp only [World.size_alloc, World.size_setCell, World.size_drew]; omega) | (simp; omega) | (simp; done)))) (by omega) _) hb3
    have G0 := Lib.hid g0; have G1 := Lib.hid g1
    clear hb3 g0 g1
    go_wp2_with (first | (with_reducible refine wpList_store_st rfl _ _ _ rfl w.heap.size 136 s (comp s tb) tb N rfl rfl G0.out TBL.out (by kernel_rfl) rfl ?_) | (refine wpList_store_rest rfl _ _ _ rfl w.heap.size 136 (comp s tb) tb (List.replicate 64 0) N rfl rfl (G0.out.row_ _) TBL.out rfl (by kernel_rfl) rfl ?_))
    generalize hW : World.setRow (World.setRow w3 _ _) _ _ = W1
    have j0 : Blk W1 w.heap.size 136 (svA (comp s tb) (List.replicate 64 0) N) := by rw [← hW]; exact (G0.out.row_ _).row_ _
    have j1 : Blk W1 (w.heap.size + 1) 142 (bvs (List.replicate 32 0)) := by rw [← hW]; exact (G1.out.rowfar (by omega) _).rowfar (by omega) _
    have B1 : Below w.heap.size w W1 := by rw [← hW]; exact below_setRow (below_setRow B3 (by omega) _) (by omega) _
    have z1 : w.heap.size + 2 ≤ W1.heap.size := by rw [← hW, setRow_size, setRow_size]; omega
    have J0 := Lib.hid j0; have J1 := Lib.hid j1
    clear hW j0 j1
    have OK1 := Lib.hid (comp_ok s tb)
    obtain ⟨s1, r1, J0, SH, OK1, RL1, RT1⟩ : ∃ (s1 : St) (r1 : List Nat), Hid (Blk W1 w.heap.size 136 (svA s1 r1 N)) ∧ Hid (sha m = (comp s1 (r1.take 56 ++ be8 (8 * N))).bytes) ∧ Hid s1.Ok ∧ Hid (r1.length = 64) ∧ Hid (∀ x ∈ r1, x < 256) := ⟨_, _, J0, SH, OK1, Lib.hid rfl, Lib.hid (by intro x hx; rw [List.eq_of_mem_replicate hx]; decide)⟩
  all_goals
    obtain ⟨V, hV⟩ : ∃ V, 8 * N = V := ⟨_, rfl⟩
    have e6 : (N : Int) * 8 = (V : Int) := by omega
    have e7 : IntKind.u64.wrap ((N : Int) * 8) = (V : Int) := by rw [e6, show IntKind.u64.wrap (V : Int) = (V : Int) % 18446744073709551616 from by simp [IntKind.wrap, IntKind.bits, IntKind.signed]]; omega
    rw [hV] at SH
    have VB : V < 18446744073709551616 := by omega
    have E6 := Lib.hid e6; have E7 := Lib.hid e7
    clear e1 e4 hset sl n72 c128 hU56 hV e6 e7
    go_loopw [29] (fun uk wr => ∃ k : Nat, k ≤ 8 ∧ uk = .int .i64 k ∧ w.heap.size + 2 ≤ wr.heap.size ∧ Below w.heap.size w wr ∧ Hid (Blk wr w.heap.size 136 (svA s1 (put8 r1 V k) N)) ∧ Hid (Blk wr (w.heap.size + 1) 142 (bvs (List.replicate 32 0)))) (fun uk _ => 8 - (intOf uk).toNat)
    case atStart => exact ⟨0, by omega, rfl, z1, B1, J0, J1⟩
    case round =>
      clear J0 J1 z1 B1
      obtain ⟨k, hk, rfl, z1, B1, J0, J1⟩ := hrel
      by_cases hlt : k < 8
      · have plen : (put8 r1 V k).length = 64 := by rw [put8_len]; exact RL1.out
        have d72 := (J0.out.cell 72).trans (svA_n s1 _ N plen)
        obtain ⟨K, hK⟩ : ∃ K, 63 - k = K := ⟨_, rfl⟩
        obtain ⟨S, hS⟩ : ∃ S, 8 * k = S := ⟨_, rfl⟩
        have v1 : IntKind.i64.wrap (63 - (k : Int)) = (K : Int) := by rw [IntKind.wrap_i64]; omega
        have v2 : 63 - (k : Int) = (K : Int) := by omega
        have v3 : 8 * (k : Int) = (S : Int) := by omega
        have v4 : IntKind.i64.wrap (8 * (k : Int)) = (S : Int) := by rw [IntKind.wrap_i64]; omega
        have K64 : (K : Int) < 64 := by omega
        have K0 : (0 : Int) ≤ (K : Int) := by omega
        have S0 : (0 : Int) ≤ (S : Int) := by omega
        have S64 : (S : Int) < 64 := by omega
        have dK := (J0.out.cell (8 + K)).trans (svA_at s1 _ N K (by omega))
        obtain ⟨xo, hxo⟩ : ∃ x, (put8 r1 V k).getD K 0 = x := ⟨_, rfl⟩
        rw [hxo] at dK
        have fr := J0.out.frozen (8 + K)
        have e6 := E6.out
        have e7 := E7.out
        have e8 : (V : Int) / 2 ^ S % 256 = ((V / 2 ^ S % 256 : Nat) : Int) := by simp
        obtain ⟨Y, hY⟩ : ∃ Y, V / 2 ^ S % 256 = Y := ⟨_, rfl⟩
        rw [hY] at e8
        have hnx : put8 r1 V (k + 1) = (put8 r1 V k).set K Y := by rw [put8, hK, hS, hY]
        have HK := Lib.hid (show K < (put8 r1 V k).length by omega); have HNX := Lib.hid hnx
        clear hK hS plen hxo hY hnx
        go_wp2
        go_roundw
        case rel =>
          refine ⟨k + 1, by omega, by go_num, by simp; omega, by (repeat' (first | (with_reducible exact Below.refl _ _) | (with_reducible assumption) | (with_reducible refine Below.alloc ?_ ?_ _) | (with_reducible refine Below.drew ?_) | (with_reducible refine below_dn ?_) | (with_reducible refine Below.setCell ?_ ?_ _) | (with_reducible exact Nat.le_refl _) | omega | (simp only [World.size_alloc, World.size_setCell, World.size_drew]; omega) | (simp; omega) | (simp; done))), Lib.hid ?_, Lib.hid (J1.out.far (by simp) _)⟩
          have t := J0.out.set_ (8 + K) (bv Y)
          have q := svL_byte s1 (put8 r1 V k) N K Y HK.out
          have q2 : (svA s1 (put8 r1 V k) N).setIfInBounds (8 + K) (bv Y) = svA s1 (put8 r1 V (k + 1)) N := by
            unfold svA
            rw [List.setIfInBounds_toArray, q, HNX.out]
          rw [q2] at t
          exact t
        case measure => simp [intOf]; omega
      · have KE := Lib.hid (show k = 8 by omega)
        have plen : (put8 r1 V k).length = 64 := by rw [put8_len]; exact RL1.out
        have plt := put8_lt r1 V RT1.out k
        have hsh : sha m = (comp s1 (put8 r1 V k)).bytes := by rw [KE.out, put8_all r1 V RL1.out]; exact SH.out
        have SH2 := Lib.hid hsh
        obtain ⟨r3, hr3⟩ : ∃ r3, put8 r1 V k = r3 := ⟨_, rfl⟩
        rw [hr3] at plen plt SH2 J0
        have PL := Lib.hid plen; have PT := Lib.hid plt
        have F2 := Lib.hid (HLA.out.mono B1)
        clear hk plen plt hsh hr3 SH
        go_wp2_with (first | (with_reducible refine wpList_load_st rfl _ _ rfl w.heap.size rfl 136 s1 r3 N _ _ (J0.out.alloc _) Tryd.underlying132 (by kernel_rfl) ?_) | (with_reducible refine wpList_load_rest rfl _ _ rfl w.heap.size rfl 136 s1 r3 N _ _ (J0.out.alloc _) Tryd.underlying133 (by rw [PL.out]; kernel_rfl) ?_))
        refine (compress_arr s1 r3 _ OK1.out PL.out PT.out (F2.out.mono (by (repeat' (first | (with_reducible exact Below.refl _ _) | (with_reducible assumption) | (with_reducible refine Below.alloc ?_ ?_ _) | (with_reducible refine Below.drew ?_) | (with_reducible refine below_dn ?_) | (with_reducible refine Below.setCell ?_ ?_ _) | (with_reducible exact Nat.le_refl _) | omega | (simp only [World.size_alloc, World.size_setCell, World.size_drew]; omega) | (simp; omega) | (simp; done)))))).mono ?_
        rintro e w4 ⟨rfl, hb4⟩
        have j1 : Blk w4 (w.heap.size + 1) 142 (bvs (List.replicate 32 0)) := (J1.out.alloc _).below hb4 (by simp; omega)
        have j5 : Blk w4 wr.heap.size 142 (bvs (List.replicate 32 0)) := (Blk.new' _ _ _ _ rfl rfl).below hb4 (by simp)
        have B4 : Below w.heap.size w w4 := bt (B1.alloc (by omega) _) hb4
        have z4 : wr.heap.size + 1 ≤ w4.heap.size := by have := hb4.size; simp at this; omega
        have J1 := Lib.hid j1; have J5 := Lib.hid j5
        clear hb4 j1 j5 J0 B1
        have TOK := Lib.hid (comp_ok s1 r3)
        obtain ⟨T, hT⟩ : ∃ T, comp s1 r3 = T := ⟨_, rfl⟩
        rw [hT] at TOK SH2 ⊢
        clear hT
        go_wp2
        go_loopw [49] (fun uk wx => ∃ j : Nat, j ≤ 8 ∧ uk = .int .i64 j ∧ wr.heap.size + 1 ≤ wx.heap.size ∧ Below w.heap.size w wx ∧ Hid (Blk wx (w.heap.size + 1) 142 (bvs (List.replicate 32 0))) ∧ Hid (Blk wx wr.heap.size 142 (bvs (pad 32 (T.bytes.take (4 * j)))))) (fun uk _ => 8 - (intOf uk).toNat)
        case atStart => exact ⟨0, by omega, rfl, z4, B4, J1, J5⟩
        case round =>
          clear J1 J5 z4 B4
          obtain ⟨j, hj, rfl, z4, B4, J1, J5⟩ := hrel
          have hbl : (T.bytes.take (4 * j)).length = 4 * j := by rw [List.length_take, St.bytes_len]; omega
          by_cases hlt : j < 8
          · have ix := fun W : World => index_st T j hlt W
            have xlt := words_lt TOK.out j
            have bt4 := bytes_take T j hlt
            obtain ⟨x, hx⟩ : ∃ x, T.words.getD j 0 = x := ⟨_, rfl⟩
            rw [hx] at ix xlt bt4
            obtain ⟨M, hM⟩ : ∃ M, 4 * j = M := ⟨_, rfl⟩
            rw [hM] at hbl J5 bt4
            obtain ⟨l, hl⟩ : ∃ l, T.bytes.take M = l := ⟨_, rfl⟩
            rw [hl] at hbl J5 bt4
            have cell := fun A (hA : A < 32) => ((J5.out.cell A).trans (bvs_at _ A (by rw [pad_len _ _ (by omega)]; exact hA)))
            have d0 := cell M (by omega); have d1 := cell (M + 1) (by omega); have d2 := cell (M + 2) (by omega); have d3 := cell (M + 3) (by omega)
            have fr := fun i : Nat => J5.out.frozen i
            have f0 := fr M; have f1 := fr (M + 1); have f2 := fr (M + 2); have f3 := fr (M + 3)
            obtain ⟨o0, q0⟩ : ∃ x, (pad 32 l).getD M 0 = x := ⟨_, rfl⟩
            obtain ⟨o1, q1⟩ : ∃ x, (pad 32 l).getD (M + 1) 0 = x := ⟨_, rfl⟩
            obtain ⟨o2, q2⟩ : ∃ x, (pad 32 l).getD (M + 2) 0 = x := ⟨_, rfl⟩
            obtain ⟨o3, q3⟩ : ∃ x, (pad 32 l).getD (M + 3) 0 = x := ⟨_, rfl⟩
            rw [q0] at d0; rw [q1] at d1; rw [q2] at d2; rw [q3] at d3
            have v0 : IntKind.i64.wrap (4 * (j : Int)) = (M : Int) := by rw [IntKind.wrap_i64]; omega
            have v0' : 4 * (j : Int) = (M : Int) := by omega
            have M0 : (0 : Int) ≤ (M : Int) := by omega
            have M3 : (M : Int) + 3 < 32 := by omega
            have y0 : (x : Int) / 16777216 % 256 = ((x / 2 ^ 24 % 256 : Nat) : Int) := by simp
            have y0b : (x : Int) / 16777216 = ((x / 2 ^ 24 % 256 : Nat) : Int) := by omega
            have y1 : (x : Int) / 65536 % 256 = ((x / 2 ^ 16 % 256 : Nat) : Int) := by simp
            have y2 : (x : Int) / 256 % 256 = ((x / 2 ^ 8 % 256 : Nat) : Int) := by simp
            have y3 : (x : Int) % 256 = ((x % 256 : Nat) : Int) := by simp
            unfold be4 at bt4
            obtain ⟨Y0, r0⟩ : ∃ y, x / 2 ^ 24 % 256 = y := ⟨_, rfl⟩
            obtain ⟨Y1, r1'⟩ : ∃ y, x / 2 ^ 16 % 256 = y := ⟨_, rfl⟩
            obtain ⟨Y2, r2⟩ : ∃ y, x / 2 ^ 8 % 256 = y := ⟨_, rfl⟩
            obtain ⟨Y3, r3'⟩ : ∃ y, x % 256 = y := ⟨_, rfl⟩
            rw [r0] at y0 y0b bt4; rw [r1'] at y1 bt4; rw [r2] at y2 bt4; rw [r3'] at y3 bt4
            have BT4 := Lib.hid bt4; have HBL := Lib.hid hbl
            have JN := Lib.hid (show 4 * (j + 1) = M + 4 by omega)
            have MB := Lib.hid (show M + 4 ≤ 32 by omega)
            clear cell fr hx hM hl q0 q1 q2 q3 r0 r1' r2 r3' bt4 hbl
            go_wp2
            go_roundw
            case rel =>
              refine ⟨j + 1, by omega, by go_num, by simp; omega, by (repeat' (first | (with_reducible exact Below.refl _ _) | (with_reducible assumption) | (with_reducible refine Below.alloc ?_ ?_ _) | (with_reducible refine Below.drew ?_) | (with_reducible refine below_dn ?_) | (with_reducible refine Below.setCell ?_ ?_ _) | (with_reducible exact Nat.le_refl _) | omega | (simp only [World.size_alloc, World.size_setCell, World.size_drew]; omega) | (simp; omega) | (simp; done))), Lib.hid ((((J1.out.far (by simp; omega) _).far (by simp; omega) _).far (by simp; omega) _).far (by simp; omega) _), Lib.hid ?_⟩
              have t := (((J5.out.set_ M (bv Y0)).set_ (M + 1) (bv Y1)).set_ (M + 2) (bv Y2)).set_ (M + 3) (bv Y3)
              rw [bvs_set, bvs_set, bvs_set, bvs_set, pad_set4 32 l M Y0 Y1 Y2 Y3 HBL.out MB.out, ← BT4.out] at t
              exact t
            case measure => simp [intOf]; omega
          · have KE2 := Lib.hid (show j = 8 by omega)
            have hfull : pad 32 (T.bytes.take (4 * j)) = sha m := by rw [KE2.out, SH2.out, List.take_of_length_le (by rw [St.bytes_len]; omega), pad_full _ _ (St.bytes_len T)]
            rw [hfull] at J5
            have sl32 : (sha m).length = 32 := by rw [SH2.out]; rfl
            have ia : (Tryd.prog.info? 142).map (·.size) = some (bvs (sha m)).size := by rw [bvs_size, sl32]; kernel_rfl
            have sz : (bvs (List.replicate 32 0)).size = (bvs (sha m)).size := by rw [bvs_size, bvs_size, sl32]; rfl
            have IA := Lib.hid ia; have SZ := Lib.hid sz
            obtain ⟨D, hD⟩ : ∃ D, sha m = D := ⟨_, rfl⟩
            rw [hD] at J5 IA SZ
            have HD := Lib.hid hD
            clear hfull ia sz hj hbl sl32 hD
            go_wp2_with (first | (with_reducible refine wpList_load_blk rfl _ _ rfl _ rfl 142 _ _ _ J5.out Tryd.underlying142 IA.out ?_) | (with_reducible refine wpList_store_blk rfl _ _ _ rfl (w.heap.size + 1) 142 _ _ rfl rfl J1.out IA.out SZ.out (bvs_one _) rfl ?_))
            refine bodyPost_ret (v := .agg (bvs D)) (results_cell_row rfl _ _ _ 142 _ (0, 0) _ rfl (J1.out.row_ _) Tryd.underlying142 rfl IA.out) rfl ⟨by rw [HD.out], below_setRow B4 (by omega) _⟩
end Hs
end
section
namespace Hs
open Go.RowKit
attribute [local go_sem] zeroSt
attribute [local simp] zeroSt_ne
def z64 : List Nat := List.replicate 64 0
set_option maxRecDepth 100000 in
set_option maxHeartbeats 1000000 in
theorem begin_any (w : World) : Calls Tryd.prog 78 #[] w fun e w' => e = .returned (.agg (svA st0 z64 0)) ∧ Below w.heap.size w w' := by
  have ia : (Tryd.prog.info? 136).map (·.size) = some (svA st0 z64 0).size := by kernel_rfl
  have sz : (svA st00 z64 0).size = (svA st0 z64 0).size := rfl
  have IA := Lib.hid ia; have SZ := Lib.hid sz
  clear ia sz
  go_enter Tryd.func78, Tryd.ntmps78
  go_wp2_with (first | (refine wpList_store_blk rfl _ _ _ rfl w.heap.size 136 (svA st00 z64 0) (svA st0 z64 0) rfl rfl (Blk.new' _ _ _ _ rfl rfl) IA.out SZ.out (svA_one _ _ _) rfl ?_))
  refine bodyPost_ret (v := .agg (svA st0 z64 0)) (results_cell_row rfl _ _ _ 136 _ (0, 0) _ rfl ((Blk.new' w 136 _ (svA st00 z64 0) rfl rfl).row_ _) Tryd.underlying136 rfl IA.out) rfl ⟨rfl, below_setRow (by (repeat' (first | (with_reducible exact Below.refl _ _) | (with_reducible assumption) | (with_reducible refine Below.alloc ?_ ?_ _) | (with_reducible refine Below.drew ?_) | (with_reducible refine below_dn ?_) | (with_reducible refine Below.setCell ?_ ?_ _) | (with_reducible exact Nat.le_refl _) | omega | (simp only [World.size_alloc, World.size_setCell, World.size_drew]; omega) | (simp; omega) | (simp; done)))) (by omega) _⟩
set_option maxRecDepth 100000 in
theorem is_zero : Is st0 z64 [] := is_begin z64 rfl (fun x hx => by rw [List.eq_of_mem_replicate hx]; decide)
def Fed0 (w : World) (l : List Nat) (e : Ending) (w' : World) : Prop := ∃ s r, Is s r l ∧ e = .returned (.agg (svA s r l.length)) ∧ Below w.heap.size w w'
set_option maxRecDepth 100000 in
theorem feed0_bytes (l : List Nat) (a : Option Addr) (cap : Nat) (w : World) (hN : l.length < 1152921504606846976) (hb : BytesA w a l) (hll : ∀ x ∈ l, x < 256) (hc : l.length ≤ cap) (hla : LaidC w) :
    Calls Tryd.prog 77 #[.agg (svA st0 z64 0), .slice a l.length cap] w (Fed0 w l) :=
  (feed_bytes st0 z64 [] l a cap w is_zero (by simpa using hN) hb hll hc hla).mono fun e w' ⟨s, r, h1, h2, h3⟩ => ⟨s, r, h1, by rw [h2]; simp, h3⟩
def FedM (w : World) (m : List Nat) (e : Ending) (w' : World) : Prop := ∃ s r, Is s r m ∧ e = .returned (.agg (svA s r m.length)) ∧ Below w.heap.size w w'
set_option maxRecDepth 100000 in
theorem feedM_bytes (s : St) (r m l : List Nat) (a : Option Addr) (cap : Nat) (w : World) (h : Is s r m) (hN : m.length + l.length < 1152921504606846976) (hb : BytesA w a l) (hll : ∀ x ∈ l, x < 256) (hc : l.length ≤ cap) (hla : LaidC w) :
    Calls Tryd.prog 77 #[.agg (svA s r m.length), .slice a l.length cap] w (FedM w (m ++ l)) :=
  (feed_bytes s r m l a cap w h hN hb hll hc hla).mono fun e w' ⟨s, r, h1, h2, h3⟩ => ⟨s, r, h1, by rw [h2, List.length_append], h3⟩
set_option maxRecDepth 100000 in
theorem feedM_string (s : St) (r m l : List Nat) (t0 : ByteArray) (w : World) (h : Is s r m) (hN : m.length + l.length < 1152921504606846976) (hb : sb t0 = l) (hla : LaidC w) :
    Calls Tryd.prog 79 #[.agg (svA s r m.length), .string t0] w (FedM w (m ++ l)) :=
  (feed_string s r m l t0 w h hN hb hla).mono fun e w' ⟨s, r, h1, h2, h3⟩ => ⟨s, r, h1, by rw [h2, List.length_append], h3⟩
set_option maxRecDepth 100000 in
theorem sha_len (m : List Nat) : (sha m).length = 32 := rfl
end Hs
end
section
namespace Hs
open Go.RowKit
set_option maxRecDepth 100000 in
theorem grown_below {B : Nat} {w0 w w' : World} {row : Option Nat} (h : Below B w0 w) (hg : w.grownBy w' row) (hrow : ∀ k, row = some k → B ≤ k) (hB : B ≤ w.heap.size) : Below B w0 w' :=
  ⟨hg.os.trans h.os, hg.tape.trans h.tape, hg.output.trans h.output, Nat.le_trans h.size hg.size, fun k hk => (hg.block k (by omega) (fun e => by have := hrow _ e.symm; omega)).trans (h.block k hk)⟩
set_option maxRecDepth 100000 in
theorem own_keep {w w' : World} {base e size n : Nat} {v : Value} {xs : List Value} (h : w.ownsRow base e size v n xs) (hk : ∀ k, base ≤ k → k < w.heap.size → w'.heap[k]? = w.heap[k]?) : w'.ownsRow base e size v n xs := by
  refine ⟨h.1, ?_⟩
  rcases h.2 with h0 | ⟨g, cap, cur, hv, hb, hg, r⟩
  · exact Or.inl h0
  · exact Or.inr ⟨g, cap, cur, hv, hb, (hk g hb (Array.getElem?_eq_some_iff.1 hg).1).trans hg, r⟩
set_option maxRecDepth 100000 in
theorem own_below {w w' : World} {base e size n : Nat} {v : Value} {xs : List Value} (h : w.ownsRow base e size v n xs) (hb : Below w.heap.size w w') : w'.ownsRow base e size v n xs :=
  own_keep h fun k _ hk => hb.block k hk
set_option maxRecDepth 100000 in
theorem own_alloc {w : World} {base e size n : Nat} {v : Value} {xs : List Value} (h : w.ownsRow base e size v n xs) (o : Obj) : (w.alloc o).ownsRow base e size v n xs :=
  own_keep h fun k _ hk => Below.heap_alloc w o k hk
set_option maxRecDepth 100000 in
theorem own_draw {w : World} {base e size n q : Nat} {v : Value} {xs : List Value} (h : w.ownsRow base e size v n xs) : (w.drewN q).ownsRow base e size v n xs := own_keep h fun _ _ _ => rfl
set_option maxRecDepth 100000 in
theorem own_lt {w : World} {base e size n : Nat} {v : Value} {xs : List Value} (h : w.ownsRow base e size v n xs) : ∀ k, v.ownBlock = some k → base ≤ k ∧ k < w.heap.size := h.lt
def OwnB (W : World) (B : Nat) (v : Value) (l : List Nat) : Prop := W.ownsRow B 5 1 v l.length (l.map bv)
set_option maxRecDepth 100000 in
theorem OwnB.nil (W : World) (B : Nat) : OwnB W B (.slice none 0 0) [] := World.ownsRow_nil W B 5 1
def Gives (B : Nat) (w : World) (l : List Nat) (e : Ending) (w' : World) : Prop := ∃ v, e = .returned v ∧ OwnB w' B v l ∧ Below B w w'
set_option maxRecDepth 100000 in
theorem infoB : (Tryd.prog.info? 5).map (fun i => (i.zero, i.size, i.bytes)) = some (some (.int .u8 0), 1, 1) := by kernel_rfl
set_option maxRecDepth 100000 in
theorem OwnB.lt {w : World} {B : Nat} {v : Value} {l : List Nat} (h : OwnB w B v l) : ∀ k, v.ownBlock = some k → B ≤ k := fun k hk => (own_lt h k hk).1
set_option maxRecDepth 100000 in
theorem wpApp {ops : Array Oper} {rest : List Oper} {o : Oper} {a : Act} {Q : Exit → Act → World → Prop} {w : World} (hgd : o.guard = none) (s x : Operand)
    (ho : o.op = .call { callee := .builtin .append, args := #[s, x], argTypes := #[138, 138] }) (B : Nat) (v : Value) (l : List Nat) (hs : a.eval s = v) (hown : OwnB w B v l) (y : Nat) (u : Value) (hu : u = bv y)
    (hx : a.eval x = .slice (some ⟨w.heap.size, 0, none⟩) 1 1) (hl : l.length ≤ 1000000000) (hB : B ≤ w.heap.size)
    (h : ∀ v' w', OwnB w' B v' (l ++ [y]) → Below B w w' → wpList Tryd.prog ops Q rest (a.put o.dst v') w') : wpList Tryd.prog ops Q (o :: rest) a (w.alloc (.cells #[u] 5)) := by
  obtain ⟨i0, hi, hz0, hz1, hz2⟩ := info_parts infoB
  subst hu
  refine wpList_append_own _ hgd s x 138 ho B 5 i0 (.int .u8 0) 1 1 Tryd.underlying138 hi hz0 hz1 hz2 rfl (by decide) v l.length (l.map bv) hs (own_alloc hown _) ⟨w.heap.size, 0, none⟩ 1 1 [bv y] hx rfl (cell_one_new _ _ _) (by simp [bv, Value.oneCell']) (by unfold maxLen; omega) (by omega) (by simp; omega) ?_
  intro v' w' h1 h2 _
  refine h v' w' ?_ (grown_below ((Below.refl _ _).alloc hB _) h2 hown.lt (by simp; omega))
  unfold OwnB
  rw [List.length_append, List.map_append]
  exact h1
section
variable {P : Program}
set_option maxRecDepth 100000 in
theorem run_app_src (w : World) (B : Nat) (t tx ty e : TypeId) (i : TypeInfo) (z : Value) (ht : P.underlying t = some (.slice e)) (hi : P.info? e = some i) (hz : i.zero = some z)
    (hzs : z.cells.size = i.size) (hsz : 0 < i.size) (v : Value) (n : Nat) (xs : List Value) (hown : w.ownsRow B e i.size v n xs) (x : Value) (m : Nat) (news : List Value) (hs : Src P i.size tx x m news w)
    (h63 : n + m ≤ maxLen) (hbytes : (n + m) * i.bytes ≤ 140737488355328) (hB : B ≤ w.heap.size) :
    ∃ v' w', (Builtin.append_ #[t, tx] ty #[v, x]).run P w = .ok v' w' ∧ w'.ownsRow B e i.size v' (n + m) (xs ++ news) ∧ w.grownBy w' v.ownBlock := by
  have hl := hs.newsLen
  have hx := hown.1
  have hlen : (xs ++ news).length = (n + m) * i.size := by rw [List.length_append, hx, hl, Nat.add_mul]
  have h64 : ((n + m : Nat) : Int) ≤ 9223372036854775807 := by unfold maxLen at h63; omega
  have grown : ∀ (old : Nat) (row : Option Nat), old < n + m → ∃ w', w' = w.drew.alloc (.cells ((xs ++ news).toArray ++ Builtin.zeroCells z.cells (grownCap w (n + m) old e - (n + m))) e) ∧
      w'.ownsRow B e i.size (.slice (some ⟨w.heap.size, 0, none⟩) (n + m) (grownCap w (n + m) old e)) (n + m) (xs ++ news) ∧ w.grownBy w' row := by
    intro old row ho
    have g1 := grownCap_ge w (n + m) old e
    refine ⟨_, rfl, ⟨hlen, .inr ⟨w.heap.size, _, _, rfl, hB, heap_alloc_new w.drew _, g1, grownCap_le_maxLen w (n + m) old e h63, ?_, ?_⟩⟩, ⟨rfl, rfl, rfl, by simp, fun k hk _ => Below.heap_alloc w.drew _ k hk⟩⟩
    · rw [Array.size_append, List.size_toArray, size_zeroCells, hzs, hlen, ← Nat.add_mul, Nat.add_sub_cancel' g1]
    · rw [Array.toList_append, ← hlen]
      exact List.take_left
  rcases hown.2 with ⟨rfl, rfl⟩ | ⟨g, cap, cur, rfl, hbg, hg, hnc, hcm, hcs, htake⟩
  · obtain rfl : xs = [] := List.eq_nil_of_length_eq_zero (by simpa using hx)
    by_cases hm : m = 0
    · subst hm
      obtain rfl : news = [] := List.eq_nil_of_length_eq_zero (by simpa using hl)
      refine ⟨.slice none 0 0, w, ?_, World.ownsRow_nil w B e i.size, ⟨rfl, rfl, rfl, Nat.le_refl _, fun _ _ _ => rfl⟩⟩
      have hc := hs.cells
      rcases hs.kind with ⟨e', hk⟩ | hk <;> simp [Builtin.append_, run_underlying ht, run_underlying hk, sizeOf, typeInfo, hi, hs.len, hc]
    · obtain ⟨w', hw', h2, h3⟩ := grown 0 (Value.ownBlock (.slice none 0 0)) (by omega)
      have hr := run_append_grow_src (P := P) w t tx ty e i z ht hi hz none 0 0 [] (run_firstCells_none w.drew i.size 0 0 0) x m news hs (by omega) (by simpa using h64) (growslice_fits (by omega) hbytes)
      exact ⟨_, w', by rw [hw']; exact hr, h2, h3⟩
  · by_cases hroom : n + m ≤ cap
    · have hfit : n * i.size + news.length ≤ cur.size := by rw [hl, hcs, ← Nat.add_mul]; exact Nat.mul_le_mul_right _ hroom
      have hst := run_storeCells_at P g (n * i.size) e news 0 cur w hg (by simpa using hfit) hs.one
      simp only [Nat.add_zero] at hst
      refine ⟨.slice (some ⟨g, 0, none⟩) (n + m) cap, w.setRow g (cur.toList.take (n * i.size) ++ news ++ cur.toList.drop (n * i.size + news.length)).toArray, ?_, ⟨hlen, .inr ⟨g, cap, _, rfl, hbg, setRow_heap w g cur _ e _ hg, hroom, hcm, ?_, ?_⟩⟩, ⟨rfl, rfl, rfl, by simp, fun k _ hk => setRow_other w g k _ (fun e => hk (by simp [Value.ownBlock, e]))⟩⟩
      · rcases hs.kind with ⟨e', hk⟩ | hk <;> simp [Builtin.append_, run_underlying ht, run_underlying hk, sizeOf, typeInfo, hi, hs.len, hroom, hs.cells, Addr.add_lit, hst]
      · simp only [List.size_toArray, List.length_append, List.length_take, List.length_drop, Array.length_toList]
        omega
      · rw [htake, ← hlen]
        exact List.take_left
    · obtain ⟨w', hw', h2, h3⟩ := grown cap (Value.ownBlock (.slice (some ⟨g, 0, none⟩) n cap)) (by omega)
      have holds : ∀ j u, xs[j]? = some u → w.drew.cell? ((⟨g, 0, none⟩ : Addr).add j) = some u := by simpa using hown.cells (g := g) rfl
      have hr := run_append_grow_src (P := P) w t tx ty e i z ht hi hz (some ⟨g, 0, none⟩) n cap xs (run_firstCells_some w.drew i.size n ⟨g, 0, none⟩ n cap xs hx holds) x m news hs (by omega) (by simpa using h64) (growslice_fits (by omega) hbytes)
      exact ⟨_, w', by rw [hw']; exact hr, h2, h3⟩
end
set_option maxRecDepth 100000 in
theorem add_off (b o j : Nat) : (⟨b, o, none⟩ : Addr).add j = ⟨b, o + j, none⟩ := by unfold Addr.add; split <;> simp_all
set_option maxRecDepth 100000 in
theorem map_at {α : Type} (f : α → Value) (l : List α) (d : α) (j : Nat) (h : j < l.length) : (l.map f)[j]? = some (f (l.getD j d)) := by
  simp [List.getD_eq_getElem?_getD, List.getElem?_eq_getElem h]
set_option maxRecDepth 100000 in
theorem getD_at {α : Type} {l : List α} {k : Nat} (d : α) (h : k < l.length) : l.getD k d = l[k] := by simp [List.getD_eq_getElem?_getD, List.getElem?_eq_getElem h]
set_option maxRecDepth 100000 in
theorem own_view {W : World} {B e size n : Nat} {v : Value} {xs : List Value} (h : W.ownsRow B e size v n xs) :
    ∃ (a : Option Addr) (cap : Nat), v = .slice a n cap ∧ n ≤ cap ∧ ∀ j, j < n * size → ∃ g, a = some ⟨g, 0, none⟩ ∧ ∀ u, xs[j]? = some u → W.cell? ⟨g, j, none⟩ = some u := by
  have h0 := h
  rcases h.2 with ⟨rfl, h1⟩ | ⟨g, cap, cur, rfl, hbg, hg, hnc, hcm, hcs, htake⟩
  · subst h1
    exact ⟨none, 0, rfl, Nat.le_refl _, fun j hj => absurd hj (by simp)⟩
  · refine ⟨some ⟨g, 0, none⟩, cap, rfl, hnc, fun j hj => ⟨g, rfl, fun u hu => ?_⟩⟩
    have := h0.cells (g := g) rfl j u hu
    rwa [add_off, Nat.zero_add] at this
set_option maxRecDepth 100000 in
theorem OwnB.view {W : World} {B : Nat} {v : Value} {l : List Nat} (h : OwnB W B v l) (hb : ∀ x ∈ l, x < 256) : ∃ a cap, v = .slice a l.length cap ∧ l.length ≤ cap ∧ BytesA W a l := by
  obtain ⟨a, cap, rfl, hc, h1⟩ := own_view h
  refine ⟨a, cap, rfl, hc, fun k hk => ?_⟩
  obtain ⟨g, rfl, h2⟩ := h1 k (by omega)
  refine ⟨g, 0, rfl, by rw [Nat.zero_add]; exact h2 _ (map_at bv l 0 k hk), ?_⟩
  rw [getD_at 0 hk]
  exact hb _ (List.getElem_mem _)
end Hs
end
section
namespace Hs
open Go.RowKit
attribute [local go_sem] zeroSt
attribute [local simp] zeroSt_ne
def IntsA (W : World) (a : Option Addr) (l : List Int) : Prop := ∀ k, k < l.length → ∃ b off, a = some ⟨b, off, none⟩ ∧ W.cell? ⟨b, off + k, none⟩ = some (.int .i64 (l.getD k 0))
set_option maxRecDepth 100000 in
theorem IntsA.mono {W W' : World} {a : Option Addr} {l : List Int} (h : IntsA W a l) (hb : Below W.heap.size W W') : IntsA W' a l := by
  intro k hk
  obtain ⟨b, off, e, h1⟩ := h k hk
  exact ⟨b, off, e, keep h1 hb⟩
set_option maxRecDepth 100000 in
theorem Blk.bytes {W : World} {g : Nat} {t : TypeId} {l : List Nat} (h : Blk W g t (bvs l)) (hl : ∀ x ∈ l, x < 256) : BytesA W (some ⟨g, 0, none⟩) l := fun k hk =>
  ⟨g, 0, rfl, by rw [Nat.zero_add, h.cell k]; exact bvs_at l k hk, getD_lt (by decide) hl k⟩
set_option maxRecDepth 100000 in
theorem array_at (g : Nat) (W : World) : (Instr.arrayAt 122 (.slice (some ⟨g, 0, none⟩) 16 32)).run Tryd.prog W = .ok (.pointer (some ⟨g, 0, none⟩)) W := by
  have hu := Tryd.underlying122
  simp [Instr.arrayAt, run_underlying hu]
end Hs
end
end Go.Proofs.YteblnmhaohbkkaaDoor
