/- Ported from another seat (wip/hash/NN.src, by wip/port.py): contracts that this chapter calls. -/
import Derived.Test.YteblnmhaohbkkaaGreatDoorQP4
namespace Go.Proofs.YteblnmhaohbkkaaGreatDoor
set_option linter.unusedVariables false
set_option linter.unusedSimpArgs false
namespace Hs
open Go.RowKit
/-- What the reference's table holds. -/
structure LaidK (W : World) : Prop where
  ks : ∀ k, k < 64 → W.cell? ⟨1, k, none⟩ = some (wv (KS.getD k 0))
set_option maxRecDepth 100000 in
theorem LaidK.mono {W W' : World} (h : LaidK W) (hb : Below W.heap.size W W') : LaidK W' := ⟨fun k hk => keep (h.ks k hk) hb⟩
set_option maxRecDepth 100000 in
theorem slice_lh (a : Option Addr) (n cap u v : Nat) (h1 : u ≤ v) (h2 : v ≤ cap) (W : World) : (Instr.slice 115 (.slice a n cap) (some (.int .i64 (u : Int))) (some (.int .i64 (v : Int))) none).run Tryz.prog W = .ok (.slice (cutA a cap u) (v - u) (cap - u)) W := by
  have ht' : Tryz.prog.underlying 115 = some (.slice (Tryz.prog.elem 115)) := by kernel_rfl
  have he : Tryz.prog.elem 115 = 5 := by kernel_rfl
  rw [run_slice_lh W 115 _ _ _ ht' .i64 .i64 _ _ (by omega) (by omega) (by omega), he, sizeOf5]
  rfl
def plusL (x y : List Nat) : Nat → List Nat
  | 0 => x
  | j + 1 => (plusL x y j).set j (add32 (x.getD j 0) (y.getD j 0))
set_option maxRecDepth 100000 in
theorem plusL_len (x y : List Nat) : ∀ j, (plusL x y j).length = x.length
  | 0 => rfl
  | j + 1 => by rw [plusL, List.length_set, plusL_len x y j]
set_option maxRecDepth 100000 in
theorem plusL_at (x y : List Nat) (k : Nat) : ∀ j, j ≤ k → (plusL x y j).getD k 0 = x.getD k 0
  | 0, _ => rfl
  | j + 1, h => by
    rw [plusL, List.getD_eq_getElem?_getD, List.getElem?_set_ne (by omega), ← List.getD_eq_getElem?_getD]
    exact plusL_at x y k j (by omega)
set_option maxRecDepth 100000 in
theorem words_len (s : St) : s.words.length = 8 := rfl
set_option maxRecDepth 100000 in
theorem bytes_at (T : St) (k : Nat) (hk : k < 32) : T.words.getD (k / 4) 0 / 2 ^ (24 - 8 * (k % 4)) % 256 = T.bytes.getD k 0 := by
  have h : ∀ j, j < 8 → ∀ r, r < 4 → T.words.getD j 0 / 2 ^ (24 - 8 * r) % 256 = T.bytes.getD (4 * j + r) 0 := fun j hj r hr => by
    rcases (by omega : j = 0 ∨ j = 1 ∨ j = 2 ∨ j = 3 ∨ j = 4 ∨ j = 5 ∨ j = 6 ∨ j = 7) with h | h | h | h | h | h | h | h <;> subst h <;>
    rcases (by omega : r = 0 ∨ r = 1 ∨ r = 2 ∨ r = 3) with h | h | h | h <;> subst h <;> simp [St.bytes, St.words, be4]
  have := h (k / 4) (by omega) (k % 4) (by omega)
  rwa [show 4 * (k / 4) + k % 4 = k by omega] at this
set_option maxRecDepth 100000 in
theorem padded_lt (l : List Nat) (h : ∀ x ∈ l, x < 256) : ∀ x ∈ padded l, x < 256 := by
  intro x hx
  unfold padded at hx
  rcases List.mem_append.1 hx with hx | hx
  · rcases List.mem_append.1 hx with hx | hx
    · rcases List.mem_append.1 hx with hx | hx
      · exact h x hx
      · simp at hx; omega
    · rw [List.eq_of_mem_replicate hx]; decide
  · exact be8_lt _ x hx
set_option maxRecDepth 100000 in
theorem OwnB.bytes {W : World} {B n cap : Nat} {a : Option Addr} {l : List Nat} (h : OwnB W B (.slice a n cap) l) (hb : ∀ x ∈ l, x < 256) : BytesA W a l := by
  obtain ⟨a', c', e, -, y⟩ := h.view hb
  injection e with e1
  subst e1
  exact y
set_option maxRecDepth 100000 in
theorem OwnB.rowfar {W : World} {B g : Nat} {v : Value} {l : List Nat} (h : OwnB W B v l) (hg : g < B) (cs : Array Value) : OwnB (W.setRow g cs) B v l :=
  own_keep h fun k h1 h2 => setRow_other W g k cs (by omega)
set_option maxRecDepth 100000 in
theorem OwnB.rownew {W : World} {B g : Nat} {v : Value} {l : List Nat} (h : OwnB W B v l) (hg : W.heap.size ≤ g) (o : Obj) (cs : Array Value) : OwnB ((W.alloc o).setRow g cs) B v l :=
  own_keep h fun k h1 h2 => (setRow_other _ g k cs (by omega)).trans (Below.heap_alloc W o k h2)
set_option maxRecDepth 100000 in
theorem OwnB.far {W : World} {B : Nat} {v : Value} {l : List Nat} (h : OwnB W B v l) {p : Addr} (hp : p.block < B) (u : Value) : OwnB (W.setCell p u) B v l :=
  own_keep h fun k h1 h2 => Below.heap_setCell W p u k (by omega)
set_option maxRecDepth 100000 in
theorem OwnB.rowat {W : World} {B g : Nat} {v : Value} {l : List Nat} (h : OwnB W B v l) (hv : ∀ k, v.ownBlock = some k → k ≠ g) (cs : Array Value) : OwnB (W.setRow g cs) B v l := by
  refine ⟨h.1, ?_⟩
  rcases h.2 with h0 | ⟨b, cap, cur, hv', hb, hg, r⟩
  · exact Or.inl h0
  · exact Or.inr ⟨b, cap, cur, hv', hb, (setRow_other W g b cs (hv b (by rw [hv']; rfl))).trans hg, r⟩
set_option maxRecDepth 100000 in
set_option maxHeartbeats 1000000 in
theorem sumref_any (a : Option Addr) (cap : Nat) (l : List Nat) (w : World) (hp : BytesA w a l) (hm : l.length ≤ 100000) (hla : LaidK w) :
    Calls Tryz.prog 99 #[.slice a l.length cap] w fun e w' => e = .returned (.agg (bvs (sha l))) ∧ Below w.heap.size w w' := by
  have LK := Lib.hid hla; have HP := Lib.hid hp
  have C46 := Lib.hid (fun (W : World) (h : BytesA W a l) => paddedref_any a cap l W h hm)
  have PT := Lib.hid (padded_lt l hp.lt)
  have hpl := padded_len l
  have SH := Lib.hid (show sha l = (blocks (padded l) ((padded l).length / 64)).bytes from rfl)
  have PB := Lib.hid (show (padded l).length ≤ 200000 by unfold padded zeros be8; simp; omega)
  obtain ⟨n0, hn0⟩ : ∃ n, l.length = n := ⟨_, rfl⟩
  rw [hn0] at C46 ⊢
  obtain ⟨P, hP⟩ : ∃ P, padded l = P := ⟨_, rfl⟩
  rw [hP] at PT hpl SH PB; simp only [hP] at C46
  obtain ⟨q, hq⟩ : ∃ q, P.length / 64 = q := ⟨_, rfl⟩
  rw [hq] at SH
  obtain ⟨tb, htb⟩ : ∃ z, sha l = z := ⟨_, rfl⟩
  rw [htb] at SH ⊢
  have PL := Lib.hid (show P.length = 64 * q by omega)
  have qb : q ≤ 4000 := by have := PB.out; omega
  have WB := Lib.hid (fun (a : Option Addr) (cap : Nat) (b : List Nat) (W : World) (h : BytesA W a b) (hb : b.length = 64) => wordsblk_any a cap b W h hb)
  clear hla hp hm hpl hn0 hP hq htb
  go_enter Tryz.func99, Tryz.ntmps99
  go_wp2_with fail
  generalize hW : World.alloc (World.alloc w _) _ = W3
  have K1 := Lib.hid (show Blk W3 (w.heap.size + 1) 123 st0.arr by rw [← hW]; exact Blk.new' _ _ _ _ (World.size_alloc _ _) rfl)
  have K0 := Lib.hid (show Blk W3 w.heap.size 132 (bvs (List.replicate 32 0)) by rw [← hW]; exact (Blk.new' w 132 _ (bvs (List.replicate 32 0)) rfl rfl).alloc _)
  have B3 := Lib.hid (show Below w.heap.size w W3 by rw [← hW]; (repeat' (first | (with_reducible exact Below.refl _ _) | (with_reducible assumption) | (with_reducible refine Below.alloc ?_ ?_ _) | (with_reducible refine Below.drew ?_) | (with_reducible refine below_dn ?_) | (with_reducible refine Below.setCell ?_ ?_ _) | (with_reducible exact Nat.le_refl _) | omega | (simp only [World.size_alloc, World.size_setCell, World.size_drew]; omega) | (simp; omega) | (simp; done))))
  have hS3 : W3.heap.size = w.heap.size + 2 := by rw [← hW]; simp
  clear hW
  refine (C46.out _ (HP.out.mono B3.out)).mono ?_
  rintro e w4 hg
  obtain ⟨v, rfl, hown, hb4⟩ := hg
  obtain ⟨ap, cp, rfl, hcp, -⟩ := hown.view PT.out
  have M1 := Lib.hid (K1.out.below hb4 K1.out.lt)
  have M0 := Lib.hid (K0.out.below hb4 K0.out.lt)
  have B4 := Lib.hid (bt B3.out hb4)
  rw [hS3] at hown
  have OW := Lib.hid hown; have HCP := Lib.hid hcp
  clear hb4 hown hcp K1 K0 B3 hS3
  obtain ⟨N, hN⟩ : ∃ N, P.length = N := ⟨_, rfl⟩
  have NQ := Lib.hid (show N = 64 * q by rw [← hN]; exact PL.out)
  have HCN := Lib.hid (show N ≤ cp by rw [← hN]; exact HCP.out)
  have NB := Lib.hid (show N ≤ 256000 by rw [NQ.out]; omega)
  rw [hN] at OW ⊢
  clear hN HCP
  go_wp2
  go_loopw [5, 6, 7, 8, 9, 10, 11] (fun u5 _ _ _ _ _ _ wr => ∃ n : Nat, n ≤ q ∧ u5 = .int .i64 ((64 * n : Nat) : Int) ∧ Hid (Blk wr (w.heap.size + 1) 123 (blocks P n).arr) ∧ Hid (Blk wr w.heap.size 132 (bvs (List.replicate 32 0))) ∧ Hid (OwnB wr (w.heap.size + 2) (.slice ap N cp) P) ∧ Hid (Below w.heap.size w wr)) (fun u5 _ _ _ _ _ _ _ => N - (intOf u5).toNat)
  case atStart => exact ⟨0, by omega, rfl, M1, M0, OW, B4⟩
  case round =>
    clear M1 M0 B4 OW
    obtain ⟨n, hnq, rfl, M1, M0, OW, hbe⟩ := hrel
    obtain ⟨U, hU⟩ : ∃ U, 64 * n = U := ⟨_, rfl⟩
    rw [hU]
    by_cases hlt : U < N
    · have hnq' : n < q := by have := NQ.out; omega
      obtain ⟨V, hV⟩ : ∃ V, U + 64 = V := ⟨_, rfl⟩
      have v1 : IntKind.i64.wrap ((U : Int) + 64) = (V : Int) := by rw [IntKind.wrap_i64]; have := NB.out; omega
      have v2 : (U : Int) + 64 = (V : Int) := by omega
      have v3 : IntKind.i64.wrap (V : Int) = (V : Int) := by rw [IntKind.wrap_i64]; have := NB.out; omega
      have SLI := fun (W : World) => slice_lh ap N cp U V (by omega) (by have := HCN.out; have := NQ.out; omega) W
      rw [show V - U = 64 by omega] at SLI
      have p0 : (0 : Int) ≤ (U : Int) := by omega
      have HVU := Lib.hid hV
      have bl : ((P.drop U).take 64).length = 64 := by rw [List.length_take, List.length_drop, PL.out]; omega
      have wb := fun (W : World) (h : BytesA W ap P) => WB.out (cutA ap cp U) (cp - U) ((P.drop U).take 64) W (cutA_bytes h (by rw [PL.out, ← NQ.out]; exact HCN.out) 64 (by rw [PL.out]; omega)) bl
      have hcm : blocks P (n + 1) = comp (blocks P n) ((P.drop U).take 64) := by rw [blocks, hU]
      have sok := blocks_ok P n
      have SN := Lib.hid (sched_len ((P.drop U).take 64) 64)
      have sl := getD_lt (by decide : 0 < 4294967296) (sched_lt ((P.drop U).take 64) (getD_lt (by decide) fun x hx => PT.out x (List.mem_of_mem_drop (List.mem_of_mem_take hx))) 64)
      have hcp2 : comp (blocks P n) ((P.drop U).take 64) = (blocks P n).plus (rounds (sched ((P.drop U).take 64) 64) (blocks P n) 64) := rfl
      rw [hcp2] at hcm
      obtain ⟨s, hs⟩ : ∃ s, blocks P n = s := ⟨_, rfl⟩
      rw [hs] at hcm sok M1
      obtain ⟨ws, hws⟩ : ∃ ws, sched ((P.drop U).take 64) 64 = ws := ⟨_, rfl⟩
      simp only [hws] at wb
      rw [hws] at hcm SN; simp only [hws] at sl
      have HCM := Lib.hid hcm; have WBC := Lib.hid wb; have SOK := Lib.hid sok; have SLT := Lib.hid sl
      have HV := Lib.hid (rounds_ok ws sok)
      have YR := Lib.hid (OW.out.bytes PT.out)
      have HU := Lib.hid hU
      have iw : (Tryz.prog.info? 147).map (·.size) = some (wvs ws).size := by rw [wvs_size, SN.out]; kernel_rfl
      have sw : (wvs (List.replicate 64 0)).size = (wvs ws).size := by rw [wvs_size, wvs_size, SN.out]; rfl
      have IW := Lib.hid iw; have SW := Lib.hid sw
      have IA50 := Lib.hid (show (Tryz.prog.info? 123).map (·.size) = some s.arr.size by kernel_rfl)
      have SA50 := Lib.hid (show (wvs (List.replicate 8 0)).size = s.arr.size from rfl)
      have ON50 := Lib.hid (arr_one s)
      clear hcm wb sok sl hs hws hcp2 bl hU hV iw sw
      go_wp2_with fail
      refine (WBC.out _ YR.out).mono ?_
      rintro e w5 ⟨rfl, hb5⟩
      have J1 := Lib.hid (M1.out.below hb5 M1.out.lt)
      have J0 := Lib.hid (M0.out.below hb5 M0.out.lt)
      have JO := Lib.hid (show OwnB w5 _ _ _ from own_below OW.out hb5)
      have B5 := Lib.hid (bt hbe.out hb5)
      have z5 : w.heap.size + 2 ≤ w5.heap.size := by have := M1.out.lt; have := hb5.size; omega
      clear hb5 M1 M0 OW hbe YR WBC SLI
      go_wp2_with (first | (with_reducible refine wpList_store_blk rfl _ _ _ rfl w5.heap.size 147 (wvs (List.replicate 64 0)) _ rfl rfl (Blk.new' _ _ _ _ rfl rfl) IW.out SW.out (wvs_one _) rfl ?_) | (with_reducible refine wpList_load_blk rfl _ _ rfl (w.heap.size + 1) rfl 123 _ _ _ ((J1.out.alloc _).rowfar (by omega) _) Tryz.underlying123 IA50.out ?_) | (with_reducible refine wpList_store_blk rfl _ _ _ rfl (w5.heap.size + 1) 123 (wvs (List.replicate 8 0)) s.arr rfl rfl (Blk.new' _ _ _ _ ((setRow_size _ _ _).trans (World.size_alloc _ _)) rfl) IA50.out SA50.out ON50.out rfl ?_))
      generalize hW : World.setRow _ (w5.heap.size + 1) s.arr = W7
      have K7 := Lib.hid (show Blk W7 (w5.heap.size + 1) 123 s.arr by rw [← hW]; exact Blk.row_ (cs := wvs (List.replicate 8 0)) (t := 123) (Blk.new' _ _ _ _ ((setRow_size _ _ _).trans (World.size_alloc _ _)) rfl) _)
      have K6 := Lib.hid (show Blk W7 w5.heap.size 147 (wvs ws) by rw [← hW]; exact Blk.rowfar (Blk.alloc (Blk.row_ (cs := wvs (List.replicate 64 0)) (Blk.new' _ _ _ _ rfl rfl) _) _) (by omega) _)
      have K1 := Lib.hid (show Blk W7 (w.heap.size + 1) 123 s.arr by rw [← hW]; exact (((J1.out.alloc _).rowfar (by omega) _).alloc _).rowfar (by omega) _)
      have K0 := Lib.hid (show Blk W7 w.heap.size 132 (bvs (List.replicate 32 0)) by rw [← hW]; exact (((J0.out.alloc _).rowfar (by omega) _).alloc _).rowfar (by omega) _)
      have KO := Lib.hid (show OwnB W7 (w.heap.size + 2) (.slice ap N cp) P by rw [← hW]; exact OwnB.rownew (OwnB.rownew JO.out (Nat.le_refl _) _ _) (by rw [setRow_size, World.size_alloc]; omega) _ _)
      have B7 := Lib.hid (show Below w.heap.size w W7 by rw [← hW]; exact below_setRow (Below.alloc (below_setRow (B5.out.alloc B5.out.size _) B5.out.size _) (by rw [setRow_size, World.size_alloc]; omega) _) (by omega) _)
      have HOB := Lib.hid (show ∀ k, (Value.slice ap N cp).ownBlock = some k → k < w5.heap.size from fun k hk => (own_lt (show World.ownsRow w5 _ _ _ _ _ _ from JO.out) k hk).2)
      obtain ⟨G, hG⟩ : ∃ G, w5.heap.size = G := ⟨_, rfl⟩
      rw [hG] at K7 K6 z5 HOB ⊢
      clear hW hG J1 J0 JO B5 IW SW IA50 SA50 ON50
      go_loopw [8, 9, 10] (fun u8 _ _ wx => ∃ (t : Nat) (v : St), t ≤ 64 ∧ u8 = .int .i64 t ∧ Hid (rounds ws s t = v) ∧ Hid (Blk wx (G + 1) 123 v.arr) ∧ Hid (Blk wx G 147 (wvs ws)) ∧ Hid (Blk wx (w.heap.size + 1) 123 s.arr) ∧ Hid (Blk wx w.heap.size 132 (bvs (List.replicate 32 0))) ∧ Hid (OwnB wx (w.heap.size + 2) (.slice ap N cp) P) ∧ Hid (Below w.heap.size w wx)) (fun u8 _ _ _ => 64 - (intOf u8).toNat)
      case atStart => exact ⟨0, s, by omega, rfl, Lib.hid rfl, K7, K6, K1, K0, KO, B7⟩
      case round =>
        clear K7 K6 K1 K0 KO B7
        obtain ⟨t, v, ht, rfl, hv, J7, J6, J1, J0, JO, hbe⟩ := hrel
        by_cases hlt : t < 64
        · have vok := HV.out t
          rw [hv.out] at vok
          have hnx : rounds ws s (t + 1) = rnd v (KS.getD t 0) (ws.getD t 0) := by rw [rounds, hv.out]
          clear hv
          obtain ⟨a, b', c, d, e, f, g, h⟩ := v
          obtain ⟨va, vb, vc, vd, ve, vf, vg, vh⟩ := vok
          dsimp only at va vb vc vd ve vf vg vh
          have dk0 := (LK.out.mono hbe.out).ks t hlt
          have dw0 := (J6.out).cell t |>.trans (wvs_at ws t (by rw [SN.out]; exact hlt))
          obtain ⟨kt, hkt⟩ : ∃ x, KS.getD t 0 = x := ⟨_, rfl⟩
          obtain ⟨wt, hwt⟩ : ∃ x, ws.getD t 0 = x := ⟨_, rfl⟩
          rw [hkt] at dk0 hnx
          rw [hwt] at dw0 hnx
          have hx : tx ⟨a, b', c, d, e, f, g, h⟩ kt wt = add32 (add32 (add32 (add32 h ((rotr e 6 ^^^ rotr e 11) ^^^ rotr e 25)) ((e &&& f) ^^^ ((e ^^^ 4294967295) &&& g))) kt) wt := rfl
          have hy : ty ⟨a, b', c, d, e, f, g, h⟩ = add32 ((rotr a 2 ^^^ rotr a 13) ^^^ rotr a 22) (((a &&& b') ^^^ (a &&& c)) ^^^ (b' &&& c)) := rfl
          have v1 : bits .xor .u32 (rotr e 6 : Int) (rotr e 11 : Int) = ((rotr e 6 ^^^ rotr e 11 : Nat) : Int) := u32_xor_nat _ _ (rotr_lt _ _ ve) (rotr_lt _ _ ve)
          have w1 : rotr e 6 ^^^ rotr e 11 < 4294967296 := xor32 (rotr_lt _ _ ve) (rotr_lt _ _ ve)
          obtain ⟨R1, eR1⟩ : ∃ x, rotr e 6 ^^^ rotr e 11 = x := ⟨_, rfl⟩
          rw [eR1] at v1 w1 hx
          have v2 : bits .xor .u32 (R1 : Int) (rotr e 25 : Int) = ((R1 ^^^ rotr e 25 : Nat) : Int) := u32_xor_nat _ _ w1 (rotr_lt _ _ ve)
          have w2 : R1 ^^^ rotr e 25 < 4294967296 := xor32 w1 (rotr_lt _ _ ve)
          obtain ⟨R2, eR2⟩ : ∃ x, R1 ^^^ rotr e 25 = x := ⟨_, rfl⟩
          rw [eR2] at v2 w2 hx
          have v3 : bits .and .u32 (e : Int) (f : Int) = ((e &&& f : Nat) : Int) := u32_and_nat _ _ ve vf
          have w3 : e &&& f < 4294967296 := and32 vf
          obtain ⟨N1, eN1⟩ : ∃ x, e &&& f = x := ⟨_, rfl⟩
          rw [eN1] at v3 w3 hx
          have v4 : bits .xor .u32 (e : Int) 4294967295 = ((e ^^^ 4294967295 : Nat) : Int) := u32_xor_nat e 4294967295 ve (by decide)
          have w4 : e ^^^ 4294967295 < 4294967296 := xor32 ve (by decide)
          obtain ⟨N2, eN2⟩ : ∃ x, e ^^^ 4294967295 = x := ⟨_, rfl⟩
          rw [eN2] at v4 w4 hx
          have v5 : bits .and .u32 (N2 : Int) (g : Int) = ((N2 &&& g : Nat) : Int) := u32_and_nat _ _ w4 vg
          have w5 : N2 &&& g < 4294967296 := and32 vg
          obtain ⟨N3, eN3⟩ : ∃ x, N2 &&& g = x := ⟨_, rfl⟩
          rw [eN3] at v5 w5 hx
          have v6 : bits .xor .u32 (N1 : Int) (N3 : Int) = ((N1 ^^^ N3 : Nat) : Int) := u32_xor_nat _ _ w3 w5
          have w6 : N1 ^^^ N3 < 4294967296 := xor32 w3 w5
          obtain ⟨N4, eN4⟩ : ∃ x, N1 ^^^ N3 = x := ⟨_, rfl⟩
          rw [eN4] at v6 w6 hx
          have v7 : bits .and .u32 (a : Int) (b' : Int) = ((a &&& b' : Nat) : Int) := u32_and_nat _ _ va vb
          have w7 : a &&& b' < 4294967296 := and32 vb
          obtain ⟨M1, eM1⟩ : ∃ x, a &&& b' = x := ⟨_, rfl⟩
          rw [eM1] at v7 w7 hy
          have v8 : bits .and .u32 (a : Int) (c : Int) = ((a &&& c : Nat) : Int) := u32_and_nat _ _ va vc
          have w8 : a &&& c < 4294967296 := and32 vc
          obtain ⟨M2, eM2⟩ : ∃ x, a &&& c = x := ⟨_, rfl⟩
          rw [eM2] at v8 w8 hy
          have v9 : bits .and .u32 (b' : Int) (c : Int) = ((b' &&& c : Nat) : Int) := u32_and_nat _ _ vb vc
          have w9 : b' &&& c < 4294967296 := and32 vc
          obtain ⟨M3, eM3⟩ : ∃ x, b' &&& c = x := ⟨_, rfl⟩
          rw [eM3] at v9 w9 hy
          have v10 : bits .xor .u32 (M1 : Int) (M2 : Int) = ((M1 ^^^ M2 : Nat) : Int) := u32_xor_nat _ _ w7 w8
          have w10 : M1 ^^^ M2 < 4294967296 := xor32 w7 w8
          obtain ⟨M4, eM4⟩ : ∃ x, M1 ^^^ M2 = x := ⟨_, rfl⟩
          rw [eM4] at v10 w10 hy
          have v11 : bits .xor .u32 (M4 : Int) (M3 : Int) = ((M4 ^^^ M3 : Nat) : Int) := u32_xor_nat _ _ w10 w9
          have w11 : M4 ^^^ M3 < 4294967296 := xor32 w10 w9
          obtain ⟨M5, eM5⟩ : ∃ x, M4 ^^^ M3 = x := ⟨_, rfl⟩
          rw [eM5] at v11 w11 hy
          have v12 : bits .xor .u32 (rotr a 2 : Int) (rotr a 13 : Int) = ((rotr a 2 ^^^ rotr a 13 : Nat) : Int) := u32_xor_nat _ _ (rotr_lt _ _ va) (rotr_lt _ _ va)
          have w12 : rotr a 2 ^^^ rotr a 13 < 4294967296 := xor32 (rotr_lt _ _ va) (rotr_lt _ _ va)
          obtain ⟨R3, eR3⟩ : ∃ x, rotr a 2 ^^^ rotr a 13 = x := ⟨_, rfl⟩
          rw [eR3] at v12 w12 hy
          have v13 : bits .xor .u32 (R3 : Int) (rotr a 22 : Int) = ((R3 ^^^ rotr a 22 : Nat) : Int) := u32_xor_nat _ _ w12 (rotr_lt _ _ va)
          have w13 : R3 ^^^ rotr a 22 < 4294967296 := xor32 w12 (rotr_lt _ _ va)
          obtain ⟨R4, eR4⟩ : ∃ x, R3 ^^^ rotr a 22 = x := ⟨_, rfl⟩
          rw [eR4] at v13 w13 hy
          have sP1 := add_val h R2
          have tP1 := add_mod h R2
          obtain ⟨P1, eP1⟩ : ∃ x, add32 h R2 = x := ⟨_, rfl⟩
          rw [eP1] at sP1 tP1 hx
          have sP2 := add_val P1 N4
          have tP2 := add_mod P1 N4
          obtain ⟨P2, eP2⟩ : ∃ x, add32 P1 N4 = x := ⟨_, rfl⟩
          rw [eP2] at sP2 tP2 hx
          have sP3 := add_val P2 kt
          have tP3 := add_mod P2 kt
          obtain ⟨P3, eP3⟩ : ∃ x, add32 P2 kt = x := ⟨_, rfl⟩
          rw [eP3] at sP3 tP3 hx
          have sX := add_val P3 wt
          have tX := add_mod P3 wt
          obtain ⟨X, eX⟩ : ∃ x, add32 P3 wt = x := ⟨_, rfl⟩
          rw [eX] at sX tX hx
          have sY := add_val R4 M5
          have tY := add_mod R4 M5
          obtain ⟨Y, eY⟩ : ∃ x, add32 R4 M5 = x := ⟨_, rfl⟩
          rw [eY] at sY tY hy
          have hr : rnd ⟨a, b', c, d, e, f, g, h⟩ kt wt = ⟨add32 (tx ⟨a, b', c, d, e, f, g, h⟩ kt wt) (ty ⟨a, b', c, d, e, f, g, h⟩), a, b', c, add32 d (tx ⟨a, b', c, d, e, f, g, h⟩ kt wt), e, f, g⟩ := rfl
          rw [hr, hx, hy] at hnx
          have sA := add_val X Y
          have tA := add_mod X Y
          obtain ⟨A, eA⟩ : ∃ x, add32 X Y = x := ⟨_, rfl⟩
          rw [eA] at sA tA hnx
          have sD := add_val d X
          have tD := add_mod d X
          obtain ⟨D, eD⟩ : ∃ x, add32 d X = x := ⟨_, rfl⟩
          rw [eD] at sD tD hnx
          have c6 := Lib.hid (fun W : World => rotref6 e W ve)
          have c11 := Lib.hid (fun W : World => rotref11 e W ve)
          have c25 := Lib.hid (fun W : World => rotref25 e W ve)
          have c2 := Lib.hid (fun W : World => rotref2 a W va)
          have c13 := Lib.hid (fun W : World => rotref13 a W va)
          have c22 := Lib.hid (fun W : World => rotref22 a W va)
          obtain ⟨r6, h6⟩ : ∃ r, rotr e 6 = r := ⟨_, rfl⟩
          obtain ⟨r11, h11⟩ : ∃ r, rotr e 11 = r := ⟨_, rfl⟩
          obtain ⟨r25, h25⟩ : ∃ r, rotr e 25 = r := ⟨_, rfl⟩
          obtain ⟨r2, h2⟩ : ∃ r, rotr a 2 = r := ⟨_, rfl⟩
          obtain ⟨r13, h13⟩ : ∃ r, rotr a 13 = r := ⟨_, rfl⟩
          obtain ⟨r22, h22⟩ : ∃ r, rotr a 22 = r := ⟨_, rfl⟩
          rw [h6] at c6 v1; rw [h11] at c11 v1; rw [h25] at c25 v2; rw [h2] at c2 v12; rw [h13] at c13 v12; rw [h22] at c22 v13
          have it : (t : Int) < 64 := by omega
          have pt : (0 : Int) ≤ (t : Int) := by omega
          have NX := Lib.hid hnx
          have d0 := J7.out.cell 0
          have d1 := J7.out.cell 1
          have d2 := J7.out.cell 2
          have d3 := J7.out.cell 3
          have d4 := J7.out.cell 4
          have d5 := J7.out.cell 5
          have d6 := J7.out.cell 6
          have d7 := J7.out.cell 7
          change _ = some (wv a) at d0
          change _ = some (wv b') at d1
          change _ = some (wv c) at d2
          change _ = some (wv d) at d3
          change _ = some (wv e) at d4
          change _ = some (wv f) at d5
          change _ = some (wv g) at d6
          change _ = some (wv h) at d7
          clear hkt hwt hx hy hr hnx h6 h11 h25 h2 h13 h22 va vb vc vd ve vf vg vh eR1 w1 eR2 w2 eN1 w3 eN2 w4 eN3 w5 eN4 w6 eM1 w7 eM2 w8 eM3 w9 eM4 w10 eM5 w11 eR3 w12 eR4 w13 eP1 eP2 eP3 eX eY eA eD
          go_wp2
          go_quiet ((go_at_call 105; first | (with_reducible exact Calls.quiet_of (c6.out _)) | (with_reducible exact Calls.quiet_of (c11.out _)) | (with_reducible exact Calls.quiet_of (c25.out _))))
          go_wp2
          generalize hWX : World.drewN _ _ = wx
          have J7 : Hid (Blk wx (G + 1) 123 (St.arr ⟨a, b', c, d, e, f, g, h⟩)) := Lib.hid (by rw [← hWX]; exact J7.out.drewN _)
          have J6 : Hid (Blk wx G 147 (wvs ws)) := Lib.hid (by rw [← hWX]; exact J6.out.drewN _)
          have J1 : Hid (Blk wx (w.heap.size + 1) 123 s.arr) := Lib.hid (by rw [← hWX]; exact J1.out.drewN _)
          have J0 : Hid (Blk wx w.heap.size 132 (bvs (List.replicate 32 0))) := Lib.hid (by rw [← hWX]; exact J0.out.drewN _)
          have JO : Hid (OwnB wx (w.heap.size + 2) (.slice ap N cp) P) := Lib.hid (by rw [← hWX]; exact own_draw JO.out)
          have hbe : Hid (Below w.heap.size w wx) := Lib.hid (by rw [← hWX]; exact below_dn hbe.out)
          clear hWX d0 d1 d2 d3 d4 d5 d6 d7 dk0 dw0 c6 c11 c25
          have d0 := J7.out.cell 0
          have d1 := J7.out.cell 1
          have d2 := J7.out.cell 2
          have d3 := J7.out.cell 3
          have d4 := J7.out.cell 4
          have d5 := J7.out.cell 5
          have d6 := J7.out.cell 6
          change _ = some (wv a) at d0
          change _ = some (wv b') at d1
          change _ = some (wv c) at d2
          change _ = some (wv d) at d3
          change _ = some (wv e) at d4
          change _ = some (wv f) at d5
          change _ = some (wv g) at d6
          have IZ := Lib.hid (show (Tryz.prog.info? 123).map (·.size) = some (#[wv A, wv a, wv b', wv c, wv D, wv e, wv f, wv g] : Array Value).size by kernel_rfl)
          have IY := Lib.hid (show (St.arr ⟨a, b', c, d, e, f, g, h⟩).size = (#[wv A, wv a, wv b', wv c, wv D, wv e, wv f, wv g] : Array Value).size from rfl)
          have IX := Lib.hid (show (#[wv A, wv a, wv b', wv c, wv D, wv e, wv f, wv g] : Array Value).all (·.oneCell') = true by simp [Value.oneCell'])
          go_quiet ((go_at_call 105; first | (with_reducible exact Calls.quiet_of (c2.out _)) | (with_reducible exact Calls.quiet_of (c13.out _)) | (with_reducible exact Calls.quiet_of (c22.out _))))
          go_wp2_with (first | (with_reducible refine wpList_store_blk rfl _ _ _ rfl (G + 1) 123 (St.arr ⟨a, b', c, d, e, f, g, h⟩) #[wv A, wv a, wv b', wv c, wv D, wv e, wv f, wv g] rfl rfl (J7.out.drewN _) IZ.out IY.out IX.out rfl ?_) | fail)
          go_roundw
          case rel => exact ⟨t + 1, ⟨A, a, b', c, D, e, f, g⟩, by omega, by go_num, NX, Lib.hid ((J7.out.drewN _).row_ _), Lib.hid ((J6.out.drewN _).rowfar (by omega) _), Lib.hid ((J1.out.drewN _).rowfar (by omega) _), Lib.hid ((J0.out.drewN _).rowfar (by omega) _), Lib.hid (OwnB.rowat (own_draw JO.out) (fun k hk => by have := HOB.out k hk; omega) _), Lib.hid (below_setRow (below_dn hbe.out) (by omega) _)⟩
          case measure => simp [intOf]; omega
        · have hv' := hv.out
          rw [show t = 64 by omega] at hv'
          have hcm := HCM.out
          rw [hv'] at hcm
          have E8 := Lib.hid (show wvs (plusL s.words v.words 8) = (blocks P (n + 1)).arr by rw [hcm]; rfl)
          have L1 : Hid (Blk _ (w.heap.size + 1) 123 (wvs (plusL s.words v.words 0))) := Lib.hid (show Blk _ _ _ _ from J1.out)
          have L7 : Hid (Blk _ (G + 1) 123 (wvs v.words)) := Lib.hid (show Blk _ _ _ _ from J7.out)
          have lx := words_len s
          have ly := words_len v
          obtain ⟨x, hx⟩ : ∃ x, s.words = x := ⟨_, rfl⟩
          obtain ⟨y, hy⟩ : ∃ x, v.words = x := ⟨_, rfl⟩
          rw [hx] at lx E8 L1; rw [hy] at ly E8 L1 L7
          have LX := Lib.hid lx; have LY := Lib.hid ly
          clear hv' hcm hx hy lx ly hv J1 J7 J6
          go_wp2
          go_loopw [11] (fun u11 wz => ∃ j : Nat, j ≤ 8 ∧ u11 = .int .i64 j ∧ Hid (Blk wz (w.heap.size + 1) 123 (wvs (plusL x y j))) ∧ Hid (Blk wz (G + 1) 123 (wvs y)) ∧ Hid (Blk wz w.heap.size 132 (bvs (List.replicate 32 0))) ∧ Hid (OwnB wz (w.heap.size + 2) (.slice ap N cp) P) ∧ Hid (Below w.heap.size w wz)) (fun u11 _ => 8 - (intOf u11).toNat)
          case atStart => exact ⟨0, by omega, rfl, L1, L7, J0, JO, hbe⟩
          case round =>
            clear L1 L7 J0 JO hbe
            obtain ⟨j, hj, rfl, L1, L7, J0, JO, hbe⟩ := hrel
            by_cases hlt : j < 8
            · have dx := (L1.out.cell j).trans (wvs_at _ j (by rw [plusL_len, LX.out]; exact hlt))
              rw [plusL_at x y j j (Nat.le_refl _)] at dx
              have dy := (L7.out.cell j).trans (wvs_at _ j (by rw [LY.out]; exact hlt))
              have fr := L1.out.frozen j
              have hnx : plusL x y (j + 1) = (plusL x y j).set j (add32 (x.getD j 0) (y.getD j 0)) := rfl
              obtain ⟨xj, hxj⟩ : ∃ z, x.getD j 0 = z := ⟨_, rfl⟩
              obtain ⟨yj, hyj⟩ : ∃ z, y.getD j 0 = z := ⟨_, rfl⟩
              rw [hxj] at dx hnx; rw [hyj] at dy hnx
              have s1 := add_val xj yj
              have s2 := add_mod xj yj
              obtain ⟨S, hS⟩ : ∃ z, add32 xj yj = z := ⟨_, rfl⟩
              rw [hS] at s1 s2 hnx
              have NX := Lib.hid hnx
              have ij : (j : Int) < 8 := by omega
              have pj : (0 : Int) ≤ (j : Int) := by omega
              clear hxj hyj hS hnx
              go_wp2
              refine wp_region_still_tail 9 (by kernel_rfl) (by kernel_rfl) ?_
              simp only [List.take_succ_cons, List.take_zero, List.drop_succ_cons, List.drop_zero]
              show wpStill _ _ (World.drew _) _ _ _
              repeat still_step
              refine wpStill_nil ?_
              show wpList _ _ _ _ _ (World.drew _)
              go_wp2
              go_roundw
              case rel =>
                refine ⟨j + 1, by omega, by go_num, Lib.hid ?_, Lib.hid (L7.out.drew.far (by simp; omega) _), Lib.hid (J0.out.drew.far (by simp) _), Lib.hid (OwnB.far (own_keep JO.out fun _ _ _ => rfl) (by simp) _), Lib.hid ?_⟩
                · have := L1.out.drew.set_ j (wv S)
                  rw [wvs_set, ← NX.out] at this
                  exact this
                · have := hbe.out; (repeat' (first | (with_reducible exact Below.refl _ _) | (with_reducible assumption) | (with_reducible refine Below.alloc ?_ ?_ _) | (with_reducible refine Below.drew ?_) | (with_reducible refine below_dn ?_) | (with_reducible refine Below.setCell ?_ ?_ _) | (with_reducible exact Nat.le_refl _) | omega | (simp only [World.size_alloc, World.size_setCell, World.size_drew]; omega) | (simp; omega) | (simp; done)))
              case measure => simp [intOf]; omega
            · have hj8 : j = 8 := by omega
              rw [hj8, E8.out] at L1
              go_wp2
              go_roundw
              case rel => exact ⟨n + 1, by omega, congrArg (fun z : Nat => Value.int .i64 (z : Int)) (show V = 64 * (n + 1) by have := HVU.out; have := HU.out; omega), L1, J0, JO, hbe⟩
              case measure => have := HVU.out; simp [intOf]; omega
    · have hn : n = q := by have := NQ.out; omega
      have hsh := SH.out
      rw [← hn] at hsh
      have ba := fun k hk => bytes_at (blocks P n) k hk
      have bl : (blocks P n).bytes.length = 32 := rfl
      have wl := words_len (blocks P n)
      have L1 : Hid (Blk _ (w.heap.size + 1) 123 (wvs (blocks P n).words)) := Lib.hid (show Blk _ _ _ _ from M1.out)
      rw [← hsh] at bl; simp only [← hsh] at ba
      obtain ⟨tw, htw⟩ : ∃ z, (blocks P n).words = z := ⟨_, rfl⟩
      rw [htw] at L1 wl; simp only [htw] at ba
      have BA := Lib.hid ba; have BL := Lib.hid bl; have WL := Lib.hid wl
      have zg : w.heap.size + 2 ≤ wr.heap.size := by have := M1.out.lt; omega
      obtain ⟨G, hG⟩ : ∃ G, wr.heap.size = G := ⟨_, rfl⟩
      have R0 := Lib.hid (show Blk (wr.alloc (.cells (bvs (List.replicate 32 0)) 132)) G 132 (bvs (pad 32 (tb.take 0))) from Blk.new' _ _ _ _ hG rfl)
      have K1 := Lib.hid (L1.out.alloc (.cells (bvs (List.replicate 32 0)) 132))
      have K0 := Lib.hid (M0.out.alloc (.cells (bvs (List.replicate 32 0)) 132))
      have B0 := Lib.hid (hbe.out.alloc hbe.out.size (.cells (bvs (List.replicate 32 0)) 132))
      rw [hG] at zg
      clear hn hsh ba bl wl M1 htw L1 M0 hbe OW hU
      go_wp2
      (try rw [hG])
      clear hG
      go_loopw [13] (fun u13 wz => ∃ k : Nat, k ≤ 32 ∧ u13 = .int .i64 k ∧ Hid (Blk wz (w.heap.size + 1) 123 (wvs tw)) ∧ Hid (Blk wz w.heap.size 132 (bvs (List.replicate 32 0))) ∧ Hid (Blk wz G 132 (bvs (pad 32 (tb.take k)))) ∧ Hid (Below w.heap.size w wz)) (fun u13 _ => 32 - (intOf u13).toNat)
      case atStart => exact ⟨0, by omega, rfl, K1, K0, R0, B0⟩
      case round =>
        clear K1 K0 R0 B0
        obtain ⟨k, hk, rfl, K1, K0, R0, hbe⟩ := hrel
        by_cases hlt : k < 32
        · have hb := BA.out k hlt
          have dk := (R0.out.cell k).trans (bvs_at _ k (by rw [pad_len _ _ (by rw [List.length_take]; omega)]; exact hlt))
          have fr := R0.out.frozen k
          have lk : (tb.take k).length = k := by rw [List.length_take, BL.out]; omega
          have tk : tb.take (k + 1) = tb.take k ++ [tb.getD k 0] := by
            rw [List.take_add_one, List.getElem?_eq_getElem (by rw [BL.out]; exact hlt), List.getD_eq_getElem?_getD, List.getElem?_eq_getElem (by rw [BL.out]; exact hlt)]
            rfl
          have ps := pad_set 32 (tb.take k) (tb.getD k 0) (by rw [lk]; exact hlt)
          rw [lk, ← tk] at ps
          obtain ⟨Y, hY⟩ : ∃ z, tb.getD k 0 = z := ⟨_, rfl⟩
          obtain ⟨od, hod⟩ : ∃ z, (pad 32 (tb.take k)).getD k 0 = z := ⟨_, rfl⟩
          rw [hY] at hb ps; rw [hod] at dk
          obtain ⟨Q, hQ⟩ : ∃ z, k / 4 = z := ⟨_, rfl⟩
          obtain ⟨R, hR⟩ : ∃ z, k % 4 = z := ⟨_, rfl⟩
          rw [hQ, hR] at hb
          have dq := (K1.out.cell Q).trans (wvs_at _ Q (by rw [WL.out]; omega))
          obtain ⟨xq, hxq⟩ : ∃ z, tw.getD Q 0 = z := ⟨_, rfl⟩
          rw [hxq] at dq hb
          obtain ⟨E, hE⟩ : ∃ z, 8 * R = z := ⟨_, rfl⟩
          rw [hE] at hb
          obtain ⟨S, hS⟩ : ∃ z, 24 - E = z := ⟨_, rfl⟩
          rw [hS] at hb
          have R4 : R < 4 := by omega
          have e1 : (k : Int) / 4 = (Q : Int) := by omega
          have e2 : (k : Int).tdiv 4 = (Q : Int) := by rw [Int.tdiv_eq_ediv_of_nonneg (by omega)]; exact e1
          have e3 : (k : Int) % 4 = (R : Int) := by omega
          have e4 : (k : Int).tmod 4 = (R : Int) := by rw [Int.tmod_eq_emod_of_nonneg (by omega)]; exact e3
          have e5 : (8 : Int) * (R : Int) = (E : Int) := by omega
          have e6 : (24 : Int) - (E : Int) = (S : Int) := by omega
          have wQ : IntKind.i64.wrap (Q : Int) = (Q : Int) := by rw [IntKind.wrap_i64]; omega
          have wR : IntKind.i64.wrap (R : Int) = (R : Int) := by rw [IntKind.wrap_i64]; omega
          have wE : IntKind.i64.wrap (E : Int) = (E : Int) := by rw [IntKind.wrap_i64]; omega
          have wS : IntKind.i64.wrap (S : Int) = (S : Int) := by rw [IntKind.wrap_i64]; omega
          have Q8 : (Q : Int) < 8 := by omega
          have Q0 : (0 : Int) ≤ (Q : Int) := by omega
          have k32 : (k : Int) < 32 := by omega
          have k0 : (0 : Int) ≤ (k : Int) := by omega
          have S0 : (0 : Int) ≤ (S : Int) := by omega
          have SB : S ≤ 24 := by omega
          have h1 : (xq : Int) / 2 ^ S % 256 = (Y : Int) := by rw [← hb]; simp
          have PS := Lib.hid ps
          clear hb lk tk ps hY hod hQ hR hxq hE hS
          go_wp2
          go_roundw
          case rel =>
            refine ⟨k + 1, by omega, by go_num, Lib.hid (K1.out.far (by simp; omega) _), Lib.hid (K0.out.far (by simp; omega) _), Lib.hid ?_, Lib.hid ?_⟩
            · have := R0.out.set_ k (bv Y)
              rw [bvs_set, PS.out] at this
              exact this
            · have := hbe.out; (repeat' (first | (with_reducible exact Below.refl _ _) | (with_reducible assumption) | (with_reducible refine Below.alloc ?_ ?_ _) | (with_reducible refine Below.drew ?_) | (with_reducible refine below_dn ?_) | (with_reducible refine Below.setCell ?_ ?_ _) | (with_reducible exact Nat.le_refl _) | omega | (simp only [World.size_alloc, World.size_setCell, World.size_drew]; omega) | (simp; omega) | (simp; done)))
          case measure => simp [intOf]; omega
        · have hk32 : k = 32 := by omega
          rw [hk32, List.take_of_length_le (by rw [BL.out]; omega), pad_full _ _ BL.out] at R0
          have IA := Lib.hid (show (Tryz.prog.info? 132).map (·.size) = some (bvs tb).size by rw [bvs_size, BL.out]; kernel_rfl)
          have SZ := Lib.hid (show (bvs (List.replicate 32 0)).size = (bvs tb).size by rw [bvs_size, bvs_size, BL.out]; rfl)
          go_wp2_with (first | (with_reducible refine wpList_load_blk rfl _ _ rfl _ rfl 132 _ _ _ R0.out Tryz.underlying132 IA.out ?_) | (with_reducible refine wpList_store_blk rfl _ _ _ rfl w.heap.size 132 _ _ rfl rfl K0.out IA.out SZ.out (bvs_one _) rfl ?_))
          refine bodyPost_ret (v := .agg (bvs tb)) (results_cell_row rfl _ _ _ 132 _ (0, 0) _ rfl (K0.out.row_ _) Tryz.underlying132 rfl IA.out) rfl ⟨rfl, below_setRow hbe.out (Nat.le_refl _) _⟩
end Hs
end Go.Proofs.YteblnmhaohbkkaaGreatDoor
