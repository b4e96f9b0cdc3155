import Derived.Test.YteblnmhaohbkkaaDoorRP4
import Derived.Test.YteblnmhaohbkkaaDoorRP5
import Derived.Deep.RegionWith
namespace Go.Proofs.YteblnmhaohbkkaaDoor
set_option linter.unusedVariables false
set_option linter.unusedSimpArgs false
set_option linter.unusedSectionVars false
section
namespace Hs
open Go.RowKit
attribute [local go_sem] zeroSt
attribute [local simp] zeroSt_ne
end Hs
end
section
namespace Hs
open Go.RowKit
attribute [local go_sem] zeroSt
attribute [local simp] zeroSt_ne
set_option maxRecDepth 100000 in
theorem inFeedB_any (X : Array Value) (m l : List Nat) (a : Option Addr) (cap : Nat) (w : World) (h : InS X m) (hN : m.length + l.length < 1152921504606846976) (hb : BytesA w a l) (hc : l.length ≤ cap) (hla : LaidC w) :
    Calls Tryd.prog 77 #[.agg X, .slice a l.length cap] w fun e w' => (∃ Y, e = .returned (.agg Y) ∧ InS Y (m ++ l)) ∧ Below w.heap.size w w' := by
  obtain ⟨s, r, hI, rfl⟩ := h
  exact (feedM_bytes s r m l a cap w hI hN hb hb.lt hc hla).mono fun e w' ⟨s', r', h1, h2, h3⟩ => ⟨⟨_, h2, s', r', h1, rfl⟩, h3⟩
set_option maxRecDepth 100000 in
theorem inFeedS_any (X : Array Value) (m : List Nat) (t : ByteArray) (w : World) (h : InS X m) (hN : m.length + t.size < 1152921504606846976) (hla : LaidC w) :
    Calls Tryd.prog 79 #[.agg X, .string t] w fun e w' => (∃ Y, e = .returned (.agg Y) ∧ InS Y (m ++ sb t)) ∧ Below w.heap.size w w' := by
  obtain ⟨s, r, hI, rfl⟩ := h
  exact (feedM_string s r m (sb t) t w hI (by rw [sb_len]; exact hN) rfl hla).mono fun e w' ⟨s', r', h1, h2, h3⟩ => ⟨⟨_, h2, s', r', h1, rfl⟩, h3⟩
set_option maxRecDepth 100000 in
theorem sizeInt_any (n : Nat) (w : World) (hn : n ≤ 1000000) : Calls Tryd.prog 80 #[.int .i64 n] w fun e w' => (∃ a cap, e = .returned (.slice a (Wi.enc n).length cap) ∧ (Wi.enc n).length ≤ cap ∧ BytesA w' a (Wi.enc n)) ∧ Below w.heap.size w w' := by
  refine (Wi.int_any n w (by omega) (by omega)).mono ?_
  rintro e w' ⟨v, rfl, ho, hb⟩
  obtain ⟨a, cap, rfl, hc, y⟩ := OwnB.view ho (enc_lt _)
  exact ⟨⟨a, cap, rfl, hc, y⟩, hb⟩
end Hs
end
section
namespace Hs
open Go.RowKit
attribute [local go_sem] zeroSt
attribute [local simp] zeroSt_ne
set_option maxRecDepth 100000 in
theorem wp_store_blk {P : Program} {o : Oper} {a : Act} {w : World} {K : Act → World → Prop} {Q : Exit → Act → World → Prop} (ty : TypeId) (x y : Operand) (ho : o.op = .store ty x y)
    (g : Nat) (t : TypeId) (old cells : Array Value) (hx : a.eval x = .pointer (some ⟨g, 0, none⟩)) (hy : a.eval y = .agg cells)
    (hg : Blk w g t old) (hi : (P.info? ty).map (·.size) = some cells.size) (hs : old.size = cells.size) (h1 : cells.all (·.oneCell') = true)
    (hd : o.dst = none) (h : K a (w.setRow g cells)) : o.wp P a w K Q := by
  unfold Oper.wp execOp
  simp only [ho, hx, hy, Instr.storeAt, Instr.sureAddr, Sem.run_bind, Sem.run_pure, Result.andThen_ok, run_storeVar_row w g t ty old cells hg hi hs h1]
  have e : a.put o.dst undef = a := by rw [hd]; rfl
  rw [← e] at h
  exact h
set_option maxRecDepth 100000 in
set_option maxHeartbeats 1000000 in
theorem of_any (tag : Int) (t : Nat) (a : Option Addr) (cap : Nat) (ss : List ByteArray) (w : World) (ht : tag % 256 = t) (hp : StrsA w a ss) (hf : Few ss) (hla : LaidC w) :
    Calls Tryd.prog 68 #[.int .i64 tag, .slice a ss.length cap] w fun e w' => e = .returned (.agg (bvs ((sha (inL t ss)).take 16))) ∧ Below w.heap.size w w' := by
  have t256 : t < 256 := by omega
  have LA := Lib.hid hla; have HP := Lib.hid hp; have HF := Lib.hid hf
  obtain ⟨n, hn⟩ : ∃ n, ss.length = n := ⟨_, rfl⟩
  have HE := Lib.hid hn
  have n12 : n ≤ 40 := by have := hf.1; omega
  have C := Lib.hid (fun (g : Nat) (W : World) (h1 : Blk W g 5 (bvs [t])) (h2 : LaidC W) => show Calls Tryd.prog 77 #[.agg (svA st0 z64 0), .slice (some ⟨g, 0, none⟩) 1 1] W (fun e w' => (∃ X, e = .returned (.agg X) ∧ InS X [t]) ∧ Below W.heap.size W w') from (feed0_bytes [t] (some ⟨g, 0, none⟩) 1 W (by simp) (h1.bytes (by simp; omega)) (by simp; omega) (by simp) h2).mono fun e w' ⟨s, r, hI, he, hb⟩ => ⟨⟨_, he, s, r, hI, rfl⟩, hb⟩)
  have D := Lib.hid (fun (X : Array Value) (W : World) (h : InS X (inL t ss)) (h2 : LaidC W) => inSum_any X (inL t ss) W h (by have := inL_len t ss hf.2; omega) h2)
  have C5 := Lib.hid (fun (k : Nat) (hk : k < n) (W : World) => sizeInt_any (ss.getD k ByteArray.empty).size W (by have := hf.2 _ (mem_getD (show k < ss.length by omega)); omega))
  have HB := Lib.hid (fun (X : Array Value) (m l : List Nat) (a : Option Addr) (cap : Nat) (W : World) (hl : m.length ≤ 100000) (hl2 : l.length ≤ 100000) (h : InS X m) (hb : BytesA W a l) (hc : l.length ≤ cap) (h2 : LaidC W) => inFeedB_any X m l a cap W h (by omega) hb hc h2)
  have HS := Lib.hid (fun (X : Array Value) (m : List Nat) (u : ByteArray) (W : World) (hl : m.length ≤ 100000) (hl2 : u.size ≤ 100000) (h : InS X m) (h2 : LaidC W) => inFeedS_any X m u W h (by omega) h2)
  have sl : (sha (inL t ss)).length = 32 := sha_len _
  have INL := Lib.hid (show inL t (ss.take n) = inL t ss by rw [List.take_of_length_le (by omega)])
  obtain ⟨S, hS⟩ : ∃ S, sha (inL t ss) = S := ⟨_, rfl⟩
  simp only [hS] at D
  rw [hS] at sl ⊢
  rw [hn]
  have SL := Lib.hid sl
  clear hla hp hf hn t256 hS sl
  go_enter Tryd.func68, Tryd.ntmps68
  go_wp2_with fail
  refine (begin_any _).mono ?_
  rintro e w1 ⟨rfl, hb1⟩
  have j0 : Blk w1 w.heap.size 122 (bvs (List.replicate 16 0)) := (Blk.new' w 122 _ (bvs (List.replicate 16 0)) rfl rfl).below hb1 (by simp)
  have B1 : Below w.heap.size w w1 := bt (by (repeat' (first | (with_reducible exact Below.refl _ _) | (with_reducible assumption) | (with_reducible refine Below.alloc ?_ ?_ _) | (with_reducible refine Below.drew ?_) | (with_reducible refine below_dn ?_) | (with_reducible refine Below.setCell ?_ ?_ _) | (with_reducible exact Nat.le_refl _) | omega | (simp only [World.size_alloc, World.size_setCell, World.size_drew]; omega) | (simp; omega) | (simp; done)))) hb1
  have J0 := Lib.hid j0; have BE := Lib.hid B1
  clear hb1 j0 B1
  go_wp2_with fail
  refine (C.out w1.heap.size _ (Blk.new _ _ _) (LA.out.mono (BE.out.alloc BE.out.size _))).mono ?_
  rintro e w2 ⟨⟨X0, rfl, hIX⟩, hb2⟩
  have j0 := (J0.out.alloc _).below hb2 (by have := J0.out.lt; simp; omega)
  have B2 : Below w.heap.size w w2 := bt (BE.out.alloc BE.out.size _) hb2
  have IA := Lib.hid hIX.info; have SZ := Lib.hid hIX.old; have ON := Lib.hid hIX.one; have HX := Lib.hid (show InS X0 (inL t (ss.take 0)) from hIX)
  have J0 := Lib.hid j0; have BE := Lib.hid B2
  clear hb2 j0 B2 hIX C
  go_wp2_with (first | (with_reducible refine wpList_store_blk rfl _ _ _ rfl w2.heap.size 136 (svA st00 z64 0) _ rfl rfl (Blk.new' _ _ _ _ rfl rfl) IA.out SZ.out ON.out rfl ?_))
  generalize hW : World.setRow _ w2.heap.size X0 = W3
  have K5 := Lib.hid (show Blk W3 w2.heap.size 136 X0 by rw [← hW]; exact (Blk.new' w2 136 _ (svA st00 z64 0) rfl rfl).row_ _)
  have K0 := Lib.hid (show Blk W3 w.heap.size 122 (bvs (List.replicate 16 0)) by rw [← hW]; exact (J0.out.alloc _).rowfar (by have := J0.out.lt; omega) _)
  have K3 := Lib.hid (show Below w.heap.size w W3 by rw [← hW]; exact below_setRow (BE.out.alloc BE.out.size _) BE.out.size _)
  have gz := Lib.hid (show w.heap.size ≤ w2.heap.size from BE.out.size)
  have gn := Lib.hid (show w.heap.size ≠ w2.heap.size by have := J0.out.lt; omega)
  obtain ⟨G, hG⟩ : ∃ G, w2.heap.size = G := ⟨_, rfl⟩
  rw [hG] at K5 gz gn ⊢
  clear hW hG IA SZ ON J0 BE
  go_loopw [16, 7] (fun uk _ wr => ∃ (k : Nat) (X : Array Value), k ≤ n ∧ uk = .int .i64 k ∧ Hid (InS X (inL t (ss.take k))) ∧ Hid (Blk wr G 136 X) ∧ Hid (Blk wr w.heap.size 122 (bvs (List.replicate 16 0))) ∧ Hid (Below w.heap.size w wr)) (fun uk _ _ => n - (intOf uk).toNat)
  case atStart => exact ⟨0, X0, by omega, rfl, HX, K5, K0, K3⟩
  case round =>
    clear K5 K0 K3 HX
    obtain ⟨k, X, hk, rfl, hX, K5, K0, hbe⟩ := hrel
    by_cases hlt : k < n
    · obtain ⟨b, off, rfl, q1⟩ := HP.out.mono hbe.out k (by rw [HE.out]; exact hlt)
      have hc := inL_take t ss k (by rw [HE.out]; exact hlt)
      unfold encS at hc
      rw [← List.append_assoc] at hc
      have cl : (inL t (ss.take k)).length ≤ 20000 := by
        have := inL_len t (ss.take k) fun s hs => HF.out.2 s (List.mem_of_mem_take hs)
        rw [List.length_take] at this; omega
      have ul := HF.out.2 _ (mem_getD (show k < ss.length by rw [HE.out]; exact hlt))
      have ca := C5.out k hlt
      have el := enc_len (ss.getD k ByteArray.empty).size (by omega)
      obtain ⟨u, hu⟩ : ∃ m, ss.getD k ByteArray.empty = m := ⟨_, rfl⟩
      rw [hu] at q1 hc ul el; simp only [hu] at ca
      obtain ⟨E, hE⟩ : ∃ m, Wi.enc (u.size : Nat) = m := ⟨_, rfl⟩
      rw [hE] at hc el; simp only [hE] at ca
      obtain ⟨m, hm⟩ : ∃ m, inL t (ss.take k) = m := ⟨_, rfl⟩
      rw [hm] at hc cl hX
      have cb := fun (a : Option Addr) (cap : Nat) (W : World) (hb : BytesA W a E) (h1 : E.length ≤ cap) (h2 : LaidC W) => HB.out X m E a cap W (by omega) (by omega) hX.out hb h1 h2
      have cc := fun (Y : Array Value) (W : World) (h : InS Y (m ++ E)) (h2 : LaidC W) => HS.out Y (m ++ E) u W (by rw [List.length_append]; omega) (by omega) h h2
      rw [← hc] at cc
      have C1 := Lib.hid ca; have C2 := Lib.hid cb; have C3 := Lib.hid cc
      have IX := Lib.hid hX.out.info; have XS := Lib.hid hX.out.size
      have us : (u.size : Int) ≤ 9223372036854775807 := by omega
      have LD : (loadVar 136 ⟨G, 0, none⟩).run Tryd.prog wr.drew = .ok (.agg X) wr.drew := run_loadVar_row wr.drew G 136 136 X (0, 0) _ K5.out.drew Tryd.underlying136 rfl IX.out
      have K5d := Lib.hid (show Blk wr.drew G 136 X from K5.out.drew)
      have K0d := Lib.hid (show Blk wr.drew w.heap.size 122 (bvs (List.replicate 16 0)) from K0.out.drew)
      have Bd := Lib.hid (show Below w.heap.size w wr.drew from Below.drew hbe.out)
      clear hc cl ul el ca cb cc hu hE hm K5 K0 hbe hX
      go_wp2
      refine wp_region_any (by kernel_rfl) ?_
      change wpAny _ _ _ _ _ _ _ (World.drew _)
      refine wpAny_take (i := 1) (v := .string u) rfl (by kernel_rfl) (by kernel_rfl) (by kernel_rfl) (fun _ _ _ h => h) (Or.inl ⟨by rfl, fun W => by go_simp⟩) ?_
      refine wpAny_take (i := 2) (v := .int .i64 (u.size : Int)) rfl (by kernel_rfl) (by kernel_rfl) (by kernel_rfl) (fun _ _ _ h => h) (Or.inl ⟨by rfl, fun W => by go_simp⟩) ?_
      refine wpAny_take (i := 5) (v := .string u) rfl (by kernel_rfl) (by kernel_rfl) (by kernel_rfl) (fun _ _ _ h => h) (Or.inl ⟨by rfl, fun W => by go_simp⟩) ?_
      simp only [Act.put, List.setIfInBounds_toArray, List.set_cons_zero, List.set_cons_succ]
      refine wpAny_ready (rs := [0, 3]) (by kernel_rfl) (by simp) (AllReady.cons rfl (fun K hK => ?_) (AllReady.cons rfl (fun K hK => ?_) AllReady.nil))
      · rw [if_pos (by rfl)]
        refine wp_load_row 136 _ rfl G rfl 136 X (0, 0) _ K5d.out Tryd.underlying136 rfl IX.out ?_
        refine hK _ _ ?_
        clear hK K
        simp only [Act.put, List.setIfInBounds_toArray, List.set_cons_zero, List.set_cons_succ]
        refine wpAny_ready (rs := [3]) (by kernel_rfl) (by simp) (AllReady.cons rfl (fun K hK => ?_) AllReady.nil)
        go_simp
        (with_reducible refine (C1.out _).mono ?_); rintro e w5 ⟨⟨a5, c5, rfl, hc5, y5⟩, hb5⟩; have K5e := Lib.hid (K5d.out.below hb5 K5d.out.lt); have K0e := Lib.hid (K0d.out.below hb5 K0d.out.lt); have Be := Lib.hid (bt Bd.out hb5); have Y5 := Lib.hid y5; have HC5 := Lib.hid hc5; clear hb5 y5 hc5
        go_wp2_with fail
        (try clear hK K)
        (try simp only [Act.put, List.setIfInBounds_toArray, List.set_cons_zero, List.set_cons_succ])
        refine wpAny_ready (rs := [4]) (by kernel_rfl) (by simp) (AllReady.cons rfl (fun K hK => ?_) AllReady.nil)
        go_simp
        (with_reducible refine (C2.out _ _ _ Y5.out HC5.out (LA.out.mono Be.out)).mono ?_); rintro e w6 ⟨⟨Y, rfl, hY⟩, hb6⟩; have K5f := Lib.hid (K5e.out.below hb6 K5e.out.lt); have K0f := Lib.hid (K0e.out.below hb6 K0e.out.lt); have Bf := Lib.hid (bt Be.out hb6); have HY := Lib.hid hY; clear hb6 hY
        go_wp2_with fail
        (try clear hK K)
        (try simp only [Act.put, List.setIfInBounds_toArray, List.set_cons_zero, List.set_cons_succ])
        refine wpAny_ready (rs := [6]) (by kernel_rfl) (by simp) (AllReady.cons rfl (fun K hK => ?_) AllReady.nil)
        go_simp
        (with_reducible refine (C3.out _ _ HY.out (LA.out.mono Bf.out)).mono ?_); rintro e w7 ⟨⟨Z, rfl, hZ⟩, hb7⟩; have K5g := Lib.hid (K5f.out.below hb7 K5f.out.lt); have K0g := Lib.hid (K0f.out.below hb7 K0f.out.lt); have Bg := Lib.hid (bt Bf.out hb7); have HZ := Lib.hid hZ; clear hb7 hZ
        go_wp2_with fail
        (try clear hK K)
        (try simp only [Act.put, List.setIfInBounds_toArray, List.set_cons_zero, List.set_cons_succ])
        refine wpAny_ready (rs := [7]) (by kernel_rfl) (by simp) (AllReady.cons rfl (fun K hK => ?_) AllReady.nil)
        rw [if_pos (by rfl)]
        refine wp_store_blk 136 _ _ rfl G 136 X Z rfl rfl K5g.out HZ.out.info (by rw [HZ.out.size]; exact XS.out) HZ.out.one rfl ?_
        refine hK _ _ ?_
        clear hK K
        refine wpAny_done (by kernel_rfl) ?_ _
        have K5h := Lib.hid (show Blk (World.setRow _ G Z) G 136 Z from K5g.out.row_ _)
        have K0h := Lib.hid (show Blk (World.setRow _ G Z) w.heap.size 122 (bvs (List.replicate 16 0)) from K0g.out.rowfar gn.out _)
        have Bh := Lib.hid (show Below w.heap.size w (World.setRow _ G Z) from below_setRow Bg.out gz.out _)
        go_wp2
        go_roundw
        case rel => exact ⟨k + 1, _, by omega, by go_num, HZ, K5h, K0h, Bh⟩
        case measure => simp [intOf]; omega
      · go_simp
        (with_reducible refine (C1.out _).mono ?_); rintro e w5 ⟨⟨a5, c5, rfl, hc5, y5⟩, hb5⟩; have K5e := Lib.hid (K5d.out.below hb5 K5d.out.lt); have K0e := Lib.hid (K0d.out.below hb5 K0d.out.lt); have Be := Lib.hid (bt Bd.out hb5); have Y5 := Lib.hid y5; have HC5 := Lib.hid hc5; clear hb5 y5 hc5
        go_wp2_with fail
        (try clear hK K)
        (try simp only [Act.put, List.setIfInBounds_toArray, List.set_cons_zero, List.set_cons_succ])
        refine wpAny_ready (rs := [0]) (by kernel_rfl) (by simp) (AllReady.cons rfl (fun K hK => ?_) AllReady.nil)
        rw [if_pos (by rfl)]
        refine wp_load_row 136 _ rfl G rfl 136 X (0, 0) _ K5e.out Tryd.underlying136 rfl IX.out ?_
        refine hK _ _ ?_
        clear hK K
        simp only [Act.put, List.setIfInBounds_toArray, List.set_cons_zero, List.set_cons_succ]
        refine wpAny_ready (rs := [4]) (by kernel_rfl) (by simp) (AllReady.cons rfl (fun K hK => ?_) AllReady.nil)
        go_simp
        (with_reducible refine (C2.out _ _ _ Y5.out HC5.out (LA.out.mono Be.out)).mono ?_); rintro e w6 ⟨⟨Y, rfl, hY⟩, hb6⟩; have K5f := Lib.hid (K5e.out.below hb6 K5e.out.lt); have K0f := Lib.hid (K0e.out.below hb6 K0e.out.lt); have Bf := Lib.hid (bt Be.out hb6); have HY := Lib.hid hY; clear hb6 hY
        go_wp2_with fail
        (try clear hK K)
        (try simp only [Act.put, List.setIfInBounds_toArray, List.set_cons_zero, List.set_cons_succ])
        refine wpAny_ready (rs := [6]) (by kernel_rfl) (by simp) (AllReady.cons rfl (fun K hK => ?_) AllReady.nil)
        go_simp
        (with_reducible refine (C3.out _ _ HY.out (LA.out.mono Bf.out)).mono ?_); rintro e w7 ⟨⟨Z, rfl, hZ⟩, hb7⟩; have K5g := Lib.hid (K5f.out.below hb7 K5f.out.lt); have K0g := Lib.hid (K0f.out.below hb7 K0f.out.lt); have Bg := Lib.hid (bt Bf.out hb7); have HZ := Lib.hid hZ; clear hb7 hZ
        go_wp2_with fail
        (try clear hK K)
        (try simp only [Act.put, List.setIfInBounds_toArray, List.set_cons_zero, List.set_cons_succ])
        refine wpAny_ready (rs := [7]) (by kernel_rfl) (by simp) (AllReady.cons rfl (fun K hK => ?_) AllReady.nil)
        rw [if_pos (by rfl)]
        refine wp_store_blk 136 _ _ rfl G 136 X Z rfl rfl K5g.out HZ.out.info (by rw [HZ.out.size]; exact XS.out) HZ.out.one rfl ?_
        refine hK _ _ ?_
        clear hK K
        refine wpAny_done (by kernel_rfl) ?_ _
        have K5h := Lib.hid (show Blk (World.setRow _ G Z) G 136 Z from K5g.out.row_ _)
        have K0h := Lib.hid (show Blk (World.setRow _ G Z) w.heap.size 122 (bvs (List.replicate 16 0)) from K0g.out.rowfar gn.out _)
        have Bh := Lib.hid (show Below w.heap.size w (World.setRow _ G Z) from below_setRow Bg.out gz.out _)
        go_wp2
        go_roundw
        case rel => exact ⟨k + 1, _, by omega, by go_num, HZ, K5h, K0h, Bh⟩
        case measure => simp [intOf]; omega
    · obtain rfl : k = n := by omega
      rw [INL.out] at hX
      have HI := Lib.hid hX.out; have IX := Lib.hid hX.out.info; have KB := Lib.hid hbe.out
      clear hX hbe hlt hk
      go_wp2_with (first | (with_reducible refine wpList_load_all rfl _ _ rfl G rfl 136 _ _ K5.out Tryd.underlying136 IX.out ?_))
      refine (D.out X _ HI.out (LA.out.mono KB.out)).mono ?_
      rintro e w4 ⟨rfl, hb4⟩
      have K0' := Lib.hid (K0.out.below hb4 K0.out.lt)
      have B4 := Lib.hid (bt KB.out hb4)
      have sl := SL.out
      have ia : (Tryd.prog.info? 142).map (·.size) = some (bvs S).size := by rw [bvs_size, sl]; kernel_rfl
      have sz : (bvs (List.replicate 32 0)).size = (bvs S).size := by rw [bvs_size, bvs_size, sl]; rfl
      have IA2 := Lib.hid ia; have SZ2 := Lib.hid sz
      have tl : (S.take 16).length = 16 := by rw [List.length_take, sl]; rfl
      have ib : (Tryd.prog.info? 122).map (·.size) = some (S.take 16).length := by rw [tl]; kernel_rfl
      have ib2 : (Tryd.prog.info? 122).map (·.size) = some (bvs (S.take 16)).size := by rw [bvs_size]; exact ib
      have sz3 : (bvs (List.replicate 16 0)).size = (bvs (S.take 16)).size := by rw [bvs_size, bvs_size, tl]; rfl
      have IB := Lib.hid ib; have IB2 := Lib.hid ib2; have SZ3 := Lib.hid sz3
      have BK := Lib.hid (fun (W : World) (h : Blk W w4.heap.size 142 (bvs S)) (k : Nat) (hk : k < (S.take 16).length) => show W.cell? ⟨w4.heap.size, 0 + k, none⟩ = some (bv ((S.take 16).getD k 0)) by
        rw [tl] at hk
        rw [Nat.zero_add, h.cell k, bvs_at _ k (by rw [sl]; omega)]
        simp only [List.getD_eq_getElem?_getD, List.getElem?_take, if_pos hk])
      clear hb4 sl ia sz tl ib ib2 sz3 K0 KB
      have NB : Blk (w4.alloc (.cells #[.int .u8 0, .int .u8 0, .int .u8 0, .int .u8 0, .int .u8 0, .int .u8 0, .int .u8 0, .int .u8 0, .int .u8 0, .int .u8 0, .int .u8 0, .int .u8 0, .int .u8 0, .int .u8 0, .int .u8 0, .int .u8 0, .int .u8 0, .int .u8 0, .int .u8 0, .int .u8 0, .int .u8 0, .int .u8 0, .int .u8 0, .int .u8 0, .int .u8 0, .int .u8 0, .int .u8 0, .int .u8 0, .int .u8 0, .int .u8 0, .int .u8 0, .int .u8 0] 142)) w4.heap.size 142 (bvs (List.replicate 32 0)) := Blk.new' w4 142 _ _ rfl rfl
      have NB := Lib.hid NB
      have AT := fun (W : World) => array_at w4.heap.size W
      go_wp2_with (first | (with_reducible refine wpList_store_blk rfl _ _ _ rfl w4.heap.size 142 (bvs (List.replicate 32 0)) _ rfl rfl (Blk.new' _ _ _ _ rfl rfl) IA2.out SZ2.out (bvs_one _) rfl ?_) | (with_reducible refine wpList_load_bytes rfl _ _ rfl w4.heap.size 0 rfl (S.take 16) 16 5 (BK.out _ (NB.out.row_ _)) Tryd.underlying122 IB.out ?_) | (with_reducible refine wpList_store_blk rfl _ _ _ rfl w.heap.size 122 (bvs (List.replicate 16 0)) _ rfl rfl ((K0'.out.alloc _).rowfar (by have := K0'.out.lt; omega) _) IB2.out SZ3.out (bvs_one _) rfl ?_))
      have k0 := K0'.out.lt
      refine bodyPost_ret (v := .agg (bvs (S.take 16))) (results_cell_row rfl _ _ _ 122 _ (0, 0) _ rfl (((K0'.out.alloc _).rowfar (by omega) _).row_ _) Tryd.underlying122 rfl IB2.out) rfl ⟨rfl, below_setRow (below_setRow (B4.out.alloc B4.out.size _) B4.out.size _) (by omega) _⟩
end Hs
end
end Go.Proofs.YteblnmhaohbkkaaDoor
