/- Contracts: law 3 of chapter 4. -/
import Derived.Test.YtcdcnklfcmoiiaaDoorZC
import Derived.Test.YtcdcnklfcmoiiaaDoorZB
namespace Go.Proofs.YtcdcnklfcmoiiaaDoor
set_option linter.unusedVariables false
set_option linter.unusedSimpArgs false
open Go.RowKit Go.Sort
theorem cur_all (a : Option Addr) (c : Nat) (l : List Rw) (p lo hi : Int) (r : Rw × Int) (hr : curL l p lo hi = r) (ok : RingOk l) (X : World) (h : RwA X a l) : Calls Tryd.prog 18 #[.slice a l.length c, .int .i64 p, .agg #[.int .i64 lo, .int .i64 hi]] X fun e w' => e = .returned (.tuple #[.agg (encR r.1).toArray, .int .i64 r.2]) ∧ Below X.heap.size X w' := by
  subst hr
  exact cur_any a c l p lo hi X h ok
set_option maxRecDepth 100000 in
set_option maxHeartbeats 2000000 in
theorem law3_many (a : Option Addr) (c : Nat) (l : List Rw) (k1 k2 : Int) (k3 : ByteArray) (k4 k5 p s lo hi : Int) (w : World) (hp : RwA w a l) (hm : l.length ≤ 9223372036854775807) (hla : Hs.LaidC w) (h : 30 < l.length) : Calls Tryd.prog 3 #[.slice a l.length c, .agg #[.int .i64 k1, .int .i64 k2, .string k3, .int .i64 k4, .int .i64 k5], .int .i64 p, .int .i64 s, .agg #[.int .i64 lo, .int .i64 hi]] w fun e w' => e = .returned (.bool true) ∧ Below w.heap.size w w' := by
  have HLA := Lib.hid hla
  have HP := Lib.hid hp
  obtain ⟨VB, hVB⟩ : ∃ b, keyB (k1, k2, k3, k4, k5) = b := ⟨_, rfl⟩
  have V1 := Lib.hid (show ∀ X : World, Calls Tryd.prog 9 #[.agg #[.int .i64 k1, .int .i64 k2, .string k3, .int .i64 k4, .int .i64 k5]] X fun e w' => e = .returned (.bool VB) ∧ Below X.heap.size X w' from fun X => by rw [← hVB]; exact valid_any (k1, k2, k3, k4, k5) X)
  have V2 := Lib.hid (show ∀ X : World, Calls Tryd.prog 10 #[.agg #[.int .i64 k1, .int .i64 k2, .string k3, .int .i64 k4, .int .i64 k5]] X fun e w' => e = .returned (.bool VB) ∧ Below X.heap.size X w' from fun X => by rw [← hVB]; exact rvalid_any (k1, k2, k3, k4, k5) X)
  have SNT := Lib.hid (fun (X : World) (h : Hs.LaidC X) => sanity_any X h)
  have RG := Lib.hid (show ∀ X : World, RwA X a l → Calls Tryd.prog 11 #[.slice a l.length c] X fun e w' => e = .returned (.bool (ringB l)) ∧ Below X.heap.size X w' from fun X h => ring_any a c l X h hm)
  obtain ⟨N, hN⟩ : ∃ N, l.length = N := ⟨_, rfl⟩
  simp only [hN] at RG
  rw [hN]
  rw [hN] at h
  have t1 : decide ((30 : Int) < (N : Int)) = true := decide_eq_true (by omega)
  clear h
  clear hla hp hm hVB hN
  go_enter Tryd.func3, Tryd.ntmps3
  obtain ⟨G, hG⟩ : ∃ G, w.heap.size = G := ⟨_, rfl⟩
  have HG := Lib.hid hG
  have Kx := Lib.hid (show Blk ((w.alloc (.cells #[.int .i64 k1, .int .i64 k2, .string k3, .int .i64 k4, .int .i64 k5] 24)).alloc (.cells #[.int .i64 lo, .int .i64 hi] 26)) (G) 24 #[.int .i64 k1, .int .i64 k2, .string k3, .int .i64 k4, .int .i64 k5] from (Blk.new' _ _ _ _ hG rfl).alloc _)
  have Kq := Lib.hid (show Blk ((w.alloc (.cells #[.int .i64 k1, .int .i64 k2, .string k3, .int .i64 k4, .int .i64 k5] 24)).alloc (.cells #[.int .i64 lo, .int .i64 hi] 26)) (G + 1) 26 #[.int .i64 lo, .int .i64 hi] from Blk.new' _ _ _ _ (by rw [World.size_alloc, hG]) rfl)
  have B := Lib.hid (show Below w.heap.size w ((w.alloc (.cells #[.int .i64 k1, .int .i64 k2, .string k3, .int .i64 k4, .int .i64 k5] 24)).alloc (.cells #[.int .i64 lo, .int .i64 hi] 26)) by (repeat' (first | (with_reducible exact Below.refl _ _) | (with_reducible assumption) | (with_reducible refine Below.alloc ?_ ?_ _) | (with_reducible refine Below.drew ?_) | (with_reducible refine below_dn ?_) | (with_reducible refine Below.setCell ?_ ?_ _) | (with_reducible exact Nat.le_refl _) | omega | (simp only [World.size_alloc, World.size_setCell, World.size_drew]; omega) | (simp; omega) | (simp; done))))
  go_upto_region 1 with (fail)
  try rw [hG]
  generalize hw0 : ((w.alloc (.cells #[.int .i64 k1, .int .i64 k2, .string k3, .int .i64 k4, .int .i64 k5] 24)).alloc (.cells #[.int .i64 lo, .int .i64 hi] 26)) = w0 at Kx Kq B ⊢
  clear hw0 hG
  have Q1 := Lib.hid (fun (d : Nat) (os : Array Obj) => V1.out (grow (redrawn w0 d) os))
  have Q2 := Lib.hid (fun (d : Nat) (os : Array Obj) => V2.out (grow (redrawn w0 d) os))
  obtain ⟨bxc0, bxc1, bxc2, bxc3, bxc4⟩ := five Kx.out
  obtain ⟨bqc0, bqc1⟩ := twob Kq.out
  have gc := grow_cell3
  have zzx := Kx.out.lt
  have zzq := Kq.out.lt
  go_wp2_with fail
  refine wp_region_quiet_below (by kernel_rfl) (by kernel_rfl) ?_
  repeat (go_big_quiet_step (first | (with_reducible exact Calls.regrown_of (Q1.out _ _)) | (with_reducible exact Calls.regrown_of (Q2.out _ _))))
  refine wpQuiet_nil ?_
  intro w1 hw'
  obtain ⟨⟨dq, osq⟩, hw''⟩ := hw'
  have hb := below_of_grow3 hw''
  clear hw'' gc zzx zzq
  replace Kx := Lib.hid (Kx.out.below hb Kx.out.lt)
  replace Kq := Lib.hid (Kq.out.below hb Kq.out.lt)
  replace B := Lib.hid (B.out.trans (hb.mono B.out.size))
  clear hb
  clear bxc0 bxc1 bxc2 bxc3 bxc4 bqc0 bqc1
  clear Q1 Q2
  obtain ⟨bxc0, bxc1, bxc2, bxc3, bxc4⟩ := five Kx.out
  obtain ⟨bqc0, bqc1⟩ := twob Kq.out
  have R0 := Lib.hid (HP.out.mono B.out)
  go_wp2_with fail
  refine (SNT.out _ (HLA.out.below B.out)).mono ?_
  rintro e w2 ⟨rfl, hb⟩
  replace Kx := Lib.hid (Kx.out.below hb Kx.out.lt)
  replace Kq := Lib.hid (Kq.out.below hb Kq.out.lt)
  replace R0 := Lib.hid (R0.out.mono hb)
  replace B := Lib.hid (B.out.trans (hb.mono B.out.size))
  clear bxc0 bxc1 bxc2 bxc3 bxc4 bqc0 bqc1
  clear hb
  obtain ⟨bxc0, bxc1, bxc2, bxc3, bxc4⟩ := five Kx.out
  obtain ⟨bqc0, bqc1⟩ := twob Kq.out
  go_wp2
  go_ret
  exact ⟨rfl, B.out⟩
set_option maxRecDepth 100000 in
set_option maxHeartbeats 2000000 in
theorem law3_noring (a : Option Addr) (c : Nat) (l : List Rw) (k1 k2 : Int) (k3 : ByteArray) (k4 k5 p s lo hi : Int) (w : World) (hp : RwA w a l) (hm : l.length ≤ 9223372036854775807) (hla : Hs.LaidC w) (h : ¬ 30 < l.length) (hr : ringB l = false) : Calls Tryd.prog 3 #[.slice a l.length c, .agg #[.int .i64 k1, .int .i64 k2, .string k3, .int .i64 k4, .int .i64 k5], .int .i64 p, .int .i64 s, .agg #[.int .i64 lo, .int .i64 hi]] w fun e w' => e = .returned (.bool true) ∧ Below w.heap.size w w' := by
  have HLA := Lib.hid hla
  have HP := Lib.hid hp
  obtain ⟨VB, hVB⟩ : ∃ b, keyB (k1, k2, k3, k4, k5) = b := ⟨_, rfl⟩
  have V1 := Lib.hid (show ∀ X : World, Calls Tryd.prog 9 #[.agg #[.int .i64 k1, .int .i64 k2, .string k3, .int .i64 k4, .int .i64 k5]] X fun e w' => e = .returned (.bool VB) ∧ Below X.heap.size X w' from fun X => by rw [← hVB]; exact valid_any (k1, k2, k3, k4, k5) X)
  have V2 := Lib.hid (show ∀ X : World, Calls Tryd.prog 10 #[.agg #[.int .i64 k1, .int .i64 k2, .string k3, .int .i64 k4, .int .i64 k5]] X fun e w' => e = .returned (.bool VB) ∧ Below X.heap.size X w' from fun X => by rw [← hVB]; exact rvalid_any (k1, k2, k3, k4, k5) X)
  have SNT := Lib.hid (fun (X : World) (h : Hs.LaidC X) => sanity_any X h)
  have RG := Lib.hid (show ∀ X : World, RwA X a l → Calls Tryd.prog 11 #[.slice a l.length c] X fun e w' => e = .returned (.bool (ringB l)) ∧ Below X.heap.size X w' from fun X h => ring_any a c l X h hm)
  rw [hr] at RG
  obtain ⟨N, hN⟩ : ∃ N, l.length = N := ⟨_, rfl⟩
  simp only [hN] at RG
  rw [hN]
  rw [hN] at h
  have t1 : decide ((30 : Int) < (N : Int)) = false := decide_eq_false (by omega)
  clear h hr
  clear hla hp hm hVB hN
  go_enter Tryd.func3, Tryd.ntmps3
  obtain ⟨G, hG⟩ : ∃ G, w.heap.size = G := ⟨_, rfl⟩
  have HG := Lib.hid hG
  have Kx := Lib.hid (show Blk ((w.alloc (.cells #[.int .i64 k1, .int .i64 k2, .string k3, .int .i64 k4, .int .i64 k5] 24)).alloc (.cells #[.int .i64 lo, .int .i64 hi] 26)) (G) 24 #[.int .i64 k1, .int .i64 k2, .string k3, .int .i64 k4, .int .i64 k5] from (Blk.new' _ _ _ _ hG rfl).alloc _)
  have Kq := Lib.hid (show Blk ((w.alloc (.cells #[.int .i64 k1, .int .i64 k2, .string k3, .int .i64 k4, .int .i64 k5] 24)).alloc (.cells #[.int .i64 lo, .int .i64 hi] 26)) (G + 1) 26 #[.int .i64 lo, .int .i64 hi] from Blk.new' _ _ _ _ (by rw [World.size_alloc, hG]) rfl)
  have B := Lib.hid (show Below w.heap.size w ((w.alloc (.cells #[.int .i64 k1, .int .i64 k2, .string k3, .int .i64 k4, .int .i64 k5] 24)).alloc (.cells #[.int .i64 lo, .int .i64 hi] 26)) by (repeat' (first | (with_reducible exact Below.refl _ _) | (with_reducible assumption) | (with_reducible refine Below.alloc ?_ ?_ _) | (with_reducible refine Below.drew ?_) | (with_reducible refine below_dn ?_) | (with_reducible refine Below.setCell ?_ ?_ _) | (with_reducible exact Nat.le_refl _) | omega | (simp only [World.size_alloc, World.size_setCell, World.size_drew]; omega) | (simp; omega) | (simp; done))))
  go_upto_region 1 with (fail)
  try rw [hG]
  generalize hw0 : ((w.alloc (.cells #[.int .i64 k1, .int .i64 k2, .string k3, .int .i64 k4, .int .i64 k5] 24)).alloc (.cells #[.int .i64 lo, .int .i64 hi] 26)) = w0 at Kx Kq B ⊢
  clear hw0 hG
  have Q1 := Lib.hid (fun (d : Nat) (os : Array Obj) => V1.out (grow (redrawn w0 d) os))
  have Q2 := Lib.hid (fun (d : Nat) (os : Array Obj) => V2.out (grow (redrawn w0 d) os))
  obtain ⟨bxc0, bxc1, bxc2, bxc3, bxc4⟩ := five Kx.out
  obtain ⟨bqc0, bqc1⟩ := twob Kq.out
  have gc := grow_cell3
  have zzx := Kx.out.lt
  have zzq := Kq.out.lt
  go_wp2_with fail
  refine wp_region_quiet_below (by kernel_rfl) (by kernel_rfl) ?_
  repeat (go_big_quiet_step (first | (with_reducible exact Calls.regrown_of (Q1.out _ _)) | (with_reducible exact Calls.regrown_of (Q2.out _ _))))
  refine wpQuiet_nil ?_
  intro w1 hw'
  obtain ⟨⟨dq, osq⟩, hw''⟩ := hw'
  have hb := below_of_grow3 hw''
  clear hw'' gc zzx zzq
  replace Kx := Lib.hid (Kx.out.below hb Kx.out.lt)
  replace Kq := Lib.hid (Kq.out.below hb Kq.out.lt)
  replace B := Lib.hid (B.out.trans (hb.mono B.out.size))
  clear hb
  clear bxc0 bxc1 bxc2 bxc3 bxc4 bqc0 bqc1
  clear Q1 Q2
  obtain ⟨bxc0, bxc1, bxc2, bxc3, bxc4⟩ := five Kx.out
  obtain ⟨bqc0, bqc1⟩ := twob Kq.out
  have R0 := Lib.hid (HP.out.mono B.out)
  go_wp2_with fail
  refine (RG.out _ R0.out).mono ?_
  rintro e w2 ⟨rfl, hb⟩
  replace Kx := Lib.hid (Kx.out.below hb Kx.out.lt)
  replace Kq := Lib.hid (Kq.out.below hb Kq.out.lt)
  replace R0 := Lib.hid (R0.out.mono hb)
  replace B := Lib.hid (B.out.trans (hb.mono B.out.size))
  clear bxc0 bxc1 bxc2 bxc3 bxc4 bqc0 bqc1
  clear hb
  obtain ⟨bxc0, bxc1, bxc2, bxc3, bxc4⟩ := five Kx.out
  obtain ⟨bqc0, bqc1⟩ := twob Kq.out
  go_wp2_with fail
  refine (SNT.out _ (HLA.out.below B.out)).mono ?_
  rintro e w3 ⟨rfl, hb⟩
  replace Kx := Lib.hid (Kx.out.below hb Kx.out.lt)
  replace Kq := Lib.hid (Kq.out.below hb Kq.out.lt)
  replace R0 := Lib.hid (R0.out.mono hb)
  replace B := Lib.hid (B.out.trans (hb.mono B.out.size))
  clear bxc0 bxc1 bxc2 bxc3 bxc4 bqc0 bqc1
  clear hb
  obtain ⟨bxc0, bxc1, bxc2, bxc3, bxc4⟩ := five Kx.out
  obtain ⟨bqc0, bqc1⟩ := twob Kq.out
  go_wp2
  go_ret
  exact ⟨rfl, B.out⟩
set_option maxRecDepth 100000 in
set_option maxHeartbeats 2000000 in
theorem law3_ok (a : Option Addr) (c : Nat) (l : List Rw) (k1 k2 : Int) (k3 : ByteArray) (k4 k5 p s lo hi : Int) (w : World) (hp : RwA w a l) (hm : l.length ≤ 9223372036854775807) (hla : Hs.LaidC w) (h : ¬ 30 < l.length) (hr : ringB l = true) : Calls Tryd.prog 3 #[.slice a l.length c, .agg #[.int .i64 k1, .int .i64 k2, .string k3, .int .i64 k4, .int .i64 k5], .int .i64 p, .int .i64 s, .agg #[.int .i64 lo, .int .i64 hi]] w fun e w' => e = .returned (.bool true) ∧ Below w.heap.size w w' := by
  have HLA := Lib.hid hla
  have HP := Lib.hid hp
  obtain ⟨VB, hVB⟩ : ∃ b, keyB (k1, k2, k3, k4, k5) = b := ⟨_, rfl⟩
  have V1 := Lib.hid (show ∀ X : World, Calls Tryd.prog 9 #[.agg #[.int .i64 k1, .int .i64 k2, .string k3, .int .i64 k4, .int .i64 k5]] X fun e w' => e = .returned (.bool VB) ∧ Below X.heap.size X w' from fun X => by rw [← hVB]; exact valid_any (k1, k2, k3, k4, k5) X)
  have V2 := Lib.hid (show ∀ X : World, Calls Tryd.prog 10 #[.agg #[.int .i64 k1, .int .i64 k2, .string k3, .int .i64 k4, .int .i64 k5]] X fun e w' => e = .returned (.bool VB) ∧ Below X.heap.size X w' from fun X => by rw [← hVB]; exact rvalid_any (k1, k2, k3, k4, k5) X)
  have SNT := Lib.hid (fun (X : World) (h : Hs.LaidC X) => sanity_any X h)
  have RG := Lib.hid (show ∀ X : World, RwA X a l → Calls Tryd.prog 11 #[.slice a l.length c] X fun e w' => e = .returned (.bool (ringB l)) ∧ Below X.heap.size X w' from fun X h => ring_any a c l X h hm)
  rw [hr] at RG
  have ok : RingOk l := of_decide_eq_true hr
  have ml : l.length ≤ 1000000 := by omega
  have ar := add_ring (x := (k1, k2, k3, k4, k5)) ok (by omega)
  obtain ⟨⟨L, E⟩, hL⟩ : ∃ q, addL l (k1, k2, k3, k4, k5) = q := ⟨_, rfl⟩
  rw [hL] at ar
  have okL : RingOk L := of_decide_eq_true ar
  have mL := okL.few
  have AD := Lib.hid (show ∀ X : World, RwA X a l → Calls Tryd.prog 13 #[.slice a l.length c, .agg #[.int .i64 k1, .int .i64 k2, .string k3, .int .i64 k4, .int .i64 k5]] X fun e w' => (∃ a' c', e = .returned (.tuple #[.slice a' L.length c', .int .i64 E]) ∧ RwA w' a' L) ∧ Below X.heap.size X w' from fun X h => by have q := add_any a c l (k1, k2, k3, k4, k5) X h ok; rw [hL] at q; exact q)
  have RAD := Lib.hid (show ∀ X : World, RwA X a l → Calls Tryd.prog 14 #[.slice a l.length c, .agg #[.int .i64 k1, .int .i64 k2, .string k3, .int .i64 k4, .int .i64 k5]] X fun e w' => (∃ a' c', e = .returned (.agg #[.slice a' L.length c', .int .i64 E]) ∧ RwA w' a' L) ∧ Below X.heap.size X w' from fun X h => by have q := radd_any a c l (k1, k2, k3, k4, k5) X h ok; rw [hL] at q; exact q)
  have SM := Lib.hid (fun (X : World) (b b2 : Option Addr) (n n2 : Nat) (h : RwA X b L) (h2 : RwA X b2 L) => same_any b b2 n n2 L X h h2 (by omega))
  have RG1 := Lib.hid (show ∀ (X : World) (b : Option Addr) (n : Nat), RwA X b L → Calls Tryd.prog 11 #[.slice b L.length n] X fun e w' => e = .returned (.bool true) ∧ Below X.heap.size X w' from fun X b n h => by have q := ring_any b n L X h (by omega); rw [ar] at q; exact q)
  obtain ⟨⟨f1, f2, f3, f4, f5⟩, hf⟩ : ∃ q, findL l p s = q := ⟨_, rfl⟩
  obtain ⟨f6, hf6⟩ : ∃ q, findE l p s = q := ⟨_, rfl⟩
  obtain ⟨⟨⟨g1, g2, g3, g4, g5⟩, g6⟩, hg⟩ : ∃ q, curL l p lo hi = q := ⟨_, rfl⟩
  have FD := Lib.hid (show ∀ X : World, RwA X a l → Calls Tryd.prog 16 #[.slice a l.length c, .int .i64 p, .int .i64 s] X fun e w' => e = .returned (.tuple #[.agg #[.int .i64 f1, .int .i64 f2, .string f3, .int .i64 f4, .int .i64 f5], .int .i64 f6]) ∧ Below X.heap.size X w' from fun X h => by have q := find_any a c l p s X h ok.ord ml; rw [hf, hf6] at q; exact q)
  have RFD := Lib.hid (show ∀ X : World, RwA X a l → Calls Tryd.prog 17 #[.slice a l.length c, .int .i64 p, .int .i64 s] X fun e w' => e = .returned (.agg #[.int .i64 f1, .int .i64 f2, .string f3, .int .i64 f4, .int .i64 f5, .int .i64 f6]) ∧ Below X.heap.size X w' from fun X h => by have q := rfind_any a c l p s X h ok.ord ml; rw [hf, hf6] at q; exact q)
  have CU := Lib.hid (show ∀ X : World, RwA X a l → Calls Tryd.prog 18 #[.slice a l.length c, .int .i64 p, .agg #[.int .i64 lo, .int .i64 hi]] X fun e w' => e = .returned (.tuple #[.agg #[.int .i64 g1, .int .i64 g2, .string g3, .int .i64 g4, .int .i64 g5], .int .i64 g6]) ∧ Below X.heap.size X w' from fun X h => by have q := cur_any a c l p lo hi X h ok; rw [hg] at q; exact q)
  have RCU := Lib.hid (show ∀ X : World, RwA X a l → Calls Tryd.prog 19 #[.slice a l.length c, .int .i64 p, .agg #[.int .i64 lo, .int .i64 hi]] X fun e w' => e = .returned (.agg #[.int .i64 g1, .int .i64 g2, .string g3, .int .i64 g4, .int .i64 g5, .int .i64 g6]) ∧ Below X.heap.size X w' from fun X h => by have q := rcur_any a c l p lo hi X h ml; rw [hg] at q; exact q)
  obtain ⟨M, hM⟩ : ∃ M, L.length = M := ⟨_, rfl⟩
  simp only [hM] at AD RAD SM RG1
  clear hM mL okL ar hL ok ml hf hf6 hg
  obtain ⟨N, hN⟩ : ∃ N, l.length = N := ⟨_, rfl⟩
  simp only [hN] at RG AD RAD FD RFD CU RCU
  rw [hN]
  rw [hN] at h
  have t1 : decide ((30 : Int) < (N : Int)) = false := decide_eq_false (by omega)
  clear h hr
  clear hla hp hm hVB hN
  go_enter Tryd.func3, Tryd.ntmps3
  obtain ⟨G, hG⟩ : ∃ G, w.heap.size = G := ⟨_, rfl⟩
  have HG := Lib.hid hG
  have Kx := Lib.hid (show Blk ((w.alloc (.cells #[.int .i64 k1, .int .i64 k2, .string k3, .int .i64 k4, .int .i64 k5] 24)).alloc (.cells #[.int .i64 lo, .int .i64 hi] 26)) (G) 24 #[.int .i64 k1, .int .i64 k2, .string k3, .int .i64 k4, .int .i64 k5] from (Blk.new' _ _ _ _ hG rfl).alloc _)
  have Kq := Lib.hid (show Blk ((w.alloc (.cells #[.int .i64 k1, .int .i64 k2, .string k3, .int .i64 k4, .int .i64 k5] 24)).alloc (.cells #[.int .i64 lo, .int .i64 hi] 26)) (G + 1) 26 #[.int .i64 lo, .int .i64 hi] from Blk.new' _ _ _ _ (by rw [World.size_alloc, hG]) rfl)
  have B := Lib.hid (show Below w.heap.size w ((w.alloc (.cells #[.int .i64 k1, .int .i64 k2, .string k3, .int .i64 k4, .int .i64 k5] 24)).alloc (.cells #[.int .i64 lo, .int .i64 hi] 26)) by (repeat' (first | (with_reducible exact Below.refl _ _) | (with_reducible assumption) | (with_reducible refine Below.alloc ?_ ?_ _) | (with_reducible refine Below.drew ?_) | (with_reducible refine below_dn ?_) | (with_reducible refine Below.setCell ?_ ?_ _) | (with_reducible exact Nat.le_refl _) | omega | (simp only [World.size_alloc, World.size_setCell, World.size_drew]; omega) | (simp; omega) | (simp; done))))
  go_upto_region 1 with (fail)
  try rw [hG]
  generalize hw0 : ((w.alloc (.cells #[.int .i64 k1, .int .i64 k2, .string k3, .int .i64 k4, .int .i64 k5] 24)).alloc (.cells #[.int .i64 lo, .int .i64 hi] 26)) = w0 at Kx Kq B ⊢
  clear hw0 hG
  have Q1 := Lib.hid (fun (d : Nat) (os : Array Obj) => V1.out (grow (redrawn w0 d) os))
  have Q2 := Lib.hid (fun (d : Nat) (os : Array Obj) => V2.out (grow (redrawn w0 d) os))
  obtain ⟨bxc0, bxc1, bxc2, bxc3, bxc4⟩ := five Kx.out
  obtain ⟨bqc0, bqc1⟩ := twob Kq.out
  have gc := grow_cell3
  have zzx := Kx.out.lt
  have zzq := Kq.out.lt
  go_wp2_with fail
  refine wp_region_quiet_below (by kernel_rfl) (by kernel_rfl) ?_
  repeat (go_big_quiet_step (first | (with_reducible exact Calls.regrown_of (Q1.out _ _)) | (with_reducible exact Calls.regrown_of (Q2.out _ _))))
  refine wpQuiet_nil ?_
  intro w1 hw'
  obtain ⟨⟨dq, osq⟩, hw''⟩ := hw'
  have hb := below_of_grow3 hw''
  clear hw'' gc zzx zzq
  replace Kx := Lib.hid (Kx.out.below hb Kx.out.lt)
  replace Kq := Lib.hid (Kq.out.below hb Kq.out.lt)
  replace B := Lib.hid (B.out.trans (hb.mono B.out.size))
  clear hb
  clear bxc0 bxc1 bxc2 bxc3 bxc4 bqc0 bqc1
  clear Q1 Q2
  obtain ⟨bxc0, bxc1, bxc2, bxc3, bxc4⟩ := five Kx.out
  obtain ⟨bqc0, bqc1⟩ := twob Kq.out
  have R0 := Lib.hid (HP.out.mono B.out)
  go_wp2_with fail
  refine (RG.out _ R0.out).mono ?_
  rintro e w2 ⟨rfl, hb⟩
  replace Kx := Lib.hid (Kx.out.below hb Kx.out.lt)
  replace Kq := Lib.hid (Kq.out.below hb Kq.out.lt)
  replace R0 := Lib.hid (R0.out.mono hb)
  replace B := Lib.hid (B.out.trans (hb.mono B.out.size))
  clear bxc0 bxc1 bxc2 bxc3 bxc4 bqc0 bqc1
  clear hb
  obtain ⟨bxc0, bxc1, bxc2, bxc3, bxc4⟩ := five Kx.out
  obtain ⟨bqc0, bqc1⟩ := twob Kq.out
  go_wp2_with fail
  refine (AD.out _ R0.out).mono ?_
  rintro e w3 ⟨⟨a1, c1, rfl, hr⟩, hb⟩
  have R1 := Lib.hid hr
  replace Kx := Lib.hid (Kx.out.below hb Kx.out.lt)
  replace Kq := Lib.hid (Kq.out.below hb Kq.out.lt)
  replace R0 := Lib.hid (R0.out.mono hb)
  replace B := Lib.hid (B.out.trans (hb.mono B.out.size))
  clear bxc0 bxc1 bxc2 bxc3 bxc4 bqc0 bqc1
  clear hb hr
  obtain ⟨bxc0, bxc1, bxc2, bxc3, bxc4⟩ := five Kx.out
  obtain ⟨bqc0, bqc1⟩ := twob Kq.out
  go_wp2_with fail
  refine (RAD.out _ R0.out).mono ?_
  rintro e w4 ⟨⟨a2, c2, rfl, hr⟩, hb⟩
  have R2 := Lib.hid hr
  replace Kx := Lib.hid (Kx.out.below hb Kx.out.lt)
  replace Kq := Lib.hid (Kq.out.below hb Kq.out.lt)
  replace R0 := Lib.hid (R0.out.mono hb)
  replace R1 := Lib.hid (R1.out.mono hb)
  replace B := Lib.hid (B.out.trans (hb.mono B.out.size))
  clear bxc0 bxc1 bxc2 bxc3 bxc4 bqc0 bqc1
  clear hb hr
  obtain ⟨bxc0, bxc1, bxc2, bxc3, bxc4⟩ := five Kx.out
  obtain ⟨bqc0, bqc1⟩ := twob Kq.out
  obtain ⟨gz, hgz⟩ : ∃ G, w4.heap.size = G := ⟨_, rfl⟩
  have Kz := Lib.hid (show Blk (w4.alloc (.cells #[.slice a2 M c2, .int .i64 E] 34)) gz 34 #[.slice a2 M c2, .int .i64 E] from Blk.new' w4 _ _ _ hgz rfl)
  have Nxz := Lib.hid (show G < gz from by rw [← hgz]; exact Kx.out.lt)
  replace Kx := Lib.hid (Kx.out.alloc (.cells #[.slice a2 M c2, .int .i64 E] 34))
  have Nqz := Lib.hid (show G + 1 < gz from by rw [← hgz]; exact Kq.out.lt)
  replace Kq := Lib.hid (Kq.out.alloc (.cells #[.slice a2 M c2, .int .i64 E] 34))
  replace R0 := Lib.hid (R0.out.mono ((Below.refl _ w4).alloc (Nat.le_refl _) (.cells #[.slice a2 M c2, .int .i64 E] 34)))
  replace R1 := Lib.hid (R1.out.mono ((Below.refl _ w4).alloc (Nat.le_refl _) (.cells #[.slice a2 M c2, .int .i64 E] 34)))
  replace R2 := Lib.hid (R2.out.mono ((Below.refl _ w4).alloc (Nat.le_refl _) (.cells #[.slice a2 M c2, .int .i64 E] 34)))
  have Lz := Lib.hid (show w.heap.size ≤ gz from by rw [← hgz]; exact B.out.size)
  replace B := Lib.hid (B.out.alloc B.out.size (.cells #[.slice a2 M c2, .int .i64 E] 34))
  go_upto_region 7 with (fail)
  try rw [hgz]
  generalize hw : w4.alloc (.cells #[.slice a2 M c2, .int .i64 E] 34) = w5 at Kx Kq Kz R0 R1 R2 B ⊢
  clear bxc0 bxc1 bxc2 bxc3 bxc4 bqc0 bqc1
  clear hw hgz
  obtain ⟨bxc0, bxc1, bxc2, bxc3, bxc4⟩ := five Kx.out
  obtain ⟨bqc0, bqc1⟩ := twob Kq.out
  obtain ⟨bzc0, bzc1⟩ := twob Kz.out
  go_wp2_with fail
  refine (SM.out _ a1 a2 c1 c2 R1.out R2.out).mono ?_
  rintro e w6 ⟨rfl, hb⟩
  replace Kx := Lib.hid (Kx.out.below hb Kx.out.lt)
  replace Kq := Lib.hid (Kq.out.below hb Kq.out.lt)
  replace Kz := Lib.hid (Kz.out.below hb Kz.out.lt)
  replace R0 := Lib.hid (R0.out.mono hb)
  replace R1 := Lib.hid (R1.out.mono hb)
  replace R2 := Lib.hid (R2.out.mono hb)
  replace B := Lib.hid (B.out.trans (hb.mono B.out.size))
  clear bxc0 bxc1 bxc2 bxc3 bxc4 bqc0 bqc1 bzc0 bzc1
  clear hb
  obtain ⟨bxc0, bxc1, bxc2, bxc3, bxc4⟩ := five Kx.out
  obtain ⟨bqc0, bqc1⟩ := twob Kq.out
  obtain ⟨bzc0, bzc1⟩ := twob Kz.out
  go_wp2_with fail
  refine (RG1.out _ a1 c1 R1.out).mono ?_
  rintro e w7 ⟨rfl, hb⟩
  replace Kx := Lib.hid (Kx.out.below hb Kx.out.lt)
  replace Kq := Lib.hid (Kq.out.below hb Kq.out.lt)
  replace Kz := Lib.hid (Kz.out.below hb Kz.out.lt)
  replace R0 := Lib.hid (R0.out.mono hb)
  replace R1 := Lib.hid (R1.out.mono hb)
  replace R2 := Lib.hid (R2.out.mono hb)
  replace B := Lib.hid (B.out.trans (hb.mono B.out.size))
  clear bxc0 bxc1 bxc2 bxc3 bxc4 bqc0 bqc1 bzc0 bzc1
  clear hb
  obtain ⟨bxc0, bxc1, bxc2, bxc3, bxc4⟩ := five Kx.out
  obtain ⟨bqc0, bqc1⟩ := twob Kq.out
  obtain ⟨bzc0, bzc1⟩ := twob Kz.out
  go_wp2_with fail
  refine (FD.out _ R0.out).mono ?_
  rintro e w8 ⟨rfl, hb⟩
  replace Kx := Lib.hid (Kx.out.below hb Kx.out.lt)
  replace Kq := Lib.hid (Kq.out.below hb Kq.out.lt)
  replace Kz := Lib.hid (Kz.out.below hb Kz.out.lt)
  replace R0 := Lib.hid (R0.out.mono hb)
  replace R1 := Lib.hid (R1.out.mono hb)
  replace R2 := Lib.hid (R2.out.mono hb)
  replace B := Lib.hid (B.out.trans (hb.mono B.out.size))
  clear bxc0 bxc1 bxc2 bxc3 bxc4 bqc0 bqc1 bzc0 bzc1
  clear hb
  obtain ⟨bxc0, bxc1, bxc2, bxc3, bxc4⟩ := five Kx.out
  obtain ⟨bqc0, bqc1⟩ := twob Kq.out
  obtain ⟨bzc0, bzc1⟩ := twob Kz.out
  obtain ⟨gf, hgf⟩ : ∃ G, w8.heap.size = G := ⟨_, rfl⟩
  have Kf := Lib.hid (show Blk (w8.alloc (.cells #[.int .i64 f1, .int .i64 f2, .string f3, .int .i64 f4, .int .i64 f5] 24)) gf 24 #[.int .i64 f1, .int .i64 f2, .string f3, .int .i64 f4, .int .i64 f5] from Blk.new' w8 _ _ _ hgf rfl)
  have Nxf := Lib.hid (show G < gf from by rw [← hgf]; exact Kx.out.lt)
  replace Kx := Lib.hid (Kx.out.alloc (.cells #[.int .i64 f1, .int .i64 f2, .string f3, .int .i64 f4, .int .i64 f5] 24))
  have Nqf := Lib.hid (show G + 1 < gf from by rw [← hgf]; exact Kq.out.lt)
  replace Kq := Lib.hid (Kq.out.alloc (.cells #[.int .i64 f1, .int .i64 f2, .string f3, .int .i64 f4, .int .i64 f5] 24))
  have Nzf := Lib.hid (show gz < gf from by rw [← hgf]; exact Kz.out.lt)
  replace Kz := Lib.hid (Kz.out.alloc (.cells #[.int .i64 f1, .int .i64 f2, .string f3, .int .i64 f4, .int .i64 f5] 24))
  replace R0 := Lib.hid (R0.out.mono ((Below.refl _ w8).alloc (Nat.le_refl _) (.cells #[.int .i64 f1, .int .i64 f2, .string f3, .int .i64 f4, .int .i64 f5] 24)))
  replace R1 := Lib.hid (R1.out.mono ((Below.refl _ w8).alloc (Nat.le_refl _) (.cells #[.int .i64 f1, .int .i64 f2, .string f3, .int .i64 f4, .int .i64 f5] 24)))
  replace R2 := Lib.hid (R2.out.mono ((Below.refl _ w8).alloc (Nat.le_refl _) (.cells #[.int .i64 f1, .int .i64 f2, .string f3, .int .i64 f4, .int .i64 f5] 24)))
  have Lf := Lib.hid (show w.heap.size ≤ gf from by rw [← hgf]; exact B.out.size)
  replace B := Lib.hid (B.out.alloc B.out.size (.cells #[.int .i64 f1, .int .i64 f2, .string f3, .int .i64 f4, .int .i64 f5] 24))
  go_upto_region 10 with (fail)
  try rw [hgf]
  generalize hw : w8.alloc (.cells #[.int .i64 f1, .int .i64 f2, .string f3, .int .i64 f4, .int .i64 f5] 24) = w9 at Kx Kq Kz Kf R0 R1 R2 B ⊢
  clear bxc0 bxc1 bxc2 bxc3 bxc4 bqc0 bqc1 bzc0 bzc1
  clear hw hgf
  obtain ⟨bxc0, bxc1, bxc2, bxc3, bxc4⟩ := five Kx.out
  obtain ⟨bqc0, bqc1⟩ := twob Kq.out
  obtain ⟨bzc0, bzc1⟩ := twob Kz.out
  obtain ⟨bfc0, bfc1, bfc2, bfc3, bfc4⟩ := five Kf.out
  go_wp2_with fail
  refine (RFD.out _ R0.out).mono ?_
  rintro e w10 ⟨rfl, hb⟩
  replace Kx := Lib.hid (Kx.out.below hb Kx.out.lt)
  replace Kq := Lib.hid (Kq.out.below hb Kq.out.lt)
  replace Kz := Lib.hid (Kz.out.below hb Kz.out.lt)
  replace Kf := Lib.hid (Kf.out.below hb Kf.out.lt)
  replace R0 := Lib.hid (R0.out.mono hb)
  replace R1 := Lib.hid (R1.out.mono hb)
  replace R2 := Lib.hid (R2.out.mono hb)
  replace B := Lib.hid (B.out.trans (hb.mono B.out.size))
  clear bxc0 bxc1 bxc2 bxc3 bxc4 bqc0 bqc1 bzc0 bzc1 bfc0 bfc1 bfc2 bfc3 bfc4
  clear hb
  obtain ⟨bxc0, bxc1, bxc2, bxc3, bxc4⟩ := five Kx.out
  obtain ⟨bqc0, bqc1⟩ := twob Kq.out
  obtain ⟨bzc0, bzc1⟩ := twob Kz.out
  obtain ⟨bfc0, bfc1, bfc2, bfc3, bfc4⟩ := five Kf.out
  obtain ⟨gg, hgg⟩ : ∃ G, w10.heap.size = G := ⟨_, rfl⟩
  have Kg := Lib.hid (show Blk (w10.alloc (.cells #[.int .i64 f1, .int .i64 f2, .string f3, .int .i64 f4, .int .i64 f5, .int .i64 f6] 40)) gg 40 #[.int .i64 f1, .int .i64 f2, .string f3, .int .i64 f4, .int .i64 f5, .int .i64 f6] from Blk.new' w10 _ _ _ hgg rfl)
  have Nxg := Lib.hid (show G < gg from by rw [← hgg]; exact Kx.out.lt)
  replace Kx := Lib.hid (Kx.out.alloc (.cells #[.int .i64 f1, .int .i64 f2, .string f3, .int .i64 f4, .int .i64 f5, .int .i64 f6] 40))
  have Nqg := Lib.hid (show G + 1 < gg from by rw [← hgg]; exact Kq.out.lt)
  replace Kq := Lib.hid (Kq.out.alloc (.cells #[.int .i64 f1, .int .i64 f2, .string f3, .int .i64 f4, .int .i64 f5, .int .i64 f6] 40))
  have Nzg := Lib.hid (show gz < gg from by rw [← hgg]; exact Kz.out.lt)
  replace Kz := Lib.hid (Kz.out.alloc (.cells #[.int .i64 f1, .int .i64 f2, .string f3, .int .i64 f4, .int .i64 f5, .int .i64 f6] 40))
  have Nfg := Lib.hid (show gf < gg from by rw [← hgg]; exact Kf.out.lt)
  replace Kf := Lib.hid (Kf.out.alloc (.cells #[.int .i64 f1, .int .i64 f2, .string f3, .int .i64 f4, .int .i64 f5, .int .i64 f6] 40))
  replace R0 := Lib.hid (R0.out.mono ((Below.refl _ w10).alloc (Nat.le_refl _) (.cells #[.int .i64 f1, .int .i64 f2, .string f3, .int .i64 f4, .int .i64 f5, .int .i64 f6] 40)))
  replace R1 := Lib.hid (R1.out.mono ((Below.refl _ w10).alloc (Nat.le_refl _) (.cells #[.int .i64 f1, .int .i64 f2, .string f3, .int .i64 f4, .int .i64 f5, .int .i64 f6] 40)))
  replace R2 := Lib.hid (R2.out.mono ((Below.refl _ w10).alloc (Nat.le_refl _) (.cells #[.int .i64 f1, .int .i64 f2, .string f3, .int .i64 f4, .int .i64 f5, .int .i64 f6] 40)))
  have Lg := Lib.hid (show w.heap.size ≤ gg from by rw [← hgg]; exact B.out.size)
  replace B := Lib.hid (B.out.alloc B.out.size (.cells #[.int .i64 f1, .int .i64 f2, .string f3, .int .i64 f4, .int .i64 f5, .int .i64 f6] 40))
  go_upto_region 11 with (fail)
  try rw [hgg]
  generalize hw : w10.alloc (.cells #[.int .i64 f1, .int .i64 f2, .string f3, .int .i64 f4, .int .i64 f5, .int .i64 f6] 40) = w11 at Kx Kq Kz Kf Kg R0 R1 R2 B ⊢
  clear bxc0 bxc1 bxc2 bxc3 bxc4 bqc0 bqc1 bzc0 bzc1 bfc0 bfc1 bfc2 bfc3 bfc4
  clear hw hgg
  obtain ⟨bxc0, bxc1, bxc2, bxc3, bxc4⟩ := five Kx.out
  obtain ⟨bqc0, bqc1⟩ := twob Kq.out
  obtain ⟨bzc0, bzc1⟩ := twob Kz.out
  obtain ⟨bfc0, bfc1, bfc2, bfc3, bfc4⟩ := five Kf.out
  obtain ⟨bgc0, bgc1, bgc2, bgc3, bgc4, bgc5⟩ := six Kg.out
  go_wp2_with fail
  refine (CU.out _ R0.out).mono ?_
  rintro e w12 ⟨rfl, hb⟩
  replace Kx := Lib.hid (Kx.out.below hb Kx.out.lt)
  replace Kq := Lib.hid (Kq.out.below hb Kq.out.lt)
  replace Kz := Lib.hid (Kz.out.below hb Kz.out.lt)
  replace Kf := Lib.hid (Kf.out.below hb Kf.out.lt)
  replace Kg := Lib.hid (Kg.out.below hb Kg.out.lt)
  replace R0 := Lib.hid (R0.out.mono hb)
  replace R1 := Lib.hid (R1.out.mono hb)
  replace R2 := Lib.hid (R2.out.mono hb)
  replace B := Lib.hid (B.out.trans (hb.mono B.out.size))
  clear bxc0 bxc1 bxc2 bxc3 bxc4 bqc0 bqc1 bzc0 bzc1 bfc0 bfc1 bfc2 bfc3 bfc4 bgc0 bgc1 bgc2 bgc3 bgc4 bgc5
  clear hb
  obtain ⟨bxc0, bxc1, bxc2, bxc3, bxc4⟩ := five Kx.out
  obtain ⟨bqc0, bqc1⟩ := twob Kq.out
  obtain ⟨bzc0, bzc1⟩ := twob Kz.out
  obtain ⟨bfc0, bfc1, bfc2, bfc3, bfc4⟩ := five Kf.out
  obtain ⟨bgc0, bgc1, bgc2, bgc3, bgc4, bgc5⟩ := six Kg.out
  obtain ⟨gh, hgh⟩ : ∃ G, w12.heap.size = G := ⟨_, rfl⟩
  have Kh := Lib.hid (show Blk (w12.alloc (.cells #[.int .i64 g1, .int .i64 g2, .string g3, .int .i64 g4, .int .i64 g5] 24)) gh 24 #[.int .i64 g1, .int .i64 g2, .string g3, .int .i64 g4, .int .i64 g5] from Blk.new' w12 _ _ _ hgh rfl)
  have Nxh := Lib.hid (show G < gh from by rw [← hgh]; exact Kx.out.lt)
  replace Kx := Lib.hid (Kx.out.alloc (.cells #[.int .i64 g1, .int .i64 g2, .string g3, .int .i64 g4, .int .i64 g5] 24))
  have Nqh := Lib.hid (show G + 1 < gh from by rw [← hgh]; exact Kq.out.lt)
  replace Kq := Lib.hid (Kq.out.alloc (.cells #[.int .i64 g1, .int .i64 g2, .string g3, .int .i64 g4, .int .i64 g5] 24))
  have Nzh := Lib.hid (show gz < gh from by rw [← hgh]; exact Kz.out.lt)
  replace Kz := Lib.hid (Kz.out.alloc (.cells #[.int .i64 g1, .int .i64 g2, .string g3, .int .i64 g4, .int .i64 g5] 24))
  have Nfh := Lib.hid (show gf < gh from by rw [← hgh]; exact Kf.out.lt)
  replace Kf := Lib.hid (Kf.out.alloc (.cells #[.int .i64 g1, .int .i64 g2, .string g3, .int .i64 g4, .int .i64 g5] 24))
  have Ngh := Lib.hid (show gg < gh from by rw [← hgh]; exact Kg.out.lt)
  replace Kg := Lib.hid (Kg.out.alloc (.cells #[.int .i64 g1, .int .i64 g2, .string g3, .int .i64 g4, .int .i64 g5] 24))
  replace R0 := Lib.hid (R0.out.mono ((Below.refl _ w12).alloc (Nat.le_refl _) (.cells #[.int .i64 g1, .int .i64 g2, .string g3, .int .i64 g4, .int .i64 g5] 24)))
  replace R1 := Lib.hid (R1.out.mono ((Below.refl _ w12).alloc (Nat.le_refl _) (.cells #[.int .i64 g1, .int .i64 g2, .string g3, .int .i64 g4, .int .i64 g5] 24)))
  replace R2 := Lib.hid (R2.out.mono ((Below.refl _ w12).alloc (Nat.le_refl _) (.cells #[.int .i64 g1, .int .i64 g2, .string g3, .int .i64 g4, .int .i64 g5] 24)))
  have Lh := Lib.hid (show w.heap.size ≤ gh from by rw [← hgh]; exact B.out.size)
  replace B := Lib.hid (B.out.alloc B.out.size (.cells #[.int .i64 g1, .int .i64 g2, .string g3, .int .i64 g4, .int .i64 g5] 24))
  go_upto_region 12 with (fail)
  try rw [hgh]
  generalize hw : w12.alloc (.cells #[.int .i64 g1, .int .i64 g2, .string g3, .int .i64 g4, .int .i64 g5] 24) = w13 at Kx Kq Kz Kf Kg Kh R0 R1 R2 B ⊢
  clear bxc0 bxc1 bxc2 bxc3 bxc4 bqc0 bqc1 bzc0 bzc1 bfc0 bfc1 bfc2 bfc3 bfc4 bgc0 bgc1 bgc2 bgc3 bgc4 bgc5
  clear hw hgh
  obtain ⟨bxc0, bxc1, bxc2, bxc3, bxc4⟩ := five Kx.out
  obtain ⟨bqc0, bqc1⟩ := twob Kq.out
  obtain ⟨bzc0, bzc1⟩ := twob Kz.out
  obtain ⟨bfc0, bfc1, bfc2, bfc3, bfc4⟩ := five Kf.out
  obtain ⟨bgc0, bgc1, bgc2, bgc3, bgc4, bgc5⟩ := six Kg.out
  obtain ⟨bhc0, bhc1, bhc2, bhc3, bhc4⟩ := five Kh.out
  go_wp2_with fail
  refine (RCU.out _ R0.out).mono ?_
  rintro e w14 ⟨rfl, hb⟩
  replace Kx := Lib.hid (Kx.out.below hb Kx.out.lt)
  replace Kq := Lib.hid (Kq.out.below hb Kq.out.lt)
  replace Kz := Lib.hid (Kz.out.below hb Kz.out.lt)
  replace Kf := Lib.hid (Kf.out.below hb Kf.out.lt)
  replace Kg := Lib.hid (Kg.out.below hb Kg.out.lt)
  replace Kh := Lib.hid (Kh.out.below hb Kh.out.lt)
  replace R0 := Lib.hid (R0.out.mono hb)
  replace R1 := Lib.hid (R1.out.mono hb)
  replace R2 := Lib.hid (R2.out.mono hb)
  replace B := Lib.hid (B.out.trans (hb.mono B.out.size))
  clear bxc0 bxc1 bxc2 bxc3 bxc4 bqc0 bqc1 bzc0 bzc1 bfc0 bfc1 bfc2 bfc3 bfc4 bgc0 bgc1 bgc2 bgc3 bgc4 bgc5 bhc0 bhc1 bhc2 bhc3 bhc4
  clear hb
  obtain ⟨bxc0, bxc1, bxc2, bxc3, bxc4⟩ := five Kx.out
  obtain ⟨bqc0, bqc1⟩ := twob Kq.out
  obtain ⟨bzc0, bzc1⟩ := twob Kz.out
  obtain ⟨bfc0, bfc1, bfc2, bfc3, bfc4⟩ := five Kf.out
  obtain ⟨bgc0, bgc1, bgc2, bgc3, bgc4, bgc5⟩ := six Kg.out
  obtain ⟨bhc0, bhc1, bhc2, bhc3, bhc4⟩ := five Kh.out
  obtain ⟨gi, hgi⟩ : ∃ G, w14.heap.size = G := ⟨_, rfl⟩
  have Ki := Lib.hid (show Blk (w14.alloc (.cells #[.int .i64 g1, .int .i64 g2, .string g3, .int .i64 g4, .int .i64 g5, .int .i64 g6] 40)) gi 40 #[.int .i64 g1, .int .i64 g2, .string g3, .int .i64 g4, .int .i64 g5, .int .i64 g6] from Blk.new' w14 _ _ _ hgi rfl)
  have Nxi := Lib.hid (show G < gi from by rw [← hgi]; exact Kx.out.lt)
  replace Kx := Lib.hid (Kx.out.alloc (.cells #[.int .i64 g1, .int .i64 g2, .string g3, .int .i64 g4, .int .i64 g5, .int .i64 g6] 40))
  have Nqi := Lib.hid (show G + 1 < gi from by rw [← hgi]; exact Kq.out.lt)
  replace Kq := Lib.hid (Kq.out.alloc (.cells #[.int .i64 g1, .int .i64 g2, .string g3, .int .i64 g4, .int .i64 g5, .int .i64 g6] 40))
  have Nzi := Lib.hid (show gz < gi from by rw [← hgi]; exact Kz.out.lt)
  replace Kz := Lib.hid (Kz.out.alloc (.cells #[.int .i64 g1, .int .i64 g2, .string g3, .int .i64 g4, .int .i64 g5, .int .i64 g6] 40))
  have Nfi := Lib.hid (show gf < gi from by rw [← hgi]; exact Kf.out.lt)
  replace Kf := Lib.hid (Kf.out.alloc (.cells #[.int .i64 g1, .int .i64 g2, .string g3, .int .i64 g4, .int .i64 g5, .int .i64 g6] 40))
  have Ngi := Lib.hid (show gg < gi from by rw [← hgi]; exact Kg.out.lt)
  replace Kg := Lib.hid (Kg.out.alloc (.cells #[.int .i64 g1, .int .i64 g2, .string g3, .int .i64 g4, .int .i64 g5, .int .i64 g6] 40))
  have Nhi := Lib.hid (show gh < gi from by rw [← hgi]; exact Kh.out.lt)
  replace Kh := Lib.hid (Kh.out.alloc (.cells #[.int .i64 g1, .int .i64 g2, .string g3, .int .i64 g4, .int .i64 g5, .int .i64 g6] 40))
  replace R0 := Lib.hid (R0.out.mono ((Below.refl _ w14).alloc (Nat.le_refl _) (.cells #[.int .i64 g1, .int .i64 g2, .string g3, .int .i64 g4, .int .i64 g5, .int .i64 g6] 40)))
  replace R1 := Lib.hid (R1.out.mono ((Below.refl _ w14).alloc (Nat.le_refl _) (.cells #[.int .i64 g1, .int .i64 g2, .string g3, .int .i64 g4, .int .i64 g5, .int .i64 g6] 40)))
  replace R2 := Lib.hid (R2.out.mono ((Below.refl _ w14).alloc (Nat.le_refl _) (.cells #[.int .i64 g1, .int .i64 g2, .string g3, .int .i64 g4, .int .i64 g5, .int .i64 g6] 40)))
  have Li := Lib.hid (show w.heap.size ≤ gi from by rw [← hgi]; exact B.out.size)
  replace B := Lib.hid (B.out.alloc B.out.size (.cells #[.int .i64 g1, .int .i64 g2, .string g3, .int .i64 g4, .int .i64 g5, .int .i64 g6] 40))
  go_upto_region 13 with (fail)
  try rw [hgi]
  generalize hw : w14.alloc (.cells #[.int .i64 g1, .int .i64 g2, .string g3, .int .i64 g4, .int .i64 g5, .int .i64 g6] 40) = w15 at Kx Kq Kz Kf Kg Kh Ki R0 R1 R2 B ⊢
  clear bxc0 bxc1 bxc2 bxc3 bxc4 bqc0 bqc1 bzc0 bzc1 bfc0 bfc1 bfc2 bfc3 bfc4 bgc0 bgc1 bgc2 bgc3 bgc4 bgc5 bhc0 bhc1 bhc2 bhc3 bhc4
  clear hw hgi
  obtain ⟨bxc0, bxc1, bxc2, bxc3, bxc4⟩ := five Kx.out
  obtain ⟨bqc0, bqc1⟩ := twob Kq.out
  obtain ⟨bzc0, bzc1⟩ := twob Kz.out
  obtain ⟨bfc0, bfc1, bfc2, bfc3, bfc4⟩ := five Kf.out
  obtain ⟨bgc0, bgc1, bgc2, bgc3, bgc4, bgc5⟩ := six Kg.out
  obtain ⟨bhc0, bhc1, bhc2, bhc3, bhc4⟩ := five Kh.out
  obtain ⟨bic0, bic1, bic2, bic3, bic4, bic5⟩ := six Ki.out
  go_wp2_with fail
  refine (SNT.out _ (HLA.out.below B.out)).mono ?_
  rintro e w16 ⟨rfl, hb⟩
  replace Kx := Lib.hid (Kx.out.below hb Kx.out.lt)
  replace Kq := Lib.hid (Kq.out.below hb Kq.out.lt)
  replace Kz := Lib.hid (Kz.out.below hb Kz.out.lt)
  replace Kf := Lib.hid (Kf.out.below hb Kf.out.lt)
  replace Kg := Lib.hid (Kg.out.below hb Kg.out.lt)
  replace Kh := Lib.hid (Kh.out.below hb Kh.out.lt)
  replace Ki := Lib.hid (Ki.out.below hb Ki.out.lt)
  replace R0 := Lib.hid (R0.out.mono hb)
  replace R1 := Lib.hid (R1.out.mono hb)
  replace R2 := Lib.hid (R2.out.mono hb)
  replace B := Lib.hid (B.out.trans (hb.mono B.out.size))
  clear bxc0 bxc1 bxc2 bxc3 bxc4 bqc0 bqc1 bzc0 bzc1 bfc0 bfc1 bfc2 bfc3 bfc4 bgc0 bgc1 bgc2 bgc3 bgc4 bgc5 bhc0 bhc1 bhc2 bhc3 bhc4 bic0 bic1 bic2 bic3 bic4 bic5
  clear hb
  obtain ⟨bxc0, bxc1, bxc2, bxc3, bxc4⟩ := five Kx.out
  obtain ⟨bqc0, bqc1⟩ := twob Kq.out
  obtain ⟨bzc0, bzc1⟩ := twob Kz.out
  obtain ⟨bfc0, bfc1, bfc2, bfc3, bfc4⟩ := five Kf.out
  obtain ⟨bgc0, bgc1, bgc2, bgc3, bgc4, bgc5⟩ := six Kg.out
  obtain ⟨bhc0, bhc1, bhc2, bhc3, bhc4⟩ := five Kh.out
  obtain ⟨bic0, bic1, bic2, bic3, bic4, bic5⟩ := six Ki.out
  go_wp2
  go_ret
  exact ⟨rfl, B.out⟩
theorem law3 (a : Option Addr) (c : Nat) (l : List Rw) (k1 k2 : Int) (k3 : ByteArray) (k4 k5 p s lo hi : Int) (w : World) (hp : RwA w a l) (hm : l.length ≤ 9223372036854775807) (hla : Hs.LaidC w) : Calls Tryd.prog 3 #[.slice a l.length c, .agg #[.int .i64 k1, .int .i64 k2, .string k3, .int .i64 k4, .int .i64 k5], .int .i64 p, .int .i64 s, .agg #[.int .i64 lo, .int .i64 hi]] w fun e w' => e = .returned (.bool true) ∧ Below w.heap.size w w' := by
  by_cases h : 30 < l.length
  · exact law3_many a c l k1 k2 k3 k4 k5 p s lo hi w hp hm hla h
  · cases hr : ringB l with
    | true => exact law3_ok a c l k1 k2 k3 k4 k5 p s lo hi w hp hm hla h hr
    | false => exact law3_noring a c l k1 k2 k3 k4 k5 p s lo hi w hp hm hla h hr
end Go.Proofs.YtcdcnklfcmoiiaaDoor
