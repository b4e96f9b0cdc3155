/- Contracts: law 5 of chapter 4. -/
import Derived.Test.YtcdcnklfcmoiiaaDoorZC
import Derived.Test.YtcdcnklfcmoiiaaDoorZD
namespace Go.Proofs.YtcdcnklfcmoiiaaDoor
set_option linter.unusedVariables false
set_option linter.unusedSimpArgs false
open Go.RowKit Go.Sort
set_option maxRecDepth 100000 in
set_option maxHeartbeats 2000000 in
theorem law5_many (a : Option Addr) (c : Nat) (l : List Rw) (p s tag : Int) (t : Nat) (b : Option Addr) (c2 : Nat) (parts : List ByteArray) (d0 d1 d2 d3 d4 d5 d6 d7 d8 d9 d10 d11 d12 d13 d14 d15 : Nat) (lo hi : Int) (w : World) (hp : RwA w a l) (hm : l.length ≤ 9223372036854775807) (hq : StR w b parts) (hmq : parts.length ≤ 9223372036854775807) (ht : tag % 256 = t) (hla : Hs.LaidC w) (hlk : Hs.LaidK w) (h : 30 < l.length) : Calls Tryd.prog 5 #[.slice a l.length c, .int .i64 p, .int .i64 s, .int .i64 tag, .slice b parts.length c2, .agg #[.int .u8 (d0 : Nat), .int .u8 (d1 : Nat), .int .u8 (d2 : Nat), .int .u8 (d3 : Nat), .int .u8 (d4 : Nat), .int .u8 (d5 : Nat), .int .u8 (d6 : Nat), .int .u8 (d7 : Nat), .int .u8 (d8 : Nat), .int .u8 (d9 : Nat), .int .u8 (d10 : Nat), .int .u8 (d11 : Nat), .int .u8 (d12 : Nat), .int .u8 (d13 : Nat), .int .u8 (d14 : Nat), .int .u8 (d15 : Nat)], .agg #[.int .i64 lo, .int .i64 hi]] w fun e w' => e = .returned (.bool true) ∧ Below w.heap.size w w' := by
  have HLA := Lib.hid hla
  have HLK := Lib.hid hlk
  have HP := Lib.hid hp
  have HQ := Lib.hid hq
  have SNT := Lib.hid (fun (X : World) (h : Hs.LaidC X) => sanity_any X h)
  have RG := Lib.hid (show ∀ X : World, RwA X a l → Calls Tryd.prog 11 #[.slice a l.length c] X fun e w' => e = .returned (.bool (ringB l)) ∧ Below X.heap.size X w' from fun X h => ring_any a c l X h hm)
  have SH := Lib.hid (show ∀ X : World, StR X b parts → Calls Tryd.prog 22 #[.slice b parts.length c2, .int .i64 6] X fun e w' => e = .returned (.bool (shortB parts 6)) ∧ Below X.heap.size X w' from fun X h => short_any b c2 parts 6 X h hmq)
  obtain ⟨N, hN⟩ : ∃ N, l.length = N := ⟨_, rfl⟩
  obtain ⟨n, hn⟩ : ∃ n, parts.length = n := ⟨_, rfl⟩
  have HE := Lib.hid hN
  simp only [hN, hn] at RG SH
  rw [hN, hn]
  rw [hN] at h
  have t1 : decide ((30 : Int) < (N : Int)) = true := decide_eq_true (by omega)
  clear h
  clear hla hlk hp hm hq hmq ht hN hn
  go_enter Tryd.func5, Tryd.ntmps5
  obtain ⟨G, hG⟩ : ∃ G, w.heap.size = G := ⟨_, rfl⟩
  have HG := Lib.hid hG
  have Kg := Lib.hid (show Blk ((w.alloc (.cells #[.int .u8 (d0 : Nat), .int .u8 (d1 : Nat), .int .u8 (d2 : Nat), .int .u8 (d3 : Nat), .int .u8 (d4 : Nat), .int .u8 (d5 : Nat), .int .u8 (d6 : Nat), .int .u8 (d7 : Nat), .int .u8 (d8 : Nat), .int .u8 (d9 : Nat), .int .u8 (d10 : Nat), .int .u8 (d11 : Nat), .int .u8 (d12 : Nat), .int .u8 (d13 : Nat), .int .u8 (d14 : Nat), .int .u8 (d15 : Nat)] 50)).alloc (.cells #[.int .i64 lo, .int .i64 hi] 26)) (G) 50 #[.int .u8 (d0 : Nat), .int .u8 (d1 : Nat), .int .u8 (d2 : Nat), .int .u8 (d3 : Nat), .int .u8 (d4 : Nat), .int .u8 (d5 : Nat), .int .u8 (d6 : Nat), .int .u8 (d7 : Nat), .int .u8 (d8 : Nat), .int .u8 (d9 : Nat), .int .u8 (d10 : Nat), .int .u8 (d11 : Nat), .int .u8 (d12 : Nat), .int .u8 (d13 : Nat), .int .u8 (d14 : Nat), .int .u8 (d15 : Nat)] from (Blk.new' _ _ _ _ hG rfl).alloc _)
  have Kp := Lib.hid (show Blk ((w.alloc (.cells #[.int .u8 (d0 : Nat), .int .u8 (d1 : Nat), .int .u8 (d2 : Nat), .int .u8 (d3 : Nat), .int .u8 (d4 : Nat), .int .u8 (d5 : Nat), .int .u8 (d6 : Nat), .int .u8 (d7 : Nat), .int .u8 (d8 : Nat), .int .u8 (d9 : Nat), .int .u8 (d10 : Nat), .int .u8 (d11 : Nat), .int .u8 (d12 : Nat), .int .u8 (d13 : Nat), .int .u8 (d14 : Nat), .int .u8 (d15 : Nat)] 50)).alloc (.cells #[.int .i64 lo, .int .i64 hi] 26)) (G + 1) 26 #[.int .i64 lo, .int .i64 hi] from Blk.new' _ _ _ _ (by rw [World.size_alloc, hG]) rfl)
  have B := Lib.hid (show Below w.heap.size w ((w.alloc (.cells #[.int .u8 (d0 : Nat), .int .u8 (d1 : Nat), .int .u8 (d2 : Nat), .int .u8 (d3 : Nat), .int .u8 (d4 : Nat), .int .u8 (d5 : Nat), .int .u8 (d6 : Nat), .int .u8 (d7 : Nat), .int .u8 (d8 : Nat), .int .u8 (d9 : Nat), .int .u8 (d10 : Nat), .int .u8 (d11 : Nat), .int .u8 (d12 : Nat), .int .u8 (d13 : Nat), .int .u8 (d14 : Nat), .int .u8 (d15 : Nat)] 50)).alloc (.cells #[.int .i64 lo, .int .i64 hi] 26)) by (repeat' (first | (with_reducible exact Below.refl _ _) | (with_reducible assumption) | (with_reducible refine Below.alloc ?_ ?_ _) | (with_reducible refine Below.drew ?_) | (with_reducible refine below_dn ?_) | (with_reducible refine Below.setCell ?_ ?_ _) | (with_reducible exact Nat.le_refl _) | omega | (simp only [World.size_alloc, World.size_setCell, World.size_drew]; omega) | (simp; omega) | (simp; done))))
  go_upto_region 1 with (fail)
  try rw [hG]
  generalize hw0 : ((w.alloc (.cells #[.int .u8 (d0 : Nat), .int .u8 (d1 : Nat), .int .u8 (d2 : Nat), .int .u8 (d3 : Nat), .int .u8 (d4 : Nat), .int .u8 (d5 : Nat), .int .u8 (d6 : Nat), .int .u8 (d7 : Nat), .int .u8 (d8 : Nat), .int .u8 (d9 : Nat), .int .u8 (d10 : Nat), .int .u8 (d11 : Nat), .int .u8 (d12 : Nat), .int .u8 (d13 : Nat), .int .u8 (d14 : Nat), .int .u8 (d15 : Nat)] 50)).alloc (.cells #[.int .i64 lo, .int .i64 hi] 26)) = w0 at Kg Kp B ⊢
  clear hw0 hG
  have R0 := Lib.hid (HP.out.mono B.out)
  have R1 := Lib.hid (HQ.out.mono B.out)
  go_wp2_with fail
  refine (SNT.out _ (HLA.out.below B.out)).mono ?_
  rintro e w1 ⟨rfl, hb⟩
  replace Kg := Lib.hid (Kg.out.below hb Kg.out.lt)
  replace Kp := Lib.hid (Kp.out.below hb Kp.out.lt)
  replace R0 := Lib.hid (R0.out.mono hb)
  replace R1 := Lib.hid (R1.out.mono hb)
  replace B := Lib.hid (B.out.trans (hb.mono B.out.size))
  clear hb
  obtain ⟨bgc0, bgc1, bgc2, bgc3, bgc4, bgc5, bgc6, bgc7, bgc8, bgc9, bgc10, bgc11, bgc12, bgc13, bgc14, bgc15⟩ := sixteen Kg.out
  obtain ⟨bpc0, bpc1⟩ := twob Kp.out
  go_wp2
  go_ret
  exact ⟨rfl, B.out⟩
set_option maxRecDepth 100000 in
set_option maxHeartbeats 2000000 in
theorem law5_noring (a : Option Addr) (c : Nat) (l : List Rw) (p s tag : Int) (t : Nat) (b : Option Addr) (c2 : Nat) (parts : List ByteArray) (d0 d1 d2 d3 d4 d5 d6 d7 d8 d9 d10 d11 d12 d13 d14 d15 : Nat) (lo hi : Int) (w : World) (hp : RwA w a l) (hm : l.length ≤ 9223372036854775807) (hq : StR w b parts) (hmq : parts.length ≤ 9223372036854775807) (ht : tag % 256 = t) (hla : Hs.LaidC w) (hlk : Hs.LaidK w) (h : ¬ 30 < l.length) (hr : ringB l = false) : Calls Tryd.prog 5 #[.slice a l.length c, .int .i64 p, .int .i64 s, .int .i64 tag, .slice b parts.length c2, .agg #[.int .u8 (d0 : Nat), .int .u8 (d1 : Nat), .int .u8 (d2 : Nat), .int .u8 (d3 : Nat), .int .u8 (d4 : Nat), .int .u8 (d5 : Nat), .int .u8 (d6 : Nat), .int .u8 (d7 : Nat), .int .u8 (d8 : Nat), .int .u8 (d9 : Nat), .int .u8 (d10 : Nat), .int .u8 (d11 : Nat), .int .u8 (d12 : Nat), .int .u8 (d13 : Nat), .int .u8 (d14 : Nat), .int .u8 (d15 : Nat)], .agg #[.int .i64 lo, .int .i64 hi]] w fun e w' => e = .returned (.bool true) ∧ Below w.heap.size w w' := by
  have HLA := Lib.hid hla
  have HLK := Lib.hid hlk
  have HP := Lib.hid hp
  have HQ := Lib.hid hq
  have SNT := Lib.hid (fun (X : World) (h : Hs.LaidC X) => sanity_any X h)
  have RG := Lib.hid (show ∀ X : World, RwA X a l → Calls Tryd.prog 11 #[.slice a l.length c] X fun e w' => e = .returned (.bool (ringB l)) ∧ Below X.heap.size X w' from fun X h => ring_any a c l X h hm)
  have SH := Lib.hid (show ∀ X : World, StR X b parts → Calls Tryd.prog 22 #[.slice b parts.length c2, .int .i64 6] X fun e w' => e = .returned (.bool (shortB parts 6)) ∧ Below X.heap.size X w' from fun X h => short_any b c2 parts 6 X h hmq)
  rw [hr] at RG
  obtain ⟨N, hN⟩ : ∃ N, l.length = N := ⟨_, rfl⟩
  obtain ⟨n, hn⟩ : ∃ n, parts.length = n := ⟨_, rfl⟩
  have HE := Lib.hid hN
  simp only [hN, hn] at RG SH
  rw [hN, hn]
  rw [hN] at h
  have t1 : decide ((30 : Int) < (N : Int)) = false := decide_eq_false (by omega)
  clear h hr
  clear hla hlk hp hm hq hmq ht hN hn
  go_enter Tryd.func5, Tryd.ntmps5
  obtain ⟨G, hG⟩ : ∃ G, w.heap.size = G := ⟨_, rfl⟩
  have HG := Lib.hid hG
  have Kg := Lib.hid (show Blk ((w.alloc (.cells #[.int .u8 (d0 : Nat), .int .u8 (d1 : Nat), .int .u8 (d2 : Nat), .int .u8 (d3 : Nat), .int .u8 (d4 : Nat), .int .u8 (d5 : Nat), .int .u8 (d6 : Nat), .int .u8 (d7 : Nat), .int .u8 (d8 : Nat), .int .u8 (d9 : Nat), .int .u8 (d10 : Nat), .int .u8 (d11 : Nat), .int .u8 (d12 : Nat), .int .u8 (d13 : Nat), .int .u8 (d14 : Nat), .int .u8 (d15 : Nat)] 50)).alloc (.cells #[.int .i64 lo, .int .i64 hi] 26)) (G) 50 #[.int .u8 (d0 : Nat), .int .u8 (d1 : Nat), .int .u8 (d2 : Nat), .int .u8 (d3 : Nat), .int .u8 (d4 : Nat), .int .u8 (d5 : Nat), .int .u8 (d6 : Nat), .int .u8 (d7 : Nat), .int .u8 (d8 : Nat), .int .u8 (d9 : Nat), .int .u8 (d10 : Nat), .int .u8 (d11 : Nat), .int .u8 (d12 : Nat), .int .u8 (d13 : Nat), .int .u8 (d14 : Nat), .int .u8 (d15 : Nat)] from (Blk.new' _ _ _ _ hG rfl).alloc _)
  have Kp := Lib.hid (show Blk ((w.alloc (.cells #[.int .u8 (d0 : Nat), .int .u8 (d1 : Nat), .int .u8 (d2 : Nat), .int .u8 (d3 : Nat), .int .u8 (d4 : Nat), .int .u8 (d5 : Nat), .int .u8 (d6 : Nat), .int .u8 (d7 : Nat), .int .u8 (d8 : Nat), .int .u8 (d9 : Nat), .int .u8 (d10 : Nat), .int .u8 (d11 : Nat), .int .u8 (d12 : Nat), .int .u8 (d13 : Nat), .int .u8 (d14 : Nat), .int .u8 (d15 : Nat)] 50)).alloc (.cells #[.int .i64 lo, .int .i64 hi] 26)) (G + 1) 26 #[.int .i64 lo, .int .i64 hi] from Blk.new' _ _ _ _ (by rw [World.size_alloc, hG]) rfl)
  have B := Lib.hid (show Below w.heap.size w ((w.alloc (.cells #[.int .u8 (d0 : Nat), .int .u8 (d1 : Nat), .int .u8 (d2 : Nat), .int .u8 (d3 : Nat), .int .u8 (d4 : Nat), .int .u8 (d5 : Nat), .int .u8 (d6 : Nat), .int .u8 (d7 : Nat), .int .u8 (d8 : Nat), .int .u8 (d9 : Nat), .int .u8 (d10 : Nat), .int .u8 (d11 : Nat), .int .u8 (d12 : Nat), .int .u8 (d13 : Nat), .int .u8 (d14 : Nat), .int .u8 (d15 : Nat)] 50)).alloc (.cells #[.int .i64 lo, .int .i64 hi] 26)) by (repeat' (first | (with_reducible exact Below.refl _ _) | (with_reducible assumption) | (with_reducible refine Below.alloc ?_ ?_ _) | (with_reducible refine Below.drew ?_) | (with_reducible refine below_dn ?_) | (with_reducible refine Below.setCell ?_ ?_ _) | (with_reducible exact Nat.le_refl _) | omega | (simp only [World.size_alloc, World.size_setCell, World.size_drew]; omega) | (simp; omega) | (simp; done))))
  go_upto_region 1 with (fail)
  try rw [hG]
  generalize hw0 : ((w.alloc (.cells #[.int .u8 (d0 : Nat), .int .u8 (d1 : Nat), .int .u8 (d2 : Nat), .int .u8 (d3 : Nat), .int .u8 (d4 : Nat), .int .u8 (d5 : Nat), .int .u8 (d6 : Nat), .int .u8 (d7 : Nat), .int .u8 (d8 : Nat), .int .u8 (d9 : Nat), .int .u8 (d10 : Nat), .int .u8 (d11 : Nat), .int .u8 (d12 : Nat), .int .u8 (d13 : Nat), .int .u8 (d14 : Nat), .int .u8 (d15 : Nat)] 50)).alloc (.cells #[.int .i64 lo, .int .i64 hi] 26)) = w0 at Kg Kp B ⊢
  clear hw0 hG
  have R0 := Lib.hid (HP.out.mono B.out)
  have R1 := Lib.hid (HQ.out.mono B.out)
  go_wp2_with fail
  refine (RG.out _ R0.out).mono ?_
  rintro e w1 ⟨rfl, hb⟩
  replace Kg := Lib.hid (Kg.out.below hb Kg.out.lt)
  replace Kp := Lib.hid (Kp.out.below hb Kp.out.lt)
  replace R0 := Lib.hid (R0.out.mono hb)
  replace R1 := Lib.hid (R1.out.mono hb)
  replace B := Lib.hid (B.out.trans (hb.mono B.out.size))
  clear hb
  obtain ⟨bgc0, bgc1, bgc2, bgc3, bgc4, bgc5, bgc6, bgc7, bgc8, bgc9, bgc10, bgc11, bgc12, bgc13, bgc14, bgc15⟩ := sixteen Kg.out
  obtain ⟨bpc0, bpc1⟩ := twob Kp.out
  go_wp2_with fail
  refine (SNT.out _ (HLA.out.below B.out)).mono ?_
  rintro e w2 ⟨rfl, hb⟩
  replace Kg := Lib.hid (Kg.out.below hb Kg.out.lt)
  replace Kp := Lib.hid (Kp.out.below hb Kp.out.lt)
  replace R0 := Lib.hid (R0.out.mono hb)
  replace R1 := Lib.hid (R1.out.mono hb)
  replace B := Lib.hid (B.out.trans (hb.mono B.out.size))
  clear bgc0 bgc1 bgc2 bgc3 bgc4 bgc5 bgc6 bgc7 bgc8 bgc9 bgc10 bgc11 bgc12 bgc13 bgc14 bgc15 bpc0 bpc1
  clear hb
  obtain ⟨bgc0, bgc1, bgc2, bgc3, bgc4, bgc5, bgc6, bgc7, bgc8, bgc9, bgc10, bgc11, bgc12, bgc13, bgc14, bgc15⟩ := sixteen Kg.out
  obtain ⟨bpc0, bpc1⟩ := twob Kp.out
  go_wp2
  go_ret
  exact ⟨rfl, B.out⟩
set_option maxRecDepth 100000 in
set_option maxHeartbeats 2000000 in
theorem law5_long (a : Option Addr) (c : Nat) (l : List Rw) (p s tag : Int) (t : Nat) (b : Option Addr) (c2 : Nat) (parts : List ByteArray) (d0 d1 d2 d3 d4 d5 d6 d7 d8 d9 d10 d11 d12 d13 d14 d15 : Nat) (lo hi : Int) (w : World) (hp : RwA w a l) (hm : l.length ≤ 9223372036854775807) (hq : StR w b parts) (hmq : parts.length ≤ 9223372036854775807) (ht : tag % 256 = t) (hla : Hs.LaidC w) (hlk : Hs.LaidK w) (h : ¬ 30 < l.length) (hr : ringB l = true) (hz : shortB parts 6 = false) : Calls Tryd.prog 5 #[.slice a l.length c, .int .i64 p, .int .i64 s, .int .i64 tag, .slice b parts.length c2, .agg #[.int .u8 (d0 : Nat), .int .u8 (d1 : Nat), .int .u8 (d2 : Nat), .int .u8 (d3 : Nat), .int .u8 (d4 : Nat), .int .u8 (d5 : Nat), .int .u8 (d6 : Nat), .int .u8 (d7 : Nat), .int .u8 (d8 : Nat), .int .u8 (d9 : Nat), .int .u8 (d10 : Nat), .int .u8 (d11 : Nat), .int .u8 (d12 : Nat), .int .u8 (d13 : Nat), .int .u8 (d14 : Nat), .int .u8 (d15 : Nat)], .agg #[.int .i64 lo, .int .i64 hi]] w fun e w' => e = .returned (.bool true) ∧ Below w.heap.size w w' := by
  have HLA := Lib.hid hla
  have HLK := Lib.hid hlk
  have HP := Lib.hid hp
  have HQ := Lib.hid hq
  have SNT := Lib.hid (fun (X : World) (h : Hs.LaidC X) => sanity_any X h)
  have RG := Lib.hid (show ∀ X : World, RwA X a l → Calls Tryd.prog 11 #[.slice a l.length c] X fun e w' => e = .returned (.bool (ringB l)) ∧ Below X.heap.size X w' from fun X h => ring_any a c l X h hm)
  have SH := Lib.hid (show ∀ X : World, StR X b parts → Calls Tryd.prog 22 #[.slice b parts.length c2, .int .i64 6] X fun e w' => e = .returned (.bool (shortB parts 6)) ∧ Below X.heap.size X w' from fun X h => short_any b c2 parts 6 X h hmq)
  rw [hr] at RG
  rw [hz] at SH
  obtain ⟨N, hN⟩ : ∃ N, l.length = N := ⟨_, rfl⟩
  obtain ⟨n, hn⟩ : ∃ n, parts.length = n := ⟨_, rfl⟩
  have HE := Lib.hid hN
  simp only [hN, hn] at RG SH
  rw [hN, hn]
  rw [hN] at h
  have t1 : decide ((30 : Int) < (N : Int)) = false := decide_eq_false (by omega)
  clear h hr
  clear hz
  clear hla hlk hp hm hq hmq ht hN hn
  go_enter Tryd.func5, Tryd.ntmps5
  obtain ⟨G, hG⟩ : ∃ G, w.heap.size = G := ⟨_, rfl⟩
  have HG := Lib.hid hG
  have Kg := Lib.hid (show Blk ((w.alloc (.cells #[.int .u8 (d0 : Nat), .int .u8 (d1 : Nat), .int .u8 (d2 : Nat), .int .u8 (d3 : Nat), .int .u8 (d4 : Nat), .int .u8 (d5 : Nat), .int .u8 (d6 : Nat), .int .u8 (d7 : Nat), .int .u8 (d8 : Nat), .int .u8 (d9 : Nat), .int .u8 (d10 : Nat), .int .u8 (d11 : Nat), .int .u8 (d12 : Nat), .int .u8 (d13 : Nat), .int .u8 (d14 : Nat), .int .u8 (d15 : Nat)] 50)).alloc (.cells #[.int .i64 lo, .int .i64 hi] 26)) (G) 50 #[.int .u8 (d0 : Nat), .int .u8 (d1 : Nat), .int .u8 (d2 : Nat), .int .u8 (d3 : Nat), .int .u8 (d4 : Nat), .int .u8 (d5 : Nat), .int .u8 (d6 : Nat), .int .u8 (d7 : Nat), .int .u8 (d8 : Nat), .int .u8 (d9 : Nat), .int .u8 (d10 : Nat), .int .u8 (d11 : Nat), .int .u8 (d12 : Nat), .int .u8 (d13 : Nat), .int .u8 (d14 : Nat), .int .u8 (d15 : Nat)] from (Blk.new' _ _ _ _ hG rfl).alloc _)
  have Kp := Lib.hid (show Blk ((w.alloc (.cells #[.int .u8 (d0 : Nat), .int .u8 (d1 : Nat), .int .u8 (d2 : Nat), .int .u8 (d3 : Nat), .int .u8 (d4 : Nat), .int .u8 (d5 : Nat), .int .u8 (d6 : Nat), .int .u8 (d7 : Nat), .int .u8 (d8 : Nat), .int .u8 (d9 : Nat), .int .u8 (d10 : Nat), .int .u8 (d11 : Nat), .int .u8 (d12 : Nat), .int .u8 (d13 : Nat), .int .u8 (d14 : Nat), .int .u8 (d15 : Nat)] 50)).alloc (.cells #[.int .i64 lo, .int .i64 hi] 26)) (G + 1) 26 #[.int .i64 lo, .int .i64 hi] from Blk.new' _ _ _ _ (by rw [World.size_alloc, hG]) rfl)
  have B := Lib.hid (show Below w.heap.size w ((w.alloc (.cells #[.int .u8 (d0 : Nat), .int .u8 (d1 : Nat), .int .u8 (d2 : Nat), .int .u8 (d3 : Nat), .int .u8 (d4 : Nat), .int .u8 (d5 : Nat), .int .u8 (d6 : Nat), .int .u8 (d7 : Nat), .int .u8 (d8 : Nat), .int .u8 (d9 : Nat), .int .u8 (d10 : Nat), .int .u8 (d11 : Nat), .int .u8 (d12 : Nat), .int .u8 (d13 : Nat), .int .u8 (d14 : Nat), .int .u8 (d15 : Nat)] 50)).alloc (.cells #[.int .i64 lo, .int .i64 hi] 26)) by (repeat' (first | (with_reducible exact Below.refl _ _) | (with_reducible assumption) | (with_reducible refine Below.alloc ?_ ?_ _) | (with_reducible refine Below.drew ?_) | (with_reducible refine below_dn ?_) | (with_reducible refine Below.setCell ?_ ?_ _) | (with_reducible exact Nat.le_refl _) | omega | (simp only [World.size_alloc, World.size_setCell, World.size_drew]; omega) | (simp; omega) | (simp; done))))
  go_upto_region 1 with (fail)
  try rw [hG]
  generalize hw0 : ((w.alloc (.cells #[.int .u8 (d0 : Nat), .int .u8 (d1 : Nat), .int .u8 (d2 : Nat), .int .u8 (d3 : Nat), .int .u8 (d4 : Nat), .int .u8 (d5 : Nat), .int .u8 (d6 : Nat), .int .u8 (d7 : Nat), .int .u8 (d8 : Nat), .int .u8 (d9 : Nat), .int .u8 (d10 : Nat), .int .u8 (d11 : Nat), .int .u8 (d12 : Nat), .int .u8 (d13 : Nat), .int .u8 (d14 : Nat), .int .u8 (d15 : Nat)] 50)).alloc (.cells #[.int .i64 lo, .int .i64 hi] 26)) = w0 at Kg Kp B ⊢
  clear hw0 hG
  have R0 := Lib.hid (HP.out.mono B.out)
  have R1 := Lib.hid (HQ.out.mono B.out)
  go_wp2_with fail
  refine (RG.out _ R0.out).mono ?_
  rintro e w1 ⟨rfl, hb⟩
  replace Kg := Lib.hid (Kg.out.below hb Kg.out.lt)
  replace Kp := Lib.hid (Kp.out.below hb Kp.out.lt)
  replace R0 := Lib.hid (R0.out.mono hb)
  replace R1 := Lib.hid (R1.out.mono hb)
  replace B := Lib.hid (B.out.trans (hb.mono B.out.size))
  clear hb
  obtain ⟨bgc0, bgc1, bgc2, bgc3, bgc4, bgc5, bgc6, bgc7, bgc8, bgc9, bgc10, bgc11, bgc12, bgc13, bgc14, bgc15⟩ := sixteen Kg.out
  obtain ⟨bpc0, bpc1⟩ := twob Kp.out
  go_wp2_with fail
  refine (SH.out _ R1.out).mono ?_
  rintro e w2 ⟨rfl, hb⟩
  replace Kg := Lib.hid (Kg.out.below hb Kg.out.lt)
  replace Kp := Lib.hid (Kp.out.below hb Kp.out.lt)
  replace R0 := Lib.hid (R0.out.mono hb)
  replace R1 := Lib.hid (R1.out.mono hb)
  replace B := Lib.hid (B.out.trans (hb.mono B.out.size))
  clear bgc0 bgc1 bgc2 bgc3 bgc4 bgc5 bgc6 bgc7 bgc8 bgc9 bgc10 bgc11 bgc12 bgc13 bgc14 bgc15 bpc0 bpc1
  clear hb
  obtain ⟨bgc0, bgc1, bgc2, bgc3, bgc4, bgc5, bgc6, bgc7, bgc8, bgc9, bgc10, bgc11, bgc12, bgc13, bgc14, bgc15⟩ := sixteen Kg.out
  obtain ⟨bpc0, bpc1⟩ := twob Kp.out
  go_wp2_with fail
  refine (SNT.out _ (HLA.out.below B.out)).mono ?_
  rintro e w3 ⟨rfl, hb⟩
  replace Kg := Lib.hid (Kg.out.below hb Kg.out.lt)
  replace Kp := Lib.hid (Kp.out.below hb Kp.out.lt)
  replace R0 := Lib.hid (R0.out.mono hb)
  replace R1 := Lib.hid (R1.out.mono hb)
  replace B := Lib.hid (B.out.trans (hb.mono B.out.size))
  clear bgc0 bgc1 bgc2 bgc3 bgc4 bgc5 bgc6 bgc7 bgc8 bgc9 bgc10 bgc11 bgc12 bgc13 bgc14 bgc15 bpc0 bpc1
  clear hb
  obtain ⟨bgc0, bgc1, bgc2, bgc3, bgc4, bgc5, bgc6, bgc7, bgc8, bgc9, bgc10, bgc11, bgc12, bgc13, bgc14, bgc15⟩ := sixteen Kg.out
  obtain ⟨bpc0, bpc1⟩ := twob Kp.out
  go_wp2
  go_ret
  exact ⟨rfl, B.out⟩
set_option maxRecDepth 100000 in
set_option maxHeartbeats 2000000 in
theorem law5_ok (a : Option Addr) (c : Nat) (l : List Rw) (p s tag : Int) (t : Nat) (b : Option Addr) (c2 : Nat) (parts : List ByteArray) (d0 d1 d2 d3 d4 d5 d6 d7 d8 d9 d10 d11 d12 d13 d14 d15 : Nat) (lo hi : Int) (w : World) (hp : RwA w a l) (hm : l.length ≤ 9223372036854775807) (hq : StR w b parts) (hmq : parts.length ≤ 9223372036854775807) (ht : tag % 256 = t) (hla : Hs.LaidC w) (hlk : Hs.LaidK w) (h : ¬ 30 < l.length) (hr : ringB l = true) (hz : shortB parts 6 = true) : Calls Tryd.prog 5 #[.slice a l.length c, .int .i64 p, .int .i64 s, .int .i64 tag, .slice b parts.length c2, .agg #[.int .u8 (d0 : Nat), .int .u8 (d1 : Nat), .int .u8 (d2 : Nat), .int .u8 (d3 : Nat), .int .u8 (d4 : Nat), .int .u8 (d5 : Nat), .int .u8 (d6 : Nat), .int .u8 (d7 : Nat), .int .u8 (d8 : Nat), .int .u8 (d9 : Nat), .int .u8 (d10 : Nat), .int .u8 (d11 : Nat), .int .u8 (d12 : Nat), .int .u8 (d13 : Nat), .int .u8 (d14 : Nat), .int .u8 (d15 : Nat)], .agg #[.int .i64 lo, .int .i64 hi]] w fun e w' => e = .returned (.bool true) ∧ Below w.heap.size w w' := by
  have HLA := Lib.hid hla
  have HLK := Lib.hid hlk
  have HP := Lib.hid hp
  have HQ := Lib.hid hq
  have SNT := Lib.hid (fun (X : World) (h : Hs.LaidC X) => sanity_any X h)
  have RG := Lib.hid (show ∀ X : World, RwA X a l → Calls Tryd.prog 11 #[.slice a l.length c] X fun e w' => e = .returned (.bool (ringB l)) ∧ Below X.heap.size X w' from fun X h => ring_any a c l X h hm)
  have SH := Lib.hid (show ∀ X : World, StR X b parts → Calls Tryd.prog 22 #[.slice b parts.length c2, .int .i64 6] X fun e w' => e = .returned (.bool (shortB parts 6)) ∧ Below X.heap.size X w' from fun X h => short_any b c2 parts 6 X h hmq)
  rw [hr] at RG
  have ok : RingOk l := of_decide_eq_true hr
  have sh := of_decide_eq_true hz
  have hf : parts.length ≤ 36 ∧ ∀ x ∈ parts, x.size ≤ 400 := ⟨by omega, fun x hx => by obtain ⟨k, hk, e⟩ := List.getElem_of_mem hx; have := sh.1 k hk; rw [List.getD_eq_getElem?_getD, List.getElem?_eq_getElem hk] at this; subst e; simp only [Option.getD_some] at this; omega⟩
  rw [hz] at SH
  obtain ⟨E, hE⟩ : ∃ E, chkE l p s t parts [d0, d1, d2, d3, d4, d5, d6, d7, d8, d9, d10, d11, d12, d13, d14, d15] lo hi = E := ⟨_, rfl⟩
  have CK := Lib.hid (show ∀ X : World, RwA X a l → StR X b parts → Hs.LaidC X → Calls Tryd.prog 25 #[.slice a l.length c, .int .i64 p, .int .i64 s, .int .i64 tag, .slice b parts.length c2, .agg #[.int .u8 (d0 : Nat), .int .u8 (d1 : Nat), .int .u8 (d2 : Nat), .int .u8 (d3 : Nat), .int .u8 (d4 : Nat), .int .u8 (d5 : Nat), .int .u8 (d6 : Nat), .int .u8 (d7 : Nat), .int .u8 (d8 : Nat), .int .u8 (d9 : Nat), .int .u8 (d10 : Nat), .int .u8 (d11 : Nat), .int .u8 (d12 : Nat), .int .u8 (d13 : Nat), .int .u8 (d14 : Nat), .int .u8 (d15 : Nat)], .agg #[.int .i64 lo, .int .i64 hi]] X fun e w' => e = .returned (.int .i64 E) ∧ Below X.heap.size X w' from fun X h1 h2 h3 => by rw [← hE]; exact check_any a c l p s tag t b c2 parts [d0, d1, d2, d3, d4, d5, d6, d7, d8, d9, d10, d11, d12, d13, d14, d15] lo hi X h1 h2 ok ht hf rfl h3)
  have RK := Lib.hid (show ∀ X : World, RwA X a l → StR X b parts → Hs.LaidK X → Calls Tryd.prog 26 #[.slice a l.length c, .int .i64 p, .int .i64 s, .int .i64 tag, .slice b parts.length c2, .agg #[.int .u8 (d0 : Nat), .int .u8 (d1 : Nat), .int .u8 (d2 : Nat), .int .u8 (d3 : Nat), .int .u8 (d4 : Nat), .int .u8 (d5 : Nat), .int .u8 (d6 : Nat), .int .u8 (d7 : Nat), .int .u8 (d8 : Nat), .int .u8 (d9 : Nat), .int .u8 (d10 : Nat), .int .u8 (d11 : Nat), .int .u8 (d12 : Nat), .int .u8 (d13 : Nat), .int .u8 (d14 : Nat), .int .u8 (d15 : Nat)], .agg #[.int .i64 lo, .int .i64 hi]] X fun e w' => e = .returned (.int .i64 E) ∧ Below X.heap.size X w' from fun X h1 h2 h3 => by rw [← hE]; exact rcheck_any a c l p s tag t b c2 parts [d0, d1, d2, d3, d4, d5, d6, d7, d8, d9, d10, d11, d12, d13, d14, d15] lo hi X h1 h2 ok ht hf rfl h3)
  have MK := Lib.hid (show ∀ (k : Rw) (hk : k.2.2.1.size ≤ 400) (X : World), StR X b parts → Hs.LaidC X → Calls Tryd.prog 23 #[.agg (encR k).toArray, .int .i64 tag, .slice b parts.length c2] X fun e w' => e = .returned (.agg (Hs.bvs (mkS t k.2.2.1 parts))) ∧ Below X.heap.size X w' from fun k hk X h1 h2 => make_any k tag t b c2 parts X ht h1 hf hk h2)
  have RM := Lib.hid (show ∀ (k : Rw) (hk : k.2.2.1.size ≤ 400) (X : World), StR X b parts → Hs.LaidK X → Calls Tryd.prog 24 #[.agg (encR k).toArray, .int .i64 tag, .slice b parts.length c2] X fun e w' => e = .returned (.agg (Hs.bvs (mkS t k.2.2.1 parts))) ∧ Below X.heap.size X w' from fun k hk X h1 h2 => rmake_any k tag t b c2 parts X ht h1 hf hk h2)
  have KY := Lib.hid (fun (k : Nat) (hk : k < l.length) => show (l.getD k r0).2.2.1.size ≤ 400 from by have := (ok.keys k hk).2.2.1.2; omega)
  clear ok sh hf hE hz
  obtain ⟨N, hN⟩ : ∃ N, l.length = N := ⟨_, rfl⟩
  obtain ⟨n, hn⟩ : ∃ n, parts.length = n := ⟨_, rfl⟩
  have HE := Lib.hid hN
  simp only [hN, hn] at RG SH CK RK MK RM KY
  rw [hN, hn]
  rw [hN] at h
  have NB := Lib.hid (show N ≤ 30 by omega)
  have t1 : decide ((30 : Int) < (N : Int)) = false := decide_eq_false (by omega)
  clear h hr
  clear hla hlk hp hm hq hmq ht hN hn
  go_enter Tryd.func5, Tryd.ntmps5
  obtain ⟨G, hG⟩ : ∃ G, w.heap.size = G := ⟨_, rfl⟩
  have HG := Lib.hid hG
  have Kg := Lib.hid (show Blk ((w.alloc (.cells #[.int .u8 (d0 : Nat), .int .u8 (d1 : Nat), .int .u8 (d2 : Nat), .int .u8 (d3 : Nat), .int .u8 (d4 : Nat), .int .u8 (d5 : Nat), .int .u8 (d6 : Nat), .int .u8 (d7 : Nat), .int .u8 (d8 : Nat), .int .u8 (d9 : Nat), .int .u8 (d10 : Nat), .int .u8 (d11 : Nat), .int .u8 (d12 : Nat), .int .u8 (d13 : Nat), .int .u8 (d14 : Nat), .int .u8 (d15 : Nat)] 50)).alloc (.cells #[.int .i64 lo, .int .i64 hi] 26)) (G) 50 #[.int .u8 (d0 : Nat), .int .u8 (d1 : Nat), .int .u8 (d2 : Nat), .int .u8 (d3 : Nat), .int .u8 (d4 : Nat), .int .u8 (d5 : Nat), .int .u8 (d6 : Nat), .int .u8 (d7 : Nat), .int .u8 (d8 : Nat), .int .u8 (d9 : Nat), .int .u8 (d10 : Nat), .int .u8 (d11 : Nat), .int .u8 (d12 : Nat), .int .u8 (d13 : Nat), .int .u8 (d14 : Nat), .int .u8 (d15 : Nat)] from (Blk.new' _ _ _ _ hG rfl).alloc _)
  have Kp := Lib.hid (show Blk ((w.alloc (.cells #[.int .u8 (d0 : Nat), .int .u8 (d1 : Nat), .int .u8 (d2 : Nat), .int .u8 (d3 : Nat), .int .u8 (d4 : Nat), .int .u8 (d5 : Nat), .int .u8 (d6 : Nat), .int .u8 (d7 : Nat), .int .u8 (d8 : Nat), .int .u8 (d9 : Nat), .int .u8 (d10 : Nat), .int .u8 (d11 : Nat), .int .u8 (d12 : Nat), .int .u8 (d13 : Nat), .int .u8 (d14 : Nat), .int .u8 (d15 : Nat)] 50)).alloc (.cells #[.int .i64 lo, .int .i64 hi] 26)) (G + 1) 26 #[.int .i64 lo, .int .i64 hi] from Blk.new' _ _ _ _ (by rw [World.size_alloc, hG]) rfl)
  have B := Lib.hid (show Below w.heap.size w ((w.alloc (.cells #[.int .u8 (d0 : Nat), .int .u8 (d1 : Nat), .int .u8 (d2 : Nat), .int .u8 (d3 : Nat), .int .u8 (d4 : Nat), .int .u8 (d5 : Nat), .int .u8 (d6 : Nat), .int .u8 (d7 : Nat), .int .u8 (d8 : Nat), .int .u8 (d9 : Nat), .int .u8 (d10 : Nat), .int .u8 (d11 : Nat), .int .u8 (d12 : Nat), .int .u8 (d13 : Nat), .int .u8 (d14 : Nat), .int .u8 (d15 : Nat)] 50)).alloc (.cells #[.int .i64 lo, .int .i64 hi] 26)) by (repeat' (first | (with_reducible exact Below.refl _ _) | (with_reducible assumption) | (with_reducible refine Below.alloc ?_ ?_ _) | (with_reducible refine Below.drew ?_) | (with_reducible refine below_dn ?_) | (with_reducible refine Below.setCell ?_ ?_ _) | (with_reducible exact Nat.le_refl _) | omega | (simp only [World.size_alloc, World.size_setCell, World.size_drew]; omega) | (simp; omega) | (simp; done))))
  go_upto_region 1 with (fail)
  try rw [hG]
  generalize hw0 : ((w.alloc (.cells #[.int .u8 (d0 : Nat), .int .u8 (d1 : Nat), .int .u8 (d2 : Nat), .int .u8 (d3 : Nat), .int .u8 (d4 : Nat), .int .u8 (d5 : Nat), .int .u8 (d6 : Nat), .int .u8 (d7 : Nat), .int .u8 (d8 : Nat), .int .u8 (d9 : Nat), .int .u8 (d10 : Nat), .int .u8 (d11 : Nat), .int .u8 (d12 : Nat), .int .u8 (d13 : Nat), .int .u8 (d14 : Nat), .int .u8 (d15 : Nat)] 50)).alloc (.cells #[.int .i64 lo, .int .i64 hi] 26)) = w0 at Kg Kp B ⊢
  clear hw0 hG
  have R0 := Lib.hid (HP.out.mono B.out)
  have R1 := Lib.hid (HQ.out.mono B.out)
  go_wp2_with fail
  refine (RG.out _ R0.out).mono ?_
  rintro e w1 ⟨rfl, hb⟩
  replace Kg := Lib.hid (Kg.out.below hb Kg.out.lt)
  replace Kp := Lib.hid (Kp.out.below hb Kp.out.lt)
  replace R0 := Lib.hid (R0.out.mono hb)
  replace R1 := Lib.hid (R1.out.mono hb)
  replace B := Lib.hid (B.out.trans (hb.mono B.out.size))
  clear hb
  obtain ⟨bgc0, bgc1, bgc2, bgc3, bgc4, bgc5, bgc6, bgc7, bgc8, bgc9, bgc10, bgc11, bgc12, bgc13, bgc14, bgc15⟩ := sixteen Kg.out
  obtain ⟨bpc0, bpc1⟩ := twob Kp.out
  go_wp2_with fail
  refine (SH.out _ R1.out).mono ?_
  rintro e w2 ⟨rfl, hb⟩
  replace Kg := Lib.hid (Kg.out.below hb Kg.out.lt)
  replace Kp := Lib.hid (Kp.out.below hb Kp.out.lt)
  replace R0 := Lib.hid (R0.out.mono hb)
  replace R1 := Lib.hid (R1.out.mono hb)
  replace B := Lib.hid (B.out.trans (hb.mono B.out.size))
  clear bgc0 bgc1 bgc2 bgc3 bgc4 bgc5 bgc6 bgc7 bgc8 bgc9 bgc10 bgc11 bgc12 bgc13 bgc14 bgc15 bpc0 bpc1
  clear hb
  obtain ⟨bgc0, bgc1, bgc2, bgc3, bgc4, bgc5, bgc6, bgc7, bgc8, bgc9, bgc10, bgc11, bgc12, bgc13, bgc14, bgc15⟩ := sixteen Kg.out
  obtain ⟨bpc0, bpc1⟩ := twob Kp.out
  clear bgc0 bgc1 bgc2 bgc3 bgc4 bgc5 bgc6 bgc7 bgc8 bgc9 bgc10 bgc11 bgc12 bgc13 bgc14 bgc15 bpc0 bpc1
  clear R0 R1
  go_wp2
  go_loopw [16, 33] (fun _ u33 wr => ∃ k : Nat, k ≤ N ∧ u33 = .int .i64 k ∧ Hid (Blk wr G 50 #[.int .u8 (d0 : Nat), .int .u8 (d1 : Nat), .int .u8 (d2 : Nat), .int .u8 (d3 : Nat), .int .u8 (d4 : Nat), .int .u8 (d5 : Nat), .int .u8 (d6 : Nat), .int .u8 (d7 : Nat), .int .u8 (d8 : Nat), .int .u8 (d9 : Nat), .int .u8 (d10 : Nat), .int .u8 (d11 : Nat), .int .u8 (d12 : Nat), .int .u8 (d13 : Nat), .int .u8 (d14 : Nat), .int .u8 (d15 : Nat)]) ∧ Hid (Blk wr (G + 1) 26 #[.int .i64 lo, .int .i64 hi]) ∧ Hid (Below w.heap.size w wr)) (fun _ u33 _ => (N - intOf u33).toNat)
  case atStart => exact ⟨0, by omega, rfl, Kg, Kp, B⟩
  case round =>
    obtain ⟨k, hk, rfl, Kg, Kp, B⟩ := hrel
    by_cases hlt : k < N
    · have nb := NB.out
      have t0 : decide ((k : Int) < (N : Int)) = true := decide_eq_true (by omega)
      have wk : IntKind.i64.wrap ((k : Int) + 1) = (k : Int) + 1 := by rw [IntKind.wrap_i64]; omega
      have hkey := KY.out k hlt
      have R0 := Lib.hid (HP.out.mono B.out)
      have R1 := Lib.hid (HQ.out.mono B.out)
      obtain ⟨o1, f1, rfl, q0, q1, q2, q3, q4⟩ := RwA.at_ (HP.out.mono B.out) (k := k) (by rw [HE.out]; exact hlt)
      obtain ⟨x, hx⟩ : ∃ y, l.getD k r0 = y := ⟨_, rfl⟩
      rw [hx] at q0 q1 q2 q3 q4 hkey
      clear hx
      have M1 := Lib.hid (fun (X : World) h1 h2 => MK.out x hkey X h1 h2)
      have M2 := Lib.hid (fun (X : World) h1 h2 => RM.out x hkey X h1 h2)
      clear hkey
      obtain ⟨x1, x2, x3, x4, x5⟩ := x
      simp only at q0 q1 q2 q3 q4
      simp only [encR, List.cons_append, List.nil_append] at M1 M2
      have EQ := Hs.equalIn_16d (mkS t x3 parts) (mkS t x3 parts) (mkS_len _ _ _) (mkS_len _ _ _)
      simp only [decide_eq_true (rfl : mkS t x3 parts = mkS t x3 parts)] at EQ
      obtain ⟨V, hV⟩ : ∃ V, Hs.bvs (mkS t x3 parts) = V := ⟨_, rfl⟩
      simp only [hV] at M1 M2 EQ
      clear hV
      have k0 : (0 : Int) ≤ (k : Int) := by omega
      have kN : (k : Int) < (N : Int) := by omega
      obtain ⟨gk, hgk⟩ : ∃ G, wr.heap.size = G := ⟨_, rfl⟩
      have Kk := Lib.hid (show Blk (wr.alloc (.cells #[.int .i64 x1, .int .i64 x2, .string x3, .int .i64 x4, .int .i64 x5] 24)) gk 24 #[.int .i64 x1, .int .i64 x2, .string x3, .int .i64 x4, .int .i64 x5] from Blk.new' wr _ _ _ hgk rfl)
      have Ngk := Lib.hid (show G < gk from by rw [← hgk]; exact Kg.out.lt)
      replace Kg := Lib.hid (Kg.out.alloc (.cells #[.int .i64 x1, .int .i64 x2, .string x3, .int .i64 x4, .int .i64 x5] 24))
      have Npk := Lib.hid (show G + 1 < gk from by rw [← hgk]; exact Kp.out.lt)
      replace Kp := Lib.hid (Kp.out.alloc (.cells #[.int .i64 x1, .int .i64 x2, .string x3, .int .i64 x4, .int .i64 x5] 24))
      replace R0 := Lib.hid (R0.out.mono ((Below.refl _ wr).alloc (Nat.le_refl _) (.cells #[.int .i64 x1, .int .i64 x2, .string x3, .int .i64 x4, .int .i64 x5] 24)))
      replace R1 := Lib.hid (R1.out.mono ((Below.refl _ wr).alloc (Nat.le_refl _) (.cells #[.int .i64 x1, .int .i64 x2, .string x3, .int .i64 x4, .int .i64 x5] 24)))
      have Lk := Lib.hid (show w.heap.size ≤ gk from by rw [← hgk]; exact B.out.size)
      replace B := Lib.hid (B.out.alloc B.out.size (.cells #[.int .i64 x1, .int .i64 x2, .string x3, .int .i64 x4, .int .i64 x5] 24))
      go_upto_region 6 with (fail)
      try rw [hgk]
      generalize hw : wr.alloc (.cells #[.int .i64 x1, .int .i64 x2, .string x3, .int .i64 x4, .int .i64 x5] 24) = w21 at Kg Kp Kk R0 R1 B ⊢
      clear hw hgk
      clear q0 q1 q2 q3 q4
      have Q1 := Lib.hid (fun (d : Nat) (os : Array Obj) => M1.out (grow (redrawn w21 d) os) (R1.out.mono (below_regrown w21 d os)) (HLA.out.below (B.out.trans ((below_regrown w21 d os).mono B.out.size))))
      have Q2 := Lib.hid (fun (d : Nat) (os : Array Obj) => M2.out (grow (redrawn w21 d) os) (R1.out.mono (below_regrown w21 d os)) (HLK.out.mono (B.out.trans ((below_regrown w21 d os).mono B.out.size))))
      obtain ⟨bgc0, bgc1, bgc2, bgc3, bgc4, bgc5, bgc6, bgc7, bgc8, bgc9, bgc10, bgc11, bgc12, bgc13, bgc14, bgc15⟩ := sixteen Kg.out
      obtain ⟨bpc0, bpc1⟩ := twob Kp.out
      obtain ⟨bkc0, bkc1, bkc2, bkc3, bkc4⟩ := five Kk.out
      have gc := grow_cell3
      have zzg := Kg.out.lt
      have zzp := Kp.out.lt
      have zzk := Kk.out.lt
      go_wp2_with fail
      refine wp_region_quiet_below (by kernel_rfl) (by kernel_rfl) ?_
      repeat (go_big_quiet_step (first | (with_reducible exact Calls.regrown_of (Q1.out _ _)) | (with_reducible exact Calls.regrown_of (Q2.out _ _))))
      refine wpQuiet_nil ?_
      intro w22 hw'
      obtain ⟨⟨dq, osq⟩, hw''⟩ := hw'
      have hb := below_of_grow3 hw''
      clear hw'' gc zzg zzp zzk
      replace Kg := Lib.hid (Kg.out.below hb Kg.out.lt)
      replace Kp := Lib.hid (Kp.out.below hb Kp.out.lt)
      replace Kk := Lib.hid (Kk.out.below hb Kk.out.lt)
      replace R0 := Lib.hid (R0.out.mono hb)
      replace R1 := Lib.hid (R1.out.mono hb)
      replace B := Lib.hid (B.out.trans (hb.mono B.out.size))
      clear hb
      clear bgc0 bgc1 bgc2 bgc3 bgc4 bgc5 bgc6 bgc7 bgc8 bgc9 bgc10 bgc11 bgc12 bgc13 bgc14 bgc15 bpc0 bpc1 bkc0 bkc1 bkc2 bkc3 bkc4
      clear Q1 Q2
      go_wp2
      go_roundw
      case rel => exact ⟨k + 1, by omega, by go_num, Kg, Kp, B⟩
      case measure => simp [intOf]; omega
    · obtain rfl : k = N := by omega
      have R0 := Lib.hid (HP.out.mono B.out)
      have R1 := Lib.hid (HQ.out.mono B.out)
      clear MK RM KY HE hlt hk
      go_upto_region 9 with (fail)
      have Q0 := Lib.hid (fun (d : Nat) (os : Array Obj) => SNT.out (grow (redrawn wr d) os) (HLA.out.below (B.out.trans ((below_regrown wr d os).mono B.out.size))))
      have Q1 := Lib.hid (fun (d : Nat) (os : Array Obj) => CK.out (grow (redrawn wr d) os) (R0.out.mono (below_regrown wr d os)) (R1.out.mono (below_regrown wr d os)) (HLA.out.below (B.out.trans ((below_regrown wr d os).mono B.out.size))))
      have Q2 := Lib.hid (fun (d : Nat) (os : Array Obj) => RK.out (grow (redrawn wr d) os) (R0.out.mono (below_regrown wr d os)) (R1.out.mono (below_regrown wr d os)) (HLK.out.mono (B.out.trans ((below_regrown wr d os).mono B.out.size))))
      obtain ⟨bgc0, bgc1, bgc2, bgc3, bgc4, bgc5, bgc6, bgc7, bgc8, bgc9, bgc10, bgc11, bgc12, bgc13, bgc14, bgc15⟩ := sixteen Kg.out
      obtain ⟨bpc0, bpc1⟩ := twob Kp.out
      have gc := grow_cell3
      have zzg := Kg.out.lt
      have zzp := Kp.out.lt
      go_wp2_with fail
      refine wp_region_quiet_below (by kernel_rfl) (by kernel_rfl) ?_
      repeat (go_big_quiet_step (first | (with_reducible exact Calls.regrown_of (Q0.out _ _)) | (with_reducible exact Calls.regrown_of (Q1.out _ _)) | (with_reducible exact Calls.regrown_of (Q2.out _ _))))
      refine wpQuiet_nil ?_
      intro w41 hw'
      obtain ⟨⟨dq, osq⟩, hw''⟩ := hw'
      have hb := below_of_grow3 hw''
      clear hw'' gc zzg zzp
      replace Kg := Lib.hid (Kg.out.below hb Kg.out.lt)
      replace Kp := Lib.hid (Kp.out.below hb Kp.out.lt)
      replace R0 := Lib.hid (R0.out.mono hb)
      replace R1 := Lib.hid (R1.out.mono hb)
      replace B := Lib.hid (B.out.trans (hb.mono B.out.size))
      clear hb
      clear bgc0 bgc1 bgc2 bgc3 bgc4 bgc5 bgc6 bgc7 bgc8 bgc9 bgc10 bgc11 bgc12 bgc13 bgc14 bgc15 bpc0 bpc1
      go_wp2
      go_ret
      exact ⟨rfl, B.out⟩
theorem law5 (a : Option Addr) (c : Nat) (l : List Rw) (p s tag : Int) (b : Option Addr) (c2 : Nat) (parts : List ByteArray) (S : List Nat) (lo hi : Int) (w : World) (hp : RwA w a l) (hm : l.length ≤ 9223372036854775807) (hq : StR w b parts) (hmq : parts.length ≤ 9223372036854775807) (hS : S.length = 16) (hla : Hs.LaidC w) (hlk : Hs.LaidK w) : Calls Tryd.prog 5 #[.slice a l.length c, .int .i64 p, .int .i64 s, .int .i64 tag, .slice b parts.length c2, .agg (Hs.bvs S), .agg #[.int .i64 lo, .int .i64 hi]] w fun e w' => e = .returned (.bool true) ∧ Below w.heap.size w w' := by
  obtain ⟨d0, d1, d2, d3, d4, d5, d6, d7, d8, d9, d10, d11, d12, d13, d14, d15, rfl⟩ := list16 hS
  obtain ⟨t, ht⟩ : ∃ t : Nat, tag % 256 = t := ⟨(tag % 256).toNat, by omega⟩
  by_cases h : 30 < l.length
  · exact law5_many a c l p s tag t b c2 parts d0 d1 d2 d3 d4 d5 d6 d7 d8 d9 d10 d11 d12 d13 d14 d15 lo hi w hp hm hq hmq ht hla hlk h
  · cases hr : ringB l with
    | false => exact law5_noring a c l p s tag t b c2 parts d0 d1 d2 d3 d4 d5 d6 d7 d8 d9 d10 d11 d12 d13 d14 d15 lo hi w hp hm hq hmq ht hla hlk h hr
    | true =>
      cases hz : shortB parts 6 with
      | true => exact law5_ok a c l p s tag t b c2 parts d0 d1 d2 d3 d4 d5 d6 d7 d8 d9 d10 d11 d12 d13 d14 d15 lo hi w hp hm hq hmq ht hla hlk h hr hz
      | false => exact law5_long a c l p s tag t b c2 parts d0 d1 d2 d3 d4 d5 d6 d7 d8 d9 d10 d11 d12 d13 d14 d15 lo hi w hp hm hq hmq ht hla hlk h hr hz
end Go.Proofs.YtcdcnklfcmoiiaaDoor
