/- Contracts: law 4 of chapter 4. -/
import Derived.Test.YtcdcnklfcmoiiaaDoorZC
import Derived.Test.YtcdcnklfcmoiiaaDoorZB
namespace Go.Proofs.YtcdcnklfcmoiiaaDoor
set_option linter.unusedVariables false
set_option linter.unusedSimpArgs false
open Go.RowKit Go.Sort
set_option maxRecDepth 100000 in
set_option maxHeartbeats 2000000 in
theorem law4_many (a : Option Addr) (c : Nat) (l : List Rw) (p : Int) (sec : ByteArray) (at_ ov lo hi : Int) (w : World) (hp : RwA w a l) (hm : l.length ≤ 9223372036854775807) (hla : Hs.LaidC w) (h : 30 < l.length) : Calls Tryd.prog 4 #[.slice a l.length c, .int .i64 p, .string sec, .int .i64 at_, .int .i64 ov, .agg #[.int .i64 lo, .int .i64 hi]] w fun e w' => e = .returned (.bool true) ∧ Below w.heap.size w w' := by
  have HLA := Lib.hid hla
  have HP := Lib.hid hp
  have SNT := Lib.hid (fun (X : World) (h : Hs.LaidC X) => sanity_any X h)
  have RG := Lib.hid (show ∀ X : World, RwA X a l → Calls Tryd.prog 11 #[.slice a l.length c] X fun e w' => e = .returned (.bool (ringB l)) ∧ Below X.heap.size X w' from fun X h => ring_any a c l X h hm)
  obtain ⟨N, hN⟩ : ∃ N, l.length = N := ⟨_, rfl⟩
  simp only [hN] at RG
  rw [hN]
  rw [hN] at h
  have t1 : decide ((30 : Int) < (N : Int)) = true := decide_eq_true (by omega)
  clear h
  clear hla hp hm hN
  go_enter Tryd.func4, Tryd.ntmps4
  obtain ⟨G, hG⟩ : ∃ G, w.heap.size = G := ⟨_, rfl⟩
  have HG := Lib.hid hG
  have Kq := Lib.hid (show Blk (w.alloc (.cells #[.int .i64 lo, .int .i64 hi] 26)) (G) 26 #[.int .i64 lo, .int .i64 hi] from Blk.new' _ _ _ _ hG rfl)
  have B := Lib.hid (show Below w.heap.size w (w.alloc (.cells #[.int .i64 lo, .int .i64 hi] 26)) by (repeat' (first | (with_reducible exact Below.refl _ _) | (with_reducible assumption) | (with_reducible refine Below.alloc ?_ ?_ _) | (with_reducible refine Below.drew ?_) | (with_reducible refine below_dn ?_) | (with_reducible refine Below.setCell ?_ ?_ _) | (with_reducible exact Nat.le_refl _) | omega | (simp only [World.size_alloc, World.size_setCell, World.size_drew]; omega) | (simp; omega) | (simp; done))))
  go_upto_region 1 with (fail)
  try rw [hG]
  generalize hw0 : (w.alloc (.cells #[.int .i64 lo, .int .i64 hi] 26)) = w0 at Kq B ⊢
  clear hw0 hG
  obtain ⟨bqc0, bqc1⟩ := twob Kq.out
  have R0 := Lib.hid (HP.out.mono B.out)
  go_wp2_with fail
  refine (SNT.out _ (HLA.out.below B.out)).mono ?_
  rintro e w1 ⟨rfl, hb⟩
  replace Kq := Lib.hid (Kq.out.below hb Kq.out.lt)
  replace R0 := Lib.hid (R0.out.mono hb)
  replace B := Lib.hid (B.out.trans (hb.mono B.out.size))
  clear bqc0 bqc1
  clear hb
  obtain ⟨bqc0, bqc1⟩ := twob Kq.out
  go_wp2
  go_ret
  exact ⟨rfl, B.out⟩
set_option maxRecDepth 100000 in
set_option maxHeartbeats 2000000 in
theorem law4_noring (a : Option Addr) (c : Nat) (l : List Rw) (p : Int) (sec : ByteArray) (at_ ov lo hi : Int) (w : World) (hp : RwA w a l) (hm : l.length ≤ 9223372036854775807) (hla : Hs.LaidC w) (h : ¬ 30 < l.length) (hr : ringB l = false) : Calls Tryd.prog 4 #[.slice a l.length c, .int .i64 p, .string sec, .int .i64 at_, .int .i64 ov, .agg #[.int .i64 lo, .int .i64 hi]] w fun e w' => e = .returned (.bool true) ∧ Below w.heap.size w w' := by
  have HLA := Lib.hid hla
  have HP := Lib.hid hp
  have SNT := Lib.hid (fun (X : World) (h : Hs.LaidC X) => sanity_any X h)
  have RG := Lib.hid (show ∀ X : World, RwA X a l → Calls Tryd.prog 11 #[.slice a l.length c] X fun e w' => e = .returned (.bool (ringB l)) ∧ Below X.heap.size X w' from fun X h => ring_any a c l X h hm)
  rw [hr] at RG
  obtain ⟨N, hN⟩ : ∃ N, l.length = N := ⟨_, rfl⟩
  simp only [hN] at RG
  rw [hN]
  rw [hN] at h
  have t1 : decide ((30 : Int) < (N : Int)) = false := decide_eq_false (by omega)
  clear h hr
  clear hla hp hm hN
  go_enter Tryd.func4, Tryd.ntmps4
  obtain ⟨G, hG⟩ : ∃ G, w.heap.size = G := ⟨_, rfl⟩
  have HG := Lib.hid hG
  have Kq := Lib.hid (show Blk (w.alloc (.cells #[.int .i64 lo, .int .i64 hi] 26)) (G) 26 #[.int .i64 lo, .int .i64 hi] from Blk.new' _ _ _ _ hG rfl)
  have B := Lib.hid (show Below w.heap.size w (w.alloc (.cells #[.int .i64 lo, .int .i64 hi] 26)) by (repeat' (first | (with_reducible exact Below.refl _ _) | (with_reducible assumption) | (with_reducible refine Below.alloc ?_ ?_ _) | (with_reducible refine Below.drew ?_) | (with_reducible refine below_dn ?_) | (with_reducible refine Below.setCell ?_ ?_ _) | (with_reducible exact Nat.le_refl _) | omega | (simp only [World.size_alloc, World.size_setCell, World.size_drew]; omega) | (simp; omega) | (simp; done))))
  go_upto_region 1 with (fail)
  try rw [hG]
  generalize hw0 : (w.alloc (.cells #[.int .i64 lo, .int .i64 hi] 26)) = w0 at Kq B ⊢
  clear hw0 hG
  obtain ⟨bqc0, bqc1⟩ := twob Kq.out
  have R0 := Lib.hid (HP.out.mono B.out)
  go_wp2_with fail
  refine (RG.out _ R0.out).mono ?_
  rintro e w1 ⟨rfl, hb⟩
  replace Kq := Lib.hid (Kq.out.below hb Kq.out.lt)
  replace R0 := Lib.hid (R0.out.mono hb)
  replace B := Lib.hid (B.out.trans (hb.mono B.out.size))
  clear bqc0 bqc1
  clear hb
  obtain ⟨bqc0, bqc1⟩ := twob Kq.out
  go_wp2_with fail
  refine (SNT.out _ (HLA.out.below B.out)).mono ?_
  rintro e w2 ⟨rfl, hb⟩
  replace Kq := Lib.hid (Kq.out.below hb Kq.out.lt)
  replace R0 := Lib.hid (R0.out.mono hb)
  replace B := Lib.hid (B.out.trans (hb.mono B.out.size))
  clear bqc0 bqc1
  clear hb
  obtain ⟨bqc0, bqc1⟩ := twob Kq.out
  go_wp2
  go_ret
  exact ⟨rfl, B.out⟩
set_option maxRecDepth 100000 in
set_option maxHeartbeats 2000000 in
theorem law4_long (a : Option Addr) (c : Nat) (l : List Rw) (p : Int) (sec : ByteArray) (at_ ov lo hi : Int) (w : World) (hp : RwA w a l) (hm : l.length ≤ 9223372036854775807) (hla : Hs.LaidC w) (h : ¬ 30 < l.length) (hr : ringB l = true) (hz : 100 < sec.size) : Calls Tryd.prog 4 #[.slice a l.length c, .int .i64 p, .string sec, .int .i64 at_, .int .i64 ov, .agg #[.int .i64 lo, .int .i64 hi]] w fun e w' => e = .returned (.bool true) ∧ Below w.heap.size w w' := by
  have HLA := Lib.hid hla
  have HP := Lib.hid hp
  have SNT := Lib.hid (fun (X : World) (h : Hs.LaidC X) => sanity_any X h)
  have RG := Lib.hid (show ∀ X : World, RwA X a l → Calls Tryd.prog 11 #[.slice a l.length c] X fun e w' => e = .returned (.bool (ringB l)) ∧ Below X.heap.size X w' from fun X h => ring_any a c l X h hm)
  rw [hr] at RG
  obtain ⟨N, hN⟩ : ∃ N, l.length = N := ⟨_, rfl⟩
  simp only [hN] at RG
  rw [hN]
  rw [hN] at h
  have t1 : decide ((30 : Int) < (N : Int)) = false := decide_eq_false (by omega)
  clear h hr
  have t2 : decide ((100 : Int) < (sec.size : Int)) = true := decide_eq_true (by omega)
  clear hz
  clear hla hp hm hN
  go_enter Tryd.func4, Tryd.ntmps4
  obtain ⟨G, hG⟩ : ∃ G, w.heap.size = G := ⟨_, rfl⟩
  have HG := Lib.hid hG
  have Kq := Lib.hid (show Blk (w.alloc (.cells #[.int .i64 lo, .int .i64 hi] 26)) (G) 26 #[.int .i64 lo, .int .i64 hi] from Blk.new' _ _ _ _ hG rfl)
  have B := Lib.hid (show Below w.heap.size w (w.alloc (.cells #[.int .i64 lo, .int .i64 hi] 26)) by (repeat' (first | (with_reducible exact Below.refl _ _) | (with_reducible assumption) | (with_reducible refine Below.alloc ?_ ?_ _) | (with_reducible refine Below.drew ?_) | (with_reducible refine below_dn ?_) | (with_reducible refine Below.setCell ?_ ?_ _) | (with_reducible exact Nat.le_refl _) | omega | (simp only [World.size_alloc, World.size_setCell, World.size_drew]; omega) | (simp; omega) | (simp; done))))
  go_upto_region 1 with (fail)
  try rw [hG]
  generalize hw0 : (w.alloc (.cells #[.int .i64 lo, .int .i64 hi] 26)) = w0 at Kq B ⊢
  clear hw0 hG
  obtain ⟨bqc0, bqc1⟩ := twob Kq.out
  have R0 := Lib.hid (HP.out.mono B.out)
  go_wp2_with fail
  refine (RG.out _ R0.out).mono ?_
  rintro e w1 ⟨rfl, hb⟩
  replace Kq := Lib.hid (Kq.out.below hb Kq.out.lt)
  replace R0 := Lib.hid (R0.out.mono hb)
  replace B := Lib.hid (B.out.trans (hb.mono B.out.size))
  clear bqc0 bqc1
  clear hb
  obtain ⟨bqc0, bqc1⟩ := twob Kq.out
  go_wp2_with fail
  refine (SNT.out _ (HLA.out.below B.out)).mono ?_
  rintro e w2 ⟨rfl, hb⟩
  replace Kq := Lib.hid (Kq.out.below hb Kq.out.lt)
  replace R0 := Lib.hid (R0.out.mono hb)
  replace B := Lib.hid (B.out.trans (hb.mono B.out.size))
  clear bqc0 bqc1
  clear hb
  obtain ⟨bqc0, bqc1⟩ := twob Kq.out
  go_wp2
  go_ret
  exact ⟨rfl, B.out⟩
set_option maxRecDepth 100000 in
set_option maxHeartbeats 2000000 in
theorem law4_c1 (a : Option Addr) (c : Nat) (l : List Rw) (p : Int) (sec : ByteArray) (at_ ov lo hi : Int) (w : World) (hp : RwA w a l) (hm : l.length ≤ 9223372036854775807) (hla : Hs.LaidC w) (h : ¬ 30 < l.length) (hr : ringB l = true) (hz : ¬ 100 < sec.size) (he : ¬ (rotL l p sec at_ ov).2 = 0) : Calls Tryd.prog 4 #[.slice a l.length c, .int .i64 p, .string sec, .int .i64 at_, .int .i64 ov, .agg #[.int .i64 lo, .int .i64 hi]] w fun e w' => e = .returned (.bool true) ∧ Below w.heap.size w w' := by
  have HLA := Lib.hid hla
  have HP := Lib.hid hp
  have SNT := Lib.hid (fun (X : World) (h : Hs.LaidC X) => sanity_any X h)
  have RG := Lib.hid (show ∀ X : World, RwA X a l → Calls Tryd.prog 11 #[.slice a l.length c] X fun e w' => e = .returned (.bool (ringB l)) ∧ Below X.heap.size X w' from fun X h => ring_any a c l X h hm)
  rw [hr] at RG
  have ok : RingOk l := of_decide_eq_true hr
  have ml : l.length ≤ 1000000 := by omega
  have ar := rot_ring (p := p) (s := sec) (at_ := at_) (ov := ov) ok (by omega)
  obtain ⟨⟨L, E⟩, hL⟩ : ∃ q, (rotL l p sec at_ ov) = q := ⟨_, rfl⟩
  rw [hL] at ar he
  dsimp only at he
  have okL : RingOk L := of_decide_eq_true ar
  have mL := okL.few
  have AD := Lib.hid (show ∀ X : World, RwA X a l → Calls Tryd.prog 20 #[.slice a l.length c, .int .i64 p, .string sec, .int .i64 at_, .int .i64 ov] X fun e w' => (∃ a' c', e = .returned (.tuple #[.slice a' L.length c', .int .i64 E]) ∧ RwA w' a' L) ∧ Below X.heap.size X w' from fun X h => by have q := rot_any a c l p sec at_ ov X h ok; rw [hL] at q; exact q)
  have RAD := Lib.hid (show ∀ X : World, RwA X a l → Calls Tryd.prog 21 #[.slice a l.length c, .int .i64 p, .string sec, .int .i64 at_, .int .i64 ov] X fun e w' => (∃ a' c', e = .returned (.agg #[.slice a' L.length c', .int .i64 E]) ∧ RwA w' a' L) ∧ Below X.heap.size X w' from fun X h => by have q := rrot_any a c l p sec at_ ov X h ok; rw [hL] at q; exact q)
  have SM := Lib.hid (fun (X : World) (b b2 : Option Addr) (n n2 : Nat) (h : RwA X b L) (h2 : RwA X b2 L) => same_any b b2 n n2 L X h h2 (by omega))
  have RG1 := Lib.hid (show ∀ (X : World) (b : Option Addr) (n : Nat), RwA X b L → Calls Tryd.prog 11 #[.slice b L.length n] X fun e w' => e = .returned (.bool true) ∧ Below X.heap.size X w' from fun X b n h => by have q := ring_any b n L X h (by omega); rw [ar] at q; exact q)
  obtain ⟨M, hM⟩ : ∃ M, L.length = M := ⟨_, rfl⟩
  simp only [hM] at AD RAD SM RG1
  clear hM mL okL ar hL ok ml
  obtain ⟨N, hN⟩ : ∃ N, l.length = N := ⟨_, rfl⟩
  simp only [hN] at RG AD RAD
  rw [hN]
  rw [hN] at h
  have t1 : decide ((30 : Int) < (N : Int)) = false := decide_eq_false (by omega)
  clear h hr
  have t2 : decide ((100 : Int) < (sec.size : Int)) = false := decide_eq_false (by omega)
  clear hz
  clear hla hp hm hN
  go_enter Tryd.func4, Tryd.ntmps4
  obtain ⟨G, hG⟩ : ∃ G, w.heap.size = G := ⟨_, rfl⟩
  have HG := Lib.hid hG
  have Kq := Lib.hid (show Blk (w.alloc (.cells #[.int .i64 lo, .int .i64 hi] 26)) (G) 26 #[.int .i64 lo, .int .i64 hi] from Blk.new' _ _ _ _ hG rfl)
  have B := Lib.hid (show Below w.heap.size w (w.alloc (.cells #[.int .i64 lo, .int .i64 hi] 26)) by (repeat' (first | (with_reducible exact Below.refl _ _) | (with_reducible assumption) | (with_reducible refine Below.alloc ?_ ?_ _) | (with_reducible refine Below.drew ?_) | (with_reducible refine below_dn ?_) | (with_reducible refine Below.setCell ?_ ?_ _) | (with_reducible exact Nat.le_refl _) | omega | (simp only [World.size_alloc, World.size_setCell, World.size_drew]; omega) | (simp; omega) | (simp; done))))
  go_upto_region 1 with (fail)
  try rw [hG]
  generalize hw0 : (w.alloc (.cells #[.int .i64 lo, .int .i64 hi] 26)) = w0 at Kq B ⊢
  clear hw0 hG
  obtain ⟨bqc0, bqc1⟩ := twob Kq.out
  have R0 := Lib.hid (HP.out.mono B.out)
  go_wp2_with fail
  refine (RG.out _ R0.out).mono ?_
  rintro e w1 ⟨rfl, hb⟩
  replace Kq := Lib.hid (Kq.out.below hb Kq.out.lt)
  replace R0 := Lib.hid (R0.out.mono hb)
  replace B := Lib.hid (B.out.trans (hb.mono B.out.size))
  clear bqc0 bqc1
  clear hb
  obtain ⟨bqc0, bqc1⟩ := twob Kq.out
  go_wp2_with fail
  refine (AD.out _ R0.out).mono ?_
  rintro e w2 ⟨⟨a1, c1, rfl, hr⟩, hb⟩
  have R1 := Lib.hid hr
  replace Kq := Lib.hid (Kq.out.below hb Kq.out.lt)
  replace R0 := Lib.hid (R0.out.mono hb)
  replace B := Lib.hid (B.out.trans (hb.mono B.out.size))
  clear bqc0 bqc1
  clear hb hr
  obtain ⟨bqc0, bqc1⟩ := twob Kq.out
  go_wp2_with fail
  refine (RAD.out _ R0.out).mono ?_
  rintro e w3 ⟨⟨a2, c2, rfl, hr⟩, hb⟩
  have R2 := Lib.hid hr
  replace Kq := Lib.hid (Kq.out.below hb Kq.out.lt)
  replace R0 := Lib.hid (R0.out.mono hb)
  replace R1 := Lib.hid (R1.out.mono hb)
  replace B := Lib.hid (B.out.trans (hb.mono B.out.size))
  clear bqc0 bqc1
  clear hb hr
  obtain ⟨bqc0, bqc1⟩ := twob Kq.out
  obtain ⟨gz, hgz⟩ : ∃ G, w3.heap.size = G := ⟨_, rfl⟩
  have Kz := Lib.hid (show Blk (w3.alloc (.cells #[.slice a2 M c2, .int .i64 E] 34)) gz 34 #[.slice a2 M c2, .int .i64 E] from Blk.new' w3 _ _ _ hgz rfl)
  have Nqz := Lib.hid (show G < gz from by rw [← hgz]; exact Kq.out.lt)
  replace Kq := Lib.hid (Kq.out.alloc (.cells #[.slice a2 M c2, .int .i64 E] 34))
  replace R0 := Lib.hid (R0.out.mono ((Below.refl _ w3).alloc (Nat.le_refl _) (.cells #[.slice a2 M c2, .int .i64 E] 34)))
  replace R1 := Lib.hid (R1.out.mono ((Below.refl _ w3).alloc (Nat.le_refl _) (.cells #[.slice a2 M c2, .int .i64 E] 34)))
  replace R2 := Lib.hid (R2.out.mono ((Below.refl _ w3).alloc (Nat.le_refl _) (.cells #[.slice a2 M c2, .int .i64 E] 34)))
  have Lz := Lib.hid (show w.heap.size ≤ gz from by rw [← hgz]; exact B.out.size)
  replace B := Lib.hid (B.out.alloc B.out.size (.cells #[.slice a2 M c2, .int .i64 E] 34))
  go_upto_region 5 with (fail)
  try rw [hgz]
  generalize hw : w3.alloc (.cells #[.slice a2 M c2, .int .i64 E] 34) = w4 at Kq Kz R0 R1 R2 B ⊢
  clear bqc0 bqc1
  clear hw hgz
  obtain ⟨bqc0, bqc1⟩ := twob Kq.out
  obtain ⟨bzc0, bzc1⟩ := twob Kz.out
  go_wp2_with fail
  refine (SM.out _ a1 a2 c1 c2 R1.out R2.out).mono ?_
  rintro e w5 ⟨rfl, hb⟩
  replace Kq := Lib.hid (Kq.out.below hb Kq.out.lt)
  replace Kz := Lib.hid (Kz.out.below hb Kz.out.lt)
  replace R0 := Lib.hid (R0.out.mono hb)
  replace R1 := Lib.hid (R1.out.mono hb)
  replace R2 := Lib.hid (R2.out.mono hb)
  replace B := Lib.hid (B.out.trans (hb.mono B.out.size))
  clear bqc0 bqc1 bzc0 bzc1
  clear hb
  obtain ⟨bqc0, bqc1⟩ := twob Kq.out
  obtain ⟨bzc0, bzc1⟩ := twob Kz.out
  go_wp2_with fail
  refine (RG1.out _ a1 c1 R1.out).mono ?_
  rintro e w6 ⟨rfl, hb⟩
  replace Kq := Lib.hid (Kq.out.below hb Kq.out.lt)
  replace Kz := Lib.hid (Kz.out.below hb Kz.out.lt)
  replace R0 := Lib.hid (R0.out.mono hb)
  replace R1 := Lib.hid (R1.out.mono hb)
  replace R2 := Lib.hid (R2.out.mono hb)
  replace B := Lib.hid (B.out.trans (hb.mono B.out.size))
  clear bqc0 bqc1 bzc0 bzc1
  clear hb
  obtain ⟨bqc0, bqc1⟩ := twob Kq.out
  obtain ⟨bzc0, bzc1⟩ := twob Kz.out
  go_wp2_with fail
  refine (SNT.out _ (HLA.out.below B.out)).mono ?_
  rintro e w7 ⟨rfl, hb⟩
  replace Kq := Lib.hid (Kq.out.below hb Kq.out.lt)
  replace Kz := Lib.hid (Kz.out.below hb Kz.out.lt)
  replace R0 := Lib.hid (R0.out.mono hb)
  replace R1 := Lib.hid (R1.out.mono hb)
  replace R2 := Lib.hid (R2.out.mono hb)
  replace B := Lib.hid (B.out.trans (hb.mono B.out.size))
  clear bqc0 bqc1 bzc0 bzc1
  clear hb
  obtain ⟨bqc0, bqc1⟩ := twob Kq.out
  obtain ⟨bzc0, bzc1⟩ := twob Kz.out
  go_wp2
  go_ret
  exact ⟨rfl, B.out⟩
set_option maxRecDepth 100000 in
set_option maxHeartbeats 2000000 in
theorem law4_c2 (a : Option Addr) (c : Nat) (l : List Rw) (p : Int) (sec : ByteArray) (at_ ov lo hi : Int) (w : World) (hp : RwA w a l) (hm : l.length ≤ 9223372036854775807) (hla : Hs.LaidC w) (h : ¬ 30 < l.length) (hr : ringB l = true) (hz : ¬ 100 < sec.size) (he : (rotL l p sec at_ ov).2 = 0) (z1 : ¬ 0 ≤ lo) : Calls Tryd.prog 4 #[.slice a l.length c, .int .i64 p, .string sec, .int .i64 at_, .int .i64 ov, .agg #[.int .i64 lo, .int .i64 hi]] w fun e w' => e = .returned (.bool true) ∧ Below w.heap.size w w' := by
  have HLA := Lib.hid hla
  have HP := Lib.hid hp
  have SNT := Lib.hid (fun (X : World) (h : Hs.LaidC X) => sanity_any X h)
  have RG := Lib.hid (show ∀ X : World, RwA X a l → Calls Tryd.prog 11 #[.slice a l.length c] X fun e w' => e = .returned (.bool (ringB l)) ∧ Below X.heap.size X w' from fun X h => ring_any a c l X h hm)
  rw [hr] at RG
  have ok : RingOk l := of_decide_eq_true hr
  have ml : l.length ≤ 1000000 := by omega
  have ar := rot_ring (p := p) (s := sec) (at_ := at_) (ov := ov) ok (by omega)
  obtain ⟨⟨L, E⟩, hL⟩ : ∃ q, (rotL l p sec at_ ov) = q := ⟨_, rfl⟩
  rw [hL] at ar he
  dsimp only at he
  subst he
  have okL : RingOk L := of_decide_eq_true ar
  have mL := okL.few
  have AD := Lib.hid (show ∀ X : World, RwA X a l → Calls Tryd.prog 20 #[.slice a l.length c, .int .i64 p, .string sec, .int .i64 at_, .int .i64 ov] X fun e w' => (∃ a' c', e = .returned (.tuple #[.slice a' L.length c', .int .i64 0]) ∧ RwA w' a' L) ∧ Below X.heap.size X w' from fun X h => by have q := rot_any a c l p sec at_ ov X h ok; rw [hL] at q; exact q)
  have RAD := Lib.hid (show ∀ X : World, RwA X a l → Calls Tryd.prog 21 #[.slice a l.length c, .int .i64 p, .string sec, .int .i64 at_, .int .i64 ov] X fun e w' => (∃ a' c', e = .returned (.agg #[.slice a' L.length c', .int .i64 0]) ∧ RwA w' a' L) ∧ Below X.heap.size X w' from fun X h => by have q := rrot_any a c l p sec at_ ov X h ok; rw [hL] at q; exact q)
  have SM := Lib.hid (fun (X : World) (b b2 : Option Addr) (n n2 : Nat) (h : RwA X b L) (h2 : RwA X b2 L) => same_any b b2 n n2 L X h h2 (by omega))
  have RG1 := Lib.hid (show ∀ (X : World) (b : Option Addr) (n : Nat), RwA X b L → Calls Tryd.prog 11 #[.slice b L.length n] X fun e w' => e = .returned (.bool true) ∧ Below X.heap.size X w' from fun X b n h => by have q := ring_any b n L X h (by omega); rw [ar] at q; exact q)
  obtain ⟨M, hM⟩ : ∃ M, L.length = M := ⟨_, rfl⟩
  simp only [hM] at AD RAD SM RG1
  clear hM mL okL ar hL ok ml
  obtain ⟨N, hN⟩ : ∃ N, l.length = N := ⟨_, rfl⟩
  simp only [hN] at RG AD RAD
  rw [hN]
  rw [hN] at h
  have t1 : decide ((30 : Int) < (N : Int)) = false := decide_eq_false (by omega)
  clear h hr
  have t2 : decide ((100 : Int) < (sec.size : Int)) = false := decide_eq_false (by omega)
  clear hz
  have t3 : decide (lo < 0) = true := decide_eq_true (by omega)
  clear z1
  clear hla hp hm hN
  go_enter Tryd.func4, Tryd.ntmps4
  obtain ⟨G, hG⟩ : ∃ G, w.heap.size = G := ⟨_, rfl⟩
  have HG := Lib.hid hG
  have Kq := Lib.hid (show Blk (w.alloc (.cells #[.int .i64 lo, .int .i64 hi] 26)) (G) 26 #[.int .i64 lo, .int .i64 hi] from Blk.new' _ _ _ _ hG rfl)
  have B := Lib.hid (show Below w.heap.size w (w.alloc (.cells #[.int .i64 lo, .int .i64 hi] 26)) by (repeat' (first | (with_reducible exact Below.refl _ _) | (with_reducible assumption) | (with_reducible refine Below.alloc ?_ ?_ _) | (with_reducible refine Below.drew ?_) | (with_reducible refine below_dn ?_) | (with_reducible refine Below.setCell ?_ ?_ _) | (with_reducible exact Nat.le_refl _) | omega | (simp only [World.size_alloc, World.size_setCell, World.size_drew]; omega) | (simp; omega) | (simp; done))))
  go_upto_region 1 with (fail)
  try rw [hG]
  generalize hw0 : (w.alloc (.cells #[.int .i64 lo, .int .i64 hi] 26)) = w0 at Kq B ⊢
  clear hw0 hG
  obtain ⟨bqc0, bqc1⟩ := twob Kq.out
  have R0 := Lib.hid (HP.out.mono B.out)
  go_wp2_with fail
  refine (RG.out _ R0.out).mono ?_
  rintro e w1 ⟨rfl, hb⟩
  replace Kq := Lib.hid (Kq.out.below hb Kq.out.lt)
  replace R0 := Lib.hid (R0.out.mono hb)
  replace B := Lib.hid (B.out.trans (hb.mono B.out.size))
  clear bqc0 bqc1
  clear hb
  obtain ⟨bqc0, bqc1⟩ := twob Kq.out
  go_wp2_with fail
  refine (AD.out _ R0.out).mono ?_
  rintro e w2 ⟨⟨a1, c1, rfl, hr⟩, hb⟩
  have R1 := Lib.hid hr
  replace Kq := Lib.hid (Kq.out.below hb Kq.out.lt)
  replace R0 := Lib.hid (R0.out.mono hb)
  replace B := Lib.hid (B.out.trans (hb.mono B.out.size))
  clear bqc0 bqc1
  clear hb hr
  obtain ⟨bqc0, bqc1⟩ := twob Kq.out
  go_wp2_with fail
  refine (RAD.out _ R0.out).mono ?_
  rintro e w3 ⟨⟨a2, c2, rfl, hr⟩, hb⟩
  have R2 := Lib.hid hr
  replace Kq := Lib.hid (Kq.out.below hb Kq.out.lt)
  replace R0 := Lib.hid (R0.out.mono hb)
  replace R1 := Lib.hid (R1.out.mono hb)
  replace B := Lib.hid (B.out.trans (hb.mono B.out.size))
  clear bqc0 bqc1
  clear hb hr
  obtain ⟨bqc0, bqc1⟩ := twob Kq.out
  obtain ⟨gz, hgz⟩ : ∃ G, w3.heap.size = G := ⟨_, rfl⟩
  have Kz := Lib.hid (show Blk (w3.alloc (.cells #[.slice a2 M c2, .int .i64 0] 34)) gz 34 #[.slice a2 M c2, .int .i64 0] from Blk.new' w3 _ _ _ hgz rfl)
  have Nqz := Lib.hid (show G < gz from by rw [← hgz]; exact Kq.out.lt)
  replace Kq := Lib.hid (Kq.out.alloc (.cells #[.slice a2 M c2, .int .i64 0] 34))
  replace R0 := Lib.hid (R0.out.mono ((Below.refl _ w3).alloc (Nat.le_refl _) (.cells #[.slice a2 M c2, .int .i64 0] 34)))
  replace R1 := Lib.hid (R1.out.mono ((Below.refl _ w3).alloc (Nat.le_refl _) (.cells #[.slice a2 M c2, .int .i64 0] 34)))
  replace R2 := Lib.hid (R2.out.mono ((Below.refl _ w3).alloc (Nat.le_refl _) (.cells #[.slice a2 M c2, .int .i64 0] 34)))
  have Lz := Lib.hid (show w.heap.size ≤ gz from by rw [← hgz]; exact B.out.size)
  replace B := Lib.hid (B.out.alloc B.out.size (.cells #[.slice a2 M c2, .int .i64 0] 34))
  go_upto_region 5 with (fail)
  try rw [hgz]
  generalize hw : w3.alloc (.cells #[.slice a2 M c2, .int .i64 0] 34) = w4 at Kq Kz R0 R1 R2 B ⊢
  clear bqc0 bqc1
  clear hw hgz
  obtain ⟨bqc0, bqc1⟩ := twob Kq.out
  obtain ⟨bzc0, bzc1⟩ := twob Kz.out
  go_wp2_with fail
  refine (SM.out _ a1 a2 c1 c2 R1.out R2.out).mono ?_
  rintro e w5 ⟨rfl, hb⟩
  replace Kq := Lib.hid (Kq.out.below hb Kq.out.lt)
  replace Kz := Lib.hid (Kz.out.below hb Kz.out.lt)
  replace R0 := Lib.hid (R0.out.mono hb)
  replace R1 := Lib.hid (R1.out.mono hb)
  replace R2 := Lib.hid (R2.out.mono hb)
  replace B := Lib.hid (B.out.trans (hb.mono B.out.size))
  clear bqc0 bqc1 bzc0 bzc1
  clear hb
  obtain ⟨bqc0, bqc1⟩ := twob Kq.out
  obtain ⟨bzc0, bzc1⟩ := twob Kz.out
  go_wp2_with fail
  refine (RG1.out _ a1 c1 R1.out).mono ?_
  rintro e w6 ⟨rfl, hb⟩
  replace Kq := Lib.hid (Kq.out.below hb Kq.out.lt)
  replace Kz := Lib.hid (Kz.out.below hb Kz.out.lt)
  replace R0 := Lib.hid (R0.out.mono hb)
  replace R1 := Lib.hid (R1.out.mono hb)
  replace R2 := Lib.hid (R2.out.mono hb)
  replace B := Lib.hid (B.out.trans (hb.mono B.out.size))
  clear bqc0 bqc1 bzc0 bzc1
  clear hb
  obtain ⟨bqc0, bqc1⟩ := twob Kq.out
  obtain ⟨bzc0, bzc1⟩ := twob Kz.out
  go_wp2_with fail
  refine (SNT.out _ (HLA.out.below B.out)).mono ?_
  rintro e w7 ⟨rfl, hb⟩
  replace Kq := Lib.hid (Kq.out.below hb Kq.out.lt)
  replace Kz := Lib.hid (Kz.out.below hb Kz.out.lt)
  replace R0 := Lib.hid (R0.out.mono hb)
  replace R1 := Lib.hid (R1.out.mono hb)
  replace R2 := Lib.hid (R2.out.mono hb)
  replace B := Lib.hid (B.out.trans (hb.mono B.out.size))
  clear bqc0 bqc1 bzc0 bzc1
  clear hb
  obtain ⟨bqc0, bqc1⟩ := twob Kq.out
  obtain ⟨bzc0, bzc1⟩ := twob Kz.out
  go_wp2
  go_ret
  exact ⟨rfl, B.out⟩
set_option maxRecDepth 100000 in
set_option maxHeartbeats 2000000 in
theorem law4_c3 (a : Option Addr) (c : Nat) (l : List Rw) (p : Int) (sec : ByteArray) (at_ ov lo hi : Int) (w : World) (hp : RwA w a l) (hm : l.length ≤ 9223372036854775807) (hla : Hs.LaidC w) (h : ¬ 30 < l.length) (hr : ringB l = true) (hz : ¬ 100 < sec.size) (he : (rotL l p sec at_ ov).2 = 0) (z1 : 0 ≤ lo) (z2 : hi < lo) : Calls Tryd.prog 4 #[.slice a l.length c, .int .i64 p, .string sec, .int .i64 at_, .int .i64 ov, .agg #[.int .i64 lo, .int .i64 hi]] w fun e w' => e = .returned (.bool true) ∧ Below w.heap.size w w' := by
  have HLA := Lib.hid hla
  have HP := Lib.hid hp
  have SNT := Lib.hid (fun (X : World) (h : Hs.LaidC X) => sanity_any X h)
  have RG := Lib.hid (show ∀ X : World, RwA X a l → Calls Tryd.prog 11 #[.slice a l.length c] X fun e w' => e = .returned (.bool (ringB l)) ∧ Below X.heap.size X w' from fun X h => ring_any a c l X h hm)
  rw [hr] at RG
  have ok : RingOk l := of_decide_eq_true hr
  have ml : l.length ≤ 1000000 := by omega
  have ar := rot_ring (p := p) (s := sec) (at_ := at_) (ov := ov) ok (by omega)
  obtain ⟨⟨L, E⟩, hL⟩ : ∃ q, (rotL l p sec at_ ov) = q := ⟨_, rfl⟩
  rw [hL] at ar he
  dsimp only at he
  subst he
  have okL : RingOk L := of_decide_eq_true ar
  have mL := okL.few
  have AD := Lib.hid (show ∀ X : World, RwA X a l → Calls Tryd.prog 20 #[.slice a l.length c, .int .i64 p, .string sec, .int .i64 at_, .int .i64 ov] X fun e w' => (∃ a' c', e = .returned (.tuple #[.slice a' L.length c', .int .i64 0]) ∧ RwA w' a' L) ∧ Below X.heap.size X w' from fun X h => by have q := rot_any a c l p sec at_ ov X h ok; rw [hL] at q; exact q)
  have RAD := Lib.hid (show ∀ X : World, RwA X a l → Calls Tryd.prog 21 #[.slice a l.length c, .int .i64 p, .string sec, .int .i64 at_, .int .i64 ov] X fun e w' => (∃ a' c', e = .returned (.agg #[.slice a' L.length c', .int .i64 0]) ∧ RwA w' a' L) ∧ Below X.heap.size X w' from fun X h => by have q := rrot_any a c l p sec at_ ov X h ok; rw [hL] at q; exact q)
  have SM := Lib.hid (fun (X : World) (b b2 : Option Addr) (n n2 : Nat) (h : RwA X b L) (h2 : RwA X b2 L) => same_any b b2 n n2 L X h h2 (by omega))
  have RG1 := Lib.hid (show ∀ (X : World) (b : Option Addr) (n : Nat), RwA X b L → Calls Tryd.prog 11 #[.slice b L.length n] X fun e w' => e = .returned (.bool true) ∧ Below X.heap.size X w' from fun X b n h => by have q := ring_any b n L X h (by omega); rw [ar] at q; exact q)
  obtain ⟨M, hM⟩ : ∃ M, L.length = M := ⟨_, rfl⟩
  simp only [hM] at AD RAD SM RG1
  clear hM mL okL ar hL ok ml
  obtain ⟨N, hN⟩ : ∃ N, l.length = N := ⟨_, rfl⟩
  simp only [hN] at RG AD RAD
  rw [hN]
  rw [hN] at h
  have t1 : decide ((30 : Int) < (N : Int)) = false := decide_eq_false (by omega)
  clear h hr
  have t2 : decide ((100 : Int) < (sec.size : Int)) = false := decide_eq_false (by omega)
  clear hz
  have t3 : decide (lo < 0) = false := decide_eq_false (by omega)
  have t4 : decide (hi < lo) = true := decide_eq_true (by omega)
  clear z1 z2
  clear hla hp hm hN
  go_enter Tryd.func4, Tryd.ntmps4
  obtain ⟨G, hG⟩ : ∃ G, w.heap.size = G := ⟨_, rfl⟩
  have HG := Lib.hid hG
  have Kq := Lib.hid (show Blk (w.alloc (.cells #[.int .i64 lo, .int .i64 hi] 26)) (G) 26 #[.int .i64 lo, .int .i64 hi] from Blk.new' _ _ _ _ hG rfl)
  have B := Lib.hid (show Below w.heap.size w (w.alloc (.cells #[.int .i64 lo, .int .i64 hi] 26)) by (repeat' (first | (with_reducible exact Below.refl _ _) | (with_reducible assumption) | (with_reducible refine Below.alloc ?_ ?_ _) | (with_reducible refine Below.drew ?_) | (with_reducible refine below_dn ?_) | (with_reducible refine Below.setCell ?_ ?_ _) | (with_reducible exact Nat.le_refl _) | omega | (simp only [World.size_alloc, World.size_setCell, World.size_drew]; omega) | (simp; omega) | (simp; done))))
  go_upto_region 1 with (fail)
  try rw [hG]
  generalize hw0 : (w.alloc (.cells #[.int .i64 lo, .int .i64 hi] 26)) = w0 at Kq B ⊢
  clear hw0 hG
  obtain ⟨bqc0, bqc1⟩ := twob Kq.out
  have R0 := Lib.hid (HP.out.mono B.out)
  go_wp2_with fail
  refine (RG.out _ R0.out).mono ?_
  rintro e w1 ⟨rfl, hb⟩
  replace Kq := Lib.hid (Kq.out.below hb Kq.out.lt)
  replace R0 := Lib.hid (R0.out.mono hb)
  replace B := Lib.hid (B.out.trans (hb.mono B.out.size))
  clear bqc0 bqc1
  clear hb
  obtain ⟨bqc0, bqc1⟩ := twob Kq.out
  go_wp2_with fail
  refine (AD.out _ R0.out).mono ?_
  rintro e w2 ⟨⟨a1, c1, rfl, hr⟩, hb⟩
  have R1 := Lib.hid hr
  replace Kq := Lib.hid (Kq.out.below hb Kq.out.lt)
  replace R0 := Lib.hid (R0.out.mono hb)
  replace B := Lib.hid (B.out.trans (hb.mono B.out.size))
  clear bqc0 bqc1
  clear hb hr
  obtain ⟨bqc0, bqc1⟩ := twob Kq.out
  go_wp2_with fail
  refine (RAD.out _ R0.out).mono ?_
  rintro e w3 ⟨⟨a2, c2, rfl, hr⟩, hb⟩
  have R2 := Lib.hid hr
  replace Kq := Lib.hid (Kq.out.below hb Kq.out.lt)
  replace R0 := Lib.hid (R0.out.mono hb)
  replace R1 := Lib.hid (R1.out.mono hb)
  replace B := Lib.hid (B.out.trans (hb.mono B.out.size))
  clear bqc0 bqc1
  clear hb hr
  obtain ⟨bqc0, bqc1⟩ := twob Kq.out
  obtain ⟨gz, hgz⟩ : ∃ G, w3.heap.size = G := ⟨_, rfl⟩
  have Kz := Lib.hid (show Blk (w3.alloc (.cells #[.slice a2 M c2, .int .i64 0] 34)) gz 34 #[.slice a2 M c2, .int .i64 0] from Blk.new' w3 _ _ _ hgz rfl)
  have Nqz := Lib.hid (show G < gz from by rw [← hgz]; exact Kq.out.lt)
  replace Kq := Lib.hid (Kq.out.alloc (.cells #[.slice a2 M c2, .int .i64 0] 34))
  replace R0 := Lib.hid (R0.out.mono ((Below.refl _ w3).alloc (Nat.le_refl _) (.cells #[.slice a2 M c2, .int .i64 0] 34)))
  replace R1 := Lib.hid (R1.out.mono ((Below.refl _ w3).alloc (Nat.le_refl _) (.cells #[.slice a2 M c2, .int .i64 0] 34)))
  replace R2 := Lib.hid (R2.out.mono ((Below.refl _ w3).alloc (Nat.le_refl _) (.cells #[.slice a2 M c2, .int .i64 0] 34)))
  have Lz := Lib.hid (show w.heap.size ≤ gz from by rw [← hgz]; exact B.out.size)
  replace B := Lib.hid (B.out.alloc B.out.size (.cells #[.slice a2 M c2, .int .i64 0] 34))
  go_upto_region 5 with (fail)
  try rw [hgz]
  generalize hw : w3.alloc (.cells #[.slice a2 M c2, .int .i64 0] 34) = w4 at Kq Kz R0 R1 R2 B ⊢
  clear bqc0 bqc1
  clear hw hgz
  obtain ⟨bqc0, bqc1⟩ := twob Kq.out
  obtain ⟨bzc0, bzc1⟩ := twob Kz.out
  go_wp2_with fail
  refine (SM.out _ a1 a2 c1 c2 R1.out R2.out).mono ?_
  rintro e w5 ⟨rfl, hb⟩
  replace Kq := Lib.hid (Kq.out.below hb Kq.out.lt)
  replace Kz := Lib.hid (Kz.out.below hb Kz.out.lt)
  replace R0 := Lib.hid (R0.out.mono hb)
  replace R1 := Lib.hid (R1.out.mono hb)
  replace R2 := Lib.hid (R2.out.mono hb)
  replace B := Lib.hid (B.out.trans (hb.mono B.out.size))
  clear bqc0 bqc1 bzc0 bzc1
  clear hb
  obtain ⟨bqc0, bqc1⟩ := twob Kq.out
  obtain ⟨bzc0, bzc1⟩ := twob Kz.out
  go_wp2_with fail
  refine (RG1.out _ a1 c1 R1.out).mono ?_
  rintro e w6 ⟨rfl, hb⟩
  replace Kq := Lib.hid (Kq.out.below hb Kq.out.lt)
  replace Kz := Lib.hid (Kz.out.below hb Kz.out.lt)
  replace R0 := Lib.hid (R0.out.mono hb)
  replace R1 := Lib.hid (R1.out.mono hb)
  replace R2 := Lib.hid (R2.out.mono hb)
  replace B := Lib.hid (B.out.trans (hb.mono B.out.size))
  clear bqc0 bqc1 bzc0 bzc1
  clear hb
  obtain ⟨bqc0, bqc1⟩ := twob Kq.out
  obtain ⟨bzc0, bzc1⟩ := twob Kz.out
  go_wp2_with fail
  refine (SNT.out _ (HLA.out.below B.out)).mono ?_
  rintro e w7 ⟨rfl, hb⟩
  replace Kq := Lib.hid (Kq.out.below hb Kq.out.lt)
  replace Kz := Lib.hid (Kz.out.below hb Kz.out.lt)
  replace R0 := Lib.hid (R0.out.mono hb)
  replace R1 := Lib.hid (R1.out.mono hb)
  replace R2 := Lib.hid (R2.out.mono hb)
  replace B := Lib.hid (B.out.trans (hb.mono B.out.size))
  clear bqc0 bqc1 bzc0 bzc1
  clear hb
  obtain ⟨bqc0, bqc1⟩ := twob Kq.out
  obtain ⟨bzc0, bzc1⟩ := twob Kz.out
  go_wp2
  go_ret
  exact ⟨rfl, B.out⟩
set_option maxRecDepth 100000 in
set_option maxHeartbeats 2000000 in
theorem law4_c4 (a : Option Addr) (c : Nat) (l : List Rw) (p : Int) (sec : ByteArray) (at_ ov lo hi : Int) (w : World) (hp : RwA w a l) (hm : l.length ≤ 9223372036854775807) (hla : Hs.LaidC w) (h : ¬ 30 < l.length) (hr : ringB l = true) (hz : ¬ 100 < sec.size) (he : (rotL l p sec at_ ov).2 = 0) (z1 : 0 ≤ lo) (z2 : ¬ hi < lo) (z3 : 1099511627776 ≤ hi) : Calls Tryd.prog 4 #[.slice a l.length c, .int .i64 p, .string sec, .int .i64 at_, .int .i64 ov, .agg #[.int .i64 lo, .int .i64 hi]] w fun e w' => e = .returned (.bool true) ∧ Below w.heap.size w w' := by
  have HLA := Lib.hid hla
  have HP := Lib.hid hp
  have SNT := Lib.hid (fun (X : World) (h : Hs.LaidC X) => sanity_any X h)
  have RG := Lib.hid (show ∀ X : World, RwA X a l → Calls Tryd.prog 11 #[.slice a l.length c] X fun e w' => e = .returned (.bool (ringB l)) ∧ Below X.heap.size X w' from fun X h => ring_any a c l X h hm)
  rw [hr] at RG
  have ok : RingOk l := of_decide_eq_true hr
  have ml : l.length ≤ 1000000 := by omega
  have ar := rot_ring (p := p) (s := sec) (at_ := at_) (ov := ov) ok (by omega)
  obtain ⟨⟨L, E⟩, hL⟩ : ∃ q, (rotL l p sec at_ ov) = q := ⟨_, rfl⟩
  rw [hL] at ar he
  dsimp only at he
  subst he
  have okL : RingOk L := of_decide_eq_true ar
  have mL := okL.few
  have AD := Lib.hid (show ∀ X : World, RwA X a l → Calls Tryd.prog 20 #[.slice a l.length c, .int .i64 p, .string sec, .int .i64 at_, .int .i64 ov] X fun e w' => (∃ a' c', e = .returned (.tuple #[.slice a' L.length c', .int .i64 0]) ∧ RwA w' a' L) ∧ Below X.heap.size X w' from fun X h => by have q := rot_any a c l p sec at_ ov X h ok; rw [hL] at q; exact q)
  have RAD := Lib.hid (show ∀ X : World, RwA X a l → Calls Tryd.prog 21 #[.slice a l.length c, .int .i64 p, .string sec, .int .i64 at_, .int .i64 ov] X fun e w' => (∃ a' c', e = .returned (.agg #[.slice a' L.length c', .int .i64 0]) ∧ RwA w' a' L) ∧ Below X.heap.size X w' from fun X h => by have q := rrot_any a c l p sec at_ ov X h ok; rw [hL] at q; exact q)
  have SM := Lib.hid (fun (X : World) (b b2 : Option Addr) (n n2 : Nat) (h : RwA X b L) (h2 : RwA X b2 L) => same_any b b2 n n2 L X h h2 (by omega))
  have RG1 := Lib.hid (show ∀ (X : World) (b : Option Addr) (n : Nat), RwA X b L → Calls Tryd.prog 11 #[.slice b L.length n] X fun e w' => e = .returned (.bool true) ∧ Below X.heap.size X w' from fun X b n h => by have q := ring_any b n L X h (by omega); rw [ar] at q; exact q)
  obtain ⟨M, hM⟩ : ∃ M, L.length = M := ⟨_, rfl⟩
  simp only [hM] at AD RAD SM RG1
  clear hM mL okL ar hL ok ml
  obtain ⟨N, hN⟩ : ∃ N, l.length = N := ⟨_, rfl⟩
  simp only [hN] at RG AD RAD
  rw [hN]
  rw [hN] at h
  have t1 : decide ((30 : Int) < (N : Int)) = false := decide_eq_false (by omega)
  clear h hr
  have t2 : decide ((100 : Int) < (sec.size : Int)) = false := decide_eq_false (by omega)
  clear hz
  have t3 : decide (lo < 0) = false := decide_eq_false (by omega)
  have t4 : decide (hi < lo) = false := decide_eq_false (by omega)
  have t5 : decide (1099511627776 ≤ hi) = true := decide_eq_true (by omega)
  clear z1 z2 z3
  clear hla hp hm hN
  go_enter Tryd.func4, Tryd.ntmps4
  obtain ⟨G, hG⟩ : ∃ G, w.heap.size = G := ⟨_, rfl⟩
  have HG := Lib.hid hG
  have Kq := Lib.hid (show Blk (w.alloc (.cells #[.int .i64 lo, .int .i64 hi] 26)) (G) 26 #[.int .i64 lo, .int .i64 hi] from Blk.new' _ _ _ _ hG rfl)
  have B := Lib.hid (show Below w.heap.size w (w.alloc (.cells #[.int .i64 lo, .int .i64 hi] 26)) by (repeat' (first | (with_reducible exact Below.refl _ _) | (with_reducible assumption) | (with_reducible refine Below.alloc ?_ ?_ _) | (with_reducible refine Below.drew ?_) | (with_reducible refine below_dn ?_) | (with_reducible refine Below.setCell ?_ ?_ _) | (with_reducible exact Nat.le_refl _) | omega | (simp only [World.size_alloc, World.size_setCell, World.size_drew]; omega) | (simp; omega) | (simp; done))))
  go_upto_region 1 with (fail)
  try rw [hG]
  generalize hw0 : (w.alloc (.cells #[.int .i64 lo, .int .i64 hi] 26)) = w0 at Kq B ⊢
  clear hw0 hG
  obtain ⟨bqc0, bqc1⟩ := twob Kq.out
  have R0 := Lib.hid (HP.out.mono B.out)
  go_wp2_with fail
  refine (RG.out _ R0.out).mono ?_
  rintro e w1 ⟨rfl, hb⟩
  replace Kq := Lib.hid (Kq.out.below hb Kq.out.lt)
  replace R0 := Lib.hid (R0.out.mono hb)
  replace B := Lib.hid (B.out.trans (hb.mono B.out.size))
  clear bqc0 bqc1
  clear hb
  obtain ⟨bqc0, bqc1⟩ := twob Kq.out
  go_wp2_with fail
  refine (AD.out _ R0.out).mono ?_
  rintro e w2 ⟨⟨a1, c1, rfl, hr⟩, hb⟩
  have R1 := Lib.hid hr
  replace Kq := Lib.hid (Kq.out.below hb Kq.out.lt)
  replace R0 := Lib.hid (R0.out.mono hb)
  replace B := Lib.hid (B.out.trans (hb.mono B.out.size))
  clear bqc0 bqc1
  clear hb hr
  obtain ⟨bqc0, bqc1⟩ := twob Kq.out
  go_wp2_with fail
  refine (RAD.out _ R0.out).mono ?_
  rintro e w3 ⟨⟨a2, c2, rfl, hr⟩, hb⟩
  have R2 := Lib.hid hr
  replace Kq := Lib.hid (Kq.out.below hb Kq.out.lt)
  replace R0 := Lib.hid (R0.out.mono hb)
  replace R1 := Lib.hid (R1.out.mono hb)
  replace B := Lib.hid (B.out.trans (hb.mono B.out.size))
  clear bqc0 bqc1
  clear hb hr
  obtain ⟨bqc0, bqc1⟩ := twob Kq.out
  obtain ⟨gz, hgz⟩ : ∃ G, w3.heap.size = G := ⟨_, rfl⟩
  have Kz := Lib.hid (show Blk (w3.alloc (.cells #[.slice a2 M c2, .int .i64 0] 34)) gz 34 #[.slice a2 M c2, .int .i64 0] from Blk.new' w3 _ _ _ hgz rfl)
  have Nqz := Lib.hid (show G < gz from by rw [← hgz]; exact Kq.out.lt)
  replace Kq := Lib.hid (Kq.out.alloc (.cells #[.slice a2 M c2, .int .i64 0] 34))
  replace R0 := Lib.hid (R0.out.mono ((Below.refl _ w3).alloc (Nat.le_refl _) (.cells #[.slice a2 M c2, .int .i64 0] 34)))
  replace R1 := Lib.hid (R1.out.mono ((Below.refl _ w3).alloc (Nat.le_refl _) (.cells #[.slice a2 M c2, .int .i64 0] 34)))
  replace R2 := Lib.hid (R2.out.mono ((Below.refl _ w3).alloc (Nat.le_refl _) (.cells #[.slice a2 M c2, .int .i64 0] 34)))
  have Lz := Lib.hid (show w.heap.size ≤ gz from by rw [← hgz]; exact B.out.size)
  replace B := Lib.hid (B.out.alloc B.out.size (.cells #[.slice a2 M c2, .int .i64 0] 34))
  go_upto_region 5 with (fail)
  try rw [hgz]
  generalize hw : w3.alloc (.cells #[.slice a2 M c2, .int .i64 0] 34) = w4 at Kq Kz R0 R1 R2 B ⊢
  clear bqc0 bqc1
  clear hw hgz
  obtain ⟨bqc0, bqc1⟩ := twob Kq.out
  obtain ⟨bzc0, bzc1⟩ := twob Kz.out
  go_wp2_with fail
  refine (SM.out _ a1 a2 c1 c2 R1.out R2.out).mono ?_
  rintro e w5 ⟨rfl, hb⟩
  replace Kq := Lib.hid (Kq.out.below hb Kq.out.lt)
  replace Kz := Lib.hid (Kz.out.below hb Kz.out.lt)
  replace R0 := Lib.hid (R0.out.mono hb)
  replace R1 := Lib.hid (R1.out.mono hb)
  replace R2 := Lib.hid (R2.out.mono hb)
  replace B := Lib.hid (B.out.trans (hb.mono B.out.size))
  clear bqc0 bqc1 bzc0 bzc1
  clear hb
  obtain ⟨bqc0, bqc1⟩ := twob Kq.out
  obtain ⟨bzc0, bzc1⟩ := twob Kz.out
  go_wp2_with fail
  refine (RG1.out _ a1 c1 R1.out).mono ?_
  rintro e w6 ⟨rfl, hb⟩
  replace Kq := Lib.hid (Kq.out.below hb Kq.out.lt)
  replace Kz := Lib.hid (Kz.out.below hb Kz.out.lt)
  replace R0 := Lib.hid (R0.out.mono hb)
  replace R1 := Lib.hid (R1.out.mono hb)
  replace R2 := Lib.hid (R2.out.mono hb)
  replace B := Lib.hid (B.out.trans (hb.mono B.out.size))
  clear bqc0 bqc1 bzc0 bzc1
  clear hb
  obtain ⟨bqc0, bqc1⟩ := twob Kq.out
  obtain ⟨bzc0, bzc1⟩ := twob Kz.out
  go_wp2_with fail
  refine (SNT.out _ (HLA.out.below B.out)).mono ?_
  rintro e w7 ⟨rfl, hb⟩
  replace Kq := Lib.hid (Kq.out.below hb Kq.out.lt)
  replace Kz := Lib.hid (Kz.out.below hb Kz.out.lt)
  replace R0 := Lib.hid (R0.out.mono hb)
  replace R1 := Lib.hid (R1.out.mono hb)
  replace R2 := Lib.hid (R2.out.mono hb)
  replace B := Lib.hid (B.out.trans (hb.mono B.out.size))
  clear bqc0 bqc1 bzc0 bzc1
  clear hb
  obtain ⟨bqc0, bqc1⟩ := twob Kq.out
  obtain ⟨bzc0, bzc1⟩ := twob Kz.out
  go_wp2
  go_ret
  exact ⟨rfl, B.out⟩
set_option maxRecDepth 100000 in
set_option maxHeartbeats 2000000 in
theorem law4_n1 (a : Option Addr) (c : Nat) (l : List Rw) (p : Int) (sec : ByteArray) (at_ ov lo hi : Int) (w : World) (hp : RwA w a l) (hm : l.length ≤ 9223372036854775807) (hla : Hs.LaidC w) (h : ¬ 30 < l.length) (hr : ringB l = true) (hz : ¬ 100 < sec.size) (he : (rotL l p sec at_ ov).2 = 0) (z1 : 0 ≤ lo) (z2 : ¬ hi < lo) (z3 : ¬ 1099511627776 ≤ hi) (z4 : at_ ≤ lo) : Calls Tryd.prog 4 #[.slice a l.length c, .int .i64 p, .string sec, .int .i64 at_, .int .i64 ov, .agg #[.int .i64 lo, .int .i64 hi]] w fun e w' => e = .returned (.bool true) ∧ Below w.heap.size w w' := by
  have HLA := Lib.hid hla
  have HP := Lib.hid hp
  have SNT := Lib.hid (fun (X : World) (h : Hs.LaidC X) => sanity_any X h)
  have RG := Lib.hid (show ∀ X : World, RwA X a l → Calls Tryd.prog 11 #[.slice a l.length c] X fun e w' => e = .returned (.bool (ringB l)) ∧ Below X.heap.size X w' from fun X h => ring_any a c l X h hm)
  rw [hr] at RG
  have ok : RingOk l := of_decide_eq_true hr
  have ml : l.length ≤ 1000000 := by omega
  have ar := rot_ring (p := p) (s := sec) (at_ := at_) (ov := ov) ok (by omega)
  obtain ⟨g2, hg⟩ := rot_new ok he z1 (Int.not_lt.1 z2) (Int.not_le.1 z3) z4
  obtain ⟨⟨L, E⟩, hL⟩ : ∃ q, (rotL l p sec at_ ov) = q := ⟨_, rfl⟩
  rw [hL] at ar he hg
  dsimp only at he
  subst he
  have okL : RingOk L := of_decide_eq_true ar
  have mL := okL.few
  have AD := Lib.hid (show ∀ X : World, RwA X a l → Calls Tryd.prog 20 #[.slice a l.length c, .int .i64 p, .string sec, .int .i64 at_, .int .i64 ov] X fun e w' => (∃ a' c', e = .returned (.tuple #[.slice a' L.length c', .int .i64 0]) ∧ RwA w' a' L) ∧ Below X.heap.size X w' from fun X h => by have q := rot_any a c l p sec at_ ov X h ok; rw [hL] at q; exact q)
  have RAD := Lib.hid (show ∀ X : World, RwA X a l → Calls Tryd.prog 21 #[.slice a l.length c, .int .i64 p, .string sec, .int .i64 at_, .int .i64 ov] X fun e w' => (∃ a' c', e = .returned (.agg #[.slice a' L.length c', .int .i64 0]) ∧ RwA w' a' L) ∧ Below X.heap.size X w' from fun X h => by have q := rrot_any a c l p sec at_ ov X h ok; rw [hL] at q; exact q)
  have SM := Lib.hid (fun (X : World) (b b2 : Option Addr) (n n2 : Nat) (h : RwA X b L) (h2 : RwA X b2 L) => same_any b b2 n n2 L X h h2 (by omega))
  have RG1 := Lib.hid (show ∀ (X : World) (b : Option Addr) (n : Nat), RwA X b L → Calls Tryd.prog 11 #[.slice b L.length n] X fun e w' => e = .returned (.bool true) ∧ Below X.heap.size X w' from fun X b n h => by have q := ring_any b n L X h (by omega); rw [ar] at q; exact q)
  have CN := Lib.hid (show ∀ (X : World) (b : Option Addr) (n : Nat), RwA X b L → Calls Tryd.prog 18 #[.slice b L.length n, .int .i64 p, .agg #[.int .i64 lo, .int .i64 hi]] X fun e w' => e = .returned (.tuple #[.agg #[.int .i64 p, .int .i64 g2, .string sec, .int .i64 at_, .int .i64 1099511627776], .int .i64 0]) ∧ Below X.heap.size X w' from fun X b n h => by have q := cur_any b n L p lo hi X h okL; rw [hg] at q; exact q)
  obtain ⟨M, hM⟩ : ∃ M, L.length = M := ⟨_, rfl⟩
  simp only [hM] at AD RAD SM RG1 CN
  clear hM mL okL ar hL ok ml hg
  obtain ⟨N, hN⟩ : ∃ N, l.length = N := ⟨_, rfl⟩
  simp only [hN] at RG AD RAD
  rw [hN]
  rw [hN] at h
  have t1 : decide ((30 : Int) < (N : Int)) = false := decide_eq_false (by omega)
  clear h hr
  have t2 : decide ((100 : Int) < (sec.size : Int)) = false := decide_eq_false (by omega)
  clear hz
  have t3 : decide (lo < 0) = false := decide_eq_false (by omega)
  have t4 : decide (hi < lo) = false := decide_eq_false (by omega)
  have t5 : decide (1099511627776 ≤ hi) = false := decide_eq_false (by omega)
  have t6 : decide (at_ ≤ lo) = true := decide_eq_true (by omega)
  clear z1 z2 z3 z4
  clear hla hp hm hN
  go_enter Tryd.func4, Tryd.ntmps4
  obtain ⟨G, hG⟩ : ∃ G, w.heap.size = G := ⟨_, rfl⟩
  have HG := Lib.hid hG
  have Kq := Lib.hid (show Blk (w.alloc (.cells #[.int .i64 lo, .int .i64 hi] 26)) (G) 26 #[.int .i64 lo, .int .i64 hi] from Blk.new' _ _ _ _ hG rfl)
  have B := Lib.hid (show Below w.heap.size w (w.alloc (.cells #[.int .i64 lo, .int .i64 hi] 26)) by (repeat' (first | (with_reducible exact Below.refl _ _) | (with_reducible assumption) | (with_reducible refine Below.alloc ?_ ?_ _) | (with_reducible refine Below.drew ?_) | (with_reducible refine below_dn ?_) | (with_reducible refine Below.setCell ?_ ?_ _) | (with_reducible exact Nat.le_refl _) | omega | (simp only [World.size_alloc, World.size_setCell, World.size_drew]; omega) | (simp; omega) | (simp; done))))
  go_upto_region 1 with (fail)
  try rw [hG]
  generalize hw0 : (w.alloc (.cells #[.int .i64 lo, .int .i64 hi] 26)) = w0 at Kq B ⊢
  clear hw0 hG
  obtain ⟨bqc0, bqc1⟩ := twob Kq.out
  have R0 := Lib.hid (HP.out.mono B.out)
  go_wp2_with fail
  refine (RG.out _ R0.out).mono ?_
  rintro e w1 ⟨rfl, hb⟩
  replace Kq := Lib.hid (Kq.out.below hb Kq.out.lt)
  replace R0 := Lib.hid (R0.out.mono hb)
  replace B := Lib.hid (B.out.trans (hb.mono B.out.size))
  clear bqc0 bqc1
  clear hb
  obtain ⟨bqc0, bqc1⟩ := twob Kq.out
  go_wp2_with fail
  refine (AD.out _ R0.out).mono ?_
  rintro e w2 ⟨⟨a1, c1, rfl, hr⟩, hb⟩
  have R1 := Lib.hid hr
  replace Kq := Lib.hid (Kq.out.below hb Kq.out.lt)
  replace R0 := Lib.hid (R0.out.mono hb)
  replace B := Lib.hid (B.out.trans (hb.mono B.out.size))
  clear bqc0 bqc1
  clear hb hr
  obtain ⟨bqc0, bqc1⟩ := twob Kq.out
  go_wp2_with fail
  refine (RAD.out _ R0.out).mono ?_
  rintro e w3 ⟨⟨a2, c2, rfl, hr⟩, hb⟩
  have R2 := Lib.hid hr
  replace Kq := Lib.hid (Kq.out.below hb Kq.out.lt)
  replace R0 := Lib.hid (R0.out.mono hb)
  replace R1 := Lib.hid (R1.out.mono hb)
  replace B := Lib.hid (B.out.trans (hb.mono B.out.size))
  clear bqc0 bqc1
  clear hb hr
  obtain ⟨bqc0, bqc1⟩ := twob Kq.out
  obtain ⟨gz, hgz⟩ : ∃ G, w3.heap.size = G := ⟨_, rfl⟩
  have Kz := Lib.hid (show Blk (w3.alloc (.cells #[.slice a2 M c2, .int .i64 0] 34)) gz 34 #[.slice a2 M c2, .int .i64 0] from Blk.new' w3 _ _ _ hgz rfl)
  have Nqz := Lib.hid (show G < gz from by rw [← hgz]; exact Kq.out.lt)
  replace Kq := Lib.hid (Kq.out.alloc (.cells #[.slice a2 M c2, .int .i64 0] 34))
  replace R0 := Lib.hid (R0.out.mono ((Below.refl _ w3).alloc (Nat.le_refl _) (.cells #[.slice a2 M c2, .int .i64 0] 34)))
  replace R1 := Lib.hid (R1.out.mono ((Below.refl _ w3).alloc (Nat.le_refl _) (.cells #[.slice a2 M c2, .int .i64 0] 34)))
  replace R2 := Lib.hid (R2.out.mono ((Below.refl _ w3).alloc (Nat.le_refl _) (.cells #[.slice a2 M c2, .int .i64 0] 34)))
  have Lz := Lib.hid (show w.heap.size ≤ gz from by rw [← hgz]; exact B.out.size)
  replace B := Lib.hid (B.out.alloc B.out.size (.cells #[.slice a2 M c2, .int .i64 0] 34))
  go_upto_region 5 with (fail)
  try rw [hgz]
  generalize hw : w3.alloc (.cells #[.slice a2 M c2, .int .i64 0] 34) = w4 at Kq Kz R0 R1 R2 B ⊢
  clear bqc0 bqc1
  clear hw hgz
  obtain ⟨bqc0, bqc1⟩ := twob Kq.out
  obtain ⟨bzc0, bzc1⟩ := twob Kz.out
  go_wp2_with fail
  refine (SM.out _ a1 a2 c1 c2 R1.out R2.out).mono ?_
  rintro e w5 ⟨rfl, hb⟩
  replace Kq := Lib.hid (Kq.out.below hb Kq.out.lt)
  replace Kz := Lib.hid (Kz.out.below hb Kz.out.lt)
  replace R0 := Lib.hid (R0.out.mono hb)
  replace R1 := Lib.hid (R1.out.mono hb)
  replace R2 := Lib.hid (R2.out.mono hb)
  replace B := Lib.hid (B.out.trans (hb.mono B.out.size))
  clear bqc0 bqc1 bzc0 bzc1
  clear hb
  obtain ⟨bqc0, bqc1⟩ := twob Kq.out
  obtain ⟨bzc0, bzc1⟩ := twob Kz.out
  go_wp2_with fail
  refine (RG1.out _ a1 c1 R1.out).mono ?_
  rintro e w6 ⟨rfl, hb⟩
  replace Kq := Lib.hid (Kq.out.below hb Kq.out.lt)
  replace Kz := Lib.hid (Kz.out.below hb Kz.out.lt)
  replace R0 := Lib.hid (R0.out.mono hb)
  replace R1 := Lib.hid (R1.out.mono hb)
  replace R2 := Lib.hid (R2.out.mono hb)
  replace B := Lib.hid (B.out.trans (hb.mono B.out.size))
  clear bqc0 bqc1 bzc0 bzc1
  clear hb
  obtain ⟨bqc0, bqc1⟩ := twob Kq.out
  obtain ⟨bzc0, bzc1⟩ := twob Kz.out
  go_wp2_with fail
  refine (CN.out _ a1 c1 R1.out).mono ?_
  rintro e w7 ⟨rfl, hb⟩
  replace Kq := Lib.hid (Kq.out.below hb Kq.out.lt)
  replace Kz := Lib.hid (Kz.out.below hb Kz.out.lt)
  replace R0 := Lib.hid (R0.out.mono hb)
  replace R1 := Lib.hid (R1.out.mono hb)
  replace R2 := Lib.hid (R2.out.mono hb)
  replace B := Lib.hid (B.out.trans (hb.mono B.out.size))
  clear bqc0 bqc1 bzc0 bzc1
  clear hb
  obtain ⟨bqc0, bqc1⟩ := twob Kq.out
  obtain ⟨bzc0, bzc1⟩ := twob Kz.out
  obtain ⟨gh, hgh⟩ : ∃ G, w7.heap.size = G := ⟨_, rfl⟩
  have Kh := Lib.hid (show Blk (w7.alloc (.cells #[.int .i64 p, .int .i64 g2, .string sec, .int .i64 at_, .int .i64 1099511627776] 24)) gh 24 #[.int .i64 p, .int .i64 g2, .string sec, .int .i64 at_, .int .i64 1099511627776] from Blk.new' w7 _ _ _ hgh rfl)
  have Nqh := Lib.hid (show G < gh from by rw [← hgh]; exact Kq.out.lt)
  replace Kq := Lib.hid (Kq.out.alloc (.cells #[.int .i64 p, .int .i64 g2, .string sec, .int .i64 at_, .int .i64 1099511627776] 24))
  have Nzh := Lib.hid (show gz < gh from by rw [← hgh]; exact Kz.out.lt)
  replace Kz := Lib.hid (Kz.out.alloc (.cells #[.int .i64 p, .int .i64 g2, .string sec, .int .i64 at_, .int .i64 1099511627776] 24))
  replace R0 := Lib.hid (R0.out.mono ((Below.refl _ w7).alloc (Nat.le_refl _) (.cells #[.int .i64 p, .int .i64 g2, .string sec, .int .i64 at_, .int .i64 1099511627776] 24)))
  replace R1 := Lib.hid (R1.out.mono ((Below.refl _ w7).alloc (Nat.le_refl _) (.cells #[.int .i64 p, .int .i64 g2, .string sec, .int .i64 at_, .int .i64 1099511627776] 24)))
  replace R2 := Lib.hid (R2.out.mono ((Below.refl _ w7).alloc (Nat.le_refl _) (.cells #[.int .i64 p, .int .i64 g2, .string sec, .int .i64 at_, .int .i64 1099511627776] 24)))
  have Lh := Lib.hid (show w.heap.size ≤ gh from by rw [← hgh]; exact B.out.size)
  replace B := Lib.hid (B.out.alloc B.out.size (.cells #[.int .i64 p, .int .i64 g2, .string sec, .int .i64 at_, .int .i64 1099511627776] 24))
  go_upto_region 10 with (fail)
  try rw [hgh]
  generalize hw : w7.alloc (.cells #[.int .i64 p, .int .i64 g2, .string sec, .int .i64 at_, .int .i64 1099511627776] 24) = w8 at Kq Kz Kh R0 R1 R2 B ⊢
  clear bqc0 bqc1 bzc0 bzc1
  clear hw hgh
  obtain ⟨bqc0, bqc1⟩ := twob Kq.out
  obtain ⟨bzc0, bzc1⟩ := twob Kz.out
  obtain ⟨bhc0, bhc1, bhc2, bhc3, bhc4⟩ := five Kh.out
  go_wp2_with fail
  refine (SNT.out _ (HLA.out.below B.out)).mono ?_
  rintro e w9 ⟨rfl, hb⟩
  replace Kq := Lib.hid (Kq.out.below hb Kq.out.lt)
  replace Kz := Lib.hid (Kz.out.below hb Kz.out.lt)
  replace Kh := Lib.hid (Kh.out.below hb Kh.out.lt)
  replace R0 := Lib.hid (R0.out.mono hb)
  replace R1 := Lib.hid (R1.out.mono hb)
  replace R2 := Lib.hid (R2.out.mono hb)
  replace B := Lib.hid (B.out.trans (hb.mono B.out.size))
  clear bqc0 bqc1 bzc0 bzc1 bhc0 bhc1 bhc2 bhc3 bhc4
  clear hb
  obtain ⟨bqc0, bqc1⟩ := twob Kq.out
  obtain ⟨bzc0, bzc1⟩ := twob Kz.out
  obtain ⟨bhc0, bhc1, bhc2, bhc3, bhc4⟩ := five Kh.out
  go_wp2
  go_ret
  exact ⟨rfl, B.out⟩
set_option maxRecDepth 100000 in
set_option maxHeartbeats 2000000 in
theorem law4_n2 (a : Option Addr) (c : Nat) (l : List Rw) (p : Int) (sec : ByteArray) (at_ ov lo hi : Int) (w : World) (hp : RwA w a l) (hm : l.length ≤ 9223372036854775807) (hla : Hs.LaidC w) (h : ¬ 30 < l.length) (hr : ringB l = true) (hz : ¬ 100 < sec.size) (he : (rotL l p sec at_ ov).2 = 0) (z1 : 0 ≤ lo) (z2 : ¬ hi < lo) (z3 : ¬ 1099511627776 ≤ hi) (z4 : ¬ at_ ≤ lo) (z5 : at_ ≤ hi) : Calls Tryd.prog 4 #[.slice a l.length c, .int .i64 p, .string sec, .int .i64 at_, .int .i64 ov, .agg #[.int .i64 lo, .int .i64 hi]] w fun e w' => e = .returned (.bool true) ∧ Below w.heap.size w w' := by
  have HLA := Lib.hid hla
  have HP := Lib.hid hp
  have SNT := Lib.hid (fun (X : World) (h : Hs.LaidC X) => sanity_any X h)
  have RG := Lib.hid (show ∀ X : World, RwA X a l → Calls Tryd.prog 11 #[.slice a l.length c] X fun e w' => e = .returned (.bool (ringB l)) ∧ Below X.heap.size X w' from fun X h => ring_any a c l X h hm)
  rw [hr] at RG
  have ok : RingOk l := of_decide_eq_true hr
  have ml : l.length ≤ 1000000 := by omega
  have ar := rot_ring (p := p) (s := sec) (at_ := at_) (ov := ov) ok (by omega)
  obtain ⟨⟨⟨g1, g2, g3, g4, g5⟩, g6⟩, hg⟩ : ∃ q, curL (rotL l p sec at_ ov).1 p lo hi = q := ⟨_, rfl⟩
  obtain ⟨⟨⟨o1, o2, o3, o4, o5⟩, o6⟩, ho⟩ : ∃ q, curL l p lo hi = q := ⟨_, rfl⟩
  obtain ⟨⟨L, E⟩, hL⟩ : ∃ q, (rotL l p sec at_ ov) = q := ⟨_, rfl⟩
  rw [hL] at ar he hg
  dsimp only at he
  subst he
  have okL : RingOk L := of_decide_eq_true ar
  have mL := okL.few
  have AD := Lib.hid (show ∀ X : World, RwA X a l → Calls Tryd.prog 20 #[.slice a l.length c, .int .i64 p, .string sec, .int .i64 at_, .int .i64 ov] X fun e w' => (∃ a' c', e = .returned (.tuple #[.slice a' L.length c', .int .i64 0]) ∧ RwA w' a' L) ∧ Below X.heap.size X w' from fun X h => by have q := rot_any a c l p sec at_ ov X h ok; rw [hL] at q; exact q)
  have RAD := Lib.hid (show ∀ X : World, RwA X a l → Calls Tryd.prog 21 #[.slice a l.length c, .int .i64 p, .string sec, .int .i64 at_, .int .i64 ov] X fun e w' => (∃ a' c', e = .returned (.agg #[.slice a' L.length c', .int .i64 0]) ∧ RwA w' a' L) ∧ Below X.heap.size X w' from fun X h => by have q := rrot_any a c l p sec at_ ov X h ok; rw [hL] at q; exact q)
  have SM := Lib.hid (fun (X : World) (b b2 : Option Addr) (n n2 : Nat) (h : RwA X b L) (h2 : RwA X b2 L) => same_any b b2 n n2 L X h h2 (by omega))
  have RG1 := Lib.hid (show ∀ (X : World) (b : Option Addr) (n : Nat), RwA X b L → Calls Tryd.prog 11 #[.slice b L.length n] X fun e w' => e = .returned (.bool true) ∧ Below X.heap.size X w' from fun X b n h => by have q := ring_any b n L X h (by omega); rw [ar] at q; exact q)
  have CN := Lib.hid (show ∀ (X : World) (b : Option Addr) (n : Nat), RwA X b L → Calls Tryd.prog 18 #[.slice b L.length n, .int .i64 p, .agg #[.int .i64 lo, .int .i64 hi]] X fun e w' => e = .returned (.tuple #[.agg #[.int .i64 g1, .int .i64 g2, .string g3, .int .i64 g4, .int .i64 g5], .int .i64 g6]) ∧ Below X.heap.size X w' from fun X b n h => by have q := cur_any b n L p lo hi X h okL; rw [hg] at q; exact q)
  have CO := Lib.hid (show ∀ X : World, RwA X a l → Calls Tryd.prog 18 #[.slice a l.length c, .int .i64 p, .agg #[.int .i64 lo, .int .i64 hi]] X fun e w' => e = .returned (.tuple #[.agg #[.int .i64 o1, .int .i64 o2, .string o3, .int .i64 o4, .int .i64 o5], .int .i64 o6]) ∧ Below X.heap.size X w' from fun X h => by have q := cur_any a c l p lo hi X h ok; rw [ho] at q; exact q)
  obtain ⟨M, hM⟩ : ∃ M, L.length = M := ⟨_, rfl⟩
  simp only [hM] at AD RAD SM RG1 CN
  clear hM mL okL ar hL ok ml hg ho
  obtain ⟨N, hN⟩ : ∃ N, l.length = N := ⟨_, rfl⟩
  simp only [hN] at RG AD RAD CO
  rw [hN]
  rw [hN] at h
  have t1 : decide ((30 : Int) < (N : Int)) = false := decide_eq_false (by omega)
  clear h hr
  have t2 : decide ((100 : Int) < (sec.size : Int)) = false := decide_eq_false (by omega)
  clear hz
  have t3 : decide (lo < 0) = false := decide_eq_false (by omega)
  have t4 : decide (hi < lo) = false := decide_eq_false (by omega)
  have t5 : decide (1099511627776 ≤ hi) = false := decide_eq_false (by omega)
  have t6 : decide (at_ ≤ lo) = false := decide_eq_false (by omega)
  have t7 : decide (at_ ≤ hi) = true := decide_eq_true (by omega)
  clear z1 z2 z3 z4 z5
  clear hla hp hm hN
  go_enter Tryd.func4, Tryd.ntmps4
  obtain ⟨G, hG⟩ : ∃ G, w.heap.size = G := ⟨_, rfl⟩
  have HG := Lib.hid hG
  have Kq := Lib.hid (show Blk (w.alloc (.cells #[.int .i64 lo, .int .i64 hi] 26)) (G) 26 #[.int .i64 lo, .int .i64 hi] from Blk.new' _ _ _ _ hG rfl)
  have B := Lib.hid (show Below w.heap.size w (w.alloc (.cells #[.int .i64 lo, .int .i64 hi] 26)) by (repeat' (first | (with_reducible exact Below.refl _ _) | (with_reducible assumption) | (with_reducible refine Below.alloc ?_ ?_ _) | (with_reducible refine Below.drew ?_) | (with_reducible refine below_dn ?_) | (with_reducible refine Below.setCell ?_ ?_ _) | (with_reducible exact Nat.le_refl _) | omega | (simp only [World.size_alloc, World.size_setCell, World.size_drew]; omega) | (simp; omega) | (simp; done))))
  go_upto_region 1 with (fail)
  try rw [hG]
  generalize hw0 : (w.alloc (.cells #[.int .i64 lo, .int .i64 hi] 26)) = w0 at Kq B ⊢
  clear hw0 hG
  obtain ⟨bqc0, bqc1⟩ := twob Kq.out
  have R0 := Lib.hid (HP.out.mono B.out)
  go_wp2_with fail
  refine (RG.out _ R0.out).mono ?_
  rintro e w1 ⟨rfl, hb⟩
  replace Kq := Lib.hid (Kq.out.below hb Kq.out.lt)
  replace R0 := Lib.hid (R0.out.mono hb)
  replace B := Lib.hid (B.out.trans (hb.mono B.out.size))
  clear bqc0 bqc1
  clear hb
  obtain ⟨bqc0, bqc1⟩ := twob Kq.out
  go_wp2_with fail
  refine (AD.out _ R0.out).mono ?_
  rintro e w2 ⟨⟨a1, c1, rfl, hr⟩, hb⟩
  have R1 := Lib.hid hr
  replace Kq := Lib.hid (Kq.out.below hb Kq.out.lt)
  replace R0 := Lib.hid (R0.out.mono hb)
  replace B := Lib.hid (B.out.trans (hb.mono B.out.size))
  clear bqc0 bqc1
  clear hb hr
  obtain ⟨bqc0, bqc1⟩ := twob Kq.out
  go_wp2_with fail
  refine (RAD.out _ R0.out).mono ?_
  rintro e w3 ⟨⟨a2, c2, rfl, hr⟩, hb⟩
  have R2 := Lib.hid hr
  replace Kq := Lib.hid (Kq.out.below hb Kq.out.lt)
  replace R0 := Lib.hid (R0.out.mono hb)
  replace R1 := Lib.hid (R1.out.mono hb)
  replace B := Lib.hid (B.out.trans (hb.mono B.out.size))
  clear bqc0 bqc1
  clear hb hr
  obtain ⟨bqc0, bqc1⟩ := twob Kq.out
  obtain ⟨gz, hgz⟩ : ∃ G, w3.heap.size = G := ⟨_, rfl⟩
  have Kz := Lib.hid (show Blk (w3.alloc (.cells #[.slice a2 M c2, .int .i64 0] 34)) gz 34 #[.slice a2 M c2, .int .i64 0] from Blk.new' w3 _ _ _ hgz rfl)
  have Nqz := Lib.hid (show G < gz from by rw [← hgz]; exact Kq.out.lt)
  replace Kq := Lib.hid (Kq.out.alloc (.cells #[.slice a2 M c2, .int .i64 0] 34))
  replace R0 := Lib.hid (R0.out.mono ((Below.refl _ w3).alloc (Nat.le_refl _) (.cells #[.slice a2 M c2, .int .i64 0] 34)))
  replace R1 := Lib.hid (R1.out.mono ((Below.refl _ w3).alloc (Nat.le_refl _) (.cells #[.slice a2 M c2, .int .i64 0] 34)))
  replace R2 := Lib.hid (R2.out.mono ((Below.refl _ w3).alloc (Nat.le_refl _) (.cells #[.slice a2 M c2, .int .i64 0] 34)))
  have Lz := Lib.hid (show w.heap.size ≤ gz from by rw [← hgz]; exact B.out.size)
  replace B := Lib.hid (B.out.alloc B.out.size (.cells #[.slice a2 M c2, .int .i64 0] 34))
  go_upto_region 5 with (fail)
  try rw [hgz]
  generalize hw : w3.alloc (.cells #[.slice a2 M c2, .int .i64 0] 34) = w4 at Kq Kz R0 R1 R2 B ⊢
  clear bqc0 bqc1
  clear hw hgz
  obtain ⟨bqc0, bqc1⟩ := twob Kq.out
  obtain ⟨bzc0, bzc1⟩ := twob Kz.out
  go_wp2_with fail
  refine (SM.out _ a1 a2 c1 c2 R1.out R2.out).mono ?_
  rintro e w5 ⟨rfl, hb⟩
  replace Kq := Lib.hid (Kq.out.below hb Kq.out.lt)
  replace Kz := Lib.hid (Kz.out.below hb Kz.out.lt)
  replace R0 := Lib.hid (R0.out.mono hb)
  replace R1 := Lib.hid (R1.out.mono hb)
  replace R2 := Lib.hid (R2.out.mono hb)
  replace B := Lib.hid (B.out.trans (hb.mono B.out.size))
  clear bqc0 bqc1 bzc0 bzc1
  clear hb
  obtain ⟨bqc0, bqc1⟩ := twob Kq.out
  obtain ⟨bzc0, bzc1⟩ := twob Kz.out
  go_wp2_with fail
  refine (RG1.out _ a1 c1 R1.out).mono ?_
  rintro e w6 ⟨rfl, hb⟩
  replace Kq := Lib.hid (Kq.out.below hb Kq.out.lt)
  replace Kz := Lib.hid (Kz.out.below hb Kz.out.lt)
  replace R0 := Lib.hid (R0.out.mono hb)
  replace R1 := Lib.hid (R1.out.mono hb)
  replace R2 := Lib.hid (R2.out.mono hb)
  replace B := Lib.hid (B.out.trans (hb.mono B.out.size))
  clear bqc0 bqc1 bzc0 bzc1
  clear hb
  obtain ⟨bqc0, bqc1⟩ := twob Kq.out
  obtain ⟨bzc0, bzc1⟩ := twob Kz.out
  go_wp2_with fail
  refine (CN.out _ a1 c1 R1.out).mono ?_
  rintro e w7 ⟨rfl, hb⟩
  replace Kq := Lib.hid (Kq.out.below hb Kq.out.lt)
  replace Kz := Lib.hid (Kz.out.below hb Kz.out.lt)
  replace R0 := Lib.hid (R0.out.mono hb)
  replace R1 := Lib.hid (R1.out.mono hb)
  replace R2 := Lib.hid (R2.out.mono hb)
  replace B := Lib.hid (B.out.trans (hb.mono B.out.size))
  clear bqc0 bqc1 bzc0 bzc1
  clear hb
  obtain ⟨bqc0, bqc1⟩ := twob Kq.out
  obtain ⟨bzc0, bzc1⟩ := twob Kz.out
  obtain ⟨gh, hgh⟩ : ∃ G, w7.heap.size = G := ⟨_, rfl⟩
  have Kh := Lib.hid (show Blk (w7.alloc (.cells #[.int .i64 g1, .int .i64 g2, .string g3, .int .i64 g4, .int .i64 g5] 24)) gh 24 #[.int .i64 g1, .int .i64 g2, .string g3, .int .i64 g4, .int .i64 g5] from Blk.new' w7 _ _ _ hgh rfl)
  have Nqh := Lib.hid (show G < gh from by rw [← hgh]; exact Kq.out.lt)
  replace Kq := Lib.hid (Kq.out.alloc (.cells #[.int .i64 g1, .int .i64 g2, .string g3, .int .i64 g4, .int .i64 g5] 24))
  have Nzh := Lib.hid (show gz < gh from by rw [← hgh]; exact Kz.out.lt)
  replace Kz := Lib.hid (Kz.out.alloc (.cells #[.int .i64 g1, .int .i64 g2, .string g3, .int .i64 g4, .int .i64 g5] 24))
  replace R0 := Lib.hid (R0.out.mono ((Below.refl _ w7).alloc (Nat.le_refl _) (.cells #[.int .i64 g1, .int .i64 g2, .string g3, .int .i64 g4, .int .i64 g5] 24)))
  replace R1 := Lib.hid (R1.out.mono ((Below.refl _ w7).alloc (Nat.le_refl _) (.cells #[.int .i64 g1, .int .i64 g2, .string g3, .int .i64 g4, .int .i64 g5] 24)))
  replace R2 := Lib.hid (R2.out.mono ((Below.refl _ w7).alloc (Nat.le_refl _) (.cells #[.int .i64 g1, .int .i64 g2, .string g3, .int .i64 g4, .int .i64 g5] 24)))
  have Lh := Lib.hid (show w.heap.size ≤ gh from by rw [← hgh]; exact B.out.size)
  replace B := Lib.hid (B.out.alloc B.out.size (.cells #[.int .i64 g1, .int .i64 g2, .string g3, .int .i64 g4, .int .i64 g5] 24))
  go_upto_region 10 with (fail)
  try rw [hgh]
  generalize hw : w7.alloc (.cells #[.int .i64 g1, .int .i64 g2, .string g3, .int .i64 g4, .int .i64 g5] 24) = w8 at Kq Kz Kh R0 R1 R2 B ⊢
  clear bqc0 bqc1 bzc0 bzc1
  clear hw hgh
  obtain ⟨bqc0, bqc1⟩ := twob Kq.out
  obtain ⟨bzc0, bzc1⟩ := twob Kz.out
  obtain ⟨bhc0, bhc1, bhc2, bhc3, bhc4⟩ := five Kh.out
  go_wp2_with fail
  refine (CO.out _ R0.out).mono ?_
  rintro e w9 ⟨rfl, hb⟩
  replace Kq := Lib.hid (Kq.out.below hb Kq.out.lt)
  replace Kz := Lib.hid (Kz.out.below hb Kz.out.lt)
  replace Kh := Lib.hid (Kh.out.below hb Kh.out.lt)
  replace R0 := Lib.hid (R0.out.mono hb)
  replace R1 := Lib.hid (R1.out.mono hb)
  replace R2 := Lib.hid (R2.out.mono hb)
  replace B := Lib.hid (B.out.trans (hb.mono B.out.size))
  clear bqc0 bqc1 bzc0 bzc1 bhc0 bhc1 bhc2 bhc3 bhc4
  clear hb
  obtain ⟨bqc0, bqc1⟩ := twob Kq.out
  obtain ⟨bzc0, bzc1⟩ := twob Kz.out
  obtain ⟨bhc0, bhc1, bhc2, bhc3, bhc4⟩ := five Kh.out
  obtain ⟨go, hgo⟩ : ∃ G, w9.heap.size = G := ⟨_, rfl⟩
  have Ko := Lib.hid (show Blk (w9.alloc (.cells #[.int .i64 o1, .int .i64 o2, .string o3, .int .i64 o4, .int .i64 o5] 24)) go 24 #[.int .i64 o1, .int .i64 o2, .string o3, .int .i64 o4, .int .i64 o5] from Blk.new' w9 _ _ _ hgo rfl)
  have Nqo := Lib.hid (show G < go from by rw [← hgo]; exact Kq.out.lt)
  replace Kq := Lib.hid (Kq.out.alloc (.cells #[.int .i64 o1, .int .i64 o2, .string o3, .int .i64 o4, .int .i64 o5] 24))
  have Nzo := Lib.hid (show gz < go from by rw [← hgo]; exact Kz.out.lt)
  replace Kz := Lib.hid (Kz.out.alloc (.cells #[.int .i64 o1, .int .i64 o2, .string o3, .int .i64 o4, .int .i64 o5] 24))
  have Nho := Lib.hid (show gh < go from by rw [← hgo]; exact Kh.out.lt)
  replace Kh := Lib.hid (Kh.out.alloc (.cells #[.int .i64 o1, .int .i64 o2, .string o3, .int .i64 o4, .int .i64 o5] 24))
  replace R0 := Lib.hid (R0.out.mono ((Below.refl _ w9).alloc (Nat.le_refl _) (.cells #[.int .i64 o1, .int .i64 o2, .string o3, .int .i64 o4, .int .i64 o5] 24)))
  replace R1 := Lib.hid (R1.out.mono ((Below.refl _ w9).alloc (Nat.le_refl _) (.cells #[.int .i64 o1, .int .i64 o2, .string o3, .int .i64 o4, .int .i64 o5] 24)))
  replace R2 := Lib.hid (R2.out.mono ((Below.refl _ w9).alloc (Nat.le_refl _) (.cells #[.int .i64 o1, .int .i64 o2, .string o3, .int .i64 o4, .int .i64 o5] 24)))
  have Lo := Lib.hid (show w.heap.size ≤ go from by rw [← hgo]; exact B.out.size)
  replace B := Lib.hid (B.out.alloc B.out.size (.cells #[.int .i64 o1, .int .i64 o2, .string o3, .int .i64 o4, .int .i64 o5] 24))
  go_upto_region 13 with (fail)
  try rw [hgo]
  generalize hw : w9.alloc (.cells #[.int .i64 o1, .int .i64 o2, .string o3, .int .i64 o4, .int .i64 o5] 24) = w10 at Kq Kz Kh Ko R0 R1 R2 B ⊢
  clear bqc0 bqc1 bzc0 bzc1 bhc0 bhc1 bhc2 bhc3 bhc4
  clear hw hgo
  obtain ⟨bqc0, bqc1⟩ := twob Kq.out
  obtain ⟨bzc0, bzc1⟩ := twob Kz.out
  obtain ⟨bhc0, bhc1, bhc2, bhc3, bhc4⟩ := five Kh.out
  obtain ⟨boc0, boc1, boc2, boc3, boc4⟩ := five Ko.out
  go_wp2_with fail
  refine (SNT.out _ (HLA.out.below B.out)).mono ?_
  rintro e w11 ⟨rfl, hb⟩
  replace Kq := Lib.hid (Kq.out.below hb Kq.out.lt)
  replace Kz := Lib.hid (Kz.out.below hb Kz.out.lt)
  replace Kh := Lib.hid (Kh.out.below hb Kh.out.lt)
  replace Ko := Lib.hid (Ko.out.below hb Ko.out.lt)
  replace R0 := Lib.hid (R0.out.mono hb)
  replace R1 := Lib.hid (R1.out.mono hb)
  replace R2 := Lib.hid (R2.out.mono hb)
  replace B := Lib.hid (B.out.trans (hb.mono B.out.size))
  clear bqc0 bqc1 bzc0 bzc1 bhc0 bhc1 bhc2 bhc3 bhc4 boc0 boc1 boc2 boc3 boc4
  clear hb
  obtain ⟨bqc0, bqc1⟩ := twob Kq.out
  obtain ⟨bzc0, bzc1⟩ := twob Kz.out
  obtain ⟨bhc0, bhc1, bhc2, bhc3, bhc4⟩ := five Kh.out
  obtain ⟨boc0, boc1, boc2, boc3, boc4⟩ := five Ko.out
  go_wp2
  go_ret
  exact ⟨rfl, B.out⟩
set_option maxRecDepth 100000 in
set_option maxHeartbeats 2000000 in
theorem law4_n3 (a : Option Addr) (c : Nat) (l : List Rw) (p : Int) (sec : ByteArray) (at_ ov lo hi : Int) (w : World) (hp : RwA w a l) (hm : l.length ≤ 9223372036854775807) (hla : Hs.LaidC w) (h : ¬ 30 < l.length) (hr : ringB l = true) (hz : ¬ 100 < sec.size) (he : (rotL l p sec at_ ov).2 = 0) (z1 : 0 ≤ lo) (z2 : ¬ hi < lo) (z3 : ¬ 1099511627776 ≤ hi) (z4 : ¬ at_ ≤ lo) (z5 : ¬ at_ ≤ hi) (z6 : ¬ (curL l p lo hi).2 = 0) : Calls Tryd.prog 4 #[.slice a l.length c, .int .i64 p, .string sec, .int .i64 at_, .int .i64 ov, .agg #[.int .i64 lo, .int .i64 hi]] w fun e w' => e = .returned (.bool true) ∧ Below w.heap.size w w' := by
  have HLA := Lib.hid hla
  have HP := Lib.hid hp
  have SNT := Lib.hid (fun (X : World) (h : Hs.LaidC X) => sanity_any X h)
  have RG := Lib.hid (show ∀ X : World, RwA X a l → Calls Tryd.prog 11 #[.slice a l.length c] X fun e w' => e = .returned (.bool (ringB l)) ∧ Below X.heap.size X w' from fun X h => ring_any a c l X h hm)
  rw [hr] at RG
  have ok : RingOk l := of_decide_eq_true hr
  have ml : l.length ≤ 1000000 := by omega
  have ar := rot_ring (p := p) (s := sec) (at_ := at_) (ov := ov) ok (by omega)
  obtain ⟨⟨⟨g1, g2, g3, g4, g5⟩, g6⟩, hg⟩ : ∃ q, curL (rotL l p sec at_ ov).1 p lo hi = q := ⟨_, rfl⟩
  obtain ⟨⟨⟨o1, o2, o3, o4, o5⟩, o6⟩, ho⟩ : ∃ q, curL l p lo hi = q := ⟨_, rfl⟩
  rw [ho] at z6
  dsimp only at z6
  obtain ⟨⟨L, E⟩, hL⟩ : ∃ q, (rotL l p sec at_ ov) = q := ⟨_, rfl⟩
  rw [hL] at ar he hg
  dsimp only at he
  subst he
  have okL : RingOk L := of_decide_eq_true ar
  have mL := okL.few
  have AD := Lib.hid (show ∀ X : World, RwA X a l → Calls Tryd.prog 20 #[.slice a l.length c, .int .i64 p, .string sec, .int .i64 at_, .int .i64 ov] X fun e w' => (∃ a' c', e = .returned (.tuple #[.slice a' L.length c', .int .i64 0]) ∧ RwA w' a' L) ∧ Below X.heap.size X w' from fun X h => by have q := rot_any a c l p sec at_ ov X h ok; rw [hL] at q; exact q)
  have RAD := Lib.hid (show ∀ X : World, RwA X a l → Calls Tryd.prog 21 #[.slice a l.length c, .int .i64 p, .string sec, .int .i64 at_, .int .i64 ov] X fun e w' => (∃ a' c', e = .returned (.agg #[.slice a' L.length c', .int .i64 0]) ∧ RwA w' a' L) ∧ Below X.heap.size X w' from fun X h => by have q := rrot_any a c l p sec at_ ov X h ok; rw [hL] at q; exact q)
  have SM := Lib.hid (fun (X : World) (b b2 : Option Addr) (n n2 : Nat) (h : RwA X b L) (h2 : RwA X b2 L) => same_any b b2 n n2 L X h h2 (by omega))
  have RG1 := Lib.hid (show ∀ (X : World) (b : Option Addr) (n : Nat), RwA X b L → Calls Tryd.prog 11 #[.slice b L.length n] X fun e w' => e = .returned (.bool true) ∧ Below X.heap.size X w' from fun X b n h => by have q := ring_any b n L X h (by omega); rw [ar] at q; exact q)
  have CN := Lib.hid (show ∀ (X : World) (b : Option Addr) (n : Nat), RwA X b L → Calls Tryd.prog 18 #[.slice b L.length n, .int .i64 p, .agg #[.int .i64 lo, .int .i64 hi]] X fun e w' => e = .returned (.tuple #[.agg #[.int .i64 g1, .int .i64 g2, .string g3, .int .i64 g4, .int .i64 g5], .int .i64 g6]) ∧ Below X.heap.size X w' from fun X b n h => by have q := cur_any b n L p lo hi X h okL; rw [hg] at q; exact q)
  have CO := Lib.hid (show ∀ X : World, RwA X a l → Calls Tryd.prog 18 #[.slice a l.length c, .int .i64 p, .agg #[.int .i64 lo, .int .i64 hi]] X fun e w' => e = .returned (.tuple #[.agg #[.int .i64 o1, .int .i64 o2, .string o3, .int .i64 o4, .int .i64 o5], .int .i64 o6]) ∧ Below X.heap.size X w' from fun X h => by have q := cur_any a c l p lo hi X h ok; rw [ho] at q; exact q)
  obtain ⟨M, hM⟩ : ∃ M, L.length = M := ⟨_, rfl⟩
  simp only [hM] at AD RAD SM RG1 CN
  clear hM mL okL ar hL ok ml hg ho
  obtain ⟨N, hN⟩ : ∃ N, l.length = N := ⟨_, rfl⟩
  simp only [hN] at RG AD RAD CO
  rw [hN]
  rw [hN] at h
  have t1 : decide ((30 : Int) < (N : Int)) = false := decide_eq_false (by omega)
  clear h hr
  have t2 : decide ((100 : Int) < (sec.size : Int)) = false := decide_eq_false (by omega)
  clear hz
  have t3 : decide (lo < 0) = false := decide_eq_false (by omega)
  have t4 : decide (hi < lo) = false := decide_eq_false (by omega)
  have t5 : decide (1099511627776 ≤ hi) = false := decide_eq_false (by omega)
  have t6 : decide (at_ ≤ lo) = false := decide_eq_false (by omega)
  have t7 : decide (at_ ≤ hi) = false := decide_eq_false (by omega)
  have t8 : decide (o6 = 0) = false := decide_eq_false z6
  clear z1 z2 z3 z4 z5
  clear hla hp hm hN
  go_enter Tryd.func4, Tryd.ntmps4
  obtain ⟨G, hG⟩ : ∃ G, w.heap.size = G := ⟨_, rfl⟩
  have HG := Lib.hid hG
  have Kq := Lib.hid (show Blk (w.alloc (.cells #[.int .i64 lo, .int .i64 hi] 26)) (G) 26 #[.int .i64 lo, .int .i64 hi] from Blk.new' _ _ _ _ hG rfl)
  have B := Lib.hid (show Below w.heap.size w (w.alloc (.cells #[.int .i64 lo, .int .i64 hi] 26)) by (repeat' (first | (with_reducible exact Below.refl _ _) | (with_reducible assumption) | (with_reducible refine Below.alloc ?_ ?_ _) | (with_reducible refine Below.drew ?_) | (with_reducible refine below_dn ?_) | (with_reducible refine Below.setCell ?_ ?_ _) | (with_reducible exact Nat.le_refl _) | omega | (simp only [World.size_alloc, World.size_setCell, World.size_drew]; omega) | (simp; omega) | (simp; done))))
  go_upto_region 1 with (fail)
  try rw [hG]
  generalize hw0 : (w.alloc (.cells #[.int .i64 lo, .int .i64 hi] 26)) = w0 at Kq B ⊢
  clear hw0 hG
  obtain ⟨bqc0, bqc1⟩ := twob Kq.out
  have R0 := Lib.hid (HP.out.mono B.out)
  go_wp2_with fail
  refine (RG.out _ R0.out).mono ?_
  rintro e w1 ⟨rfl, hb⟩
  replace Kq := Lib.hid (Kq.out.below hb Kq.out.lt)
  replace R0 := Lib.hid (R0.out.mono hb)
  replace B := Lib.hid (B.out.trans (hb.mono B.out.size))
  clear bqc0 bqc1
  clear hb
  obtain ⟨bqc0, bqc1⟩ := twob Kq.out
  go_wp2_with fail
  refine (AD.out _ R0.out).mono ?_
  rintro e w2 ⟨⟨a1, c1, rfl, hr⟩, hb⟩
  have R1 := Lib.hid hr
  replace Kq := Lib.hid (Kq.out.below hb Kq.out.lt)
  replace R0 := Lib.hid (R0.out.mono hb)
  replace B := Lib.hid (B.out.trans (hb.mono B.out.size))
  clear bqc0 bqc1
  clear hb hr
  obtain ⟨bqc0, bqc1⟩ := twob Kq.out
  go_wp2_with fail
  refine (RAD.out _ R0.out).mono ?_
  rintro e w3 ⟨⟨a2, c2, rfl, hr⟩, hb⟩
  have R2 := Lib.hid hr
  replace Kq := Lib.hid (Kq.out.below hb Kq.out.lt)
  replace R0 := Lib.hid (R0.out.mono hb)
  replace R1 := Lib.hid (R1.out.mono hb)
  replace B := Lib.hid (B.out.trans (hb.mono B.out.size))
  clear bqc0 bqc1
  clear hb hr
  obtain ⟨bqc0, bqc1⟩ := twob Kq.out
  obtain ⟨gz, hgz⟩ : ∃ G, w3.heap.size = G := ⟨_, rfl⟩
  have Kz := Lib.hid (show Blk (w3.alloc (.cells #[.slice a2 M c2, .int .i64 0] 34)) gz 34 #[.slice a2 M c2, .int .i64 0] from Blk.new' w3 _ _ _ hgz rfl)
  have Nqz := Lib.hid (show G < gz from by rw [← hgz]; exact Kq.out.lt)
  replace Kq := Lib.hid (Kq.out.alloc (.cells #[.slice a2 M c2, .int .i64 0] 34))
  replace R0 := Lib.hid (R0.out.mono ((Below.refl _ w3).alloc (Nat.le_refl _) (.cells #[.slice a2 M c2, .int .i64 0] 34)))
  replace R1 := Lib.hid (R1.out.mono ((Below.refl _ w3).alloc (Nat.le_refl _) (.cells #[.slice a2 M c2, .int .i64 0] 34)))
  replace R2 := Lib.hid (R2.out.mono ((Below.refl _ w3).alloc (Nat.le_refl _) (.cells #[.slice a2 M c2, .int .i64 0] 34)))
  have Lz := Lib.hid (show w.heap.size ≤ gz from by rw [← hgz]; exact B.out.size)
  replace B := Lib.hid (B.out.alloc B.out.size (.cells #[.slice a2 M c2, .int .i64 0] 34))
  go_upto_region 5 with (fail)
  try rw [hgz]
  generalize hw : w3.alloc (.cells #[.slice a2 M c2, .int .i64 0] 34) = w4 at Kq Kz R0 R1 R2 B ⊢
  clear bqc0 bqc1
  clear hw hgz
  obtain ⟨bqc0, bqc1⟩ := twob Kq.out
  obtain ⟨bzc0, bzc1⟩ := twob Kz.out
  go_wp2_with fail
  refine (SM.out _ a1 a2 c1 c2 R1.out R2.out).mono ?_
  rintro e w5 ⟨rfl, hb⟩
  replace Kq := Lib.hid (Kq.out.below hb Kq.out.lt)
  replace Kz := Lib.hid (Kz.out.below hb Kz.out.lt)
  replace R0 := Lib.hid (R0.out.mono hb)
  replace R1 := Lib.hid (R1.out.mono hb)
  replace R2 := Lib.hid (R2.out.mono hb)
  replace B := Lib.hid (B.out.trans (hb.mono B.out.size))
  clear bqc0 bqc1 bzc0 bzc1
  clear hb
  obtain ⟨bqc0, bqc1⟩ := twob Kq.out
  obtain ⟨bzc0, bzc1⟩ := twob Kz.out
  go_wp2_with fail
  refine (RG1.out _ a1 c1 R1.out).mono ?_
  rintro e w6 ⟨rfl, hb⟩
  replace Kq := Lib.hid (Kq.out.below hb Kq.out.lt)
  replace Kz := Lib.hid (Kz.out.below hb Kz.out.lt)
  replace R0 := Lib.hid (R0.out.mono hb)
  replace R1 := Lib.hid (R1.out.mono hb)
  replace R2 := Lib.hid (R2.out.mono hb)
  replace B := Lib.hid (B.out.trans (hb.mono B.out.size))
  clear bqc0 bqc1 bzc0 bzc1
  clear hb
  obtain ⟨bqc0, bqc1⟩ := twob Kq.out
  obtain ⟨bzc0, bzc1⟩ := twob Kz.out
  go_wp2_with fail
  refine (CN.out _ a1 c1 R1.out).mono ?_
  rintro e w7 ⟨rfl, hb⟩
  replace Kq := Lib.hid (Kq.out.below hb Kq.out.lt)
  replace Kz := Lib.hid (Kz.out.below hb Kz.out.lt)
  replace R0 := Lib.hid (R0.out.mono hb)
  replace R1 := Lib.hid (R1.out.mono hb)
  replace R2 := Lib.hid (R2.out.mono hb)
  replace B := Lib.hid (B.out.trans (hb.mono B.out.size))
  clear bqc0 bqc1 bzc0 bzc1
  clear hb
  obtain ⟨bqc0, bqc1⟩ := twob Kq.out
  obtain ⟨bzc0, bzc1⟩ := twob Kz.out
  obtain ⟨gh, hgh⟩ : ∃ G, w7.heap.size = G := ⟨_, rfl⟩
  have Kh := Lib.hid (show Blk (w7.alloc (.cells #[.int .i64 g1, .int .i64 g2, .string g3, .int .i64 g4, .int .i64 g5] 24)) gh 24 #[.int .i64 g1, .int .i64 g2, .string g3, .int .i64 g4, .int .i64 g5] from Blk.new' w7 _ _ _ hgh rfl)
  have Nqh := Lib.hid (show G < gh from by rw [← hgh]; exact Kq.out.lt)
  replace Kq := Lib.hid (Kq.out.alloc (.cells #[.int .i64 g1, .int .i64 g2, .string g3, .int .i64 g4, .int .i64 g5] 24))
  have Nzh := Lib.hid (show gz < gh from by rw [← hgh]; exact Kz.out.lt)
  replace Kz := Lib.hid (Kz.out.alloc (.cells #[.int .i64 g1, .int .i64 g2, .string g3, .int .i64 g4, .int .i64 g5] 24))
  replace R0 := Lib.hid (R0.out.mono ((Below.refl _ w7).alloc (Nat.le_refl _) (.cells #[.int .i64 g1, .int .i64 g2, .string g3, .int .i64 g4, .int .i64 g5] 24)))
  replace R1 := Lib.hid (R1.out.mono ((Below.refl _ w7).alloc (Nat.le_refl _) (.cells #[.int .i64 g1, .int .i64 g2, .string g3, .int .i64 g4, .int .i64 g5] 24)))
  replace R2 := Lib.hid (R2.out.mono ((Below.refl _ w7).alloc (Nat.le_refl _) (.cells #[.int .i64 g1, .int .i64 g2, .string g3, .int .i64 g4, .int .i64 g5] 24)))
  have Lh := Lib.hid (show w.heap.size ≤ gh from by rw [← hgh]; exact B.out.size)
  replace B := Lib.hid (B.out.alloc B.out.size (.cells #[.int .i64 g1, .int .i64 g2, .string g3, .int .i64 g4, .int .i64 g5] 24))
  go_upto_region 10 with (fail)
  try rw [hgh]
  generalize hw : w7.alloc (.cells #[.int .i64 g1, .int .i64 g2, .string g3, .int .i64 g4, .int .i64 g5] 24) = w8 at Kq Kz Kh R0 R1 R2 B ⊢
  clear bqc0 bqc1 bzc0 bzc1
  clear hw hgh
  obtain ⟨bqc0, bqc1⟩ := twob Kq.out
  obtain ⟨bzc0, bzc1⟩ := twob Kz.out
  obtain ⟨bhc0, bhc1, bhc2, bhc3, bhc4⟩ := five Kh.out
  go_wp2_with fail
  refine (CO.out _ R0.out).mono ?_
  rintro e w9 ⟨rfl, hb⟩
  replace Kq := Lib.hid (Kq.out.below hb Kq.out.lt)
  replace Kz := Lib.hid (Kz.out.below hb Kz.out.lt)
  replace Kh := Lib.hid (Kh.out.below hb Kh.out.lt)
  replace R0 := Lib.hid (R0.out.mono hb)
  replace R1 := Lib.hid (R1.out.mono hb)
  replace R2 := Lib.hid (R2.out.mono hb)
  replace B := Lib.hid (B.out.trans (hb.mono B.out.size))
  clear bqc0 bqc1 bzc0 bzc1 bhc0 bhc1 bhc2 bhc3 bhc4
  clear hb
  obtain ⟨bqc0, bqc1⟩ := twob Kq.out
  obtain ⟨bzc0, bzc1⟩ := twob Kz.out
  obtain ⟨bhc0, bhc1, bhc2, bhc3, bhc4⟩ := five Kh.out
  obtain ⟨go, hgo⟩ : ∃ G, w9.heap.size = G := ⟨_, rfl⟩
  have Ko := Lib.hid (show Blk (w9.alloc (.cells #[.int .i64 o1, .int .i64 o2, .string o3, .int .i64 o4, .int .i64 o5] 24)) go 24 #[.int .i64 o1, .int .i64 o2, .string o3, .int .i64 o4, .int .i64 o5] from Blk.new' w9 _ _ _ hgo rfl)
  have Nqo := Lib.hid (show G < go from by rw [← hgo]; exact Kq.out.lt)
  replace Kq := Lib.hid (Kq.out.alloc (.cells #[.int .i64 o1, .int .i64 o2, .string o3, .int .i64 o4, .int .i64 o5] 24))
  have Nzo := Lib.hid (show gz < go from by rw [← hgo]; exact Kz.out.lt)
  replace Kz := Lib.hid (Kz.out.alloc (.cells #[.int .i64 o1, .int .i64 o2, .string o3, .int .i64 o4, .int .i64 o5] 24))
  have Nho := Lib.hid (show gh < go from by rw [← hgo]; exact Kh.out.lt)
  replace Kh := Lib.hid (Kh.out.alloc (.cells #[.int .i64 o1, .int .i64 o2, .string o3, .int .i64 o4, .int .i64 o5] 24))
  replace R0 := Lib.hid (R0.out.mono ((Below.refl _ w9).alloc (Nat.le_refl _) (.cells #[.int .i64 o1, .int .i64 o2, .string o3, .int .i64 o4, .int .i64 o5] 24)))
  replace R1 := Lib.hid (R1.out.mono ((Below.refl _ w9).alloc (Nat.le_refl _) (.cells #[.int .i64 o1, .int .i64 o2, .string o3, .int .i64 o4, .int .i64 o5] 24)))
  replace R2 := Lib.hid (R2.out.mono ((Below.refl _ w9).alloc (Nat.le_refl _) (.cells #[.int .i64 o1, .int .i64 o2, .string o3, .int .i64 o4, .int .i64 o5] 24)))
  have Lo := Lib.hid (show w.heap.size ≤ go from by rw [← hgo]; exact B.out.size)
  replace B := Lib.hid (B.out.alloc B.out.size (.cells #[.int .i64 o1, .int .i64 o2, .string o3, .int .i64 o4, .int .i64 o5] 24))
  go_upto_region 13 with (fail)
  try rw [hgo]
  generalize hw : w9.alloc (.cells #[.int .i64 o1, .int .i64 o2, .string o3, .int .i64 o4, .int .i64 o5] 24) = w10 at Kq Kz Kh Ko R0 R1 R2 B ⊢
  clear bqc0 bqc1 bzc0 bzc1 bhc0 bhc1 bhc2 bhc3 bhc4
  clear hw hgo
  obtain ⟨bqc0, bqc1⟩ := twob Kq.out
  obtain ⟨bzc0, bzc1⟩ := twob Kz.out
  obtain ⟨bhc0, bhc1, bhc2, bhc3, bhc4⟩ := five Kh.out
  obtain ⟨boc0, boc1, boc2, boc3, boc4⟩ := five Ko.out
  go_wp2_with fail
  refine (SNT.out _ (HLA.out.below B.out)).mono ?_
  rintro e w11 ⟨rfl, hb⟩
  replace Kq := Lib.hid (Kq.out.below hb Kq.out.lt)
  replace Kz := Lib.hid (Kz.out.below hb Kz.out.lt)
  replace Kh := Lib.hid (Kh.out.below hb Kh.out.lt)
  replace Ko := Lib.hid (Ko.out.below hb Ko.out.lt)
  replace R0 := Lib.hid (R0.out.mono hb)
  replace R1 := Lib.hid (R1.out.mono hb)
  replace R2 := Lib.hid (R2.out.mono hb)
  replace B := Lib.hid (B.out.trans (hb.mono B.out.size))
  clear bqc0 bqc1 bzc0 bzc1 bhc0 bhc1 bhc2 bhc3 bhc4 boc0 boc1 boc2 boc3 boc4
  clear hb
  obtain ⟨bqc0, bqc1⟩ := twob Kq.out
  obtain ⟨bzc0, bzc1⟩ := twob Kz.out
  obtain ⟨bhc0, bhc1, bhc2, bhc3, bhc4⟩ := five Kh.out
  obtain ⟨boc0, boc1, boc2, boc3, boc4⟩ := five Ko.out
  go_wp2
  go_ret
  exact ⟨rfl, B.out⟩
set_option maxRecDepth 100000 in
set_option maxHeartbeats 2000000 in
theorem law4_n4 (a : Option Addr) (c : Nat) (l : List Rw) (p : Int) (sec : ByteArray) (at_ ov lo hi : Int) (w : World) (hp : RwA w a l) (hm : l.length ≤ 9223372036854775807) (hla : Hs.LaidC w) (h : ¬ 30 < l.length) (hr : ringB l = true) (hz : ¬ 100 < sec.size) (he : (rotL l p sec at_ ov).2 = 0) (z1 : 0 ≤ lo) (z2 : ¬ hi < lo) (z3 : ¬ 1099511627776 ≤ hi) (z4 : ¬ at_ ≤ lo) (z5 : ¬ at_ ≤ hi) (z6 : (curL l p lo hi).2 = 0) : Calls Tryd.prog 4 #[.slice a l.length c, .int .i64 p, .string sec, .int .i64 at_, .int .i64 ov, .agg #[.int .i64 lo, .int .i64 hi]] w fun e w' => e = .returned (.bool true) ∧ Below w.heap.size w w' := by
  have HLA := Lib.hid hla
  have HP := Lib.hid hp
  have SNT := Lib.hid (fun (X : World) (h : Hs.LaidC X) => sanity_any X h)
  have RG := Lib.hid (show ∀ X : World, RwA X a l → Calls Tryd.prog 11 #[.slice a l.length c] X fun e w' => e = .returned (.bool (ringB l)) ∧ Below X.heap.size X w' from fun X h => ring_any a c l X h hm)
  rw [hr] at RG
  have ok : RingOk l := of_decide_eq_true hr
  have ml : l.length ≤ 1000000 := by omega
  have ar := rot_ring (p := p) (s := sec) (at_ := at_) (ov := ov) ok (by omega)
  obtain ⟨⟨⟨o1, o2, o3, o4, o5⟩, o6⟩, ho⟩ : ∃ q, curL l p lo hi = q := ⟨_, rfl⟩
  rw [ho] at z6
  dsimp only at z6
  subst z6
  have rg := rot_old (lo := lo) (hi := hi) ok he (Int.not_le.1 z4) (Int.not_le.1 z5) (by rw [ho])
  rw [ho] at rg
  obtain ⟨⟨⟨g1, g2, g3, g4, g5⟩, g6⟩, hg⟩ : ∃ q, curL (rotL l p sec at_ ov).1 p lo hi = q := ⟨_, rfl⟩
  rw [hg] at rg
  dsimp only at rg
  obtain ⟨rg1, rg2⟩ := rg
  subst rg1
  subst rg2
  obtain ⟨⟨L, E⟩, hL⟩ : ∃ q, (rotL l p sec at_ ov) = q := ⟨_, rfl⟩
  rw [hL] at ar he hg
  dsimp only at he
  subst he
  have okL : RingOk L := of_decide_eq_true ar
  have mL := okL.few
  have AD := Lib.hid (show ∀ X : World, RwA X a l → Calls Tryd.prog 20 #[.slice a l.length c, .int .i64 p, .string sec, .int .i64 at_, .int .i64 ov] X fun e w' => (∃ a' c', e = .returned (.tuple #[.slice a' L.length c', .int .i64 0]) ∧ RwA w' a' L) ∧ Below X.heap.size X w' from fun X h => by have q := rot_any a c l p sec at_ ov X h ok; rw [hL] at q; exact q)
  have RAD := Lib.hid (show ∀ X : World, RwA X a l → Calls Tryd.prog 21 #[.slice a l.length c, .int .i64 p, .string sec, .int .i64 at_, .int .i64 ov] X fun e w' => (∃ a' c', e = .returned (.agg #[.slice a' L.length c', .int .i64 0]) ∧ RwA w' a' L) ∧ Below X.heap.size X w' from fun X h => by have q := rrot_any a c l p sec at_ ov X h ok; rw [hL] at q; exact q)
  have SM := Lib.hid (fun (X : World) (b b2 : Option Addr) (n n2 : Nat) (h : RwA X b L) (h2 : RwA X b2 L) => same_any b b2 n n2 L X h h2 (by omega))
  have RG1 := Lib.hid (show ∀ (X : World) (b : Option Addr) (n : Nat), RwA X b L → Calls Tryd.prog 11 #[.slice b L.length n] X fun e w' => e = .returned (.bool true) ∧ Below X.heap.size X w' from fun X b n h => by have q := ring_any b n L X h (by omega); rw [ar] at q; exact q)
  have CN := Lib.hid (show ∀ (X : World) (b : Option Addr) (n : Nat), RwA X b L → Calls Tryd.prog 18 #[.slice b L.length n, .int .i64 p, .agg #[.int .i64 lo, .int .i64 hi]] X fun e w' => e = .returned (.tuple #[.agg #[.int .i64 g1, .int .i64 g2, .string g3, .int .i64 g4, .int .i64 g5], .int .i64 0]) ∧ Below X.heap.size X w' from fun X b n h => by have q := cur_any b n L p lo hi X h okL; rw [hg] at q; exact q)
  have CO := Lib.hid (show ∀ X : World, RwA X a l → Calls Tryd.prog 18 #[.slice a l.length c, .int .i64 p, .agg #[.int .i64 lo, .int .i64 hi]] X fun e w' => e = .returned (.tuple #[.agg #[.int .i64 o1, .int .i64 g2, .string o3, .int .i64 o4, .int .i64 o5], .int .i64 0]) ∧ Below X.heap.size X w' from fun X h => by have q := cur_any a c l p lo hi X h ok; rw [ho] at q; exact q)
  obtain ⟨M, hM⟩ : ∃ M, L.length = M := ⟨_, rfl⟩
  simp only [hM] at AD RAD SM RG1 CN
  clear hM mL okL ar hL ok ml hg ho
  obtain ⟨N, hN⟩ : ∃ N, l.length = N := ⟨_, rfl⟩
  simp only [hN] at RG AD RAD CO
  rw [hN]
  rw [hN] at h
  have t1 : decide ((30 : Int) < (N : Int)) = false := decide_eq_false (by omega)
  clear h hr
  have t2 : decide ((100 : Int) < (sec.size : Int)) = false := decide_eq_false (by omega)
  clear hz
  have t3 : decide (lo < 0) = false := decide_eq_false (by omega)
  have t4 : decide (hi < lo) = false := decide_eq_false (by omega)
  have t5 : decide (1099511627776 ≤ hi) = false := decide_eq_false (by omega)
  have t6 : decide (at_ ≤ lo) = false := decide_eq_false (by omega)
  have t7 : decide (at_ ≤ hi) = false := decide_eq_false (by omega)
  clear z1 z2 z3 z4 z5
  clear hla hp hm hN
  go_enter Tryd.func4, Tryd.ntmps4
  obtain ⟨G, hG⟩ : ∃ G, w.heap.size = G := ⟨_, rfl⟩
  have HG := Lib.hid hG
  have Kq := Lib.hid (show Blk (w.alloc (.cells #[.int .i64 lo, .int .i64 hi] 26)) (G) 26 #[.int .i64 lo, .int .i64 hi] from Blk.new' _ _ _ _ hG rfl)
  have B := Lib.hid (show Below w.heap.size w (w.alloc (.cells #[.int .i64 lo, .int .i64 hi] 26)) by (repeat' (first | (with_reducible exact Below.refl _ _) | (with_reducible assumption) | (with_reducible refine Below.alloc ?_ ?_ _) | (with_reducible refine Below.drew ?_) | (with_reducible refine below_dn ?_) | (with_reducible refine Below.setCell ?_ ?_ _) | (with_reducible exact Nat.le_refl _) | omega | (simp only [World.size_alloc, World.size_setCell, World.size_drew]; omega) | (simp; omega) | (simp; done))))
  go_upto_region 1 with (fail)
  try rw [hG]
  generalize hw0 : (w.alloc (.cells #[.int .i64 lo, .int .i64 hi] 26)) = w0 at Kq B ⊢
  clear hw0 hG
  obtain ⟨bqc0, bqc1⟩ := twob Kq.out
  have R0 := Lib.hid (HP.out.mono B.out)
  go_wp2_with fail
  refine (RG.out _ R0.out).mono ?_
  rintro e w1 ⟨rfl, hb⟩
  replace Kq := Lib.hid (Kq.out.below hb Kq.out.lt)
  replace R0 := Lib.hid (R0.out.mono hb)
  replace B := Lib.hid (B.out.trans (hb.mono B.out.size))
  clear bqc0 bqc1
  clear hb
  obtain ⟨bqc0, bqc1⟩ := twob Kq.out
  go_wp2_with fail
  refine (AD.out _ R0.out).mono ?_
  rintro e w2 ⟨⟨a1, c1, rfl, hr⟩, hb⟩
  have R1 := Lib.hid hr
  replace Kq := Lib.hid (Kq.out.below hb Kq.out.lt)
  replace R0 := Lib.hid (R0.out.mono hb)
  replace B := Lib.hid (B.out.trans (hb.mono B.out.size))
  clear bqc0 bqc1
  clear hb hr
  obtain ⟨bqc0, bqc1⟩ := twob Kq.out
  go_wp2_with fail
  refine (RAD.out _ R0.out).mono ?_
  rintro e w3 ⟨⟨a2, c2, rfl, hr⟩, hb⟩
  have R2 := Lib.hid hr
  replace Kq := Lib.hid (Kq.out.below hb Kq.out.lt)
  replace R0 := Lib.hid (R0.out.mono hb)
  replace R1 := Lib.hid (R1.out.mono hb)
  replace B := Lib.hid (B.out.trans (hb.mono B.out.size))
  clear bqc0 bqc1
  clear hb hr
  obtain ⟨bqc0, bqc1⟩ := twob Kq.out
  obtain ⟨gz, hgz⟩ : ∃ G, w3.heap.size = G := ⟨_, rfl⟩
  have Kz := Lib.hid (show Blk (w3.alloc (.cells #[.slice a2 M c2, .int .i64 0] 34)) gz 34 #[.slice a2 M c2, .int .i64 0] from Blk.new' w3 _ _ _ hgz rfl)
  have Nqz := Lib.hid (show G < gz from by rw [← hgz]; exact Kq.out.lt)
  replace Kq := Lib.hid (Kq.out.alloc (.cells #[.slice a2 M c2, .int .i64 0] 34))
  replace R0 := Lib.hid (R0.out.mono ((Below.refl _ w3).alloc (Nat.le_refl _) (.cells #[.slice a2 M c2, .int .i64 0] 34)))
  replace R1 := Lib.hid (R1.out.mono ((Below.refl _ w3).alloc (Nat.le_refl _) (.cells #[.slice a2 M c2, .int .i64 0] 34)))
  replace R2 := Lib.hid (R2.out.mono ((Below.refl _ w3).alloc (Nat.le_refl _) (.cells #[.slice a2 M c2, .int .i64 0] 34)))
  have Lz := Lib.hid (show w.heap.size ≤ gz from by rw [← hgz]; exact B.out.size)
  replace B := Lib.hid (B.out.alloc B.out.size (.cells #[.slice a2 M c2, .int .i64 0] 34))
  go_upto_region 5 with (fail)
  try rw [hgz]
  generalize hw : w3.alloc (.cells #[.slice a2 M c2, .int .i64 0] 34) = w4 at Kq Kz R0 R1 R2 B ⊢
  clear bqc0 bqc1
  clear hw hgz
  obtain ⟨bqc0, bqc1⟩ := twob Kq.out
  obtain ⟨bzc0, bzc1⟩ := twob Kz.out
  go_wp2_with fail
  refine (SM.out _ a1 a2 c1 c2 R1.out R2.out).mono ?_
  rintro e w5 ⟨rfl, hb⟩
  replace Kq := Lib.hid (Kq.out.below hb Kq.out.lt)
  replace Kz := Lib.hid (Kz.out.below hb Kz.out.lt)
  replace R0 := Lib.hid (R0.out.mono hb)
  replace R1 := Lib.hid (R1.out.mono hb)
  replace R2 := Lib.hid (R2.out.mono hb)
  replace B := Lib.hid (B.out.trans (hb.mono B.out.size))
  clear bqc0 bqc1 bzc0 bzc1
  clear hb
  obtain ⟨bqc0, bqc1⟩ := twob Kq.out
  obtain ⟨bzc0, bzc1⟩ := twob Kz.out
  go_wp2_with fail
  refine (RG1.out _ a1 c1 R1.out).mono ?_
  rintro e w6 ⟨rfl, hb⟩
  replace Kq := Lib.hid (Kq.out.below hb Kq.out.lt)
  replace Kz := Lib.hid (Kz.out.below hb Kz.out.lt)
  replace R0 := Lib.hid (R0.out.mono hb)
  replace R1 := Lib.hid (R1.out.mono hb)
  replace R2 := Lib.hid (R2.out.mono hb)
  replace B := Lib.hid (B.out.trans (hb.mono B.out.size))
  clear bqc0 bqc1 bzc0 bzc1
  clear hb
  obtain ⟨bqc0, bqc1⟩ := twob Kq.out
  obtain ⟨bzc0, bzc1⟩ := twob Kz.out
  go_wp2_with fail
  refine (CN.out _ a1 c1 R1.out).mono ?_
  rintro e w7 ⟨rfl, hb⟩
  replace Kq := Lib.hid (Kq.out.below hb Kq.out.lt)
  replace Kz := Lib.hid (Kz.out.below hb Kz.out.lt)
  replace R0 := Lib.hid (R0.out.mono hb)
  replace R1 := Lib.hid (R1.out.mono hb)
  replace R2 := Lib.hid (R2.out.mono hb)
  replace B := Lib.hid (B.out.trans (hb.mono B.out.size))
  clear bqc0 bqc1 bzc0 bzc1
  clear hb
  obtain ⟨bqc0, bqc1⟩ := twob Kq.out
  obtain ⟨bzc0, bzc1⟩ := twob Kz.out
  obtain ⟨gh, hgh⟩ : ∃ G, w7.heap.size = G := ⟨_, rfl⟩
  have Kh := Lib.hid (show Blk (w7.alloc (.cells #[.int .i64 g1, .int .i64 g2, .string g3, .int .i64 g4, .int .i64 g5] 24)) gh 24 #[.int .i64 g1, .int .i64 g2, .string g3, .int .i64 g4, .int .i64 g5] from Blk.new' w7 _ _ _ hgh rfl)
  have Nqh := Lib.hid (show G < gh from by rw [← hgh]; exact Kq.out.lt)
  replace Kq := Lib.hid (Kq.out.alloc (.cells #[.int .i64 g1, .int .i64 g2, .string g3, .int .i64 g4, .int .i64 g5] 24))
  have Nzh := Lib.hid (show gz < gh from by rw [← hgh]; exact Kz.out.lt)
  replace Kz := Lib.hid (Kz.out.alloc (.cells #[.int .i64 g1, .int .i64 g2, .string g3, .int .i64 g4, .int .i64 g5] 24))
  replace R0 := Lib.hid (R0.out.mono ((Below.refl _ w7).alloc (Nat.le_refl _) (.cells #[.int .i64 g1, .int .i64 g2, .string g3, .int .i64 g4, .int .i64 g5] 24)))
  replace R1 := Lib.hid (R1.out.mono ((Below.refl _ w7).alloc (Nat.le_refl _) (.cells #[.int .i64 g1, .int .i64 g2, .string g3, .int .i64 g4, .int .i64 g5] 24)))
  replace R2 := Lib.hid (R2.out.mono ((Below.refl _ w7).alloc (Nat.le_refl _) (.cells #[.int .i64 g1, .int .i64 g2, .string g3, .int .i64 g4, .int .i64 g5] 24)))
  have Lh := Lib.hid (show w.heap.size ≤ gh from by rw [← hgh]; exact B.out.size)
  replace B := Lib.hid (B.out.alloc B.out.size (.cells #[.int .i64 g1, .int .i64 g2, .string g3, .int .i64 g4, .int .i64 g5] 24))
  go_upto_region 10 with (fail)
  try rw [hgh]
  generalize hw : w7.alloc (.cells #[.int .i64 g1, .int .i64 g2, .string g3, .int .i64 g4, .int .i64 g5] 24) = w8 at Kq Kz Kh R0 R1 R2 B ⊢
  clear bqc0 bqc1 bzc0 bzc1
  clear hw hgh
  obtain ⟨bqc0, bqc1⟩ := twob Kq.out
  obtain ⟨bzc0, bzc1⟩ := twob Kz.out
  obtain ⟨bhc0, bhc1, bhc2, bhc3, bhc4⟩ := five Kh.out
  go_wp2_with fail
  refine (CO.out _ R0.out).mono ?_
  rintro e w9 ⟨rfl, hb⟩
  replace Kq := Lib.hid (Kq.out.below hb Kq.out.lt)
  replace Kz := Lib.hid (Kz.out.below hb Kz.out.lt)
  replace Kh := Lib.hid (Kh.out.below hb Kh.out.lt)
  replace R0 := Lib.hid (R0.out.mono hb)
  replace R1 := Lib.hid (R1.out.mono hb)
  replace R2 := Lib.hid (R2.out.mono hb)
  replace B := Lib.hid (B.out.trans (hb.mono B.out.size))
  clear bqc0 bqc1 bzc0 bzc1 bhc0 bhc1 bhc2 bhc3 bhc4
  clear hb
  obtain ⟨bqc0, bqc1⟩ := twob Kq.out
  obtain ⟨bzc0, bzc1⟩ := twob Kz.out
  obtain ⟨bhc0, bhc1, bhc2, bhc3, bhc4⟩ := five Kh.out
  obtain ⟨go, hgo⟩ : ∃ G, w9.heap.size = G := ⟨_, rfl⟩
  have Ko := Lib.hid (show Blk (w9.alloc (.cells #[.int .i64 o1, .int .i64 g2, .string o3, .int .i64 o4, .int .i64 o5] 24)) go 24 #[.int .i64 o1, .int .i64 g2, .string o3, .int .i64 o4, .int .i64 o5] from Blk.new' w9 _ _ _ hgo rfl)
  have Nqo := Lib.hid (show G < go from by rw [← hgo]; exact Kq.out.lt)
  replace Kq := Lib.hid (Kq.out.alloc (.cells #[.int .i64 o1, .int .i64 g2, .string o3, .int .i64 o4, .int .i64 o5] 24))
  have Nzo := Lib.hid (show gz < go from by rw [← hgo]; exact Kz.out.lt)
  replace Kz := Lib.hid (Kz.out.alloc (.cells #[.int .i64 o1, .int .i64 g2, .string o3, .int .i64 o4, .int .i64 o5] 24))
  have Nho := Lib.hid (show gh < go from by rw [← hgo]; exact Kh.out.lt)
  replace Kh := Lib.hid (Kh.out.alloc (.cells #[.int .i64 o1, .int .i64 g2, .string o3, .int .i64 o4, .int .i64 o5] 24))
  replace R0 := Lib.hid (R0.out.mono ((Below.refl _ w9).alloc (Nat.le_refl _) (.cells #[.int .i64 o1, .int .i64 g2, .string o3, .int .i64 o4, .int .i64 o5] 24)))
  replace R1 := Lib.hid (R1.out.mono ((Below.refl _ w9).alloc (Nat.le_refl _) (.cells #[.int .i64 o1, .int .i64 g2, .string o3, .int .i64 o4, .int .i64 o5] 24)))
  replace R2 := Lib.hid (R2.out.mono ((Below.refl _ w9).alloc (Nat.le_refl _) (.cells #[.int .i64 o1, .int .i64 g2, .string o3, .int .i64 o4, .int .i64 o5] 24)))
  have Lo := Lib.hid (show w.heap.size ≤ go from by rw [← hgo]; exact B.out.size)
  replace B := Lib.hid (B.out.alloc B.out.size (.cells #[.int .i64 o1, .int .i64 g2, .string o3, .int .i64 o4, .int .i64 o5] 24))
  go_upto_region 13 with (fail)
  try rw [hgo]
  generalize hw : w9.alloc (.cells #[.int .i64 o1, .int .i64 g2, .string o3, .int .i64 o4, .int .i64 o5] 24) = w10 at Kq Kz Kh Ko R0 R1 R2 B ⊢
  clear bqc0 bqc1 bzc0 bzc1 bhc0 bhc1 bhc2 bhc3 bhc4
  clear hw hgo
  obtain ⟨bqc0, bqc1⟩ := twob Kq.out
  obtain ⟨bzc0, bzc1⟩ := twob Kz.out
  obtain ⟨bhc0, bhc1, bhc2, bhc3, bhc4⟩ := five Kh.out
  obtain ⟨boc0, boc1, boc2, boc3, boc4⟩ := five Ko.out
  go_wp2_with fail
  refine (SNT.out _ (HLA.out.below B.out)).mono ?_
  rintro e w11 ⟨rfl, hb⟩
  replace Kq := Lib.hid (Kq.out.below hb Kq.out.lt)
  replace Kz := Lib.hid (Kz.out.below hb Kz.out.lt)
  replace Kh := Lib.hid (Kh.out.below hb Kh.out.lt)
  replace Ko := Lib.hid (Ko.out.below hb Ko.out.lt)
  replace R0 := Lib.hid (R0.out.mono hb)
  replace R1 := Lib.hid (R1.out.mono hb)
  replace R2 := Lib.hid (R2.out.mono hb)
  replace B := Lib.hid (B.out.trans (hb.mono B.out.size))
  clear bqc0 bqc1 bzc0 bzc1 bhc0 bhc1 bhc2 bhc3 bhc4 boc0 boc1 boc2 boc3 boc4
  clear hb
  obtain ⟨bqc0, bqc1⟩ := twob Kq.out
  obtain ⟨bzc0, bzc1⟩ := twob Kz.out
  obtain ⟨bhc0, bhc1, bhc2, bhc3, bhc4⟩ := five Kh.out
  obtain ⟨boc0, boc1, boc2, boc3, boc4⟩ := five Ko.out
  go_wp2
  go_ret
  exact ⟨rfl, B.out⟩
theorem law4 (a : Option Addr) (c : Nat) (l : List Rw) (p : Int) (sec : ByteArray) (at_ ov lo hi : Int) (w : World) (hp : RwA w a l) (hm : l.length ≤ 9223372036854775807) (hla : Hs.LaidC w) : Calls Tryd.prog 4 #[.slice a l.length c, .int .i64 p, .string sec, .int .i64 at_, .int .i64 ov, .agg #[.int .i64 lo, .int .i64 hi]] w fun e w' => e = .returned (.bool true) ∧ Below w.heap.size w w' := by
  by_cases h : 30 < l.length
  · exact law4_many a c l p sec at_ ov lo hi w hp hm hla h
  · cases hr : ringB l with
    | false => exact law4_noring a c l p sec at_ ov lo hi w hp hm hla h hr
    | true =>
      by_cases hz : 100 < sec.size
      · exact law4_long a c l p sec at_ ov lo hi w hp hm hla h hr hz
      · by_cases he : (rotL l p sec at_ ov).2 = 0
        · by_cases z1 : 0 ≤ lo
          · by_cases z2 : hi < lo
            · exact law4_c3 a c l p sec at_ ov lo hi w hp hm hla h hr hz he z1 z2
            · by_cases z3 : 1099511627776 ≤ hi
              · exact law4_c4 a c l p sec at_ ov lo hi w hp hm hla h hr hz he z1 z2 z3
              · by_cases z4 : at_ ≤ lo
                · exact law4_n1 a c l p sec at_ ov lo hi w hp hm hla h hr hz he z1 z2 z3 z4
                · by_cases z5 : at_ ≤ hi
                  · exact law4_n2 a c l p sec at_ ov lo hi w hp hm hla h hr hz he z1 z2 z3 z4 z5
                  · by_cases z6 : (curL l p lo hi).2 = 0
                    · exact law4_n4 a c l p sec at_ ov lo hi w hp hm hla h hr hz he z1 z2 z3 z4 z5 z6
                    · exact law4_n3 a c l p sec at_ ov lo hi w hp hm hla h hr hz he z1 z2 z3 z4 z5 z6
          · exact law4_c2 a c l p sec at_ ov lo hi w hp hm hla h hr hz he z1
        · exact law4_c1 a c l p sec at_ ov lo hi w hp hm hla h hr hz he
end Go.Proofs.YtcdcnklfcmoiiaaDoor
