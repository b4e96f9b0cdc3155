/- Law 3: a sketch begins as the specification says. -/
import Derived.Test.YtmmjkhamknfhpaaDoorS
import Derived.Test.YtmmjkhamknfhpaaDoorI
namespace Go.Proofs.YtmmjkhamknfhpaaDoor
set_option linter.unusedVariables false
set_option linter.unusedSimpArgs false
open Go.RowKit Go.Sort
set_option maxRecDepth 100000 in
set_option maxHeartbeats 2000000 in
theorem begins_ok (W S : Int) (X Y Z : Int) (ax : Option Addr) (cx : Nat) (lx : List Int) (key : ByteArray) (u : Nat) (w : World) (hp : IntsA w ax lx) (hm : lx.length ≤ 9223372036854775807)
    (b1 : -9223372036854775808 ≤ W) (b2 : W ≤ 9223372036854775807) (x1 : -9223372036854775808 ≤ X) (x2 : X ≤ 9223372036854775807) (hu : u < 256) (hla : LaidC w) (hlk : LaidK w) (h3 : lx.length ≤ 300) (hk : key.size ≤ 100) (ok : Ok X Y Z lx) :
    Calls Tryd.prog 3 #[.int .i64 W, .int .i64 S, .agg #[.int .i64 X, .int .i64 Y, .int .i64 Z, .slice ax lx.length cx], .string key, .int .u8 u] w fun e w' => e = .returned (.bool true) ∧ Below w.heap.size w w' := by
  obtain ⟨N, rfl, hW, hl⟩ := ok.nat3
  obtain ⟨P, Q, e, l, hlm, hn1, hn2⟩ := new_both W S b1 b2
  have N1 := Lib.hid hn1
  have N2 := Lib.hid hn2
  have SM := Lib.hid (fun (Y : World) (a1 a2 : Option Addr) (c1 c2 : Nat) (h1 : IntsA Y a1 l) (h2 : IntsA Y a2 l) => same_true P Q 0 a1 a2 c1 c2 l Y h1 h2 (by omega))
  have VR := Lib.hid (fun (Y' : World) (h : IntsA Y' ax lx) => validref_any N Y Z ax cx lx Y' h hm x1 x2)
  have VA := Lib.hid (fun (Y' : World) (h : IntsA Y' ax lx) => valid_any N Y Z ax cx lx Y' h hm x1 x2)
  have LA := Lib.hid hla
  have LK := Lib.hid hlk
  have HP := Lib.hid hp
  obtain ⟨m, hml⟩ : ∃ m, l.length = m := ⟨_, rfl⟩
  rw [hml] at N1 N2 SM
  have OK := Lib.hid ok
  have CA := Lib.hid (fun (X : World) (h : IntsA X ax lx) (h2 : LaidC X) => count_any N Y Z ax cx lx key X h hl (by omega) hW h2)
  have CB := Lib.hid (fun (X : World) (h : IntsA X ax lx) (h2 : LaidK X) => countref_any N Y Z ax cx lx key X h hl (by omega) hW h2)
  have FA := Lib.hid (fun (X : World) (h : IntsA X ax lx) => fill_any N Y Z ax cx lx X h (by omega))
  have FB := Lib.hid (fun (X : World) (h : IntsA X ax lx) => fillref_any N Y Z ax cx lx X h (by omega) (fun x hx => (ok.all x hx).1))
  obtain ⟨k, hkk⟩ : ∃ k, u % 4 = k := ⟨_, rfl⟩
  have k4 : k < 4 := by omega
  have PA := Lib.hid (fun (X : World) (h2 : LaidC X) => place_any key k N X (by omega) k4 hW h2)
  have PB := Lib.hid (fun (X : World) (h2 : LaidK X) => placeref_any key k N X (by omega) k4 hW h2)
  obtain ⟨n, hn⟩ : ∃ n, lx.length = n := ⟨_, rfl⟩
  rw [hn] at VR VA CA CB FA FB h3 ⊢
  obtain ⟨pp, hpp⟩ : ∃ x, pl key k % N = x := ⟨_, rfl⟩
  rw [hpp] at PA PB
  have um : ((u : Nat) : Int).tmod 4 = (k : Int) := by rw [Int.tmod_eq_emod_of_nonneg (by omega)]; omega
  have um2 : ((u : Nat) : Int) % 4 = (k : Int) := by omega
  have uw : IntKind.i64.wrap (u : Int) = (u : Int) := by rw [IntKind.wrap_i64]; omega
  have kw : IntKind.i64.wrap (k : Int) = (k : Int) := by rw [IntKind.wrap_i64]; omega
  have t1 : decide ((300 : Int) < (n : Int)) = false := decide_eq_false (by omega)
  have t2 : decide ((100 : Int) < (key.size : Int)) = false := decide_eq_false (by omega)
  clear hkk hpp hn hla hlk hp ok hn1 hn2 hml hlm hl hW
  go_enter Tryd.func3, Tryd.ntmps3
  go_wp2_with fail
  refine (N1.out _).mono ?_
  rintro r w1 ⟨⟨a1, p1, rfl, hi⟩, hb⟩
  have KX := Lib.hid (show Blk (w1.alloc (.cells #[.int .i64 P, .int .i64 Q, .int .i64 0, .slice a1 m p1] 24)) w.heap.size 24 #[.int .i64 N, .int .i64 Y, .int .i64 Z, .slice ax n cx] from ((Blk.new' w _ _ _ rfl rfl).below hb (by simp)).alloc _)
  have B := Lib.hid (let B' := bt (show Below w.heap.size w (w.alloc (.cells #[.int .i64 N, .int .i64 Y, .int .i64 Z, .slice ax n cx] 24)) by (repeat' (first | (with_reducible exact Below.refl _ _) | (with_reducible assumption) | (with_reducible refine Below.alloc ?_ ?_ _) | (with_reducible refine Below.drew ?_) | (with_reducible refine below_dn ?_) | (with_reducible refine Below.setCell ?_ ?_ _) | (with_reducible exact Nat.le_refl _) | omega | (simp only [World.size_alloc, World.size_setCell, World.size_drew]; omega) | (simp; omega) | (simp; done)))) hb; B'.alloc B'.size (.cells #[.int .i64 P, .int .i64 Q, .int .i64 0, .slice a1 m p1] 24))
  have I1 := Lib.hid (hi.mono (Below.alloc (Below.refl _ w1) (Nat.le_refl _) (.cells #[.int .i64 P, .int .i64 Q, .int .i64 0, .slice a1 m p1] 24)))
  obtain ⟨s11, hs11⟩ : ∃ s, w1.heap.size = s := ⟨_, rfl⟩
  have K11 := Lib.hid (show Blk (w1.alloc (.cells #[.int .i64 P, .int .i64 Q, .int .i64 0, .slice a1 m p1] 24)) s11 24 #[.int .i64 P, .int .i64 Q, .int .i64 0, .slice a1 m p1] from Blk.new' w1 _ _ _ hs11 rfl)
  clear hb hi N1
  go_wp2_with fail
  refine (N2.out _).mono ?_
  rintro r w2 ⟨⟨a2, p2, rfl, hi⟩, hb⟩
  replace KX := Lib.hid ((KX.out.below hb KX.out.lt).alloc (.cells #[.int .i64 P, .int .i64 Q, .int .i64 0, .slice a2 m p2, .int .i64 e] 30))
  replace K11 := Lib.hid ((K11.out.below hb K11.out.lt).alloc (.cells #[.int .i64 P, .int .i64 Q, .int .i64 0, .slice a2 m p2, .int .i64 e] 30))
  replace I1 := Lib.hid ((I1.out.mono hb).mono (Below.alloc (Below.refl _ w2) (Nat.le_refl _) (.cells #[.int .i64 P, .int .i64 Q, .int .i64 0, .slice a2 m p2, .int .i64 e] 30)))
  have I2 := Lib.hid (hi.mono (Below.alloc (Below.refl _ w2) (Nat.le_refl _) (.cells #[.int .i64 P, .int .i64 Q, .int .i64 0, .slice a2 m p2, .int .i64 e] 30)))
  replace B := Lib.hid (let B' := bt B.out hb; B'.alloc B'.size (.cells #[.int .i64 P, .int .i64 Q, .int .i64 0, .slice a2 m p2, .int .i64 e] 30))
  obtain ⟨s13, hs13⟩ : ∃ s, w2.heap.size = s := ⟨_, rfl⟩
  have K13 := Lib.hid (show Blk (w2.alloc (.cells #[.int .i64 P, .int .i64 Q, .int .i64 0, .slice a2 m p2, .int .i64 e] 30)) s13 30 #[.int .i64 P, .int .i64 Q, .int .i64 0, .slice a2 m p2, .int .i64 e] from Blk.new' w2 _ _ _ hs13 rfl)
  clear hb hi N2
  have d0 := KX.out.cell 0
  change _ = some (Value.int .i64 N) at d0
  have d1 := KX.out.cell 1
  change _ = some (Value.int .i64 Y) at d1
  have d2 := KX.out.cell 2
  change _ = some (Value.int .i64 Z) at d2
  have d3 := KX.out.cell 3
  change _ = some (Value.slice ax n cx) at d3
  go_wp2_with fail
  refine (VR.out _ (HP.out.mono B.out)).mono ?_
  rintro r w3 ⟨⟨b, rfl, hb0⟩, hb⟩
  obtain rfl : b = true := hb0.2 OK.out
  replace KX := Lib.hid (KX.out.below hb KX.out.lt)
  replace K11 := Lib.hid (K11.out.below hb K11.out.lt)
  replace K13 := Lib.hid (K13.out.below hb K13.out.lt)
  replace I1 := Lib.hid (I1.out.mono hb)
  replace I2 := Lib.hid (I2.out.mono hb)
  replace B := Lib.hid (bt B.out hb)
  clear hb hb0 VR d0 d1 d2 d3
  have d0 := KX.out.cell 0
  change _ = some (Value.int .i64 N) at d0
  have d1 := KX.out.cell 1
  change _ = some (Value.int .i64 Y) at d1
  have d2 := KX.out.cell 2
  change _ = some (Value.int .i64 Z) at d2
  have d3 := KX.out.cell 3
  change _ = some (Value.slice ax n cx) at d3
  have h0 := K11.out.cell 0
  change _ = some (Value.int .i64 P) at h0
  have h1 := K11.out.cell 1
  change _ = some (Value.int .i64 Q) at h1
  have h2 := K11.out.cell 2
  change _ = some (Value.int .i64 0) at h2
  have h3 := K11.out.cell 3
  change _ = some (Value.slice a1 m p1) at h3
  have j0 := K13.out.cell 0
  change _ = some (Value.int .i64 P) at j0
  have j1 := K13.out.cell 1
  change _ = some (Value.int .i64 Q) at j1
  have j2 := K13.out.cell 2
  change _ = some (Value.int .i64 0) at j2
  have j3 := K13.out.cell 3
  change _ = some (Value.slice a2 m p2) at j3
  have j4 := K13.out.cell 4
  change _ = some (Value.int .i64 e) at j4
  go_wp2_with fail
  refine (SM.out _ _ _ _ _ I1.out I2.out).mono ?_
  rintro r w4 ⟨rfl, hb⟩
  replace KX := Lib.hid (KX.out.below hb KX.out.lt)
  replace B := Lib.hid (bt B.out hb)
  clear hb SM d0 d1 d2 d3 h0 h1 h2 h3 j0 j1 j2 j3 j4 K11 K13 I1 I2
  have d0 := KX.out.cell 0
  change _ = some (Value.int .i64 N) at d0
  have d1 := KX.out.cell 1
  change _ = some (Value.int .i64 Y) at d1
  have d2 := KX.out.cell 2
  change _ = some (Value.int .i64 Z) at d2
  have d3 := KX.out.cell 3
  change _ = some (Value.slice ax n cx) at d3
  go_wp2_with fail
  refine (VA.out _ (HP.out.mono B.out)).mono ?_
  rintro r w5 ⟨⟨b, rfl, hb0⟩, hb⟩
  obtain rfl : b = true := hb0.2 OK.out
  replace KX := Lib.hid (KX.out.below hb KX.out.lt)
  replace B := Lib.hid (bt B.out hb)
  clear hb hb0 VA d0 d1 d2 d3
  go_wp2_with fail
  have LA2 := Lib.hid (LA.out.mono B.out)
  have LK2 := Lib.hid (LK.out.mono B.out)
  have IX := Lib.hid (HP.out.mono B.out)
  have d0 := KX.out.cell 0
  change _ = some (Value.int .i64 N) at d0
  have d1 := KX.out.cell 1
  change _ = some (Value.int .i64 Y) at d1
  have d2 := KX.out.cell 2
  change _ = some (Value.int .i64 Z) at d2
  have d3 := KX.out.cell 3
  change _ = some (Value.slice ax n cx) at d3
  have QS := Lib.hid (fun (d : Nat) (os : Array Obj) => sane (grow (redrawn w5 d) os) (LA2.out.mono (below_regrown _ _ _)))
  have Q1 := Lib.hid (fun (d : Nat) (os : Array Obj) => CA.out (grow (redrawn w5 d) os) (IX.out.mono (below_regrown _ _ _)) (LA2.out.mono (below_regrown _ _ _)))
  have Q2 := Lib.hid (fun (d : Nat) (os : Array Obj) => CB.out (grow (redrawn w5 d) os) (IX.out.mono (below_regrown _ _ _)) (LK2.out.mono (below_regrown _ _ _)))
  have Q3 := Lib.hid (fun (d : Nat) (os : Array Obj) => FA.out (grow (redrawn w5 d) os) (IX.out.mono (below_regrown _ _ _)))
  have Q4 := Lib.hid (fun (d : Nat) (os : Array Obj) => FB.out (grow (redrawn w5 d) os) (IX.out.mono (below_regrown _ _ _)))
  have Q5 := Lib.hid (fun (d : Nat) (os : Array Obj) => PA.out (grow (redrawn w5 d) os) (LA2.out.mono (below_regrown _ _ _)))
  have Q6 := Lib.hid (fun (d : Nat) (os : Array Obj) => PB.out (grow (redrawn w5 d) os) (LK2.out.mono (below_regrown _ _ _)))
  have gc := grow_cell3
  have zx := KX.out.lt
  refine wp_region_quiet_below (by kernel_rfl) (by kernel_rfl) ?_
  repeat (go_big_quiet_step (first | (with_reducible exact Calls.regrown_of (QS.out _ _)) | (with_reducible exact Calls.regrown_of (Q1.out _ _)) | (with_reducible exact Calls.regrown_of (Q2.out _ _)) | (with_reducible exact Calls.regrown_of (Q3.out _ _)) | (with_reducible exact Calls.regrown_of (Q4.out _ _)) | (with_reducible exact Calls.regrown_of (Q5.out _ _)) | (with_reducible exact Calls.regrown_of (Q6.out _ _))))
  refine wpQuiet_nil ?_
  intro w9 hw'
  obtain ⟨⟨dq, osq⟩, hw''⟩ := hw'
  have hb := below_of_grow3 hw''
  replace B := Lib.hid (bt B.out hb)
  clear hw'' hb gc
  go_wp2_with fail
  go_ret
  exact ⟨rfl, B.out⟩
set_option maxRecDepth 100000 in
set_option maxHeartbeats 2000000 in
theorem begins_law (W S : Int) (X Y Z : Int) (ax : Option Addr) (cx : Nat) (lx : List Int) (key : ByteArray) (u : Nat) (w : World) (hp : IntsA w ax lx) (hm : lx.length ≤ 9223372036854775807)
    (b1 : -9223372036854775808 ≤ W) (b2 : W ≤ 9223372036854775807) (x1 : -9223372036854775808 ≤ X) (x2 : X ≤ 9223372036854775807) (hu : u < 256) (hla : LaidC w) (hlk : LaidK w) (hk : key.size ≤ 9223372036854775807) :
    Calls Tryd.prog 3 #[.int .i64 W, .int .i64 S, .agg #[.int .i64 X, .int .i64 Y, .int .i64 Z, .slice ax lx.length cx], .string key, .int .u8 u] w fun e w' => e = .returned (.bool true) ∧ Below w.heap.size w w' := by
  by_cases hall : lx.length ≤ 300 ∧ key.size ≤ 100 ∧ Ok X Y Z lx
  · exact begins_ok W S X Y Z ax cx lx key u w hp hm b1 b2 x1 x2 hu hla hlk hall.1 hall.2.1 hall.2.2
  obtain ⟨P, Q, e, l, hlm, hn1, hn2⟩ := new_both W S b1 b2
  have N1 := Lib.hid hn1
  have N2 := Lib.hid hn2
  have SM := Lib.hid (fun (Y : World) (a1 a2 : Option Addr) (c1 c2 : Nat) (h1 : IntsA Y a1 l) (h2 : IntsA Y a2 l) => same_true P Q 0 a1 a2 c1 c2 l Y h1 h2 (by omega))
  have VR := Lib.hid (fun (Y' : World) (h : IntsA Y' ax lx) => validref_any X Y Z ax cx lx Y' h hm x1 x2)
  have VA := Lib.hid (fun (Y' : World) (h : IntsA Y' ax lx) => valid_any X Y Z ax cx lx Y' h hm x1 x2)
  have LA := Lib.hid hla
  have LK := Lib.hid hlk
  have HP := Lib.hid hp
  obtain ⟨m, hml⟩ : ∃ m, l.length = m := ⟨_, rfl⟩
  rw [hml] at N1 N2 SM
  have SA := Lib.hid (fun (X : World) (h : LaidC X) => sane X h)
  obtain ⟨n, hn⟩ : ∃ n, lx.length = n := ⟨_, rfl⟩
  rw [hn] at VR VA hm hall ⊢
  have G0 := Lib.hid (show Below w.heap.size w (w.alloc (.cells #[.int .i64 X, .int .i64 Y, .int .i64 Z, .slice ax n cx] 24)) by (repeat' (first | (with_reducible exact Below.refl _ _) | (with_reducible assumption) | (with_reducible refine Below.alloc ?_ ?_ _) | (with_reducible refine Below.drew ?_) | (with_reducible refine below_dn ?_) | (with_reducible refine Below.setCell ?_ ?_ _) | (with_reducible exact Nat.le_refl _) | omega | (simp only [World.size_alloc, World.size_setCell, World.size_drew]; omega) | (simp; omega) | (simp; done))))
  clear hla hlk hp hn1 hn2 hml hlm hn
  by_cases h1 : n ≤ 300
  · have t1 : decide ((300 : Int) < (n : Int)) = false := decide_eq_false (by omega)
    by_cases h2 : key.size ≤ 100
    · have t2 : decide ((100 : Int) < (key.size : Int)) = false := decide_eq_false (by omega)
      have OK := Lib.hid (show ¬ Ok X Y Z lx from fun h => hall ⟨h1, h2, h⟩)
      clear hall
      go_enter Tryd.func3, Tryd.ntmps3
      go_wp2_with fail
      refine (N1.out _).mono ?_
      rintro r w1 ⟨⟨a1, p1, rfl, hi⟩, hb⟩
      have KX := Lib.hid (show Blk (w1.alloc (.cells #[.int .i64 P, .int .i64 Q, .int .i64 0, .slice a1 m p1] 24)) w.heap.size 24 #[.int .i64 X, .int .i64 Y, .int .i64 Z, .slice ax n cx] from ((Blk.new' w _ _ _ rfl rfl).below hb (by simp)).alloc _)
      have B := Lib.hid (let B' := bt (show Below w.heap.size w (w.alloc (.cells #[.int .i64 X, .int .i64 Y, .int .i64 Z, .slice ax n cx] 24)) by (repeat' (first | (with_reducible exact Below.refl _ _) | (with_reducible assumption) | (with_reducible refine Below.alloc ?_ ?_ _) | (with_reducible refine Below.drew ?_) | (with_reducible refine below_dn ?_) | (with_reducible refine Below.setCell ?_ ?_ _) | (with_reducible exact Nat.le_refl _) | omega | (simp only [World.size_alloc, World.size_setCell, World.size_drew]; omega) | (simp; omega) | (simp; done)))) hb; B'.alloc B'.size (.cells #[.int .i64 P, .int .i64 Q, .int .i64 0, .slice a1 m p1] 24))
      have I1 := Lib.hid (hi.mono (Below.alloc (Below.refl _ w1) (Nat.le_refl _) (.cells #[.int .i64 P, .int .i64 Q, .int .i64 0, .slice a1 m p1] 24)))
      obtain ⟨s11, hs11⟩ : ∃ s, w1.heap.size = s := ⟨_, rfl⟩
      have K11 := Lib.hid (show Blk (w1.alloc (.cells #[.int .i64 P, .int .i64 Q, .int .i64 0, .slice a1 m p1] 24)) s11 24 #[.int .i64 P, .int .i64 Q, .int .i64 0, .slice a1 m p1] from Blk.new' w1 _ _ _ hs11 rfl)
      clear hb hi N1
      go_wp2_with fail
      refine (N2.out _).mono ?_
      rintro r w2 ⟨⟨a2, p2, rfl, hi⟩, hb⟩
      replace KX := Lib.hid ((KX.out.below hb KX.out.lt).alloc (.cells #[.int .i64 P, .int .i64 Q, .int .i64 0, .slice a2 m p2, .int .i64 e] 30))
      replace K11 := Lib.hid ((K11.out.below hb K11.out.lt).alloc (.cells #[.int .i64 P, .int .i64 Q, .int .i64 0, .slice a2 m p2, .int .i64 e] 30))
      replace I1 := Lib.hid ((I1.out.mono hb).mono (Below.alloc (Below.refl _ w2) (Nat.le_refl _) (.cells #[.int .i64 P, .int .i64 Q, .int .i64 0, .slice a2 m p2, .int .i64 e] 30)))
      have I2 := Lib.hid (hi.mono (Below.alloc (Below.refl _ w2) (Nat.le_refl _) (.cells #[.int .i64 P, .int .i64 Q, .int .i64 0, .slice a2 m p2, .int .i64 e] 30)))
      replace B := Lib.hid (let B' := bt B.out hb; B'.alloc B'.size (.cells #[.int .i64 P, .int .i64 Q, .int .i64 0, .slice a2 m p2, .int .i64 e] 30))
      obtain ⟨s13, hs13⟩ : ∃ s, w2.heap.size = s := ⟨_, rfl⟩
      have K13 := Lib.hid (show Blk (w2.alloc (.cells #[.int .i64 P, .int .i64 Q, .int .i64 0, .slice a2 m p2, .int .i64 e] 30)) s13 30 #[.int .i64 P, .int .i64 Q, .int .i64 0, .slice a2 m p2, .int .i64 e] from Blk.new' w2 _ _ _ hs13 rfl)
      clear hb hi N2
      have d0 := KX.out.cell 0
      change _ = some (Value.int .i64 X) at d0
      have d1 := KX.out.cell 1
      change _ = some (Value.int .i64 Y) at d1
      have d2 := KX.out.cell 2
      change _ = some (Value.int .i64 Z) at d2
      have d3 := KX.out.cell 3
      change _ = some (Value.slice ax n cx) at d3
      go_wp2_with fail
      refine (VR.out _ (HP.out.mono B.out)).mono ?_
      rintro r w3 ⟨⟨b, rfl, hb0⟩, hb⟩
      obtain rfl : b = false := by
        cases b
        · rfl
        · exact absurd (hb0.1 rfl) OK.out
      replace KX := Lib.hid (KX.out.below hb KX.out.lt)
      replace K11 := Lib.hid (K11.out.below hb K11.out.lt)
      replace K13 := Lib.hid (K13.out.below hb K13.out.lt)
      replace I1 := Lib.hid (I1.out.mono hb)
      replace I2 := Lib.hid (I2.out.mono hb)
      replace B := Lib.hid (bt B.out hb)
      clear hb hb0 VR d0 d1 d2 d3
      have d0 := KX.out.cell 0
      change _ = some (Value.int .i64 X) at d0
      have d1 := KX.out.cell 1
      change _ = some (Value.int .i64 Y) at d1
      have d2 := KX.out.cell 2
      change _ = some (Value.int .i64 Z) at d2
      have d3 := KX.out.cell 3
      change _ = some (Value.slice ax n cx) at d3
      have h0 := K11.out.cell 0
      change _ = some (Value.int .i64 P) at h0
      have h1 := K11.out.cell 1
      change _ = some (Value.int .i64 Q) at h1
      have h2 := K11.out.cell 2
      change _ = some (Value.int .i64 0) at h2
      have h3 := K11.out.cell 3
      change _ = some (Value.slice a1 m p1) at h3
      have j0 := K13.out.cell 0
      change _ = some (Value.int .i64 P) at j0
      have j1 := K13.out.cell 1
      change _ = some (Value.int .i64 Q) at j1
      have j2 := K13.out.cell 2
      change _ = some (Value.int .i64 0) at j2
      have j3 := K13.out.cell 3
      change _ = some (Value.slice a2 m p2) at j3
      have j4 := K13.out.cell 4
      change _ = some (Value.int .i64 e) at j4
      go_wp2_with fail
      refine (SM.out _ _ _ _ _ I1.out I2.out).mono ?_
      rintro r w4 ⟨rfl, hb⟩
      replace KX := Lib.hid (KX.out.below hb KX.out.lt)
      replace B := Lib.hid (bt B.out hb)
      clear hb SM d0 d1 d2 d3 h0 h1 h2 h3 j0 j1 j2 j3 j4 K11 K13 I1 I2
      have d0 := KX.out.cell 0
      change _ = some (Value.int .i64 X) at d0
      have d1 := KX.out.cell 1
      change _ = some (Value.int .i64 Y) at d1
      have d2 := KX.out.cell 2
      change _ = some (Value.int .i64 Z) at d2
      have d3 := KX.out.cell 3
      change _ = some (Value.slice ax n cx) at d3
      go_wp2_with fail
      refine (VA.out _ (HP.out.mono B.out)).mono ?_
      rintro r w5 ⟨⟨b, rfl, hb0⟩, hb⟩
      obtain rfl : b = false := by
        cases b
        · rfl
        · exact absurd (hb0.1 rfl) OK.out
      replace KX := Lib.hid (KX.out.below hb KX.out.lt)
      replace B := Lib.hid (bt B.out hb)
      clear hb hb0 VA d0 d1 d2 d3
      go_wp2_with fail
      refine (SA.out _ (LA.out.mono B.out)).mono ?_
      rintro e w9 ⟨rfl, hb⟩
      replace B := Lib.hid (bt B.out hb)
      clear hb
      go_wp2_with fail
      go_ret
      exact ⟨rfl, B.out⟩
    · have t2 : decide ((100 : Int) < (key.size : Int)) = true := decide_eq_true (by omega)
      clear hall
      go_enter Tryd.func3, Tryd.ntmps3
      go_wp2_with fail
      have B := G0
      refine (SA.out _ (LA.out.mono B.out)).mono ?_
      rintro e w9 ⟨rfl, hb⟩
      replace B := Lib.hid (bt B.out hb)
      clear hb
      go_wp2_with fail
      go_ret
      exact ⟨rfl, B.out⟩
  · have t1 : decide ((300 : Int) < (n : Int)) = true := decide_eq_true (by omega)
    clear hall
    go_enter Tryd.func3, Tryd.ntmps3
    go_wp2_with fail
    have B := G0
    refine (SA.out _ (LA.out.mono B.out)).mono ?_
    rintro e w9 ⟨rfl, hb⟩
    replace B := Lib.hid (bt B.out hb)
    clear hb
    go_wp2_with fail
    go_ret
    exact ⟨rfl, B.out⟩
end Go.Proofs.YtmmjkhamknfhpaaDoor
