import Derived.Test.YteblnmhaohbkkaaDoorRLeN
import Derived.Test.YteblnmhaohbkkaaDoorRBI
import Derived.Deep.CutRange
namespace Go.Proofs.YteblnmhaohbkkaaDoor
set_option linter.unusedVariables false
set_option linter.unusedSimpArgs false
set_option linter.unusedSectionVars false
namespace Le
open Go.RowKit
theorem dead_step (l : List Gr) (e : Int) (k : Nat) : deadK l e (k + 1) = if (l.getD k g0).2.1 < e then max (deadK l e k) (l.getD k g0).2.2 else deadK l e k := rfl
set_option maxRecDepth 100000 in
set_option maxHeartbeats 2000000 in
theorem deadline_ok (la mo : Int) (a : Option Addr) (c : Nat) (l : List Gr) (ep : Int) (w : World) (hp : GrA w a l) (hm : l.length ≤ 1000000) (ok : GsOk la mo l) (he : 1 ≤ ep ∧ ep ≤ la) :
    Calls Tryd.prog 12 #[.agg #[.int .i64 la, .int .i64 mo, .slice a l.length c], .int .i64 ep] w fun e w' => e = .returned (.tuple #[.int .i64 (deadK l ep l.length), .int .i64 0]) ∧ Below w.heap.size w w' := by
  have HP := Lib.hid hp
  have VA := Lib.hid (fun (X : World) (h : GrA X a l) => valid_any la mo a c l X h (by omega))
  have ev : validB la mo l = true := decide_eq_true ok
  rw [ev] at VA
  have FW := Lib.hid ok.few
  have WI := Lib.hid (fun (X : World) => within_yes he X)
  have DS := Lib.hid (fun (k : Nat) => dead_step l ep k)
  obtain ⟨N, hN⟩ : ∃ N, l.length = N := ⟨_, rfl⟩
  have HE := Lib.hid hN
  simp only [hN] at VA
  rw [hN]
  rw [hN] at FW
  clear hp hN hm ev ok he
  go_enter Tryd.func12, Tryd.ntmps12
  obtain ⟨G, hG⟩ : ∃ G, w.heap.size = G := ⟨_, rfl⟩
  have HG := Lib.hid hG
  obtain ⟨w0, hw0, Kg, B⟩ : ∃ X, (w.alloc (.cells #[.int .i64 la, .int .i64 mo, .slice a N c] 24)) = X ∧ Hid (Blk X (G) 24 #[.int .i64 la, .int .i64 mo, .slice a N c]) ∧ Hid (Below w.heap.size w X) := ⟨_, rfl, Lib.hid (Blk.new' _ _ _ _ hG rfl), Lib.hid (by (repeat' (first | (with_reducible exact Below.refl _ _) | (with_reducible assumption) | (with_reducible refine Below.alloc ?_ ?_ _) | (with_reducible refine Below.drew ?_) | (with_reducible refine below_dn ?_) | (with_reducible refine Below.setCell ?_ ?_ _) | (with_reducible exact Nat.le_refl _) | omega | (simp only [World.size_alloc, World.size_setCell, World.size_drew]; omega) | (simp; omega) | (simp; done))))⟩
  go_upto_region 1 with (fail)
  try rw [hG]
  try rw [hw0]
  clear hw0 hG
  obtain ⟨bgc0, bgc1, bgc2⟩ := three Kg.out
  have fzg := fun q => Kg.out.frozen q
  go_wp2_with fail
  refine (VA.out _ (HP.out.mono B.out)).mono ?_
  rintro e w1 ⟨rfl, hb⟩
  replace Kg := Lib.hid (Kg.out.below hb Kg.out.lt)
  replace B := Lib.hid (B.out.trans (hb.mono B.out.size))
  clear bgc0 bgc1 bgc2 fzg
  clear hb
  obtain ⟨bgc0, bgc1, bgc2⟩ := three Kg.out
  clear bgc0 bgc1 bgc2
  obtain ⟨bgc0, bgc1, bgc2⟩ := three Kg.out
  have fzg := fun q => Kg.out.frozen q
  go_wp2_with fail
  refine (WI.out _).mono ?_
  rintro e wz ⟨rfl, rfl⟩
  clear bgc0 bgc1 bgc2 fzg
  obtain ⟨bgc0, bgc1, bgc2⟩ := three Kg.out
  have fzg := fun q => Kg.out.frozen q
  go_wp2
  go_loopw [22, 6, 8] (fun u22 u6 _ wr => ∃ k : Nat, k ≤ N ∧ u22 = .int .i64 k ∧ u6 = .int .i64 (deadK l ep k) ∧ Hid (Blk wr G 24 #[.int .i64 la, .int .i64 mo, .slice a N c]) ∧ Hid (Below w.heap.size w wr)) (fun u22 _ _ _ => (N - intOf u22).toNat)
  case atStart => exact ⟨0, by omega, rfl, rfl, Kg, B⟩
  case round =>
    clear Kg B bgc0 bgc1 bgc2 fzg
    obtain ⟨k, hk, rfl, rfl, Kg, B⟩ := hrel
    by_cases hlt : k < N
    · have t0 : decide ((k : Int) < (N : Int)) = true := decide_eq_true (by omega)
      have wk : IntKind.i64.wrap ((k : Int) + 1) = (k : Int) + 1 := by have := FW.out; rw [IntKind.wrap_i64]; omega
      obtain ⟨b, off, rfl, q0, q1, q2⟩ := at_ (HP.out.mono B.out) (k := k) (by rw [HE.out]; exact hlt)
      have D2 := DS.out k
      obtain ⟨x, hx⟩ : ∃ y, l.getD k g0 = y := ⟨_, rfl⟩
      rw [hx] at q0 q1 q2 D2
      obtain ⟨x1, x2, x3⟩ := x
      simp only at q0 q1 q2 D2
      obtain ⟨dk, hdk⟩ : ∃ y, deadK l ep k = y := ⟨_, rfl⟩
      rw [hdk] at D2 ⊢
      have DD := Lib.hid D2
      clear hx hdk D2
      have k0 : (0 : Int) ≤ (k : Int) := by omega
      have kN : (k : Int) < (N : Int) := by omega
      obtain ⟨g, hg⟩ : ∃ g, wr.heap.size = g := ⟨_, rfl⟩
      have KX := Lib.hid (show Blk (wr.alloc (.cells #[.int .i64 x1, .int .i64 x2, .int .i64 x3] 88)) g 88 #[.int .i64 x1, .int .i64 x2, .int .i64 x3] from Blk.new' wr _ _ _ hg rfl)
      replace Kg := Lib.hid (Kg.out.alloc (.cells #[.int .i64 x1, .int .i64 x2, .int .i64 x3] 88))
      replace B := Lib.hid (B.out.alloc B.out.size (.cells #[.int .i64 x1, .int .i64 x2, .int .i64 x3] 88))
      go_upto_region 7 with (fail)
      try rw [hg]
      generalize hwx : wr.alloc (.cells #[.int .i64 x1, .int .i64 x2, .int .i64 x3] 88) = wx at KX Kg B  ⊢
      clear hwx hg q0 q1 q2
      obtain ⟨b0, b1, b2⟩ := three Kg.out
      obtain ⟨d0, d1, d2⟩ := three KX.out
      by_cases h2 : x2 < ep
      · have t2 : decide (x2 < ep) = true := decide_eq_true h2
        have DE := Lib.hid (show deadK l ep (k + 1) = max dk x3 by rw [DD.out, if_pos h2])
        clear h2
        go_wp2
        go_roundw
        case rel => exact ⟨k + 1, by omega, by go_num, by rw [DE.out], Kg, B⟩
        case measure => simp [intOf]; omega
    
      · have t2 : decide (x2 < ep) = false := decide_eq_false h2
        have DE := Lib.hid (show deadK l ep (k + 1) = dk by rw [DD.out, if_neg h2])
        clear h2
        go_wp2
        go_roundw
        case rel => exact ⟨k + 1, by omega, by go_num, by rw [DE.out], Kg, B⟩
        case measure => simp [intOf]; omega
    · have hkN : N = k := by omega
      subst hkN
      have t0 : decide ((N : Int) < (N : Int)) = false := decide_eq_false (by omega)
      clear hlt hk
      go_wp2
      go_ret2
      exact ⟨rfl, B.out⟩
set_option maxRecDepth 100000 in
set_option maxHeartbeats 2000000 in
theorem waiting_ok (la mo : Int) (a : Option Addr) (c : Nat) (l : List Gr) (ep lo hi : Int) (w : World) (hp : GrA w a l) (hm : l.length ≤ 1000000) (ok : GsOk la mo l) (he : 1 ≤ ep ∧ ep ≤ la) (hq : perB lo hi = true) :
    Calls Tryd.prog 13 #[.agg #[.int .i64 la, .int .i64 mo, .slice a l.length c], .int .i64 ep, per lo hi] w fun e w' => (∃ a' c', e = .returned (.tuple #[.slice a' (waitK l ep lo l.length).length c', .int .i64 0]) ∧ IntsA w' a' (waitK l ep lo l.length) ∧ ∀ p, a' = some p → w.heap.size ≤ p.block) ∧ Below w.heap.size w w' := by
  have HP := Lib.hid hp
  have VA := Lib.hid (fun (X : World) (h : GrA X a l) => valid_any la mo a c l X h (by omega))
  have ev : validB la mo l = true := decide_eq_true ok
  rw [ev] at VA
  have FW := Lib.hid ok.few
  have WI := Lib.hid (fun (X : World) => within_yes he X)
  have PE := Lib.hid (fun (X : World) => period_any lo hi X)
  rw [hq] at PE
  have DS := Lib.hid (fun (k : Nat) => wait_step l ep lo k)
  obtain ⟨N, hN⟩ : ∃ N, l.length = N := ⟨_, rfl⟩
  have HE := Lib.hid hN
  simp only [hN] at VA
  rw [hN]
  rw [hN] at FW
  clear hp hN hm ev ok he hq
  go_enter Tryd.func13, Tryd.ntmps13
  obtain ⟨G, hG⟩ : ∃ G, w.heap.size = G := ⟨_, rfl⟩
  have HG := Lib.hid hG
  obtain ⟨w0, hw0, Kg, Kp, B⟩ : ∃ X, ((w.alloc (.cells #[.int .i64 la, .int .i64 mo, .slice a N c] 24)).alloc (.cells #[.int .i64 lo, .int .i64 hi] 28)) = X ∧ Hid (Blk X (G) 24 #[.int .i64 la, .int .i64 mo, .slice a N c]) ∧ Hid (Blk X (G + 1) 28 #[.int .i64 lo, .int .i64 hi]) ∧ Hid (Below w.heap.size w X) := ⟨_, rfl, Lib.hid ((Blk.new' _ _ _ _ hG rfl).alloc _), Lib.hid (Blk.new' _ _ _ _ (by rw [World.size_alloc, hG]) rfl), Lib.hid (by (repeat' (first | (with_reducible exact Below.refl _ _) | (with_reducible assumption) | (with_reducible refine Below.alloc ?_ ?_ _) | (with_reducible refine Below.drew ?_) | (with_reducible refine below_dn ?_) | (with_reducible refine Below.setCell ?_ ?_ _) | (with_reducible exact Nat.le_refl _) | omega | (simp only [World.size_alloc, World.size_setCell, World.size_drew]; omega) | (simp; omega) | (simp; done))))⟩
  go_upto_region 1 with (fail)
  try rw [hG]
  try rw [hw0]
  clear hw0 hG
  obtain ⟨bgc0, bgc1, bgc2⟩ := three Kg.out
  obtain ⟨bpc0, bpc1⟩ := twob Kp.out
  have fzg := fun q => Kg.out.frozen q
  have fzp := fun q => Kp.out.frozen q
  go_wp2_with fail
  refine (VA.out _ (HP.out.mono B.out)).mono ?_
  rintro e w1 ⟨rfl, hb⟩
  replace Kg := Lib.hid (Kg.out.below hb Kg.out.lt)
  replace Kp := Lib.hid (Kp.out.below hb Kp.out.lt)
  replace B := Lib.hid (B.out.trans (hb.mono B.out.size))
  clear bgc0 bgc1 bgc2 bpc0 bpc1 fzg fzp
  clear hb
  obtain ⟨bgc0, bgc1, bgc2⟩ := three Kg.out
  obtain ⟨bpc0, bpc1⟩ := twob Kp.out
  clear bgc0 bgc1 bgc2 bpc0 bpc1
  obtain ⟨bgc0, bgc1, bgc2⟩ := three Kg.out
  obtain ⟨bpc0, bpc1⟩ := twob Kp.out
  have fzg := fun q => Kg.out.frozen q
  have fzp := fun q => Kp.out.frozen q
  go_wp2_with fail
  refine (WI.out _).mono ?_
  rintro e wz ⟨rfl, rfl⟩
  go_wp2_with fail
  refine (PE.out _).mono ?_
  rintro e w2 ⟨rfl, hb⟩
  replace Kg := Lib.hid (Kg.out.below hb Kg.out.lt)
  replace Kp := Lib.hid (Kp.out.below hb Kp.out.lt)
  replace B := Lib.hid (B.out.trans (hb.mono B.out.size))
  clear bgc0 bgc1 bgc2 bpc0 bpc1 fzg fzp
  clear hb
  obtain ⟨bgc0, bgc1, bgc2⟩ := three Kg.out
  obtain ⟨bpc0, bpc1⟩ := twob Kp.out
  clear bgc0 bgc1 bgc2 bpc0 bpc1
  obtain ⟨bgc0, bgc1, bgc2⟩ := three Kg.out
  obtain ⟨bpc0, bpc1⟩ := twob Kp.out
  have fzg := fun q => Kg.out.frozen q
  have fzp := fun q => Kp.out.frozen q
  go_wp2
  have OW := Lib.hid (OwnI.nil w2 (G + 2))
  go_loopw [29, 8, 10] (fun u29 u8 _ wr => ∃ k : Nat, k ≤ N ∧ u29 = .int .i64 k ∧ Hid (OwnI wr (G + 2) u8 (waitK l ep lo k)) ∧ Hid (Blk wr G 24 #[.int .i64 la, .int .i64 mo, .slice a N c]) ∧ Hid (Blk wr (G + 1) 28 #[.int .i64 lo, .int .i64 hi]) ∧ Hid (Below w.heap.size w wr)) (fun u29 _ _ _ => (N - intOf u29).toNat)
  case atStart => exact ⟨0, by omega, rfl, OW, Kg, Kp, B⟩
  case round =>
    clear Kg Kp B OW bgc0 bgc1 bgc2 bpc0 bpc1 fzg fzp
    obtain ⟨k, hk, rfl, OW, Kg, Kp, B⟩ := hrel
    by_cases hlt : k < N
    · have t0 : decide ((k : Int) < (N : Int)) = true := decide_eq_true (by omega)
      have wk : IntKind.i64.wrap ((k : Int) + 1) = (k : Int) + 1 := by have := FW.out; rw [IntKind.wrap_i64]; omega
      obtain ⟨b, off, rfl, q0, q1, q2⟩ := at_ (HP.out.mono B.out) (k := k) (by rw [HE.out]; exact hlt)
      have D2 := DS.out k (by rw [HE.out]; exact hlt)
      obtain ⟨x, hx⟩ : ∃ y, l.getD k g0 = y := ⟨_, rfl⟩
      rw [hx] at q0 q1 q2 D2
      obtain ⟨x1, x2, x3⟩ := x
      simp only at q0 q1 q2 D2
      obtain ⟨dk, hdk⟩ : ∃ y, waitK l ep lo k = y := ⟨_, rfl⟩
      rw [hdk] at D2 OW
      have DD := Lib.hid D2
      have LN := Lib.hid (show dk.length ≤ 1000000000 by rw [← hdk]; have h1 := List.length_filter_le (fun x : Gr => decide (x.2.1 < ep) && decide (lo < x.2.2)) (l.take k); have h2 := List.length_take_le k l; have := FW.out; unfold waitK; rw [List.length_map]; omega)
      clear hx hdk D2
      have k0 : (0 : Int) ≤ (k : Int) := by omega
      have kN : (k : Int) < (N : Int) := by omega
      obtain ⟨g, hg⟩ : ∃ g, wr.heap.size = g := ⟨_, rfl⟩
      have KX := Lib.hid (show Blk (wr.alloc (.cells #[.int .i64 x1, .int .i64 x2, .int .i64 x3] 88)) g 88 #[.int .i64 x1, .int .i64 x2, .int .i64 x3] from Blk.new' wr _ _ _ hg rfl)
      replace Kg := Lib.hid (Kg.out.alloc (.cells #[.int .i64 x1, .int .i64 x2, .int .i64 x3] 88))
      replace Kp := Lib.hid (Kp.out.alloc (.cells #[.int .i64 x1, .int .i64 x2, .int .i64 x3] 88))
      replace OW := Lib.hid (show OwnI (wr.alloc (.cells #[.int .i64 x1, .int .i64 x2, .int .i64 x3] 88)) (G + 2) u8 dk from own_alloc OW.out _)
      replace B := Lib.hid (B.out.alloc B.out.size (.cells #[.int .i64 x1, .int .i64 x2, .int .i64 x3] 88))
      go_upto_region 7 with (fail)
      try rw [hg]
      generalize hwx : wr.alloc (.cells #[.int .i64 x1, .int .i64 x2, .int .i64 x3] 88) = wx at KX Kg Kp B OW ⊢
      clear hwx hg q0 q1 q2
      obtain ⟨b0, b1, b2⟩ := three Kg.out
      obtain ⟨d0, d1, d2⟩ := three KX.out
      obtain ⟨p0, p1⟩ := twob Kp.out
      by_cases h2 : x2 < ep
      · by_cases h3 : lo < x3
        · have t2 : decide (x2 < ep) = true := decide_eq_true h2
          have t3 : decide (lo < x3) = true := decide_eq_true h3
          have DE := Lib.hid (show waitK l ep lo (k + 1) = dk ++ [x1] by rw [DD.out, if_pos ⟨h2, h3⟩])
          clear h2 h3
          have ZZ := Lib.hid (show G + 2 ≤ wx.heap.size by have := Kp.out.lt; omega)
          go_wp2_with (at_builtin; refine wpAppI rfl _ _ rfl (G + 2) _ _ rfl OW.out x1 _ rfl rfl LN.out ZZ.out ?_)
          intro v4 w4 ho hb4
          have O4 := Lib.hid (show OwnI w4 (G + 2) v4 (waitK l ep lo (k + 1)) by rw [DE.out]; exact ho)
          have B4 := Lib.hid (show Below w.heap.size w w4 from B.out.trans (hb4.mono (by have := HG.out; omega)))
          have Kg4 := Lib.hid (Kg.out.below hb4 (by omega))
          have Kp4 := Lib.hid (Kp.out.below hb4 (by omega))
          clear Kg Kp KX B OW b0 b1 b2 d0 d1 d2 p0 p1
          clear ho hb4 ZZ
          go_wp2
          go_roundw
          case rel => exact ⟨k + 1, by omega, by go_num, O4, Kg4, Kp4, B4⟩
          case measure => simp [intOf]; omega
        · have t2 : decide (x2 < ep) = true := decide_eq_true h2
          have t3 : decide (lo < x3) = false := decide_eq_false h3
          have DE := Lib.hid (show waitK l ep lo (k + 1) = dk by rw [DD.out, if_neg (fun q => h3 q.2)])
          clear h2 h3
          go_wp2
          go_roundw
          case rel => exact ⟨k + 1, by omega, by go_num, by rw [DE.out]; exact OW, Kg, Kp, B⟩
          case measure => simp [intOf]; omega
      · have t2 : decide (x2 < ep) = false := decide_eq_false h2
        have DE := Lib.hid (show waitK l ep lo (k + 1) = dk by rw [DD.out, if_neg (fun q => h2 q.1)])
        clear h2
        go_wp2
        go_roundw
        case rel => exact ⟨k + 1, by omega, by go_num, by rw [DE.out]; exact OW, Kg, Kp, B⟩
        case measure => simp [intOf]; omega
    · have hkN : N = k := by omega
      subst hkN
      have t0 : decide ((N : Int) < (N : Int)) = false := decide_eq_false (by omega)
      clear hlt hk
      go_wp2
      go_ret2
      obtain ⟨a6, c6, e6, -, h6⟩ := OW.out.view
      have F6 := OW.out.lt
      subst e6
      exact ⟨⟨a6, c6, rfl, h6, fun p hp => by have h1 := F6 p.block (by subst hp; rfl); have h2 := HG.out; omega⟩, B.out⟩
end Le
end Go.Proofs.YteblnmhaohbkkaaDoor
