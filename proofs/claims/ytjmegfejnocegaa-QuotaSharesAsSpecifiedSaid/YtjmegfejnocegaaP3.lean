/- Law 3: shares are the specification's. -/
import Derived.Test.YtjmegfejnocegaaP7
namespace Go.Proofs.Ytjmegfejnocegaa
set_option linter.unusedVariables false
set_option linter.unusedSimpArgs false
open Go.RowKit
set_option maxRecDepth 100000 in
set_option maxHeartbeats 1000000 in
theorem shares (n : Int) (a : Option Addr) (cap : Nat) (l : List Sh) (b : Option Addr) (cb : Nat) (gs : List Int) (w : World) (hp : ShA w a l) (hm : l.length ≤ 9223372036854775807) (hq : IntsA w b gs) (hgm : gs.length ≤ 9223372036854775807) :
    Calls Try.prog 3 #[.int .i64 n, .slice a l.length cap, .slice b gs.length cb] w (Truly w) := by
  have CS := Lib.hid (fun W => sane W)
  have CV := Lib.hid (fun W (hb : Below w.heap.size w W) => valid_any a cap l W (hp.mono hb) hm)
  have CU := Lib.hid (fun W (hb : Below w.heap.size w W) => validref_any a cap l W (hp.mono hb) hm)
  have CC := Lib.hid (fun W => capacity_any n W)
  by_cases c1 : 60 < l.length
  · obtain ⟨N, hN⟩ : ∃ N, l.length = N := ⟨_, rfl⟩
    obtain ⟨M, hM⟩ : ∃ M, gs.length = M := ⟨_, rfl⟩
    rw [hN] at c1 hm ⊢; rw [hM] at hgm ⊢
    clear hp hq hN hM CV CU CC
    go_enter Try.func3, Try.ntmps3
    go_wp2_with fail
    refine (CS.out _).mono ?_
    rintro e w1 ⟨rfl, hb⟩
    go_wp2
    go_ret
    exact ⟨rfl, hb⟩
  by_cases c2 : vS l = true
  case neg =>
    rw [show vS l = false by simpa using c2] at CV CU
    obtain ⟨N, hN⟩ : ∃ N, l.length = N := ⟨_, rfl⟩
    obtain ⟨M, hM⟩ : ∃ M, gs.length = M := ⟨_, rfl⟩
    rw [hN] at c1 hm CV CU ⊢; rw [hM] at hgm ⊢
    have t1 : (false != false) = false := rfl
    clear hp hq hN hM CC c2
    go_enter Try.func3, Try.ntmps3
    go_wp2_with fail
    refine (CV.out _ (Below.refl _ _)).mono ?_
    rintro e w1 ⟨rfl, hb⟩
    have B1 := Lib.hid hb
    clear hb
    go_wp2_with fail
    refine (CU.out _ B1.out).mono ?_
    rintro e w2 ⟨rfl, hb⟩
    have B2 := Lib.hid (show Below w.heap.size w w2 from bt B1.out hb)
    clear hb
    go_wp2_with fail
    refine (CU.out _ B2.out).mono ?_
    rintro e w3 ⟨rfl, hb⟩
    have B3 := Lib.hid (show Below w.heap.size w w3 from bt B2.out hb)
    clear hb
    go_wp2_with fail
    refine (CS.out _).mono ?_
    rintro e w4 ⟨rfl, hb⟩
    have B4 := Lib.hid (show Below w.heap.size w w4 from bt B3.out hb)
    clear hb
    go_wp2
    go_ret
    exact ⟨rfl, B4.out⟩
  obtain ⟨hok, hl⟩ := (vS_iff l).1 c2
  rw [c2] at CV CU
  by_cases c3 : 0 ≤ n ∧ n ≤ 1099511627776
  case neg =>
    rw [decide_eq_false c3] at CC
    obtain ⟨N, hN⟩ : ∃ N, l.length = N := ⟨_, rfl⟩
    obtain ⟨M, hM⟩ : ∃ M, gs.length = M := ⟨_, rfl⟩
    rw [hN] at c1 hm CV CU ⊢; rw [hM] at hgm ⊢
    have t1 : (true != true) = false := rfl
    clear hp hq hN hM c2 c3 hok hl
    go_enter Try.func3, Try.ntmps3
    go_wp2_with fail
    refine (CV.out _ (Below.refl _ _)).mono ?_
    rintro e w1 ⟨rfl, hb⟩
    have B1 := Lib.hid hb
    clear hb
    go_wp2_with fail
    refine (CU.out _ B1.out).mono ?_
    rintro e w2 ⟨rfl, hb⟩
    have B2 := Lib.hid (show Below w.heap.size w w2 from bt B1.out hb)
    clear hb
    go_wp2_with fail
    refine (CU.out _ B2.out).mono ?_
    rintro e w3 ⟨rfl, hb⟩
    have B3 := Lib.hid (show Below w.heap.size w w3 from bt B2.out hb)
    clear hb
    go_wp2_with fail
    refine (CC.out _).mono ?_
    rintro e w4 ⟨rfl, rfl⟩
    go_wp2_with fail
    refine (CS.out _).mono ?_
    rintro e w4 ⟨rfl, hb⟩
    have B4 := Lib.hid (show Below w.heap.size w w4 from bt B3.out hb)
    clear hb
    go_wp2
    go_ret
    exact ⟨rfl, B4.out⟩
  rw [decide_eq_true c3] at CC
  have C1 := Lib.hid (fun W (hb : Below w.heap.size w W) => level_any n a cap l W (hp.mono hb) hok hl c3.1)
  have C2 := Lib.hid (fun W (hb : Below w.heap.size w W) => levelref_any n a cap l W (hp.mono hb) hok hl c3.1)
  have C3 := Lib.hid (fun W (hb : Below w.heap.size w W) => fair_any n a cap l W (hp.mono hb) hok hl c3.1 c3.2)
  have C4 := Lib.hid (fun W (hb : Below w.heap.size w W) => fairref_any n a cap l W (hp.mono hb) hok hl c3.1 c3.2)
  have C5 := Lib.hid (fun W (hb : Below w.heap.size w W) => explains_any n a b cap cb l gs W (hp.mono hb) (hq.mono hb) hok hl hgm c3.1 c3.2)
  have C6 := Lib.hid (fun W (hb : Below w.heap.size w W) => explainsref_any n a b cap cb l gs W (hp.mono hb) (hq.mono hb) hok hl hgm c3.1 c3.2)
  have UQ := Lib.hid (show ∀ x y : Int, IsLev n l x → IsLev n l y → x = y from fun x y h k => h.uniq hok k)
  have FL := Lib.hid (fun x => show (fairC n x l).length = l.length by unfold fairC; exact fairL_len _ _ _)
  obtain ⟨eB, hE⟩ : ∃ v, exB n l gs = v := ⟨_, rfl⟩
  rw [hE] at C5 C6
  have t2 : (eB == eB) = true := beq_self_eq_true eB
  obtain ⟨N, hN⟩ : ∃ N, l.length = N := ⟨_, rfl⟩
  obtain ⟨M, hM⟩ : ∃ M, gs.length = M := ⟨_, rfl⟩
  rw [hN] at c1 hm CV CU C1 C2 C3 C4 C5 C6 FL hl ⊢; rw [hM] at hgm C5 C6 ⊢
  have t1 : (true != true) = false := rfl
  clear hp hq hN hM c2 c3 hok hE
  go_enter Try.func3, Try.ntmps3
  go_wp2_with fail
  refine (CV.out _ (Below.refl _ _)).mono ?_
  rintro e w1 ⟨rfl, hb⟩
  have B1 := Lib.hid hb
  clear hb
  go_wp2_with fail
  refine (CU.out _ B1.out).mono ?_
  rintro e w2 ⟨rfl, hb⟩
  have B2 := Lib.hid (show Below w.heap.size w w2 from bt B1.out hb)
  clear hb
  go_wp2_with fail
  refine (CU.out _ B2.out).mono ?_
  rintro e w3 ⟨rfl, hb⟩
  have B3 := Lib.hid (show Below w.heap.size w w3 from bt B2.out hb)
  clear hb
  go_wp2_with fail
  refine (CC.out _).mono ?_
  rintro e w4 ⟨rfl, rfl⟩
  go_wp2_with fail
  refine (CS.out _).mono ?_
  rintro e w4 ⟨rfl, hb⟩
  have B4 := Lib.hid (show Below w.heap.size w w4 from bt B3.out hb)
  clear hb
  go_wp2_with fail
  refine (C1.out _ B4.out).mono ?_
  rintro e w5 ⟨x, rfl, hx, hb⟩
  have B5 := Lib.hid (show Below w.heap.size w w5 from bt B4.out hb)
  have HX := Lib.hid hx
  clear hb hx
  go_wp2_with fail
  refine (C2.out _ B5.out).mono ?_
  rintro e w6 ⟨y, rfl, hy, hb⟩
  have B6 := Lib.hid (show Below w.heap.size w w6 from bt B5.out hb)
  obtain rfl := UQ.out _ _ HX.out hy
  have t3 : (x == x) = true := beq_self_eq_true x
  clear hb hy
  go_wp2_with fail
  refine (C3.out _ B6.out).mono ?_
  rintro e w7 ⟨y, g, rfl, hy, -, hr, hb⟩
  have B7 := Lib.hid (show Below w.heap.size w w7 from bt B6.out hb)
  obtain rfl := UQ.out _ _ HX.out hy
  have HR := Lib.hid hr.ints
  clear hb hy hr
  go_wp2_with fail
  refine (C4.out _ B7.out).mono ?_
  rintro e w8 ⟨y, b8, c8, rfl, hy, hr, hb⟩
  have B8 := Lib.hid (show Below w.heap.size w w8 from bt B7.out hb)
  obtain rfl := UQ.out _ _ HX.out hy
  have HR2 := Lib.hid hr
  have C7 := Lib.hid (same_any (some ⟨g, 0, none⟩) b8 N c8 (fairC n x l) (fairC n x l) w8 (HR.out.mono hb) hr (by rw [FL.out]; omega) (by rw [FL.out]; omega))
  rw [FL.out, eqI_self] at C7
  clear hb hy hr HR HR2
  go_wp2_with fail
  refine C7.out.mono ?_
  rintro e w9 ⟨rfl, hb⟩
  have B9 := Lib.hid (show Below w.heap.size w w9 from bt B8.out hb)
  clear hb C7
  go_wp2_with fail
  refine (C5.out _ B9.out).mono ?_
  rintro e w10 ⟨rfl, hb⟩
  have B10 := Lib.hid (show Below w.heap.size w w10 from bt B9.out hb)
  clear hb
  go_wp2_with fail
  refine (C6.out _ B10.out).mono ?_
  rintro e w11 ⟨rfl, hb⟩
  have B11 := Lib.hid (show Below w.heap.size w w11 from bt B10.out hb)
  clear hb
  go_wp2
  go_ret
  exact ⟨rfl, B11.out⟩
end Go.Proofs.Ytjmegfejnocegaa
