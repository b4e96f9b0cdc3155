/- Law 7: Victim is the specification's. -/
import Derived.Test.YtjmegfejnocegaaZ
namespace Go.Proofs.Ytjmegfejnocegaa
set_option linter.unusedVariables false
set_option linter.unusedSimpArgs false
open Go.RowKit
def Truly (w : World) (e : Ending) (w' : World) : Prop := e = .returned (.bool true) ∧ Below w.heap.size w w'
theorem vA_iff (l : List Ac) : vA l = true ↔ OkA l := decide_eq_true_iff
set_option maxRecDepth 100000 in
set_option maxHeartbeats 1000000 in
theorem chooses (n : Int) (a : Option Addr) (cap : Nat) (l : List Ac) (x m : Int) (w : World) (hp : AcA w a l) (hm : l.length ≤ 9223372036854775807) :
    Calls Try.prog 7 #[.int .i64 n, .slice a l.length cap, .int .i64 x, .int .i64 m] w (Truly w) := by
  have CS := Lib.hid (fun W => sane W)
  have CV := Lib.hid (fun W (hb : Below w.heap.size w W) => accountsref_any a cap l W (hp.mono hb) hm)
  have CC := Lib.hid (fun W => capacity_any n W)
  by_cases c1 : 60 < l.length
  · obtain ⟨N, hN⟩ : ∃ N, l.length = N := ⟨_, rfl⟩
    rw [hN] at c1 hm ⊢
    clear hp hN CV CC
    go_enter Try.func7, Try.ntmps7
    go_wp2_with fail
    refine (CS.out _).mono ?_
    rintro e w1 ⟨rfl, hb⟩
    go_wp2
    go_ret
    exact ⟨rfl, hb⟩
  by_cases c2 : vA l = true
  case neg =>
    rw [show vA l = false by simpa using c2] at CV
    obtain ⟨N, hN⟩ : ∃ N, l.length = N := ⟨_, rfl⟩
    rw [hN] at c1 hm CV ⊢
    clear hp hN CC c2
    go_enter Try.func7, Try.ntmps7
    go_wp2_with fail
    refine (CV.out _ (Below.refl _ _)).mono ?_
    rintro e w1 ⟨rfl, hb⟩
    have B1 := Lib.hid hb
    clear hb
    go_wp2_with fail
    refine (CS.out _).mono ?_
    rintro e w2 ⟨rfl, hb⟩
    have B2 := Lib.hid (show Below w.heap.size w w2 from bt B1.out hb)
    clear hb
    go_wp2
    go_ret
    exact ⟨rfl, B2.out⟩
  have hok := (vA_iff l).1 c2
  rw [c2] at CV
  by_cases c3 : 0 ≤ n ∧ n ≤ 1099511627776
  case neg =>
    rw [decide_eq_false c3] at CC
    obtain ⟨N, hN⟩ : ∃ N, l.length = N := ⟨_, rfl⟩
    rw [hN] at c1 hm CV ⊢
    clear hp hN c2 c3 hok
    go_enter Try.func7, Try.ntmps7
    go_wp2_with fail
    refine (CV.out _ (Below.refl _ _)).mono ?_
    rintro e w1 ⟨rfl, hb⟩
    have B1 := Lib.hid hb
    clear hb
    go_wp2_with fail
    refine (CC.out _).mono ?_
    rintro e w2 ⟨rfl, rfl⟩
    go_wp2_with fail
    refine (CS.out _).mono ?_
    rintro e w2 ⟨rfl, hb⟩
    have B2 := Lib.hid (show Below w.heap.size w w2 from bt B1.out hb)
    clear hb
    go_wp2
    go_ret
    exact ⟨rfl, B2.out⟩
  rw [decide_eq_true c3] at CC
  have C1 := Lib.hid (fun W (hb : Below w.heap.size w W) => victim_any n a cap l x m W (hp.mono hb) hok c3.1 c3.2)
  have C2 := Lib.hid (fun W (hb : Below w.heap.size w W) => victimref_any n a cap l x m W (hp.mono hb) hok c3.1 c3.2)
  have UQ := Lib.hid (show ∀ r q : Int × Int, VictR n l x m r → VictR n l x m q → r = q from fun r q h k => h.uniq hok k)
  obtain ⟨N, hN⟩ : ∃ N, l.length = N := ⟨_, rfl⟩
  rw [hN] at c1 hm CV C1 C2 ⊢
  clear hp hN c2 c3 hok
  go_enter Try.func7, Try.ntmps7
  go_wp2_with fail
  refine (CV.out _ (Below.refl _ _)).mono ?_
  rintro e w1 ⟨rfl, hb⟩
  have B1 := Lib.hid hb
  clear hb
  go_wp2_with fail
  refine (CC.out _).mono ?_
  rintro e w2 ⟨rfl, rfl⟩
  go_wp2_with fail
  refine (C1.out _ B1.out).mono ?_
  rintro e w2 ⟨r, rfl, hr, hb⟩
  have B2 := Lib.hid (show Below w.heap.size w w2 from bt B1.out hb)
  have HR := Lib.hid hr
  clear hb hr
  go_wp2_with fail
  refine (C2.out _ B2.out).mono ?_
  rintro e w3 ⟨q, rfl, hq, hb⟩
  have B3 := Lib.hid (show Below w.heap.size w w3 from bt B2.out hb)
  obtain rfl := UQ.out _ _ HR.out hq
  obtain ⟨r1, r2⟩ := r
  clear hb hq HR
  simp only
  have KB := Lib.hid (Blk.new w3 49 #[.int .i64 r1, .int .i64 r2])
  go_wp2_with fail
  refine (CS.out _).mono ?_
  rintro e w4 ⟨rfl, hb⟩
  have B4 := Lib.hid (show Below w.heap.size w w4 from bt (B3.out.alloc B3.out.size _) hb)
  have K4 := KB.out.below hb KB.out.lt
  have k0 := K4.cell 0
  have k1 := K4.cell 1
  change _ = some (Value.int .i64 r1) at k0
  change _ = some (Value.int .i64 r2) at k1
  have t1 : (r1 == r1) = true := beq_self_eq_true r1
  have t2 : (r2 == r2) = true := beq_self_eq_true r2
  clear hb K4 KB
  go_wp2
  go_ret
  exact ⟨rfl, B4.out⟩
end Go.Proofs.Ytjmegfejnocegaa
