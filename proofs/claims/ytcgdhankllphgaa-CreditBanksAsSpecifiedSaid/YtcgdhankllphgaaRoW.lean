/- Contracts: without, at api.Row. -/
import Derived.Test.YtcgdhankllphgaaRoY
namespace Go.Proofs.Ytcgdhankllphgaa
set_option linter.unusedVariables false
set_option linter.unusedSimpArgs false
namespace Ro
open Go.RowKit
set_option maxRecDepth 100000 in
set_option maxHeartbeats 1000000 in
theorem without_any (a : Option Addr) (cap : Nat) (l : List Rw) (pb pp : Value) (O : Nat) (J : World → Prop) (JB : ∀ X X' : World, J X → Below O X X' → J X') (p : Rw → Bool) (w : World) (GON : ∀ (x : Rw) (W : World), J W → x ∈ l → Calls Try.prog 51 #[.agg (encR x).toArray, pb, pp] W fun e w' => e = .returned (.bool (p x)) ∧ Below W.heap.size W w') (hJ : J w) (hO : O ≤ w.heap.size) (hp : RwA w a l) (hm : l.length ≤ 1000000) :
    Calls Try.prog 50 #[.slice a l.length cap, .func (.func 51) #[] #[pb, pp]] w fun e w' => (∃ v, e = .returned v ∧ OwnR 72 4 encR w' w.heap.size v (l.filter fun x => ! p x)) ∧ Below w.heap.size w w' := by
  have CL := Lib.hid (Ro.clone_any a cap l w hp hm)
  have HD := Lib.hid (fun (v : Value) (X : World) (h1 : J X) (h2 : w.heap.size ≤ X.heap.size) (h3 : OwnR 72 4 encR X w.heap.size v l) => delete_any v l pb pp w.heap.size J (fun X X' hX hb => JB X X' hX (hb.mono hO)) p X GON h1 h2 h3 hm)
  have HJ := Lib.hid (fun (X : World) (hb : Below w.heap.size w X) => JB _ _ hJ (hb.mono hO))
  have FL := Lib.hid (show (l.filter fun x => ! p x).length ≤ 1000000000 from Nat.le_trans (List.length_filter_le _ _) (by omega))
  obtain ⟨F, hF⟩ : ∃ F, l.filter (fun x => ! p x) = F := ⟨_, rfl⟩
  rw [hF] at FL ⊢
  simp only [hF] at HD
  obtain ⟨N, hN⟩ : ∃ N, l.length = N := ⟨_, rfl⟩
  rw [hN] at CL ⊢
  clear hp hm hN hF hJ hO GON JB
  go_enter Try.func50, Try.ntmps50
  go_wp2_with fail
  refine (CL.out).mono ?_
  rintro e w1 ⟨v, rfl, ho, hb⟩
  have J1 := Lib.hid (HJ.out _ hb)
  have O1 := Lib.hid ho
  have B1 := Lib.hid hb
  clear ho hb
  go_wp2_with fail
  refine (HD.out v w1 J1.out B1.out.size O1.out).mono ?_
  rintro e w2 ⟨⟨a2, c2, rfl, hr⟩, hb⟩
  have B2 := Lib.hid (B1.out.trans hb)
  obtain ⟨b3, n3, c3, w3, ha, ho3, hb3⟩ := app_A 22 w2 w.heap.size (.slice none 0 0) [] (OwnR.nil _ _ _ _ _) a2 c2 F hr (by simp) FL.out B2.out.size
  have O3 := Lib.hid (show OwnR 72 4 encR w3 w.heap.size (.slice b3 n3 c3) F from ho3)
  have B3 := Lib.hid (B2.out.trans hb3)
  have HA := Lib.hid ha
  clear hr hb ha ho3 hb3
  go_wp2_with (at_builtin; refine wpList_app_run rfl _ _ _ _ rfl _ _ _ w3 rfl rfl HA.out ?_)
  go_wp2
  go_ret
  exact ⟨⟨_, rfl, O3.out⟩, B3.out⟩
end Ro
end Go.Proofs.Ytcgdhankllphgaa
