/- Ported from another seat (wip/hash/II.src, by wip/port.py): contracts that this chapter calls. -/
import Derived.Test.YtcdcnklfcmoiiaaDoorHHH
import Derived.Test.YtcdcnklfcmoiiaaDoorHDD
namespace Go.Proofs.YtcdcnklfcmoiiaaDoor
set_option linter.unusedVariables false
set_option linter.unusedSimpArgs false
namespace Hs
open Go.RowKit
attribute [local go_sem] zeroSt
attribute [local simp] zeroSt_ne
set_option maxRecDepth 100000 in
set_option maxHeartbeats 1000000 in
theorem ofref_any (tag : Int) (t : Nat) (a : Option Addr) (cap : Nat) (ss : List ByteArray) (w : World) (ht : tag % 256 = t) (hp : StrsA w a ss) (hf : Few ss)
    (hS : ∀ a cap W, BytesA W a (inL t ss) → Below w.heap.size w W → Calls Tryd.prog 99 #[.slice a (inL t ss).length cap] W fun e w' => e = .returned (.agg (bvs (sha (inL t ss)))) ∧ Below W.heap.size W w') :
    Calls Tryd.prog 66 #[.int .i64 tag, .slice a ss.length cap] w fun e w' => e = .returned (.agg (bvs ((sha (inL t ss)).take 16))) ∧ Below w.heap.size w w' := by
  have t256 : t < 256 := by omega
  have hll : ∀ x ∈ inL t ss, x < 256 := fun x hx => by
    rcases List.mem_cons.1 hx with h | h
    · omega
    · obtain ⟨s, _, hx⟩ := List.mem_flatMap.1 h
      rcases List.mem_append.1 hx with h | h
      · exact enc_lt _ _ h
      · exact sb_lt s x h
  have C := Lib.hid (fun (W : World) (h : StrsA W a ss) => input_any tag t a cap ss W ht h hf)
  have V := Lib.hid (fun (W : World) (B : Nat) (v : Value) (h : OwnB W B v (inL t ss)) => OwnB.view h hll)
  have D := Lib.hid (fun (a : Option Addr) (cap : Nat) (W : World) (h : BytesA W a (inL t ss)) (hB : Below w.heap.size w W) => shortref_any (sha (inL t ss)) (.slice a (inL t ss).length cap) W (sha_len _) fun W2 h2 => hS a cap W2 (h.mono h2) (bt hB h2))
  have ln : ((sha (inL t ss)).take 16).length = 16 := by rw [List.length_take, sha_len]; rfl
  have HP := Lib.hid hp
  obtain ⟨R, hR⟩ : ∃ m, (sha (inL t ss)).take 16 = m := ⟨_, rfl⟩
  simp only [hR] at D
  rw [hR] at ln ⊢
  obtain ⟨L, hL⟩ : ∃ m, inL t ss = m := ⟨_, rfl⟩
  simp only [hL] at C V D
  have ia : (Tryd.prog.info? 56).map (·.size) = some (bvs R).size := by rw [bvs_size, ln]; kernel_rfl
  have sz : (bvs (List.replicate 16 0)).size = (bvs R).size := by rw [bvs_size, bvs_size, ln]; rfl
  have IA := Lib.hid ia; have SZ := Lib.hid sz
  clear hp hf hS hll hR hL ln ia sz
  go_enter Tryd.func66, Tryd.ntmps66
  go_wp2_with fail
  refine (C.out _ (HP.out.mono (by (repeat' (first | (with_reducible exact Below.refl _ _) | (with_reducible assumption) | (with_reducible refine Below.alloc ?_ ?_ _) | (with_reducible refine Below.drew ?_) | (with_reducible refine below_dn ?_) | (with_reducible refine Below.setCell ?_ ?_ _) | (with_reducible exact Nat.le_refl _) | omega | (simp only [World.size_alloc, World.size_setCell, World.size_drew]; omega) | (simp; omega) | (simp; done)))))).mono ?_
  rintro e w1 ⟨v, rfl, ho, hb1⟩
  obtain ⟨a2, c2, rfl, -, y2⟩ := V.out _ _ _ ho
  have Y2 := Lib.hid y2
  have J2 := Lib.hid (show Blk w1 w.heap.size 56 (bvs (List.replicate 16 0)) from (Blk.new' w 56 _ (bvs (List.replicate 16 0)) rfl rfl).below hb1 (by simp))
  have B1 := Lib.hid (show Below w.heap.size w w1 from bt (by (repeat' (first | (with_reducible exact Below.refl _ _) | (with_reducible assumption) | (with_reducible refine Below.alloc ?_ ?_ _) | (with_reducible refine Below.drew ?_) | (with_reducible refine below_dn ?_) | (with_reducible refine Below.setCell ?_ ?_ _) | (with_reducible exact Nat.le_refl _) | omega | (simp only [World.size_alloc, World.size_setCell, World.size_drew]; omega) | (simp; omega) | (simp; done)))) hb1)
  clear hb1 ho y2
  go_wp2_with fail
  refine (D.out _ _ _ Y2.out B1.out).mono ?_
  rintro e w2 ⟨rfl, hb2⟩
  have J3 := Lib.hid (J2.out.below hb2 J2.out.lt)
  have B2 := Lib.hid (bt B1.out hb2)
  clear hb2 J2 B1
  go_wp2_with (with_reducible refine wpList_store_blk rfl _ _ _ rfl w.heap.size 56 _ _ rfl rfl J3.out IA.out SZ.out (bvs_one _) rfl ?_)
  refine bodyPost_ret (v := .agg (bvs R)) (results_cell_row rfl _ _ _ 56 _ (0, 0) _ rfl (J3.out.row_ _) Tryd.underlying56 rfl IA.out) rfl ⟨rfl, ?_⟩
  exact below_setRow B2.out (Nat.le_refl _) _
end Hs
end Go.Proofs.YtcdcnklfcmoiiaaDoor
