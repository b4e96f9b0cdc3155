/- Contracts: law 7 of chapter 4. -/
import Derived.Test.YtcdcnklfcmoiiaaDoorQZC
import Derived.Test.YtcdcnklfcmoiiaaDoorQRK
import Derived.Test.YtcdcnklfcmoiiaaDoorQSR
namespace Go.Proofs.YtcdcnklfcmoiiaaDoor
set_option linter.unusedVariables false
set_option linter.unusedSimpArgs false
open Go.RowKit Go.Sort
set_option maxRecDepth 100000 in
set_option maxHeartbeats 2000000 in
theorem law7_many (a : Option Addr) (c : Nat) (l : List Rw) (CA CB CC CD : Array Value) (sA sB : Bool) (M : World → Prop) (w : World) (hp : RwA w a l) (hm : l.length ≤ 9223372036854775807) (hM : ∀ X, Below w.heap.size w X → M X) (IA : (Tryd.prog.info? 58).map (·.size) = some CA.size) (IB : (Tryd.prog.info? 62).map (·.size) = some CB.size) (IC : (Tryd.prog.info? 64).map (·.size) = some CC.size) (ID : (Tryd.prog.info? 66).map (·.size) = some CD.size) (SS : ∀ X : World, Calls Tryd.prog 27 #[.agg CA] X fun e w' => e = .returned (.bool sA) ∧ Below X.heap.size X w') (SP : ∀ X : World, M X → Calls Tryd.prog 28 #[.agg CB] X fun e w' => e = .returned (.bool sB) ∧ Below X.heap.size X w') (hla : Hs.LaidC w) (hlk : Hs.LaidK w) (h : 30 < l.length) : Calls Tryd.prog 7 #[.slice a l.length c, .agg CA, .agg CB, .agg CC, .agg CD] w fun e w' => e = .returned (.bool true) ∧ Below w.heap.size w w' := by
  have HLA := Lib.hid hla
  have HLK := Lib.hid hlk
  have HP := Lib.hid hp
  have HM := Lib.hid hM
  have SNT := Lib.hid (fun (X : World) (h : Hs.LaidC X) => sanity_any X h)
  have IA := Lib.hid IA
  have IB := Lib.hid IB
  have IC := Lib.hid IC
  have ID := Lib.hid ID
  have SS := Lib.hid SS
  have SP := Lib.hid SP
  have RG := Lib.hid (show ∀ X : World, RwA X a l → Calls Tryd.prog 11 #[.slice a l.length c] X fun e w' => e = .returned (.bool (ringB l)) ∧ Below X.heap.size X w' from fun X h => ring_any a c l X h hm)
  obtain ⟨N, hN⟩ : ∃ N, l.length = N := ⟨_, rfl⟩
  simp only [hN] at RG
  rw [hN]
  rw [hN] at h
  have t1 : decide ((30 : Int) < (N : Int)) = true := decide_eq_true (by omega)
  clear h
  clear hla hlk hp hm hM hN
  obtain ⟨G, hG⟩ : ∃ G, w.heap.size = G := ⟨_, rfl⟩
  have HG := Lib.hid hG
  have KA := Lib.hid (show Blk ((((w.alloc (.cells CA 58)).alloc (.cells CB 62)).alloc (.cells CC 64)).alloc (.cells CD 66)) (G) 58 CA from (((Blk.new' _ _ _ _ hG rfl).alloc _).alloc _).alloc _)
  have KB := Lib.hid (show Blk ((((w.alloc (.cells CA 58)).alloc (.cells CB 62)).alloc (.cells CC 64)).alloc (.cells CD 66)) (G + 1) 62 CB from ((Blk.new' _ _ _ _ (by rw [World.size_alloc, hG]) rfl).alloc _).alloc _)
  have KC := Lib.hid (show Blk ((((w.alloc (.cells CA 58)).alloc (.cells CB 62)).alloc (.cells CC 64)).alloc (.cells CD 66)) (G + 1 + 1) 64 CC from (Blk.new' _ _ _ _ (by rw [World.size_alloc, World.size_alloc, hG]) rfl).alloc _)
  have KD := Lib.hid (show Blk ((((w.alloc (.cells CA 58)).alloc (.cells CB 62)).alloc (.cells CC 64)).alloc (.cells CD 66)) (G + 1 + 1 + 1) 66 CD from Blk.new' _ _ _ _ (by rw [World.size_alloc, World.size_alloc, World.size_alloc, hG]) rfl)
  have B0 := Lib.hid (show Below w.heap.size w ((((w.alloc (.cells CA 58)).alloc (.cells CB 62)).alloc (.cells CC 64)).alloc (.cells CD 66)) by (repeat' (first | (with_reducible exact Below.refl _ _) | (with_reducible assumption) | (with_reducible refine Below.alloc ?_ ?_ _) | (with_reducible refine Below.drew ?_) | (with_reducible refine below_dn ?_) | (with_reducible refine Below.setCell ?_ ?_ _) | (with_reducible exact Nat.le_refl _) | omega | (simp only [World.size_alloc, World.size_setCell, World.size_drew]; omega) | (simp; omega) | (simp; done))))
  go_enter Tryd.func7, Tryd.ntmps7
  go_upto_region 1 with (fail)
  try rw [hG]
  generalize hw0 : ((((w.alloc (.cells CA 58)).alloc (.cells CB 62)).alloc (.cells CC 64)).alloc (.cells CD 66)) = w0 at KA KB KC KD B0 ⊢
  clear hw0 hG
  go_wp2_with fail
  refine (SNT.out _ (HLA.out.below B0.out)).mono ?_
  rintro e w1 ⟨rfl, hb⟩
  replace KA := Lib.hid (KA.out.below hb KA.out.lt)
  replace KB := Lib.hid (KB.out.below hb KB.out.lt)
  replace KC := Lib.hid (KC.out.below hb KC.out.lt)
  replace KD := Lib.hid (KD.out.below hb KD.out.lt)
  replace B0 := Lib.hid (B0.out.trans (hb.mono B0.out.size))
  clear hb
  go_wp2
  go_ret
  exact ⟨rfl, B0.out⟩
set_option maxRecDepth 100000 in
set_option maxHeartbeats 2000000 in
theorem law7_noring (a : Option Addr) (c : Nat) (l : List Rw) (CA CB CC CD : Array Value) (sA sB : Bool) (M : World → Prop) (w : World) (hp : RwA w a l) (hm : l.length ≤ 9223372036854775807) (hM : ∀ X, Below w.heap.size w X → M X) (IA : (Tryd.prog.info? 58).map (·.size) = some CA.size) (IB : (Tryd.prog.info? 62).map (·.size) = some CB.size) (IC : (Tryd.prog.info? 64).map (·.size) = some CC.size) (ID : (Tryd.prog.info? 66).map (·.size) = some CD.size) (SS : ∀ X : World, Calls Tryd.prog 27 #[.agg CA] X fun e w' => e = .returned (.bool sA) ∧ Below X.heap.size X w') (SP : ∀ X : World, M X → Calls Tryd.prog 28 #[.agg CB] X fun e w' => e = .returned (.bool sB) ∧ Below X.heap.size X w') (hla : Hs.LaidC w) (hlk : Hs.LaidK w) (h : ¬ 30 < l.length) (hr : ringB l = false) : Calls Tryd.prog 7 #[.slice a l.length c, .agg CA, .agg CB, .agg CC, .agg CD] w fun e w' => e = .returned (.bool true) ∧ Below w.heap.size w w' := by
  have HLA := Lib.hid hla
  have HLK := Lib.hid hlk
  have HP := Lib.hid hp
  have HM := Lib.hid hM
  have SNT := Lib.hid (fun (X : World) (h : Hs.LaidC X) => sanity_any X h)
  have IA := Lib.hid IA
  have IB := Lib.hid IB
  have IC := Lib.hid IC
  have ID := Lib.hid ID
  have SS := Lib.hid SS
  have SP := Lib.hid SP
  have RG := Lib.hid (show ∀ X : World, RwA X a l → Calls Tryd.prog 11 #[.slice a l.length c] X fun e w' => e = .returned (.bool (ringB l)) ∧ Below X.heap.size X w' from fun X h => ring_any a c l X h hm)
  rw [hr] at RG
  obtain ⟨N, hN⟩ : ∃ N, l.length = N := ⟨_, rfl⟩
  simp only [hN] at RG
  rw [hN]
  rw [hN] at h
  have t1 : decide ((30 : Int) < (N : Int)) = false := decide_eq_false (by omega)
  clear h hr
  clear hla hlk hp hm hM hN
  obtain ⟨G, hG⟩ : ∃ G, w.heap.size = G := ⟨_, rfl⟩
  have HG := Lib.hid hG
  have KA := Lib.hid (show Blk ((((w.alloc (.cells CA 58)).alloc (.cells CB 62)).alloc (.cells CC 64)).alloc (.cells CD 66)) (G) 58 CA from (((Blk.new' _ _ _ _ hG rfl).alloc _).alloc _).alloc _)
  have KB := Lib.hid (show Blk ((((w.alloc (.cells CA 58)).alloc (.cells CB 62)).alloc (.cells CC 64)).alloc (.cells CD 66)) (G + 1) 62 CB from ((Blk.new' _ _ _ _ (by rw [World.size_alloc, hG]) rfl).alloc _).alloc _)
  have KC := Lib.hid (show Blk ((((w.alloc (.cells CA 58)).alloc (.cells CB 62)).alloc (.cells CC 64)).alloc (.cells CD 66)) (G + 1 + 1) 64 CC from (Blk.new' _ _ _ _ (by rw [World.size_alloc, World.size_alloc, hG]) rfl).alloc _)
  have KD := Lib.hid (show Blk ((((w.alloc (.cells CA 58)).alloc (.cells CB 62)).alloc (.cells CC 64)).alloc (.cells CD 66)) (G + 1 + 1 + 1) 66 CD from Blk.new' _ _ _ _ (by rw [World.size_alloc, World.size_alloc, World.size_alloc, hG]) rfl)
  have B0 := Lib.hid (show Below w.heap.size w ((((w.alloc (.cells CA 58)).alloc (.cells CB 62)).alloc (.cells CC 64)).alloc (.cells CD 66)) by (repeat' (first | (with_reducible exact Below.refl _ _) | (with_reducible assumption) | (with_reducible refine Below.alloc ?_ ?_ _) | (with_reducible refine Below.drew ?_) | (with_reducible refine below_dn ?_) | (with_reducible refine Below.setCell ?_ ?_ _) | (with_reducible exact Nat.le_refl _) | omega | (simp only [World.size_alloc, World.size_setCell, World.size_drew]; omega) | (simp; omega) | (simp; done))))
  go_enter Tryd.func7, Tryd.ntmps7
  go_upto_region 1 with (fail)
  try rw [hG]
  generalize hw0 : ((((w.alloc (.cells CA 58)).alloc (.cells CB 62)).alloc (.cells CC 64)).alloc (.cells CD 66)) = w0 at KA KB KC KD B0 ⊢
  clear hw0 hG
  go_wp2_with fail
  refine (RG.out _ (HP.out.mono B0.out)).mono ?_
  rintro e w1 ⟨rfl, hb⟩
  replace KA := Lib.hid (KA.out.below hb KA.out.lt)
  replace KB := Lib.hid (KB.out.below hb KB.out.lt)
  replace KC := Lib.hid (KC.out.below hb KC.out.lt)
  replace KD := Lib.hid (KD.out.below hb KD.out.lt)
  replace B0 := Lib.hid (B0.out.trans (hb.mono B0.out.size))
  clear hb
  go_wp2_with fail
  refine (SNT.out _ (HLA.out.below B0.out)).mono ?_
  rintro e w2 ⟨rfl, hb⟩
  replace KA := Lib.hid (KA.out.below hb KA.out.lt)
  replace KB := Lib.hid (KB.out.below hb KB.out.lt)
  replace KC := Lib.hid (KC.out.below hb KC.out.lt)
  replace KD := Lib.hid (KD.out.below hb KD.out.lt)
  replace B0 := Lib.hid (B0.out.trans (hb.mono B0.out.size))
  clear hb
  go_wp2
  go_ret
  exact ⟨rfl, B0.out⟩
set_option maxRecDepth 100000 in
set_option maxHeartbeats 2000000 in
theorem law7_longA (a : Option Addr) (c : Nat) (l : List Rw) (CA CB CC CD : Array Value) (sA sB : Bool) (M : World → Prop) (w : World) (hp : RwA w a l) (hm : l.length ≤ 9223372036854775807) (hM : ∀ X, Below w.heap.size w X → M X) (IA : (Tryd.prog.info? 58).map (·.size) = some CA.size) (IB : (Tryd.prog.info? 62).map (·.size) = some CB.size) (IC : (Tryd.prog.info? 64).map (·.size) = some CC.size) (ID : (Tryd.prog.info? 66).map (·.size) = some CD.size) (SS : ∀ X : World, Calls Tryd.prog 27 #[.agg CA] X fun e w' => e = .returned (.bool sA) ∧ Below X.heap.size X w') (SP : ∀ X : World, M X → Calls Tryd.prog 28 #[.agg CB] X fun e w' => e = .returned (.bool sB) ∧ Below X.heap.size X w') (hla : Hs.LaidC w) (hlk : Hs.LaidK w) (h : ¬ 30 < l.length) (hr : ringB l = true) (hsa : sA = false) : Calls Tryd.prog 7 #[.slice a l.length c, .agg CA, .agg CB, .agg CC, .agg CD] w fun e w' => e = .returned (.bool true) ∧ Below w.heap.size w w' := by
  have HLA := Lib.hid hla
  have HLK := Lib.hid hlk
  have HP := Lib.hid hp
  have HM := Lib.hid hM
  have SNT := Lib.hid (fun (X : World) (h : Hs.LaidC X) => sanity_any X h)
  have IA := Lib.hid IA
  have IB := Lib.hid IB
  have IC := Lib.hid IC
  have ID := Lib.hid ID
  have SS := Lib.hid SS
  have SP := Lib.hid SP
  have RG := Lib.hid (show ∀ X : World, RwA X a l → Calls Tryd.prog 11 #[.slice a l.length c] X fun e w' => e = .returned (.bool (ringB l)) ∧ Below X.heap.size X w' from fun X h => ring_any a c l X h hm)
  rw [hr] at RG
  subst hsa
  obtain ⟨N, hN⟩ : ∃ N, l.length = N := ⟨_, rfl⟩
  simp only [hN] at RG
  rw [hN]
  rw [hN] at h
  have t1 : decide ((30 : Int) < (N : Int)) = false := decide_eq_false (by omega)
  clear h hr
  clear hla hlk hp hm hM hN
  obtain ⟨G, hG⟩ : ∃ G, w.heap.size = G := ⟨_, rfl⟩
  have HG := Lib.hid hG
  have KA := Lib.hid (show Blk ((((w.alloc (.cells CA 58)).alloc (.cells CB 62)).alloc (.cells CC 64)).alloc (.cells CD 66)) (G) 58 CA from (((Blk.new' _ _ _ _ hG rfl).alloc _).alloc _).alloc _)
  have KB := Lib.hid (show Blk ((((w.alloc (.cells CA 58)).alloc (.cells CB 62)).alloc (.cells CC 64)).alloc (.cells CD 66)) (G + 1) 62 CB from ((Blk.new' _ _ _ _ (by rw [World.size_alloc, hG]) rfl).alloc _).alloc _)
  have KC := Lib.hid (show Blk ((((w.alloc (.cells CA 58)).alloc (.cells CB 62)).alloc (.cells CC 64)).alloc (.cells CD 66)) (G + 1 + 1) 64 CC from (Blk.new' _ _ _ _ (by rw [World.size_alloc, World.size_alloc, hG]) rfl).alloc _)
  have KD := Lib.hid (show Blk ((((w.alloc (.cells CA 58)).alloc (.cells CB 62)).alloc (.cells CC 64)).alloc (.cells CD 66)) (G + 1 + 1 + 1) 66 CD from Blk.new' _ _ _ _ (by rw [World.size_alloc, World.size_alloc, World.size_alloc, hG]) rfl)
  have B0 := Lib.hid (show Below w.heap.size w ((((w.alloc (.cells CA 58)).alloc (.cells CB 62)).alloc (.cells CC 64)).alloc (.cells CD 66)) by (repeat' (first | (with_reducible exact Below.refl _ _) | (with_reducible assumption) | (with_reducible refine Below.alloc ?_ ?_ _) | (with_reducible refine Below.drew ?_) | (with_reducible refine below_dn ?_) | (with_reducible refine Below.setCell ?_ ?_ _) | (with_reducible exact Nat.le_refl _) | omega | (simp only [World.size_alloc, World.size_setCell, World.size_drew]; omega) | (simp; omega) | (simp; done))))
  go_enter Tryd.func7, Tryd.ntmps7
  go_upto_region 1 with (fail)
  try rw [hG]
  generalize hw0 : ((((w.alloc (.cells CA 58)).alloc (.cells CB 62)).alloc (.cells CC 64)).alloc (.cells CD 66)) = w0 at KA KB KC KD B0 ⊢
  clear hw0 hG
  go_wp2_with fail
  refine (RG.out _ (HP.out.mono B0.out)).mono ?_
  rintro e w1 ⟨rfl, hb⟩
  replace KA := Lib.hid (KA.out.below hb KA.out.lt)
  replace KB := Lib.hid (KB.out.below hb KB.out.lt)
  replace KC := Lib.hid (KC.out.below hb KC.out.lt)
  replace KD := Lib.hid (KD.out.below hb KD.out.lt)
  replace B0 := Lib.hid (B0.out.trans (hb.mono B0.out.size))
  clear hb
  go_wp2_with (with_reducible refine wpList_load_want (by kernel_rfl) 58 _ rfl (G) rfl 58 CA _ KA.out Tryd.underlying58 rfl IA.out ?_)
  refine (SS.out _).mono ?_
  rintro e w2 ⟨rfl, hb⟩
  replace KA := Lib.hid (KA.out.below hb KA.out.lt)
  replace KB := Lib.hid (KB.out.below hb KB.out.lt)
  replace KC := Lib.hid (KC.out.below hb KC.out.lt)
  replace KD := Lib.hid (KD.out.below hb KD.out.lt)
  replace B0 := Lib.hid (B0.out.trans (hb.mono B0.out.size))
  clear hb
  go_wp2_with fail
  refine (SNT.out _ (HLA.out.below B0.out)).mono ?_
  rintro e w3 ⟨rfl, hb⟩
  replace KA := Lib.hid (KA.out.below hb KA.out.lt)
  replace KB := Lib.hid (KB.out.below hb KB.out.lt)
  replace KC := Lib.hid (KC.out.below hb KC.out.lt)
  replace KD := Lib.hid (KD.out.below hb KD.out.lt)
  replace B0 := Lib.hid (B0.out.trans (hb.mono B0.out.size))
  clear hb
  go_wp2
  go_ret
  exact ⟨rfl, B0.out⟩
set_option maxRecDepth 100000 in
set_option maxHeartbeats 2000000 in
theorem law7_longB (a : Option Addr) (c : Nat) (l : List Rw) (CA CB CC CD : Array Value) (sA sB : Bool) (M : World → Prop) (w : World) (hp : RwA w a l) (hm : l.length ≤ 9223372036854775807) (hM : ∀ X, Below w.heap.size w X → M X) (IA : (Tryd.prog.info? 58).map (·.size) = some CA.size) (IB : (Tryd.prog.info? 62).map (·.size) = some CB.size) (IC : (Tryd.prog.info? 64).map (·.size) = some CC.size) (ID : (Tryd.prog.info? 66).map (·.size) = some CD.size) (SS : ∀ X : World, Calls Tryd.prog 27 #[.agg CA] X fun e w' => e = .returned (.bool sA) ∧ Below X.heap.size X w') (SP : ∀ X : World, M X → Calls Tryd.prog 28 #[.agg CB] X fun e w' => e = .returned (.bool sB) ∧ Below X.heap.size X w') (hla : Hs.LaidC w) (hlk : Hs.LaidK w) (h : ¬ 30 < l.length) (hr : ringB l = true) (hsa : sA = true) (hsb : sB = false) : Calls Tryd.prog 7 #[.slice a l.length c, .agg CA, .agg CB, .agg CC, .agg CD] w fun e w' => e = .returned (.bool true) ∧ Below w.heap.size w w' := by
  have HLA := Lib.hid hla
  have HLK := Lib.hid hlk
  have HP := Lib.hid hp
  have HM := Lib.hid hM
  have SNT := Lib.hid (fun (X : World) (h : Hs.LaidC X) => sanity_any X h)
  have IA := Lib.hid IA
  have IB := Lib.hid IB
  have IC := Lib.hid IC
  have ID := Lib.hid ID
  have SS := Lib.hid SS
  have SP := Lib.hid SP
  have RG := Lib.hid (show ∀ X : World, RwA X a l → Calls Tryd.prog 11 #[.slice a l.length c] X fun e w' => e = .returned (.bool (ringB l)) ∧ Below X.heap.size X w' from fun X h => ring_any a c l X h hm)
  rw [hr] at RG
  subst hsa
  subst hsb
  obtain ⟨N, hN⟩ : ∃ N, l.length = N := ⟨_, rfl⟩
  simp only [hN] at RG
  rw [hN]
  rw [hN] at h
  have t1 : decide ((30 : Int) < (N : Int)) = false := decide_eq_false (by omega)
  clear h hr
  clear hla hlk hp hm hM hN
  obtain ⟨G, hG⟩ : ∃ G, w.heap.size = G := ⟨_, rfl⟩
  have HG := Lib.hid hG
  have KA := Lib.hid (show Blk ((((w.alloc (.cells CA 58)).alloc (.cells CB 62)).alloc (.cells CC 64)).alloc (.cells CD 66)) (G) 58 CA from (((Blk.new' _ _ _ _ hG rfl).alloc _).alloc _).alloc _)
  have KB := Lib.hid (show Blk ((((w.alloc (.cells CA 58)).alloc (.cells CB 62)).alloc (.cells CC 64)).alloc (.cells CD 66)) (G + 1) 62 CB from ((Blk.new' _ _ _ _ (by rw [World.size_alloc, hG]) rfl).alloc _).alloc _)
  have KC := Lib.hid (show Blk ((((w.alloc (.cells CA 58)).alloc (.cells CB 62)).alloc (.cells CC 64)).alloc (.cells CD 66)) (G + 1 + 1) 64 CC from (Blk.new' _ _ _ _ (by rw [World.size_alloc, World.size_alloc, hG]) rfl).alloc _)
  have KD := Lib.hid (show Blk ((((w.alloc (.cells CA 58)).alloc (.cells CB 62)).alloc (.cells CC 64)).alloc (.cells CD 66)) (G + 1 + 1 + 1) 66 CD from Blk.new' _ _ _ _ (by rw [World.size_alloc, World.size_alloc, World.size_alloc, hG]) rfl)
  have B0 := Lib.hid (show Below w.heap.size w ((((w.alloc (.cells CA 58)).alloc (.cells CB 62)).alloc (.cells CC 64)).alloc (.cells CD 66)) by (repeat' (first | (with_reducible exact Below.refl _ _) | (with_reducible assumption) | (with_reducible refine Below.alloc ?_ ?_ _) | (with_reducible refine Below.drew ?_) | (with_reducible refine below_dn ?_) | (with_reducible refine Below.setCell ?_ ?_ _) | (with_reducible exact Nat.le_refl _) | omega | (simp only [World.size_alloc, World.size_setCell, World.size_drew]; omega) | (simp; omega) | (simp; done))))
  go_enter Tryd.func7, Tryd.ntmps7
  go_upto_region 1 with (fail)
  try rw [hG]
  generalize hw0 : ((((w.alloc (.cells CA 58)).alloc (.cells CB 62)).alloc (.cells CC 64)).alloc (.cells CD 66)) = w0 at KA KB KC KD B0 ⊢
  clear hw0 hG
  go_wp2_with fail
  refine (RG.out _ (HP.out.mono B0.out)).mono ?_
  rintro e w1 ⟨rfl, hb⟩
  replace KA := Lib.hid (KA.out.below hb KA.out.lt)
  replace KB := Lib.hid (KB.out.below hb KB.out.lt)
  replace KC := Lib.hid (KC.out.below hb KC.out.lt)
  replace KD := Lib.hid (KD.out.below hb KD.out.lt)
  replace B0 := Lib.hid (B0.out.trans (hb.mono B0.out.size))
  clear hb
  go_wp2_with (with_reducible refine wpList_load_want (by kernel_rfl) 58 _ rfl (G) rfl 58 CA _ KA.out Tryd.underlying58 rfl IA.out ?_)
  refine (SS.out _).mono ?_
  rintro e w2 ⟨rfl, hb⟩
  replace KA := Lib.hid (KA.out.below hb KA.out.lt)
  replace KB := Lib.hid (KB.out.below hb KB.out.lt)
  replace KC := Lib.hid (KC.out.below hb KC.out.lt)
  replace KD := Lib.hid (KD.out.below hb KD.out.lt)
  replace B0 := Lib.hid (B0.out.trans (hb.mono B0.out.size))
  clear hb
  go_wp2_with (with_reducible refine wpList_load_want (by kernel_rfl) 62 _ rfl (G + 1) rfl 62 CB _ KB.out Tryd.underlying62 rfl IB.out ?_)
  refine (SP.out _ (HM.out _ B0.out)).mono ?_
  rintro e w3 ⟨rfl, hb⟩
  replace KA := Lib.hid (KA.out.below hb KA.out.lt)
  replace KB := Lib.hid (KB.out.below hb KB.out.lt)
  replace KC := Lib.hid (KC.out.below hb KC.out.lt)
  replace KD := Lib.hid (KD.out.below hb KD.out.lt)
  replace B0 := Lib.hid (B0.out.trans (hb.mono B0.out.size))
  clear hb
  go_wp2_with fail
  refine (SNT.out _ (HLA.out.below B0.out)).mono ?_
  rintro e w4 ⟨rfl, hb⟩
  replace KA := Lib.hid (KA.out.below hb KA.out.lt)
  replace KB := Lib.hid (KB.out.below hb KB.out.lt)
  replace KC := Lib.hid (KC.out.below hb KC.out.lt)
  replace KD := Lib.hid (KD.out.below hb KD.out.lt)
  replace B0 := Lib.hid (B0.out.trans (hb.mono B0.out.size))
  clear hb
  go_wp2
  go_ret
  exact ⟨rfl, B0.out⟩
set_option maxRecDepth 100000 in
set_option maxHeartbeats 2000000 in
theorem law7_ok (a : Option Addr) (c : Nat) (l : List Rw) (CA CB CC CD : Array Value) (sA sB : Bool) (M : World → Prop) (w : World) (hp : RwA w a l) (hm : l.length ≤ 9223372036854775807) (hM : ∀ X, Below w.heap.size w X → M X) (IA : (Tryd.prog.info? 58).map (·.size) = some CA.size) (IB : (Tryd.prog.info? 62).map (·.size) = some CB.size) (IC : (Tryd.prog.info? 64).map (·.size) = some CC.size) (ID : (Tryd.prog.info? 66).map (·.size) = some CD.size) (E1 E2 E3 E4 : Int) (F1 : ∀ X : World, RwA X a l → Hs.LaidC X → Calls Tryd.prog 47 #[.slice a l.length c, .agg CA] X fun e w' => e = .returned (.int .i64 E1) ∧ Below X.heap.size X w') (F2 : ∀ X : World, RwA X a l → Hs.LaidK X → Calls Tryd.prog 48 #[.slice a l.length c, .agg CA] X fun e w' => e = .returned (.int .i64 E1) ∧ Below X.heap.size X w') (F3 : ∀ X : World, RwA X a l → M X → Hs.LaidC X → Calls Tryd.prog 49 #[.slice a l.length c, .agg CB] X fun e w' => e = .returned (.int .i64 E2) ∧ Below X.heap.size X w') (F4 : ∀ X : World, RwA X a l → M X → Hs.LaidK X → Calls Tryd.prog 50 #[.slice a l.length c, .agg CB] X fun e w' => e = .returned (.int .i64 E2) ∧ Below X.heap.size X w') (F5 : ∀ X : World, RwA X a l → Hs.LaidC X → Calls Tryd.prog 51 #[.slice a l.length c, .agg CC] X fun e w' => e = .returned (.int .i64 E3) ∧ Below X.heap.size X w') (F6 : ∀ X : World, RwA X a l → Hs.LaidK X → Calls Tryd.prog 52 #[.slice a l.length c, .agg CC] X fun e w' => e = .returned (.int .i64 E3) ∧ Below X.heap.size X w') (F7 : ∀ X : World, RwA X a l → Hs.LaidC X → Calls Tryd.prog 53 #[.slice a l.length c, .agg CD] X fun e w' => e = .returned (.int .i64 E4) ∧ Below X.heap.size X w') (F8 : ∀ X : World, RwA X a l → Hs.LaidK X → Calls Tryd.prog 54 #[.slice a l.length c, .agg CD] X fun e w' => e = .returned (.int .i64 E4) ∧ Below X.heap.size X w') (SS : ∀ X : World, Calls Tryd.prog 27 #[.agg CA] X fun e w' => e = .returned (.bool sA) ∧ Below X.heap.size X w') (SP : ∀ X : World, M X → Calls Tryd.prog 28 #[.agg CB] X fun e w' => e = .returned (.bool sB) ∧ Below X.heap.size X w') (hla : Hs.LaidC w) (hlk : Hs.LaidK w) (h : ¬ 30 < l.length) (hr : ringB l = true) (hsa : sA = true) (hsb : sB = true) : Calls Tryd.prog 7 #[.slice a l.length c, .agg CA, .agg CB, .agg CC, .agg CD] w fun e w' => e = .returned (.bool true) ∧ Below w.heap.size w w' := by
  have HLA := Lib.hid hla
  have HLK := Lib.hid hlk
  have HP := Lib.hid hp
  have HM := Lib.hid hM
  have SNT := Lib.hid (fun (X : World) (h : Hs.LaidC X) => sanity_any X h)
  have IA := Lib.hid IA
  have IB := Lib.hid IB
  have IC := Lib.hid IC
  have ID := Lib.hid ID
  have SS := Lib.hid SS
  have SP := Lib.hid SP
  have F1 := Lib.hid F1
  have F2 := Lib.hid F2
  have F3 := Lib.hid F3
  have F4 := Lib.hid F4
  have F5 := Lib.hid F5
  have F6 := Lib.hid F6
  have F7 := Lib.hid F7
  have F8 := Lib.hid F8
  have RG := Lib.hid (show ∀ X : World, RwA X a l → Calls Tryd.prog 11 #[.slice a l.length c] X fun e w' => e = .returned (.bool (ringB l)) ∧ Below X.heap.size X w' from fun X h => ring_any a c l X h hm)
  rw [hr] at RG
  subst hsa
  subst hsb
  obtain ⟨N, hN⟩ : ∃ N, l.length = N := ⟨_, rfl⟩
  simp only [hN] at RG F1 F2 F3 F4 F5 F6 F7 F8
  rw [hN]
  rw [hN] at h
  have t1 : decide ((30 : Int) < (N : Int)) = false := decide_eq_false (by omega)
  clear h hr
  clear hla hlk hp hm hM hN
  obtain ⟨G, hG⟩ : ∃ G, w.heap.size = G := ⟨_, rfl⟩
  have HG := Lib.hid hG
  have KA := Lib.hid (show Blk ((((w.alloc (.cells CA 58)).alloc (.cells CB 62)).alloc (.cells CC 64)).alloc (.cells CD 66)) (G) 58 CA from (((Blk.new' _ _ _ _ hG rfl).alloc _).alloc _).alloc _)
  have KB := Lib.hid (show Blk ((((w.alloc (.cells CA 58)).alloc (.cells CB 62)).alloc (.cells CC 64)).alloc (.cells CD 66)) (G + 1) 62 CB from ((Blk.new' _ _ _ _ (by rw [World.size_alloc, hG]) rfl).alloc _).alloc _)
  have KC := Lib.hid (show Blk ((((w.alloc (.cells CA 58)).alloc (.cells CB 62)).alloc (.cells CC 64)).alloc (.cells CD 66)) (G + 1 + 1) 64 CC from (Blk.new' _ _ _ _ (by rw [World.size_alloc, World.size_alloc, hG]) rfl).alloc _)
  have KD := Lib.hid (show Blk ((((w.alloc (.cells CA 58)).alloc (.cells CB 62)).alloc (.cells CC 64)).alloc (.cells CD 66)) (G + 1 + 1 + 1) 66 CD from Blk.new' _ _ _ _ (by rw [World.size_alloc, World.size_alloc, World.size_alloc, hG]) rfl)
  have B0 := Lib.hid (show Below w.heap.size w ((((w.alloc (.cells CA 58)).alloc (.cells CB 62)).alloc (.cells CC 64)).alloc (.cells CD 66)) by (repeat' (first | (with_reducible exact Below.refl _ _) | (with_reducible assumption) | (with_reducible refine Below.alloc ?_ ?_ _) | (with_reducible refine Below.drew ?_) | (with_reducible refine below_dn ?_) | (with_reducible refine Below.setCell ?_ ?_ _) | (with_reducible exact Nat.le_refl _) | omega | (simp only [World.size_alloc, World.size_setCell, World.size_drew]; omega) | (simp; omega) | (simp; done))))
  go_enter Tryd.func7, Tryd.ntmps7
  go_upto_region 1 with (fail)
  try rw [hG]
  generalize hw0 : ((((w.alloc (.cells CA 58)).alloc (.cells CB 62)).alloc (.cells CC 64)).alloc (.cells CD 66)) = w0 at KA KB KC KD B0 ⊢
  clear hw0 hG
  go_wp2_with fail
  refine (RG.out _ (HP.out.mono B0.out)).mono ?_
  rintro e w1 ⟨rfl, hb⟩
  replace KA := Lib.hid (KA.out.below hb KA.out.lt)
  replace KB := Lib.hid (KB.out.below hb KB.out.lt)
  replace KC := Lib.hid (KC.out.below hb KC.out.lt)
  replace KD := Lib.hid (KD.out.below hb KD.out.lt)
  replace B0 := Lib.hid (B0.out.trans (hb.mono B0.out.size))
  clear hb
  go_wp2_with (with_reducible refine wpList_load_want (by kernel_rfl) 58 _ rfl (G) rfl 58 CA _ KA.out Tryd.underlying58 rfl IA.out ?_)
  refine (SS.out _).mono ?_
  rintro e w2 ⟨rfl, hb⟩
  replace KA := Lib.hid (KA.out.below hb KA.out.lt)
  replace KB := Lib.hid (KB.out.below hb KB.out.lt)
  replace KC := Lib.hid (KC.out.below hb KC.out.lt)
  replace KD := Lib.hid (KD.out.below hb KD.out.lt)
  replace B0 := Lib.hid (B0.out.trans (hb.mono B0.out.size))
  clear hb
  go_wp2_with (with_reducible refine wpList_load_want (by kernel_rfl) 62 _ rfl (G + 1) rfl 62 CB _ KB.out Tryd.underlying62 rfl IB.out ?_)
  refine (SP.out _ (HM.out _ B0.out)).mono ?_
  rintro e w3 ⟨rfl, hb⟩
  replace KA := Lib.hid (KA.out.below hb KA.out.lt)
  replace KB := Lib.hid (KB.out.below hb KB.out.lt)
  replace KC := Lib.hid (KC.out.below hb KC.out.lt)
  replace KD := Lib.hid (KD.out.below hb KD.out.lt)
  replace B0 := Lib.hid (B0.out.trans (hb.mono B0.out.size))
  clear hb
  go_upto_region 3 with (fail)
  refine wp_region_held_drew (S := fun W => Blk W (G) 58 CA ∧ Blk W (G + 1) 62 CB) (by kernel_rfl) ⟨KA.out.drew, KB.out.drew⟩ (fun hHeld => ?_)
  replace KC := Lib.hid KC.out.drew
  replace KD := Lib.hid KD.out.drew
  replace B0 := Lib.hid B0.out.drew
  generalize w0.drew = wp at KC KD B0 hHeld ⊢
  clear KA KB
  refine wpAnyH_take (i := 0) (v := .slice a N c) rfl (by kernel_rfl) (by kernel_rfl) (by kernel_rfl) (fun _ _ _ h => h) (Or.inl ⟨by rfl, fun W hW => by go_simp⟩) (by assumption) ?_
  (try simp only [Act.put, List.getElem_toArray, List.getElem_cons_succ, List.getElem_cons_zero, List.setIfInBounds_toArray, List.set_cons_zero, List.set_cons_succ])
  refine wpAnyH_take (i := 1) (v := .agg CA) rfl (by kernel_rfl) (by kernel_rfl) (by kernel_rfl) (fun _ _ _ h => h) (Or.inl ⟨by rfl, fun W hW => exec_load_row 58 _ rfl (G) rfl 58 CA (0, 0) _ hW.1 Tryd.underlying58 rfl IA.out⟩) (by assumption) ?_
  (try simp only [Act.put, List.getElem_toArray, List.getElem_cons_succ, List.getElem_cons_zero, List.setIfInBounds_toArray, List.set_cons_zero, List.set_cons_succ])
  refine wpAnyH_take (i := 3) (v := .slice a N c) rfl (by kernel_rfl) (by kernel_rfl) (by kernel_rfl) (fun _ _ _ h => h) (Or.inl ⟨by rfl, fun W hW => by go_simp⟩) (by assumption) ?_
  (try simp only [Act.put, List.getElem_toArray, List.getElem_cons_succ, List.getElem_cons_zero, List.setIfInBounds_toArray, List.set_cons_zero, List.set_cons_succ])
  refine wpAnyH_take (i := 4) (v := .agg CA) rfl (by kernel_rfl) (by kernel_rfl) (by kernel_rfl) (fun _ _ _ h => h) (Or.inl ⟨by rfl, fun W hW => exec_load_row 58 _ rfl (G) rfl 58 CA (0, 0) _ hW.1 Tryd.underlying58 rfl IA.out⟩) (by assumption) ?_
  (try simp only [Act.put, List.getElem_toArray, List.getElem_cons_succ, List.getElem_cons_zero, List.setIfInBounds_toArray, List.set_cons_zero, List.set_cons_succ])
  refine wpAnyH_ready (rs := [2]) (by kernel_rfl) (by simp) (AllReadyH.cons rfl (fun K hK => ?_) AllReadyH.nil)
  go_simp
  refine (F1.out _ (HP.out.mono B0.out) (HLA.out.below B0.out)).mono ?_
  rintro e9 wp_1 ⟨rfl, hb⟩
  replace KC := Lib.hid (KC.out.below hb KC.out.lt)
  replace KD := Lib.hid (KD.out.below hb KD.out.lt)
  replace B0 := Lib.hid (B0.out.trans (hb.mono B0.out.size))
  go_wp2_with fail
  refine hK _ _ ⟨hHeld.1.below hb hHeld.1.lt, hHeld.2.below hb hHeld.2.lt⟩ (fun wph1 => ?_)
  clear hK K hHeld hb
  (try simp only [Act.put, List.getElem_toArray, List.getElem_cons_succ, List.getElem_cons_zero, List.setIfInBounds_toArray, List.set_cons_zero, List.set_cons_succ])
  refine wpAnyH_ready (rs := [5]) (by kernel_rfl) (by simp) (AllReadyH.cons rfl (fun K hK => ?_) AllReadyH.nil)
  go_simp
  refine (F2.out _ (HP.out.mono B0.out) (HLK.out.mono B0.out)).mono ?_
  rintro e9 wp_2 ⟨rfl, hb⟩
  replace KC := Lib.hid (KC.out.below hb KC.out.lt)
  replace KD := Lib.hid (KD.out.below hb KD.out.lt)
  replace B0 := Lib.hid (B0.out.trans (hb.mono B0.out.size))
  go_wp2_with fail
  refine hK _ _ ⟨wph1.1.below hb wph1.1.lt, wph1.2.below hb wph1.2.lt⟩ (fun wph2 => ?_)
  clear hK K wph1 hb
  (try simp only [Act.put, List.getElem_toArray, List.getElem_cons_succ, List.getElem_cons_zero, List.setIfInBounds_toArray, List.set_cons_zero, List.set_cons_succ])
  refine wpAnyH_take (i := 6) (v := .bool true) rfl (by kernel_rfl) (by kernel_rfl) (by kernel_rfl) (fun _ _ _ h => h) (Or.inl ⟨by rfl, fun W hW => by go_simp⟩) (by assumption) ?_
  (try simp only [Act.put, List.getElem_toArray, List.getElem_cons_succ, List.getElem_cons_zero, List.setIfInBounds_toArray, List.set_cons_zero, List.set_cons_succ])
  refine wpAnyH_take (i := 7) (v := .bool true) rfl (by kernel_rfl) (by kernel_rfl) (by kernel_rfl) (fun _ _ _ h => h) (Or.inl ⟨by rfl, fun W hW => by go_simp⟩) (by assumption) ?_
  (try simp only [Act.put, List.getElem_toArray, List.getElem_cons_succ, List.getElem_cons_zero, List.setIfInBounds_toArray, List.set_cons_zero, List.set_cons_succ])
  refine wpAnyH_take (i := 8) (v := .slice a N c) rfl (by kernel_rfl) (by kernel_rfl) (by kernel_rfl) (fun _ _ _ h => h) (Or.inl ⟨by rfl, fun W hW => by go_simp⟩) (by assumption) ?_
  (try simp only [Act.put, List.getElem_toArray, List.getElem_cons_succ, List.getElem_cons_zero, List.setIfInBounds_toArray, List.set_cons_zero, List.set_cons_succ])
  refine wpAnyH_take (i := 9) (v := .agg CB) rfl (by kernel_rfl) (by kernel_rfl) (by kernel_rfl) (fun _ _ _ h => h) (Or.inl ⟨by rfl, fun W hW => exec_load_row 62 _ rfl (G + 1) rfl 62 CB (0, 0) _ hW.2 Tryd.underlying62 rfl IB.out⟩) (by assumption) ?_
  (try simp only [Act.put, List.getElem_toArray, List.getElem_cons_succ, List.getElem_cons_zero, List.setIfInBounds_toArray, List.set_cons_zero, List.set_cons_succ])
  refine wpAnyH_take (i := 11) (v := .slice a N c) rfl (by kernel_rfl) (by kernel_rfl) (by kernel_rfl) (fun _ _ _ h => h) (Or.inl ⟨by rfl, fun W hW => by go_simp⟩) (by assumption) ?_
  (try simp only [Act.put, List.getElem_toArray, List.getElem_cons_succ, List.getElem_cons_zero, List.setIfInBounds_toArray, List.set_cons_zero, List.set_cons_succ])
  refine wpAnyH_take (i := 12) (v := .agg CB) rfl (by kernel_rfl) (by kernel_rfl) (by kernel_rfl) (fun _ _ _ h => h) (Or.inl ⟨by rfl, fun W hW => exec_load_row 62 _ rfl (G + 1) rfl 62 CB (0, 0) _ hW.2 Tryd.underlying62 rfl IB.out⟩) (by assumption) ?_
  (try simp only [Act.put, List.getElem_toArray, List.getElem_cons_succ, List.getElem_cons_zero, List.setIfInBounds_toArray, List.set_cons_zero, List.set_cons_succ])
  refine wpAnyH_ready (rs := [10]) (by kernel_rfl) (by simp) (AllReadyH.cons rfl (fun K hK => ?_) AllReadyH.nil)
  go_simp
  refine (F3.out _ (HP.out.mono B0.out) (HM.out _ B0.out) (HLA.out.below B0.out)).mono ?_
  rintro e9 wp_3 ⟨rfl, hb⟩
  replace KC := Lib.hid (KC.out.below hb KC.out.lt)
  replace KD := Lib.hid (KD.out.below hb KD.out.lt)
  replace B0 := Lib.hid (B0.out.trans (hb.mono B0.out.size))
  go_wp2_with fail
  refine hK _ _ ⟨wph2.1.below hb wph2.1.lt, wph2.2.below hb wph2.2.lt⟩ (fun wph3 => ?_)
  clear hK K wph2 hb
  (try simp only [Act.put, List.getElem_toArray, List.getElem_cons_succ, List.getElem_cons_zero, List.setIfInBounds_toArray, List.set_cons_zero, List.set_cons_succ])
  refine wpAnyH_ready (rs := [13]) (by kernel_rfl) (by simp) (AllReadyH.cons rfl (fun K hK => ?_) AllReadyH.nil)
  go_simp
  refine (F4.out _ (HP.out.mono B0.out) (HM.out _ B0.out) (HLK.out.mono B0.out)).mono ?_
  rintro e9 wp_4 ⟨rfl, hb⟩
  replace KC := Lib.hid (KC.out.below hb KC.out.lt)
  replace KD := Lib.hid (KD.out.below hb KD.out.lt)
  replace B0 := Lib.hid (B0.out.trans (hb.mono B0.out.size))
  go_wp2_with fail
  refine hK _ _ ⟨wph3.1.below hb wph3.1.lt, wph3.2.below hb wph3.2.lt⟩ (fun wph4 => ?_)
  clear hK K wph3 hb
  (try simp only [Act.put, List.getElem_toArray, List.getElem_cons_succ, List.getElem_cons_zero, List.setIfInBounds_toArray, List.set_cons_zero, List.set_cons_succ])
  refine wpAnyH_take (i := 14) (v := .bool true) rfl (by kernel_rfl) (by kernel_rfl) (by kernel_rfl) (fun _ _ _ h => h) (Or.inl ⟨by rfl, fun W hW => by go_simp⟩) (by assumption) ?_
  (try simp only [Act.put, List.getElem_toArray, List.getElem_cons_succ, List.getElem_cons_zero, List.setIfInBounds_toArray, List.set_cons_zero, List.set_cons_succ])
  refine wpAnyH_take (i := 15) (v := .bool true) rfl (by kernel_rfl) (by kernel_rfl) (by kernel_rfl) (fun _ _ _ h => h) (Or.inl ⟨by rfl, fun W hW => by go_simp⟩) (by assumption) ?_
  (try simp only [Act.put, List.getElem_toArray, List.getElem_cons_succ, List.getElem_cons_zero, List.setIfInBounds_toArray, List.set_cons_zero, List.set_cons_succ])
  refine wpAnyH_take (i := 16) (v := .bool true) rfl (by kernel_rfl) (by kernel_rfl) (by kernel_rfl) (fun _ _ _ h => h) (Or.inl ⟨by rfl, fun W hW => by go_simp⟩) (by assumption) ?_
  (try simp only [Act.put, List.getElem_toArray, List.getElem_cons_succ, List.getElem_cons_zero, List.setIfInBounds_toArray, List.set_cons_zero, List.set_cons_succ])
  refine wpAnyH_done (by kernel_rfl) ?_ _
  have KA := Lib.hid wph4.1
  have KB := Lib.hid wph4.2
  clear wph4
  go_upto_region 4 with (fail)
  refine wp_region_held_drew (S := fun W => Blk W (G + 1 + 1) 64 CC ∧ Blk W (G + 1 + 1 + 1) 66 CD) (by kernel_rfl) ⟨KC.out.drew, KD.out.drew⟩ (fun hHeld => ?_)
  replace KA := Lib.hid KA.out.drew
  replace KB := Lib.hid KB.out.drew
  replace B0 := Lib.hid B0.out.drew
  generalize wp_4.drew = wq at KA KB B0 hHeld ⊢
  clear KC KD
  refine wpAnyH_ready (rs := [0]) (by kernel_rfl) (by simp) (AllReadyH.cons rfl (fun K hK => ?_) AllReadyH.nil)
  go_simp
  refine (SNT.out _ (HLA.out.below B0.out)).mono ?_
  rintro e9 wq_1 ⟨rfl, hb⟩
  replace KA := Lib.hid (KA.out.below hb KA.out.lt)
  replace KB := Lib.hid (KB.out.below hb KB.out.lt)
  replace B0 := Lib.hid (B0.out.trans (hb.mono B0.out.size))
  go_wp2_with fail
  refine hK _ _ ⟨hHeld.1.below hb hHeld.1.lt, hHeld.2.below hb hHeld.2.lt⟩ (fun wqh1 => ?_)
  clear hK K hHeld hb
  (try simp only [Act.put, List.getElem_toArray, List.getElem_cons_succ, List.getElem_cons_zero, List.setIfInBounds_toArray, List.set_cons_zero, List.set_cons_succ])
  refine wpAnyH_take (i := 1) (v := .bool true) rfl (by kernel_rfl) (by kernel_rfl) (by kernel_rfl) (fun _ _ _ h => h) (Or.inl ⟨by rfl, fun W hW => by go_simp⟩) (by assumption) ?_
  (try simp only [Act.put, List.getElem_toArray, List.getElem_cons_succ, List.getElem_cons_zero, List.setIfInBounds_toArray, List.set_cons_zero, List.set_cons_succ])
  refine wpAnyH_take (i := 2) (v := .bool true) rfl (by kernel_rfl) (by kernel_rfl) (by kernel_rfl) (fun _ _ _ h => h) (Or.inl ⟨by rfl, fun W hW => by go_simp⟩) (by assumption) ?_
  (try simp only [Act.put, List.getElem_toArray, List.getElem_cons_succ, List.getElem_cons_zero, List.setIfInBounds_toArray, List.set_cons_zero, List.set_cons_succ])
  refine wpAnyH_take (i := 3) (v := .bool true) rfl (by kernel_rfl) (by kernel_rfl) (by kernel_rfl) (fun _ _ _ h => h) (Or.inl ⟨by rfl, fun W hW => by go_simp⟩) (by assumption) ?_
  (try simp only [Act.put, List.getElem_toArray, List.getElem_cons_succ, List.getElem_cons_zero, List.setIfInBounds_toArray, List.set_cons_zero, List.set_cons_succ])
  refine wpAnyH_take (i := 4) (v := .bool true) rfl (by kernel_rfl) (by kernel_rfl) (by kernel_rfl) (fun _ _ _ h => h) (Or.inl ⟨by rfl, fun W hW => by go_simp⟩) (by assumption) ?_
  (try simp only [Act.put, List.getElem_toArray, List.getElem_cons_succ, List.getElem_cons_zero, List.setIfInBounds_toArray, List.set_cons_zero, List.set_cons_succ])
  refine wpAnyH_take (i := 5) (v := .slice a N c) rfl (by kernel_rfl) (by kernel_rfl) (by kernel_rfl) (fun _ _ _ h => h) (Or.inl ⟨by rfl, fun W hW => by go_simp⟩) (by assumption) ?_
  (try simp only [Act.put, List.getElem_toArray, List.getElem_cons_succ, List.getElem_cons_zero, List.setIfInBounds_toArray, List.set_cons_zero, List.set_cons_succ])
  refine wpAnyH_take (i := 6) (v := .agg CC) rfl (by kernel_rfl) (by kernel_rfl) (by kernel_rfl) (fun _ _ _ h => h) (Or.inl ⟨by rfl, fun W hW => exec_load_row 64 _ rfl (G + 1 + 1) rfl 64 CC (0, 0) _ hW.1 Tryd.underlying64 rfl IC.out⟩) (by assumption) ?_
  (try simp only [Act.put, List.getElem_toArray, List.getElem_cons_succ, List.getElem_cons_zero, List.setIfInBounds_toArray, List.set_cons_zero, List.set_cons_succ])
  refine wpAnyH_take (i := 8) (v := .slice a N c) rfl (by kernel_rfl) (by kernel_rfl) (by kernel_rfl) (fun _ _ _ h => h) (Or.inl ⟨by rfl, fun W hW => by go_simp⟩) (by assumption) ?_
  (try simp only [Act.put, List.getElem_toArray, List.getElem_cons_succ, List.getElem_cons_zero, List.setIfInBounds_toArray, List.set_cons_zero, List.set_cons_succ])
  refine wpAnyH_take (i := 9) (v := .agg CC) rfl (by kernel_rfl) (by kernel_rfl) (by kernel_rfl) (fun _ _ _ h => h) (Or.inl ⟨by rfl, fun W hW => exec_load_row 64 _ rfl (G + 1 + 1) rfl 64 CC (0, 0) _ hW.1 Tryd.underlying64 rfl IC.out⟩) (by assumption) ?_
  (try simp only [Act.put, List.getElem_toArray, List.getElem_cons_succ, List.getElem_cons_zero, List.setIfInBounds_toArray, List.set_cons_zero, List.set_cons_succ])
  refine wpAnyH_ready (rs := [7]) (by kernel_rfl) (by simp) (AllReadyH.cons rfl (fun K hK => ?_) AllReadyH.nil)
  go_simp
  refine (F5.out _ (HP.out.mono B0.out) (HLA.out.below B0.out)).mono ?_
  rintro e9 wq_2 ⟨rfl, hb⟩
  replace KA := Lib.hid (KA.out.below hb KA.out.lt)
  replace KB := Lib.hid (KB.out.below hb KB.out.lt)
  replace B0 := Lib.hid (B0.out.trans (hb.mono B0.out.size))
  go_wp2_with fail
  refine hK _ _ ⟨wqh1.1.below hb wqh1.1.lt, wqh1.2.below hb wqh1.2.lt⟩ (fun wqh2 => ?_)
  clear hK K wqh1 hb
  (try simp only [Act.put, List.getElem_toArray, List.getElem_cons_succ, List.getElem_cons_zero, List.setIfInBounds_toArray, List.set_cons_zero, List.set_cons_succ])
  refine wpAnyH_ready (rs := [10]) (by kernel_rfl) (by simp) (AllReadyH.cons rfl (fun K hK => ?_) AllReadyH.nil)
  go_simp
  refine (F6.out _ (HP.out.mono B0.out) (HLK.out.mono B0.out)).mono ?_
  rintro e9 wq_3 ⟨rfl, hb⟩
  replace KA := Lib.hid (KA.out.below hb KA.out.lt)
  replace KB := Lib.hid (KB.out.below hb KB.out.lt)
  replace B0 := Lib.hid (B0.out.trans (hb.mono B0.out.size))
  go_wp2_with fail
  refine hK _ _ ⟨wqh2.1.below hb wqh2.1.lt, wqh2.2.below hb wqh2.2.lt⟩ (fun wqh3 => ?_)
  clear hK K wqh2 hb
  (try simp only [Act.put, List.getElem_toArray, List.getElem_cons_succ, List.getElem_cons_zero, List.setIfInBounds_toArray, List.set_cons_zero, List.set_cons_succ])
  refine wpAnyH_take (i := 11) (v := .bool true) rfl (by kernel_rfl) (by kernel_rfl) (by kernel_rfl) (fun _ _ _ h => h) (Or.inl ⟨by rfl, fun W hW => by go_simp⟩) (by assumption) ?_
  (try simp only [Act.put, List.getElem_toArray, List.getElem_cons_succ, List.getElem_cons_zero, List.setIfInBounds_toArray, List.set_cons_zero, List.set_cons_succ])
  refine wpAnyH_take (i := 12) (v := .bool true) rfl (by kernel_rfl) (by kernel_rfl) (by kernel_rfl) (fun _ _ _ h => h) (Or.inl ⟨by rfl, fun W hW => by go_simp⟩) (by assumption) ?_
  (try simp only [Act.put, List.getElem_toArray, List.getElem_cons_succ, List.getElem_cons_zero, List.setIfInBounds_toArray, List.set_cons_zero, List.set_cons_succ])
  refine wpAnyH_take (i := 13) (v := .bool true) rfl (by kernel_rfl) (by kernel_rfl) (by kernel_rfl) (fun _ _ _ h => h) (Or.inl ⟨by rfl, fun W hW => by go_simp⟩) (by assumption) ?_
  (try simp only [Act.put, List.getElem_toArray, List.getElem_cons_succ, List.getElem_cons_zero, List.setIfInBounds_toArray, List.set_cons_zero, List.set_cons_succ])
  refine wpAnyH_take (i := 14) (v := .slice a N c) rfl (by kernel_rfl) (by kernel_rfl) (by kernel_rfl) (fun _ _ _ h => h) (Or.inl ⟨by rfl, fun W hW => by go_simp⟩) (by assumption) ?_
  (try simp only [Act.put, List.getElem_toArray, List.getElem_cons_succ, List.getElem_cons_zero, List.setIfInBounds_toArray, List.set_cons_zero, List.set_cons_succ])
  refine wpAnyH_take (i := 15) (v := .agg CD) rfl (by kernel_rfl) (by kernel_rfl) (by kernel_rfl) (fun _ _ _ h => h) (Or.inl ⟨by rfl, fun W hW => exec_load_row 66 _ rfl (G + 1 + 1 + 1) rfl 66 CD (0, 0) _ hW.2 Tryd.underlying66 rfl ID.out⟩) (by assumption) ?_
  (try simp only [Act.put, List.getElem_toArray, List.getElem_cons_succ, List.getElem_cons_zero, List.setIfInBounds_toArray, List.set_cons_zero, List.set_cons_succ])
  refine wpAnyH_take (i := 17) (v := .slice a N c) rfl (by kernel_rfl) (by kernel_rfl) (by kernel_rfl) (fun _ _ _ h => h) (Or.inl ⟨by rfl, fun W hW => by go_simp⟩) (by assumption) ?_
  (try simp only [Act.put, List.getElem_toArray, List.getElem_cons_succ, List.getElem_cons_zero, List.setIfInBounds_toArray, List.set_cons_zero, List.set_cons_succ])
  refine wpAnyH_take (i := 18) (v := .agg CD) rfl (by kernel_rfl) (by kernel_rfl) (by kernel_rfl) (fun _ _ _ h => h) (Or.inl ⟨by rfl, fun W hW => exec_load_row 66 _ rfl (G + 1 + 1 + 1) rfl 66 CD (0, 0) _ hW.2 Tryd.underlying66 rfl ID.out⟩) (by assumption) ?_
  (try simp only [Act.put, List.getElem_toArray, List.getElem_cons_succ, List.getElem_cons_zero, List.setIfInBounds_toArray, List.set_cons_zero, List.set_cons_succ])
  refine wpAnyH_ready (rs := [16]) (by kernel_rfl) (by simp) (AllReadyH.cons rfl (fun K hK => ?_) AllReadyH.nil)
  go_simp
  refine (F7.out _ (HP.out.mono B0.out) (HLA.out.below B0.out)).mono ?_
  rintro e9 wq_4 ⟨rfl, hb⟩
  replace KA := Lib.hid (KA.out.below hb KA.out.lt)
  replace KB := Lib.hid (KB.out.below hb KB.out.lt)
  replace B0 := Lib.hid (B0.out.trans (hb.mono B0.out.size))
  go_wp2_with fail
  refine hK _ _ ⟨wqh3.1.below hb wqh3.1.lt, wqh3.2.below hb wqh3.2.lt⟩ (fun wqh4 => ?_)
  clear hK K wqh3 hb
  (try simp only [Act.put, List.getElem_toArray, List.getElem_cons_succ, List.getElem_cons_zero, List.setIfInBounds_toArray, List.set_cons_zero, List.set_cons_succ])
  refine wpAnyH_ready (rs := [19]) (by kernel_rfl) (by simp) (AllReadyH.cons rfl (fun K hK => ?_) AllReadyH.nil)
  go_simp
  refine (F8.out _ (HP.out.mono B0.out) (HLK.out.mono B0.out)).mono ?_
  rintro e9 wq_5 ⟨rfl, hb⟩
  replace KA := Lib.hid (KA.out.below hb KA.out.lt)
  replace KB := Lib.hid (KB.out.below hb KB.out.lt)
  replace B0 := Lib.hid (B0.out.trans (hb.mono B0.out.size))
  go_wp2_with fail
  refine hK _ _ ⟨wqh4.1.below hb wqh4.1.lt, wqh4.2.below hb wqh4.2.lt⟩ (fun wqh5 => ?_)
  clear hK K wqh4 hb
  (try simp only [Act.put, List.getElem_toArray, List.getElem_cons_succ, List.getElem_cons_zero, List.setIfInBounds_toArray, List.set_cons_zero, List.set_cons_succ])
  refine wpAnyH_take (i := 20) (v := .bool true) rfl (by kernel_rfl) (by kernel_rfl) (by kernel_rfl) (fun _ _ _ h => h) (Or.inl ⟨by rfl, fun W hW => by go_simp⟩) (by assumption) ?_
  (try simp only [Act.put, List.getElem_toArray, List.getElem_cons_succ, List.getElem_cons_zero, List.setIfInBounds_toArray, List.set_cons_zero, List.set_cons_succ])
  refine wpAnyH_take (i := 21) (v := .bool true) rfl (by kernel_rfl) (by kernel_rfl) (by kernel_rfl) (fun _ _ _ h => h) (Or.inl ⟨by rfl, fun W hW => by go_simp⟩) (by assumption) ?_
  (try simp only [Act.put, List.getElem_toArray, List.getElem_cons_succ, List.getElem_cons_zero, List.setIfInBounds_toArray, List.set_cons_zero, List.set_cons_succ])
  refine wpAnyH_take (i := 22) (v := .bool true) rfl (by kernel_rfl) (by kernel_rfl) (by kernel_rfl) (fun _ _ _ h => h) (Or.inl ⟨by rfl, fun W hW => by go_simp⟩) (by assumption) ?_
  (try simp only [Act.put, List.getElem_toArray, List.getElem_cons_succ, List.getElem_cons_zero, List.setIfInBounds_toArray, List.set_cons_zero, List.set_cons_succ])
  refine wpAnyH_done (by kernel_rfl) ?_ _
  have KC := Lib.hid wqh5.1
  have KD := Lib.hid wqh5.2
  clear wqh5
  go_wp2
  go_ret
  exact ⟨rfl, B0.out⟩
end Go.Proofs.YtcdcnklfcmoiiaaDoor
