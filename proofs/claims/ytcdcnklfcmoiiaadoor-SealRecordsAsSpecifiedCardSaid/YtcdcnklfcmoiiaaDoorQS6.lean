/- Contracts: law 6 of chapter 4. -/
import Derived.Test.YtcdcnklfcmoiiaaDoorQZC
import Derived.Test.YtcdcnklfcmoiiaaDoorQRT
import Derived.Test.YtcdcnklfcmoiiaaDoorQSE
import Derived.Test.YtcdcnklfcmoiiaaDoorQSR
import Derived.Test.YtcdcnklfcmoiiaaDoorQSQ
namespace Go.Proofs.YtcdcnklfcmoiiaaDoor
set_option linter.unusedVariables false
set_option linter.unusedSimpArgs false
open Go.RowKit Go.Sort
set_option maxRecDepth 100000 in
set_option maxHeartbeats 2000000 in
theorem law6_bad (CK CA CB CC CD : Array Value) (vB sA sB : Bool) (M : World → Prop) (w : World) (hM : ∀ X, Below w.heap.size w X → M X) (IK : (Tryd.prog.info? 24).map (·.size) = some CK.size) (IA : (Tryd.prog.info? 58).map (·.size) = some CA.size) (IB : (Tryd.prog.info? 62).map (·.size) = some CB.size) (IC : (Tryd.prog.info? 64).map (·.size) = some CC.size) (ID : (Tryd.prog.info? 66).map (·.size) = some CD.size) (VV : ∀ X : World, Calls Tryd.prog 10 #[.agg CK] X fun e w' => e = .returned (.bool vB) ∧ Below X.heap.size X w') (SS : ∀ X : World, Calls Tryd.prog 27 #[.agg CA] X fun e w' => e = .returned (.bool sA) ∧ Below X.heap.size X w') (SP : ∀ X : World, M X → Calls Tryd.prog 28 #[.agg CB] X fun e w' => e = .returned (.bool sB) ∧ Below X.heap.size X w') (hla : Hs.LaidC w) (hlk : Hs.LaidK w) (hv : vB = false) : Calls Tryd.prog 6 #[.agg CK, .agg CA, .agg CB, .agg CC, .agg CD] w fun e w' => e = .returned (.bool true) ∧ Below w.heap.size w w' := by
  subst hv
  have HLA := Lib.hid hla
  have HLK := Lib.hid hlk
  have HM := Lib.hid hM
  have SNT := Lib.hid (fun (X : World) (h : Hs.LaidC X) => sanity_any X h)
  have IK := Lib.hid IK
  have IA := Lib.hid IA
  have IB := Lib.hid IB
  have IC := Lib.hid IC
  have ID := Lib.hid ID
  have VV := Lib.hid VV
  have SS := Lib.hid SS
  have SP := Lib.hid SP
  clear hla hlk hM
  obtain ⟨G, hG⟩ : ∃ G, w.heap.size = G := ⟨_, rfl⟩
  have HG := Lib.hid hG
  have KK := Lib.hid (show Blk (((((w.alloc (.cells CK 24)).alloc (.cells CA 58)).alloc (.cells CB 62)).alloc (.cells CC 64)).alloc (.cells CD 66)) (G) 24 CK from ((((Blk.new' _ _ _ _ hG rfl).alloc _).alloc _).alloc _).alloc _)
  have KA := Lib.hid (show Blk (((((w.alloc (.cells CK 24)).alloc (.cells CA 58)).alloc (.cells CB 62)).alloc (.cells CC 64)).alloc (.cells CD 66)) (G + 1) 58 CA from (((Blk.new' _ _ _ _ (by rw [World.size_alloc, hG]) rfl).alloc _).alloc _).alloc _)
  have KB := Lib.hid (show Blk (((((w.alloc (.cells CK 24)).alloc (.cells CA 58)).alloc (.cells CB 62)).alloc (.cells CC 64)).alloc (.cells CD 66)) (G + 1 + 1) 62 CB from ((Blk.new' _ _ _ _ (by rw [World.size_alloc, World.size_alloc, hG]) rfl).alloc _).alloc _)
  have KC := Lib.hid (show Blk (((((w.alloc (.cells CK 24)).alloc (.cells CA 58)).alloc (.cells CB 62)).alloc (.cells CC 64)).alloc (.cells CD 66)) (G + 1 + 1 + 1) 64 CC from (Blk.new' _ _ _ _ (by rw [World.size_alloc, World.size_alloc, World.size_alloc, hG]) rfl).alloc _)
  have KD := Lib.hid (show Blk (((((w.alloc (.cells CK 24)).alloc (.cells CA 58)).alloc (.cells CB 62)).alloc (.cells CC 64)).alloc (.cells CD 66)) (G + 1 + 1 + 1 + 1) 66 CD from Blk.new' _ _ _ _ (by rw [World.size_alloc, World.size_alloc, World.size_alloc, World.size_alloc, hG]) rfl)
  have B0 := Lib.hid (show Below w.heap.size w (((((w.alloc (.cells CK 24)).alloc (.cells CA 58)).alloc (.cells CB 62)).alloc (.cells CC 64)).alloc (.cells CD 66)) by (repeat' (first | (with_reducible exact Below.refl _ _) | (with_reducible assumption) | (with_reducible refine Below.alloc ?_ ?_ _) | (with_reducible refine Below.drew ?_) | (with_reducible refine below_dn ?_) | (with_reducible refine Below.setCell ?_ ?_ _) | (with_reducible exact Nat.le_refl _) | omega | (simp only [World.size_alloc, World.size_setCell, World.size_drew]; omega) | (simp; omega) | (simp; done))))
  go_enter Tryd.func6, Tryd.ntmps6
  go_upto_region 1 with (fail)
  try rw [hG]
  generalize hw0 : (((((w.alloc (.cells CK 24)).alloc (.cells CA 58)).alloc (.cells CB 62)).alloc (.cells CC 64)).alloc (.cells CD 66)) = w0 at KK KA KB KC KD B0 ⊢
  clear hw0 hG
  have HkK := Lib.hid (show Hs.Blk w0 (G) 24 CK from KK.out)
  go_wp2_with (with_reducible refine Hs.wpList_load_all rfl 24 _ rfl (G) rfl 24 CK _ HkK.out Tryd.underlying24 IK.out ?_)
  refine (VV.out _).mono ?_
  rintro e w1 ⟨rfl, hb⟩
  replace KK := Lib.hid (KK.out.below hb KK.out.lt)
  replace KA := Lib.hid (KA.out.below hb KA.out.lt)
  replace KB := Lib.hid (KB.out.below hb KB.out.lt)
  replace KC := Lib.hid (KC.out.below hb KC.out.lt)
  replace KD := Lib.hid (KD.out.below hb KD.out.lt)
  replace B0 := Lib.hid (B0.out.trans (hb.mono B0.out.size))
  clear hb
  clear HkK
  go_wp2_with fail
  refine (SNT.out _ (HLA.out.below B0.out)).mono ?_
  rintro e w2 ⟨rfl, hb⟩
  replace KK := Lib.hid (KK.out.below hb KK.out.lt)
  replace KA := Lib.hid (KA.out.below hb KA.out.lt)
  replace KB := Lib.hid (KB.out.below hb KB.out.lt)
  replace KC := Lib.hid (KC.out.below hb KC.out.lt)
  replace KD := Lib.hid (KD.out.below hb KD.out.lt)
  replace B0 := Lib.hid (B0.out.trans (hb.mono B0.out.size))
  clear hb
  go_wp2
  go_ret
  exact ⟨rfl, B0.out⟩
set_option maxRecDepth 100000 in
set_option maxHeartbeats 2000000 in
theorem law6_longA (CK CA CB CC CD : Array Value) (vB sA sB : Bool) (M : World → Prop) (w : World) (hM : ∀ X, Below w.heap.size w X → M X) (IK : (Tryd.prog.info? 24).map (·.size) = some CK.size) (IA : (Tryd.prog.info? 58).map (·.size) = some CA.size) (IB : (Tryd.prog.info? 62).map (·.size) = some CB.size) (IC : (Tryd.prog.info? 64).map (·.size) = some CC.size) (ID : (Tryd.prog.info? 66).map (·.size) = some CD.size) (VV : ∀ X : World, Calls Tryd.prog 10 #[.agg CK] X fun e w' => e = .returned (.bool vB) ∧ Below X.heap.size X w') (SS : ∀ X : World, Calls Tryd.prog 27 #[.agg CA] X fun e w' => e = .returned (.bool sA) ∧ Below X.heap.size X w') (SP : ∀ X : World, M X → Calls Tryd.prog 28 #[.agg CB] X fun e w' => e = .returned (.bool sB) ∧ Below X.heap.size X w') (hla : Hs.LaidC w) (hlk : Hs.LaidK w) (hv : vB = true) (hsa : sA = false) : Calls Tryd.prog 6 #[.agg CK, .agg CA, .agg CB, .agg CC, .agg CD] w fun e w' => e = .returned (.bool true) ∧ Below w.heap.size w w' := by
  subst hv
  subst hsa
  have HLA := Lib.hid hla
  have HLK := Lib.hid hlk
  have HM := Lib.hid hM
  have SNT := Lib.hid (fun (X : World) (h : Hs.LaidC X) => sanity_any X h)
  have IK := Lib.hid IK
  have IA := Lib.hid IA
  have IB := Lib.hid IB
  have IC := Lib.hid IC
  have ID := Lib.hid ID
  have VV := Lib.hid VV
  have SS := Lib.hid SS
  have SP := Lib.hid SP
  clear hla hlk hM
  obtain ⟨G, hG⟩ : ∃ G, w.heap.size = G := ⟨_, rfl⟩
  have HG := Lib.hid hG
  have KK := Lib.hid (show Blk (((((w.alloc (.cells CK 24)).alloc (.cells CA 58)).alloc (.cells CB 62)).alloc (.cells CC 64)).alloc (.cells CD 66)) (G) 24 CK from ((((Blk.new' _ _ _ _ hG rfl).alloc _).alloc _).alloc _).alloc _)
  have KA := Lib.hid (show Blk (((((w.alloc (.cells CK 24)).alloc (.cells CA 58)).alloc (.cells CB 62)).alloc (.cells CC 64)).alloc (.cells CD 66)) (G + 1) 58 CA from (((Blk.new' _ _ _ _ (by rw [World.size_alloc, hG]) rfl).alloc _).alloc _).alloc _)
  have KB := Lib.hid (show Blk (((((w.alloc (.cells CK 24)).alloc (.cells CA 58)).alloc (.cells CB 62)).alloc (.cells CC 64)).alloc (.cells CD 66)) (G + 1 + 1) 62 CB from ((Blk.new' _ _ _ _ (by rw [World.size_alloc, World.size_alloc, hG]) rfl).alloc _).alloc _)
  have KC := Lib.hid (show Blk (((((w.alloc (.cells CK 24)).alloc (.cells CA 58)).alloc (.cells CB 62)).alloc (.cells CC 64)).alloc (.cells CD 66)) (G + 1 + 1 + 1) 64 CC from (Blk.new' _ _ _ _ (by rw [World.size_alloc, World.size_alloc, World.size_alloc, hG]) rfl).alloc _)
  have KD := Lib.hid (show Blk (((((w.alloc (.cells CK 24)).alloc (.cells CA 58)).alloc (.cells CB 62)).alloc (.cells CC 64)).alloc (.cells CD 66)) (G + 1 + 1 + 1 + 1) 66 CD from Blk.new' _ _ _ _ (by rw [World.size_alloc, World.size_alloc, World.size_alloc, World.size_alloc, hG]) rfl)
  have B0 := Lib.hid (show Below w.heap.size w (((((w.alloc (.cells CK 24)).alloc (.cells CA 58)).alloc (.cells CB 62)).alloc (.cells CC 64)).alloc (.cells CD 66)) by (repeat' (first | (with_reducible exact Below.refl _ _) | (with_reducible assumption) | (with_reducible refine Below.alloc ?_ ?_ _) | (with_reducible refine Below.drew ?_) | (with_reducible refine below_dn ?_) | (with_reducible refine Below.setCell ?_ ?_ _) | (with_reducible exact Nat.le_refl _) | omega | (simp only [World.size_alloc, World.size_setCell, World.size_drew]; omega) | (simp; omega) | (simp; done))))
  go_enter Tryd.func6, Tryd.ntmps6
  go_upto_region 1 with (fail)
  try rw [hG]
  generalize hw0 : (((((w.alloc (.cells CK 24)).alloc (.cells CA 58)).alloc (.cells CB 62)).alloc (.cells CC 64)).alloc (.cells CD 66)) = w0 at KK KA KB KC KD B0 ⊢
  clear hw0 hG
  have HkK := Lib.hid (show Hs.Blk w0 (G) 24 CK from KK.out)
  go_wp2_with (with_reducible refine Hs.wpList_load_all rfl 24 _ rfl (G) rfl 24 CK _ HkK.out Tryd.underlying24 IK.out ?_)
  refine (VV.out _).mono ?_
  rintro e w1 ⟨rfl, hb⟩
  replace KK := Lib.hid (KK.out.below hb KK.out.lt)
  replace KA := Lib.hid (KA.out.below hb KA.out.lt)
  replace KB := Lib.hid (KB.out.below hb KB.out.lt)
  replace KC := Lib.hid (KC.out.below hb KC.out.lt)
  replace KD := Lib.hid (KD.out.below hb KD.out.lt)
  replace B0 := Lib.hid (B0.out.trans (hb.mono B0.out.size))
  clear hb
  clear HkK
  go_wp2_with (with_reducible refine wpList_load_want (by kernel_rfl) 58 _ rfl (G + 1) rfl 58 CA _ KA.out Tryd.underlying58 rfl IA.out ?_)
  refine (SS.out _).mono ?_
  rintro e w2 ⟨rfl, hb⟩
  replace KK := Lib.hid (KK.out.below hb KK.out.lt)
  replace KA := Lib.hid (KA.out.below hb KA.out.lt)
  replace KB := Lib.hid (KB.out.below hb KB.out.lt)
  replace KC := Lib.hid (KC.out.below hb KC.out.lt)
  replace KD := Lib.hid (KD.out.below hb KD.out.lt)
  replace B0 := Lib.hid (B0.out.trans (hb.mono B0.out.size))
  clear hb
  go_wp2_with fail
  refine (SNT.out _ (HLA.out.below B0.out)).mono ?_
  rintro e w3 ⟨rfl, hb⟩
  replace KK := Lib.hid (KK.out.below hb KK.out.lt)
  replace KA := Lib.hid (KA.out.below hb KA.out.lt)
  replace KB := Lib.hid (KB.out.below hb KB.out.lt)
  replace KC := Lib.hid (KC.out.below hb KC.out.lt)
  replace KD := Lib.hid (KD.out.below hb KD.out.lt)
  replace B0 := Lib.hid (B0.out.trans (hb.mono B0.out.size))
  clear hb
  go_wp2
  go_ret
  exact ⟨rfl, B0.out⟩
set_option maxRecDepth 100000 in
set_option maxHeartbeats 2000000 in
theorem law6_longB (CK CA CB CC CD : Array Value) (vB sA sB : Bool) (M : World → Prop) (w : World) (hM : ∀ X, Below w.heap.size w X → M X) (IK : (Tryd.prog.info? 24).map (·.size) = some CK.size) (IA : (Tryd.prog.info? 58).map (·.size) = some CA.size) (IB : (Tryd.prog.info? 62).map (·.size) = some CB.size) (IC : (Tryd.prog.info? 64).map (·.size) = some CC.size) (ID : (Tryd.prog.info? 66).map (·.size) = some CD.size) (VV : ∀ X : World, Calls Tryd.prog 10 #[.agg CK] X fun e w' => e = .returned (.bool vB) ∧ Below X.heap.size X w') (SS : ∀ X : World, Calls Tryd.prog 27 #[.agg CA] X fun e w' => e = .returned (.bool sA) ∧ Below X.heap.size X w') (SP : ∀ X : World, M X → Calls Tryd.prog 28 #[.agg CB] X fun e w' => e = .returned (.bool sB) ∧ Below X.heap.size X w') (hla : Hs.LaidC w) (hlk : Hs.LaidK w) (hv : vB = true) (hsa : sA = true) (hsb : sB = false) : Calls Tryd.prog 6 #[.agg CK, .agg CA, .agg CB, .agg CC, .agg CD] w fun e w' => e = .returned (.bool true) ∧ Below w.heap.size w w' := by
  subst hv
  subst hsa
  subst hsb
  have HLA := Lib.hid hla
  have HLK := Lib.hid hlk
  have HM := Lib.hid hM
  have SNT := Lib.hid (fun (X : World) (h : Hs.LaidC X) => sanity_any X h)
  have IK := Lib.hid IK
  have IA := Lib.hid IA
  have IB := Lib.hid IB
  have IC := Lib.hid IC
  have ID := Lib.hid ID
  have VV := Lib.hid VV
  have SS := Lib.hid SS
  have SP := Lib.hid SP
  clear hla hlk hM
  obtain ⟨G, hG⟩ : ∃ G, w.heap.size = G := ⟨_, rfl⟩
  have HG := Lib.hid hG
  have KK := Lib.hid (show Blk (((((w.alloc (.cells CK 24)).alloc (.cells CA 58)).alloc (.cells CB 62)).alloc (.cells CC 64)).alloc (.cells CD 66)) (G) 24 CK from ((((Blk.new' _ _ _ _ hG rfl).alloc _).alloc _).alloc _).alloc _)
  have KA := Lib.hid (show Blk (((((w.alloc (.cells CK 24)).alloc (.cells CA 58)).alloc (.cells CB 62)).alloc (.cells CC 64)).alloc (.cells CD 66)) (G + 1) 58 CA from (((Blk.new' _ _ _ _ (by rw [World.size_alloc, hG]) rfl).alloc _).alloc _).alloc _)
  have KB := Lib.hid (show Blk (((((w.alloc (.cells CK 24)).alloc (.cells CA 58)).alloc (.cells CB 62)).alloc (.cells CC 64)).alloc (.cells CD 66)) (G + 1 + 1) 62 CB from ((Blk.new' _ _ _ _ (by rw [World.size_alloc, World.size_alloc, hG]) rfl).alloc _).alloc _)
  have KC := Lib.hid (show Blk (((((w.alloc (.cells CK 24)).alloc (.cells CA 58)).alloc (.cells CB 62)).alloc (.cells CC 64)).alloc (.cells CD 66)) (G + 1 + 1 + 1) 64 CC from (Blk.new' _ _ _ _ (by rw [World.size_alloc, World.size_alloc, World.size_alloc, hG]) rfl).alloc _)
  have KD := Lib.hid (show Blk (((((w.alloc (.cells CK 24)).alloc (.cells CA 58)).alloc (.cells CB 62)).alloc (.cells CC 64)).alloc (.cells CD 66)) (G + 1 + 1 + 1 + 1) 66 CD from Blk.new' _ _ _ _ (by rw [World.size_alloc, World.size_alloc, World.size_alloc, World.size_alloc, hG]) rfl)
  have B0 := Lib.hid (show Below w.heap.size w (((((w.alloc (.cells CK 24)).alloc (.cells CA 58)).alloc (.cells CB 62)).alloc (.cells CC 64)).alloc (.cells CD 66)) by (repeat' (first | (with_reducible exact Below.refl _ _) | (with_reducible assumption) | (with_reducible refine Below.alloc ?_ ?_ _) | (with_reducible refine Below.drew ?_) | (with_reducible refine below_dn ?_) | (with_reducible refine Below.setCell ?_ ?_ _) | (with_reducible exact Nat.le_refl _) | omega | (simp only [World.size_alloc, World.size_setCell, World.size_drew]; omega) | (simp; omega) | (simp; done))))
  go_enter Tryd.func6, Tryd.ntmps6
  go_upto_region 1 with (fail)
  try rw [hG]
  generalize hw0 : (((((w.alloc (.cells CK 24)).alloc (.cells CA 58)).alloc (.cells CB 62)).alloc (.cells CC 64)).alloc (.cells CD 66)) = w0 at KK KA KB KC KD B0 ⊢
  clear hw0 hG
  have HkK := Lib.hid (show Hs.Blk w0 (G) 24 CK from KK.out)
  go_wp2_with (with_reducible refine Hs.wpList_load_all rfl 24 _ rfl (G) rfl 24 CK _ HkK.out Tryd.underlying24 IK.out ?_)
  refine (VV.out _).mono ?_
  rintro e w1 ⟨rfl, hb⟩
  replace KK := Lib.hid (KK.out.below hb KK.out.lt)
  replace KA := Lib.hid (KA.out.below hb KA.out.lt)
  replace KB := Lib.hid (KB.out.below hb KB.out.lt)
  replace KC := Lib.hid (KC.out.below hb KC.out.lt)
  replace KD := Lib.hid (KD.out.below hb KD.out.lt)
  replace B0 := Lib.hid (B0.out.trans (hb.mono B0.out.size))
  clear hb
  clear HkK
  go_wp2_with (with_reducible refine wpList_load_want (by kernel_rfl) 58 _ rfl (G + 1) rfl 58 CA _ KA.out Tryd.underlying58 rfl IA.out ?_)
  refine (SS.out _).mono ?_
  rintro e w2 ⟨rfl, hb⟩
  replace KK := Lib.hid (KK.out.below hb KK.out.lt)
  replace KA := Lib.hid (KA.out.below hb KA.out.lt)
  replace KB := Lib.hid (KB.out.below hb KB.out.lt)
  replace KC := Lib.hid (KC.out.below hb KC.out.lt)
  replace KD := Lib.hid (KD.out.below hb KD.out.lt)
  replace B0 := Lib.hid (B0.out.trans (hb.mono B0.out.size))
  clear hb
  go_wp2_with (with_reducible refine wpList_load_want (by kernel_rfl) 62 _ rfl (G + 1 + 1) rfl 62 CB _ KB.out Tryd.underlying62 rfl IB.out ?_)
  refine (SP.out _ (HM.out _ B0.out)).mono ?_
  rintro e w3 ⟨rfl, hb⟩
  replace KK := Lib.hid (KK.out.below hb KK.out.lt)
  replace KA := Lib.hid (KA.out.below hb KA.out.lt)
  replace KB := Lib.hid (KB.out.below hb KB.out.lt)
  replace KC := Lib.hid (KC.out.below hb KC.out.lt)
  replace KD := Lib.hid (KD.out.below hb KD.out.lt)
  replace B0 := Lib.hid (B0.out.trans (hb.mono B0.out.size))
  clear hb
  go_wp2_with fail
  refine (SNT.out _ (HLA.out.below B0.out)).mono ?_
  rintro e w4 ⟨rfl, hb⟩
  replace KK := Lib.hid (KK.out.below hb KK.out.lt)
  replace KA := Lib.hid (KA.out.below hb KA.out.lt)
  replace KB := Lib.hid (KB.out.below hb KB.out.lt)
  replace KC := Lib.hid (KC.out.below hb KC.out.lt)
  replace KD := Lib.hid (KD.out.below hb KD.out.lt)
  replace B0 := Lib.hid (B0.out.trans (hb.mono B0.out.size))
  clear hb
  go_wp2
  go_ret
  exact ⟨rfl, B0.out⟩
set_option maxRecDepth 100000 in
set_option maxHeartbeats 2000000 in
theorem law6_ok (CK CA CB CC CD : Array Value) (vB sA sB : Bool) (M : World → Prop) (w : World) (hM : ∀ X, Below w.heap.size w X → M X) (IK : (Tryd.prog.info? 24).map (·.size) = some CK.size) (IA : (Tryd.prog.info? 58).map (·.size) = some CA.size) (IB : (Tryd.prog.info? 62).map (·.size) = some CB.size) (IC : (Tryd.prog.info? 64).map (·.size) = some CC.size) (ID : (Tryd.prog.info? 66).map (·.size) = some CD.size) (LA LB LC LD : List ByteArray) (VA VC VD : Array Value) (Q : World → Value → Prop) (P1 : ∀ X : World, Calls Tryd.prog 30 #[.agg CA] X fun e w' => (∃ a c, e = .returned (.slice a LA.length c) ∧ StR w' a LA) ∧ Below X.heap.size X w') (P2 : ∀ X : World, Calls Tryd.prog 31 #[.agg CA] X fun e w' => (∃ a c, e = .returned (.slice a LA.length c) ∧ StR w' a LA) ∧ Below X.heap.size X w') (P3 : ∀ X : World, M X → Calls Tryd.prog 32 #[.agg CB] X fun e w' => (∃ a c, e = .returned (.slice a LB.length c) ∧ StR w' a LB) ∧ Below X.heap.size X w') (P4 : ∀ X : World, M X → Calls Tryd.prog 33 #[.agg CB] X fun e w' => (∃ a c, e = .returned (.slice a LB.length c) ∧ StR w' a LB) ∧ Below X.heap.size X w') (P5 : ∀ X : World, Calls Tryd.prog 34 #[.agg CC] X fun e w' => (∃ a c, e = .returned (.slice a LC.length c) ∧ StR w' a LC) ∧ Below X.heap.size X w') (P6 : ∀ X : World, Calls Tryd.prog 35 #[.agg CC] X fun e w' => (∃ a c, e = .returned (.slice a LC.length c) ∧ StR w' a LC) ∧ Below X.heap.size X w') (P7 : ∀ X : World, Calls Tryd.prog 36 #[.agg CD] X fun e w' => (∃ a c, e = .returned (.slice a LD.length c) ∧ StR w' a LD) ∧ Below X.heap.size X w') (P8 : ∀ X : World, Calls Tryd.prog 37 #[.agg CD] X fun e w' => (∃ a c, e = .returned (.slice a LD.length c) ∧ StR w' a LD) ∧ Below X.heap.size X w') (hLA : LA.length ≤ 1000000) (hLB : LB.length ≤ 1000000) (hLC : LC.length ≤ 1000000) (hLD : LD.length ≤ 1000000) (Z1 : ∀ X : World, Hs.LaidC X → Calls Tryd.prog 38 #[.agg CK, .agg CA] X fun e w' => e = .returned (.agg VA) ∧ Below X.heap.size X w') (Z2 : ∀ X : World, Hs.LaidK X → Calls Tryd.prog 39 #[.agg CK, .agg CA] X fun e w' => e = .returned (.agg VA) ∧ Below X.heap.size X w') (Z3 : ∀ X : World, M X → Hs.LaidC X → Calls Tryd.prog 41 #[.agg CK, .agg CB] X fun e w' => (∃ v, e = .returned v ∧ Q w' v) ∧ Below X.heap.size X w') (Z4 : ∀ X : World, M X → Hs.LaidK X → Calls Tryd.prog 42 #[.agg CK, .agg CB] X fun e w' => (∃ v, e = .returned v ∧ Q w' v) ∧ Below X.heap.size X w') (QM : ∀ (X Y : World) (v : Value), Q X v → Below X.heap.size X Y → Q Y v) (Z9 : ∀ (X : World) (u v : Value), Q X u → Q X v → Calls Tryd.prog 40 #[u, v] X fun e w' => e = .returned (.bool true) ∧ Below X.heap.size X w') (Z5 : ∀ X : World, Hs.LaidC X → Calls Tryd.prog 43 #[.agg CK, .agg CC] X fun e w' => e = .returned (.agg VC) ∧ Below X.heap.size X w') (Z6 : ∀ X : World, Hs.LaidK X → Calls Tryd.prog 44 #[.agg CK, .agg CC] X fun e w' => e = .returned (.agg VC) ∧ Below X.heap.size X w') (Z7 : ∀ X : World, Hs.LaidC X → Calls Tryd.prog 45 #[.agg CK, .agg CD] X fun e w' => e = .returned (.agg VD) ∧ Below X.heap.size X w') (Z8 : ∀ X : World, Hs.LaidK X → Calls Tryd.prog 46 #[.agg CK, .agg CD] X fun e w' => e = .returned (.agg VD) ∧ Below X.heap.size X w') (EQA : ∀ W : World, (Op.equalIn 10000 58 (.agg VA) (.agg VA)).run Tryd.prog W = .ok true W) (EQC : ∀ W : World, (Op.equalIn 10000 64 (.agg VC) (.agg VC)).run Tryd.prog W = .ok true W) (EQD : ∀ W : World, (Op.equalIn 10000 66 (.agg VD) (.agg VD)).run Tryd.prog W = .ok true W) (VV : ∀ X : World, Calls Tryd.prog 10 #[.agg CK] X fun e w' => e = .returned (.bool vB) ∧ Below X.heap.size X w') (SS : ∀ X : World, Calls Tryd.prog 27 #[.agg CA] X fun e w' => e = .returned (.bool sA) ∧ Below X.heap.size X w') (SP : ∀ X : World, M X → Calls Tryd.prog 28 #[.agg CB] X fun e w' => e = .returned (.bool sB) ∧ Below X.heap.size X w') (hla : Hs.LaidC w) (hlk : Hs.LaidK w) (hv : vB = true) (hsa : sA = true) (hsb : sB = true) : Calls Tryd.prog 6 #[.agg CK, .agg CA, .agg CB, .agg CC, .agg CD] w fun e w' => e = .returned (.bool true) ∧ Below w.heap.size w w' := by
  subst hv
  subst hsa
  subst hsb
  have HLA := Lib.hid hla
  have HLK := Lib.hid hlk
  have HM := Lib.hid hM
  have SNT := Lib.hid (fun (X : World) (h : Hs.LaidC X) => sanity_any X h)
  have IK := Lib.hid IK
  have IA := Lib.hid IA
  have IB := Lib.hid IB
  have IC := Lib.hid IC
  have ID := Lib.hid ID
  have VV := Lib.hid VV
  have SS := Lib.hid SS
  have SP := Lib.hid SP
  have P1 := Lib.hid P1
  have P2 := Lib.hid P2
  have P3 := Lib.hid P3
  have P4 := Lib.hid P4
  have P5 := Lib.hid P5
  have P6 := Lib.hid P6
  have P7 := Lib.hid P7
  have P8 := Lib.hid P8
  have Z1 := Lib.hid Z1
  have Z2 := Lib.hid Z2
  have Z3 := Lib.hid Z3
  have Z4 := Lib.hid Z4
  have Z5 := Lib.hid Z5
  have Z6 := Lib.hid Z6
  have Z7 := Lib.hid Z7
  have Z8 := Lib.hid Z8
  have Z9 := Lib.hid Z9
  have QM := Lib.hid QM
  have EQA := Lib.hid EQA
  have EQC := Lib.hid EQC
  have EQD := Lib.hid EQD
  have STA := Lib.hid (fun (a b : Option Addr) (c c2 : Nat) (X : World) (ha : StR X a LA) (hb : StR X b LA) => sameTexts_any a b c c2 LA X ha hb hLA)
  have STB := Lib.hid (fun (a b : Option Addr) (c c2 : Nat) (X : World) (ha : StR X a LB) (hb : StR X b LB) => sameTexts_any a b c c2 LB X ha hb hLB)
  have STC := Lib.hid (fun (a b : Option Addr) (c c2 : Nat) (X : World) (ha : StR X a LC) (hb : StR X b LC) => sameTexts_any a b c c2 LC X ha hb hLC)
  have STD := Lib.hid (fun (a b : Option Addr) (c c2 : Nat) (X : World) (ha : StR X a LD) (hb : StR X b LD) => sameTexts_any a b c c2 LD X ha hb hLD)
  clear hLA hLB hLC hLD
  obtain ⟨nA, hnA⟩ : ∃ n, LA.length = n := ⟨_, rfl⟩
  simp only [hnA] at STA P1 P2
  clear hnA
  obtain ⟨nB, hnB⟩ : ∃ n, LB.length = n := ⟨_, rfl⟩
  simp only [hnB] at STB P3 P4
  clear hnB
  obtain ⟨nC, hnC⟩ : ∃ n, LC.length = n := ⟨_, rfl⟩
  simp only [hnC] at STC P5 P6
  clear hnC
  obtain ⟨nD, hnD⟩ : ∃ n, LD.length = n := ⟨_, rfl⟩
  simp only [hnD] at STD P7 P8
  clear hnD
  clear hla hlk hM
  obtain ⟨G, hG⟩ : ∃ G, w.heap.size = G := ⟨_, rfl⟩
  have HG := Lib.hid hG
  have KK := Lib.hid (show Blk (((((w.alloc (.cells CK 24)).alloc (.cells CA 58)).alloc (.cells CB 62)).alloc (.cells CC 64)).alloc (.cells CD 66)) (G) 24 CK from ((((Blk.new' _ _ _ _ hG rfl).alloc _).alloc _).alloc _).alloc _)
  have KA := Lib.hid (show Blk (((((w.alloc (.cells CK 24)).alloc (.cells CA 58)).alloc (.cells CB 62)).alloc (.cells CC 64)).alloc (.cells CD 66)) (G + 1) 58 CA from (((Blk.new' _ _ _ _ (by rw [World.size_alloc, hG]) rfl).alloc _).alloc _).alloc _)
  have KB := Lib.hid (show Blk (((((w.alloc (.cells CK 24)).alloc (.cells CA 58)).alloc (.cells CB 62)).alloc (.cells CC 64)).alloc (.cells CD 66)) (G + 1 + 1) 62 CB from ((Blk.new' _ _ _ _ (by rw [World.size_alloc, World.size_alloc, hG]) rfl).alloc _).alloc _)
  have KC := Lib.hid (show Blk (((((w.alloc (.cells CK 24)).alloc (.cells CA 58)).alloc (.cells CB 62)).alloc (.cells CC 64)).alloc (.cells CD 66)) (G + 1 + 1 + 1) 64 CC from (Blk.new' _ _ _ _ (by rw [World.size_alloc, World.size_alloc, World.size_alloc, hG]) rfl).alloc _)
  have KD := Lib.hid (show Blk (((((w.alloc (.cells CK 24)).alloc (.cells CA 58)).alloc (.cells CB 62)).alloc (.cells CC 64)).alloc (.cells CD 66)) (G + 1 + 1 + 1 + 1) 66 CD from Blk.new' _ _ _ _ (by rw [World.size_alloc, World.size_alloc, World.size_alloc, World.size_alloc, hG]) rfl)
  have B0 := Lib.hid (show Below w.heap.size w (((((w.alloc (.cells CK 24)).alloc (.cells CA 58)).alloc (.cells CB 62)).alloc (.cells CC 64)).alloc (.cells CD 66)) by (repeat' (first | (with_reducible exact Below.refl _ _) | (with_reducible assumption) | (with_reducible refine Below.alloc ?_ ?_ _) | (with_reducible refine Below.drew ?_) | (with_reducible refine below_dn ?_) | (with_reducible refine Below.setCell ?_ ?_ _) | (with_reducible exact Nat.le_refl _) | omega | (simp only [World.size_alloc, World.size_setCell, World.size_drew]; omega) | (simp; omega) | (simp; done))))
  go_enter Tryd.func6, Tryd.ntmps6
  go_upto_region 1 with (fail)
  try rw [hG]
  generalize hw0 : (((((w.alloc (.cells CK 24)).alloc (.cells CA 58)).alloc (.cells CB 62)).alloc (.cells CC 64)).alloc (.cells CD 66)) = w0 at KK KA KB KC KD B0 ⊢
  clear hw0 hG
  have HkK := Lib.hid (show Hs.Blk w0 (G) 24 CK from KK.out)
  go_wp2_with (with_reducible refine Hs.wpList_load_all rfl 24 _ rfl (G) rfl 24 CK _ HkK.out Tryd.underlying24 IK.out ?_)
  refine (VV.out _).mono ?_
  rintro e w1 ⟨rfl, hb⟩
  replace KK := Lib.hid (KK.out.below hb KK.out.lt)
  replace KA := Lib.hid (KA.out.below hb KA.out.lt)
  replace KB := Lib.hid (KB.out.below hb KB.out.lt)
  replace KC := Lib.hid (KC.out.below hb KC.out.lt)
  replace KD := Lib.hid (KD.out.below hb KD.out.lt)
  replace B0 := Lib.hid (B0.out.trans (hb.mono B0.out.size))
  clear hb
  clear HkK
  go_wp2_with (with_reducible refine wpList_load_want (by kernel_rfl) 58 _ rfl (G + 1) rfl 58 CA _ KA.out Tryd.underlying58 rfl IA.out ?_)
  refine (SS.out _).mono ?_
  rintro e w2 ⟨rfl, hb⟩
  replace KK := Lib.hid (KK.out.below hb KK.out.lt)
  replace KA := Lib.hid (KA.out.below hb KA.out.lt)
  replace KB := Lib.hid (KB.out.below hb KB.out.lt)
  replace KC := Lib.hid (KC.out.below hb KC.out.lt)
  replace KD := Lib.hid (KD.out.below hb KD.out.lt)
  replace B0 := Lib.hid (B0.out.trans (hb.mono B0.out.size))
  clear hb
  go_wp2_with (with_reducible refine wpList_load_want (by kernel_rfl) 62 _ rfl (G + 1 + 1) rfl 62 CB _ KB.out Tryd.underlying62 rfl IB.out ?_)
  refine (SP.out _ (HM.out _ B0.out)).mono ?_
  rintro e w3 ⟨rfl, hb⟩
  replace KK := Lib.hid (KK.out.below hb KK.out.lt)
  replace KA := Lib.hid (KA.out.below hb KA.out.lt)
  replace KB := Lib.hid (KB.out.below hb KB.out.lt)
  replace KC := Lib.hid (KC.out.below hb KC.out.lt)
  replace KD := Lib.hid (KD.out.below hb KD.out.lt)
  replace B0 := Lib.hid (B0.out.trans (hb.mono B0.out.size))
  clear hb
  go_upto_region 3 with (fail)
  refine wp_region_held_drew (S := fun W => Blk W (G + 1) 58 CA ∧ Blk W (G + 1 + 1) 62 CB) (by kernel_rfl) ⟨KA.out.drew, KB.out.drew⟩ (fun hHeld => ?_)
  replace KK := Lib.hid KK.out.drew
  replace KC := Lib.hid KC.out.drew
  replace KD := Lib.hid KD.out.drew
  replace B0 := Lib.hid B0.out.drew
  generalize w3.drew = wp at KK KC KD B0 hHeld ⊢
  clear KA KB
  refine wpAnyH_take (i := 0) (v := .agg CA) rfl (by kernel_rfl) (by kernel_rfl) (by kernel_rfl) (fun _ _ _ h => h) (Or.inl ⟨by rfl, fun W hW => exec_load_row 58 _ rfl (G + 1) rfl 58 CA (0, 0) _ hW.1 Tryd.underlying58 rfl IA.out⟩) (by assumption) ?_
  (try simp only [Act.put, List.getElem_toArray, List.getElem_cons_succ, List.getElem_cons_zero, List.setIfInBounds_toArray, List.set_cons_zero, List.set_cons_succ])
  refine wpAnyH_take (i := 2) (v := .agg CA) rfl (by kernel_rfl) (by kernel_rfl) (by kernel_rfl) (fun _ _ _ h => h) (Or.inl ⟨by rfl, fun W hW => exec_load_row 58 _ rfl (G + 1) rfl 58 CA (0, 0) _ hW.1 Tryd.underlying58 rfl IA.out⟩) (by assumption) ?_
  (try simp only [Act.put, List.getElem_toArray, List.getElem_cons_succ, List.getElem_cons_zero, List.setIfInBounds_toArray, List.set_cons_zero, List.set_cons_succ])
  refine wpAnyH_ready (rs := [1]) (by kernel_rfl) (by simp) (AllReadyH.cons rfl (fun K hK => ?_) AllReadyH.nil)
  go_simp
  refine (P1.out _).mono ?_
  rintro e9 wp_1 ⟨⟨a1, c1, rfl, hr⟩, hb⟩
  have T1 := Lib.hid hr
  clear hr
  replace KK := Lib.hid (KK.out.below hb KK.out.lt)
  replace KC := Lib.hid (KC.out.below hb KC.out.lt)
  replace KD := Lib.hid (KD.out.below hb KD.out.lt)
  replace B0 := Lib.hid (B0.out.trans (hb.mono B0.out.size))
  go_wp2_with fail
  refine hK _ _ ⟨hHeld.1.below hb hHeld.1.lt, hHeld.2.below hb hHeld.2.lt⟩ (fun wph1 => ?_)
  clear hK K hHeld hb
  (try simp only [Act.put, List.getElem_toArray, List.getElem_cons_succ, List.getElem_cons_zero, List.setIfInBounds_toArray, List.set_cons_zero, List.set_cons_succ])
  refine wpAnyH_ready (rs := [3]) (by kernel_rfl) (by simp) (AllReadyH.cons rfl (fun K hK => ?_) AllReadyH.nil)
  go_simp
  refine (P2.out _).mono ?_
  rintro e9 wp_2 ⟨⟨a2, c2, rfl, hr⟩, hb⟩
  replace T1 := Lib.hid (T1.out.mono hb)
  have T2 := Lib.hid hr
  clear hr
  replace KK := Lib.hid (KK.out.below hb KK.out.lt)
  replace KC := Lib.hid (KC.out.below hb KC.out.lt)
  replace KD := Lib.hid (KD.out.below hb KD.out.lt)
  replace B0 := Lib.hid (B0.out.trans (hb.mono B0.out.size))
  go_wp2_with fail
  refine hK _ _ ⟨wph1.1.below hb wph1.1.lt, wph1.2.below hb wph1.2.lt⟩ (fun wph2 => ?_)
  clear hK K wph1 hb
  (try simp only [Act.put, List.getElem_toArray, List.getElem_cons_succ, List.getElem_cons_zero, List.setIfInBounds_toArray, List.set_cons_zero, List.set_cons_succ])
  refine wpAnyH_ready (rs := [4]) (by kernel_rfl) (by simp) (AllReadyH.cons rfl (fun K hK => ?_) AllReadyH.nil)
  go_simp
  refine (STA.out a1 a2 c1 c2 _ T1.out T2.out).mono ?_
  rintro e9 wp_3 ⟨rfl, hb⟩
  replace T1 := Lib.hid (T1.out.mono hb)
  replace T2 := Lib.hid (T2.out.mono hb)
  replace KK := Lib.hid (KK.out.below hb KK.out.lt)
  replace KC := Lib.hid (KC.out.below hb KC.out.lt)
  replace KD := Lib.hid (KD.out.below hb KD.out.lt)
  replace B0 := Lib.hid (B0.out.trans (hb.mono B0.out.size))
  go_wp2_with fail
  refine hK _ _ ⟨wph2.1.below hb wph2.1.lt, wph2.2.below hb wph2.2.lt⟩ (fun wph3 => ?_)
  clear hK K wph2 hb
  (try simp only [Act.put, List.getElem_toArray, List.getElem_cons_succ, List.getElem_cons_zero, List.setIfInBounds_toArray, List.set_cons_zero, List.set_cons_succ])
  refine wpAnyH_take (i := 5) (v := .bool true) rfl (by kernel_rfl) (by kernel_rfl) (by kernel_rfl) (fun _ _ _ h => h) (Or.inl ⟨by rfl, fun W hW => by go_simp⟩) (by assumption) ?_
  (try simp only [Act.put, List.getElem_toArray, List.getElem_cons_succ, List.getElem_cons_zero, List.setIfInBounds_toArray, List.set_cons_zero, List.set_cons_succ])
  refine wpAnyH_take (i := 6) (v := .agg CB) rfl (by kernel_rfl) (by kernel_rfl) (by kernel_rfl) (fun _ _ _ h => h) (Or.inl ⟨by rfl, fun W hW => exec_load_row 62 _ rfl (G + 1 + 1) rfl 62 CB (0, 0) _ hW.2 Tryd.underlying62 rfl IB.out⟩) (by assumption) ?_
  (try simp only [Act.put, List.getElem_toArray, List.getElem_cons_succ, List.getElem_cons_zero, List.setIfInBounds_toArray, List.set_cons_zero, List.set_cons_succ])
  refine wpAnyH_take (i := 8) (v := .agg CB) rfl (by kernel_rfl) (by kernel_rfl) (by kernel_rfl) (fun _ _ _ h => h) (Or.inl ⟨by rfl, fun W hW => exec_load_row 62 _ rfl (G + 1 + 1) rfl 62 CB (0, 0) _ hW.2 Tryd.underlying62 rfl IB.out⟩) (by assumption) ?_
  (try simp only [Act.put, List.getElem_toArray, List.getElem_cons_succ, List.getElem_cons_zero, List.setIfInBounds_toArray, List.set_cons_zero, List.set_cons_succ])
  refine wpAnyH_ready (rs := [7]) (by kernel_rfl) (by simp) (AllReadyH.cons rfl (fun K hK => ?_) AllReadyH.nil)
  go_simp
  refine (P3.out _ (HM.out _ B0.out)).mono ?_
  rintro e9 wp_4 ⟨⟨a3, c3, rfl, hr⟩, hb⟩
  replace T1 := Lib.hid (T1.out.mono hb)
  replace T2 := Lib.hid (T2.out.mono hb)
  have T3 := Lib.hid hr
  clear hr
  replace KK := Lib.hid (KK.out.below hb KK.out.lt)
  replace KC := Lib.hid (KC.out.below hb KC.out.lt)
  replace KD := Lib.hid (KD.out.below hb KD.out.lt)
  replace B0 := Lib.hid (B0.out.trans (hb.mono B0.out.size))
  go_wp2_with fail
  refine hK _ _ ⟨wph3.1.below hb wph3.1.lt, wph3.2.below hb wph3.2.lt⟩ (fun wph4 => ?_)
  clear hK K wph3 hb
  (try simp only [Act.put, List.getElem_toArray, List.getElem_cons_succ, List.getElem_cons_zero, List.setIfInBounds_toArray, List.set_cons_zero, List.set_cons_succ])
  refine wpAnyH_ready (rs := [9]) (by kernel_rfl) (by simp) (AllReadyH.cons rfl (fun K hK => ?_) AllReadyH.nil)
  go_simp
  refine (P4.out _ (HM.out _ B0.out)).mono ?_
  rintro e9 wp_5 ⟨⟨a4, c4, rfl, hr⟩, hb⟩
  replace T1 := Lib.hid (T1.out.mono hb)
  replace T2 := Lib.hid (T2.out.mono hb)
  replace T3 := Lib.hid (T3.out.mono hb)
  have T4 := Lib.hid hr
  clear hr
  replace KK := Lib.hid (KK.out.below hb KK.out.lt)
  replace KC := Lib.hid (KC.out.below hb KC.out.lt)
  replace KD := Lib.hid (KD.out.below hb KD.out.lt)
  replace B0 := Lib.hid (B0.out.trans (hb.mono B0.out.size))
  go_wp2_with fail
  refine hK _ _ ⟨wph4.1.below hb wph4.1.lt, wph4.2.below hb wph4.2.lt⟩ (fun wph5 => ?_)
  clear hK K wph4 hb
  (try simp only [Act.put, List.getElem_toArray, List.getElem_cons_succ, List.getElem_cons_zero, List.setIfInBounds_toArray, List.set_cons_zero, List.set_cons_succ])
  refine wpAnyH_ready (rs := [10]) (by kernel_rfl) (by simp) (AllReadyH.cons rfl (fun K hK => ?_) AllReadyH.nil)
  go_simp
  refine (STB.out a3 a4 c3 c4 _ T3.out T4.out).mono ?_
  rintro e9 wp_6 ⟨rfl, hb⟩
  replace T1 := Lib.hid (T1.out.mono hb)
  replace T2 := Lib.hid (T2.out.mono hb)
  replace T3 := Lib.hid (T3.out.mono hb)
  replace T4 := Lib.hid (T4.out.mono hb)
  replace KK := Lib.hid (KK.out.below hb KK.out.lt)
  replace KC := Lib.hid (KC.out.below hb KC.out.lt)
  replace KD := Lib.hid (KD.out.below hb KD.out.lt)
  replace B0 := Lib.hid (B0.out.trans (hb.mono B0.out.size))
  go_wp2_with fail
  refine hK _ _ ⟨wph5.1.below hb wph5.1.lt, wph5.2.below hb wph5.2.lt⟩ (fun wph6 => ?_)
  clear hK K wph5 hb
  (try simp only [Act.put, List.getElem_toArray, List.getElem_cons_succ, List.getElem_cons_zero, List.setIfInBounds_toArray, List.set_cons_zero, List.set_cons_succ])
  refine wpAnyH_take (i := 11) (v := .bool true) rfl (by kernel_rfl) (by kernel_rfl) (by kernel_rfl) (fun _ _ _ h => h) (Or.inl ⟨by rfl, fun W hW => by go_simp⟩) (by assumption) ?_
  (try simp only [Act.put, List.getElem_toArray, List.getElem_cons_succ, List.getElem_cons_zero, List.setIfInBounds_toArray, List.set_cons_zero, List.set_cons_succ])
  refine wpAnyH_take (i := 12) (v := .bool true) rfl (by kernel_rfl) (by kernel_rfl) (by kernel_rfl) (fun _ _ _ h => h) (Or.inl ⟨by rfl, fun W hW => by go_simp⟩) (by assumption) ?_
  (try simp only [Act.put, List.getElem_toArray, List.getElem_cons_succ, List.getElem_cons_zero, List.setIfInBounds_toArray, List.set_cons_zero, List.set_cons_succ])
  refine wpAnyH_done (by kernel_rfl) ?_ _
  have KA := Lib.hid wph6.1
  have KB := Lib.hid wph6.2
  clear wph6 T1 T2 T3 T4
  go_upto_region 4 with (fail)
  refine wp_region_held_drew (S := fun W => Blk W (G + 1 + 1 + 1) 64 CC ∧ Blk W (G + 1 + 1 + 1 + 1) 66 CD) (by kernel_rfl) ⟨KC.out.drew, KD.out.drew⟩ (fun hHeld => ?_)
  replace KK := Lib.hid KK.out.drew
  replace KA := Lib.hid KA.out.drew
  replace KB := Lib.hid KB.out.drew
  replace B0 := Lib.hid B0.out.drew
  generalize wp_6.drew = wq at KK KA KB B0 hHeld ⊢
  clear KC KD
  refine wpAnyH_take (i := 0) (v := .agg CC) rfl (by kernel_rfl) (by kernel_rfl) (by kernel_rfl) (fun _ _ _ h => h) (Or.inl ⟨by rfl, fun W hW => exec_load_row 64 _ rfl (G + 1 + 1 + 1) rfl 64 CC (0, 0) _ hW.1 Tryd.underlying64 rfl IC.out⟩) (by assumption) ?_
  (try simp only [Act.put, List.getElem_toArray, List.getElem_cons_succ, List.getElem_cons_zero, List.setIfInBounds_toArray, List.set_cons_zero, List.set_cons_succ])
  refine wpAnyH_take (i := 2) (v := .agg CC) rfl (by kernel_rfl) (by kernel_rfl) (by kernel_rfl) (fun _ _ _ h => h) (Or.inl ⟨by rfl, fun W hW => exec_load_row 64 _ rfl (G + 1 + 1 + 1) rfl 64 CC (0, 0) _ hW.1 Tryd.underlying64 rfl IC.out⟩) (by assumption) ?_
  (try simp only [Act.put, List.getElem_toArray, List.getElem_cons_succ, List.getElem_cons_zero, List.setIfInBounds_toArray, List.set_cons_zero, List.set_cons_succ])
  refine wpAnyH_ready (rs := [1]) (by kernel_rfl) (by simp) (AllReadyH.cons rfl (fun K hK => ?_) AllReadyH.nil)
  go_simp
  refine (P5.out _).mono ?_
  rintro e9 wq_1 ⟨⟨a5, c5, rfl, hr⟩, hb⟩
  have T5 := Lib.hid hr
  clear hr
  replace KK := Lib.hid (KK.out.below hb KK.out.lt)
  replace KA := Lib.hid (KA.out.below hb KA.out.lt)
  replace KB := Lib.hid (KB.out.below hb KB.out.lt)
  replace B0 := Lib.hid (B0.out.trans (hb.mono B0.out.size))
  go_wp2_with fail
  refine hK _ _ ⟨hHeld.1.below hb hHeld.1.lt, hHeld.2.below hb hHeld.2.lt⟩ (fun wqh1 => ?_)
  clear hK K hHeld hb
  (try simp only [Act.put, List.getElem_toArray, List.getElem_cons_succ, List.getElem_cons_zero, List.setIfInBounds_toArray, List.set_cons_zero, List.set_cons_succ])
  refine wpAnyH_ready (rs := [3]) (by kernel_rfl) (by simp) (AllReadyH.cons rfl (fun K hK => ?_) AllReadyH.nil)
  go_simp
  refine (P6.out _).mono ?_
  rintro e9 wq_2 ⟨⟨a6, c6, rfl, hr⟩, hb⟩
  replace T5 := Lib.hid (T5.out.mono hb)
  have T6 := Lib.hid hr
  clear hr
  replace KK := Lib.hid (KK.out.below hb KK.out.lt)
  replace KA := Lib.hid (KA.out.below hb KA.out.lt)
  replace KB := Lib.hid (KB.out.below hb KB.out.lt)
  replace B0 := Lib.hid (B0.out.trans (hb.mono B0.out.size))
  go_wp2_with fail
  refine hK _ _ ⟨wqh1.1.below hb wqh1.1.lt, wqh1.2.below hb wqh1.2.lt⟩ (fun wqh2 => ?_)
  clear hK K wqh1 hb
  (try simp only [Act.put, List.getElem_toArray, List.getElem_cons_succ, List.getElem_cons_zero, List.setIfInBounds_toArray, List.set_cons_zero, List.set_cons_succ])
  refine wpAnyH_ready (rs := [4]) (by kernel_rfl) (by simp) (AllReadyH.cons rfl (fun K hK => ?_) AllReadyH.nil)
  go_simp
  refine (STC.out a5 a6 c5 c6 _ T5.out T6.out).mono ?_
  rintro e9 wq_3 ⟨rfl, hb⟩
  replace T5 := Lib.hid (T5.out.mono hb)
  replace T6 := Lib.hid (T6.out.mono hb)
  replace KK := Lib.hid (KK.out.below hb KK.out.lt)
  replace KA := Lib.hid (KA.out.below hb KA.out.lt)
  replace KB := Lib.hid (KB.out.below hb KB.out.lt)
  replace B0 := Lib.hid (B0.out.trans (hb.mono B0.out.size))
  go_wp2_with fail
  refine hK _ _ ⟨wqh2.1.below hb wqh2.1.lt, wqh2.2.below hb wqh2.2.lt⟩ (fun wqh3 => ?_)
  clear hK K wqh2 hb
  (try simp only [Act.put, List.getElem_toArray, List.getElem_cons_succ, List.getElem_cons_zero, List.setIfInBounds_toArray, List.set_cons_zero, List.set_cons_succ])
  refine wpAnyH_take (i := 5) (v := .bool true) rfl (by kernel_rfl) (by kernel_rfl) (by kernel_rfl) (fun _ _ _ h => h) (Or.inl ⟨by rfl, fun W hW => by go_simp⟩) (by assumption) ?_
  (try simp only [Act.put, List.getElem_toArray, List.getElem_cons_succ, List.getElem_cons_zero, List.setIfInBounds_toArray, List.set_cons_zero, List.set_cons_succ])
  refine wpAnyH_take (i := 6) (v := .agg CD) rfl (by kernel_rfl) (by kernel_rfl) (by kernel_rfl) (fun _ _ _ h => h) (Or.inl ⟨by rfl, fun W hW => exec_load_row 66 _ rfl (G + 1 + 1 + 1 + 1) rfl 66 CD (0, 0) _ hW.2 Tryd.underlying66 rfl ID.out⟩) (by assumption) ?_
  (try simp only [Act.put, List.getElem_toArray, List.getElem_cons_succ, List.getElem_cons_zero, List.setIfInBounds_toArray, List.set_cons_zero, List.set_cons_succ])
  refine wpAnyH_take (i := 8) (v := .agg CD) rfl (by kernel_rfl) (by kernel_rfl) (by kernel_rfl) (fun _ _ _ h => h) (Or.inl ⟨by rfl, fun W hW => exec_load_row 66 _ rfl (G + 1 + 1 + 1 + 1) rfl 66 CD (0, 0) _ hW.2 Tryd.underlying66 rfl ID.out⟩) (by assumption) ?_
  (try simp only [Act.put, List.getElem_toArray, List.getElem_cons_succ, List.getElem_cons_zero, List.setIfInBounds_toArray, List.set_cons_zero, List.set_cons_succ])
  refine wpAnyH_ready (rs := [7]) (by kernel_rfl) (by simp) (AllReadyH.cons rfl (fun K hK => ?_) AllReadyH.nil)
  go_simp
  refine (P7.out _).mono ?_
  rintro e9 wq_4 ⟨⟨a7, c7, rfl, hr⟩, hb⟩
  replace T5 := Lib.hid (T5.out.mono hb)
  replace T6 := Lib.hid (T6.out.mono hb)
  have T7 := Lib.hid hr
  clear hr
  replace KK := Lib.hid (KK.out.below hb KK.out.lt)
  replace KA := Lib.hid (KA.out.below hb KA.out.lt)
  replace KB := Lib.hid (KB.out.below hb KB.out.lt)
  replace B0 := Lib.hid (B0.out.trans (hb.mono B0.out.size))
  go_wp2_with fail
  refine hK _ _ ⟨wqh3.1.below hb wqh3.1.lt, wqh3.2.below hb wqh3.2.lt⟩ (fun wqh4 => ?_)
  clear hK K wqh3 hb
  (try simp only [Act.put, List.getElem_toArray, List.getElem_cons_succ, List.getElem_cons_zero, List.setIfInBounds_toArray, List.set_cons_zero, List.set_cons_succ])
  refine wpAnyH_ready (rs := [9]) (by kernel_rfl) (by simp) (AllReadyH.cons rfl (fun K hK => ?_) AllReadyH.nil)
  go_simp
  refine (P8.out _).mono ?_
  rintro e9 wq_5 ⟨⟨a8, c8, rfl, hr⟩, hb⟩
  replace T5 := Lib.hid (T5.out.mono hb)
  replace T6 := Lib.hid (T6.out.mono hb)
  replace T7 := Lib.hid (T7.out.mono hb)
  have T8 := Lib.hid hr
  clear hr
  replace KK := Lib.hid (KK.out.below hb KK.out.lt)
  replace KA := Lib.hid (KA.out.below hb KA.out.lt)
  replace KB := Lib.hid (KB.out.below hb KB.out.lt)
  replace B0 := Lib.hid (B0.out.trans (hb.mono B0.out.size))
  go_wp2_with fail
  refine hK _ _ ⟨wqh4.1.below hb wqh4.1.lt, wqh4.2.below hb wqh4.2.lt⟩ (fun wqh5 => ?_)
  clear hK K wqh4 hb
  (try simp only [Act.put, List.getElem_toArray, List.getElem_cons_succ, List.getElem_cons_zero, List.setIfInBounds_toArray, List.set_cons_zero, List.set_cons_succ])
  refine wpAnyH_ready (rs := [10]) (by kernel_rfl) (by simp) (AllReadyH.cons rfl (fun K hK => ?_) AllReadyH.nil)
  go_simp
  refine (STD.out a7 a8 c7 c8 _ T7.out T8.out).mono ?_
  rintro e9 wq_6 ⟨rfl, hb⟩
  replace T5 := Lib.hid (T5.out.mono hb)
  replace T6 := Lib.hid (T6.out.mono hb)
  replace T7 := Lib.hid (T7.out.mono hb)
  replace T8 := Lib.hid (T8.out.mono hb)
  replace KK := Lib.hid (KK.out.below hb KK.out.lt)
  replace KA := Lib.hid (KA.out.below hb KA.out.lt)
  replace KB := Lib.hid (KB.out.below hb KB.out.lt)
  replace B0 := Lib.hid (B0.out.trans (hb.mono B0.out.size))
  go_wp2_with fail
  refine hK _ _ ⟨wqh5.1.below hb wqh5.1.lt, wqh5.2.below hb wqh5.2.lt⟩ (fun wqh6 => ?_)
  clear hK K wqh5 hb
  (try simp only [Act.put, List.getElem_toArray, List.getElem_cons_succ, List.getElem_cons_zero, List.setIfInBounds_toArray, List.set_cons_zero, List.set_cons_succ])
  refine wpAnyH_take (i := 11) (v := .bool true) rfl (by kernel_rfl) (by kernel_rfl) (by kernel_rfl) (fun _ _ _ h => h) (Or.inl ⟨by rfl, fun W hW => by go_simp⟩) (by assumption) ?_
  (try simp only [Act.put, List.getElem_toArray, List.getElem_cons_succ, List.getElem_cons_zero, List.setIfInBounds_toArray, List.set_cons_zero, List.set_cons_succ])
  refine wpAnyH_take (i := 12) (v := .bool true) rfl (by kernel_rfl) (by kernel_rfl) (by kernel_rfl) (fun _ _ _ h => h) (Or.inl ⟨by rfl, fun W hW => by go_simp⟩) (by assumption) ?_
  (try simp only [Act.put, List.getElem_toArray, List.getElem_cons_succ, List.getElem_cons_zero, List.setIfInBounds_toArray, List.set_cons_zero, List.set_cons_succ])
  refine wpAnyH_done (by kernel_rfl) ?_ _
  have KC := Lib.hid wqh6.1
  have KD := Lib.hid wqh6.2
  clear wqh6 T5 T6 T7 T8
  go_upto_region 5 with (fail)
  refine wp_region_held_drew (S := fun W => Blk W (G) 24 CK ∧ Blk W (G + 1) 58 CA ∧ Blk W (G + 1 + 1) 62 CB) (by kernel_rfl) ⟨KK.out.drew, KA.out.drew, KB.out.drew⟩ (fun hHeld => ?_)
  replace KC := Lib.hid KC.out.drew
  replace KD := Lib.hid KD.out.drew
  replace B0 := Lib.hid B0.out.drew
  generalize wq_6.drew = wr at KC KD B0 hHeld ⊢
  clear KK KA KB
  refine wpAnyH_take (i := 0) (v := .agg CK) rfl (by kernel_rfl) (by kernel_rfl) (by kernel_rfl) (fun _ _ _ h => h) (Or.inl ⟨by rfl, fun W hW => exec_load_row 24 _ rfl (G) rfl 24 CK (0, 0) _ hW.1 Tryd.underlying24 rfl IK.out⟩) (by assumption) ?_
  (try simp only [Act.put, List.getElem_toArray, List.getElem_cons_succ, List.getElem_cons_zero, List.setIfInBounds_toArray, List.set_cons_zero, List.set_cons_succ])
  refine wpAnyH_take (i := 1) (v := .agg CA) rfl (by kernel_rfl) (by kernel_rfl) (by kernel_rfl) (fun _ _ _ h => h) (Or.inl ⟨by rfl, fun W hW => exec_load_row 58 _ rfl (G + 1) rfl 58 CA (0, 0) _ hW.2.1 Tryd.underlying58 rfl IA.out⟩) (by assumption) ?_
  (try simp only [Act.put, List.getElem_toArray, List.getElem_cons_succ, List.getElem_cons_zero, List.setIfInBounds_toArray, List.set_cons_zero, List.set_cons_succ])
  refine wpAnyH_take (i := 3) (v := .agg CK) rfl (by kernel_rfl) (by kernel_rfl) (by kernel_rfl) (fun _ _ _ h => h) (Or.inl ⟨by rfl, fun W hW => exec_load_row 24 _ rfl (G) rfl 24 CK (0, 0) _ hW.1 Tryd.underlying24 rfl IK.out⟩) (by assumption) ?_
  (try simp only [Act.put, List.getElem_toArray, List.getElem_cons_succ, List.getElem_cons_zero, List.setIfInBounds_toArray, List.set_cons_zero, List.set_cons_succ])
  refine wpAnyH_take (i := 4) (v := .agg CA) rfl (by kernel_rfl) (by kernel_rfl) (by kernel_rfl) (fun _ _ _ h => h) (Or.inl ⟨by rfl, fun W hW => exec_load_row 58 _ rfl (G + 1) rfl 58 CA (0, 0) _ hW.2.1 Tryd.underlying58 rfl IA.out⟩) (by assumption) ?_
  (try simp only [Act.put, List.getElem_toArray, List.getElem_cons_succ, List.getElem_cons_zero, List.setIfInBounds_toArray, List.set_cons_zero, List.set_cons_succ])
  refine wpAnyH_ready (rs := [2]) (by kernel_rfl) (by simp) (AllReadyH.cons rfl (fun K hK => ?_) AllReadyH.nil)
  go_simp
  refine (Z1.out _ (HLA.out.below B0.out)).mono ?_
  rintro e9 wr_1 ⟨rfl, hb⟩
  replace KC := Lib.hid (KC.out.below hb KC.out.lt)
  replace KD := Lib.hid (KD.out.below hb KD.out.lt)
  replace B0 := Lib.hid (B0.out.trans (hb.mono B0.out.size))
  go_wp2_with fail
  refine hK _ _ ⟨hHeld.1.below hb hHeld.1.lt, hHeld.2.1.below hb hHeld.2.1.lt, hHeld.2.2.below hb hHeld.2.2.lt⟩ (fun wrh1 => ?_)
  clear hK K hHeld hb
  (try simp only [Act.put, List.getElem_toArray, List.getElem_cons_succ, List.getElem_cons_zero, List.setIfInBounds_toArray, List.set_cons_zero, List.set_cons_succ])
  refine wpAnyH_ready (rs := [5]) (by kernel_rfl) (by simp) (AllReadyH.cons rfl (fun K hK => ?_) AllReadyH.nil)
  go_simp
  refine (Z2.out _ (HLK.out.mono B0.out)).mono ?_
  rintro e9 wr_2 ⟨rfl, hb⟩
  replace KC := Lib.hid (KC.out.below hb KC.out.lt)
  replace KD := Lib.hid (KD.out.below hb KD.out.lt)
  replace B0 := Lib.hid (B0.out.trans (hb.mono B0.out.size))
  go_wp2_with fail
  refine hK _ _ ⟨wrh1.1.below hb wrh1.1.lt, wrh1.2.1.below hb wrh1.2.1.lt, wrh1.2.2.below hb wrh1.2.2.lt⟩ (fun wrh2 => ?_)
  clear hK K wrh1 hb
  (try simp only [Act.put, List.getElem_toArray, List.getElem_cons_succ, List.getElem_cons_zero, List.setIfInBounds_toArray, List.set_cons_zero, List.set_cons_succ])
  refine wpAnyH_take (i := 6) (v := .bool true) rfl (by kernel_rfl) (by kernel_rfl) (by kernel_rfl) (fun _ _ _ h => h) (Or.inl ⟨by rfl, fun W hW => (by have EQ := EQA.out; go_simp)⟩) (by assumption) ?_
  (try simp only [Act.put, List.getElem_toArray, List.getElem_cons_succ, List.getElem_cons_zero, List.setIfInBounds_toArray, List.set_cons_zero, List.set_cons_succ])
  refine wpAnyH_take (i := 7) (v := .bool true) rfl (by kernel_rfl) (by kernel_rfl) (by kernel_rfl) (fun _ _ _ h => h) (Or.inl ⟨by rfl, fun W hW => by go_simp⟩) (by assumption) ?_
  (try simp only [Act.put, List.getElem_toArray, List.getElem_cons_succ, List.getElem_cons_zero, List.setIfInBounds_toArray, List.set_cons_zero, List.set_cons_succ])
  refine wpAnyH_take (i := 8) (v := .agg CK) rfl (by kernel_rfl) (by kernel_rfl) (by kernel_rfl) (fun _ _ _ h => h) (Or.inl ⟨by rfl, fun W hW => exec_load_row 24 _ rfl (G) rfl 24 CK (0, 0) _ hW.1 Tryd.underlying24 rfl IK.out⟩) (by assumption) ?_
  (try simp only [Act.put, List.getElem_toArray, List.getElem_cons_succ, List.getElem_cons_zero, List.setIfInBounds_toArray, List.set_cons_zero, List.set_cons_succ])
  refine wpAnyH_take (i := 9) (v := .agg CB) rfl (by kernel_rfl) (by kernel_rfl) (by kernel_rfl) (fun _ _ _ h => h) (Or.inl ⟨by rfl, fun W hW => exec_load_row 62 _ rfl (G + 1 + 1) rfl 62 CB (0, 0) _ hW.2.2 Tryd.underlying62 rfl IB.out⟩) (by assumption) ?_
  (try simp only [Act.put, List.getElem_toArray, List.getElem_cons_succ, List.getElem_cons_zero, List.setIfInBounds_toArray, List.set_cons_zero, List.set_cons_succ])
  refine wpAnyH_take (i := 11) (v := .agg CK) rfl (by kernel_rfl) (by kernel_rfl) (by kernel_rfl) (fun _ _ _ h => h) (Or.inl ⟨by rfl, fun W hW => exec_load_row 24 _ rfl (G) rfl 24 CK (0, 0) _ hW.1 Tryd.underlying24 rfl IK.out⟩) (by assumption) ?_
  (try simp only [Act.put, List.getElem_toArray, List.getElem_cons_succ, List.getElem_cons_zero, List.setIfInBounds_toArray, List.set_cons_zero, List.set_cons_succ])
  refine wpAnyH_take (i := 12) (v := .agg CB) rfl (by kernel_rfl) (by kernel_rfl) (by kernel_rfl) (fun _ _ _ h => h) (Or.inl ⟨by rfl, fun W hW => exec_load_row 62 _ rfl (G + 1 + 1) rfl 62 CB (0, 0) _ hW.2.2 Tryd.underlying62 rfl IB.out⟩) (by assumption) ?_
  (try simp only [Act.put, List.getElem_toArray, List.getElem_cons_succ, List.getElem_cons_zero, List.setIfInBounds_toArray, List.set_cons_zero, List.set_cons_succ])
  refine wpAnyH_ready (rs := [10]) (by kernel_rfl) (by simp) (AllReadyH.cons rfl (fun K hK => ?_) AllReadyH.nil)
  go_simp
  refine (Z3.out _ (HM.out _ B0.out) (HLA.out.below B0.out)).mono ?_
  rintro e9 wr_3 ⟨⟨v1, rfl, hr⟩, hb⟩
  have Q1 := Lib.hid hr
  clear hr
  replace KC := Lib.hid (KC.out.below hb KC.out.lt)
  replace KD := Lib.hid (KD.out.below hb KD.out.lt)
  replace B0 := Lib.hid (B0.out.trans (hb.mono B0.out.size))
  go_wp2_with fail
  refine hK _ _ ⟨wrh2.1.below hb wrh2.1.lt, wrh2.2.1.below hb wrh2.2.1.lt, wrh2.2.2.below hb wrh2.2.2.lt⟩ (fun wrh3 => ?_)
  clear hK K wrh2 hb
  (try simp only [Act.put, List.getElem_toArray, List.getElem_cons_succ, List.getElem_cons_zero, List.setIfInBounds_toArray, List.set_cons_zero, List.set_cons_succ])
  refine wpAnyH_ready (rs := [13]) (by kernel_rfl) (by simp) (AllReadyH.cons rfl (fun K hK => ?_) AllReadyH.nil)
  go_simp
  refine (Z4.out _ (HM.out _ B0.out) (HLK.out.mono B0.out)).mono ?_
  rintro e9 wr_4 ⟨⟨v2, rfl, hr⟩, hb⟩
  replace Q1 := Lib.hid (QM.out _ _ _ Q1.out hb)
  have Q2 := Lib.hid hr
  clear hr
  replace KC := Lib.hid (KC.out.below hb KC.out.lt)
  replace KD := Lib.hid (KD.out.below hb KD.out.lt)
  replace B0 := Lib.hid (B0.out.trans (hb.mono B0.out.size))
  go_wp2_with fail
  refine hK _ _ ⟨wrh3.1.below hb wrh3.1.lt, wrh3.2.1.below hb wrh3.2.1.lt, wrh3.2.2.below hb wrh3.2.2.lt⟩ (fun wrh4 => ?_)
  clear hK K wrh3 hb
  (try simp only [Act.put, List.getElem_toArray, List.getElem_cons_succ, List.getElem_cons_zero, List.setIfInBounds_toArray, List.set_cons_zero, List.set_cons_succ])
  refine wpAnyH_ready (rs := [14]) (by kernel_rfl) (by simp) (AllReadyH.cons rfl (fun K hK => ?_) AllReadyH.nil)
  go_simp
  refine (Z9.out _ v1 v2 Q1.out Q2.out).mono ?_
  rintro e9 wr_5 ⟨rfl, hb⟩
  replace Q1 := Lib.hid (QM.out _ _ _ Q1.out hb)
  replace Q2 := Lib.hid (QM.out _ _ _ Q2.out hb)
  replace KC := Lib.hid (KC.out.below hb KC.out.lt)
  replace KD := Lib.hid (KD.out.below hb KD.out.lt)
  replace B0 := Lib.hid (B0.out.trans (hb.mono B0.out.size))
  go_wp2_with fail
  refine hK _ _ ⟨wrh4.1.below hb wrh4.1.lt, wrh4.2.1.below hb wrh4.2.1.lt, wrh4.2.2.below hb wrh4.2.2.lt⟩ (fun wrh5 => ?_)
  clear hK K wrh4 hb
  (try simp only [Act.put, List.getElem_toArray, List.getElem_cons_succ, List.getElem_cons_zero, List.setIfInBounds_toArray, List.set_cons_zero, List.set_cons_succ])
  refine wpAnyH_take (i := 15) (v := .bool true) rfl (by kernel_rfl) (by kernel_rfl) (by kernel_rfl) (fun _ _ _ h => h) (Or.inl ⟨by rfl, fun W hW => by go_simp⟩) (by assumption) ?_
  (try simp only [Act.put, List.getElem_toArray, List.getElem_cons_succ, List.getElem_cons_zero, List.setIfInBounds_toArray, List.set_cons_zero, List.set_cons_succ])
  refine wpAnyH_take (i := 16) (v := .bool true) rfl (by kernel_rfl) (by kernel_rfl) (by kernel_rfl) (fun _ _ _ h => h) (Or.inl ⟨by rfl, fun W hW => by go_simp⟩) (by assumption) ?_
  (try simp only [Act.put, List.getElem_toArray, List.getElem_cons_succ, List.getElem_cons_zero, List.setIfInBounds_toArray, List.set_cons_zero, List.set_cons_succ])
  refine wpAnyH_done (by kernel_rfl) ?_ _
  have KK := Lib.hid wrh5.1
  have KA := Lib.hid wrh5.2.1
  have KB := Lib.hid wrh5.2.2
  clear wrh5 Q1 Q2
  go_upto_region 6 with (fail)
  refine wp_region_held_drew (S := fun W => Blk W (G) 24 CK ∧ Blk W (G + 1 + 1 + 1) 64 CC ∧ Blk W (G + 1 + 1 + 1 + 1) 66 CD) (by kernel_rfl) ⟨KK.out.drew, KC.out.drew, KD.out.drew⟩ (fun hHeld => ?_)
  replace KA := Lib.hid KA.out.drew
  replace KB := Lib.hid KB.out.drew
  replace B0 := Lib.hid B0.out.drew
  generalize wr_5.drew = ws at KA KB B0 hHeld ⊢
  clear KK KC KD
  refine wpAnyH_ready (rs := [0]) (by kernel_rfl) (by simp) (AllReadyH.cons rfl (fun K hK => ?_) AllReadyH.nil)
  go_simp
  refine (SNT.out _ (HLA.out.below B0.out)).mono ?_
  rintro e9 ws_1 ⟨rfl, hb⟩
  replace KA := Lib.hid (KA.out.below hb KA.out.lt)
  replace KB := Lib.hid (KB.out.below hb KB.out.lt)
  replace B0 := Lib.hid (B0.out.trans (hb.mono B0.out.size))
  go_wp2_with fail
  refine hK _ _ ⟨hHeld.1.below hb hHeld.1.lt, hHeld.2.1.below hb hHeld.2.1.lt, hHeld.2.2.below hb hHeld.2.2.lt⟩ (fun wsh1 => ?_)
  clear hK K hHeld hb
  (try simp only [Act.put, List.getElem_toArray, List.getElem_cons_succ, List.getElem_cons_zero, List.setIfInBounds_toArray, List.set_cons_zero, List.set_cons_succ])
  refine wpAnyH_take (i := 1) (v := .bool true) rfl (by kernel_rfl) (by kernel_rfl) (by kernel_rfl) (fun _ _ _ h => h) (Or.inl ⟨by rfl, fun W hW => by go_simp⟩) (by assumption) ?_
  (try simp only [Act.put, List.getElem_toArray, List.getElem_cons_succ, List.getElem_cons_zero, List.setIfInBounds_toArray, List.set_cons_zero, List.set_cons_succ])
  refine wpAnyH_take (i := 2) (v := .bool true) rfl (by kernel_rfl) (by kernel_rfl) (by kernel_rfl) (fun _ _ _ h => h) (Or.inl ⟨by rfl, fun W hW => by go_simp⟩) (by assumption) ?_
  (try simp only [Act.put, List.getElem_toArray, List.getElem_cons_succ, List.getElem_cons_zero, List.setIfInBounds_toArray, List.set_cons_zero, List.set_cons_succ])
  refine wpAnyH_take (i := 3) (v := .bool true) rfl (by kernel_rfl) (by kernel_rfl) (by kernel_rfl) (fun _ _ _ h => h) (Or.inl ⟨by rfl, fun W hW => by go_simp⟩) (by assumption) ?_
  (try simp only [Act.put, List.getElem_toArray, List.getElem_cons_succ, List.getElem_cons_zero, List.setIfInBounds_toArray, List.set_cons_zero, List.set_cons_succ])
  refine wpAnyH_take (i := 4) (v := .bool true) rfl (by kernel_rfl) (by kernel_rfl) (by kernel_rfl) (fun _ _ _ h => h) (Or.inl ⟨by rfl, fun W hW => by go_simp⟩) (by assumption) ?_
  (try simp only [Act.put, List.getElem_toArray, List.getElem_cons_succ, List.getElem_cons_zero, List.setIfInBounds_toArray, List.set_cons_zero, List.set_cons_succ])
  refine wpAnyH_take (i := 5) (v := .bool true) rfl (by kernel_rfl) (by kernel_rfl) (by kernel_rfl) (fun _ _ _ h => h) (Or.inl ⟨by rfl, fun W hW => by go_simp⟩) (by assumption) ?_
  (try simp only [Act.put, List.getElem_toArray, List.getElem_cons_succ, List.getElem_cons_zero, List.setIfInBounds_toArray, List.set_cons_zero, List.set_cons_succ])
  refine wpAnyH_take (i := 6) (v := .bool true) rfl (by kernel_rfl) (by kernel_rfl) (by kernel_rfl) (fun _ _ _ h => h) (Or.inl ⟨by rfl, fun W hW => by go_simp⟩) (by assumption) ?_
  (try simp only [Act.put, List.getElem_toArray, List.getElem_cons_succ, List.getElem_cons_zero, List.setIfInBounds_toArray, List.set_cons_zero, List.set_cons_succ])
  refine wpAnyH_take (i := 7) (v := .bool true) rfl (by kernel_rfl) (by kernel_rfl) (by kernel_rfl) (fun _ _ _ h => h) (Or.inl ⟨by rfl, fun W hW => by go_simp⟩) (by assumption) ?_
  (try simp only [Act.put, List.getElem_toArray, List.getElem_cons_succ, List.getElem_cons_zero, List.setIfInBounds_toArray, List.set_cons_zero, List.set_cons_succ])
  refine wpAnyH_take (i := 8) (v := .bool true) rfl (by kernel_rfl) (by kernel_rfl) (by kernel_rfl) (fun _ _ _ h => h) (Or.inl ⟨by rfl, fun W hW => by go_simp⟩) (by assumption) ?_
  (try simp only [Act.put, List.getElem_toArray, List.getElem_cons_succ, List.getElem_cons_zero, List.setIfInBounds_toArray, List.set_cons_zero, List.set_cons_succ])
  refine wpAnyH_take (i := 9) (v := .bool true) rfl (by kernel_rfl) (by kernel_rfl) (by kernel_rfl) (fun _ _ _ h => h) (Or.inl ⟨by rfl, fun W hW => by go_simp⟩) (by assumption) ?_
  (try simp only [Act.put, List.getElem_toArray, List.getElem_cons_succ, List.getElem_cons_zero, List.setIfInBounds_toArray, List.set_cons_zero, List.set_cons_succ])
  refine wpAnyH_take (i := 10) (v := .bool true) rfl (by kernel_rfl) (by kernel_rfl) (by kernel_rfl) (fun _ _ _ h => h) (Or.inl ⟨by rfl, fun W hW => by go_simp⟩) (by assumption) ?_
  (try simp only [Act.put, List.getElem_toArray, List.getElem_cons_succ, List.getElem_cons_zero, List.setIfInBounds_toArray, List.set_cons_zero, List.set_cons_succ])
  refine wpAnyH_take (i := 11) (v := .agg CK) rfl (by kernel_rfl) (by kernel_rfl) (by kernel_rfl) (fun _ _ _ h => h) (Or.inl ⟨by rfl, fun W hW => exec_load_row 24 _ rfl (G) rfl 24 CK (0, 0) _ hW.1 Tryd.underlying24 rfl IK.out⟩) (by assumption) ?_
  (try simp only [Act.put, List.getElem_toArray, List.getElem_cons_succ, List.getElem_cons_zero, List.setIfInBounds_toArray, List.set_cons_zero, List.set_cons_succ])
  refine wpAnyH_take (i := 12) (v := .agg CC) rfl (by kernel_rfl) (by kernel_rfl) (by kernel_rfl) (fun _ _ _ h => h) (Or.inl ⟨by rfl, fun W hW => exec_load_row 64 _ rfl (G + 1 + 1 + 1) rfl 64 CC (0, 0) _ hW.2.1 Tryd.underlying64 rfl IC.out⟩) (by assumption) ?_
  (try simp only [Act.put, List.getElem_toArray, List.getElem_cons_succ, List.getElem_cons_zero, List.setIfInBounds_toArray, List.set_cons_zero, List.set_cons_succ])
  refine wpAnyH_take (i := 14) (v := .agg CK) rfl (by kernel_rfl) (by kernel_rfl) (by kernel_rfl) (fun _ _ _ h => h) (Or.inl ⟨by rfl, fun W hW => exec_load_row 24 _ rfl (G) rfl 24 CK (0, 0) _ hW.1 Tryd.underlying24 rfl IK.out⟩) (by assumption) ?_
  (try simp only [Act.put, List.getElem_toArray, List.getElem_cons_succ, List.getElem_cons_zero, List.setIfInBounds_toArray, List.set_cons_zero, List.set_cons_succ])
  refine wpAnyH_take (i := 15) (v := .agg CC) rfl (by kernel_rfl) (by kernel_rfl) (by kernel_rfl) (fun _ _ _ h => h) (Or.inl ⟨by rfl, fun W hW => exec_load_row 64 _ rfl (G + 1 + 1 + 1) rfl 64 CC (0, 0) _ hW.2.1 Tryd.underlying64 rfl IC.out⟩) (by assumption) ?_
  (try simp only [Act.put, List.getElem_toArray, List.getElem_cons_succ, List.getElem_cons_zero, List.setIfInBounds_toArray, List.set_cons_zero, List.set_cons_succ])
  refine wpAnyH_ready (rs := [13]) (by kernel_rfl) (by simp) (AllReadyH.cons rfl (fun K hK => ?_) AllReadyH.nil)
  go_simp
  refine (Z5.out _ (HLA.out.below B0.out)).mono ?_
  rintro e9 ws_2 ⟨rfl, hb⟩
  replace KA := Lib.hid (KA.out.below hb KA.out.lt)
  replace KB := Lib.hid (KB.out.below hb KB.out.lt)
  replace B0 := Lib.hid (B0.out.trans (hb.mono B0.out.size))
  go_wp2_with fail
  refine hK _ _ ⟨wsh1.1.below hb wsh1.1.lt, wsh1.2.1.below hb wsh1.2.1.lt, wsh1.2.2.below hb wsh1.2.2.lt⟩ (fun wsh2 => ?_)
  clear hK K wsh1 hb
  (try simp only [Act.put, List.getElem_toArray, List.getElem_cons_succ, List.getElem_cons_zero, List.setIfInBounds_toArray, List.set_cons_zero, List.set_cons_succ])
  refine wpAnyH_ready (rs := [16]) (by kernel_rfl) (by simp) (AllReadyH.cons rfl (fun K hK => ?_) AllReadyH.nil)
  go_simp
  refine (Z6.out _ (HLK.out.mono B0.out)).mono ?_
  rintro e9 ws_3 ⟨rfl, hb⟩
  replace KA := Lib.hid (KA.out.below hb KA.out.lt)
  replace KB := Lib.hid (KB.out.below hb KB.out.lt)
  replace B0 := Lib.hid (B0.out.trans (hb.mono B0.out.size))
  go_wp2_with fail
  refine hK _ _ ⟨wsh2.1.below hb wsh2.1.lt, wsh2.2.1.below hb wsh2.2.1.lt, wsh2.2.2.below hb wsh2.2.2.lt⟩ (fun wsh3 => ?_)
  clear hK K wsh2 hb
  (try simp only [Act.put, List.getElem_toArray, List.getElem_cons_succ, List.getElem_cons_zero, List.setIfInBounds_toArray, List.set_cons_zero, List.set_cons_succ])
  refine wpAnyH_take (i := 17) (v := .bool true) rfl (by kernel_rfl) (by kernel_rfl) (by kernel_rfl) (fun _ _ _ h => h) (Or.inl ⟨by rfl, fun W hW => (by have EQ := EQC.out; go_simp)⟩) (by assumption) ?_
  (try simp only [Act.put, List.getElem_toArray, List.getElem_cons_succ, List.getElem_cons_zero, List.setIfInBounds_toArray, List.set_cons_zero, List.set_cons_succ])
  refine wpAnyH_take (i := 18) (v := .bool true) rfl (by kernel_rfl) (by kernel_rfl) (by kernel_rfl) (fun _ _ _ h => h) (Or.inl ⟨by rfl, fun W hW => by go_simp⟩) (by assumption) ?_
  (try simp only [Act.put, List.getElem_toArray, List.getElem_cons_succ, List.getElem_cons_zero, List.setIfInBounds_toArray, List.set_cons_zero, List.set_cons_succ])
  refine wpAnyH_take (i := 19) (v := .bool true) rfl (by kernel_rfl) (by kernel_rfl) (by kernel_rfl) (fun _ _ _ h => h) (Or.inl ⟨by rfl, fun W hW => by go_simp⟩) (by assumption) ?_
  (try simp only [Act.put, List.getElem_toArray, List.getElem_cons_succ, List.getElem_cons_zero, List.setIfInBounds_toArray, List.set_cons_zero, List.set_cons_succ])
  refine wpAnyH_take (i := 20) (v := .agg CK) rfl (by kernel_rfl) (by kernel_rfl) (by kernel_rfl) (fun _ _ _ h => h) (Or.inl ⟨by rfl, fun W hW => exec_load_row 24 _ rfl (G) rfl 24 CK (0, 0) _ hW.1 Tryd.underlying24 rfl IK.out⟩) (by assumption) ?_
  (try simp only [Act.put, List.getElem_toArray, List.getElem_cons_succ, List.getElem_cons_zero, List.setIfInBounds_toArray, List.set_cons_zero, List.set_cons_succ])
  refine wpAnyH_take (i := 21) (v := .agg CD) rfl (by kernel_rfl) (by kernel_rfl) (by kernel_rfl) (fun _ _ _ h => h) (Or.inl ⟨by rfl, fun W hW => exec_load_row 66 _ rfl (G + 1 + 1 + 1 + 1) rfl 66 CD (0, 0) _ hW.2.2 Tryd.underlying66 rfl ID.out⟩) (by assumption) ?_
  (try simp only [Act.put, List.getElem_toArray, List.getElem_cons_succ, List.getElem_cons_zero, List.setIfInBounds_toArray, List.set_cons_zero, List.set_cons_succ])
  refine wpAnyH_take (i := 23) (v := .agg CK) rfl (by kernel_rfl) (by kernel_rfl) (by kernel_rfl) (fun _ _ _ h => h) (Or.inl ⟨by rfl, fun W hW => exec_load_row 24 _ rfl (G) rfl 24 CK (0, 0) _ hW.1 Tryd.underlying24 rfl IK.out⟩) (by assumption) ?_
  (try simp only [Act.put, List.getElem_toArray, List.getElem_cons_succ, List.getElem_cons_zero, List.setIfInBounds_toArray, List.set_cons_zero, List.set_cons_succ])
  refine wpAnyH_take (i := 24) (v := .agg CD) rfl (by kernel_rfl) (by kernel_rfl) (by kernel_rfl) (fun _ _ _ h => h) (Or.inl ⟨by rfl, fun W hW => exec_load_row 66 _ rfl (G + 1 + 1 + 1 + 1) rfl 66 CD (0, 0) _ hW.2.2 Tryd.underlying66 rfl ID.out⟩) (by assumption) ?_
  (try simp only [Act.put, List.getElem_toArray, List.getElem_cons_succ, List.getElem_cons_zero, List.setIfInBounds_toArray, List.set_cons_zero, List.set_cons_succ])
  refine wpAnyH_ready (rs := [22]) (by kernel_rfl) (by simp) (AllReadyH.cons rfl (fun K hK => ?_) AllReadyH.nil)
  go_simp
  refine (Z7.out _ (HLA.out.below B0.out)).mono ?_
  rintro e9 ws_4 ⟨rfl, hb⟩
  replace KA := Lib.hid (KA.out.below hb KA.out.lt)
  replace KB := Lib.hid (KB.out.below hb KB.out.lt)
  replace B0 := Lib.hid (B0.out.trans (hb.mono B0.out.size))
  go_wp2_with fail
  refine hK _ _ ⟨wsh3.1.below hb wsh3.1.lt, wsh3.2.1.below hb wsh3.2.1.lt, wsh3.2.2.below hb wsh3.2.2.lt⟩ (fun wsh4 => ?_)
  clear hK K wsh3 hb
  (try simp only [Act.put, List.getElem_toArray, List.getElem_cons_succ, List.getElem_cons_zero, List.setIfInBounds_toArray, List.set_cons_zero, List.set_cons_succ])
  refine wpAnyH_ready (rs := [25]) (by kernel_rfl) (by simp) (AllReadyH.cons rfl (fun K hK => ?_) AllReadyH.nil)
  go_simp
  refine (Z8.out _ (HLK.out.mono B0.out)).mono ?_
  rintro e9 ws_5 ⟨rfl, hb⟩
  replace KA := Lib.hid (KA.out.below hb KA.out.lt)
  replace KB := Lib.hid (KB.out.below hb KB.out.lt)
  replace B0 := Lib.hid (B0.out.trans (hb.mono B0.out.size))
  go_wp2_with fail
  refine hK _ _ ⟨wsh4.1.below hb wsh4.1.lt, wsh4.2.1.below hb wsh4.2.1.lt, wsh4.2.2.below hb wsh4.2.2.lt⟩ (fun wsh5 => ?_)
  clear hK K wsh4 hb
  (try simp only [Act.put, List.getElem_toArray, List.getElem_cons_succ, List.getElem_cons_zero, List.setIfInBounds_toArray, List.set_cons_zero, List.set_cons_succ])
  refine wpAnyH_take (i := 26) (v := .bool true) rfl (by kernel_rfl) (by kernel_rfl) (by kernel_rfl) (fun _ _ _ h => h) (Or.inl ⟨by rfl, fun W hW => (by have EQ := EQD.out; go_simp)⟩) (by assumption) ?_
  (try simp only [Act.put, List.getElem_toArray, List.getElem_cons_succ, List.getElem_cons_zero, List.setIfInBounds_toArray, List.set_cons_zero, List.set_cons_succ])
  refine wpAnyH_take (i := 27) (v := .bool true) rfl (by kernel_rfl) (by kernel_rfl) (by kernel_rfl) (fun _ _ _ h => h) (Or.inl ⟨by rfl, fun W hW => by go_simp⟩) (by assumption) ?_
  (try simp only [Act.put, List.getElem_toArray, List.getElem_cons_succ, List.getElem_cons_zero, List.setIfInBounds_toArray, List.set_cons_zero, List.set_cons_succ])
  refine wpAnyH_take (i := 28) (v := .bool true) rfl (by kernel_rfl) (by kernel_rfl) (by kernel_rfl) (fun _ _ _ h => h) (Or.inl ⟨by rfl, fun W hW => by go_simp⟩) (by assumption) ?_
  (try simp only [Act.put, List.getElem_toArray, List.getElem_cons_succ, List.getElem_cons_zero, List.setIfInBounds_toArray, List.set_cons_zero, List.set_cons_succ])
  refine wpAnyH_done (by kernel_rfl) ?_ _
  have KK := Lib.hid wsh5.1
  have KC := Lib.hid wsh5.2.1
  have KD := Lib.hid wsh5.2.2
  clear wsh5 
  go_wp2
  go_ret
  exact ⟨rfl, B0.out⟩
end Go.Proofs.YtcdcnklfcmoiiaaDoor
