/- Contract: the law that credits come back. -/
import Derived.Test.YtcgdhankllphgaaM7
import Derived.Test.YtcgdhankllphgaaSB
import Derived.Deep.Cut
import Derived.Deep.CutRange
namespace Go.Proofs.Ytcgdhankllphgaa
set_option linter.unusedVariables false
set_option linter.unusedSimpArgs false
open Go.RowKit
set_option maxRecDepth 100000 in
set_option maxHeartbeats 4000000 in
theorem law_many (cap len : Int) (ab : Option Addr) (cb : Nat) (l : List Rw) (wi ga oth n : Int) (w : World) (hp : RwA w ab l) (h : 40 < l.length) : Calls Try.prog 7 #[.agg #[.int .i64 cap, .int .i64 len, .slice ab l.length cb], .int .i64 wi, .int .i64 ga, .int .i64 oth, .int .i64 n] w fun e w' => e = .returned (.bool true) ∧ Below w.heap.size w w' := by
  have HP := Lib.hid hp
  have SN := Lib.hid (fun X : World => sanity_any X)
  obtain ⟨N, hN⟩ : ∃ N, l.length = N := ⟨_, rfl⟩
  rw [hN] at h ⊢
  have t0 : decide ((40 : Int) < (N : Int)) = true := decide_eq_true (by omega)
  clear hp hN h
  go_enter Try.func7, Try.ntmps7
  have B := Lib.hid (Below.refl w.heap.size w)
  obtain ⟨g5, hg5⟩ : ∃ G, w.heap.size = G := ⟨_, rfl⟩
  have K5 := Lib.hid (show Blk (w.alloc (.cells #[.int .i64 cap, .int .i64 len, .slice ab N cb] 24)) g5 24 #[.int .i64 cap, .int .i64 len, .slice ab N cb] from Blk.new' w _ _ _ hg5 rfl)
  replace B := Lib.hid (B.out.alloc B.out.size (.cells #[.int .i64 cap, .int .i64 len, .slice ab N cb] 24))
  have S5 := Lib.hid hg5
  go_upto_region 1 with (fail)
  try rw [hg5]
  generalize hw : w.alloc (.cells #[.int .i64 cap, .int .i64 len, .slice ab N cb] 24) = w1 at K5  B ⊢
  clear hw hg5
  obtain ⟨b5c0, b5c1, b5c2⟩ := three K5.out
  go_wp2_with fail
  refine (SN.out w1).mono ?_
  rintro e w2 ⟨rfl, hb⟩
  replace K5 := Lib.hid (K5.out.below hb K5.out.lt)
  replace B := Lib.hid (B.out.trans (hb.mono B.out.size))
  clear hb
  clear b5c0 b5c1 b5c2
  go_wp2
  refine bodyPost_ret (by simp [results, Try.results7, go_sem]; try rfl) rfl ?_
  exact ⟨rfl, B.out⟩
set_option maxRecDepth 100000 in
set_option maxHeartbeats 4000000 in
theorem law_much (cap len : Int) (ab : Option Addr) (cb : Nat) (l : List Rw) (wi ga oth n : Int) (w : World) (hp : RwA w ab l) (h : l.length ≤ 40) (hx : 549755813888 < dealtB cap len l wi oth) : Calls Try.prog 7 #[.agg #[.int .i64 cap, .int .i64 len, .slice ab l.length cb], .int .i64 wi, .int .i64 ga, .int .i64 oth, .int .i64 n] w fun e w' => e = .returned (.bool true) ∧ Below w.heap.size w w' := by
  have HP := Lib.hid hp
  have SN := Lib.hid (fun X : World => sanity_any X)
  have DA := Lib.hid (fun (X : World) (k : RwA X ab l) => dealt_all cap len ab cb l wi oth X k (by omega))
  obtain ⟨X, hX⟩ : ∃ X, dealtB cap len l wi oth = X := ⟨_, rfl⟩
  rw [hX] at hx
  simp only [hX] at DA
  obtain ⟨N, hN⟩ : ∃ N, l.length = N := ⟨_, rfl⟩
  simp only [hN] at DA
  rw [hN] at h ⊢
  have t0 : decide ((40 : Int) < (N : Int)) = false := decide_eq_false (by omega)
  have t1 : decide ((549755813888 : Int) < X) = true := decide_eq_true hx
  clear hp hN hX h hx
  go_enter Try.func7, Try.ntmps7
  have B := Lib.hid (Below.refl w.heap.size w)
  obtain ⟨g5, hg5⟩ : ∃ G, w.heap.size = G := ⟨_, rfl⟩
  have K5 := Lib.hid (show Blk (w.alloc (.cells #[.int .i64 cap, .int .i64 len, .slice ab N cb] 24)) g5 24 #[.int .i64 cap, .int .i64 len, .slice ab N cb] from Blk.new' w _ _ _ hg5 rfl)
  replace B := Lib.hid (B.out.alloc B.out.size (.cells #[.int .i64 cap, .int .i64 len, .slice ab N cb] 24))
  have S5 := Lib.hid hg5
  go_upto_region 1 with (fail)
  try rw [hg5]
  generalize hw : w.alloc (.cells #[.int .i64 cap, .int .i64 len, .slice ab N cb] 24) = w1 at K5  B ⊢
  clear hw hg5
  obtain ⟨b5c0, b5c1, b5c2⟩ := three K5.out
  go_wp2_with fail
  refine (DA.out w1 (HP.out.mono B.out)).mono ?_
  rintro e w2 ⟨rfl, hb⟩
  replace K5 := Lib.hid (K5.out.below hb K5.out.lt)
  replace B := Lib.hid (B.out.trans (hb.mono B.out.size))
  clear hb
  clear b5c0 b5c1 b5c2
  obtain ⟨b5c0, b5c1, b5c2⟩ := three K5.out
  go_wp2_with fail
  refine (SN.out w2).mono ?_
  rintro e w3 ⟨rfl, hb⟩
  replace K5 := Lib.hid (K5.out.below hb K5.out.lt)
  replace B := Lib.hid (B.out.trans (hb.mono B.out.size))
  clear hb
  clear b5c0 b5c1 b5c2
  go_wp2
  refine bodyPost_ret (by simp [results, Try.results7, go_sem]; try rfl) rfl ?_
  exact ⟨rfl, B.out⟩
set_option maxRecDepth 100000 in
set_option maxHeartbeats 4000000 in
theorem law_low (cap len : Int) (ab : Option Addr) (cb : Nat) (l : List Rw) (wi ga oth n : Int) (w : World) (hp : RwA w ab l) (h : l.length ≤ 40) (hx : ¬ 549755813888 < dealtB cap len l wi oth) (ho : oth < 1) : Calls Try.prog 7 #[.agg #[.int .i64 cap, .int .i64 len, .slice ab l.length cb], .int .i64 wi, .int .i64 ga, .int .i64 oth, .int .i64 n] w fun e w' => e = .returned (.bool true) ∧ Below w.heap.size w w' := by
  have HP := Lib.hid hp
  have SN := Lib.hid (fun X : World => sanity_any X)
  have DA := Lib.hid (fun (X : World) (k : RwA X ab l) => dealt_all cap len ab cb l wi oth X k (by omega))
  obtain ⟨X, hX⟩ : ∃ X, dealtB cap len l wi oth = X := ⟨_, rfl⟩
  rw [hX] at hx
  simp only [hX] at DA
  obtain ⟨N, hN⟩ : ∃ N, l.length = N := ⟨_, rfl⟩
  simp only [hN] at DA
  rw [hN] at h ⊢
  have t0 : decide ((40 : Int) < (N : Int)) = false := decide_eq_false (by omega)
  have t1 : decide ((549755813888 : Int) < X) = false := decide_eq_false hx
  have t2 : decide (oth < 1) = true := decide_eq_true ho
  clear hp hN hX h hx ho
  go_enter Try.func7, Try.ntmps7
  have B := Lib.hid (Below.refl w.heap.size w)
  obtain ⟨g5, hg5⟩ : ∃ G, w.heap.size = G := ⟨_, rfl⟩
  have K5 := Lib.hid (show Blk (w.alloc (.cells #[.int .i64 cap, .int .i64 len, .slice ab N cb] 24)) g5 24 #[.int .i64 cap, .int .i64 len, .slice ab N cb] from Blk.new' w _ _ _ hg5 rfl)
  replace B := Lib.hid (B.out.alloc B.out.size (.cells #[.int .i64 cap, .int .i64 len, .slice ab N cb] 24))
  have S5 := Lib.hid hg5
  go_upto_region 1 with (fail)
  try rw [hg5]
  generalize hw : w.alloc (.cells #[.int .i64 cap, .int .i64 len, .slice ab N cb] 24) = w1 at K5  B ⊢
  clear hw hg5
  obtain ⟨b5c0, b5c1, b5c2⟩ := three K5.out
  go_wp2_with fail
  refine (DA.out w1 (HP.out.mono B.out)).mono ?_
  rintro e w2 ⟨rfl, hb⟩
  replace K5 := Lib.hid (K5.out.below hb K5.out.lt)
  replace B := Lib.hid (B.out.trans (hb.mono B.out.size))
  clear hb
  clear b5c0 b5c1 b5c2
  obtain ⟨b5c0, b5c1, b5c2⟩ := three K5.out
  go_wp2_with fail
  refine (SN.out w2).mono ?_
  rintro e w3 ⟨rfl, hb⟩
  replace K5 := Lib.hid (K5.out.below hb K5.out.lt)
  replace B := Lib.hid (B.out.trans (hb.mono B.out.size))
  clear hb
  clear b5c0 b5c1 b5c2
  go_wp2
  refine bodyPost_ret (by simp [results, Try.results7, go_sem]; try rfl) rfl ?_
  exact ⟨rfl, B.out⟩
set_option maxRecDepth 100000 in
set_option maxHeartbeats 4000000 in
theorem law_high (cap len : Int) (ab : Option Addr) (cb : Nat) (l : List Rw) (wi ga oth n : Int) (w : World) (hp : RwA w ab l) (h : l.length ≤ 40) (hx : ¬ 549755813888 < dealtB cap len l wi oth) (ho : ¬ oth < 1) (h2 : 1073741824 < oth) : Calls Try.prog 7 #[.agg #[.int .i64 cap, .int .i64 len, .slice ab l.length cb], .int .i64 wi, .int .i64 ga, .int .i64 oth, .int .i64 n] w fun e w' => e = .returned (.bool true) ∧ Below w.heap.size w w' := by
  have HP := Lib.hid hp
  have SN := Lib.hid (fun X : World => sanity_any X)
  have DA := Lib.hid (fun (X : World) (k : RwA X ab l) => dealt_all cap len ab cb l wi oth X k (by omega))
  obtain ⟨X, hX⟩ : ∃ X, dealtB cap len l wi oth = X := ⟨_, rfl⟩
  rw [hX] at hx
  simp only [hX] at DA
  obtain ⟨N, hN⟩ : ∃ N, l.length = N := ⟨_, rfl⟩
  simp only [hN] at DA
  rw [hN] at h ⊢
  have t0 : decide ((40 : Int) < (N : Int)) = false := decide_eq_false (by omega)
  have t1 : decide ((549755813888 : Int) < X) = false := decide_eq_false hx
  have t2 : decide (oth < 1) = false := decide_eq_false ho
  have t3 : decide ((1073741824 : Int) < oth) = true := decide_eq_true h2
  clear hp hN hX h hx ho h2
  go_enter Try.func7, Try.ntmps7
  have B := Lib.hid (Below.refl w.heap.size w)
  obtain ⟨g5, hg5⟩ : ∃ G, w.heap.size = G := ⟨_, rfl⟩
  have K5 := Lib.hid (show Blk (w.alloc (.cells #[.int .i64 cap, .int .i64 len, .slice ab N cb] 24)) g5 24 #[.int .i64 cap, .int .i64 len, .slice ab N cb] from Blk.new' w _ _ _ hg5 rfl)
  replace B := Lib.hid (B.out.alloc B.out.size (.cells #[.int .i64 cap, .int .i64 len, .slice ab N cb] 24))
  have S5 := Lib.hid hg5
  go_upto_region 1 with (fail)
  try rw [hg5]
  generalize hw : w.alloc (.cells #[.int .i64 cap, .int .i64 len, .slice ab N cb] 24) = w1 at K5  B ⊢
  clear hw hg5
  obtain ⟨b5c0, b5c1, b5c2⟩ := three K5.out
  go_wp2_with fail
  refine (DA.out w1 (HP.out.mono B.out)).mono ?_
  rintro e w2 ⟨rfl, hb⟩
  replace K5 := Lib.hid (K5.out.below hb K5.out.lt)
  replace B := Lib.hid (B.out.trans (hb.mono B.out.size))
  clear hb
  clear b5c0 b5c1 b5c2
  obtain ⟨b5c0, b5c1, b5c2⟩ := three K5.out
  go_wp2_with fail
  refine (SN.out w2).mono ?_
  rintro e w3 ⟨rfl, hb⟩
  replace K5 := Lib.hid (K5.out.below hb K5.out.lt)
  replace B := Lib.hid (B.out.trans (hb.mono B.out.size))
  clear hb
  clear b5c0 b5c1 b5c2
  go_wp2
  refine bodyPost_ret (by simp [results, Try.results7, go_sem]; try rfl) rfl ?_
  exact ⟨rfl, B.out⟩
set_option maxRecDepth 100000 in
set_option maxHeartbeats 4000000 in
theorem law_fails (cap len : Int) (ab : Option Addr) (cb : Nat) (l : List Rw) (wi ga oth n : Int) (w : World) (hp : RwA w ab l) (h : l.length ≤ 40) (hx : dealtB cap len l wi oth ≤ 549755813888) (ho : gateOk oth) (hd : ¬ dealP cap len l wi ga n) : Calls Try.prog 7 #[.agg #[.int .i64 cap, .int .i64 len, .slice ab l.length cb], .int .i64 wi, .int .i64 ga, .int .i64 oth, .int .i64 n] w fun e w' => e = .returned (.bool true) ∧ Below w.heap.size w w' := by
  have HP := Lib.hid hp
  have SN := Lib.hid (fun X : World => sanity_any X)
  have DA := Lib.hid (fun (X : World) (k : RwA X ab l) => dealt_all cap len ab cb l wi oth X k (by omega))
  have DB := Lib.hid (fun (X : World) (k : RwA X ab l) => dealt_all cap len ab cb l wi ga X k (by omega))
  have DE := Lib.hid (fun (X : World) (k : RwA X ab l) => deal_bad cap len ab cb l wi ga n X k (by omega) hd)
  have NP := Lib.hid (fun X : World => newpurse_all len X)
  obtain ⟨X, hX⟩ : ∃ X, dealtB cap len l wi oth = X := ⟨_, rfl⟩
  rw [hX] at hx
  simp only [hX] at DA
  obtain ⟨Y, hY⟩ : ∃ Y, dealtB cap len l wi ga = Y := ⟨_, rfl⟩
  simp only [hY] at DB
  unfold gateOk at ho
  obtain ⟨N, hN⟩ : ∃ N, l.length = N := ⟨_, rfl⟩
  simp only [hN] at DA DB DE
  rw [hN] at h ⊢
  have t0 : decide ((40 : Int) < (N : Int)) = false := decide_eq_false (by omega)
  have t1 : decide ((549755813888 : Int) < X) = false := decide_eq_false (by omega)
  have t2 : decide (oth < 1) = false := decide_eq_false (by omega)
  have t3 : decide ((1073741824 : Int) < oth) = false := decide_eq_false (by omega)
  clear hp hN hX hY h hx ho hd
  go_enter Try.func7, Try.ntmps7
  have B := Lib.hid (Below.refl w.heap.size w)
  obtain ⟨g5, hg5⟩ : ∃ G, w.heap.size = G := ⟨_, rfl⟩
  have K5 := Lib.hid (show Blk (w.alloc (.cells #[.int .i64 cap, .int .i64 len, .slice ab N cb] 24)) g5 24 #[.int .i64 cap, .int .i64 len, .slice ab N cb] from Blk.new' w _ _ _ hg5 rfl)
  replace B := Lib.hid (B.out.alloc B.out.size (.cells #[.int .i64 cap, .int .i64 len, .slice ab N cb] 24))
  have S5 := Lib.hid hg5
  go_upto_region 1 with (fail)
  try rw [hg5]
  generalize hw : w.alloc (.cells #[.int .i64 cap, .int .i64 len, .slice ab N cb] 24) = w1 at K5  B ⊢
  clear hw hg5
  obtain ⟨b5c0, b5c1, b5c2⟩ := three K5.out
  go_wp2_with fail
  refine (DA.out w1 (HP.out.mono B.out)).mono ?_
  rintro e w2 ⟨rfl, hb⟩
  replace K5 := Lib.hid (K5.out.below hb K5.out.lt)
  replace B := Lib.hid (B.out.trans (hb.mono B.out.size))
  clear hb
  clear b5c0 b5c1 b5c2
  obtain ⟨b5c0, b5c1, b5c2⟩ := three K5.out
  go_wp2_with fail
  refine (DB.out w2 (HP.out.mono B.out)).mono ?_
  rintro e w3 ⟨rfl, hb⟩
  replace K5 := Lib.hid (K5.out.below hb K5.out.lt)
  replace B := Lib.hid (B.out.trans (hb.mono B.out.size))
  clear hb
  clear b5c0 b5c1 b5c2
  obtain ⟨b5c0, b5c1, b5c2⟩ := three K5.out
  go_wp2_with fail
  refine (DE.out w3 (HP.out.mono B.out)).mono ?_
  rintro e w4 ⟨⟨k, rfl, hk⟩, hb⟩
  replace K5 := Lib.hid (K5.out.below hb K5.out.lt)
  replace B := Lib.hid (B.out.trans (hb.mono B.out.size))
  clear hb
  clear b5c0 b5c1 b5c2
  obtain ⟨b5c0, b5c1, b5c2⟩ := three K5.out
  obtain ⟨g12, hg12⟩ : ∃ G, w4.heap.size = G := ⟨_, rfl⟩
  have K12 := Lib.hid (show Blk (w4.alloc (.cells #[.int .i64 0, .int .i64 0, .slice none 0 0] 24)) g12 24 #[.int .i64 0, .int .i64 0, .slice none 0 0] from Blk.new' w4 _ _ _ hg12 rfl)
  have N512 := Lib.hid (show g5 < g12 from by rw [← hg12]; exact K5.out.lt)
  replace K5 := Lib.hid (K5.out.alloc (.cells #[.int .i64 0, .int .i64 0, .slice none 0 0] 24))
  replace B := Lib.hid (B.out.alloc B.out.size (.cells #[.int .i64 0, .int .i64 0, .slice none 0 0] 24))
  have S12 := Lib.hid hg12
  go_upto_region 5 with (fail)
  try rw [hg12]
  generalize hw : w4.alloc (.cells #[.int .i64 0, .int .i64 0, .slice none 0 0] 24) = w5 at K5 K12  B ⊢
  clear hw hg12
  clear b5c0 b5c1 b5c2
  obtain ⟨b5c0, b5c1, b5c2⟩ := three K5.out
  obtain ⟨b12c0, b12c1, b12c2⟩ := three K12.out
  go_wp2_with fail
  refine (NP.out w5).mono ?_
  rintro e w6 ⟨⟨p, q, rfl, -⟩, hb⟩
  replace K5 := Lib.hid (K5.out.below hb K5.out.lt)
  replace K12 := Lib.hid (K12.out.below hb K12.out.lt)
  replace B := Lib.hid (B.out.trans (hb.mono B.out.size))
  clear hb
  clear b5c0 b5c1 b5c2 b12c0 b12c1 b12c2
  obtain ⟨b5c0, b5c1, b5c2⟩ := three K5.out
  obtain ⟨b12c0, b12c1, b12c2⟩ := three K12.out
  obtain ⟨g14, hg14⟩ : ∃ G, w6.heap.size = G := ⟨_, rfl⟩
  have K14 := Lib.hid (show Blk (w6.alloc (.cells #[.int .i64 p, .slice none 0 0] 45)) g14 45 #[.int .i64 p, .slice none 0 0] from Blk.new' w6 _ _ _ hg14 rfl)
  have N514 := Lib.hid (show g5 < g14 from by rw [← hg14]; exact K5.out.lt)
  replace K5 := Lib.hid (K5.out.alloc (.cells #[.int .i64 p, .slice none 0 0] 45))
  have N1214 := Lib.hid (show g12 < g14 from by rw [← hg14]; exact K12.out.lt)
  replace K12 := Lib.hid (K12.out.alloc (.cells #[.int .i64 p, .slice none 0 0] 45))
  replace B := Lib.hid (B.out.alloc B.out.size (.cells #[.int .i64 p, .slice none 0 0] 45))
  have S14 := Lib.hid hg14
  go_upto_region 6 with (fail)
  try rw [hg14]
  generalize hw : w6.alloc (.cells #[.int .i64 p, .slice none 0 0] 45) = w7 at K5 K12 K14  B ⊢
  clear hw hg14
  clear b5c0 b5c1 b5c2 b12c0 b12c1 b12c2
  have hk2 : (k != 0) = true := by rw [bne, hk]; rfl
  obtain ⟨b5c0, b5c1, b5c2⟩ := three K5.out
  obtain ⟨b12c0, b12c1, b12c2⟩ := three K12.out
  obtain ⟨b14c0, b14c1⟩ := twob K14.out
  go_wp2_with fail
  refine (SN.out w7).mono ?_
  rintro e w8 ⟨rfl, hb⟩
  replace K5 := Lib.hid (K5.out.below hb K5.out.lt)
  replace K12 := Lib.hid (K12.out.below hb K12.out.lt)
  replace K14 := Lib.hid (K14.out.below hb K14.out.lt)
  replace B := Lib.hid (B.out.trans (hb.mono B.out.size))
  clear hb
  clear b5c0 b5c1 b5c2 b12c0 b12c1 b12c2 b14c0 b14c1
  go_wp2
  refine bodyPost_ret (by simp [results, Try.results7, go_sem]; try rfl) rfl ?_
  exact ⟨rfl, B.out⟩
end Go.Proofs.Ytcgdhankllphgaa
