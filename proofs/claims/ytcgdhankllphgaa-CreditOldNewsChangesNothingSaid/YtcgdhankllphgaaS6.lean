/- Contract: the law that old news change nothing. -/
import Derived.Test.YtcgdhankllphgaaMP
import Derived.Test.YtcgdhankllphgaaSM
import Derived.Test.YtcgdhankllphgaaRT
import Derived.Test.YtcgdhankllphgaaSB
import Derived.Deep.Cut
import Derived.Deep.CutRange
namespace Go.Proofs.Ytcgdhankllphgaa
set_option linter.unusedVariables false
set_option linter.unusedSimpArgs false
open Go.RowKit
set_option maxRecDepth 100000 in
set_option maxHeartbeats 2000000 in
theorem old_many (cap len : Int) (ab : Option Addr) (cb : Nat) (l : List Rw) (plen : Int) (ap : Option Addr) (cp : Nat) (k : List Rw) (wi ga one two : Int) (w : World) (hp : RwA w ab l) (hk : RwA w ap k) (h : 40 < l.length) : Calls Try.prog 6 #[.agg #[.int .i64 cap, .int .i64 len, .slice ab l.length cb], .agg #[.int .i64 plen, .slice ap k.length cp], .int .i64 wi, .int .i64 ga, .int .i64 one, .int .i64 two] w fun e w' => e = .returned (.bool true) ∧ Below w.heap.size w w' := by
  have HP := Lib.hid hp
  have HK := Lib.hid hk
  have SN := Lib.hid (fun X : World => sanity_any X)
  obtain ⟨N, hN⟩ : ∃ N, l.length = N := ⟨_, rfl⟩
  obtain ⟨P, hP⟩ : ∃ P, k.length = P := ⟨_, rfl⟩
  rw [hN] at h ⊢
  rw [hP]
  have t1 : decide ((40 : Int) < (N : Int)) = true := decide_eq_true (by omega)
  clear hp hk hN hP h
  go_enter Try.func6, Try.ntmps6
  obtain ⟨g6, hg6⟩ : ∃ G, w.heap.size = G := ⟨_, rfl⟩
  obtain ⟨g7, hg7⟩ : ∃ G, g6 + 1 = G := ⟨_, rfl⟩
  have K6 := Lib.hid (show Blk ((w.alloc (.cells #[.int .i64 cap, .int .i64 len, .slice ab N cb] 24)).alloc (.cells #[.int .i64 plen, .slice ap P cp] 45)) g6 24 #[.int .i64 cap, .int .i64 len, .slice ab N cb] from (Blk.new' w _ _ _ hg6 rfl).alloc _)
  have K7 := Lib.hid (show Blk ((w.alloc (.cells #[.int .i64 cap, .int .i64 len, .slice ab N cb] 24)).alloc (.cells #[.int .i64 plen, .slice ap P cp] 45)) g7 45 #[.int .i64 plen, .slice ap P cp] from Blk.new' _ _ _ _ (by rw [World.size_alloc, hg6, hg7]) rfl)
  have B := Lib.hid (show Below w.heap.size w ((w.alloc (.cells #[.int .i64 cap, .int .i64 len, .slice ab N cb] 24)).alloc (.cells #[.int .i64 plen, .slice ap P cp] 45)) by (repeat' (first | (with_reducible exact Below.refl _ _) | (with_reducible assumption) | (with_reducible refine Below.alloc ?_ ?_ _) | (with_reducible refine Below.drew ?_) | (with_reducible refine below_dn ?_) | (with_reducible refine Below.setCell ?_ ?_ _) | (with_reducible exact Nat.le_refl _) | omega | (simp only [World.size_alloc, World.size_setCell, World.size_drew]; omega) | (simp; omega) | (simp; done))))
  go_upto_region 1 with (fail)
  try rw [hg6]
  try rw [hg7]
  generalize hw : ((w.alloc (.cells #[.int .i64 cap, .int .i64 len, .slice ab N cb] 24)).alloc (.cells #[.int .i64 plen, .slice ap P cp] 45)) = wa at K6 K7 B ⊢
  clear hw hg6 hg7
  obtain ⟨b6c0, b6c1, b6c2⟩ := three K6.out
  obtain ⟨b7c0, b7c1⟩ := twob K7.out
  go_wp2_with fail
  refine (SN.out wa).mono ?_
  rintro e w1 ⟨rfl, hb⟩
  replace K6 := Lib.hid (K6.out.below hb K6.out.lt)
  replace K7 := Lib.hid (K7.out.below hb K7.out.lt)
  replace B := Lib.hid (B.out.trans (hb.mono B.out.size))
  clear hb
  clear b6c0 b6c1 b6c2 b7c0 b7c1
  go_wp2
  refine bodyPost_ret (by simp [results, Try.results6, go_sem]; try rfl) rfl ?_
  exact ⟨rfl, B.out⟩
set_option maxRecDepth 100000 in
set_option maxHeartbeats 2000000 in
theorem old_many2 (cap len : Int) (ab : Option Addr) (cb : Nat) (l : List Rw) (plen : Int) (ap : Option Addr) (cp : Nat) (k : List Rw) (wi ga one two : Int) (w : World) (hp : RwA w ab l) (hk : RwA w ap k) (h : ¬ 40 < l.length) (h2 : 40 < k.length) : Calls Try.prog 6 #[.agg #[.int .i64 cap, .int .i64 len, .slice ab l.length cb], .agg #[.int .i64 plen, .slice ap k.length cp], .int .i64 wi, .int .i64 ga, .int .i64 one, .int .i64 two] w fun e w' => e = .returned (.bool true) ∧ Below w.heap.size w w' := by
  have HP := Lib.hid hp
  have HK := Lib.hid hk
  have SN := Lib.hid (fun X : World => sanity_any X)
  obtain ⟨N, hN⟩ : ∃ N, l.length = N := ⟨_, rfl⟩
  obtain ⟨P, hP⟩ : ∃ P, k.length = P := ⟨_, rfl⟩
  rw [hN] at h ⊢
  rw [hP] at h2 ⊢
  have t1 : decide ((40 : Int) < (N : Int)) = false := decide_eq_false (by omega)
  have t2 : decide ((40 : Int) < (P : Int)) = true := decide_eq_true (by omega)
  clear hp hk hN hP h h2
  go_enter Try.func6, Try.ntmps6
  obtain ⟨g6, hg6⟩ : ∃ G, w.heap.size = G := ⟨_, rfl⟩
  obtain ⟨g7, hg7⟩ : ∃ G, g6 + 1 = G := ⟨_, rfl⟩
  have K6 := Lib.hid (show Blk ((w.alloc (.cells #[.int .i64 cap, .int .i64 len, .slice ab N cb] 24)).alloc (.cells #[.int .i64 plen, .slice ap P cp] 45)) g6 24 #[.int .i64 cap, .int .i64 len, .slice ab N cb] from (Blk.new' w _ _ _ hg6 rfl).alloc _)
  have K7 := Lib.hid (show Blk ((w.alloc (.cells #[.int .i64 cap, .int .i64 len, .slice ab N cb] 24)).alloc (.cells #[.int .i64 plen, .slice ap P cp] 45)) g7 45 #[.int .i64 plen, .slice ap P cp] from Blk.new' _ _ _ _ (by rw [World.size_alloc, hg6, hg7]) rfl)
  have B := Lib.hid (show Below w.heap.size w ((w.alloc (.cells #[.int .i64 cap, .int .i64 len, .slice ab N cb] 24)).alloc (.cells #[.int .i64 plen, .slice ap P cp] 45)) by (repeat' (first | (with_reducible exact Below.refl _ _) | (with_reducible assumption) | (with_reducible refine Below.alloc ?_ ?_ _) | (with_reducible refine Below.drew ?_) | (with_reducible refine below_dn ?_) | (with_reducible refine Below.setCell ?_ ?_ _) | (with_reducible exact Nat.le_refl _) | omega | (simp only [World.size_alloc, World.size_setCell, World.size_drew]; omega) | (simp; omega) | (simp; done))))
  go_upto_region 1 with (fail)
  try rw [hg6]
  try rw [hg7]
  generalize hw : ((w.alloc (.cells #[.int .i64 cap, .int .i64 len, .slice ab N cb] 24)).alloc (.cells #[.int .i64 plen, .slice ap P cp] 45)) = wa at K6 K7 B ⊢
  clear hw hg6 hg7
  obtain ⟨b6c0, b6c1, b6c2⟩ := three K6.out
  obtain ⟨b7c0, b7c1⟩ := twob K7.out
  go_wp2_with fail
  refine (SN.out wa).mono ?_
  rintro e w1 ⟨rfl, hb⟩
  replace K6 := Lib.hid (K6.out.below hb K6.out.lt)
  replace K7 := Lib.hid (K7.out.below hb K7.out.lt)
  replace B := Lib.hid (B.out.trans (hb.mono B.out.size))
  clear hb
  clear b6c0 b6c1 b6c2 b7c0 b7c1
  go_wp2
  refine bodyPost_ret (by simp [results, Try.results6, go_sem]; try rfl) rfl ?_
  exact ⟨rfl, B.out⟩
set_option maxRecDepth 100000 in
set_option maxHeartbeats 2000000 in
theorem old_one (cap len : Int) (ab : Option Addr) (cb : Nat) (l : List Rw) (plen : Int) (ap : Option Addr) (cp : Nat) (k : List Rw) (wi ga one two : Int) (w : World) (hp : RwA w ab l) (hk : RwA w ap k) (h : ¬ 40 < l.length) (h2 : ¬ 40 < k.length) (h3 : one < 0) : Calls Try.prog 6 #[.agg #[.int .i64 cap, .int .i64 len, .slice ab l.length cb], .agg #[.int .i64 plen, .slice ap k.length cp], .int .i64 wi, .int .i64 ga, .int .i64 one, .int .i64 two] w fun e w' => e = .returned (.bool true) ∧ Below w.heap.size w w' := by
  have HP := Lib.hid hp
  have HK := Lib.hid hk
  have SN := Lib.hid (fun X : World => sanity_any X)
  obtain ⟨N, hN⟩ : ∃ N, l.length = N := ⟨_, rfl⟩
  obtain ⟨P, hP⟩ : ∃ P, k.length = P := ⟨_, rfl⟩
  rw [hN] at h ⊢
  rw [hP] at h2 ⊢
  have t1 : decide ((40 : Int) < (N : Int)) = false := decide_eq_false (by omega)
  have t2 : decide ((40 : Int) < (P : Int)) = false := decide_eq_false (by omega)
  have t3 : decide (one < 0) = true := decide_eq_true (by omega)
  clear hp hk hN hP h h2 h3
  go_enter Try.func6, Try.ntmps6
  obtain ⟨g6, hg6⟩ : ∃ G, w.heap.size = G := ⟨_, rfl⟩
  obtain ⟨g7, hg7⟩ : ∃ G, g6 + 1 = G := ⟨_, rfl⟩
  have K6 := Lib.hid (show Blk ((w.alloc (.cells #[.int .i64 cap, .int .i64 len, .slice ab N cb] 24)).alloc (.cells #[.int .i64 plen, .slice ap P cp] 45)) g6 24 #[.int .i64 cap, .int .i64 len, .slice ab N cb] from (Blk.new' w _ _ _ hg6 rfl).alloc _)
  have K7 := Lib.hid (show Blk ((w.alloc (.cells #[.int .i64 cap, .int .i64 len, .slice ab N cb] 24)).alloc (.cells #[.int .i64 plen, .slice ap P cp] 45)) g7 45 #[.int .i64 plen, .slice ap P cp] from Blk.new' _ _ _ _ (by rw [World.size_alloc, hg6, hg7]) rfl)
  have B := Lib.hid (show Below w.heap.size w ((w.alloc (.cells #[.int .i64 cap, .int .i64 len, .slice ab N cb] 24)).alloc (.cells #[.int .i64 plen, .slice ap P cp] 45)) by (repeat' (first | (with_reducible exact Below.refl _ _) | (with_reducible assumption) | (with_reducible refine Below.alloc ?_ ?_ _) | (with_reducible refine Below.drew ?_) | (with_reducible refine below_dn ?_) | (with_reducible refine Below.setCell ?_ ?_ _) | (with_reducible exact Nat.le_refl _) | omega | (simp only [World.size_alloc, World.size_setCell, World.size_drew]; omega) | (simp; omega) | (simp; done))))
  go_upto_region 1 with (fail)
  try rw [hg6]
  try rw [hg7]
  generalize hw : ((w.alloc (.cells #[.int .i64 cap, .int .i64 len, .slice ab N cb] 24)).alloc (.cells #[.int .i64 plen, .slice ap P cp] 45)) = wa at K6 K7 B ⊢
  clear hw hg6 hg7
  obtain ⟨b6c0, b6c1, b6c2⟩ := three K6.out
  obtain ⟨b7c0, b7c1⟩ := twob K7.out
  go_wp2_with fail
  refine (SN.out wa).mono ?_
  rintro e w1 ⟨rfl, hb⟩
  replace K6 := Lib.hid (K6.out.below hb K6.out.lt)
  replace K7 := Lib.hid (K7.out.below hb K7.out.lt)
  replace B := Lib.hid (B.out.trans (hb.mono B.out.size))
  clear hb
  clear b6c0 b6c1 b6c2 b7c0 b7c1
  go_wp2
  refine bodyPost_ret (by simp [results, Try.results6, go_sem]; try rfl) rfl ?_
  exact ⟨rfl, B.out⟩
set_option maxRecDepth 100000 in
set_option maxHeartbeats 2000000 in
theorem old_two (cap len : Int) (ab : Option Addr) (cb : Nat) (l : List Rw) (plen : Int) (ap : Option Addr) (cp : Nat) (k : List Rw) (wi ga one two : Int) (w : World) (hp : RwA w ab l) (hk : RwA w ap k) (h : ¬ 40 < l.length) (h2 : ¬ 40 < k.length) (h3 : ¬ one < 0) (h4 : two < 0) : Calls Try.prog 6 #[.agg #[.int .i64 cap, .int .i64 len, .slice ab l.length cb], .agg #[.int .i64 plen, .slice ap k.length cp], .int .i64 wi, .int .i64 ga, .int .i64 one, .int .i64 two] w fun e w' => e = .returned (.bool true) ∧ Below w.heap.size w w' := by
  have HP := Lib.hid hp
  have HK := Lib.hid hk
  have SN := Lib.hid (fun X : World => sanity_any X)
  obtain ⟨N, hN⟩ : ∃ N, l.length = N := ⟨_, rfl⟩
  obtain ⟨P, hP⟩ : ∃ P, k.length = P := ⟨_, rfl⟩
  rw [hN] at h ⊢
  rw [hP] at h2 ⊢
  have t1 : decide ((40 : Int) < (N : Int)) = false := decide_eq_false (by omega)
  have t2 : decide ((40 : Int) < (P : Int)) = false := decide_eq_false (by omega)
  have t3 : decide (one < 0) = false := decide_eq_false (by omega)
  have t4 : decide (two < 0) = true := decide_eq_true (by omega)
  clear hp hk hN hP h h2 h3 h4
  go_enter Try.func6, Try.ntmps6
  obtain ⟨g6, hg6⟩ : ∃ G, w.heap.size = G := ⟨_, rfl⟩
  obtain ⟨g7, hg7⟩ : ∃ G, g6 + 1 = G := ⟨_, rfl⟩
  have K6 := Lib.hid (show Blk ((w.alloc (.cells #[.int .i64 cap, .int .i64 len, .slice ab N cb] 24)).alloc (.cells #[.int .i64 plen, .slice ap P cp] 45)) g6 24 #[.int .i64 cap, .int .i64 len, .slice ab N cb] from (Blk.new' w _ _ _ hg6 rfl).alloc _)
  have K7 := Lib.hid (show Blk ((w.alloc (.cells #[.int .i64 cap, .int .i64 len, .slice ab N cb] 24)).alloc (.cells #[.int .i64 plen, .slice ap P cp] 45)) g7 45 #[.int .i64 plen, .slice ap P cp] from Blk.new' _ _ _ _ (by rw [World.size_alloc, hg6, hg7]) rfl)
  have B := Lib.hid (show Below w.heap.size w ((w.alloc (.cells #[.int .i64 cap, .int .i64 len, .slice ab N cb] 24)).alloc (.cells #[.int .i64 plen, .slice ap P cp] 45)) by (repeat' (first | (with_reducible exact Below.refl _ _) | (with_reducible assumption) | (with_reducible refine Below.alloc ?_ ?_ _) | (with_reducible refine Below.drew ?_) | (with_reducible refine below_dn ?_) | (with_reducible refine Below.setCell ?_ ?_ _) | (with_reducible exact Nat.le_refl _) | omega | (simp only [World.size_alloc, World.size_setCell, World.size_drew]; omega) | (simp; omega) | (simp; done))))
  go_upto_region 1 with (fail)
  try rw [hg6]
  try rw [hg7]
  generalize hw : ((w.alloc (.cells #[.int .i64 cap, .int .i64 len, .slice ab N cb] 24)).alloc (.cells #[.int .i64 plen, .slice ap P cp] 45)) = wa at K6 K7 B ⊢
  clear hw hg6 hg7
  obtain ⟨b6c0, b6c1, b6c2⟩ := three K6.out
  obtain ⟨b7c0, b7c1⟩ := twob K7.out
  go_wp2_with fail
  refine (SN.out wa).mono ?_
  rintro e w1 ⟨rfl, hb⟩
  replace K6 := Lib.hid (K6.out.below hb K6.out.lt)
  replace K7 := Lib.hid (K7.out.below hb K7.out.lt)
  replace B := Lib.hid (B.out.trans (hb.mono B.out.size))
  clear hb
  clear b6c0 b6c1 b6c2 b7c0 b7c1
  go_wp2
  refine bodyPost_ret (by simp [results, Try.results6, go_sem]; try rfl) rfl ?_
  exact ⟨rfl, B.out⟩
set_option maxRecDepth 100000 in
set_option maxHeartbeats 8000000 in
theorem old_11 (cap len : Int) (ab : Option Addr) (cb : Nat) (l : List Rw) (plen : Int) (ap : Option Addr) (cp : Nat) (k : List Rw) (wi ga one two : Int) (w : World) (hp : RwA w ab l) (hk : RwA w ap k) (h : ¬ 40 < l.length) (h2 : ¬ 40 < k.length) (h3 : ¬ one < 0) (h4 : ¬ two < 0) (hb : OkB cap len l ∧ winOk wi ∧ gateOk ga ∧ 0 ≤ max one two ∧ max one two ≤ dealtL l wi ga) (hq : OkP plen k ∧ winOk wi ∧ 0 ≤ max one two ∧ max one two ≤ 1099511627776) : Calls Try.prog 6 #[.agg #[.int .i64 cap, .int .i64 len, .slice ab l.length cb], .agg #[.int .i64 plen, .slice ap k.length cp], .int .i64 wi, .int .i64 ga, .int .i64 one, .int .i64 two] w fun e w' => e = .returned (.bool true) ∧ Below w.heap.size w w' := by
  have HP := Lib.hid hp
  have HK := Lib.hid hk
  have SN := Lib.hid (fun X : World => sanity_any X)
  obtain ⟨M, hM⟩ : ∃ M, max one two = M := ⟨_, rfl⟩
  have hM2 : max two one = M := by rw [Int.max_comm]; exact hM
  have hM3 : (if one < two then two else one) = M := by rw [← hM, Int.max_def]; split <;> split <;> omega
  have hM4 : (if two < one then one else two) = M := by rw [← hM, Int.max_def]; split <;> split <;> omega
  have m1 : one ≤ M := by rw [← hM]; exact Int.le_max_left _ _
  have m2 : two ≤ M := by rw [← hM]; exact Int.le_max_right _ _
  rw [hM] at hb hq
  obtain ⟨ok, p1, p2, p3, p4⟩ := hb
  obtain ⟨r1, r2, r3, r4⟩ := ret_any (t := M) ok ⟨p3, p4⟩
  have R1 := Lib.hid (fun (X : World) (q : RwA X ab l) => ret_ok cap len ab cb l wi ga M X q ok p1 p2 ⟨p3, p4⟩)
  have OB := Lib.hid (fun (X : World) (q : RwA X ab l) => out_any cap len ab cb l wi X q ok)
  have dl : dealtL (retL l wi ga M) wi ga = dealtL l wi ga := r3
  have e1 : retL (retL l wi ga M) wi ga one = retL l wi ga M := ret_old (fun q => Int.le_trans m1 (r4 q))
  have e2 : retL (retL l wi ga M) wi ga two = retL l wi ga M := ret_old (fun q => Int.le_trans m2 (r4 q))
  obtain ⟨L1, hL1⟩ : ∃ L, retL l wi ga M = L := ⟨_, rfl⟩
  rw [hL1] at r1 r2 r4 e1 e2 dl
  simp only [hL1] at R1
  have R2 := Lib.hid (fun (a : Option Addr) (c : Nat) (X : World) (q : RwA X a L1) => ret_ok cap len a c L1 wi ga one X q r1 p1 p2 ⟨by omega, by omega⟩)
  have R3 := Lib.hid (fun (a : Option Addr) (c : Nat) (X : World) (q : RwA X a L1) => ret_ok cap len a c L1 wi ga two X q r1 p1 p2 ⟨by omega, by omega⟩)
  simp only [e1] at R2
  simp only [e2] at R3
  have lm : L1.length ≤ 9223372036854775807 := by have := r1.head.2.2; omega
  have SB := Lib.hid (fun (a b : Option Addr) (c c2 : Nat) (X : World) (q : RwA X a L1) (q2 : RwA X b L1) => same_bank cap len a b c c2 L1 X q q2 lm)
  have OC := Lib.hid (fun (a : Option Addr) (c : Nat) (X : World) (q : RwA X a L1) => out_any cap len a c L1 wi X q r1)
  obtain ⟨o1, ho1⟩ : ∃ z, outL L1 wi = z := ⟨_, rfl⟩
  obtain ⟨o0, ho0⟩ : ∃ z, outL l wi = z := ⟨_, rfl⟩
  rw [ho1, ho0] at r2
  simp only [ho1] at OC
  simp only [ho0] at OB
  have u1 : decide (o0 < o1) = false := decide_eq_false (by omega)
  clear ok p1 p2 p3 p4 r1 r2 r3 r4 dl e1 e2 hL1 lm ho1 ho0
  obtain ⟨ok, p1, p3, p4⟩ := hq
  obtain ⟨r1, r2, r3, r4⟩ := recv_facts (t := M) ok p1 ⟨p3, p4⟩ (by omega)
  have Q1 := Lib.hid (fun (X : World) (q : RwA X ap k) => recv_ok plen ap cp k wi M X q ok p1 ⟨p3, p4⟩ (Or.inr (Or.inr (by omega))))
  have LP := Lib.hid (fun (X : World) (q : RwA X ap k) => leftp_any plen ap cp k wi X q ok)
  have e1 : recvL (recvL k wi M) wi one = recvL k wi M := recv_old (by omega)
  have e2 : recvL (recvL k wi M) wi two = recvL k wi M := recv_old (by omega)
  obtain ⟨K1, hK1⟩ : ∃ L, recvL k wi M = L := ⟨_, rfl⟩
  rw [hK1] at r1 r2 r3 r4 e1 e2
  simp only [hK1] at Q1
  have Q2 := Lib.hid (fun (a : Option Addr) (c : Nat) (X : World) (q : RwA X a K1) => recv_ok plen a c K1 wi one X q r1 p1 ⟨by omega, by omega⟩ (Or.inr (Or.inr (by omega))))
  have Q3 := Lib.hid (fun (a : Option Addr) (c : Nat) (X : World) (q : RwA X a K1) => recv_ok plen a c K1 wi two X q r1 p1 ⟨by omega, by omega⟩ (Or.inr (Or.inr (by omega))))
  simp only [e1] at Q2
  simp only [e2] at Q3
  have km : K1.length ≤ 9223372036854775807 := by omega
  have SP := Lib.hid (fun (a b : Option Addr) (c c2 : Nat) (X : World) (q : RwA X a K1) (q2 : RwA X b K1) => same_purse plen a b c c2 K1 X q q2 km)
  have LQ := Lib.hid (fun (a : Option Addr) (c : Nat) (X : World) (q : RwA X a K1) => leftp_any plen a c K1 wi X q r1)
  obtain ⟨f1, hf1⟩ : ∃ z, leftX (coinL K1 wi) = z := ⟨_, rfl⟩
  obtain ⟨f0, hf0⟩ : ∃ z, leftX (coinL k wi) = z := ⟨_, rfl⟩
  rw [hf1, hf0] at r3
  simp only [hf1] at LQ
  simp only [hf0] at LP
  have u2 : decide (f0 ≤ f1) = true := decide_eq_true r3
  clear ok p1 p3 p4 r1 r2 r3 r4 e1 e2 hK1 km hf1 hf0
  obtain ⟨N, hN⟩ : ∃ N, l.length = N := ⟨_, rfl⟩
  obtain ⟨P, hP⟩ : ∃ P, k.length = P := ⟨_, rfl⟩
  simp only [hN] at R1 OB
  simp only [hP] at Q1 LP
  rw [hN] at h ⊢
  rw [hP] at h2 ⊢
  have t1 : decide ((40 : Int) < (N : Int)) = false := decide_eq_false (by omega)
  have t2 : decide ((40 : Int) < (P : Int)) = false := decide_eq_false (by omega)
  have t3 : decide (one < 0) = false := decide_eq_false (by omega)
  have t4 : decide (two < 0) = false := decide_eq_false (by omega)
  clear hp hk hN hP h h2 h3 h4 m1 m2
  go_enter Try.func6, Try.ntmps6
  obtain ⟨g6, hg6⟩ : ∃ G, w.heap.size = G := ⟨_, rfl⟩
  obtain ⟨g7, hg7⟩ : ∃ G, g6 + 1 = G := ⟨_, rfl⟩
  have K6 := Lib.hid (show Blk ((w.alloc (.cells #[.int .i64 cap, .int .i64 len, .slice ab N cb] 24)).alloc (.cells #[.int .i64 plen, .slice ap P cp] 45)) g6 24 #[.int .i64 cap, .int .i64 len, .slice ab N cb] from (Blk.new' w _ _ _ hg6 rfl).alloc _)
  have K7 := Lib.hid (show Blk ((w.alloc (.cells #[.int .i64 cap, .int .i64 len, .slice ab N cb] 24)).alloc (.cells #[.int .i64 plen, .slice ap P cp] 45)) g7 45 #[.int .i64 plen, .slice ap P cp] from Blk.new' _ _ _ _ (by rw [World.size_alloc, hg6, hg7]) rfl)
  have B := Lib.hid (show Below w.heap.size w ((w.alloc (.cells #[.int .i64 cap, .int .i64 len, .slice ab N cb] 24)).alloc (.cells #[.int .i64 plen, .slice ap P cp] 45)) by (repeat' (first | (with_reducible exact Below.refl _ _) | (with_reducible assumption) | (with_reducible refine Below.alloc ?_ ?_ _) | (with_reducible refine Below.drew ?_) | (with_reducible refine below_dn ?_) | (with_reducible refine Below.setCell ?_ ?_ _) | (with_reducible exact Nat.le_refl _) | omega | (simp only [World.size_alloc, World.size_setCell, World.size_drew]; omega) | (simp; omega) | (simp; done))))
  go_upto_region 1 with (fail)
  try rw [hg6]
  try rw [hg7]
  generalize hw : ((w.alloc (.cells #[.int .i64 cap, .int .i64 len, .slice ab N cb] 24)).alloc (.cells #[.int .i64 plen, .slice ap P cp] 45)) = wa at K6 K7 B ⊢
  clear hw hg6 hg7
  obtain ⟨b6c0, b6c1, b6c2⟩ := three K6.out
  obtain ⟨b7c0, b7c1⟩ := twob K7.out
  go_wp2_with fail
  refine (R1.out wa (HP.out.mono B.out)).mono ?_
  rintro e w1 ⟨⟨ac, cc, rfl, hr, hf⟩, hb⟩
  replace K6 := Lib.hid (K6.out.below hb K6.out.lt)
  replace K7 := Lib.hid (K7.out.below hb K7.out.lt)
  replace B := Lib.hid (B.out.trans (hb.mono B.out.size))
  have Rc := Lib.hid hr
  have Fc := Lib.hid hf
  clear hb hr hf
  clear b6c0 b6c1 b6c2 b7c0 b7c1
  clear Fc
  obtain ⟨b6c0, b6c1, b6c2⟩ := three K6.out
  obtain ⟨b7c0, b7c1⟩ := twob K7.out
  obtain ⟨g14, hg14⟩ : ∃ G, w1.heap.size = G := ⟨_, rfl⟩
  have K14 := Lib.hid (show Blk (w1.alloc (.cells #[.int .i64 cap, .int .i64 len, .slice ac L1.length cc] 24)) g14 24 #[.int .i64 cap, .int .i64 len, .slice ac L1.length cc] from Blk.new' w1 _ _ _ hg14 rfl)
  have N614 := Lib.hid (show g6 < g14 from by rw [← hg14]; exact K6.out.lt)
  replace K6 := Lib.hid (K6.out.alloc (.cells #[.int .i64 cap, .int .i64 len, .slice ac L1.length cc] 24))
  have N714 := Lib.hid (show g7 < g14 from by rw [← hg14]; exact K7.out.lt)
  replace K7 := Lib.hid (K7.out.alloc (.cells #[.int .i64 cap, .int .i64 len, .slice ac L1.length cc] 24))
  replace Rc := Lib.hid (Rc.out.mono ((Below.refl _ w1).alloc (Nat.le_refl _) (.cells #[.int .i64 cap, .int .i64 len, .slice ac L1.length cc] 24)))
  replace B := Lib.hid (B.out.alloc B.out.size (.cells #[.int .i64 cap, .int .i64 len, .slice ac L1.length cc] 24))
  have S14 := Lib.hid hg14
  go_upto_region 5 with (fail)
  try rw [hg14]
  generalize hw : w1.alloc (.cells #[.int .i64 cap, .int .i64 len, .slice ac L1.length cc] 24) = w2 at K6 K7 K14 Rc B ⊢
  clear hw hg14
  clear b6c0 b6c1 b6c2 b7c0 b7c1
  obtain ⟨b6c0, b6c1, b6c2⟩ := three K6.out
  obtain ⟨b7c0, b7c1⟩ := twob K7.out
  obtain ⟨b14c0, b14c1, b14c2⟩ := three K14.out
  go_wp2_with fail
  refine (R2.out ac cc w2 Rc.out).mono ?_
  rintro e w3 ⟨⟨ad, cd, rfl, hr, hf⟩, hb⟩
  replace K6 := Lib.hid (K6.out.below hb K6.out.lt)
  replace K7 := Lib.hid (K7.out.below hb K7.out.lt)
  replace K14 := Lib.hid (K14.out.below hb K14.out.lt)
  replace Rc := Lib.hid (Rc.out.mono hb)
  replace B := Lib.hid (B.out.trans (hb.mono B.out.size))
  have Rd := Lib.hid hr
  have Fd := Lib.hid hf
  clear hb hr hf
  clear b6c0 b6c1 b6c2 b7c0 b7c1 b14c0 b14c1 b14c2
  clear Fd
  obtain ⟨b6c0, b6c1, b6c2⟩ := three K6.out
  obtain ⟨b7c0, b7c1⟩ := twob K7.out
  obtain ⟨b14c0, b14c1, b14c2⟩ := three K14.out
  obtain ⟨g16, hg16⟩ : ∃ G, w3.heap.size = G := ⟨_, rfl⟩
  have K16 := Lib.hid (show Blk (w3.alloc (.cells #[.int .i64 cap, .int .i64 len, .slice ad L1.length cd] 24)) g16 24 #[.int .i64 cap, .int .i64 len, .slice ad L1.length cd] from Blk.new' w3 _ _ _ hg16 rfl)
  have N616 := Lib.hid (show g6 < g16 from by rw [← hg16]; exact K6.out.lt)
  replace K6 := Lib.hid (K6.out.alloc (.cells #[.int .i64 cap, .int .i64 len, .slice ad L1.length cd] 24))
  have N716 := Lib.hid (show g7 < g16 from by rw [← hg16]; exact K7.out.lt)
  replace K7 := Lib.hid (K7.out.alloc (.cells #[.int .i64 cap, .int .i64 len, .slice ad L1.length cd] 24))
  have N1416 := Lib.hid (show g14 < g16 from by rw [← hg16]; exact K14.out.lt)
  replace K14 := Lib.hid (K14.out.alloc (.cells #[.int .i64 cap, .int .i64 len, .slice ad L1.length cd] 24))
  replace Rc := Lib.hid (Rc.out.mono ((Below.refl _ w3).alloc (Nat.le_refl _) (.cells #[.int .i64 cap, .int .i64 len, .slice ad L1.length cd] 24)))
  replace Rd := Lib.hid (Rd.out.mono ((Below.refl _ w3).alloc (Nat.le_refl _) (.cells #[.int .i64 cap, .int .i64 len, .slice ad L1.length cd] 24)))
  replace B := Lib.hid (B.out.alloc B.out.size (.cells #[.int .i64 cap, .int .i64 len, .slice ad L1.length cd] 24))
  have S16 := Lib.hid hg16
  go_upto_region 7 with (fail)
  try rw [hg16]
  generalize hw : w3.alloc (.cells #[.int .i64 cap, .int .i64 len, .slice ad L1.length cd] 24) = w4 at K6 K7 K14 K16 Rc Rd B ⊢
  clear hw hg16
  clear b6c0 b6c1 b6c2 b7c0 b7c1 b14c0 b14c1 b14c2
  obtain ⟨b6c0, b6c1, b6c2⟩ := three K6.out
  obtain ⟨b7c0, b7c1⟩ := twob K7.out
  obtain ⟨b14c0, b14c1, b14c2⟩ := three K14.out
  obtain ⟨b16c0, b16c1, b16c2⟩ := three K16.out
  go_wp2_with fail
  refine (R3.out ac cc w4 Rc.out).mono ?_
  rintro e w5 ⟨⟨ax, cx, rfl, hr, hf⟩, hb⟩
  replace K6 := Lib.hid (K6.out.below hb K6.out.lt)
  replace K7 := Lib.hid (K7.out.below hb K7.out.lt)
  replace K14 := Lib.hid (K14.out.below hb K14.out.lt)
  replace K16 := Lib.hid (K16.out.below hb K16.out.lt)
  replace Rc := Lib.hid (Rc.out.mono hb)
  replace Rd := Lib.hid (Rd.out.mono hb)
  replace B := Lib.hid (B.out.trans (hb.mono B.out.size))
  have Rx := Lib.hid hr
  have Fx := Lib.hid hf
  clear hb hr hf
  clear b6c0 b6c1 b6c2 b7c0 b7c1 b14c0 b14c1 b14c2 b16c0 b16c1 b16c2
  clear Fx
  obtain ⟨b6c0, b6c1, b6c2⟩ := three K6.out
  obtain ⟨b7c0, b7c1⟩ := twob K7.out
  obtain ⟨b14c0, b14c1, b14c2⟩ := three K14.out
  obtain ⟨b16c0, b16c1, b16c2⟩ := three K16.out
  obtain ⟨g18, hg18⟩ : ∃ G, w5.heap.size = G := ⟨_, rfl⟩
  have K18 := Lib.hid (show Blk (w5.alloc (.cells #[.int .i64 cap, .int .i64 len, .slice ax L1.length cx] 24)) g18 24 #[.int .i64 cap, .int .i64 len, .slice ax L1.length cx] from Blk.new' w5 _ _ _ hg18 rfl)
  have N618 := Lib.hid (show g6 < g18 from by rw [← hg18]; exact K6.out.lt)
  replace K6 := Lib.hid (K6.out.alloc (.cells #[.int .i64 cap, .int .i64 len, .slice ax L1.length cx] 24))
  have N718 := Lib.hid (show g7 < g18 from by rw [← hg18]; exact K7.out.lt)
  replace K7 := Lib.hid (K7.out.alloc (.cells #[.int .i64 cap, .int .i64 len, .slice ax L1.length cx] 24))
  have N1418 := Lib.hid (show g14 < g18 from by rw [← hg18]; exact K14.out.lt)
  replace K14 := Lib.hid (K14.out.alloc (.cells #[.int .i64 cap, .int .i64 len, .slice ax L1.length cx] 24))
  have N1618 := Lib.hid (show g16 < g18 from by rw [← hg18]; exact K16.out.lt)
  replace K16 := Lib.hid (K16.out.alloc (.cells #[.int .i64 cap, .int .i64 len, .slice ax L1.length cx] 24))
  replace Rc := Lib.hid (Rc.out.mono ((Below.refl _ w5).alloc (Nat.le_refl _) (.cells #[.int .i64 cap, .int .i64 len, .slice ax L1.length cx] 24)))
  replace Rd := Lib.hid (Rd.out.mono ((Below.refl _ w5).alloc (Nat.le_refl _) (.cells #[.int .i64 cap, .int .i64 len, .slice ax L1.length cx] 24)))
  replace Rx := Lib.hid (Rx.out.mono ((Below.refl _ w5).alloc (Nat.le_refl _) (.cells #[.int .i64 cap, .int .i64 len, .slice ax L1.length cx] 24)))
  replace B := Lib.hid (B.out.alloc B.out.size (.cells #[.int .i64 cap, .int .i64 len, .slice ax L1.length cx] 24))
  have S18 := Lib.hid hg18
  go_upto_region 8 with (fail)
  try rw [hg18]
  generalize hw : w5.alloc (.cells #[.int .i64 cap, .int .i64 len, .slice ax L1.length cx] 24) = w6 at K6 K7 K14 K16 K18 Rc Rd Rx B ⊢
  clear hw hg18
  clear b6c0 b6c1 b6c2 b7c0 b7c1 b14c0 b14c1 b14c2 b16c0 b16c1 b16c2
  go_cut [100] from 74 to 101 (fun u wx => u = .bool false ∧ Hid (Below w6.heap.size w6 wx))
  case first =>
    have HPd := Lib.hid (HP.out.mono B.out)
    have K6d := Lib.hid K6.out.drew
    have K14d := Lib.hid K14.out.drew
    have K16d := Lib.hid K16.out.drew
    have K18d := Lib.hid K18.out.drew
    have BW := Lib.hid (show Below w6.heap.size w6 w6.drew from (Below.refl _ _).drew)
    go_region_held3 (fun X => (X.cell? ⟨g6, 0, none⟩ = some (.int .i64 cap) ∧ X.cell? ⟨g6, 1, none⟩ = some (.int .i64 len) ∧ X.cell? ⟨g6, 2, none⟩ = some (.slice ab N cb)) ∧ (X.cell? ⟨g14, 0, none⟩ = some (.int .i64 cap) ∧ X.cell? ⟨g14, 1, none⟩ = some (.int .i64 len) ∧ X.cell? ⟨g14, 2, none⟩ = some (.slice ac L1.length cc)) ∧ (X.cell? ⟨g16, 0, none⟩ = some (.int .i64 cap) ∧ X.cell? ⟨g16, 1, none⟩ = some (.int .i64 len) ∧ X.cell? ⟨g16, 2, none⟩ = some (.slice ad L1.length cd)) ∧ (X.cell? ⟨g18, 0, none⟩ = some (.int .i64 cap) ∧ X.cell? ⟨g18, 1, none⟩ = some (.int .i64 len) ∧ X.cell? ⟨g18, 2, none⟩ = some (.slice ax L1.length cx))) (first | with_reducible exact ⟨three K6d.out, three K14d.out, three K16d.out, three K18d.out⟩) (first | (go_at_call 19; with_reducible refine (SB.out ac ad cc cd _ (Rc.out.mono BW.out) (Rd.out.mono BW.out)).mono ?_; rintro e wd ⟨rfl, hb⟩; replace K6d := Lib.hid (K6d.out.below hb K6d.out.lt); replace K14d := Lib.hid (K14d.out.below hb K14d.out.lt); replace K16d := Lib.hid (K16d.out.below hb K16d.out.lt); replace K18d := Lib.hid (K18d.out.below hb K18d.out.lt); replace BW := Lib.hid (BW.out.trans (hb.mono BW.out.size)); clear hb) | (go_at_call 19; with_reducible refine (SB.out ac ax cc cx _ (Rc.out.mono BW.out) (Rx.out.mono BW.out)).mono ?_; rintro e wd ⟨rfl, hb⟩; replace K6d := Lib.hid (K6d.out.below hb K6d.out.lt); replace K14d := Lib.hid (K14d.out.below hb K14d.out.lt); replace K16d := Lib.hid (K16d.out.below hb K16d.out.lt); replace K18d := Lib.hid (K18d.out.below hb K18d.out.lt); replace BW := Lib.hid (BW.out.trans (hb.mono BW.out.size)); clear hb) | (go_at_call 22; with_reducible refine (OC.out ac cc _ (Rc.out.mono BW.out)).mono ?_; rintro e wd ⟨rfl, hb⟩; replace K6d := Lib.hid (K6d.out.below hb K6d.out.lt); replace K14d := Lib.hid (K14d.out.below hb K14d.out.lt); replace K16d := Lib.hid (K16d.out.below hb K16d.out.lt); replace K18d := Lib.hid (K18d.out.below hb K18d.out.lt); replace BW := Lib.hid (BW.out.trans (hb.mono BW.out.size)); clear hb) | (go_at_call 22; with_reducible refine (OB.out _ (HPd.out.mono BW.out)).mono ?_; rintro e wd ⟨rfl, hb⟩; replace K6d := Lib.hid (K6d.out.below hb K6d.out.lt); replace K14d := Lib.hid (K14d.out.below hb K14d.out.lt); replace K16d := Lib.hid (K16d.out.below hb K16d.out.lt); replace K18d := Lib.hid (K18d.out.below hb K18d.out.lt); replace BW := Lib.hid (BW.out.trans (hb.mono BW.out.size)); clear hb))
    all_goals go_wp2_with fail
    all_goals go_meet
    all_goals exact ⟨rfl, BW⟩
  obtain ⟨rfl, BX⟩ := hcut
  replace K6 := Lib.hid (K6.out.below BX.out K6.out.lt)
  replace K7 := Lib.hid (K7.out.below BX.out K7.out.lt)
  replace B := Lib.hid (B.out.trans (BX.out.mono B.out.size))
  clear BX K14 K16 K18 Rc Rd Rx R1 R2 R3 SB OC OB
  obtain ⟨wb, hwb⟩ : ∃ v, v = wc := ⟨_, rfl⟩
  rw [← hwb] at K6 K7 B ⊢
  clear hwb
  obtain ⟨b6c0, b6c1, b6c2⟩ := three K6.out
  obtain ⟨b7c0, b7c1⟩ := twob K7.out
  go_wp2_with fail
  refine (Q1.out wb (HK.out.mono B.out)).mono ?_
  rintro e w7 ⟨⟨aq, cq, rfl, hr, hf⟩, hb⟩
  replace K6 := Lib.hid (K6.out.below hb K6.out.lt)
  replace K7 := Lib.hid (K7.out.below hb K7.out.lt)
  replace B := Lib.hid (B.out.trans (hb.mono B.out.size))
  have Rq := Lib.hid hr
  have Fq := Lib.hid hf
  clear hb hr hf
  clear b6c0 b6c1 b6c2 b7c0 b7c1
  clear Fq
  obtain ⟨b6c0, b6c1, b6c2⟩ := three K6.out
  obtain ⟨b7c0, b7c1⟩ := twob K7.out
  obtain ⟨g20, hg20⟩ : ∃ G, w7.heap.size = G := ⟨_, rfl⟩
  have K20 := Lib.hid (show Blk (w7.alloc (.cells #[.int .i64 plen, .slice aq K1.length cq] 45)) g20 45 #[.int .i64 plen, .slice aq K1.length cq] from Blk.new' w7 _ _ _ hg20 rfl)
  have N620 := Lib.hid (show g6 < g20 from by rw [← hg20]; exact K6.out.lt)
  replace K6 := Lib.hid (K6.out.alloc (.cells #[.int .i64 plen, .slice aq K1.length cq] 45))
  have N720 := Lib.hid (show g7 < g20 from by rw [← hg20]; exact K7.out.lt)
  replace K7 := Lib.hid (K7.out.alloc (.cells #[.int .i64 plen, .slice aq K1.length cq] 45))
  replace Rq := Lib.hid (Rq.out.mono ((Below.refl _ w7).alloc (Nat.le_refl _) (.cells #[.int .i64 plen, .slice aq K1.length cq] 45)))
  replace B := Lib.hid (B.out.alloc B.out.size (.cells #[.int .i64 plen, .slice aq K1.length cq] 45))
  have S20 := Lib.hid hg20
  go_upto_region 11 with (fail)
  try rw [hg20]
  generalize hw : w7.alloc (.cells #[.int .i64 plen, .slice aq K1.length cq] 45) = w8 at K6 K7 K20 Rq B ⊢
  clear hw hg20
  clear b6c0 b6c1 b6c2 b7c0 b7c1
  obtain ⟨b6c0, b6c1, b6c2⟩ := three K6.out
  obtain ⟨b7c0, b7c1⟩ := twob K7.out
  obtain ⟨b20c0, b20c1⟩ := twob K20.out
  go_wp2_with fail
  refine (Q2.out aq cq w8 Rq.out).mono ?_
  rintro e w9 ⟨⟨ar, cr, rfl, hr, hf⟩, hb⟩
  replace K6 := Lib.hid (K6.out.below hb K6.out.lt)
  replace K7 := Lib.hid (K7.out.below hb K7.out.lt)
  replace K20 := Lib.hid (K20.out.below hb K20.out.lt)
  replace Rq := Lib.hid (Rq.out.mono hb)
  replace B := Lib.hid (B.out.trans (hb.mono B.out.size))
  have Rr := Lib.hid hr
  have Fr := Lib.hid hf
  clear hb hr hf
  clear b6c0 b6c1 b6c2 b7c0 b7c1 b20c0 b20c1
  clear Fr
  obtain ⟨b6c0, b6c1, b6c2⟩ := three K6.out
  obtain ⟨b7c0, b7c1⟩ := twob K7.out
  obtain ⟨b20c0, b20c1⟩ := twob K20.out
  obtain ⟨g22, hg22⟩ : ∃ G, w9.heap.size = G := ⟨_, rfl⟩
  have K22 := Lib.hid (show Blk (w9.alloc (.cells #[.int .i64 plen, .slice ar K1.length cr] 45)) g22 45 #[.int .i64 plen, .slice ar K1.length cr] from Blk.new' w9 _ _ _ hg22 rfl)
  have N622 := Lib.hid (show g6 < g22 from by rw [← hg22]; exact K6.out.lt)
  replace K6 := Lib.hid (K6.out.alloc (.cells #[.int .i64 plen, .slice ar K1.length cr] 45))
  have N722 := Lib.hid (show g7 < g22 from by rw [← hg22]; exact K7.out.lt)
  replace K7 := Lib.hid (K7.out.alloc (.cells #[.int .i64 plen, .slice ar K1.length cr] 45))
  have N2022 := Lib.hid (show g20 < g22 from by rw [← hg22]; exact K20.out.lt)
  replace K20 := Lib.hid (K20.out.alloc (.cells #[.int .i64 plen, .slice ar K1.length cr] 45))
  replace Rq := Lib.hid (Rq.out.mono ((Below.refl _ w9).alloc (Nat.le_refl _) (.cells #[.int .i64 plen, .slice ar K1.length cr] 45)))
  replace Rr := Lib.hid (Rr.out.mono ((Below.refl _ w9).alloc (Nat.le_refl _) (.cells #[.int .i64 plen, .slice ar K1.length cr] 45)))
  replace B := Lib.hid (B.out.alloc B.out.size (.cells #[.int .i64 plen, .slice ar K1.length cr] 45))
  have S22 := Lib.hid hg22
  go_upto_region 14 with (fail)
  try rw [hg22]
  generalize hw : w9.alloc (.cells #[.int .i64 plen, .slice ar K1.length cr] 45) = w10 at K6 K7 K20 K22 Rq Rr B ⊢
  clear hw hg22
  clear b6c0 b6c1 b6c2 b7c0 b7c1 b20c0 b20c1
  obtain ⟨b6c0, b6c1, b6c2⟩ := three K6.out
  obtain ⟨b7c0, b7c1⟩ := twob K7.out
  obtain ⟨b20c0, b20c1⟩ := twob K20.out
  obtain ⟨b22c0, b22c1⟩ := twob K22.out
  go_wp2_with fail
  refine (Q3.out aq cq w10 Rq.out).mono ?_
  rintro e w11 ⟨⟨az, cz, rfl, hr, hf⟩, hb⟩
  replace K6 := Lib.hid (K6.out.below hb K6.out.lt)
  replace K7 := Lib.hid (K7.out.below hb K7.out.lt)
  replace K20 := Lib.hid (K20.out.below hb K20.out.lt)
  replace K22 := Lib.hid (K22.out.below hb K22.out.lt)
  replace Rq := Lib.hid (Rq.out.mono hb)
  replace Rr := Lib.hid (Rr.out.mono hb)
  replace B := Lib.hid (B.out.trans (hb.mono B.out.size))
  have Rz := Lib.hid hr
  have Fz := Lib.hid hf
  clear hb hr hf
  clear b6c0 b6c1 b6c2 b7c0 b7c1 b20c0 b20c1 b22c0 b22c1
  clear Fz
  obtain ⟨b6c0, b6c1, b6c2⟩ := three K6.out
  obtain ⟨b7c0, b7c1⟩ := twob K7.out
  obtain ⟨b20c0, b20c1⟩ := twob K20.out
  obtain ⟨b22c0, b22c1⟩ := twob K22.out
  obtain ⟨g24, hg24⟩ : ∃ G, w11.heap.size = G := ⟨_, rfl⟩
  have K24 := Lib.hid (show Blk (w11.alloc (.cells #[.int .i64 plen, .slice az K1.length cz] 45)) g24 45 #[.int .i64 plen, .slice az K1.length cz] from Blk.new' w11 _ _ _ hg24 rfl)
  have N624 := Lib.hid (show g6 < g24 from by rw [← hg24]; exact K6.out.lt)
  replace K6 := Lib.hid (K6.out.alloc (.cells #[.int .i64 plen, .slice az K1.length cz] 45))
  have N724 := Lib.hid (show g7 < g24 from by rw [← hg24]; exact K7.out.lt)
  replace K7 := Lib.hid (K7.out.alloc (.cells #[.int .i64 plen, .slice az K1.length cz] 45))
  have N2024 := Lib.hid (show g20 < g24 from by rw [← hg24]; exact K20.out.lt)
  replace K20 := Lib.hid (K20.out.alloc (.cells #[.int .i64 plen, .slice az K1.length cz] 45))
  have N2224 := Lib.hid (show g22 < g24 from by rw [← hg24]; exact K22.out.lt)
  replace K22 := Lib.hid (K22.out.alloc (.cells #[.int .i64 plen, .slice az K1.length cz] 45))
  replace Rq := Lib.hid (Rq.out.mono ((Below.refl _ w11).alloc (Nat.le_refl _) (.cells #[.int .i64 plen, .slice az K1.length cz] 45)))
  replace Rr := Lib.hid (Rr.out.mono ((Below.refl _ w11).alloc (Nat.le_refl _) (.cells #[.int .i64 plen, .slice az K1.length cz] 45)))
  replace Rz := Lib.hid (Rz.out.mono ((Below.refl _ w11).alloc (Nat.le_refl _) (.cells #[.int .i64 plen, .slice az K1.length cz] 45)))
  replace B := Lib.hid (B.out.alloc B.out.size (.cells #[.int .i64 plen, .slice az K1.length cz] 45))
  have S24 := Lib.hid hg24
  go_upto_region 15 with (fail)
  try rw [hg24]
  generalize hw : w11.alloc (.cells #[.int .i64 plen, .slice az K1.length cz] 45) = w12 at K6 K7 K20 K22 K24 Rq Rr Rz B ⊢
  clear hw hg24
  clear b6c0 b6c1 b6c2 b7c0 b7c1 b20c0 b20c1 b22c0 b22c1
  have HKd := Lib.hid (HK.out.mono B.out)
  have K7d := Lib.hid K7.out.drew
  have K20d := Lib.hid K20.out.drew
  have K22d := Lib.hid K22.out.drew
  have K24d := Lib.hid K24.out.drew
  have BW := Lib.hid (show Below w12.heap.size w12 w12.drew from (Below.refl _ _).drew)
  go_region_held3 (fun X => (X.cell? ⟨g7, 0, none⟩ = some (.int .i64 plen) ∧ X.cell? ⟨g7, 1, none⟩ = some (.slice ap P cp)) ∧ (X.cell? ⟨g20, 0, none⟩ = some (.int .i64 plen) ∧ X.cell? ⟨g20, 1, none⟩ = some (.slice aq K1.length cq)) ∧ (X.cell? ⟨g22, 0, none⟩ = some (.int .i64 plen) ∧ X.cell? ⟨g22, 1, none⟩ = some (.slice ar K1.length cr)) ∧ (X.cell? ⟨g24, 0, none⟩ = some (.int .i64 plen) ∧ X.cell? ⟨g24, 1, none⟩ = some (.slice az K1.length cz))) (first | with_reducible exact ⟨twob K7d.out, twob K20d.out, twob K22d.out, twob K24d.out⟩) (first | (go_at_call 8; with_reducible refine (SN.out _).mono ?_; rintro e wd ⟨rfl, hb⟩; replace K7d := Lib.hid (K7d.out.below hb K7d.out.lt); replace K20d := Lib.hid (K20d.out.below hb K20d.out.lt); replace K22d := Lib.hid (K22d.out.below hb K22d.out.lt); replace K24d := Lib.hid (K24d.out.below hb K24d.out.lt); replace BW := Lib.hid (BW.out.trans (hb.mono BW.out.size)); clear hb) | (go_at_call 36; with_reducible refine (SP.out aq ar cq cr _ (Rq.out.mono BW.out) (Rr.out.mono BW.out)).mono ?_; rintro e wd ⟨rfl, hb⟩; replace K7d := Lib.hid (K7d.out.below hb K7d.out.lt); replace K20d := Lib.hid (K20d.out.below hb K20d.out.lt); replace K22d := Lib.hid (K22d.out.below hb K22d.out.lt); replace K24d := Lib.hid (K24d.out.below hb K24d.out.lt); replace BW := Lib.hid (BW.out.trans (hb.mono BW.out.size)); clear hb) | (go_at_call 36; with_reducible refine (SP.out aq az cq cz _ (Rq.out.mono BW.out) (Rz.out.mono BW.out)).mono ?_; rintro e wd ⟨rfl, hb⟩; replace K7d := Lib.hid (K7d.out.below hb K7d.out.lt); replace K20d := Lib.hid (K20d.out.below hb K20d.out.lt); replace K22d := Lib.hid (K22d.out.below hb K22d.out.lt); replace K24d := Lib.hid (K24d.out.below hb K24d.out.lt); replace BW := Lib.hid (BW.out.trans (hb.mono BW.out.size)); clear hb) | (go_at_call 37; with_reducible refine (LQ.out aq cq _ (Rq.out.mono BW.out)).mono ?_; rintro e wd ⟨rfl, hb⟩; replace K7d := Lib.hid (K7d.out.below hb K7d.out.lt); replace K20d := Lib.hid (K20d.out.below hb K20d.out.lt); replace K22d := Lib.hid (K22d.out.below hb K22d.out.lt); replace K24d := Lib.hid (K24d.out.below hb K24d.out.lt); replace BW := Lib.hid (BW.out.trans (hb.mono BW.out.size)); clear hb) | (go_at_call 37; with_reducible refine (LP.out _ (HKd.out.mono BW.out)).mono ?_; rintro e wd ⟨rfl, hb⟩; replace K7d := Lib.hid (K7d.out.below hb K7d.out.lt); replace K20d := Lib.hid (K20d.out.below hb K20d.out.lt); replace K22d := Lib.hid (K22d.out.below hb K22d.out.lt); replace K24d := Lib.hid (K24d.out.below hb K24d.out.lt); replace BW := Lib.hid (BW.out.trans (hb.mono BW.out.size)); clear hb))
  all_goals go_wp2
  all_goals
    refine bodyPost_ret (by simp [results, Try.results6, go_sem]; try rfl) rfl ?_
    exact ⟨rfl, B.out.trans (BW.out.mono B.out.size)⟩
set_option maxRecDepth 100000 in
set_option maxHeartbeats 8000000 in
theorem old_10 (cap len : Int) (ab : Option Addr) (cb : Nat) (l : List Rw) (plen : Int) (ap : Option Addr) (cp : Nat) (k : List Rw) (wi ga one two : Int) (w : World) (hp : RwA w ab l) (hk : RwA w ap k) (h : ¬ 40 < l.length) (h2 : ¬ 40 < k.length) (h3 : ¬ one < 0) (h4 : ¬ two < 0) (hb : OkB cap len l ∧ winOk wi ∧ gateOk ga ∧ 0 ≤ max one two ∧ max one two ≤ dealtL l wi ga) (hq : ¬ (OkP plen k ∧ winOk wi ∧ 0 ≤ max one two ∧ max one two ≤ 1099511627776)) : Calls Try.prog 6 #[.agg #[.int .i64 cap, .int .i64 len, .slice ab l.length cb], .agg #[.int .i64 plen, .slice ap k.length cp], .int .i64 wi, .int .i64 ga, .int .i64 one, .int .i64 two] w fun e w' => e = .returned (.bool true) ∧ Below w.heap.size w w' := by
  have HP := Lib.hid hp
  have HK := Lib.hid hk
  have SN := Lib.hid (fun X : World => sanity_any X)
  obtain ⟨M, hM⟩ : ∃ M, max one two = M := ⟨_, rfl⟩
  have hM2 : max two one = M := by rw [Int.max_comm]; exact hM
  have hM3 : (if one < two then two else one) = M := by rw [← hM, Int.max_def]; split <;> split <;> omega
  have hM4 : (if two < one then one else two) = M := by rw [← hM, Int.max_def]; split <;> split <;> omega
  have m1 : one ≤ M := by rw [← hM]; exact Int.le_max_left _ _
  have m2 : two ≤ M := by rw [← hM]; exact Int.le_max_right _ _
  rw [hM] at hb hq
  obtain ⟨ok, p1, p2, p3, p4⟩ := hb
  obtain ⟨r1, r2, r3, r4⟩ := ret_any (t := M) ok ⟨p3, p4⟩
  have R1 := Lib.hid (fun (X : World) (q : RwA X ab l) => ret_ok cap len ab cb l wi ga M X q ok p1 p2 ⟨p3, p4⟩)
  have OB := Lib.hid (fun (X : World) (q : RwA X ab l) => out_any cap len ab cb l wi X q ok)
  have dl : dealtL (retL l wi ga M) wi ga = dealtL l wi ga := r3
  have e1 : retL (retL l wi ga M) wi ga one = retL l wi ga M := ret_old (fun q => Int.le_trans m1 (r4 q))
  have e2 : retL (retL l wi ga M) wi ga two = retL l wi ga M := ret_old (fun q => Int.le_trans m2 (r4 q))
  obtain ⟨L1, hL1⟩ : ∃ L, retL l wi ga M = L := ⟨_, rfl⟩
  rw [hL1] at r1 r2 r4 e1 e2 dl
  simp only [hL1] at R1
  have R2 := Lib.hid (fun (a : Option Addr) (c : Nat) (X : World) (q : RwA X a L1) => ret_ok cap len a c L1 wi ga one X q r1 p1 p2 ⟨by omega, by omega⟩)
  have R3 := Lib.hid (fun (a : Option Addr) (c : Nat) (X : World) (q : RwA X a L1) => ret_ok cap len a c L1 wi ga two X q r1 p1 p2 ⟨by omega, by omega⟩)
  simp only [e1] at R2
  simp only [e2] at R3
  have lm : L1.length ≤ 9223372036854775807 := by have := r1.head.2.2; omega
  have SB := Lib.hid (fun (a b : Option Addr) (c c2 : Nat) (X : World) (q : RwA X a L1) (q2 : RwA X b L1) => same_bank cap len a b c c2 L1 X q q2 lm)
  have OC := Lib.hid (fun (a : Option Addr) (c : Nat) (X : World) (q : RwA X a L1) => out_any cap len a c L1 wi X q r1)
  obtain ⟨o1, ho1⟩ : ∃ z, outL L1 wi = z := ⟨_, rfl⟩
  obtain ⟨o0, ho0⟩ : ∃ z, outL l wi = z := ⟨_, rfl⟩
  rw [ho1, ho0] at r2
  simp only [ho1] at OC
  simp only [ho0] at OB
  have u1 : decide (o0 < o1) = false := decide_eq_false (by omega)
  clear ok p1 p2 p3 p4 r1 r2 r3 r4 dl e1 e2 hL1 lm ho1 ho0
  have Q1 := Lib.hid (fun (X : World) (q : RwA X ap k) => recv_arg plen ap cp k wi M X q (by omega) hq)
  clear hq
  obtain ⟨N, hN⟩ : ∃ N, l.length = N := ⟨_, rfl⟩
  obtain ⟨P, hP⟩ : ∃ P, k.length = P := ⟨_, rfl⟩
  simp only [hN] at R1 OB
  simp only [hP] at Q1
  rw [hN] at h ⊢
  rw [hP] at h2 ⊢
  have t1 : decide ((40 : Int) < (N : Int)) = false := decide_eq_false (by omega)
  have t2 : decide ((40 : Int) < (P : Int)) = false := decide_eq_false (by omega)
  have t3 : decide (one < 0) = false := decide_eq_false (by omega)
  have t4 : decide (two < 0) = false := decide_eq_false (by omega)
  clear hp hk hN hP h h2 h3 h4 m1 m2
  go_enter Try.func6, Try.ntmps6
  obtain ⟨g6, hg6⟩ : ∃ G, w.heap.size = G := ⟨_, rfl⟩
  obtain ⟨g7, hg7⟩ : ∃ G, g6 + 1 = G := ⟨_, rfl⟩
  have K6 := Lib.hid (show Blk ((w.alloc (.cells #[.int .i64 cap, .int .i64 len, .slice ab N cb] 24)).alloc (.cells #[.int .i64 plen, .slice ap P cp] 45)) g6 24 #[.int .i64 cap, .int .i64 len, .slice ab N cb] from (Blk.new' w _ _ _ hg6 rfl).alloc _)
  have K7 := Lib.hid (show Blk ((w.alloc (.cells #[.int .i64 cap, .int .i64 len, .slice ab N cb] 24)).alloc (.cells #[.int .i64 plen, .slice ap P cp] 45)) g7 45 #[.int .i64 plen, .slice ap P cp] from Blk.new' _ _ _ _ (by rw [World.size_alloc, hg6, hg7]) rfl)
  have B := Lib.hid (show Below w.heap.size w ((w.alloc (.cells #[.int .i64 cap, .int .i64 len, .slice ab N cb] 24)).alloc (.cells #[.int .i64 plen, .slice ap P cp] 45)) by (repeat' (first | (with_reducible exact Below.refl _ _) | (with_reducible assumption) | (with_reducible refine Below.alloc ?_ ?_ _) | (with_reducible refine Below.drew ?_) | (with_reducible refine below_dn ?_) | (with_reducible refine Below.setCell ?_ ?_ _) | (with_reducible exact Nat.le_refl _) | omega | (simp only [World.size_alloc, World.size_setCell, World.size_drew]; omega) | (simp; omega) | (simp; done))))
  go_upto_region 1 with (fail)
  try rw [hg6]
  try rw [hg7]
  generalize hw : ((w.alloc (.cells #[.int .i64 cap, .int .i64 len, .slice ab N cb] 24)).alloc (.cells #[.int .i64 plen, .slice ap P cp] 45)) = wa at K6 K7 B ⊢
  clear hw hg6 hg7
  obtain ⟨b6c0, b6c1, b6c2⟩ := three K6.out
  obtain ⟨b7c0, b7c1⟩ := twob K7.out
  go_wp2_with fail
  refine (R1.out wa (HP.out.mono B.out)).mono ?_
  rintro e w1 ⟨⟨ac, cc, rfl, hr, hf⟩, hb⟩
  replace K6 := Lib.hid (K6.out.below hb K6.out.lt)
  replace K7 := Lib.hid (K7.out.below hb K7.out.lt)
  replace B := Lib.hid (B.out.trans (hb.mono B.out.size))
  have Rc := Lib.hid hr
  have Fc := Lib.hid hf
  clear hb hr hf
  clear b6c0 b6c1 b6c2 b7c0 b7c1
  clear Fc
  obtain ⟨b6c0, b6c1, b6c2⟩ := three K6.out
  obtain ⟨b7c0, b7c1⟩ := twob K7.out
  obtain ⟨g14, hg14⟩ : ∃ G, w1.heap.size = G := ⟨_, rfl⟩
  have K14 := Lib.hid (show Blk (w1.alloc (.cells #[.int .i64 cap, .int .i64 len, .slice ac L1.length cc] 24)) g14 24 #[.int .i64 cap, .int .i64 len, .slice ac L1.length cc] from Blk.new' w1 _ _ _ hg14 rfl)
  have N614 := Lib.hid (show g6 < g14 from by rw [← hg14]; exact K6.out.lt)
  replace K6 := Lib.hid (K6.out.alloc (.cells #[.int .i64 cap, .int .i64 len, .slice ac L1.length cc] 24))
  have N714 := Lib.hid (show g7 < g14 from by rw [← hg14]; exact K7.out.lt)
  replace K7 := Lib.hid (K7.out.alloc (.cells #[.int .i64 cap, .int .i64 len, .slice ac L1.length cc] 24))
  replace Rc := Lib.hid (Rc.out.mono ((Below.refl _ w1).alloc (Nat.le_refl _) (.cells #[.int .i64 cap, .int .i64 len, .slice ac L1.length cc] 24)))
  replace B := Lib.hid (B.out.alloc B.out.size (.cells #[.int .i64 cap, .int .i64 len, .slice ac L1.length cc] 24))
  have S14 := Lib.hid hg14
  go_upto_region 5 with (fail)
  try rw [hg14]
  generalize hw : w1.alloc (.cells #[.int .i64 cap, .int .i64 len, .slice ac L1.length cc] 24) = w2 at K6 K7 K14 Rc B ⊢
  clear hw hg14
  clear b6c0 b6c1 b6c2 b7c0 b7c1
  obtain ⟨b6c0, b6c1, b6c2⟩ := three K6.out
  obtain ⟨b7c0, b7c1⟩ := twob K7.out
  obtain ⟨b14c0, b14c1, b14c2⟩ := three K14.out
  go_wp2_with fail
  refine (R2.out ac cc w2 Rc.out).mono ?_
  rintro e w3 ⟨⟨ad, cd, rfl, hr, hf⟩, hb⟩
  replace K6 := Lib.hid (K6.out.below hb K6.out.lt)
  replace K7 := Lib.hid (K7.out.below hb K7.out.lt)
  replace K14 := Lib.hid (K14.out.below hb K14.out.lt)
  replace Rc := Lib.hid (Rc.out.mono hb)
  replace B := Lib.hid (B.out.trans (hb.mono B.out.size))
  have Rd := Lib.hid hr
  have Fd := Lib.hid hf
  clear hb hr hf
  clear b6c0 b6c1 b6c2 b7c0 b7c1 b14c0 b14c1 b14c2
  clear Fd
  obtain ⟨b6c0, b6c1, b6c2⟩ := three K6.out
  obtain ⟨b7c0, b7c1⟩ := twob K7.out
  obtain ⟨b14c0, b14c1, b14c2⟩ := three K14.out
  obtain ⟨g16, hg16⟩ : ∃ G, w3.heap.size = G := ⟨_, rfl⟩
  have K16 := Lib.hid (show Blk (w3.alloc (.cells #[.int .i64 cap, .int .i64 len, .slice ad L1.length cd] 24)) g16 24 #[.int .i64 cap, .int .i64 len, .slice ad L1.length cd] from Blk.new' w3 _ _ _ hg16 rfl)
  have N616 := Lib.hid (show g6 < g16 from by rw [← hg16]; exact K6.out.lt)
  replace K6 := Lib.hid (K6.out.alloc (.cells #[.int .i64 cap, .int .i64 len, .slice ad L1.length cd] 24))
  have N716 := Lib.hid (show g7 < g16 from by rw [← hg16]; exact K7.out.lt)
  replace K7 := Lib.hid (K7.out.alloc (.cells #[.int .i64 cap, .int .i64 len, .slice ad L1.length cd] 24))
  have N1416 := Lib.hid (show g14 < g16 from by rw [← hg16]; exact K14.out.lt)
  replace K14 := Lib.hid (K14.out.alloc (.cells #[.int .i64 cap, .int .i64 len, .slice ad L1.length cd] 24))
  replace Rc := Lib.hid (Rc.out.mono ((Below.refl _ w3).alloc (Nat.le_refl _) (.cells #[.int .i64 cap, .int .i64 len, .slice ad L1.length cd] 24)))
  replace Rd := Lib.hid (Rd.out.mono ((Below.refl _ w3).alloc (Nat.le_refl _) (.cells #[.int .i64 cap, .int .i64 len, .slice ad L1.length cd] 24)))
  replace B := Lib.hid (B.out.alloc B.out.size (.cells #[.int .i64 cap, .int .i64 len, .slice ad L1.length cd] 24))
  have S16 := Lib.hid hg16
  go_upto_region 7 with (fail)
  try rw [hg16]
  generalize hw : w3.alloc (.cells #[.int .i64 cap, .int .i64 len, .slice ad L1.length cd] 24) = w4 at K6 K7 K14 K16 Rc Rd B ⊢
  clear hw hg16
  clear b6c0 b6c1 b6c2 b7c0 b7c1 b14c0 b14c1 b14c2
  obtain ⟨b6c0, b6c1, b6c2⟩ := three K6.out
  obtain ⟨b7c0, b7c1⟩ := twob K7.out
  obtain ⟨b14c0, b14c1, b14c2⟩ := three K14.out
  obtain ⟨b16c0, b16c1, b16c2⟩ := three K16.out
  go_wp2_with fail
  refine (R3.out ac cc w4 Rc.out).mono ?_
  rintro e w5 ⟨⟨ax, cx, rfl, hr, hf⟩, hb⟩
  replace K6 := Lib.hid (K6.out.below hb K6.out.lt)
  replace K7 := Lib.hid (K7.out.below hb K7.out.lt)
  replace K14 := Lib.hid (K14.out.below hb K14.out.lt)
  replace K16 := Lib.hid (K16.out.below hb K16.out.lt)
  replace Rc := Lib.hid (Rc.out.mono hb)
  replace Rd := Lib.hid (Rd.out.mono hb)
  replace B := Lib.hid (B.out.trans (hb.mono B.out.size))
  have Rx := Lib.hid hr
  have Fx := Lib.hid hf
  clear hb hr hf
  clear b6c0 b6c1 b6c2 b7c0 b7c1 b14c0 b14c1 b14c2 b16c0 b16c1 b16c2
  clear Fx
  obtain ⟨b6c0, b6c1, b6c2⟩ := three K6.out
  obtain ⟨b7c0, b7c1⟩ := twob K7.out
  obtain ⟨b14c0, b14c1, b14c2⟩ := three K14.out
  obtain ⟨b16c0, b16c1, b16c2⟩ := three K16.out
  obtain ⟨g18, hg18⟩ : ∃ G, w5.heap.size = G := ⟨_, rfl⟩
  have K18 := Lib.hid (show Blk (w5.alloc (.cells #[.int .i64 cap, .int .i64 len, .slice ax L1.length cx] 24)) g18 24 #[.int .i64 cap, .int .i64 len, .slice ax L1.length cx] from Blk.new' w5 _ _ _ hg18 rfl)
  have N618 := Lib.hid (show g6 < g18 from by rw [← hg18]; exact K6.out.lt)
  replace K6 := Lib.hid (K6.out.alloc (.cells #[.int .i64 cap, .int .i64 len, .slice ax L1.length cx] 24))
  have N718 := Lib.hid (show g7 < g18 from by rw [← hg18]; exact K7.out.lt)
  replace K7 := Lib.hid (K7.out.alloc (.cells #[.int .i64 cap, .int .i64 len, .slice ax L1.length cx] 24))
  have N1418 := Lib.hid (show g14 < g18 from by rw [← hg18]; exact K14.out.lt)
  replace K14 := Lib.hid (K14.out.alloc (.cells #[.int .i64 cap, .int .i64 len, .slice ax L1.length cx] 24))
  have N1618 := Lib.hid (show g16 < g18 from by rw [← hg18]; exact K16.out.lt)
  replace K16 := Lib.hid (K16.out.alloc (.cells #[.int .i64 cap, .int .i64 len, .slice ax L1.length cx] 24))
  replace Rc := Lib.hid (Rc.out.mono ((Below.refl _ w5).alloc (Nat.le_refl _) (.cells #[.int .i64 cap, .int .i64 len, .slice ax L1.length cx] 24)))
  replace Rd := Lib.hid (Rd.out.mono ((Below.refl _ w5).alloc (Nat.le_refl _) (.cells #[.int .i64 cap, .int .i64 len, .slice ax L1.length cx] 24)))
  replace Rx := Lib.hid (Rx.out.mono ((Below.refl _ w5).alloc (Nat.le_refl _) (.cells #[.int .i64 cap, .int .i64 len, .slice ax L1.length cx] 24)))
  replace B := Lib.hid (B.out.alloc B.out.size (.cells #[.int .i64 cap, .int .i64 len, .slice ax L1.length cx] 24))
  have S18 := Lib.hid hg18
  go_upto_region 8 with (fail)
  try rw [hg18]
  generalize hw : w5.alloc (.cells #[.int .i64 cap, .int .i64 len, .slice ax L1.length cx] 24) = w6 at K6 K7 K14 K16 K18 Rc Rd Rx B ⊢
  clear hw hg18
  clear b6c0 b6c1 b6c2 b7c0 b7c1 b14c0 b14c1 b14c2 b16c0 b16c1 b16c2
  go_cut [100] from 74 to 101 (fun u wx => u = .bool false ∧ Hid (Below w6.heap.size w6 wx))
  case first =>
    have HPd := Lib.hid (HP.out.mono B.out)
    have K6d := Lib.hid K6.out.drew
    have K14d := Lib.hid K14.out.drew
    have K16d := Lib.hid K16.out.drew
    have K18d := Lib.hid K18.out.drew
    have BW := Lib.hid (show Below w6.heap.size w6 w6.drew from (Below.refl _ _).drew)
    go_region_held3 (fun X => (X.cell? ⟨g6, 0, none⟩ = some (.int .i64 cap) ∧ X.cell? ⟨g6, 1, none⟩ = some (.int .i64 len) ∧ X.cell? ⟨g6, 2, none⟩ = some (.slice ab N cb)) ∧ (X.cell? ⟨g14, 0, none⟩ = some (.int .i64 cap) ∧ X.cell? ⟨g14, 1, none⟩ = some (.int .i64 len) ∧ X.cell? ⟨g14, 2, none⟩ = some (.slice ac L1.length cc)) ∧ (X.cell? ⟨g16, 0, none⟩ = some (.int .i64 cap) ∧ X.cell? ⟨g16, 1, none⟩ = some (.int .i64 len) ∧ X.cell? ⟨g16, 2, none⟩ = some (.slice ad L1.length cd)) ∧ (X.cell? ⟨g18, 0, none⟩ = some (.int .i64 cap) ∧ X.cell? ⟨g18, 1, none⟩ = some (.int .i64 len) ∧ X.cell? ⟨g18, 2, none⟩ = some (.slice ax L1.length cx))) (first | with_reducible exact ⟨three K6d.out, three K14d.out, three K16d.out, three K18d.out⟩) (first | (go_at_call 19; with_reducible refine (SB.out ac ad cc cd _ (Rc.out.mono BW.out) (Rd.out.mono BW.out)).mono ?_; rintro e wd ⟨rfl, hb⟩; replace K6d := Lib.hid (K6d.out.below hb K6d.out.lt); replace K14d := Lib.hid (K14d.out.below hb K14d.out.lt); replace K16d := Lib.hid (K16d.out.below hb K16d.out.lt); replace K18d := Lib.hid (K18d.out.below hb K18d.out.lt); replace BW := Lib.hid (BW.out.trans (hb.mono BW.out.size)); clear hb) | (go_at_call 19; with_reducible refine (SB.out ac ax cc cx _ (Rc.out.mono BW.out) (Rx.out.mono BW.out)).mono ?_; rintro e wd ⟨rfl, hb⟩; replace K6d := Lib.hid (K6d.out.below hb K6d.out.lt); replace K14d := Lib.hid (K14d.out.below hb K14d.out.lt); replace K16d := Lib.hid (K16d.out.below hb K16d.out.lt); replace K18d := Lib.hid (K18d.out.below hb K18d.out.lt); replace BW := Lib.hid (BW.out.trans (hb.mono BW.out.size)); clear hb) | (go_at_call 22; with_reducible refine (OC.out ac cc _ (Rc.out.mono BW.out)).mono ?_; rintro e wd ⟨rfl, hb⟩; replace K6d := Lib.hid (K6d.out.below hb K6d.out.lt); replace K14d := Lib.hid (K14d.out.below hb K14d.out.lt); replace K16d := Lib.hid (K16d.out.below hb K16d.out.lt); replace K18d := Lib.hid (K18d.out.below hb K18d.out.lt); replace BW := Lib.hid (BW.out.trans (hb.mono BW.out.size)); clear hb) | (go_at_call 22; with_reducible refine (OB.out _ (HPd.out.mono BW.out)).mono ?_; rintro e wd ⟨rfl, hb⟩; replace K6d := Lib.hid (K6d.out.below hb K6d.out.lt); replace K14d := Lib.hid (K14d.out.below hb K14d.out.lt); replace K16d := Lib.hid (K16d.out.below hb K16d.out.lt); replace K18d := Lib.hid (K18d.out.below hb K18d.out.lt); replace BW := Lib.hid (BW.out.trans (hb.mono BW.out.size)); clear hb))
    all_goals go_wp2_with fail
    all_goals go_meet
    all_goals exact ⟨rfl, BW⟩
  obtain ⟨rfl, BX⟩ := hcut
  replace K6 := Lib.hid (K6.out.below BX.out K6.out.lt)
  replace K7 := Lib.hid (K7.out.below BX.out K7.out.lt)
  replace B := Lib.hid (B.out.trans (BX.out.mono B.out.size))
  clear BX K14 K16 K18 Rc Rd Rx R1 R2 R3 SB OC OB
  obtain ⟨wb, hwb⟩ : ∃ v, v = wc := ⟨_, rfl⟩
  rw [← hwb] at K6 K7 B ⊢
  clear hwb
  obtain ⟨b6c0, b6c1, b6c2⟩ := three K6.out
  obtain ⟨b7c0, b7c1⟩ := twob K7.out
  go_wp2_with fail
  refine (Q1.out wb (HK.out.mono B.out)).mono ?_
  rintro e w7 ⟨rfl, hb⟩
  replace K6 := Lib.hid (K6.out.below hb K6.out.lt)
  replace K7 := Lib.hid (K7.out.below hb K7.out.lt)
  replace B := Lib.hid (B.out.trans (hb.mono B.out.size))
  clear hb
  clear b6c0 b6c1 b6c2 b7c0 b7c1
  obtain ⟨b6c0, b6c1, b6c2⟩ := three K6.out
  obtain ⟨b7c0, b7c1⟩ := twob K7.out
  obtain ⟨g20, hg20⟩ : ∃ G, w7.heap.size = G := ⟨_, rfl⟩
  have K20 := Lib.hid (show Blk (w7.alloc (.cells #[.int .i64 0, .slice none 0 0] 45)) g20 45 #[.int .i64 0, .slice none 0 0] from Blk.new' w7 _ _ _ hg20 rfl)
  have N620 := Lib.hid (show g6 < g20 from by rw [← hg20]; exact K6.out.lt)
  replace K6 := Lib.hid (K6.out.alloc (.cells #[.int .i64 0, .slice none 0 0] 45))
  have N720 := Lib.hid (show g7 < g20 from by rw [← hg20]; exact K7.out.lt)
  replace K7 := Lib.hid (K7.out.alloc (.cells #[.int .i64 0, .slice none 0 0] 45))
  replace B := Lib.hid (B.out.alloc B.out.size (.cells #[.int .i64 0, .slice none 0 0] 45))
  have S20 := Lib.hid hg20
  go_upto_region 11 with (fail)
  try rw [hg20]
  generalize hw : w7.alloc (.cells #[.int .i64 0, .slice none 0 0] 45) = w8 at K6 K7 K20  B ⊢
  clear hw hg20
  clear b6c0 b6c1 b6c2 b7c0 b7c1
  obtain ⟨b6c0, b6c1, b6c2⟩ := three K6.out
  obtain ⟨b7c0, b7c1⟩ := twob K7.out
  obtain ⟨b20c0, b20c1⟩ := twob K20.out
  go_wp2_with fail
  refine (SN.out w8).mono ?_
  rintro e w9 ⟨rfl, hb⟩
  replace K6 := Lib.hid (K6.out.below hb K6.out.lt)
  replace K7 := Lib.hid (K7.out.below hb K7.out.lt)
  replace K20 := Lib.hid (K20.out.below hb K20.out.lt)
  replace B := Lib.hid (B.out.trans (hb.mono B.out.size))
  clear hb
  clear b6c0 b6c1 b6c2 b7c0 b7c1 b20c0 b20c1
  go_wp2
  refine bodyPost_ret (by simp [results, Try.results6, go_sem]; try rfl) rfl ?_
  exact ⟨rfl, B.out⟩
set_option maxRecDepth 100000 in
set_option maxHeartbeats 8000000 in
theorem old_01 (cap len : Int) (ab : Option Addr) (cb : Nat) (l : List Rw) (plen : Int) (ap : Option Addr) (cp : Nat) (k : List Rw) (wi ga one two : Int) (w : World) (hp : RwA w ab l) (hk : RwA w ap k) (h : ¬ 40 < l.length) (h2 : ¬ 40 < k.length) (h3 : ¬ one < 0) (h4 : ¬ two < 0) (hb : ¬ (OkB cap len l ∧ winOk wi ∧ gateOk ga ∧ 0 ≤ max one two ∧ max one two ≤ dealtL l wi ga)) (hq : OkP plen k ∧ winOk wi ∧ 0 ≤ max one two ∧ max one two ≤ 1099511627776) : Calls Try.prog 6 #[.agg #[.int .i64 cap, .int .i64 len, .slice ab l.length cb], .agg #[.int .i64 plen, .slice ap k.length cp], .int .i64 wi, .int .i64 ga, .int .i64 one, .int .i64 two] w fun e w' => e = .returned (.bool true) ∧ Below w.heap.size w w' := by
  have HP := Lib.hid hp
  have HK := Lib.hid hk
  have SN := Lib.hid (fun X : World => sanity_any X)
  obtain ⟨M, hM⟩ : ∃ M, max one two = M := ⟨_, rfl⟩
  have hM2 : max two one = M := by rw [Int.max_comm]; exact hM
  have hM3 : (if one < two then two else one) = M := by rw [← hM, Int.max_def]; split <;> split <;> omega
  have hM4 : (if two < one then one else two) = M := by rw [← hM, Int.max_def]; split <;> split <;> omega
  have m1 : one ≤ M := by rw [← hM]; exact Int.le_max_left _ _
  have m2 : two ≤ M := by rw [← hM]; exact Int.le_max_right _ _
  rw [hM] at hb hq
  have R1 := Lib.hid (fun (X : World) (q : RwA X ab l) => ret_arg cap len ab cb l wi ga M X q (by omega) hb)
  clear hb
  obtain ⟨ok, p1, p3, p4⟩ := hq
  obtain ⟨r1, r2, r3, r4⟩ := recv_facts (t := M) ok p1 ⟨p3, p4⟩ (by omega)
  have Q1 := Lib.hid (fun (X : World) (q : RwA X ap k) => recv_ok plen ap cp k wi M X q ok p1 ⟨p3, p4⟩ (Or.inr (Or.inr (by omega))))
  have LP := Lib.hid (fun (X : World) (q : RwA X ap k) => leftp_any plen ap cp k wi X q ok)
  have e1 : recvL (recvL k wi M) wi one = recvL k wi M := recv_old (by omega)
  have e2 : recvL (recvL k wi M) wi two = recvL k wi M := recv_old (by omega)
  obtain ⟨K1, hK1⟩ : ∃ L, recvL k wi M = L := ⟨_, rfl⟩
  rw [hK1] at r1 r2 r3 r4 e1 e2
  simp only [hK1] at Q1
  have Q2 := Lib.hid (fun (a : Option Addr) (c : Nat) (X : World) (q : RwA X a K1) => recv_ok plen a c K1 wi one X q r1 p1 ⟨by omega, by omega⟩ (Or.inr (Or.inr (by omega))))
  have Q3 := Lib.hid (fun (a : Option Addr) (c : Nat) (X : World) (q : RwA X a K1) => recv_ok plen a c K1 wi two X q r1 p1 ⟨by omega, by omega⟩ (Or.inr (Or.inr (by omega))))
  simp only [e1] at Q2
  simp only [e2] at Q3
  have km : K1.length ≤ 9223372036854775807 := by omega
  have SP := Lib.hid (fun (a b : Option Addr) (c c2 : Nat) (X : World) (q : RwA X a K1) (q2 : RwA X b K1) => same_purse plen a b c c2 K1 X q q2 km)
  have LQ := Lib.hid (fun (a : Option Addr) (c : Nat) (X : World) (q : RwA X a K1) => leftp_any plen a c K1 wi X q r1)
  obtain ⟨f1, hf1⟩ : ∃ z, leftX (coinL K1 wi) = z := ⟨_, rfl⟩
  obtain ⟨f0, hf0⟩ : ∃ z, leftX (coinL k wi) = z := ⟨_, rfl⟩
  rw [hf1, hf0] at r3
  simp only [hf1] at LQ
  simp only [hf0] at LP
  have u2 : decide (f0 ≤ f1) = true := decide_eq_true r3
  clear ok p1 p3 p4 r1 r2 r3 r4 e1 e2 hK1 km hf1 hf0
  obtain ⟨N, hN⟩ : ∃ N, l.length = N := ⟨_, rfl⟩
  obtain ⟨P, hP⟩ : ∃ P, k.length = P := ⟨_, rfl⟩
  simp only [hN] at R1
  simp only [hP] at Q1 LP
  rw [hN] at h ⊢
  rw [hP] at h2 ⊢
  have t1 : decide ((40 : Int) < (N : Int)) = false := decide_eq_false (by omega)
  have t2 : decide ((40 : Int) < (P : Int)) = false := decide_eq_false (by omega)
  have t3 : decide (one < 0) = false := decide_eq_false (by omega)
  have t4 : decide (two < 0) = false := decide_eq_false (by omega)
  clear hp hk hN hP h h2 h3 h4 m1 m2
  go_enter Try.func6, Try.ntmps6
  obtain ⟨g6, hg6⟩ : ∃ G, w.heap.size = G := ⟨_, rfl⟩
  obtain ⟨g7, hg7⟩ : ∃ G, g6 + 1 = G := ⟨_, rfl⟩
  have K6 := Lib.hid (show Blk ((w.alloc (.cells #[.int .i64 cap, .int .i64 len, .slice ab N cb] 24)).alloc (.cells #[.int .i64 plen, .slice ap P cp] 45)) g6 24 #[.int .i64 cap, .int .i64 len, .slice ab N cb] from (Blk.new' w _ _ _ hg6 rfl).alloc _)
  have K7 := Lib.hid (show Blk ((w.alloc (.cells #[.int .i64 cap, .int .i64 len, .slice ab N cb] 24)).alloc (.cells #[.int .i64 plen, .slice ap P cp] 45)) g7 45 #[.int .i64 plen, .slice ap P cp] from Blk.new' _ _ _ _ (by rw [World.size_alloc, hg6, hg7]) rfl)
  have B := Lib.hid (show Below w.heap.size w ((w.alloc (.cells #[.int .i64 cap, .int .i64 len, .slice ab N cb] 24)).alloc (.cells #[.int .i64 plen, .slice ap P cp] 45)) by (repeat' (first | (with_reducible exact Below.refl _ _) | (with_reducible assumption) | (with_reducible refine Below.alloc ?_ ?_ _) | (with_reducible refine Below.drew ?_) | (with_reducible refine below_dn ?_) | (with_reducible refine Below.setCell ?_ ?_ _) | (with_reducible exact Nat.le_refl _) | omega | (simp only [World.size_alloc, World.size_setCell, World.size_drew]; omega) | (simp; omega) | (simp; done))))
  go_upto_region 1 with (fail)
  try rw [hg6]
  try rw [hg7]
  generalize hw : ((w.alloc (.cells #[.int .i64 cap, .int .i64 len, .slice ab N cb] 24)).alloc (.cells #[.int .i64 plen, .slice ap P cp] 45)) = wa at K6 K7 B ⊢
  clear hw hg6 hg7
  obtain ⟨b6c0, b6c1, b6c2⟩ := three K6.out
  obtain ⟨b7c0, b7c1⟩ := twob K7.out
  go_wp2_with fail
  refine (R1.out wa (HP.out.mono B.out)).mono ?_
  rintro e w1 ⟨rfl, hb⟩
  replace K6 := Lib.hid (K6.out.below hb K6.out.lt)
  replace K7 := Lib.hid (K7.out.below hb K7.out.lt)
  replace B := Lib.hid (B.out.trans (hb.mono B.out.size))
  clear hb
  clear b6c0 b6c1 b6c2 b7c0 b7c1
  obtain ⟨b6c0, b6c1, b6c2⟩ := three K6.out
  obtain ⟨b7c0, b7c1⟩ := twob K7.out
  obtain ⟨g14, hg14⟩ : ∃ G, w1.heap.size = G := ⟨_, rfl⟩
  have K14 := Lib.hid (show Blk (w1.alloc (.cells #[.int .i64 0, .int .i64 0, .slice none 0 0] 24)) g14 24 #[.int .i64 0, .int .i64 0, .slice none 0 0] from Blk.new' w1 _ _ _ hg14 rfl)
  have N614 := Lib.hid (show g6 < g14 from by rw [← hg14]; exact K6.out.lt)
  replace K6 := Lib.hid (K6.out.alloc (.cells #[.int .i64 0, .int .i64 0, .slice none 0 0] 24))
  have N714 := Lib.hid (show g7 < g14 from by rw [← hg14]; exact K7.out.lt)
  replace K7 := Lib.hid (K7.out.alloc (.cells #[.int .i64 0, .int .i64 0, .slice none 0 0] 24))
  replace B := Lib.hid (B.out.alloc B.out.size (.cells #[.int .i64 0, .int .i64 0, .slice none 0 0] 24))
  have S14 := Lib.hid hg14
  go_upto_region 5 with (fail)
  try rw [hg14]
  generalize hw : w1.alloc (.cells #[.int .i64 0, .int .i64 0, .slice none 0 0] 24) = w2 at K6 K7 K14  B ⊢
  clear hw hg14
  clear b6c0 b6c1 b6c2 b7c0 b7c1
  clear K14 S14 N614 N714
  obtain ⟨b6c0, b6c1, b6c2⟩ := three K6.out
  obtain ⟨b7c0, b7c1⟩ := twob K7.out
  go_wp2_with fail
  refine (Q1.out w2 (HK.out.mono B.out)).mono ?_
  rintro e w3 ⟨⟨aq, cq, rfl, hr, hf⟩, hb⟩
  replace K6 := Lib.hid (K6.out.below hb K6.out.lt)
  replace K7 := Lib.hid (K7.out.below hb K7.out.lt)
  replace B := Lib.hid (B.out.trans (hb.mono B.out.size))
  have Rq := Lib.hid hr
  have Fq := Lib.hid hf
  clear hb hr hf
  clear b6c0 b6c1 b6c2 b7c0 b7c1
  clear Fq
  obtain ⟨b6c0, b6c1, b6c2⟩ := three K6.out
  obtain ⟨b7c0, b7c1⟩ := twob K7.out
  obtain ⟨g20, hg20⟩ : ∃ G, w3.heap.size = G := ⟨_, rfl⟩
  have K20 := Lib.hid (show Blk (w3.alloc (.cells #[.int .i64 plen, .slice aq K1.length cq] 45)) g20 45 #[.int .i64 plen, .slice aq K1.length cq] from Blk.new' w3 _ _ _ hg20 rfl)
  have N620 := Lib.hid (show g6 < g20 from by rw [← hg20]; exact K6.out.lt)
  replace K6 := Lib.hid (K6.out.alloc (.cells #[.int .i64 plen, .slice aq K1.length cq] 45))
  have N720 := Lib.hid (show g7 < g20 from by rw [← hg20]; exact K7.out.lt)
  replace K7 := Lib.hid (K7.out.alloc (.cells #[.int .i64 plen, .slice aq K1.length cq] 45))
  replace Rq := Lib.hid (Rq.out.mono ((Below.refl _ w3).alloc (Nat.le_refl _) (.cells #[.int .i64 plen, .slice aq K1.length cq] 45)))
  replace B := Lib.hid (B.out.alloc B.out.size (.cells #[.int .i64 plen, .slice aq K1.length cq] 45))
  have S20 := Lib.hid hg20
  go_upto_region 11 with (fail)
  try rw [hg20]
  generalize hw : w3.alloc (.cells #[.int .i64 plen, .slice aq K1.length cq] 45) = w4 at K6 K7 K20 Rq B ⊢
  clear hw hg20
  clear b6c0 b6c1 b6c2 b7c0 b7c1
  obtain ⟨b6c0, b6c1, b6c2⟩ := three K6.out
  obtain ⟨b7c0, b7c1⟩ := twob K7.out
  obtain ⟨b20c0, b20c1⟩ := twob K20.out
  go_wp2_with fail
  refine (Q2.out aq cq w4 Rq.out).mono ?_
  rintro e w5 ⟨⟨ar, cr, rfl, hr, hf⟩, hb⟩
  replace K6 := Lib.hid (K6.out.below hb K6.out.lt)
  replace K7 := Lib.hid (K7.out.below hb K7.out.lt)
  replace K20 := Lib.hid (K20.out.below hb K20.out.lt)
  replace Rq := Lib.hid (Rq.out.mono hb)
  replace B := Lib.hid (B.out.trans (hb.mono B.out.size))
  have Rr := Lib.hid hr
  have Fr := Lib.hid hf
  clear hb hr hf
  clear b6c0 b6c1 b6c2 b7c0 b7c1 b20c0 b20c1
  clear Fr
  obtain ⟨b6c0, b6c1, b6c2⟩ := three K6.out
  obtain ⟨b7c0, b7c1⟩ := twob K7.out
  obtain ⟨b20c0, b20c1⟩ := twob K20.out
  obtain ⟨g22, hg22⟩ : ∃ G, w5.heap.size = G := ⟨_, rfl⟩
  have K22 := Lib.hid (show Blk (w5.alloc (.cells #[.int .i64 plen, .slice ar K1.length cr] 45)) g22 45 #[.int .i64 plen, .slice ar K1.length cr] from Blk.new' w5 _ _ _ hg22 rfl)
  have N622 := Lib.hid (show g6 < g22 from by rw [← hg22]; exact K6.out.lt)
  replace K6 := Lib.hid (K6.out.alloc (.cells #[.int .i64 plen, .slice ar K1.length cr] 45))
  have N722 := Lib.hid (show g7 < g22 from by rw [← hg22]; exact K7.out.lt)
  replace K7 := Lib.hid (K7.out.alloc (.cells #[.int .i64 plen, .slice ar K1.length cr] 45))
  have N2022 := Lib.hid (show g20 < g22 from by rw [← hg22]; exact K20.out.lt)
  replace K20 := Lib.hid (K20.out.alloc (.cells #[.int .i64 plen, .slice ar K1.length cr] 45))
  replace Rq := Lib.hid (Rq.out.mono ((Below.refl _ w5).alloc (Nat.le_refl _) (.cells #[.int .i64 plen, .slice ar K1.length cr] 45)))
  replace Rr := Lib.hid (Rr.out.mono ((Below.refl _ w5).alloc (Nat.le_refl _) (.cells #[.int .i64 plen, .slice ar K1.length cr] 45)))
  replace B := Lib.hid (B.out.alloc B.out.size (.cells #[.int .i64 plen, .slice ar K1.length cr] 45))
  have S22 := Lib.hid hg22
  go_upto_region 14 with (fail)
  try rw [hg22]
  generalize hw : w5.alloc (.cells #[.int .i64 plen, .slice ar K1.length cr] 45) = w6 at K6 K7 K20 K22 Rq Rr B ⊢
  clear hw hg22
  clear b6c0 b6c1 b6c2 b7c0 b7c1 b20c0 b20c1
  obtain ⟨b6c0, b6c1, b6c2⟩ := three K6.out
  obtain ⟨b7c0, b7c1⟩ := twob K7.out
  obtain ⟨b20c0, b20c1⟩ := twob K20.out
  obtain ⟨b22c0, b22c1⟩ := twob K22.out
  go_wp2_with fail
  refine (Q3.out aq cq w6 Rq.out).mono ?_
  rintro e w7 ⟨⟨az, cz, rfl, hr, hf⟩, hb⟩
  replace K6 := Lib.hid (K6.out.below hb K6.out.lt)
  replace K7 := Lib.hid (K7.out.below hb K7.out.lt)
  replace K20 := Lib.hid (K20.out.below hb K20.out.lt)
  replace K22 := Lib.hid (K22.out.below hb K22.out.lt)
  replace Rq := Lib.hid (Rq.out.mono hb)
  replace Rr := Lib.hid (Rr.out.mono hb)
  replace B := Lib.hid (B.out.trans (hb.mono B.out.size))
  have Rz := Lib.hid hr
  have Fz := Lib.hid hf
  clear hb hr hf
  clear b6c0 b6c1 b6c2 b7c0 b7c1 b20c0 b20c1 b22c0 b22c1
  clear Fz
  obtain ⟨b6c0, b6c1, b6c2⟩ := three K6.out
  obtain ⟨b7c0, b7c1⟩ := twob K7.out
  obtain ⟨b20c0, b20c1⟩ := twob K20.out
  obtain ⟨b22c0, b22c1⟩ := twob K22.out
  obtain ⟨g24, hg24⟩ : ∃ G, w7.heap.size = G := ⟨_, rfl⟩
  have K24 := Lib.hid (show Blk (w7.alloc (.cells #[.int .i64 plen, .slice az K1.length cz] 45)) g24 45 #[.int .i64 plen, .slice az K1.length cz] from Blk.new' w7 _ _ _ hg24 rfl)
  have N624 := Lib.hid (show g6 < g24 from by rw [← hg24]; exact K6.out.lt)
  replace K6 := Lib.hid (K6.out.alloc (.cells #[.int .i64 plen, .slice az K1.length cz] 45))
  have N724 := Lib.hid (show g7 < g24 from by rw [← hg24]; exact K7.out.lt)
  replace K7 := Lib.hid (K7.out.alloc (.cells #[.int .i64 plen, .slice az K1.length cz] 45))
  have N2024 := Lib.hid (show g20 < g24 from by rw [← hg24]; exact K20.out.lt)
  replace K20 := Lib.hid (K20.out.alloc (.cells #[.int .i64 plen, .slice az K1.length cz] 45))
  have N2224 := Lib.hid (show g22 < g24 from by rw [← hg24]; exact K22.out.lt)
  replace K22 := Lib.hid (K22.out.alloc (.cells #[.int .i64 plen, .slice az K1.length cz] 45))
  replace Rq := Lib.hid (Rq.out.mono ((Below.refl _ w7).alloc (Nat.le_refl _) (.cells #[.int .i64 plen, .slice az K1.length cz] 45)))
  replace Rr := Lib.hid (Rr.out.mono ((Below.refl _ w7).alloc (Nat.le_refl _) (.cells #[.int .i64 plen, .slice az K1.length cz] 45)))
  replace Rz := Lib.hid (Rz.out.mono ((Below.refl _ w7).alloc (Nat.le_refl _) (.cells #[.int .i64 plen, .slice az K1.length cz] 45)))
  replace B := Lib.hid (B.out.alloc B.out.size (.cells #[.int .i64 plen, .slice az K1.length cz] 45))
  have S24 := Lib.hid hg24
  go_upto_region 15 with (fail)
  try rw [hg24]
  generalize hw : w7.alloc (.cells #[.int .i64 plen, .slice az K1.length cz] 45) = w8 at K6 K7 K20 K22 K24 Rq Rr Rz B ⊢
  clear hw hg24
  clear b6c0 b6c1 b6c2 b7c0 b7c1 b20c0 b20c1 b22c0 b22c1
  have HKd := Lib.hid (HK.out.mono B.out)
  have K7d := Lib.hid K7.out.drew
  have K20d := Lib.hid K20.out.drew
  have K22d := Lib.hid K22.out.drew
  have K24d := Lib.hid K24.out.drew
  have BW := Lib.hid (show Below w8.heap.size w8 w8.drew from (Below.refl _ _).drew)
  go_region_held3 (fun X => (X.cell? ⟨g7, 0, none⟩ = some (.int .i64 plen) ∧ X.cell? ⟨g7, 1, none⟩ = some (.slice ap P cp)) ∧ (X.cell? ⟨g20, 0, none⟩ = some (.int .i64 plen) ∧ X.cell? ⟨g20, 1, none⟩ = some (.slice aq K1.length cq)) ∧ (X.cell? ⟨g22, 0, none⟩ = some (.int .i64 plen) ∧ X.cell? ⟨g22, 1, none⟩ = some (.slice ar K1.length cr)) ∧ (X.cell? ⟨g24, 0, none⟩ = some (.int .i64 plen) ∧ X.cell? ⟨g24, 1, none⟩ = some (.slice az K1.length cz))) (first | with_reducible exact ⟨twob K7d.out, twob K20d.out, twob K22d.out, twob K24d.out⟩) (first | (go_at_call 8; with_reducible refine (SN.out _).mono ?_; rintro e wd ⟨rfl, hb⟩; replace K7d := Lib.hid (K7d.out.below hb K7d.out.lt); replace K20d := Lib.hid (K20d.out.below hb K20d.out.lt); replace K22d := Lib.hid (K22d.out.below hb K22d.out.lt); replace K24d := Lib.hid (K24d.out.below hb K24d.out.lt); replace BW := Lib.hid (BW.out.trans (hb.mono BW.out.size)); clear hb) | (go_at_call 36; with_reducible refine (SP.out aq ar cq cr _ (Rq.out.mono BW.out) (Rr.out.mono BW.out)).mono ?_; rintro e wd ⟨rfl, hb⟩; replace K7d := Lib.hid (K7d.out.below hb K7d.out.lt); replace K20d := Lib.hid (K20d.out.below hb K20d.out.lt); replace K22d := Lib.hid (K22d.out.below hb K22d.out.lt); replace K24d := Lib.hid (K24d.out.below hb K24d.out.lt); replace BW := Lib.hid (BW.out.trans (hb.mono BW.out.size)); clear hb) | (go_at_call 36; with_reducible refine (SP.out aq az cq cz _ (Rq.out.mono BW.out) (Rz.out.mono BW.out)).mono ?_; rintro e wd ⟨rfl, hb⟩; replace K7d := Lib.hid (K7d.out.below hb K7d.out.lt); replace K20d := Lib.hid (K20d.out.below hb K20d.out.lt); replace K22d := Lib.hid (K22d.out.below hb K22d.out.lt); replace K24d := Lib.hid (K24d.out.below hb K24d.out.lt); replace BW := Lib.hid (BW.out.trans (hb.mono BW.out.size)); clear hb) | (go_at_call 37; with_reducible refine (LQ.out aq cq _ (Rq.out.mono BW.out)).mono ?_; rintro e wd ⟨rfl, hb⟩; replace K7d := Lib.hid (K7d.out.below hb K7d.out.lt); replace K20d := Lib.hid (K20d.out.below hb K20d.out.lt); replace K22d := Lib.hid (K22d.out.below hb K22d.out.lt); replace K24d := Lib.hid (K24d.out.below hb K24d.out.lt); replace BW := Lib.hid (BW.out.trans (hb.mono BW.out.size)); clear hb) | (go_at_call 37; with_reducible refine (LP.out _ (HKd.out.mono BW.out)).mono ?_; rintro e wd ⟨rfl, hb⟩; replace K7d := Lib.hid (K7d.out.below hb K7d.out.lt); replace K20d := Lib.hid (K20d.out.below hb K20d.out.lt); replace K22d := Lib.hid (K22d.out.below hb K22d.out.lt); replace K24d := Lib.hid (K24d.out.below hb K24d.out.lt); replace BW := Lib.hid (BW.out.trans (hb.mono BW.out.size)); clear hb))
  all_goals go_wp2
  all_goals
    refine bodyPost_ret (by simp [results, Try.results6, go_sem]; try rfl) rfl ?_
    exact ⟨rfl, B.out.trans (BW.out.mono B.out.size)⟩
set_option maxRecDepth 100000 in
set_option maxHeartbeats 8000000 in
theorem old_00 (cap len : Int) (ab : Option Addr) (cb : Nat) (l : List Rw) (plen : Int) (ap : Option Addr) (cp : Nat) (k : List Rw) (wi ga one two : Int) (w : World) (hp : RwA w ab l) (hk : RwA w ap k) (h : ¬ 40 < l.length) (h2 : ¬ 40 < k.length) (h3 : ¬ one < 0) (h4 : ¬ two < 0) (hb : ¬ (OkB cap len l ∧ winOk wi ∧ gateOk ga ∧ 0 ≤ max one two ∧ max one two ≤ dealtL l wi ga)) (hq : ¬ (OkP plen k ∧ winOk wi ∧ 0 ≤ max one two ∧ max one two ≤ 1099511627776)) : Calls Try.prog 6 #[.agg #[.int .i64 cap, .int .i64 len, .slice ab l.length cb], .agg #[.int .i64 plen, .slice ap k.length cp], .int .i64 wi, .int .i64 ga, .int .i64 one, .int .i64 two] w fun e w' => e = .returned (.bool true) ∧ Below w.heap.size w w' := by
  have HP := Lib.hid hp
  have HK := Lib.hid hk
  have SN := Lib.hid (fun X : World => sanity_any X)
  obtain ⟨M, hM⟩ : ∃ M, max one two = M := ⟨_, rfl⟩
  have hM2 : max two one = M := by rw [Int.max_comm]; exact hM
  have hM3 : (if one < two then two else one) = M := by rw [← hM, Int.max_def]; split <;> split <;> omega
  have hM4 : (if two < one then one else two) = M := by rw [← hM, Int.max_def]; split <;> split <;> omega
  have m1 : one ≤ M := by rw [← hM]; exact Int.le_max_left _ _
  have m2 : two ≤ M := by rw [← hM]; exact Int.le_max_right _ _
  rw [hM] at hb hq
  have R1 := Lib.hid (fun (X : World) (q : RwA X ab l) => ret_arg cap len ab cb l wi ga M X q (by omega) hb)
  clear hb
  have Q1 := Lib.hid (fun (X : World) (q : RwA X ap k) => recv_arg plen ap cp k wi M X q (by omega) hq)
  clear hq
  obtain ⟨N, hN⟩ : ∃ N, l.length = N := ⟨_, rfl⟩
  obtain ⟨P, hP⟩ : ∃ P, k.length = P := ⟨_, rfl⟩
  simp only [hN] at R1
  simp only [hP] at Q1
  rw [hN] at h ⊢
  rw [hP] at h2 ⊢
  have t1 : decide ((40 : Int) < (N : Int)) = false := decide_eq_false (by omega)
  have t2 : decide ((40 : Int) < (P : Int)) = false := decide_eq_false (by omega)
  have t3 : decide (one < 0) = false := decide_eq_false (by omega)
  have t4 : decide (two < 0) = false := decide_eq_false (by omega)
  clear hp hk hN hP h h2 h3 h4 m1 m2
  go_enter Try.func6, Try.ntmps6
  obtain ⟨g6, hg6⟩ : ∃ G, w.heap.size = G := ⟨_, rfl⟩
  obtain ⟨g7, hg7⟩ : ∃ G, g6 + 1 = G := ⟨_, rfl⟩
  have K6 := Lib.hid (show Blk ((w.alloc (.cells #[.int .i64 cap, .int .i64 len, .slice ab N cb] 24)).alloc (.cells #[.int .i64 plen, .slice ap P cp] 45)) g6 24 #[.int .i64 cap, .int .i64 len, .slice ab N cb] from (Blk.new' w _ _ _ hg6 rfl).alloc _)
  have K7 := Lib.hid (show Blk ((w.alloc (.cells #[.int .i64 cap, .int .i64 len, .slice ab N cb] 24)).alloc (.cells #[.int .i64 plen, .slice ap P cp] 45)) g7 45 #[.int .i64 plen, .slice ap P cp] from Blk.new' _ _ _ _ (by rw [World.size_alloc, hg6, hg7]) rfl)
  have B := Lib.hid (show Below w.heap.size w ((w.alloc (.cells #[.int .i64 cap, .int .i64 len, .slice ab N cb] 24)).alloc (.cells #[.int .i64 plen, .slice ap P cp] 45)) by (repeat' (first | (with_reducible exact Below.refl _ _) | (with_reducible assumption) | (with_reducible refine Below.alloc ?_ ?_ _) | (with_reducible refine Below.drew ?_) | (with_reducible refine below_dn ?_) | (with_reducible refine Below.setCell ?_ ?_ _) | (with_reducible exact Nat.le_refl _) | omega | (simp only [World.size_alloc, World.size_setCell, World.size_drew]; omega) | (simp; omega) | (simp; done))))
  go_upto_region 1 with (fail)
  try rw [hg6]
  try rw [hg7]
  generalize hw : ((w.alloc (.cells #[.int .i64 cap, .int .i64 len, .slice ab N cb] 24)).alloc (.cells #[.int .i64 plen, .slice ap P cp] 45)) = wa at K6 K7 B ⊢
  clear hw hg6 hg7
  obtain ⟨b6c0, b6c1, b6c2⟩ := three K6.out
  obtain ⟨b7c0, b7c1⟩ := twob K7.out
  go_wp2_with fail
  refine (R1.out wa (HP.out.mono B.out)).mono ?_
  rintro e w1 ⟨rfl, hb⟩
  replace K6 := Lib.hid (K6.out.below hb K6.out.lt)
  replace K7 := Lib.hid (K7.out.below hb K7.out.lt)
  replace B := Lib.hid (B.out.trans (hb.mono B.out.size))
  clear hb
  clear b6c0 b6c1 b6c2 b7c0 b7c1
  obtain ⟨b6c0, b6c1, b6c2⟩ := three K6.out
  obtain ⟨b7c0, b7c1⟩ := twob K7.out
  obtain ⟨g14, hg14⟩ : ∃ G, w1.heap.size = G := ⟨_, rfl⟩
  have K14 := Lib.hid (show Blk (w1.alloc (.cells #[.int .i64 0, .int .i64 0, .slice none 0 0] 24)) g14 24 #[.int .i64 0, .int .i64 0, .slice none 0 0] from Blk.new' w1 _ _ _ hg14 rfl)
  have N614 := Lib.hid (show g6 < g14 from by rw [← hg14]; exact K6.out.lt)
  replace K6 := Lib.hid (K6.out.alloc (.cells #[.int .i64 0, .int .i64 0, .slice none 0 0] 24))
  have N714 := Lib.hid (show g7 < g14 from by rw [← hg14]; exact K7.out.lt)
  replace K7 := Lib.hid (K7.out.alloc (.cells #[.int .i64 0, .int .i64 0, .slice none 0 0] 24))
  replace B := Lib.hid (B.out.alloc B.out.size (.cells #[.int .i64 0, .int .i64 0, .slice none 0 0] 24))
  have S14 := Lib.hid hg14
  go_upto_region 5 with (fail)
  try rw [hg14]
  generalize hw : w1.alloc (.cells #[.int .i64 0, .int .i64 0, .slice none 0 0] 24) = w2 at K6 K7 K14  B ⊢
  clear hw hg14
  clear b6c0 b6c1 b6c2 b7c0 b7c1
  clear K14 S14 N614 N714
  obtain ⟨b6c0, b6c1, b6c2⟩ := three K6.out
  obtain ⟨b7c0, b7c1⟩ := twob K7.out
  go_wp2_with fail
  refine (Q1.out w2 (HK.out.mono B.out)).mono ?_
  rintro e w3 ⟨rfl, hb⟩
  replace K6 := Lib.hid (K6.out.below hb K6.out.lt)
  replace K7 := Lib.hid (K7.out.below hb K7.out.lt)
  replace B := Lib.hid (B.out.trans (hb.mono B.out.size))
  clear hb
  clear b6c0 b6c1 b6c2 b7c0 b7c1
  obtain ⟨b6c0, b6c1, b6c2⟩ := three K6.out
  obtain ⟨b7c0, b7c1⟩ := twob K7.out
  obtain ⟨g20, hg20⟩ : ∃ G, w3.heap.size = G := ⟨_, rfl⟩
  have K20 := Lib.hid (show Blk (w3.alloc (.cells #[.int .i64 0, .slice none 0 0] 45)) g20 45 #[.int .i64 0, .slice none 0 0] from Blk.new' w3 _ _ _ hg20 rfl)
  have N620 := Lib.hid (show g6 < g20 from by rw [← hg20]; exact K6.out.lt)
  replace K6 := Lib.hid (K6.out.alloc (.cells #[.int .i64 0, .slice none 0 0] 45))
  have N720 := Lib.hid (show g7 < g20 from by rw [← hg20]; exact K7.out.lt)
  replace K7 := Lib.hid (K7.out.alloc (.cells #[.int .i64 0, .slice none 0 0] 45))
  replace B := Lib.hid (B.out.alloc B.out.size (.cells #[.int .i64 0, .slice none 0 0] 45))
  have S20 := Lib.hid hg20
  go_upto_region 11 with (fail)
  try rw [hg20]
  generalize hw : w3.alloc (.cells #[.int .i64 0, .slice none 0 0] 45) = w4 at K6 K7 K20  B ⊢
  clear hw hg20
  clear b6c0 b6c1 b6c2 b7c0 b7c1
  obtain ⟨b6c0, b6c1, b6c2⟩ := three K6.out
  obtain ⟨b7c0, b7c1⟩ := twob K7.out
  obtain ⟨b20c0, b20c1⟩ := twob K20.out
  go_wp2_with fail
  refine (SN.out w4).mono ?_
  rintro e w5 ⟨rfl, hb⟩
  replace K6 := Lib.hid (K6.out.below hb K6.out.lt)
  replace K7 := Lib.hid (K7.out.below hb K7.out.lt)
  replace K20 := Lib.hid (K20.out.below hb K20.out.lt)
  replace B := Lib.hid (B.out.trans (hb.mono B.out.size))
  clear hb
  clear b6c0 b6c1 b6c2 b7c0 b7c1 b20c0 b20c1
  go_wp2
  refine bodyPost_ret (by simp [results, Try.results6, go_sem]; try rfl) rfl ?_
  exact ⟨rfl, B.out⟩
theorem law6 (cap len : Int) (ab : Option Addr) (cb : Nat) (l : List Rw) (plen : Int) (ap : Option Addr) (cp : Nat) (k : List Rw) (wi ga one two : Int) (w : World) (hp : RwA w ab l) (hk : RwA w ap k) : Calls Try.prog 6 #[.agg #[.int .i64 cap, .int .i64 len, .slice ab l.length cb], .agg #[.int .i64 plen, .slice ap k.length cp], .int .i64 wi, .int .i64 ga, .int .i64 one, .int .i64 two] w fun e w' => e = .returned (.bool true) ∧ Below w.heap.size w w' := by
  by_cases h : 40 < l.length
  · exact old_many cap len ab cb l plen ap cp k wi ga one two w hp hk h
  by_cases h2 : 40 < k.length
  · exact old_many2 cap len ab cb l plen ap cp k wi ga one two w hp hk h h2
  by_cases h3 : one < 0
  · exact old_one cap len ab cb l plen ap cp k wi ga one two w hp hk h h2 h3
  by_cases h4 : two < 0
  · exact old_two cap len ab cb l plen ap cp k wi ga one two w hp hk h h2 h3 h4
  by_cases hb : OkB cap len l ∧ winOk wi ∧ gateOk ga ∧ 0 ≤ max one two ∧ max one two ≤ dealtL l wi ga
  · by_cases hq : OkP plen k ∧ winOk wi ∧ 0 ≤ max one two ∧ max one two ≤ 1099511627776
    · exact old_11 cap len ab cb l plen ap cp k wi ga one two w hp hk h h2 h3 h4 hb hq
    · exact old_10 cap len ab cb l plen ap cp k wi ga one two w hp hk h h2 h3 h4 hb hq
  · by_cases hq : OkP plen k ∧ winOk wi ∧ 0 ≤ max one two ∧ max one two ≤ 1099511627776
    · exact old_01 cap len ab cb l plen ap cp k wi ga one two w hp hk h h2 h3 h4 hb hq
    · exact old_00 cap len ab cb l plen ap cp k wi ga one two w hp hk h h2 h3 h4 hb hq
end Go.Proofs.Ytcgdhankllphgaa
