/- Contract: the law that credits come back, where the deal succeeds. -/
import Derived.Test.YtcgdhankllphgaaS7
import Derived.Deep.Cut
import Derived.Deep.CutRange
namespace Go.Proofs.Ytcgdhankllphgaa
set_option linter.unusedVariables false
set_option linter.unusedSimpArgs false
open Go.RowKit
set_option maxRecDepth 100000 in
set_option maxHeartbeats 8000000 in
theorem law_good (cap len : Int) (ab : Option Addr) (cb : Nat) (l : List Rw) (wi ga oth n : Int) (w : World) (hp : RwA w ab l) (h : l.length ≤ 40) (hx : dealtB cap len l wi oth ≤ 549755813888) (ho : gateOk oth) (hd : dealP cap len l wi ga n) : Calls Try.prog 7 #[.agg #[.int .i64 cap, .int .i64 len, .slice ab l.length cb], .int .i64 wi, .int .i64 ga, .int .i64 oth, .int .i64 n] w fun e w' => e = .returned (.bool true) ∧ Below w.heap.size w w' := by
  have HP := Lib.hid hp
  have SN := Lib.hid (fun X : World => sanity_any X)
  have DA := Lib.hid (fun (X : World) (k : RwA X ab l) => dealt_all cap len ab cb l wi oth X k (by omega))
  have CM := comes hd h ho hx
  obtain ⟨⟨ok, p1, p2, p3, p4⟩, hlim⟩ := hd
  have p34 : 1 ≤ n ∧ n ≤ 1073741824 := ⟨p3, p4⟩
  have DB := Lib.hid (fun (X : World) (k : RwA X ab l) => dealt_any cap len ab cb l wi ga X k ok)
  have DO1 := Lib.hid (fun (X : World) (k : RwA X ab l) => deal_ok cap len ab cb l wi ga n X k ok p1 p2 p34 hlim)
  have OB := Lib.hid (fun (X : World) (k : RwA X ab l) => out_any cap len ab cb l wi X k ok)
  have BKL := backK_L ok.ord wi ga
  obtain ⟨X, hX⟩ : ∃ X, dealtB cap len l wi oth = X := ⟨_, rfl⟩
  rw [hX] at hx
  simp only [hX] at DA
  generalize hL3 : dealL (retL (dealL l wi ga n) wi ga (backL l wi ga + n)) wi oth n = L3 at CM
  generalize hL2 : retL (dealL l wi ga n) wi ga (backL l wi ga + n) = L2 at CM hL3
  generalize hL1 : dealL l wi ga n = L1 at CM hL2
  generalize hO : outL l wi = o at CM hlim
  generalize hY : dealtL l wi ga = y at CM hlim
  generalize hB : backL l wi ga = ba at CM hL2 BKL
  simp only [hY] at DB
  simp only [hL1] at DO1
  simp only [hO] at OB
  have NP := Lib.hid (fun X : World => newpurse_yes len X CM.np)
  have RC := Lib.hid (fun X : World => recv_ok len none 0 [] wi n X (RowsA.nil _ _ _ _) CM.np p1 ⟨by omega, by omega⟩ (Or.inr (Or.inr (by simp))))
  simp only [recv_one p3, List.length_nil] at RC
  have GV := Lib.hid (fun (a : Option Addr) (c : Nat) (X : World) (k : RwA X a [(wi, n, 0, 0)]) => give_ok len a c [(wi, n, 0, 0)] wi n X k (okp_one CM.np p1 ⟨by omega, by omega⟩ ⟨by omega, by omega⟩ ⟨by omega, by omega⟩) p1 p34 (by rw [(coin_one wi n 0 0).2]; simp only [leftX]; omega))
  simp only [give_one] at GV
  have okp2 : OkP len [(wi, n, 0, n)] := okp_one CM.np p1 ⟨by omega, by omega⟩ ⟨by omega, by omega⟩ ⟨by omega, by omega⟩
  have LP := Lib.hid (fun (a : Option Addr) (c : Nat) (X : World) (k : RwA X a [(wi, n, 0, n)]) => leftp_any len a c [(wi, n, 0, n)] wi X k okp2)
  have lz : leftX (coinL [(wi, n, 0, n)] wi) = 0 := by rw [(coin_one wi n 0 n).2]; simp only [leftX]; omega
  simp only [lz] at LP
  have BK := Lib.hid (fun (a : Option Addr) (c : Nat) (X : World) (k : RwA X a [(wi, n, 0, n)]) => backp_any len a c [(wi, n, 0, n)] wi X k okp2)
  have bz : (coinL [(wi, n, 0, n)] wi).2.2.2 = n := by rw [(coin_one wi n 0 n).2]
  simp only [bz] at BK
  clear lz bz okp2
  obtain ⟨P1, hP1⟩ : ∃ P, ([(wi, n, 0, 0)] : List Rw) = P := ⟨_, rfl⟩
  obtain ⟨P2, hP2⟩ : ∃ P, ([(wi, n, 0, n)] : List Rw) = P := ⟨_, rfl⟩
  simp only [hP1] at RC
  simp only [hP1, hP2] at GV
  simp only [hP2] at LP BK
  obtain ⟨on, hon⟩ : ∃ z, o + n = z := ⟨_, rfl⟩
  obtain ⟨yn, hyn⟩ : ∃ z, y + n = z := ⟨_, rfl⟩
  obtain ⟨T, hT⟩ : ∃ z, ba + n = z := ⟨_, rfl⟩
  have OC := Lib.hid (fun (a : Option Addr) (c : Nat) (X : World) (k : RwA X a L1) => out_any cap len a c L1 wi X k CM.ok1)
  simp only [CM.o1, hon] at OC
  have DC := Lib.hid (fun (a : Option Addr) (c : Nat) (X : World) (k : RwA X a L1) => dealt_any cap len a c L1 wi ga X k CM.ok1)
  simp only [CM.y1, hyn] at DC
  have RT := Lib.hid (fun (a : Option Addr) (c : Nat) (X : World) (k : RwA X a L1) => ret_ok cap len a c L1 wi ga T X k CM.ok1 p1 p2 (by rw [CM.y1]; have := CM.bb; omega))
  rw [hT] at hL2
  simp only [hL2] at RT
  have D2 := Lib.hid (fun (a : Option Addr) (c : Nat) (X : World) (k : RwA X a L2) => deal_ok cap len a c L2 wi oth n X k CM.ok2 p1 ho p34 CM.d2)
  simp only [hL3] at D2
  have OD := Lib.hid (fun (a : Option Addr) (c : Nat) (X : World) (k : RwA X a L2) => out_any cap len a c L2 wi X k CM.ok2)
  simp only [CM.o2] at OD
  have OX := Lib.hid (fun (a : Option Addr) (c : Nat) (X : World) (k : RwA X a L3) => out_any cap len a c L3 wi X k CM.ok3)
  simp only [CM.o3, hon] at OX
  have VX := Lib.hid (fun (a : Option Addr) (c : Nat) (X : World) (k : RwA X a L3) => valid_yes CM.ok3 a c X k)
  have L1P := Lib.hid CM.len1.1
  have w1 : IntKind.i64.wrap on = on := by rw [IntKind.wrap_i64]; have := CM.ob; omega
  have w2 : IntKind.i64.wrap yn = yn := by rw [IntKind.wrap_i64]; have := CM.yb; omega
  have w3 : IntKind.i64.wrap T = T := by rw [IntKind.wrap_i64]; have := CM.bb; have := CM.yb; omega
  have x1 : (on != on) = false := bne_self_eq_false' _
  have x2 : (yn != yn) = false := bne_self_eq_false' _
  unfold gateOk at ho
  obtain ⟨N, hN⟩ : ∃ N, l.length = N := ⟨_, rfl⟩
  have HE := Lib.hid hN
  rw [hN] at BKL
  simp only [hN] at DA DB DO1 OB
  rw [hN] at h ⊢
  have BL := Lib.hid BKL
  have t0 : decide ((40 : Int) < (N : Int)) = false := decide_eq_false (by omega)
  have t1 : decide ((549755813888 : Int) < X) = false := decide_eq_false (by omega)
  have t2 : decide (oth < 1) = false := decide_eq_false (by omega)
  have t3 : decide ((1073741824 : Int) < oth) = false := decide_eq_false (by omega)
  clear hp hN hX hx ho hlim CM ok p1 p2 p3 p4 p34 hL1 hL2 hL3 hO hY hB hP1 hP2 BKL
  go_enter Try.func7, Try.ntmps7
  have B := Lib.hid (Below.refl w.heap.size w)
  obtain ⟨g5, hg5⟩ : ∃ G, w.heap.size = G := ⟨_, rfl⟩
  have K5 := Lib.hid (show Blk (w.alloc (.cells #[.int .i64 cap, .int .i64 len, .slice ab N cb] 24)) g5 24 #[.int .i64 cap, .int .i64 len, .slice ab N cb] from Blk.new' w _ _ _ hg5 rfl)
  replace B := Lib.hid (B.out.alloc B.out.size (.cells #[.int .i64 cap, .int .i64 len, .slice ab N cb] 24))
  have S5 := Lib.hid hg5
  go_upto_region 1 with (fail)
  try rw [hg5]
  generalize hw : w.alloc (.cells #[.int .i64 cap, .int .i64 len, .slice ab N cb] 24) = w1 at K5  B ⊢
  clear hw hg5
  obtain ⟨b5c0, b5c1, b5c2⟩ := three K5.out
  go_wp2_with fail
  refine (DA.out w1 (HP.out.mono B.out)).mono ?_
  rintro e w2 ⟨rfl, hb⟩
  replace K5 := Lib.hid (K5.out.below hb K5.out.lt)
  replace B := Lib.hid (B.out.trans (hb.mono B.out.size))
  clear hb
  clear b5c0 b5c1 b5c2
  obtain ⟨b5c0, b5c1, b5c2⟩ := three K5.out
  go_wp2_with fail
  refine (DB.out w2 (HP.out.mono B.out)).mono ?_
  rintro e w3 ⟨rfl, hb⟩
  replace K5 := Lib.hid (K5.out.below hb K5.out.lt)
  replace B := Lib.hid (B.out.trans (hb.mono B.out.size))
  clear hb
  clear b5c0 b5c1 b5c2
  obtain ⟨b5c0, b5c1, b5c2⟩ := three K5.out
  go_wp2_with fail
  refine (DO1.out w3 (HP.out.mono B.out)).mono ?_
  rintro e w4 ⟨⟨ad, cd, rfl, hr, hf⟩, hb⟩
  replace K5 := Lib.hid (K5.out.below hb K5.out.lt)
  replace B := Lib.hid (B.out.trans (hb.mono B.out.size))
  have Rd := Lib.hid hr
  have Fd := Lib.hid hf
  clear hb hr hf
  clear b5c0 b5c1 b5c2
  clear Fd
  obtain ⟨b5c0, b5c1, b5c2⟩ := three K5.out
  obtain ⟨g12, hg12⟩ : ∃ G, w4.heap.size = G := ⟨_, rfl⟩
  have K12 := Lib.hid (show Blk (w4.alloc (.cells #[.int .i64 cap, .int .i64 len, .slice ad L1.length cd] 24)) g12 24 #[.int .i64 cap, .int .i64 len, .slice ad L1.length cd] from Blk.new' w4 _ _ _ hg12 rfl)
  have N512 := Lib.hid (show g5 < g12 from by rw [← hg12]; exact K5.out.lt)
  replace K5 := Lib.hid (K5.out.alloc (.cells #[.int .i64 cap, .int .i64 len, .slice ad L1.length cd] 24))
  replace Rd := Lib.hid (Rd.out.mono ((Below.refl _ w4).alloc (Nat.le_refl _) (.cells #[.int .i64 cap, .int .i64 len, .slice ad L1.length cd] 24)))
  replace B := Lib.hid (B.out.alloc B.out.size (.cells #[.int .i64 cap, .int .i64 len, .slice ad L1.length cd] 24))
  have S12 := Lib.hid hg12
  go_upto_region 5 with (fail)
  try rw [hg12]
  generalize hw : w4.alloc (.cells #[.int .i64 cap, .int .i64 len, .slice ad L1.length cd] 24) = w5 at K5 K12 Rd B ⊢
  clear hw hg12
  clear b5c0 b5c1 b5c2
  obtain ⟨b5c0, b5c1, b5c2⟩ := three K5.out
  obtain ⟨b12c0, b12c1, b12c2⟩ := three K12.out
  go_wp2_with fail
  refine (NP.out w5).mono ?_
  rintro e w6 ⟨rfl, hb⟩
  replace K5 := Lib.hid (K5.out.below hb K5.out.lt)
  replace K12 := Lib.hid (K12.out.below hb K12.out.lt)
  replace Rd := Lib.hid (Rd.out.mono hb)
  replace B := Lib.hid (B.out.trans (hb.mono B.out.size))
  clear hb
  clear b5c0 b5c1 b5c2 b12c0 b12c1 b12c2
  have B0 := Lib.hid B.out.size
  have Q := Lib.hid (rwa_lt Rd.out L1P.out)
  obtain ⟨b5c0, b5c1, b5c2⟩ := three K5.out
  obtain ⟨b12c0, b12c1, b12c2⟩ := three K12.out
  obtain ⟨g14, hg14⟩ : ∃ G, w6.heap.size = G := ⟨_, rfl⟩
  have K14 := Lib.hid (show Blk (w6.alloc (.cells #[.int .i64 len, .slice none 0 0] 45)) g14 45 #[.int .i64 len, .slice none 0 0] from Blk.new' w6 _ _ _ hg14 rfl)
  have N514 := Lib.hid (show g5 < g14 from by rw [← hg14]; exact K5.out.lt)
  replace K5 := Lib.hid (K5.out.alloc (.cells #[.int .i64 len, .slice none 0 0] 45))
  have N1214 := Lib.hid (show g12 < g14 from by rw [← hg14]; exact K12.out.lt)
  replace K12 := Lib.hid (K12.out.alloc (.cells #[.int .i64 len, .slice none 0 0] 45))
  replace Rd := Lib.hid (Rd.out.mono ((Below.refl _ w6).alloc (Nat.le_refl _) (.cells #[.int .i64 len, .slice none 0 0] 45)))
  replace B := Lib.hid (B.out.alloc B.out.size (.cells #[.int .i64 len, .slice none 0 0] 45))
  have S14 := Lib.hid hg14
  go_upto_region 6 with (fail)
  try rw [hg14]
  generalize hw : w6.alloc (.cells #[.int .i64 len, .slice none 0 0] 45) = w7 at K5 K12 K14 Rd B ⊢
  clear hw hg14
  clear b5c0 b5c1 b5c2 b12c0 b12c1 b12c2
  have L14 := Lib.hid (show w.heap.size ≤ g14 from by rw [← S14.out]; exact B0.out)
  have Ed14 := Lib.hid (show ∀ p, ad = some p → p.block ≠ g14 from fun p hp => by have h1 := Q.out p hp; have h2 := S14.out; omega)
  clear Q B0
  obtain ⟨b5c0, b5c1, b5c2⟩ := three K5.out
  obtain ⟨b12c0, b12c1, b12c2⟩ := three K12.out
  obtain ⟨b14c0, b14c1⟩ := twob K14.out
  have Q := Lib.hid K14.out.lt
  go_wp2_with fail
  refine (RC.out w7).mono ?_
  rintro e w8 ⟨⟨ar, cr, rfl, hr, hf⟩, hb⟩
  replace K5 := Lib.hid (K5.out.below hb K5.out.lt)
  replace K12 := Lib.hid (K12.out.below hb K12.out.lt)
  replace K14 := Lib.hid (K14.out.below hb K14.out.lt)
  replace Rd := Lib.hid (Rd.out.mono hb)
  replace B := Lib.hid (B.out.trans (hb.mono B.out.size))
  have Rr := Lib.hid hr
  have Fr := Lib.hid hf
  clear hb hr hf
  clear b5c0 b5c1 b5c2 b12c0 b12c1 b12c2 b14c0 b14c1
  have Er14 := Lib.hid (show ∀ p, ar = some p → p.block ≠ g14 from fun p hp => by have h1 := Fr.out p hp; have h2 := Q.out; omega)
  clear Q Fr
  obtain ⟨b5c0, b5c1, b5c2⟩ := three K5.out
  obtain ⟨b12c0, b12c1, b12c2⟩ := three K12.out
  obtain ⟨b14c0, b14c1⟩ := twob K14.out
  have fz := fun q => K14.out.frozen q
  replace K14 := Lib.hid (show Blk ((((w8).setCell ⟨g14, 0, none⟩ (.int .i64 len))).setCell ⟨g14, 1, none⟩ (.slice ar P1.length cr)) g14 45 #[.int .i64 len, .slice ar P1.length cr] from K14.out.set2 (.int .i64 len) (.slice ar P1.length cr))
  replace K5 := Lib.hid (show Blk ((((w8).setCell ⟨g14, 0, none⟩ (.int .i64 len))).setCell ⟨g14, 1, none⟩ (.slice ar P1.length cr)) g5 _ _ from (Blk.far (Blk.far K5.out (p := ⟨g14, 0, none⟩) (by have := N514.out; show g5 ≠ g14; omega) (.int .i64 len)) (p := ⟨g14, 1, none⟩) (by have := N514.out; show g5 ≠ g14; omega) (.slice ar P1.length cr)))
  replace K12 := Lib.hid (show Blk ((((w8).setCell ⟨g14, 0, none⟩ (.int .i64 len))).setCell ⟨g14, 1, none⟩ (.slice ar P1.length cr)) g12 _ _ from (Blk.far (Blk.far K12.out (p := ⟨g14, 0, none⟩) (by have := N1214.out; show g12 ≠ g14; omega) (.int .i64 len)) (p := ⟨g14, 1, none⟩) (by have := N1214.out; show g12 ≠ g14; omega) (.slice ar P1.length cr)))
  replace Rd := Lib.hid (show RwA ((((w8).setCell ⟨g14, 0, none⟩ (.int .i64 len))).setCell ⟨g14, 1, none⟩ (.slice ar P1.length cr)) _ _ from (RowsA.far (RowsA.far Rd.out (p := ⟨g14, 0, none⟩) (Ed14.out) (.int .i64 len)) (p := ⟨g14, 1, none⟩) (Ed14.out) (.slice ar P1.length cr)))
  replace Rr := Lib.hid (show RwA ((((w8).setCell ⟨g14, 0, none⟩ (.int .i64 len))).setCell ⟨g14, 1, none⟩ (.slice ar P1.length cr)) _ _ from (RowsA.far (RowsA.far Rr.out (p := ⟨g14, 0, none⟩) (Er14.out) (.int .i64 len)) (p := ⟨g14, 1, none⟩) (Er14.out) (.slice ar P1.length cr)))
  replace B := Lib.hid (show Below w.heap.size w ((((w8).setCell ⟨g14, 0, none⟩ (.int .i64 len))).setCell ⟨g14, 1, none⟩ (.slice ar P1.length cr)) from ((((B.out).setCell (p := ⟨g14, 0, none⟩) (show w.heap.size ≤ g14 from by have := L14.out; omega) (.int .i64 len))).setCell (p := ⟨g14, 1, none⟩) (show w.heap.size ≤ g14 from by have := L14.out; omega) (.slice ar P1.length cr)))
  go_upto_region 9 with (fail)
  generalize hw : ((((w8).setCell ⟨g14, 0, none⟩ (.int .i64 len))).setCell ⟨g14, 1, none⟩ (.slice ar P1.length cr)) = w9 at K5 K12 K14 Rd Rr B ⊢
  clear hw
  clear b5c0 b5c1 b5c2 b12c0 b12c1 b12c2 b14c0 b14c1 fz
  obtain ⟨b5c0, b5c1, b5c2⟩ := three K5.out
  obtain ⟨b12c0, b12c1, b12c2⟩ := three K12.out
  obtain ⟨b14c0, b14c1⟩ := twob K14.out
  have Q := Lib.hid K14.out.lt
  go_wp2_with fail
  refine (GV.out ar cr w9 Rr.out).mono ?_
  rintro e w10 ⟨⟨av, cv, rfl, hr, hf⟩, hb⟩
  replace K5 := Lib.hid (K5.out.below hb K5.out.lt)
  replace K12 := Lib.hid (K12.out.below hb K12.out.lt)
  replace K14 := Lib.hid (K14.out.below hb K14.out.lt)
  replace Rd := Lib.hid (Rd.out.mono hb)
  replace Rr := Lib.hid (Rr.out.mono hb)
  replace B := Lib.hid (B.out.trans (hb.mono B.out.size))
  have Rv := Lib.hid hr
  have Fv := Lib.hid hf
  clear hb hr hf
  clear b5c0 b5c1 b5c2 b12c0 b12c1 b12c2 b14c0 b14c1
  have Ev14 := Lib.hid (show ∀ p, av = some p → p.block ≠ g14 from fun p hp => by have h1 := Fv.out p hp; have h2 := Q.out; omega)
  clear Q Fv Rr Er14
  obtain ⟨b5c0, b5c1, b5c2⟩ := three K5.out
  obtain ⟨b12c0, b12c1, b12c2⟩ := three K12.out
  obtain ⟨b14c0, b14c1⟩ := twob K14.out
  have fz := fun q => K14.out.frozen q
  replace K14 := Lib.hid (show Blk ((((w10).setCell ⟨g14, 0, none⟩ (.int .i64 len))).setCell ⟨g14, 1, none⟩ (.slice av P2.length cv)) g14 45 #[.int .i64 len, .slice av P2.length cv] from K14.out.set2 (.int .i64 len) (.slice av P2.length cv))
  replace K5 := Lib.hid (show Blk ((((w10).setCell ⟨g14, 0, none⟩ (.int .i64 len))).setCell ⟨g14, 1, none⟩ (.slice av P2.length cv)) g5 _ _ from (Blk.far (Blk.far K5.out (p := ⟨g14, 0, none⟩) (by have := N514.out; show g5 ≠ g14; omega) (.int .i64 len)) (p := ⟨g14, 1, none⟩) (by have := N514.out; show g5 ≠ g14; omega) (.slice av P2.length cv)))
  replace K12 := Lib.hid (show Blk ((((w10).setCell ⟨g14, 0, none⟩ (.int .i64 len))).setCell ⟨g14, 1, none⟩ (.slice av P2.length cv)) g12 _ _ from (Blk.far (Blk.far K12.out (p := ⟨g14, 0, none⟩) (by have := N1214.out; show g12 ≠ g14; omega) (.int .i64 len)) (p := ⟨g14, 1, none⟩) (by have := N1214.out; show g12 ≠ g14; omega) (.slice av P2.length cv)))
  replace Rd := Lib.hid (show RwA ((((w10).setCell ⟨g14, 0, none⟩ (.int .i64 len))).setCell ⟨g14, 1, none⟩ (.slice av P2.length cv)) _ _ from (RowsA.far (RowsA.far Rd.out (p := ⟨g14, 0, none⟩) (Ed14.out) (.int .i64 len)) (p := ⟨g14, 1, none⟩) (Ed14.out) (.slice av P2.length cv)))
  replace Rv := Lib.hid (show RwA ((((w10).setCell ⟨g14, 0, none⟩ (.int .i64 len))).setCell ⟨g14, 1, none⟩ (.slice av P2.length cv)) _ _ from (RowsA.far (RowsA.far Rv.out (p := ⟨g14, 0, none⟩) (Ev14.out) (.int .i64 len)) (p := ⟨g14, 1, none⟩) (Ev14.out) (.slice av P2.length cv)))
  replace B := Lib.hid (show Below w.heap.size w ((((w10).setCell ⟨g14, 0, none⟩ (.int .i64 len))).setCell ⟨g14, 1, none⟩ (.slice av P2.length cv)) from ((((B.out).setCell (p := ⟨g14, 0, none⟩) (show w.heap.size ≤ g14 from by have := L14.out; omega) (.int .i64 len))).setCell (p := ⟨g14, 1, none⟩) (show w.heap.size ≤ g14 from by have := L14.out; omega) (.slice av P2.length cv)))
  go_upto_region 10 with (fail)
  generalize hw : ((((w10).setCell ⟨g14, 0, none⟩ (.int .i64 len))).setCell ⟨g14, 1, none⟩ (.slice av P2.length cv)) = w11 at K5 K12 K14 Rd Rv B ⊢
  clear hw
  clear b5c0 b5c1 b5c2 b12c0 b12c1 b12c2 b14c0 b14c1 fz
  go_cut [115] from 79 to 116 (fun u wx => u = .bool false ∧ Hid (Below w11.heap.size w11 wx))
  case first =>
    have K5d := Lib.hid K5.out.drew
    have K12d := Lib.hid K12.out.drew
    have K14d := Lib.hid K14.out.drew
    have BW := Lib.hid (show Below w11.heap.size w11 w11.drew from (Below.refl _ _).drew)
    have HPd := Lib.hid (HP.out.mono B.out)
    go_region_held3 (fun X => (X.cell? ⟨g5, 0, none⟩ = some (.int .i64 cap) ∧ X.cell? ⟨g5, 1, none⟩ = some (.int .i64 len) ∧ X.cell? ⟨g5, 2, none⟩ = some (.slice ab N cb)) ∧ (X.cell? ⟨g12, 0, none⟩ = some (.int .i64 cap) ∧ X.cell? ⟨g12, 1, none⟩ = some (.int .i64 len) ∧ X.cell? ⟨g12, 2, none⟩ = some (.slice ad L1.length cd)) ∧ (X.cell? ⟨g14, 0, none⟩ = some (.int .i64 len) ∧ X.cell? ⟨g14, 1, none⟩ = some (.slice av P2.length cv))) (first | with_reducible exact ⟨three K5d.out, three K12d.out, twob K14d.out⟩) (first | (go_at_call 37; with_reducible refine (LP.out _ _ _ (Rv.out.mono BW.out)).mono ?_; rintro e wd ⟨rfl, hb⟩; replace K5d := Lib.hid (K5d.out.below hb K5d.out.lt); replace K12d := Lib.hid (K12d.out.below hb K12d.out.lt); replace K14d := Lib.hid (K14d.out.below hb K14d.out.lt); replace BW := Lib.hid (BW.out.trans (hb.mono BW.out.size)); clear hb) | (go_at_call 22; with_reducible refine (OC.out _ _ _ (Rd.out.mono BW.out)).mono ?_; rintro e wd ⟨rfl, hb⟩; replace K5d := Lib.hid (K5d.out.below hb K5d.out.lt); replace K12d := Lib.hid (K12d.out.below hb K12d.out.lt); replace K14d := Lib.hid (K14d.out.below hb K14d.out.lt); replace BW := Lib.hid (BW.out.trans (hb.mono BW.out.size)); clear hb) | (go_at_call 22; with_reducible refine (OB.out _ (HPd.out.mono BW.out)).mono ?_; rintro e wd ⟨rfl, hb⟩; replace K5d := Lib.hid (K5d.out.below hb K5d.out.lt); replace K12d := Lib.hid (K12d.out.below hb K12d.out.lt); replace K14d := Lib.hid (K14d.out.below hb K14d.out.lt); replace BW := Lib.hid (BW.out.trans (hb.mono BW.out.size)); clear hb) | (go_at_call 20; with_reducible refine (DC.out _ _ _ (Rd.out.mono BW.out)).mono ?_; rintro e wd ⟨rfl, hb⟩; replace K5d := Lib.hid (K5d.out.below hb K5d.out.lt); replace K12d := Lib.hid (K12d.out.below hb K12d.out.lt); replace K14d := Lib.hid (K14d.out.below hb K14d.out.lt); replace BW := Lib.hid (BW.out.trans (hb.mono BW.out.size)); clear hb))
    all_goals go_wp2_with fail
    all_goals go_meet
    all_goals exact ⟨rfl, BW⟩
  obtain ⟨rfl, BX⟩ := hcut
  replace K5 := Lib.hid (K5.out.below BX.out K5.out.lt)
  replace K12 := Lib.hid (K12.out.below BX.out K12.out.lt)
  replace K14 := Lib.hid (K14.out.below BX.out K14.out.lt)
  replace Rd := Lib.hid (Rd.out.mono BX.out)
  replace Rv := Lib.hid (Rv.out.mono BX.out)
  replace B := Lib.hid (B.out.trans (BX.out.mono B.out.size))
  clear BX DO1 NP RC GV LP DC DA DB Ed14 Ev14 L14 x1 x2 t0 t1 t2 t3
  obtain ⟨w0, hw0⟩ : ∃ v, v = wc := ⟨_, rfl⟩
  rw [← hw0] at K5 K12 K14 Rd Rv B ⊢
  clear hw0
  have HPw := Lib.hid (HP.out.mono B.out)
  go_wp2
  go_loopw [18, 19] (fun u18 u19 wr => ∃ (k : Nat) (s : Int), k ≤ N ∧ u18 = .int .i64 s ∧ u19 = .int .i64 k ∧ Hid (backK l wi ga k = s) ∧ SameW w0 wr) (fun _ u19 _ => (N - intOf u19).toNat)
  case atStart => exact ⟨0, 0, by omega, rfl, rfl, Lib.hid rfl, rfl⟩
  case round =>
    obtain ⟨k, s, hk, rfl, rfl, hs, hsw⟩ := hrel
    obtain rfl : wr = w0 := hsw
    obtain ⟨b5c0, b5c1, b5c2⟩ := three K5.out
    by_cases hlt : k < N
    · have t0 : decide ((k : Int) < (N : Int)) = true := decide_eq_true (by omega)
      have wk : IntKind.i64.wrap ((k : Int) + 1) = (k : Int) + 1 := by rw [IntKind.wrap_i64]; omega
      obtain ⟨b, off, rfl, q0, q1, q2, q3⟩ := RwA.at_ HPw.out (k := k) (by rw [HE.out]; exact hlt)
      have BS := Lib.hid (show backK l wi ga (k + 1) = if (l.getD k r0).1 = wi ∧ (l.getD k r0).2.1 = ga then (l.getD k r0).2.2.2 else backK l wi ga k from rfl)
      rw [hs.out] at BS
      obtain ⟨x, hx⟩ : ∃ y, l.getD k r0 = y := ⟨_, rfl⟩
      rw [hx] at q0 q1 q2 q3 BS
      clear hx
      obtain ⟨x1, x2, x3, x4⟩ := x
      simp only at q0 q1 q2 q3
      have k0 : (0 : Int) ≤ (k : Int) := by omega
      have kN : (k : Int) < (N : Int) := by omega
      by_cases e1 : x1 = wi
      · have m1 : (x1 == wi) = true := beq_iff_eq.2 e1
        by_cases e2 : x2 = ga
        · have m2 : (x2 == ga) = true := beq_iff_eq.2 e2
          have BE := Lib.hid (show backK l wi ga (k + 1) = x4 by rw [BS.out, if_pos ⟨e1, e2⟩])
          clear e1 e2 BS
          go_wp2
          go_roundw
          case rel => exact ⟨k + 1, x4, by omega, rfl, by go_num, BE, rfl⟩
          case measure => simp [intOf]; omega
        · have m2 : (x2 == ga) = false := beq_eq_false_iff_ne.2 e2
          have BE := Lib.hid (show backK l wi ga (k + 1) = s by rw [BS.out, if_neg (fun q => e2 q.2)])
          clear e1 e2 BS
          go_wp2
          go_roundw
          case rel => exact ⟨k + 1, s, by omega, rfl, by go_num, BE, rfl⟩
          case measure => simp [intOf]; omega
      · have m1 : (x1 == wi) = false := beq_eq_false_iff_ne.2 e1
        have BE := Lib.hid (show backK l wi ga (k + 1) = s by rw [BS.out, if_neg (fun q => e1 q.1)])
        clear e1 BS
        go_wp2
        go_roundw
        case rel => exact ⟨k + 1, s, by omega, rfl, by go_num, BE, rfl⟩
        case measure => simp [intOf]; omega
    · have t0 := hlt
      have hkN : N = k := by omega
      subst hkN
      have SB := hs.out
      rw [BL.out] at SB
      subst SB
      clear hlt hs t0 hk
      clear b5c0 b5c1 b5c2
      obtain ⟨b5c0, b5c1, b5c2⟩ := three K5.out
      obtain ⟨b12c0, b12c1, b12c2⟩ := three K12.out
      obtain ⟨b14c0, b14c1⟩ := twob K14.out
      go_upto_region 18 with (fail)
      clear b5c0 b5c1 b5c2 b12c0 b12c1 b12c2 b14c0 b14c1
      have BKw := Lib.hid (fun (X : World) (h : Below wr.heap.size wr X) => BK.out av cv X (Rv.out.mono h))
      have RTw := Lib.hid (fun (X : World) (h : Below wr.heap.size wr X) => RT.out ad cd X (Rd.out.mono h))
      go_cut [20, 21] from 147 to 159 (fun u20 u21 wx => u21 = .int .i64 0 ∧ ∃ g20 am cm, u20 = .pointer (some ⟨g20, 0, none⟩) ∧ Hid (Blk wx g20 24 #[.int .i64 cap, .int .i64 len, .slice am L2.length cm]) ∧ Hid (RwA wx am L2) ∧ Hid (Below wr.heap.size wr wx))
      case first =>
        clear D2 OB OC OD OX VX SN HP HPw
        go_region_held3 (fun X => (X.cell? ⟨g12, 0, none⟩ = some (.int .i64 cap) ∧ X.cell? ⟨g12, 1, none⟩ = some (.int .i64 len) ∧ X.cell? ⟨g12, 2, none⟩ = some (.slice ad L1.length cd)) ∧ (X.cell? ⟨g14, 0, none⟩ = some (.int .i64 len) ∧ X.cell? ⟨g14, 1, none⟩ = some (.slice av P2.length cv))) (first | with_reducible exact ⟨three K12.out.drew, twob K14.out.drew⟩ | with_reducible exact ⟨three (K12.out.alloc _).drew, twob (K14.out.alloc _).drew⟩ | with_reducible exact ⟨three K12d.out, twob K14d.out⟩ | with_reducible exact ⟨three (K12d.out.alloc _), twob (K14d.out.alloc _)⟩ | with_reducible exact ⟨three K12e.out, twob K14e.out⟩ | with_reducible exact ⟨three (K12e.out.alloc _), twob (K14e.out.alloc _)⟩ | (with_reducible refine ⟨three (((Blk.far (Blk.far (Blk.far K12e.out ?_ _) ?_ _) ?_ _))), twob (((Blk.far (Blk.far (Blk.far K14e.out ?_ _) ?_ _) ?_ _)))⟩ <;> first | (have := K12.out.lt; have := K14.out.lt; have := BW.out.size; show _ ≠ _; simp; omega))) (first | (go_at_call 39; refine (BKw.out _ (by (repeat' (first | (with_reducible exact Below.refl _ _) | (with_reducible assumption) | (with_reducible refine Below.alloc ?_ ?_ _) | (with_reducible refine Below.drew ?_) | (with_reducible refine below_dn ?_) | (with_reducible refine Below.setCell ?_ ?_ _) | (with_reducible exact Nat.le_refl _) | omega | (simp only [World.size_alloc, World.size_setCell, World.size_drew]; omega) | (simp; omega) | (simp; done))))).mono ?_; rintro e wd ⟨rfl, hb⟩; have BW := Lib.hid (show Below wr.heap.size wr wd from by refine Below.trans ?_ (hb.mono ?_) <;> (repeat' (first | (with_reducible exact Below.refl _ _) | (with_reducible assumption) | (with_reducible refine Below.alloc ?_ ?_ _) | (with_reducible refine Below.drew ?_) | (with_reducible refine below_dn ?_) | (with_reducible refine Below.setCell ?_ ?_ _) | (with_reducible exact Nat.le_refl _) | omega | (simp only [World.size_alloc, World.size_setCell, World.size_drew]; omega) | (simp; omega) | (simp; done)))); have K12d := Lib.hid (K12.out.below BW.out K12.out.lt); have K14d := Lib.hid (K14.out.below BW.out K14.out.lt); (try (refine (have OZ : Hid (Blk wd wr.heap.size 24 #[.int .i64 0, .int .i64 0, .slice none 0 0]) := ?hz; ?_); (case hz => exact Lib.hid (((Blk.new _ _ _).drew).below hb (by simp))))); clear hb) | (go_at_call 11; refine (RTw.out _ (by first | exact BW.out | exact BW.out.alloc BW.out.size _)).mono ?_; rintro e we ⟨⟨am, cm, rfl, hr, hf⟩, hb⟩; have HR := Lib.hid hr; have HF := Lib.hid hf; have BV := Lib.hid (show Below wr.heap.size wr we from by refine Below.trans ?_ (hb.mono ?_) <;> first | exact BW.out | exact BW.out.alloc BW.out.size _ | exact BW.out.size | (have := BW.out.size; simp; omega)); have K12e := Lib.hid (K12.out.below BV.out K12.out.lt); have K14e := Lib.hid (K14.out.below BV.out K14.out.lt); (try (refine (have O2 : Hid (Blk we wr.heap.size 24 #[.int .i64 0, .int .i64 0, .slice none 0 0]) := ?hz; ?_); (case hz => exact Lib.hid (OZ.out.below hb OZ.out.lt)); have O20 := O2.out.cell 0; change _ = some (Value.int .i64 0) at O20; have O21 := O2.out.cell 1; change _ = some (Value.int .i64 0) at O21; have O22 := O2.out.cell 2; change _ = some (Value.slice none 0 0) at O22; have O2f := fun q => O2.out.frozen q)); (try (refine (have O3 : Hid (Blk we wd.heap.size 24 #[.int .i64 0, .int .i64 0, .slice none 0 0]) := ?hz; ?_); (case hz => exact Lib.hid ((Blk.new _ _ _).below hb (by simp))); have O30 := O3.out.cell 0; change _ = some (Value.int .i64 0) at O30; have O31 := O3.out.cell 1; change _ = some (Value.int .i64 0) at O31; have O32 := O3.out.cell 2; change _ = some (Value.slice none 0 0) at O32; have O3f := fun q => O3.out.frozen q)); clear hb hr hf))
        all_goals go_wp2_with fail
        all_goals go_meet
        all_goals first
          | exact ⟨rfl, we.heap.size, am, cm, rfl, Lib.hid (Blk.new _ _ _), Lib.hid (HR.out.mono ((Below.refl _ we).alloc (Nat.le_refl _) _)), Lib.hid (BV.out.alloc BV.out.size _)⟩
          | (have e0 : ∀ p, am = some p → p.block ≠ wd.heap.size := fun p hp => by have h1 := HF.out p hp; simp at h1; omega
             have e1 := BW.out.size
             exact ⟨rfl, wd.heap.size, am, cm, rfl, Lib.hid (((O3.out.set_ 0 _).set_ 1 _).set_ 2 _), Lib.hid (RowsA.far (RowsA.far (RowsA.far HR.out (p := ⟨wd.heap.size, 0, none⟩) e0 _) (p := ⟨wd.heap.size, 1, none⟩) e0 _) (p := ⟨wd.heap.size, 2, none⟩) e0 _), Lib.hid (((BV.out.setCell (p := ⟨wd.heap.size, 0, none⟩) e1 _).setCell (p := ⟨wd.heap.size, 1, none⟩) e1 _).setCell (p := ⟨wd.heap.size, 2, none⟩) e1 _)⟩)
          | (have e0 : ∀ p, am = some p → p.block ≠ wr.heap.size := fun p hp => by have h1 := HF.out p hp; have h2 := OZ.out.lt; omega
             have e1 := Nat.le_refl wr.heap.size
             exact ⟨rfl, wr.heap.size, am, cm, rfl, Lib.hid (((O2.out.set_ 0 _).set_ 1 _).set_ 2 _), Lib.hid (RowsA.far (RowsA.far (RowsA.far HR.out (p := ⟨wr.heap.size, 0, none⟩) e0 _) (p := ⟨wr.heap.size, 1, none⟩) e0 _) (p := ⟨wr.heap.size, 2, none⟩) e0 _), Lib.hid (((BV.out.setCell (p := ⟨wr.heap.size, 0, none⟩) e1 _).setCell (p := ⟨wr.heap.size, 1, none⟩) e1 _).setCell (p := ⟨wr.heap.size, 2, none⟩) e1 _)⟩)
      obtain ⟨rfl, g20, am, cm, rfl, K20, Rm, BZ⟩ := hcut
      replace K5 := Lib.hid (K5.out.below BZ.out K5.out.lt)
      replace K12 := Lib.hid (K12.out.below BZ.out K12.out.lt)
      replace Rd := Lib.hid (Rd.out.mono BZ.out)
      replace B := Lib.hid (B.out.trans (BZ.out.mono B.out.size))
      clear BZ BKw RTw BK RT K14 Rv HPw
      obtain ⟨b5c0, b5c1, b5c2⟩ := three K5.out
      obtain ⟨b12c0, b12c1, b12c2⟩ := three K12.out
      obtain ⟨b20c0, b20c1, b20c2⟩ := three K20.out
      go_wp2_with fail
      refine (D2.out am cm wc Rm.out).mono ?_
      rintro e w1 ⟨⟨aq, cq, rfl, hr, hf⟩, hb⟩
      replace K5 := Lib.hid (K5.out.below hb K5.out.lt)
      replace K12 := Lib.hid (K12.out.below hb K12.out.lt)
      replace K20 := Lib.hid (K20.out.below hb K20.out.lt)
      replace Rd := Lib.hid (Rd.out.mono hb)
      replace Rm := Lib.hid (Rm.out.mono hb)
      replace B := Lib.hid (B.out.trans (hb.mono B.out.size))
      have Rq := Lib.hid hr
      have Fq := Lib.hid hf
      clear hb hr hf
      clear b5c0 b5c1 b5c2 b12c0 b12c1 b12c2 b20c0 b20c1 b20c2
      clear Fq D2
      obtain ⟨b5c0, b5c1, b5c2⟩ := three K5.out
      obtain ⟨b12c0, b12c1, b12c2⟩ := three K12.out
      obtain ⟨b20c0, b20c1, b20c2⟩ := three K20.out
      obtain ⟨g22, hg22⟩ : ∃ G, w1.heap.size = G := ⟨_, rfl⟩
      have K22 := Lib.hid (show Blk (w1.alloc (.cells #[.int .i64 cap, .int .i64 len, .slice aq L3.length cq] 24)) g22 24 #[.int .i64 cap, .int .i64 len, .slice aq L3.length cq] from Blk.new' w1 _ _ _ hg22 rfl)
      have N522 := Lib.hid (show g5 < g22 from by rw [← hg22]; exact K5.out.lt)
      replace K5 := Lib.hid (K5.out.alloc (.cells #[.int .i64 cap, .int .i64 len, .slice aq L3.length cq] 24))
      have N1222 := Lib.hid (show g12 < g22 from by rw [← hg22]; exact K12.out.lt)
      replace K12 := Lib.hid (K12.out.alloc (.cells #[.int .i64 cap, .int .i64 len, .slice aq L3.length cq] 24))
      have N2022 := Lib.hid (show g20 < g22 from by rw [← hg22]; exact K20.out.lt)
      replace K20 := Lib.hid (K20.out.alloc (.cells #[.int .i64 cap, .int .i64 len, .slice aq L3.length cq] 24))
      replace Rd := Lib.hid (Rd.out.mono ((Below.refl _ w1).alloc (Nat.le_refl _) (.cells #[.int .i64 cap, .int .i64 len, .slice aq L3.length cq] 24)))
      replace Rm := Lib.hid (Rm.out.mono ((Below.refl _ w1).alloc (Nat.le_refl _) (.cells #[.int .i64 cap, .int .i64 len, .slice aq L3.length cq] 24)))
      replace Rq := Lib.hid (Rq.out.mono ((Below.refl _ w1).alloc (Nat.le_refl _) (.cells #[.int .i64 cap, .int .i64 len, .slice aq L3.length cq] 24)))
      replace B := Lib.hid (B.out.alloc B.out.size (.cells #[.int .i64 cap, .int .i64 len, .slice aq L3.length cq] 24))
      have S22 := Lib.hid hg22
      go_upto_region 20 with (fail)
      try rw [hg22]
      generalize hw : w1.alloc (.cells #[.int .i64 cap, .int .i64 len, .slice aq L3.length cq] 24) = w2 at K5 K12 K20 K22 Rd Rm Rq B ⊢
      clear hw hg22
      clear b5c0 b5c1 b5c2 b12c0 b12c1 b12c2 b20c0 b20c1 b20c2
      have K5d := Lib.hid K5.out.drew
      have K12d := Lib.hid K12.out.drew
      have K20d := Lib.hid K20.out.drew
      have K22d := Lib.hid K22.out.drew
      have BW := Lib.hid (show Below w2.heap.size w2 w2.drew from (Below.refl _ _).drew)
      have HPd := Lib.hid (HP.out.mono B.out)
      have y1 : (o == o) = true := beq_self_eq_true o
      have y2 : (on == on) = true := beq_self_eq_true on
      go_region_held3 (fun X => (X.cell? ⟨g5, 0, none⟩ = some (.int .i64 cap) ∧ X.cell? ⟨g5, 1, none⟩ = some (.int .i64 len) ∧ X.cell? ⟨g5, 2, none⟩ = some (.slice ab N cb)) ∧ (X.cell? ⟨g12, 0, none⟩ = some (.int .i64 cap) ∧ X.cell? ⟨g12, 1, none⟩ = some (.int .i64 len) ∧ X.cell? ⟨g12, 2, none⟩ = some (.slice ad L1.length cd)) ∧ (X.cell? ⟨g20, 0, none⟩ = some (.int .i64 cap) ∧ X.cell? ⟨g20, 1, none⟩ = some (.int .i64 len) ∧ X.cell? ⟨g20, 2, none⟩ = some (.slice am L2.length cm)) ∧ (X.cell? ⟨g22, 0, none⟩ = some (.int .i64 cap) ∧ X.cell? ⟨g22, 1, none⟩ = some (.int .i64 len) ∧ X.cell? ⟨g22, 2, none⟩ = some (.slice aq L3.length cq))) (first | with_reducible exact ⟨three K5d.out, three K12d.out, three K20d.out, three K22d.out⟩) (first | (go_at_call 8; with_reducible refine (SN.out _).mono ?_; rintro e wd ⟨rfl, hb⟩; replace K5d := Lib.hid (K5d.out.below hb K5d.out.lt); replace K12d := Lib.hid (K12d.out.below hb K12d.out.lt); replace K20d := Lib.hid (K20d.out.below hb K20d.out.lt); replace K22d := Lib.hid (K22d.out.below hb K22d.out.lt); replace BW := Lib.hid (BW.out.trans (hb.mono BW.out.size)); clear hb) | (go_at_call 22; with_reducible refine (OD.out _ _ _ (Rm.out.mono BW.out)).mono ?_; rintro e wd ⟨rfl, hb⟩; replace K5d := Lib.hid (K5d.out.below hb K5d.out.lt); replace K12d := Lib.hid (K12d.out.below hb K12d.out.lt); replace K20d := Lib.hid (K20d.out.below hb K20d.out.lt); replace K22d := Lib.hid (K22d.out.below hb K22d.out.lt); replace BW := Lib.hid (BW.out.trans (hb.mono BW.out.size)); clear hb) | (go_at_call 22; with_reducible refine (OC.out _ _ _ (Rd.out.mono BW.out)).mono ?_; rintro e wd ⟨rfl, hb⟩; replace K5d := Lib.hid (K5d.out.below hb K5d.out.lt); replace K12d := Lib.hid (K12d.out.below hb K12d.out.lt); replace K20d := Lib.hid (K20d.out.below hb K20d.out.lt); replace K22d := Lib.hid (K22d.out.below hb K22d.out.lt); replace BW := Lib.hid (BW.out.trans (hb.mono BW.out.size)); clear hb) | (go_at_call 22; with_reducible refine (OX.out _ _ _ (Rq.out.mono BW.out)).mono ?_; rintro e wd ⟨rfl, hb⟩; replace K5d := Lib.hid (K5d.out.below hb K5d.out.lt); replace K12d := Lib.hid (K12d.out.below hb K12d.out.lt); replace K20d := Lib.hid (K20d.out.below hb K20d.out.lt); replace K22d := Lib.hid (K22d.out.below hb K22d.out.lt); replace BW := Lib.hid (BW.out.trans (hb.mono BW.out.size)); clear hb) | (go_at_call 22; with_reducible refine (OB.out _ (HPd.out.mono BW.out)).mono ?_; rintro e wd ⟨rfl, hb⟩; replace K5d := Lib.hid (K5d.out.below hb K5d.out.lt); replace K12d := Lib.hid (K12d.out.below hb K12d.out.lt); replace K20d := Lib.hid (K20d.out.below hb K20d.out.lt); replace K22d := Lib.hid (K22d.out.below hb K22d.out.lt); replace BW := Lib.hid (BW.out.trans (hb.mono BW.out.size)); clear hb) | (go_at_call 17; with_reducible refine (VX.out _ _ _ (Rq.out.mono BW.out)).mono ?_; rintro e wd ⟨rfl, hb⟩; replace K5d := Lib.hid (K5d.out.below hb K5d.out.lt); replace K12d := Lib.hid (K12d.out.below hb K12d.out.lt); replace K20d := Lib.hid (K20d.out.below hb K20d.out.lt); replace K22d := Lib.hid (K22d.out.below hb K22d.out.lt); replace BW := Lib.hid (BW.out.trans (hb.mono BW.out.size)); clear hb))
      all_goals go_wp2
      all_goals
        refine bodyPost_ret (by simp [results, Try.results7, go_sem]; try rfl) rfl ?_
        exact ⟨rfl, B.out.trans (BW.out.mono B.out.size)⟩
theorem law7 (cap len : Int) (ab : Option Addr) (cb : Nat) (l : List Rw) (wi ga oth n : Int) (w : World) (hp : RwA w ab l) : Calls Try.prog 7 #[.agg #[.int .i64 cap, .int .i64 len, .slice ab l.length cb], .int .i64 wi, .int .i64 ga, .int .i64 oth, .int .i64 n] w fun e w' => e = .returned (.bool true) ∧ Below w.heap.size w w' := by
  rcases Nat.lt_or_ge 40 l.length with h | h
  · exact law_many cap len ab cb l wi ga oth n w hp h
  by_cases hx : 549755813888 < dealtB cap len l wi oth
  · exact law_much cap len ab cb l wi ga oth n w hp h hx
  by_cases ho : oth < 1
  · exact law_low cap len ab cb l wi ga oth n w hp h hx ho
  by_cases h2 : 1073741824 < oth
  · exact law_high cap len ab cb l wi ga oth n w hp h hx ho h2
  have hg : gateOk oth := ⟨by omega, by omega⟩
  by_cases hd : dealP cap len l wi ga n
  · exact law_good cap len ab cb l wi ga oth n w hp h (by omega) hg hd
  · exact law_fails cap len ab cb l wi ga oth n w hp h (by omega) hg hd
end Go.Proofs.Ytcgdhankllphgaa
