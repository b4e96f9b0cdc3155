import Derived.Test.YtcgdhankllphgaaRVP
import Derived.Test.YtcgdhankllphgaaRM2
namespace Go.Proofs.Ytcgdhankllphgaa
set_option linter.unusedVariables false
set_option linter.unusedSimpArgs false
set_option linter.unusedSectionVars false
open Go.RowKit
set_option maxRecDepth 100000 in
set_option maxHeartbeats 400000 in
theorem findc_any (a : Option Addr) (cap : Nat) (l : List Rw) (y : Rw) (w : World) (hp : RwA w a l) (hm : l.length ≤ 1000000) :
    Calls Try.prog 84 #[.slice a l.length cap, .agg (encR y).toArray, .func (.func 85) #[] #[]] w fun e w' => Found (cW y.1) l e ∧ Below w.heap.size w w' := by
  have HP := Lib.hid hp
  have C := Lib.hid (fun (X : World) (h : RwA X a l) => show Calls Try.prog _ _ X fun e w' => Found (cW y.1) l e ∧ Below X.heap.size X w' from Co.search_any a cap l y X h hm)
  obtain ⟨N, hN⟩ : ∃ N, l.length = N := ⟨_, rfl⟩
  simp only [hN] at C
  rw [hN]
  obtain ⟨y1, y2, y3, y4⟩ := y
  simp only [encR] at C ⊢
  clear hp hN hm
  go_enter Try.func84, Try.ntmps84
  go_wp2_with fail
  refine (C.out _ (HP.out.mono (by (repeat' (first | (with_reducible exact Below.refl _ _) | (with_reducible assumption) | (with_reducible refine Below.alloc ?_ ?_ _) | (with_reducible refine Below.drew ?_) | (with_reducible refine below_dn ?_) | (with_reducible refine Below.setCell ?_ ?_ _) | (with_reducible exact Nat.le_refl _) | omega | (simp only [World.size_alloc, World.size_setCell, World.size_drew]; omega) | (simp; omega) | (simp; done)))))).mono ?_
  rintro e w1 ⟨hf, hb⟩
  obtain ⟨i, f, rfl, H0⟩ := hf.tell
  have H := Lib.hid H0
  have B := Lib.hid (bt (show Below w.heap.size w (w.alloc (.cells #[.int .i64 y1, .int .i64 y2, .int .i64 y3, .int .i64 y4] 89)) by (repeat' (first | (with_reducible exact Below.refl _ _) | (with_reducible assumption) | (with_reducible refine Below.alloc ?_ ?_ _) | (with_reducible refine Below.drew ?_) | (with_reducible refine below_dn ?_) | (with_reducible refine Below.setCell ?_ ?_ _) | (with_reducible exact Nat.le_refl _) | omega | (simp only [World.size_alloc, World.size_setCell, World.size_drew]; omega) | (simp; omega) | (simp; done)))) hb)
  clear hb hf H0
  go_wp2
  refine bodyPost_ret (by simp [results, Try.results84, go_sem]; try rfl) rfl ?_
  exact ⟨H.out, B.out⟩
set_option maxRecDepth 100000 in
set_option maxHeartbeats 400000 in
theorem place_any (len : Int) (a : Option Addr) (c : Nat) (l : List Rw) (wi : Int) (w : World) (hp : RwA w a l) (hm : l.length ≤ 1000000) :
    Calls Try.prog 76 #[.agg #[.int .i64 len, .slice a l.length c], .int .i64 wi] w fun e w' => Found (cW wi) l e ∧ Below w.heap.size w w' := by
  have HP := Lib.hid hp
  have C := Lib.hid (fun (X : World) (h : RwA X a l) => findc_any a c l (wi, 0, 0, 0) X h hm)
  obtain ⟨N, hN⟩ : ∃ N, l.length = N := ⟨_, rfl⟩
  simp only [hN, encR] at C
  rw [hN]
  clear hp hN hm
  go_enter Try.func76, Try.ntmps76
  go_wp2_with fail
  refine (C.out _ (HP.out.mono (by (repeat' (first | (with_reducible exact Below.refl _ _) | (with_reducible assumption) | (with_reducible refine Below.alloc ?_ ?_ _) | (with_reducible refine Below.drew ?_) | (with_reducible refine below_dn ?_) | (with_reducible refine Below.setCell ?_ ?_ _) | (with_reducible exact Nat.le_refl _) | omega | (simp only [World.size_alloc, World.size_setCell, World.size_drew]; omega) | (simp; omega) | (simp; done)))))).mono ?_
  rintro e w1 ⟨hf, hb⟩
  obtain ⟨i, f, rfl, H0⟩ := hf.tell
  have H := Lib.hid H0
  have B := Lib.hid (bt (show Below w.heap.size w (w.alloc (.cells #[.int .i64 len, .slice a N c] 45)) by (repeat' (first | (with_reducible exact Below.refl _ _) | (with_reducible assumption) | (with_reducible refine Below.alloc ?_ ?_ _) | (with_reducible refine Below.drew ?_) | (with_reducible refine below_dn ?_) | (with_reducible refine Below.setCell ?_ ?_ _) | (with_reducible exact Nat.le_refl _) | omega | (simp only [World.size_alloc, World.size_setCell, World.size_drew]; omega) | (simp; omega) | (simp; done)))) hb)
  clear hb hf H0
  go_wp2
  refine bodyPost_ret (by simp [results, Try.results76, go_sem]; try rfl) rfl ?_
  exact ⟨H.out, B.out⟩

theorem Blk.set2 {X : World} {o : Nat} {t : TypeId} {a0 a1 : Value} (h : Blk X o t #[a0, a1]) (u0 u1 : Value) : Blk ((X.setCell ⟨o, 0, none⟩ u0).setCell ⟨o, 1, none⟩ u1) o t #[u0, u1] := (h.set_ 0 u0).set_ 1 u1
theorem Blk.setR {X : World} {o : Nat} {t : TypeId} {a0 a1 a2 a3 : Value} (h : Blk X o t #[a0, a1, a2, a3]) (u0 u1 u2 u3 : Value) : Blk ((((X.setCell ⟨o, 0, none⟩ u0).setCell ⟨o, 1, none⟩ u1).setCell ⟨o, 2, none⟩ u2).setCell ⟨o, 3, none⟩ u3) o t #[u0, u1, u2, u3] := (((h.set_ 0 u0).set_ 1 u1).set_ 2 u2).set_ 3 u3
theorem below_setR {X w : World} {B o : Nat} (h : Below B w X) (hn : B ≤ o) (u0 u1 u2 u3 : Value) : Below B w ((((X.setCell ⟨o, 0, none⟩ u0).setCell ⟨o, 1, none⟩ u1).setCell ⟨o, 2, none⟩ u2).setCell ⟨o, 3, none⟩ u3) := (((h.setCell hn u0).setCell hn u1).setCell hn u2).setCell hn u3
set_option maxRecDepth 100000 in
set_option maxHeartbeats 1000000 in
theorem coin_any (len : Int) (a : Option Addr) (c : Nat) (l : List Rw) (wi : Int) (w : World) (hp : RwA w a l) (ok : OkP len l) :
    Calls Try.prog 61 #[.agg #[.int .i64 len, .slice a l.length c], .int .i64 wi] w fun e w' => e = .returned (.agg (encR (coinL l wi)).toArray) ∧ Below w.heap.size w w' := by
  have HP := Lib.hid hp
  have hm := ok.head.2
  have R := Lib.hid (fun (X : World) (h : RwA X a l) => place_any len a c l wi X h (by omega))
  have FV := Lib.hid (fun (i : Nat) (f : Bool) (h : Found (cW wi) l (.returned (.tuple #[.int .i64 i, .bool f]))) => (h.val.2.2 (ok.ord.mono wi) : i = posC (cW wi) l ∧ f = hasC (cW wi) l))
  have FL := Lib.hid (fun (i : Nat) (f : Bool) (h : Found (cW wi) l (.returned (.tuple #[.int .i64 i, .bool f]))) => h.val.2.1)
  have HC := Lib.hid (show coinL l wi = if hasC (cW wi) l = true then l.getD (posC (cW wi) l) r0 else (wi, 0, 0, 0) from rfl)
  obtain ⟨N, hN⟩ : ∃ N, l.length = N := ⟨_, rfl⟩
  have HE := Lib.hid hN
  simp only [hN] at R FL
  rw [hN] at hm ⊢
  clear hp hN ok
  go_enter Try.func61, Try.ntmps61
  go_wp2_with fail
  refine (R.out _ (HP.out.mono (by (repeat' (first | (with_reducible exact Below.refl _ _) | (with_reducible assumption) | (with_reducible refine Below.alloc ?_ ?_ _) | (with_reducible refine Below.drew ?_) | (with_reducible refine below_dn ?_) | (with_reducible refine Below.setCell ?_ ?_ _) | (with_reducible exact Nat.le_refl _) | omega | (simp only [World.size_alloc, World.size_setCell, World.size_drew]; omega) | (simp; omega) | (simp; done)))))).mono ?_
  rintro e w1 ⟨hf, hb⟩
  obtain ⟨i, f, rfl, H0⟩ := hf.tell
  have V := Lib.hid (FV.out i f H0)
  have fl := FL.out i f H0
  have K1 := Lib.hid (show Blk w1 w.heap.size 45 #[.int .i64 len, .slice a N c] from ((Blk.new' w _ _ _ rfl rfl).alloc _).below hb (by simp; omega))
  have K2 := Lib.hid (show Blk w1 (w.heap.size + 1) 89 #[.int .i64 0, .int .i64 0, .int .i64 0, .int .i64 0] from (Blk.new' _ _ _ _ (World.size_alloc _ _) rfl).below hb (by simp))
  have B := Lib.hid (bt (show Below w.heap.size w ((w.alloc (.cells #[.int .i64 len, .slice a N c] 45)).alloc (.cells #[.int .i64 0, .int .i64 0, .int .i64 0, .int .i64 0] 89)) by (repeat' (first | (with_reducible exact Below.refl _ _) | (with_reducible assumption) | (with_reducible refine Below.alloc ?_ ?_ _) | (with_reducible refine Below.drew ?_) | (with_reducible refine below_dn ?_) | (with_reducible refine Below.setCell ?_ ?_ _) | (with_reducible exact Nat.le_refl _) | omega | (simp only [World.size_alloc, World.size_setCell, World.size_drew]; omega) | (simp; omega) | (simp; done)))) hb)
  clear hb hf H0 R FV FL
  obtain ⟨d0, d1⟩ := twob K1.out
  obtain ⟨h0, h1, h2, h3⟩ := four K2.out
  have fz := fun q => K2.out.frozen q
  cases f
  · have EQ := Lib.hid (show coinL l wi = (wi, 0, 0, 0) by rw [HC.out, ← V.out.2, if_neg (by simp)])
    clear fl
    go_wp2
    have K3 := Lib.hid (K2.out.setR (.int .i64 wi) (.int .i64 0) (.int .i64 0) (.int .i64 0))
    have B3 := Lib.hid (below_setR B.out (Nat.le_succ _) (.int .i64 wi) (.int .i64 0) (.int .i64 0) (.int .i64 0))
    generalize hw2 : (((w1.setCell ⟨w.heap.size + 1, 0, none⟩ (.int .i64 wi)).setCell ⟨w.heap.size + 1, 1, none⟩ (.int .i64 0)).setCell ⟨w.heap.size + 1, 2, none⟩ (.int .i64 0)).setCell ⟨w.heap.size + 1, 3, none⟩ (.int .i64 0) = w2 at K3 B3 ⊢
    clear hw2 d0 d1 h0 h1 h2 h3 fz
    obtain ⟨d0, d1, d2, d3⟩ := four K3.out
    refine bodyPost_ret (by simp [results, Try.results61, go_sem, d0, d1, d2, d3]; try rfl) rfl ?_
    exact ⟨by rw [EQ.out]; rfl, B3.out⟩
  · have hi := fl rfl
    obtain ⟨b, off, rfl, q0, q1, q2, q3⟩ := RwA.at_ (HP.out.mono B.out) (k := i) (by rw [HE.out]; exact hi)
    obtain ⟨x, hx⟩ : ∃ y, l.getD i r0 = y := ⟨_, rfl⟩
    have EQ := Lib.hid (show coinL l wi = x by rw [HC.out, ← V.out.2, ← V.out.1, if_pos rfl, hx])
    rw [hx] at q0 q1 q2 q3
    obtain ⟨x1, x2, x3, x4⟩ := x
    simp only at q0 q1 q2 q3
    have i0 : (0 : Int) ≤ (i : Int) := by omega
    have iN : (i : Int) < (N : Int) := by omega
    clear fl hx
    go_wp2
    have K3 := Lib.hid (K2.out.setR (.int .i64 x1) (.int .i64 x2) (.int .i64 x3) (.int .i64 x4))
    have B3 := Lib.hid (below_setR B.out (Nat.le_succ _) (.int .i64 x1) (.int .i64 x2) (.int .i64 x3) (.int .i64 x4))
    generalize hw2 : (((w1.setCell ⟨w.heap.size + 1, 0, none⟩ (.int .i64 x1)).setCell ⟨w.heap.size + 1, 1, none⟩ (.int .i64 x2)).setCell ⟨w.heap.size + 1, 2, none⟩ (.int .i64 x3)).setCell ⟨w.heap.size + 1, 3, none⟩ (.int .i64 x4) = w2 at K3 B3 ⊢
    clear hw2 d0 d1 h0 h1 h2 h3 fz
    obtain ⟨d0, d1, d2, d3⟩ := four K3.out
    refine bodyPost_ret (by simp [results, Try.results61, go_sem, d0, d1, d2, d3]; try rfl) rfl ?_
    exact ⟨by rw [EQ.out]; rfl, B3.out⟩
def leftX (x : Rw) : Int := x.2.1 - x.2.2.1 - x.2.2.2
theorem left_any (x : Rw) (w : World) (h2 : 0 ≤ x.2.1 ∧ x.2.1 ≤ 1099511627776) (h3 : 0 ≤ x.2.2.1 ∧ x.2.2.1 ≤ x.2.1) (h4 : 0 ≤ x.2.2.2 ∧ x.2.2.2 ≤ x.2.1 - x.2.2.1) :
    Calls Try.prog 63 #[.agg (encR x).toArray] w fun e w' => e = .returned (.int .i64 (leftX x)) ∧ Below w.heap.size w w' := by
  obtain ⟨x1, x2, x3, x4⟩ := x
  simp only [encR, leftX] at h2 h3 h4 ⊢
  have w1 : IntKind.i64.wrap (x2 - x3) = x2 - x3 := by rw [IntKind.wrap_i64]; omega
  have w2 : IntKind.i64.wrap (x2 - x3 - x4) = x2 - x3 - x4 := by rw [IntKind.wrap_i64]; omega
  go_enter Try.func63, Try.ntmps63
  go_wp2
  go_ret
  exact ⟨rfl, by (repeat' (first | (with_reducible exact Below.refl _ _) | (with_reducible assumption) | (with_reducible refine Below.alloc ?_ ?_ _) | (with_reducible refine Below.drew ?_) | (with_reducible refine below_dn ?_) | (with_reducible refine Below.setCell ?_ ?_ _) | (with_reducible exact Nat.le_refl _) | omega | (simp only [World.size_alloc, World.size_setCell, World.size_drew]; omega) | (simp; omega) | (simp; done)))⟩
theorem coinL_ok {len : Int} {l : List Rw} (ok : OkP len l) (wi : Int) : (0 ≤ (coinL l wi).2.1 ∧ (coinL l wi).2.1 ≤ 1099511627776) ∧ (0 ≤ (coinL l wi).2.2.1 ∧ (coinL l wi).2.2.1 ≤ (coinL l wi).2.1) ∧ 0 ≤ (coinL l wi).2.2.2 ∧ (coinL l wi).2.2.2 ≤ (coinL l wi).2.1 - (coinL l wi).2.2.1 := by
  unfold coinL
  split
  · rename_i h
    have h1 := ok.rows _ ((hasC_iff _ _).1 h).1
    unfold coinOk at h1
    exact ⟨h1.2.2.1, h1.2.2.2.1, h1.2.2.2.2⟩
  · simp
theorem coinL_w {l : List Rw} (wi : Int) : (coinL l wi).1 = wi := by
  unfold coinL
  split
  · rename_i h
    exact cW_zero.1 ((hasC_iff _ _).1 h).2
  · rfl
set_option maxRecDepth 100000 in
set_option maxHeartbeats 1000000 in
theorem leftp_any (len : Int) (a : Option Addr) (c : Nat) (l : List Rw) (wi : Int) (w : World) (hp : RwA w a l) (ok : OkP len l) :
    Calls Try.prog 37 #[.agg #[.int .i64 len, .slice a l.length c], .int .i64 wi] w fun e w' => e = .returned (.int .i64 (leftX (coinL l wi))) ∧ Below w.heap.size w w' := by
  have HP := Lib.hid hp
  have C := Lib.hid (fun (X : World) (h : RwA X a l) => validp_yes ok a c X h)
  have CO := Lib.hid (fun (X : World) (h : RwA X a l) => coin_any len a c l wi X h ok)
  have LF := Lib.hid (fun (X : World) => left_any (coinL l wi) X (coinL_ok ok wi).1 (coinL_ok ok wi).2.1 (coinL_ok ok wi).2.2)
  obtain ⟨N, hN⟩ : ∃ N, l.length = N := ⟨_, rfl⟩
  simp only [hN] at C CO
  rw [hN]
  obtain ⟨x, hx⟩ : ∃ x, coinL l wi = x := ⟨_, rfl⟩
  rw [hx] at CO LF ⊢
  obtain ⟨r, hr⟩ : ∃ r, leftX x = r := ⟨_, rfl⟩
  rw [hr] at LF ⊢
  obtain ⟨x1, x2, x3, x4⟩ := x
  simp only [encR] at CO LF
  clear hp ok hN hx hr
  go_enter Try.func37, Try.ntmps37
  go_wp2_with fail
  refine (C.out _ (HP.out.mono (by (repeat' (first | (with_reducible exact Below.refl _ _) | (with_reducible assumption) | (with_reducible refine Below.alloc ?_ ?_ _) | (with_reducible refine Below.drew ?_) | (with_reducible refine below_dn ?_) | (with_reducible refine Below.setCell ?_ ?_ _) | (with_reducible exact Nat.le_refl _) | omega | (simp only [World.size_alloc, World.size_setCell, World.size_drew]; omega) | (simp; omega) | (simp; done)))))).mono ?_
  rintro e w1 ⟨rfl, hb⟩
  have K1 := Lib.hid (show Blk w1 w.heap.size 45 #[.int .i64 len, .slice a N c] from (Blk.new' w _ _ _ rfl rfl).below hb (by simp))
  have B := Lib.hid (bt (show Below w.heap.size w (w.alloc (.cells #[.int .i64 len, .slice a N c] 45)) by (repeat' (first | (with_reducible exact Below.refl _ _) | (with_reducible assumption) | (with_reducible refine Below.alloc ?_ ?_ _) | (with_reducible refine Below.drew ?_) | (with_reducible refine below_dn ?_) | (with_reducible refine Below.setCell ?_ ?_ _) | (with_reducible exact Nat.le_refl _) | omega | (simp only [World.size_alloc, World.size_setCell, World.size_drew]; omega) | (simp; omega) | (simp; done)))) hb)
  clear hb
  obtain ⟨d0, d1⟩ := twob K1.out
  go_wp2_with fail
  refine (CO.out _ (HP.out.mono B.out)).mono ?_
  rintro e w2 ⟨rfl, hb⟩
  replace B := Lib.hid (bt B.out hb)
  clear hb d0 d1
  go_wp2_with fail
  refine (LF.out _).mono ?_
  rintro e w3 ⟨rfl, hb⟩
  replace B := Lib.hid (bt B.out hb)
  clear hb
  go_wp2
  go_ret
  exact ⟨rfl, B.out⟩
set_option maxRecDepth 100000 in
set_option maxHeartbeats 1000000 in
theorem backp_any (len : Int) (a : Option Addr) (c : Nat) (l : List Rw) (wi : Int) (w : World) (hp : RwA w a l) (ok : OkP len l) :
    Calls Try.prog 39 #[.agg #[.int .i64 len, .slice a l.length c], .int .i64 wi] w fun e w' => e = .returned (.int .i64 (coinL l wi).2.2.2) ∧ Below w.heap.size w w' := by
  have HP := Lib.hid hp
  have C := Lib.hid (fun (X : World) (h : RwA X a l) => validp_yes ok a c X h)
  have CO := Lib.hid (fun (X : World) (h : RwA X a l) => coin_any len a c l wi X h ok)
  obtain ⟨N, hN⟩ : ∃ N, l.length = N := ⟨_, rfl⟩
  simp only [hN] at C CO
  rw [hN]
  obtain ⟨x, hx⟩ : ∃ x, coinL l wi = x := ⟨_, rfl⟩
  rw [hx] at CO ⊢
  obtain ⟨x1, x2, x3, x4⟩ := x
  simp only [encR] at CO ⊢
  clear hp ok hN hx
  have hf : ∀ W : World, (Instr.field 89 (.agg #[.int .i64 x1, .int .i64 x2, .int .i64 x3, .int .i64 x4]) 3).run Try.prog W = .ok (.int .i64 x4) W := fun _ => rfl
  go_enter Try.func39, Try.ntmps39
  go_wp2_with fail
  refine (C.out _ (HP.out.mono (by (repeat' (first | (with_reducible exact Below.refl _ _) | (with_reducible assumption) | (with_reducible refine Below.alloc ?_ ?_ _) | (with_reducible refine Below.drew ?_) | (with_reducible refine below_dn ?_) | (with_reducible refine Below.setCell ?_ ?_ _) | (with_reducible exact Nat.le_refl _) | omega | (simp only [World.size_alloc, World.size_setCell, World.size_drew]; omega) | (simp; omega) | (simp; done)))))).mono ?_
  rintro e w1 ⟨rfl, hb⟩
  have K1 := Lib.hid (show Blk w1 w.heap.size 45 #[.int .i64 len, .slice a N c] from (Blk.new' w _ _ _ rfl rfl).below hb (by simp))
  have B := Lib.hid (bt (show Below w.heap.size w (w.alloc (.cells #[.int .i64 len, .slice a N c] 45)) by (repeat' (first | (with_reducible exact Below.refl _ _) | (with_reducible assumption) | (with_reducible refine Below.alloc ?_ ?_ _) | (with_reducible refine Below.drew ?_) | (with_reducible refine below_dn ?_) | (with_reducible refine Below.setCell ?_ ?_ _) | (with_reducible exact Nat.le_refl _) | omega | (simp only [World.size_alloc, World.size_setCell, World.size_drew]; omega) | (simp; omega) | (simp; done)))) hb)
  clear hb
  obtain ⟨d0, d1⟩ := twob K1.out
  go_wp2_with fail
  refine (CO.out _ (HP.out.mono B.out)).mono ?_
  rintro e w2 ⟨rfl, hb⟩
  replace B := Lib.hid (bt B.out hb)
  clear hb d0 d1
  go_wp2
  go_ret
  exact ⟨rfl, B.out⟩
set_option maxRecDepth 100000 in
set_option maxHeartbeats 400000 in
theorem newpurse_yes (len : Int) (w : World) (ok : OkP len []) :
    Calls Try.prog 24 #[.int .i64 len] w fun e w' => e = .returned (.tuple #[.agg #[.int .i64 len, .slice none 0 0], .int .i64 0]) ∧ Below w.heap.size w w' := by
  have C := Lib.hid (fun X : World => validp_yes ok none 0 X (RowsA.nil _ _ _ _))
  simp only [List.length_nil] at C
  clear ok
  go_enter Try.func24, Try.ntmps24
  go_wp2_with fail
  refine (C.out _).mono ?_
  rintro e w1 ⟨rfl, hb⟩
  have K1 := Lib.hid (show Blk w1 w.heap.size 45 #[.int .i64 0, .slice none 0 0] from ((Blk.new' w _ _ _ rfl rfl).alloc _).below hb (by simp; omega))
  have K2 := Lib.hid (show Blk w1 (w.heap.size + 1) 45 #[.int .i64 len, .slice none 0 0] from (Blk.new' _ _ _ _ (World.size_alloc _ _) rfl).below hb (by simp))
  have B := Lib.hid (bt (show Below w.heap.size w ((w.alloc (.cells #[.int .i64 0, .slice none 0 0] 45)).alloc (.cells #[.int .i64 len, .slice none 0 0] 45)) by (repeat' (first | (with_reducible exact Below.refl _ _) | (with_reducible assumption) | (with_reducible refine Below.alloc ?_ ?_ _) | (with_reducible refine Below.drew ?_) | (with_reducible refine below_dn ?_) | (with_reducible refine Below.setCell ?_ ?_ _) | (with_reducible exact Nat.le_refl _) | omega | (simp only [World.size_alloc, World.size_setCell, World.size_drew]; omega) | (simp; omega) | (simp; done)))) hb)
  obtain ⟨d0, d1⟩ := twob K1.out
  obtain ⟨h0, h1⟩ := twob K2.out
  have fz := fun q => K1.out.frozen q
  clear hb C
  go_wp2
  have K3 := Lib.hid (K1.out.set2 (.int .i64 len) (.slice none 0 0))
  have B3 := Lib.hid ((B.out.setCell (p := ⟨w.heap.size, 0, none⟩) (Nat.le_refl _) (.int .i64 len)).setCell (p := ⟨w.heap.size, 1, none⟩) (Nat.le_refl _) (.slice none 0 0))
  generalize hw2 : (w1.setCell ⟨w.heap.size, 0, none⟩ (.int .i64 len)).setCell ⟨w.heap.size, 1, none⟩ (.slice none 0 0) = w2 at K3 B3 ⊢
  clear hw2 d0 d1 h0 h1 fz K1 K2 B
  obtain ⟨d0, d1⟩ := twob K3.out
  refine bodyPost_ret (by simp [results, Try.results24, go_sem, d0, d1]; try rfl) rfl ?_
  exact ⟨rfl, B3.out⟩
end Go.Proofs.Ytcgdhankllphgaa
