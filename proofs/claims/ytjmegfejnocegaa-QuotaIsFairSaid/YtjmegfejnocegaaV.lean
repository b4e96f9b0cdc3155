/- Contracts: Victim where it divides. -/
import Derived.Test.YtjmegfejnocegaaU
namespace Go.Proofs.Ytjmegfejnocegaa
set_option linter.unusedVariables false
set_option linter.unusedSimpArgs false
open Go.RowKit Go.Shelf
attribute [local go_sem] Oper.semAt_some
theorem RowI.put {X : World} {g : Nat} {l : List Int} (h : RowI X g l) (i : Nat) (o : Obj) (hl : g ≠ i) : RowI (X.putObj i o) g l := by obtain ⟨cs, h, h1⟩ := h; exact ⟨cs, h.put i o hl, h1⟩
/-- What lies in memory between two rounds of Victim. -/
structure MidV (w0 : World) (s sv sm sl so g N cap p : Nat) (a : Option Addr) (gs : List Int) (f : Nat → Int × Int) (k : Nat) (X : World) : Prop where
  bg : Blk X s 23 #[.slice (some ⟨g, 0, none⟩) N N]
  bv : Blk X sv 3 #[.int .i64 (f k).1]
  bm : Blk X sm 3 #[.int .i64 (f k).2]
  bl : Blk X sl 35 #[.slice a N cap]
  bo : Blk X so 3 #[.int .i64 (p : Int)]
  row : RowI X g gs
  bw : Below w0.heap.size w0 X
section
variable {w0 X : World} {s sv sm sl so g N cap p : Nat} {a : Option Addr} {gs : List Int} {f : Nat → Int × Int} {k : Nat}
theorem MidV.put (h : MidV w0 s sv sm sl so g N cap p a gs f k X) (l : Nat) (o : Obj) (h0 : s < l) (h1 : sv < l) (h2 : sm < l) (h4 : sl < l) (h5 : so < l) (h6 : g < l) (h3 : w0.heap.size ≤ l) : MidV w0 s sv sm sl so g N cap p a gs f k (X.putObj l o) :=
  ⟨h.bg.put l o (by omega), h.bv.put l o (by omega), h.bm.put l o (by omega), h.bl.put l o (by omega), h.bo.put l o (by omega), h.row.put l o (by omega), below_put h.bw h3⟩
theorem MidV.alloc (h : MidV w0 s sv sm sl so g N cap p a gs f k X) (o : Obj) : MidV w0 s sv sm sl so g N cap p a gs f k (X.alloc o) := ⟨h.bg.alloc o, h.bv.alloc o, h.bm.alloc o, h.bl.alloc o, h.bo.alloc o, h.row.alloc o, h.bw.alloc h.bw.size o⟩
theorem MidV.below {X' : World} (h : MidV w0 s sv sm sl so g N cap p a gs f k X) (hb : Below X.heap.size X X') : MidV w0 s sv sm sl so g N cap p a gs f k X' := ⟨h.bg.below hb h.bg.lt, h.bv.below hb h.bv.lt, h.bm.below hb h.bm.lt, h.bl.below hb h.bl.lt, h.bo.below hb h.bo.lt, h.row.below hb h.row.lt, bt h.bw hb⟩
theorem MidV.drewN (h : MidV w0 s sv sm sl so g N cap p a gs f k X) (n : Nat) : MidV w0 s sv sm sl so g N cap p a gs f k (X.drewN n) := ⟨h.bg, h.bv, h.bm, h.bl, h.bo, h.row, below_dn h.bw⟩
theorem MidV.same (h : MidV w0 s sv sm sl so g N cap p a gs f k X) (e : f (k + 1) = f k) : MidV w0 s sv sm sl so g N cap p a gs f (k + 1) X := ⟨h.bg, by rw [e]; exact h.bv, by rw [e]; exact h.bm, h.bl, h.bo, h.row, h.bw⟩
theorem MidV.set2 (h : MidV w0 s sv sm sl so g N cap p a gs f k X) (v m : Int) (e : f (k + 1) = (v, m)) (h1 : g < s) (h2 : s < sv) (h3 : sv < sm) (h4 : sm < sl) (h5 : sl < so) (hw : w0.heap.size ≤ s) : MidV w0 s sv sm sl so g N cap p a gs f (k + 1) ((X.setCell ⟨sv, 0, none⟩ (.int .i64 v)).setCell ⟨sm, 0, none⟩ (.int .i64 m)) :=
  ⟨(h.bg.far (by simp; omega) _).far (by simp; omega) _, by rw [e]; exact (h.bv.set_ 0 _).far (by simp; omega) _, by rw [e]; exact (h.bm.far (by simp; omega) _).set_ 0 _, (h.bl.far (by simp; omega) _).far (by simp; omega) _, (h.bo.far (by simp; omega) _).far (by simp; omega) _, (h.row.far (by simp; omega) _).far (by simp; omega) _, (h.bw.setCell (by simp; omega) _).setCell (by simp; omega) _⟩
end
set_option maxRecDepth 100000 in
set_option maxHeartbeats 2000000 in
theorem victim_late (c : Int) (a : Option Addr) (cap : Nat) (l : List Ac) (x m : Int) (w : World) (hp : AcA w a l) (hok : OkA l) (hc : 0 ≤ c) (hcM : c ≤ 1099511627776) (h : earlyV c l x m = none) :
    Calls Try.prog 29 #[.int .i64 c, .slice a l.length cap, .int .i64 x, .int .i64 m] w (GivesV w c l x m) := by
  obtain ⟨c3, c6, c7, c5⟩ := earlyV_none h
  have CF := Lib.hid (fun W (hb : Below w.heap.size w W) => find_any a cap l x W (hp.mono hb) hok)
  have CT := Lib.hid (fun W (hb : Below w.heap.size w W) => total_any a cap l W (hp.mono hb) hok)
  have CV := Lib.hid (fun W => isVolume_any m W)
  rw [c3] at CF
  rw [decide_eq_true (⟨c6, c7⟩ : 0 ≤ m ∧ m ≤ 1099511627776)] at CV
  have hm := hok.2
  obtain ⟨u0, u1⟩ := used_bd hok
  have HP := Lib.hid hp; have HK := Lib.hid hok
  obtain ⟨hpl, -⟩ := (hasA_iff l x).1 c3
  have OKW := Lib.hid (wantsL_ok hok (posA l x) m c6)
  have FIN := Lib.hid (fun n (hn : IsLev c (wantsL l (posA l x) m) n) => VictR.late h hn)
  have SHW := Lib.hid (shK_wants l (posA l x) m hpl)
  obtain ⟨p, hpp⟩ : ∃ p, posA l x = p := ⟨_, rfl⟩
  rw [hpp] at CF hpl OKW FIN SHW
  have CR := Lib.hid (fun W g (hb : ShA W (some ⟨g, 0, none⟩) (wantsL l p m)) => fair_any c (some ⟨g, 0, none⟩) (wantsL l p m).length (wantsL l p m) W hb OKW.out (by rw [wantsL_len]; exact hm) hc hcM)
  have LOW := Lib.hid (fun n (hn : IsLev c (wantsL l p m) n) k (hk : k < l.length) => fairC_low c n (wantsL l p m) OKW.out hn k (by rw [wantsL_len]; exact hk))
  have LEN := Lib.hid (fun n => show (fairC c n (wantsL l p m)).length = l.length by unfold fairC; rw [fairL_len, wantsL_len])
  have WB := Lib.hid (fun k (hk : k < l.length) => (OKW.out.at_ (k := k) (by rw [wantsL_len]; exact hk)).2.2.2)
  have LATE := Lib.hid (fun gs => show lateV l gs p m = if gs.getD p 0 < (l.getD p (0, 0, 0)).2.2 + m then (0, 160) else ((bestK l gs p l.length).1, 0) from rfl)
  obtain ⟨U, hU⟩ : ∃ U, used l = U := ⟨_, rfl⟩
  rw [hU] at CT c5 u0 u1
  have hwl := wantsL_len l p m
  obtain ⟨N, hN⟩ : ∃ N, l.length = N := ⟨_, rfl⟩
  have HE := Lib.hid hN
  rw [hN] at CF CT hm u1 hpl LEN LOW WB hwl ⊢
  simp only [hwl] at CR
  have hmk := run_mkS N (by omega)
  clear hp hok c3 hN h hU hpp hwl
  refine (callsIn_wide (n := 4)).1 ?_
  refine callsIn_of_wp_marks Try.func29 rfl trivial ?_ rfl
  refine wpIn_wide.2 ?_
  simp only [Try.ntmps29, List.size_toArray, List.length_cons, List.length_nil, Nat.reduceAdd, Nat.reduceSub, Array.replicate_succ, Array.replicate_zero, List.push_toArray, List.append_toArray, List.nil_append, List.cons_append]
  go_wp2_with fail
  refine (CF.out _ (Below.refl _ _)).mono ?_
  rintro e w1 ⟨rfl, hb⟩
  have B1 := Lib.hid hb
  clear hb
  go_wp2_with fail
  refine (CV.out _).mono ?_
  rintro e w2 ⟨rfl, rfl⟩
  go_wp2_with fail
  refine (CT.out _ B1.out).mono ?_
  rintro e w2 ⟨rfl, hb⟩
  have B2 := Lib.hid (show Below w.heap.size w w2 from bt B1.out hb)
  clear hb B1 CF CV CT
  go_wp2
  have R0 := Lib.hid (show RowS (w2.alloc (.cells ((List.replicate N ((0, 0) : Sh)).flatMap encS).toArray 32)) w2.heap.size (shK l 0) by rw [shK_zero, HE.out]; exact Blk.new w2 _ _)
  have B3 := Lib.hid (show Below w.heap.size w (w2.alloc (.cells ((List.replicate N ((0, 0) : Sh)).flatMap encS).toArray 32)) from B2.out.alloc B2.out.size _)
  have zg : w.heap.size ≤ w2.heap.size := B2.out.size
  have z3 : w2.heap.size < (w2.alloc (.cells ((List.replicate N ((0, 0) : Sh)).flatMap encS).toArray 32)).heap.size := by simp
  generalize w2.alloc (.cells ((List.replicate N ((0, 0) : Sh)).flatMap encS).toArray 32) = w3 at *
  obtain ⟨G, hG⟩ : ∃ G, w2.heap.size = G := ⟨_, rfl⟩
  rw [hG] at R0 zg z3 ⊢
  clear hG B2 hmk
  go_loopw [13, 14, 44] (fun _ _ u44 wr => ∃ (k : Nat), k ≤ N ∧ u44 = .int .i64 k ∧ Hid (RowS wr G (shK l k)) ∧ G < wr.heap.size ∧ Hid (Below w.heap.size w wr)) (fun _ _ u44 _ => N - (intOf u44).toNat)
  case atStart => exact ⟨0, by omega, rfl, R0, z3, B3⟩
  case round =>
    clear R0 B3 z3
    obtain ⟨k, hk, rfl, hr, hgr, hbe⟩ := hrel
    by_cases hlt : k < N
    · obtain ⟨b, off, rfl, q0, q1, q2⟩ := AcA.at_ (HP.out.mono hbe.out) (k := k) (by rw [HE.out]; exact hlt)
      have hset := shK_set l k (by rw [HE.out]; exact hlt)
      obtain ⟨y, hy⟩ : ∃ y, l.getD k (0, 0, 0) = y := ⟨_, rfl⟩
      rw [hy] at q0 q1 q2 hset
      obtain ⟨y1, y2, y3⟩ := y
      simp only at q0 q1 q2 hset
      have R2 := Lib.hid (hr.out.set_ k (y2, y3) (by rw [shK_len, HE.out]; exact hlt))
      rw [hset] at R2
      obtain ⟨b5, o5, e5, d0, d1⟩ := ShA.at_ hr.out.sh (k := k) (by rw [shK_len, HE.out]; exact hlt)
      injection e5 with e5; injection e5 with e6 e7; subst e6; subst e7
      rw [Nat.zero_add] at d0 d1
      have f0 : wr.frozen? ⟨G, k * 2, none⟩ = false := Blk.frozen hr.out _
      have f1 : wr.frozen? ⟨G, k * 2 + 1, none⟩ = false := Blk.frozen hr.out _
      have B4 := Lib.hid (show Below w.heap.size w ((wr.setCell ⟨G, k * 2, none⟩ (.int .i64 y2)).setCell ⟨G, k * 2 + 1, none⟩ (.int .i64 y3)) from (hbe.out.setCell zg _).setCell zg _)
      clear hy hset hr hbe
      go_wp2
      go_roundw
      case rel => exact ⟨k + 1, by omega, by go_num, Lib.hid (Blk.alloc R2.out _), by simp; omega, Lib.hid (B4.out.alloc (by simp; omega) _)⟩
      case measure => simp [intOf]; omega
    · have hkN : k = N := by omega
      have R0 := Lib.hid (show RowS wr G (shK l l.length) by rw [HE.out, ← hkN]; exact hr.out)
      clear hr hkN
      obtain ⟨b, off, rfl, q0, q1, q2⟩ := AcA.at_ (HP.out.mono hbe.out) (k := p) (by rw [HE.out]; exact hpl)
      obtain ⟨-, -, o3, o4⟩ := HK.out.w (j := p) (by rw [HE.out]; exact hpl)
      obtain ⟨y, hy⟩ : ∃ y, l.getD p (0, 0, 0) = y := ⟨_, rfl⟩
      rw [hy] at q0 q1 q2 o3 o4 SHW LATE
      obtain ⟨y1, y2, y3⟩ := y
      simp only at q0 q1 q2 o3 o4 SHW LATE
      obtain ⟨V, hV⟩ : ∃ V, y3 + m = V := ⟨_, rfl⟩
      rw [hV] at SHW LATE
      obtain ⟨T, hT⟩ : ∃ T, min V 1099511627776 = T := ⟨_, rfl⟩
      rw [hT] at SHW
      have hT2 : (if 1099511627776 < V then 1099511627776 else V) = T := by rw [← hT]; omega
      have R2 := Lib.hid (R0.out.want p T (by rw [shK_len, HE.out]; exact hpl))
      rw [SHW.out] at R2
      obtain ⟨b5, o5, e5, d0, d1⟩ := ShA.at_ R0.out.sh (k := p) (by rw [shK_len, HE.out]; exact hpl)
      injection e5 with e5; injection e5 with e6 e7; subst e6; subst e7
      rw [Nat.zero_add] at d0 d1
      have f1 : wr.frozen? ⟨G, p * 2 + 1, none⟩ = false := Blk.frozen R0.out _
      have B4 := Lib.hid (show Below w.heap.size w (wr.setCell ⟨G, p * 2 + 1, none⟩ (.int .i64 T)) from hbe.out.setCell zg _)
      have C := Lib.hid (CR.out _ _ R2.out.sh)
      clear hy R0 hbe
      go_wp2_with fail
      refine C.out.mono ?_
      rintro e w5 ⟨n, g, rfl, hn, hg5, hrw, hb⟩
      have LO := Lib.hid (fun k hk => LOW.out n hn k hk)
      have LN := Lib.hid (LEN.out n)
      have FN := Lib.hid (FIN.out n hn)
      obtain ⟨gs, hgs⟩ : ∃ gs, fairC c n (wantsL l p m) = gs := ⟨_, rfl⟩
      rw [hgs] at hrw LO LN FN
      have LA := Lib.hid (LATE.out gs)
      have B5 := Lib.hid (show Below w.heap.size w w5 from bt B4.out hb)
      have zg5 : w.heap.size ≤ g := Nat.le_trans B4.out.size hg5
      have gz : g < w5.heap.size := hrw.lt
      have RW := Lib.hid hrw
      have e0 : (w5.alloc (.cells #[.slice (some ⟨g, 0, none⟩) N N] 23)).cell? ⟨g, p, none⟩ = some (.int .i64 (gs.getD p 0)) := (hrw.alloc _).cell (by rw [LN.out]; exact hpl)
      obtain ⟨gp, hgp⟩ : ∃ x, gs.getD p 0 = x := ⟨_, rfl⟩
      rw [hgp] at e0 LA
      obtain ⟨s, hs⟩ : ∃ s, w5.heap.size = s := ⟨_, rfl⟩
      have HS := Lib.hid hs
      clear hn hrw hb hgs LOW LEN FIN LATE CR C hg5 hgp R2 B4 SHW q0 q1 q2 d0 d1 f1
      by_cases hgv : gp < V
      · rw [if_pos hgv] at LA
        clear hs
        go_wp2
        exact ⟨_, results_tmp2 rfl _ _ _, (0, 160), rfl, by rw [← LA.out]; exact FN.out, B5.out.alloc B5.out.size _⟩
      rw [if_neg hgv] at LA
      go_wp2_with fail
      refine (others_mk _ _ _ _ _).mono ?_
      rintro e w6 ⟨rfl, hw6⟩
      have M0 : MidV w s (s + 1) (s + 1 + 1) (s + 1 + 1 + 1) (s + 1 + 1 + 1 + 1) g N cap p (some ⟨b, off, none⟩) gs (bestK l gs p) 0 w6 := by
        rw [hw6]
        have z0 : (w5.alloc (.cells #[.slice (some ⟨g, 0, none⟩) N N] 23)).heap.size = s + 1 := by rw [World.size_alloc, hs]
        have z1 : ((w5.alloc (.cells #[.slice (some ⟨g, 0, none⟩) N N] 23)).alloc (.cells #[.int .i64 0] 3)).heap.size = s + 2 := by rw [World.size_alloc, z0]
        have z2 : (((w5.alloc (.cells #[.slice (some ⟨g, 0, none⟩) N N] 23)).alloc (.cells #[.int .i64 0] 3)).alloc (.cells #[.int .i64 0] 3)).heap.size = s + 3 := by rw [World.size_alloc, z1]
        have b5 := B5.out.alloc B5.out.size (.cells #[.slice (some ⟨g, 0, none⟩) N N] 23)
        have b6 := b5.alloc b5.size (.cells #[.int .i64 0] 3)
        have b7 := b6.alloc b6.size (.cells #[.int .i64 0] 3)
        have b8 := b7.alloc b7.size (.cells #[.slice (some ⟨b, off, none⟩) N cap] 35)
        exact ⟨((((Blk.new' _ _ _ _ hs rfl).alloc _).alloc _).alloc _).alloc _, (((Blk.new' _ _ _ _ z0 rfl).alloc _).alloc _).alloc _, ((Blk.new' _ _ _ _ z1 rfl).alloc _).alloc _, (Blk.new' _ _ _ _ z2 rfl).alloc _, Blk.new' _ _ _ _ (by rw [World.size_alloc, z2]) rfl,
          ((((RW.out.alloc _).alloc _).alloc _).alloc _).alloc _, b8.alloc b8.size _⟩
      have Z6 : s + 1 + 1 + 1 + 1 < w6.heap.size := by rw [hw6]; simp [hs]
      have zs : w.heap.size ≤ s := by omega
      rw [hs] at gz
      simp only [World.size_alloc, hs]
      obtain ⟨s1, h1⟩ : ∃ q, s + 1 = q := ⟨_, rfl⟩
      obtain ⟨s2, h2⟩ : ∃ q, s1 + 1 = q := ⟨_, rfl⟩
      obtain ⟨s3, h3⟩ : ∃ q, s2 + 1 = q := ⟨_, rfl⟩
      obtain ⟨s4, h4⟩ : ∃ q, s3 + 1 = q := ⟨_, rfl⟩
      have o1 : s < s1 := by omega
      have o2 : s1 < s2 := by omega
      have o3' : s2 < s3 := by omega
      have o4' : s3 < s4 := by omega
      simp only [h1, h2, h3, h4] at M0 Z6
      have ZH := Lib.hid Z6
      have MH := Lib.hid M0
      simp only [h1, h2, h3, h4]
      clear hw6 M0 Z6 RW B5 hs e0 h1 h2 h3 h4
      go_wp2
      refine (wpIn_wide (n := 4)).1 ?_
      refine range_runB rfl (by omega) (gf := 50) (lb := #[.pointer (some ⟨s3, 0, none⟩), .pointer (some ⟨s4, 0, none⟩)]) rfl trivial (enters_of Try.func50 (by kernel_rfl) rfl) oI oA
        (MidV w s s1 s2 s3 s4 g N cap p (some ⟨b, off, none⟩) gs (bestK l gs p)) (fun x k => x.1 = k ∧ k < l.length ∧ k ≠ p ∧ x.2 = l.getD k (0, 0, 0)) (fun _ k => k + 1) 0 (fun k => k = l.length)
        (fun k X j o o' hM hl hk ho => hM.put j o' (by have := ZH.out; omega) (by have := ZH.out; omega) (by have := ZH.out; omega) (by have := ZH.out; omega) (by have := ZH.out; omega) (by have := ZH.out; omega) (by have := ZH.out; omega))
        (fun o o' => (MH.out.alloc o).alloc o')
        (others_in 3 (by omega) s3 s4 cap p (some ⟨b, off, none⟩) l _ (by rw [HE.out]; exact hm) (fun k X h => ⟨by rw [HE.out]; exact h.bl.cell 0, h.bo.cell 0, HP.out.mono h.bw⟩) (fun k X X' h hb => h.below hb) (fun X h => h.same (bestK_own l gs p)))
        53 (fun y => #[.int .i64 y.2.1, .int .i64 y.2.2.1, .int .i64 y.2.2.2]) ?f (fun k X o h => h.alloc o) ?assign ?body ?done
      case assign =>
        intro lo y W K hK
        obtain ⟨Bx, hBx⟩ : ∃ Bx, W.heap.size = Bx := ⟨_, rfl⟩
        rw [hBx] at hK
        gi_wp2
        exact hK
      case body =>
        rintro j ⟨i, y⟩ k Bx X ⟨hik, hkl, hkp, hyk⟩ KB M
        simp only at hik hyk
        subst hik
        have LOk := LO.out i (by rw [← HE.out]; exact hkl)
        have WBk := WB.out i (by rw [← HE.out]; exact hkl)
        obtain ⟨-, -, y0, y1b⟩ := HK.out.w hkl
        have ST : bestK l gs p (i + 1) = if i ≠ p ∧ (bestK l gs p i).2 < (l.getD i (0, 0, 0)).2.2 - gs.getD i 0 then ((l.getD i (0, 0, 0)).1, (l.getD i (0, 0, 0)).2.2 - gs.getD i 0) else bestK l gs p i := rfl
        rw [← hyk] at ST y0 y1b
        obtain ⟨y1, y2, y3⟩ := y
        simp only at ST y0 y1b
        have rc := M.row.cell (k := i) (by rw [LN.out, ← HE.out]; exact hkl)
        obtain ⟨u, hu⟩ : ∃ u, gs.getD i 0 = u := ⟨_, rfl⟩
        rw [hu] at ST rc LOk
        have bc := M.bm.cell 0
        change _ = some (Value.int .i64 (bestK l gs p i).2) at bc
        have gc := M.bg.cell 0
        change _ = some (Value.slice (some ⟨g, 0, none⟩) N N) at gc
        have vc := M.bv.cell 0
        change _ = some (Value.int .i64 (bestK l gs p i).1) at vc
        have k0 := KB.cell 0
        change _ = some (Value.int .i64 y1) at k0
        have k2 := KB.cell 2
        change _ = some (Value.int .i64 y3) at k2
        obtain ⟨B, hB⟩ : ∃ B, (bestK l gs p i).2 = B := ⟨_, rfl⟩
        rw [hB] at ST bc
        have WR := Lib.hid (show wrap64 (y3 - u) = y3 - u from by unfold wrap64; omega)
        have wr2 : IntKind.i64.wrap (y3 - u) = y3 - u := by rw [IntKind.wrap_i64]; omega
        have iN : (i : Int) < (N : Int) := by rw [← HE.out]; omega
        have MM := Lib.hid M
        have fv := M.bv.frozen 0
        have fm := M.bm.frozen 0
        clear M hyk hu hB LOk WBk KB
        by_cases hbt : B < y3 - u
        · have t1 : decide (B < y3 - u) = true := decide_eq_true hbt
          rw [if_pos ⟨hkp, hbt⟩] at ST
          have STH := Lib.hid ST
          clear ST
          gi_wp2
          gi_region
          all_goals gi_wp2
          all_goals first
            | exact ⟨((KeepsOthers.setCell _ _ _).trans (KeepsOthers.setCell _ _ _)).trans (KeepsOthers.drew _), by exact (MM.out.set2 y1 (y3 - u) STH.out gz o1 o2 o3' o4' zs).drewN 1⟩
            | exact ⟨((KeepsOthers.drew _).trans (KeepsOthers.setCell _ _ _)).trans (KeepsOthers.setCell _ _ _), by exact (MM.out.drewN 1).set2 y1 (y3 - u) STH.out gz o1 o2 o3' o4' zs⟩
        · have t1 : decide (B < y3 - u) = false := decide_eq_false hbt
          rw [if_neg (fun h => hbt h.2)] at ST
          have STH := Lib.hid ST
          clear ST
          gi_wp2
          gi_region
          all_goals gi_wp2
          all_goals exact ⟨KeepsOthers.drew _, (MM.out.same STH.out).drewN 1⟩
      case done =>
        rintro D k X hD hf M hK
        have hkl : k = l.length := hf
        have vc := M.bv.cell 0
        change _ = some (Value.int .i64 (bestK l gs p k).1) at vc
        have VR := Lib.hid (show VictR c l x m ((bestK l gs p k).1, 0) by rw [hkl, ← LA.out]; exact FN.out)
        obtain ⟨v, hv⟩ : ∃ v, (bestK l gs p k).1 = v := ⟨_, rfl⟩
        rw [hv] at vc VR
        have BW := Lib.hid (show Below w.heap.size w (X.putObj D (.deferred none)) from below_put M.bw (by have := ZH.out; omega))
        have TD := Lib.hid (run_takeDeferred (P := Try.prog) hK)
        clear hf M hkl hv hK
        go_wp2
        exact ⟨by simp, .inl ⟨_, _, rfl, TD.out, ⟨_, results_tmp2 rfl _ _ _, (v, 0), rfl, VR.out, BW.out⟩⟩⟩
theorem victim_any (c : Int) (a : Option Addr) (cap : Nat) (l : List Ac) (x m : Int) (w : World) (hp : AcA w a l) (hok : OkA l) (hc : 0 ≤ c) (hcM : c ≤ 1099511627776) :
    Calls Try.prog 29 #[.int .i64 c, .slice a l.length cap, .int .i64 x, .int .i64 m] w (GivesV w c l x m) := by
  by_cases h : earlyV c l x m = none
  · exact victim_late c a cap l x m w hp hok hc hcM h
  · exact victim_early c a cap l x m w hp hok hc hcM h
end Go.Proofs.Ytjmegfejnocegaa
