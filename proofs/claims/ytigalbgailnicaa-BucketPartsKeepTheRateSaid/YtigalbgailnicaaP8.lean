/- The parts of a bucket, and the bucket: the walk. -/
import Derived.Test.YtigalbgailnicaaP8a
namespace Go.Proofs.Ytigalbgailnicaa
set_option linter.unusedVariables false
set_option linter.unusedSimpArgs false
open Go.RowKit Go.Sort
set_option maxRecDepth 100000 in
set_option maxHeartbeats 6000000 in
theorem parts_in (c n d l a : Int) (ac an ad : Option Addr) (capc capn cap : Nat) (cs ns : List Int) (ls : List (Int × Int × Int)) (w : World) (hp : Tries3 w ad ls) (hm : ls.length ≤ 60) (h1 : 1 ≤ cs.length) (h2 : cs.length ≤ 64) (h3 : ns.length = cs.length) (hc : IntsA .i64 w ac cs) (hn : IntsA .i64 w an ns) (h : OkB c n d l a) (ha : a ≤ 1099511527776) (hbc : addB c cs = true) (hbn : addB n ns = true) :
    Calls Try.prog 8 #[bk c n d l a, .slice ac cs.length capc, .slice an cs.length capn, .slice ad ls.length cap] w fun e w' => e = .returned (.bool true) ∧ Below w.heap.size w w' := by
  have HP := Lib.hid hp; clear hp
  have HH := Lib.hid h
  have HU := Lib.hid (under_start (a := a) h h3 hbc hbn)
  have sp := fun (W : World) (hb : Below w.heap.size w W) => split_ok c n d l a ac an capc capn cs ns W h (hc.mono hb) (hn.mono hb) h1 h2 h3 hbc hbn
  have mp := fun (W : World) (g : Nat) hp => merge_parts h h1 h2 h3 hbc hbn g cs.length W hp
  have SP := Lib.hid sp
  have MP := Lib.hid mp
  have PL := Lib.hid (parts_len l d a cs ns)
  have PA := Lib.hid (parts_at l d a cs ns)
  obtain ⟨g1, g2, g3, g4, g5', g6', g7, g8, g9, g10⟩ := h
  obtain ⟨p1, p2⟩ := HH.out.prod
  have g8b : l ≤ 1125899906842624 := by omega
  clear g8 p1 p2 sp mp hc hn hbc hbn h3
  go_enter Try.func8, Try.ntmps8
  go_wp2_with fail
  refine (valid_yes _ _ _ _ _ _ HH.out).mono ?_
  rintro e w1 ⟨rfl, hb1⟩
  have B1 : Below w.heap.size w w1 := bt (by (repeat' (first | (with_reducible exact Below.refl _ _) | (with_reducible assumption) | (with_reducible refine Below.alloc ?_ ?_ _) | (with_reducible refine Below.drew ?_) | (with_reducible refine below_dn ?_) | (with_reducible refine Below.setCell ?_ ?_ _) | (with_reducible exact Nat.le_refl _) | omega | (simp only [World.size_alloc, World.size_setCell, World.size_drew]; omega) | (simp; omega) | (simp; done)))) hb1
  have s1 : w.heap.size ≤ w1.heap.size := B1.size
  have z1_b : w.heap.size < w1.heap.size := by (have := hb1.size; (try simp at this); omega)
  have x1_b : w.heap.size ≤ w1.heap.size := Nat.le_of_lt z1_b
  have d1_b_0 : w1.cell? ⟨w.heap.size, 0, none⟩ = some (.int .i64 c) := keep (by go_cell) hb1
  have d1_b_1 : w1.cell? ⟨w.heap.size, 1, none⟩ = some (.int .i64 n) := keep (by go_cell) hb1
  have d1_b_2 : w1.cell? ⟨w.heap.size, 2, none⟩ = some (.int .i64 d) := keep (by go_cell) hb1
  have d1_b_3 : w1.cell? ⟨w.heap.size, 3, none⟩ = some (.int .i64 l) := keep (by go_cell) hb1
  have d1_b_4 : w1.cell? ⟨w.heap.size, 4, none⟩ = some (.int .i64 a) := keep (by go_cell) hb1
  have f1_b : ∀ o, w1.frozen? ⟨w.heap.size, o, none⟩ = false := fun o => (hb1.frozen (p := ⟨w.heap.size, o, none⟩) (by (try simp); (try omega))).trans (by simp [go_sem, *])
  clear hb1
  go_wp2_with fail
  refine (SP.out _ B1).mono ?_
  rintro e w2 ⟨g, rfl, hg, hpa, hfz, hb2⟩
  have B2 : Below w.heap.size w w2 := bt (by (repeat' (first | (with_reducible exact Below.refl _ _) | (with_reducible assumption) | (with_reducible refine Below.alloc ?_ ?_ _) | (with_reducible refine Below.drew ?_) | (with_reducible refine below_dn ?_) | (with_reducible refine Below.setCell ?_ ?_ _) | (with_reducible exact Nat.le_refl _) | omega | (simp only [World.size_alloc, World.size_setCell, World.size_drew]; omega) | (simp; omega) | (simp; done)))) hb2
  have s2 : w.heap.size ≤ w2.heap.size := B2.size
  have z2_b : w.heap.size < w2.heap.size := by (have := hb2.size; (try simp at this); omega)
  have x2_b : w.heap.size ≤ w2.heap.size := Nat.le_of_lt z2_b
  have d2_b_0 : w2.cell? ⟨w.heap.size, 0, none⟩ = some (.int .i64 c) := keep (by go_cell) hb2
  have d2_b_1 : w2.cell? ⟨w.heap.size, 1, none⟩ = some (.int .i64 n) := keep (by go_cell) hb2
  have d2_b_2 : w2.cell? ⟨w.heap.size, 2, none⟩ = some (.int .i64 d) := keep (by go_cell) hb2
  have d2_b_3 : w2.cell? ⟨w.heap.size, 3, none⟩ = some (.int .i64 l) := keep (by go_cell) hb2
  have d2_b_4 : w2.cell? ⟨w.heap.size, 4, none⟩ = some (.int .i64 a) := keep (by go_cell) hb2
  have f2_b : ∀ o, w2.frozen? ⟨w.heap.size, o, none⟩ = false := fun o => (hb2.frozen (p := ⟨w.heap.size, o, none⟩) (by (try simp); (try omega))).trans (by simp [go_sem, *])
  clear hb2 d1_b_0 d1_b_1 d1_b_2 d1_b_3 d1_b_4 f1_b
  have hpp : PartsAt w2 g (parts l d a cs ns) := fun k hk => by
    rw [PL.out] at hk
    rw [PA.out k hk]
    exact hpa k hk
  have HPP := Lib.hid hpp
  have HFZ := Lib.hid hfz
  obtain ⟨g_, zb_⟩ : g < w2.heap.size ∧ w.heap.size < g := ⟨by have := block_lt_of_cell (hpa 0 (by omega)).1; exact this, by omega⟩
  clear hpa hfz hpp
  go_wp2_with fail
  refine (MP.out _ g HPP.out).mono ?_
  rintro e w3 ⟨rfl, hb3⟩
  have B3x : Below w2.heap.size w2 w3 := hb3
  have B3 : Below w.heap.size w w3 := bt (by (repeat' (first | (with_reducible exact Below.refl _ _) | (with_reducible assumption) | (with_reducible refine Below.alloc ?_ ?_ _) | (with_reducible refine Below.drew ?_) | (with_reducible refine below_dn ?_) | (with_reducible refine Below.setCell ?_ ?_ _) | (with_reducible exact Nat.le_refl _) | omega | (simp only [World.size_alloc, World.size_setCell, World.size_drew]; omega) | (simp; omega) | (simp; done)))) hb3
  have s3 : w.heap.size ≤ w3.heap.size := B3.size
  have z3_b : w.heap.size < w3.heap.size := by (have := hb3.size; (try simp at this); omega)
  have x3_b : w.heap.size ≤ w3.heap.size := Nat.le_of_lt z3_b
  have d3_b_0 : w3.cell? ⟨w.heap.size, 0, none⟩ = some (.int .i64 c) := keep (by go_cell) hb3
  have d3_b_1 : w3.cell? ⟨w.heap.size, 1, none⟩ = some (.int .i64 n) := keep (by go_cell) hb3
  have d3_b_2 : w3.cell? ⟨w.heap.size, 2, none⟩ = some (.int .i64 d) := keep (by go_cell) hb3
  have d3_b_3 : w3.cell? ⟨w.heap.size, 3, none⟩ = some (.int .i64 l) := keep (by go_cell) hb3
  have d3_b_4 : w3.cell? ⟨w.heap.size, 4, none⟩ = some (.int .i64 a) := keep (by go_cell) hb3
  have f3_b : ∀ o, w3.frozen? ⟨w.heap.size, o, none⟩ = false := fun o => (hb3.frozen (p := ⟨w.heap.size, o, none⟩) (by (try simp); (try omega))).trans (by simp [go_sem, *])
  clear hb3 d2_b_0 d2_b_1 d2_b_2 d2_b_3 d2_b_4 f2_b
  have HPP3 := Lib.hid (HPP.out.keep B3x)
  have HFZ3 := Lib.hid (show ∀ o, w3.frozen? ⟨g, o, none⟩ = false from fun o => (B3x.frozen (p := ⟨g, o, none⟩) g_).trans (HFZ.out o))
  have gw3 : g < w3.heap.size := Nat.lt_of_lt_of_le g_ B3x.size
  clear HPP HFZ B3x hg
  go_wp2
  go_loopw [13, 14] (fun tt ii wr => ∃ (i : Nat) (t L A : Int) (ps : List Bk), i ≤ ls.length ∧ ii = .int .i64 i ∧ tt = .int .i64 t ∧ a ≤ t ∧ t ≤ a + 255 * i ∧ Hid (Under c n d cs.length ps t L A) ∧ Below w.heap.size w wr ∧ g < wr.heap.size ∧
      wr.cell? ⟨w.heap.size, 0, none⟩ = some (.int .i64 c) ∧ wr.cell? ⟨w.heap.size, 1, none⟩ = some (.int .i64 n) ∧ wr.cell? ⟨w.heap.size, 2, none⟩ = some (.int .i64 d) ∧ wr.cell? ⟨w.heap.size, 3, none⟩ = some (.int .i64 L) ∧ wr.cell? ⟨w.heap.size, 4, none⟩ = some (.int .i64 A) ∧
      Hid (∀ o, wr.frozen? ⟨w.heap.size, o, none⟩ = false) ∧ Hid (∀ o, wr.frozen? ⟨g, o, none⟩ = false) ∧ Hid (PartsAt wr g ps)) (fun _ ii _ => ls.length - (intOf ii).toNat)
  case atStart =>
    exact ⟨0, a, l, a, parts l d a cs ns, by omega, rfl, rfl, by omega, by omega, HU, by (repeat' (first | (with_reducible exact Below.refl _ _) | (with_reducible assumption) | (with_reducible refine Below.alloc ?_ ?_ _) | (with_reducible refine Below.drew ?_) | (with_reducible refine below_dn ?_) | (with_reducible refine Below.setCell ?_ ?_ _) | (with_reducible exact Nat.le_refl _) | omega | (simp only [World.size_alloc, World.size_setCell, World.size_drew]; omega) | (simp; omega) | (simp; done))), by simp; omega, by rw [World.cell?_alloc_past _ _ _ z3_b]; exact d3_b_0, by rw [World.cell?_alloc_past _ _ _ z3_b]; exact d3_b_1, by rw [World.cell?_alloc_past _ _ _ z3_b]; exact d3_b_2, by rw [World.cell?_alloc_past _ _ _ z3_b]; exact d3_b_3, by rw [World.cell?_alloc_past _ _ _ z3_b]; exact d3_b_4,
      fun o => (frozen?_alloc_cells _ _ _ _).trans (f3_b o), fun o => (frozen?_alloc_cells _ _ _ _).trans (HFZ3.out o), HPP3.out.keep ((Below.refl _ _).alloc (Nat.le_refl _) _)⟩
  case round =>
    obtain ⟨i, t, L, A, ps, hi', rfl, rfl, ht0, ht1, hU, hB, hgr, c0, c1, c2, c3, c4, hf, hfg, hps⟩ := hrel
    clear d3_b_0 d3_b_1 d3_b_2 d3_b_3 d3_b_4 f3_b z3_b x3_b s3 z2_b x2_b s2 z1_b x1_b s1 B1 B2 B3 HPP3 HFZ3 gw3 g_ HU SP MP PL PA
    have zw : w.heap.size < wr.heap.size := by omega
    have hpl : ps.length = cs.length := hU.out.1
    by_cases hlt : i < ls.length
    · obtain ⟨b, off, rfl, q1, q2, q3, u1, u2, v1, v2, p1, p2⟩ := HP.out i hlt
      obtain ⟨u, hu⟩ : ∃ u, (ls.getD i (0, 0, 0)).1 = u := ⟨_, rfl⟩
      obtain ⟨v, hv⟩ : ∃ v, (ls.getD i (0, 0, 0)).2.1 = v := ⟨_, rfl⟩
      obtain ⟨p, hp⟩ : ∃ p, (ls.getD i (0, 0, 0)).2.2 = p := ⟨_, rfl⟩
      rw [hu] at q1 u1 u2
      rw [hv] at q2 v1 v2
      rw [hp] at q3 p1 p2
      have e1 := keep q1 hB; have e2 := keep q2 hB; have e3 := keep q3 hB
      clear q1 q2 q3 hu hv hp
      have zb := block_lt_of_cell e1
      simp only at zb
      have UL := Lib.hid (under_later hU.out (t + u) (by omega) (by omega))
      obtain ⟨k, hk, hkm⟩ : ∃ k : Nat, p.tmod (cs.length : Int) = k ∧ k < cs.length := by
        have r1 := Int.tmod_nonneg (cs.length : Int) p1
        have r2 := Int.tmod_lt_of_pos p (by omega : (0 : Int) < cs.length)
        exact ⟨(p.tmod (cs.length : Int)).toNat, by omega, by omega⟩
      obtain ⟨x0, x1, x2, x3, x4⟩ := hps.out k (by omega)
      obtain ⟨okb, hbd, hba⟩ := hU.out.2.2.2.2.2.2.1 k hkm
      obtain ⟨⟨cb, nb, db, lb, ab⟩, hbk⟩ : ∃ z, ps.getD k Bk.zero = z := ⟨_, rfl⟩
      rw [hbk] at x0 x1 x2 x3 x4 okb hbd hba
      simp only at x0 x1 x2 x3 x4 hbd hba
      rw [hbd] at x2 okb hbk
      have C5 := Lib.hid (fun W : World => take_some cb nb d lb ab (t + u) v W okb v1 v2 (by omega) (by omega))
      have HBK := Lib.hid hbk
      have wv : IntKind.i64.wrap v = v := by rw [IntKind.wrap_i64]; omega
      have wu : IntKind.i64.wrap u = u := by rw [IntKind.wrap_i64]; omega
      have wp : IntKind.i64.wrap p = p := by rw [IntKind.wrap_i64]; omega
      clear okb hbk hba
      go_upto_region 15 with (fail)
      go_cut [16, 17] from 101 to 114 (fun sp se wx => ∃ (q : Nat) (c2 n2 d2 l2 a2 er : Int), sp = .pointer (some ⟨q, 0, none⟩) ∧ se = .int .i64 er ∧ wr.heap.size ≤ q ∧ q < wx.heap.size ∧ Below wr.heap.size wr wx ∧
              Hid (er = 0 ∧ c2 = cb ∧ n2 = nb ∧ d2 = d ∧ l2 = lvl cb nb d lb ab (t + u) - v * d ∧ a2 = t + u ∧ 1 ≤ v ∧ v * d ≤ lvl cb nb d lb ab (t + u) ∨ er ≠ 0) ∧
              wx.cell? ⟨q, 0, none⟩ = some (.int .i64 c2) ∧ wx.cell? ⟨q, 1, none⟩ = some (.int .i64 n2) ∧ wx.cell? ⟨q, 2, none⟩ = some (.int .i64 d2) ∧ wx.cell? ⟨q, 3, none⟩ = some (.int .i64 l2) ∧ wx.cell? ⟨q, 4, none⟩ = some (.int .i64 a2))
      case first =>
        clear c0 c1 c2 c3 c4 e1 e3 hf hfg hps hU UL HBK HP HH wu wp ht0 ht1 g1 g2 g3 g4 g5' g6' g7 g9 g10 g8b ha u1 u2 p1 p2
        go_region_with (go_at_call 11; ((with_reducible refine (C5.out _).mono ?_); rintro e w2 ⟨c2', n2', d2', l2', a2', er, rfl, hor, hb2⟩; have OR := Lib.hid hor; clear hor; have BB : Below wr.heap.size wr w2 := bt (by (repeat' (first | (with_reducible exact Below.refl _ _) | (with_reducible assumption) | (with_reducible refine Below.alloc ?_ ?_ _) | (with_reducible refine Below.drew ?_) | (with_reducible refine below_dn ?_) | (with_reducible refine Below.setCell ?_ ?_ _) | (with_reducible exact Nat.le_refl _) | omega | (simp only [World.size_alloc, World.size_setCell, World.size_drew]; omega) | (simp; omega) | (simp; done)))) hb2; have zq : wr.heap.size ≤ w2.heap.size := BB.size; (try (refine (have zz : wr.heap.size < w2.heap.size := ?hz; ?_); (case hz => (have hsz := hb2.size; simp at hsz; omega)))); have kb := fun (b o : Nat) (v : Value) h => keep (b := b) (o := o) (v := v) h hb2; have KB := Lib.hid kb; clear kb; (try (refine (have kf : ∀ o, w2.frozen? ⟨wr.heap.size, o, none⟩ = false := ?hkf; ?_); (case hkf => (intro o; rw [hb2.frozen (p := ⟨wr.heap.size, o, none⟩) ?hq]; (case hq => (simp; done)); (simp [go_sem]; done))))); (try (refine (have ka0 : w2.cell? ⟨wr.heap.size, 0, none⟩ = some (.int .i64 0) := ?hk0; ?_); (case hk0 => (refine KB.out _ _ _ ?_; (simp [go_sem]; done))))); (try (refine (have ka1 : w2.cell? ⟨wr.heap.size, 1, none⟩ = some (.int .i64 0) := ?hk1; ?_); (case hk1 => (refine KB.out _ _ _ ?_; (simp [go_sem]; done))))); (try (refine (have ka2 : w2.cell? ⟨wr.heap.size, 2, none⟩ = some (.int .i64 0) := ?hk2; ?_); (case hk2 => (refine KB.out _ _ _ ?_; (simp [go_sem]; done))))); (try (refine (have ka3 : w2.cell? ⟨wr.heap.size, 3, none⟩ = some (.int .i64 0) := ?hk3; ?_); (case hk3 => (refine KB.out _ _ _ ?_; (simp [go_sem]; done))))); (try (refine (have ka4 : w2.cell? ⟨wr.heap.size, 4, none⟩ = some (.int .i64 0) := ?hk4; ?_); (case hk4 => (refine KB.out _ _ _ ?_; (simp [go_sem]; done)))))))
        all_goals
          go_wp2_with fail
          go_meet
          first
          | exact ⟨w2.heap.size, _, _, _, _, _, _, rfl, rfl, by omega, by first | (simp; done) | (simp; omega) | omega, by (repeat' (first | (with_reducible exact Below.refl _ _) | (with_reducible assumption) | (with_reducible refine Below.alloc ?_ ?_ _) | (with_reducible refine Below.drew ?_) | (with_reducible refine below_dn ?_) | (with_reducible refine Below.setCell ?_ ?_ _) | (with_reducible exact Nat.le_refl _) | omega | (simp only [World.size_alloc, World.size_setCell, World.size_drew]; omega) | (simp; omega) | (simp; done))), OR.out, (by first | (simp [go_sem]; done) | (go_cell; done) | (simp [*, go_sem]; done)), (by first | (simp [go_sem]; done) | (go_cell; done) | (simp [*, go_sem]; done)), (by first | (simp [go_sem]; done) | (go_cell; done) | (simp [*, go_sem]; done)), (by first | (simp [go_sem]; done) | (go_cell; done) | (simp [*, go_sem]; done)), (by first | (simp [go_sem]; done) | (go_cell; done) | (simp [*, go_sem]; done))⟩
          | exact ⟨wr.heap.size, _, _, _, _, _, _, rfl, rfl, by omega, by first | (simp; done) | (simp; omega) | omega, by (repeat' (first | (with_reducible exact Below.refl _ _) | (with_reducible assumption) | (with_reducible refine Below.alloc ?_ ?_ _) | (with_reducible refine Below.drew ?_) | (with_reducible refine below_dn ?_) | (with_reducible refine Below.setCell ?_ ?_ _) | (with_reducible exact Nat.le_refl _) | omega | (simp only [World.size_alloc, World.size_setCell, World.size_drew]; omega) | (simp; omega) | (simp; done))), OR.out, (by first | (simp [go_sem]; done) | (go_cell; done) | (simp [*, go_sem]; done)), (by first | (simp [go_sem]; done) | (go_cell; done) | (simp [*, go_sem]; done)), (by first | (simp [go_sem]; done) | (go_cell; done) | (simp [*, go_sem]; done)), (by first | (simp [go_sem]; done) | (go_cell; done) | (simp [*, go_sem]; done)), (by first | (simp [go_sem]; done) | (go_cell; done) | (simp [*, go_sem]; done))⟩
      case rest =>
        rename World => wx
        obtain ⟨q, c2', n2', d2', l2', a2', er, rfl, rfl, hq, hqx, hbx, hor, h0, h1', h2', h3, h4⟩ := hcut
        have Bc : Below w.heap.size w wx := bt hB hbx
        have zwx : w.heap.size < wx.heap.size := Nat.lt_of_lt_of_le zw hbx.size
        have gx : g < wx.heap.size := Nat.lt_of_lt_of_le hgr hbx.size
        have zbx := Nat.lt_of_lt_of_le zb hbx.size
        have gq : g ≠ q := by omega
        have wq : w.heap.size ≠ q := by omega
        have y0 := keep c0 hbx; have y1 := keep c1 hbx; have y2 := keep c2 hbx; have y3 := keep c3 hbx; have y4 := keep c4 hbx
        have m0 := keep x0 hbx; have m1 := keep x1 hbx; have m2 := keep x2 hbx; have m3 := keep x3 hbx; have m4 := keep x4 hbx
        have e2x := keep e2 hbx
        have FX := Lib.hid (show ∀ o, wx.frozen? ⟨w.heap.size, o, none⟩ = false from fun o => (hbx.frozen (p := ⟨w.heap.size, o, none⟩) zw).trans (hf.out o))
        have FG := Lib.hid (show ∀ o, wx.frozen? ⟨g, o, none⟩ = false from fun o => (hbx.frozen (p := ⟨g, o, none⟩) hgr).trans (hfg.out o))
        have PX := Lib.hid (hps.out.keep hbx)
        clear c0 c1 c2 c3 c4 x0 x1 x2 x3 x4 e1 e2 e3 hf hfg hps hbx C5 wu wp wv
        have OR2 := hor
        clear hor
        rcases OR2.out with ⟨r0, r1, r2, r3, r4, r5, v1', hgive⟩ | hne'
        · subst r0
          have r1 := r1.symm; have r2 := r2.symm; have r3 := r3.symm; have r4 := r4.symm; have r5 := r5.symm
          subst r1 r2 r3 r4 r5
          have UT0 := under_take UL.out k hkm v (by omega) (by rw [HBK.out]; exact hgive)
          have hg2 := under_gives UL.out k hkm
          rw [HBK.out] at UT0 hg2
          have hle : v * d ≤ lvl c n d L A (t + u) := by
            have : lvl cb nb d lb ab (t + u) ≤ lvl c n d L A (t + u) := hg2
            omega
          have UT := Lib.hid (show Under c n d cs.length (ps.set k ⟨cb, nb, d, lvl cb nb d lb ab (t + u) - v * d, t + u⟩) (t + u) (lvl c n d L A (t + u) - v * d) (t + u) from UT0)
          clear UT0 hg2
          have C6 := Lib.hid (fun W : World => take_ok c n d L A (t + u) v W hU.out.2.2.2.1 v1' (by omega) (by have := hU.out.2.2.2.2.1; omega) (by omega) hle)
          obtain ⟨LP, hLP⟩ : ∃ z, lvl cb nb d lb ab (t + u) - v * d = z := ⟨_, rfl⟩
          obtain ⟨LW, hLW⟩ : ∃ z, lvl c n d L A (t + u) - v * d = z := ⟨_, rfl⟩
          rw [hLP] at h3 UT
          rw [hLW] at UT C6
          clear hLP hLW hgive hle OR2
          have wv : IntKind.i64.wrap v = v := by rw [IntKind.wrap_i64]; omega
          have x0 := h0; have x1 := h1'; have x2 := h2'; have x3 := h3; have x4 := h4
          clear h0 h1' h2' h3 h4
          go_upto_region 17 with (fail)
          go_cut [18, 19] from 118 to 128 (fun sp se wy => ∃ (s : Nat), sp = .pointer (some ⟨s, 0, none⟩) ∧ se = .int .i64 0 ∧ wx.heap.size ≤ s ∧ s < wy.heap.size ∧ Below wx.heap.size wx wy ∧
                  wy.cell? ⟨s, 0, none⟩ = some (.int .i64 c) ∧ wy.cell? ⟨s, 1, none⟩ = some (.int .i64 n) ∧ wy.cell? ⟨s, 2, none⟩ = some (.int .i64 d) ∧ wy.cell? ⟨s, 3, none⟩ = some (.int .i64 LW) ∧ wy.cell? ⟨s, 4, none⟩ = some (.int .i64 (t + u)))
          case first =>
            clear m0 m1 m2 m3 m4 x0 x1 x2 x3 x4 hU UL UT HBK HP HH FX FG PX ht0 ht1 g1 g2 g3 g4 g5' g6' g7 g9 g10 g8b ha u1 u2 p1 p2 hqx hq gq wq
            go_region_with (go_at_call 11; ((with_reducible refine (C6.out _).mono ?_); rintro e w2 ⟨rfl, hb2⟩; have BB : Below wx.heap.size wx w2 := bt (by (repeat' (first | (with_reducible exact Below.refl _ _) | (with_reducible assumption) | (with_reducible refine Below.alloc ?_ ?_ _) | (with_reducible refine Below.drew ?_) | (with_reducible refine below_dn ?_) | (with_reducible refine Below.setCell ?_ ?_ _) | (with_reducible exact Nat.le_refl _) | omega | (simp only [World.size_alloc, World.size_setCell, World.size_drew]; omega) | (simp; omega) | (simp; done)))) hb2; have zq : wx.heap.size ≤ w2.heap.size := BB.size; (try (refine (have zz : wx.heap.size < w2.heap.size := ?hz; ?_); (case hz => (have hsz := hb2.size; simp at hsz; omega)))); have kb := fun (b o : Nat) (v : Value) h => keep (b := b) (o := o) (v := v) h hb2; have KB := Lib.hid kb; clear kb; (try (refine (have kf : ∀ o, w2.frozen? ⟨wx.heap.size, o, none⟩ = false := ?hkf; ?_); (case hkf => (intro o; rw [hb2.frozen (p := ⟨wx.heap.size, o, none⟩) ?hq]; (case hq => (simp; done)); (simp [go_sem]; done))))); (try (refine (have ka0 : w2.cell? ⟨wx.heap.size, 0, none⟩ = some (.int .i64 0) := ?hk0; ?_); (case hk0 => (refine KB.out _ _ _ ?_; (simp [go_sem]; done))))); (try (refine (have ka1 : w2.cell? ⟨wx.heap.size, 1, none⟩ = some (.int .i64 0) := ?hk1; ?_); (case hk1 => (refine KB.out _ _ _ ?_; (simp [go_sem]; done))))); (try (refine (have ka2 : w2.cell? ⟨wx.heap.size, 2, none⟩ = some (.int .i64 0) := ?hk2; ?_); (case hk2 => (refine KB.out _ _ _ ?_; (simp [go_sem]; done))))); (try (refine (have ka3 : w2.cell? ⟨wx.heap.size, 3, none⟩ = some (.int .i64 0) := ?hk3; ?_); (case hk3 => (refine KB.out _ _ _ ?_; (simp [go_sem]; done))))); (try (refine (have ka4 : w2.cell? ⟨wx.heap.size, 4, none⟩ = some (.int .i64 0) := ?hk4; ?_); (case hk4 => (refine KB.out _ _ _ ?_; (simp [go_sem]; done)))))))
            all_goals
              go_wp2_with fail
              go_meet
              first
              | exact ⟨w2.heap.size, rfl, rfl, by omega, by first | (simp; done) | (simp; omega) | omega, by (repeat' (first | (with_reducible exact Below.refl _ _) | (with_reducible assumption) | (with_reducible refine Below.alloc ?_ ?_ _) | (with_reducible refine Below.drew ?_) | (with_reducible refine below_dn ?_) | (with_reducible refine Below.setCell ?_ ?_ _) | (with_reducible exact Nat.le_refl _) | omega | (simp only [World.size_alloc, World.size_setCell, World.size_drew]; omega) | (simp; omega) | (simp; done))), (by first | (simp [go_sem]; done) | (go_cell; done) | (simp [*, go_sem]; done)), (by first | (simp [go_sem]; done) | (go_cell; done) | (simp [*, go_sem]; done)), (by first | (simp [go_sem]; done) | (go_cell; done) | (simp [*, go_sem]; done)), (by first | (simp [go_sem]; done) | (go_cell; done) | (simp [*, go_sem]; done)), (by first | (simp [go_sem]; done) | (go_cell; done) | (simp [*, go_sem]; done))⟩
              | exact ⟨wx.heap.size, rfl, rfl, by omega, by first | (simp; done) | (simp; omega) | omega, by (repeat' (first | (with_reducible exact Below.refl _ _) | (with_reducible assumption) | (with_reducible refine Below.alloc ?_ ?_ _) | (with_reducible refine Below.drew ?_) | (with_reducible refine below_dn ?_) | (with_reducible refine Below.setCell ?_ ?_ _) | (with_reducible exact Nat.le_refl _) | omega | (simp only [World.size_alloc, World.size_setCell, World.size_drew]; omega) | (simp; omega) | (simp; done))), (by first | (simp [go_sem]; done) | (go_cell; done) | (simp [*, go_sem]; done)), (by first | (simp [go_sem]; done) | (go_cell; done) | (simp [*, go_sem]; done)), (by first | (simp [go_sem]; done) | (go_cell; done) | (simp [*, go_sem]; done)), (by first | (simp [go_sem]; done) | (go_cell; done) | (simp [*, go_sem]; done)), (by first | (simp [go_sem]; done) | (go_cell; done) | (simp [*, go_sem]; done))⟩
          case rest =>
            rename World => wy
            obtain ⟨s, rfl, rfl, hs, hsy, hby, k0, k1, k2, k3, k4⟩ := hcut
            have By : Below w.heap.size w wy := bt Bc hby
            have zwy : w.heap.size < wy.heap.size := Nat.lt_of_lt_of_le zwx hby.size
            have gy : g < wy.heap.size := Nat.lt_of_lt_of_le gx hby.size
            have gs : g ≠ s := by omega
            have ws : w.heap.size ≠ s := by omega
            have wg : w.heap.size ≠ g := by omega
            have y0 := keep y0 hby; have y1 := keep y1 hby; have y2 := keep y2 hby; have y3 := keep y3 hby; have y4 := keep y4 hby
            have m0 := keep m0 hby; have m1 := keep m1 hby; have m2 := keep m2 hby; have m3 := keep m3 hby; have m4 := keep m4 hby
            have x0 := keep x0 hby; have x1 := keep x1 hby; have x2 := keep x2 hby; have x3 := keep x3 hby; have x4 := keep x4 hby
            have fx : ∀ o, wy.frozen? ⟨w.heap.size, o, none⟩ = false := fun o => (hby.frozen (p := ⟨w.heap.size, o, none⟩) zwx).trans (FX.out o)
            have fg : ∀ o, wy.frozen? ⟨g, o, none⟩ = false := fun o => (hby.frozen (p := ⟨g, o, none⟩) gx).trans (FG.out o)
            have PY := Lib.hid (PX.out.keep hby)
            clear FX FG PX hby C6 wv e2x
            go_upto_region 21 with (fail)
            obtain ⟨W1, hW1⟩ : ∃ z, (((((wy.setCell ⟨g, k * 5, none⟩ (.int .i64 cb)).setCell ⟨g, k * 5 + 1, none⟩ (.int .i64 nb)).setCell ⟨g, k * 5 + 2, none⟩ (.int .i64 d)).setCell ⟨g, k * 5 + 3, none⟩ (.int .i64 LP)).setCell ⟨g, k * 5 + 4, none⟩ (.int .i64 (t + u))) = z := ⟨_, rfl⟩
            rw [hW1]
            have hPut : putPart wy g k ⟨cb, nb, d, LP, t + u⟩ = W1 := hW1
            clear hW1
            have sW1 : W1.heap.size = wy.heap.size := by rw [← hPut]; exact putPart_size _ _ _ _
            have zwW : w.heap.size < W1.heap.size := by omega
            have gW : g < W1.heap.size := by omega
            have y0 : W1.cell? ⟨w.heap.size, 0, none⟩ = some (.int .i64 c) := by rw [← hPut, putPart_other _ _ _ _ _ _ (Or.inl wg)]; exact y0
            have y1 : W1.cell? ⟨w.heap.size, 1, none⟩ = some (.int .i64 n) := by rw [← hPut, putPart_other _ _ _ _ _ _ (Or.inl wg)]; exact y1
            have y2 : W1.cell? ⟨w.heap.size, 2, none⟩ = some (.int .i64 d) := by rw [← hPut, putPart_other _ _ _ _ _ _ (Or.inl wg)]; exact y2
            have y3 : W1.cell? ⟨w.heap.size, 3, none⟩ = some (.int .i64 L) := by rw [← hPut, putPart_other _ _ _ _ _ _ (Or.inl wg)]; exact y3
            have y4 : W1.cell? ⟨w.heap.size, 4, none⟩ = some (.int .i64 A) := by rw [← hPut, putPart_other _ _ _ _ _ _ (Or.inl wg)]; exact y4
            have k0 : W1.cell? ⟨s, 0, none⟩ = some (.int .i64 c) := by rw [← hPut, putPart_other _ _ _ _ _ _ (Or.inl (fun e => gs e.symm))]; exact k0
            have k1 : W1.cell? ⟨s, 1, none⟩ = some (.int .i64 n) := by rw [← hPut, putPart_other _ _ _ _ _ _ (Or.inl (fun e => gs e.symm))]; exact k1
            have k2 : W1.cell? ⟨s, 2, none⟩ = some (.int .i64 d) := by rw [← hPut, putPart_other _ _ _ _ _ _ (Or.inl (fun e => gs e.symm))]; exact k2
            have k3 : W1.cell? ⟨s, 3, none⟩ = some (.int .i64 LW) := by rw [← hPut, putPart_other _ _ _ _ _ _ (Or.inl (fun e => gs e.symm))]; exact k3
            have k4 : W1.cell? ⟨s, 4, none⟩ = some (.int .i64 (t + u)) := by rw [← hPut, putPart_other _ _ _ _ _ _ (Or.inl (fun e => gs e.symm))]; exact k4
            have fW : ∀ o, W1.frozen? ⟨w.heap.size, o, none⟩ = false := fun o => by rw [← hPut, putPart_frozen]; exact fx o
            have FGW := Lib.hid (show ∀ o, W1.frozen? ⟨g, o, none⟩ = false from fun o => by rw [← hPut, putPart_frozen]; exact fg o)
            have PW := Lib.hid (show PartsAt W1 g (ps.set k ⟨cb, nb, d, LP, t + u⟩) from by rw [← hPut]; exact putPart_set PY.out (by omega))
            have BW : Below w.heap.size w W1 := by rw [← hPut]; exact putPart_below By (by omega)
            clear hPut fx fg PY m0 m1 m2 m3 m4 x0 x1 x2 x3 x4 By Bc
            go_wp2
            go_roundw
            case rel =>
              refine ⟨i + 1, t + u, LW, t + u, _, by omega, by go_num, rfl, by omega, by omega, UT, by (repeat' (first | (with_reducible exact Below.refl _ _) | (with_reducible assumption) | (with_reducible refine Below.alloc ?_ ?_ _) | (with_reducible refine Below.drew ?_) | (with_reducible refine below_dn ?_) | (with_reducible refine Below.setCell ?_ ?_ _) | (with_reducible exact Nat.le_refl _) | omega | (simp only [World.size_alloc, World.size_setCell, World.size_drew]; omega) | (simp; omega) | (simp; done))), by simp; omega, by go_cell, by go_cell, by go_cell, by go_cell, by go_cell, ?_, ?_, ?_⟩
              · intro o
                show World.frozen? _ _ = _
                (repeat rw [World.frozen?_setCell])
                exact fW o
              · intro o
                show World.frozen? _ _ = _
                (repeat rw [World.frozen?_setCell])
                exact FGW.out o
              · exact ((((PW.out.store wg).store wg).store wg).store wg).store wg
            case measure => simp [intOf]; omega
        · have er' : (er == 0) = false := by simpa using hne'
          clear hne' OR2 h0 h1' h2' h3 h4 m0 m1 m2 m3 m4 e2x
          go_wp2
          go_roundw
          case rel => exact ⟨i + 1, t + u, L, A, ps, by omega, by go_num, rfl, by omega, by omega, UL, Bc, gx, y0, y1, y2, y3, y4, FX, FG, PX⟩
          case measure => simp [intOf]; omega
    · obtain rfl : i = ls.length := by omega
      go_wp2
      go_loopw [20] (fun jj wr2 => ∃ (j : Nat) (qs : List Bk), j ≤ cs.length ∧ jj = .int .i64 j ∧ qs.length = cs.length ∧ Hid (∀ k, k < cs.length → qs.getD k Bk.zero = if k < j then fillB t (ps.getD k Bk.zero) else ps.getD k Bk.zero) ∧ Below w.heap.size w wr2 ∧ g < wr2.heap.size ∧
          wr2.cell? ⟨w.heap.size, 0, none⟩ = some (.int .i64 c) ∧ wr2.cell? ⟨w.heap.size, 1, none⟩ = some (.int .i64 n) ∧ wr2.cell? ⟨w.heap.size, 2, none⟩ = some (.int .i64 d) ∧ wr2.cell? ⟨w.heap.size, 3, none⟩ = some (.int .i64 L) ∧ wr2.cell? ⟨w.heap.size, 4, none⟩ = some (.int .i64 A) ∧
          Hid (∀ o, wr2.frozen? ⟨g, o, none⟩ = false) ∧ Hid (PartsAt wr2 g qs)) (fun jj _ => cs.length - (intOf jj).toNat)
      case atStart => exact ⟨0, ps, by omega, rfl, hpl, fun k hk => by rw [if_neg (by omega)], hB, hgr, c0, c1, c2, c3, c4, hfg, hps⟩
      case round =>
        rename World => wr2
        obtain ⟨j, qs, hj, rfl, hql, hqs, hB2, hg2, y0, y1, y2, y3, y4, hf2, hp2⟩ := hrel
        have zw2 : w.heap.size < wr2.heap.size := by omega
        clear c0 c1 c2 c3 c4 hf hfg hps hB hgr zw
        by_cases hlt : j < cs.length
        · obtain ⟨x0, x1, x2, x3, x4⟩ := hp2.out j (by omega)
          have hqj := hqs.out j hlt
          rw [if_neg (by omega)] at hqj
          obtain ⟨okb, hbd, hba⟩ := hU.out.2.2.2.2.2.2.1 j hlt
          rw [hqj] at x0 x1 x2 x3 x4
          obtain ⟨⟨cb, nb, db, lb, ab⟩, hbk⟩ : ∃ z, ps.getD j Bk.zero = z := ⟨_, rfl⟩
          rw [hbk] at x0 x1 x2 x3 x4 okb hbd hba
          simp only at x0 x1 x2 x3 x4 hbd hba
          have RF := Lib.hid (fun W : World => refill_ok cb nb db lb ab t W okb hba (by omega))
          have HBK := Lib.hid hbk
          have wg : w.heap.size ≠ g := by omega
          clear okb hbd hba hbk hqj
          go_wp2_with fail
          refine (RF.out _).mono ?_
          rintro e w5 ⟨rfl, hb5⟩
          have B5 : Below w.heap.size w w5 := bt hB2 hb5
          have g5 : g < w5.heap.size := Nat.lt_of_lt_of_le hg2 hb5.size
          have z5 : w.heap.size < w5.heap.size := Nat.lt_of_lt_of_le zw2 hb5.size
          have y0 := keep y0 hb5; have y1 := keep y1 hb5; have y2 := keep y2 hb5; have y3 := keep y3 hb5; have y4 := keep y4 hb5
          have x0 := keep x0 hb5; have x1 := keep x1 hb5; have x2 := keep x2 hb5; have x3 := keep x3 hb5; have x4 := keep x4 hb5
          have f5 : ∀ o, w5.frozen? ⟨g, o, none⟩ = false := fun o => (hb5.frozen (p := ⟨g, o, none⟩) hg2).trans (hf2.out o)
          have P5 := Lib.hid (hp2.out.keep hb5)
          obtain ⟨LP, hLP⟩ : ∃ z, lvl cb nb db lb ab t = z := ⟨_, rfl⟩
          rw [hLP]
          have HLP := Lib.hid hLP
          clear hb5 RF hf2 hp2 hLP
          go_wp2
          go_roundw
          case rel =>
            obtain ⟨W1, hW1⟩ : ∃ z, (((((w5.setCell ⟨g, j * 5, none⟩ (.int .i64 cb)).setCell ⟨g, j * 5 + 1, none⟩ (.int .i64 nb)).setCell ⟨g, j * 5 + 2, none⟩ (.int .i64 db)).setCell ⟨g, j * 5 + 3, none⟩ (.int .i64 LP)).setCell ⟨g, j * 5 + 4, none⟩ (.int .i64 t)) = z := ⟨_, rfl⟩
            rw [hW1]
            have hPut : putPart w5 g j ⟨cb, nb, db, LP, t⟩ = W1 := hW1
            clear hW1
            have sW1 : W1.heap.size = w5.heap.size := by rw [← hPut]; exact putPart_size _ _ _ _
            have y0 : W1.cell? ⟨w.heap.size, 0, none⟩ = some (.int .i64 c) := by rw [← hPut, putPart_other _ _ _ _ _ _ (Or.inl wg)]; exact y0
            have y1 : W1.cell? ⟨w.heap.size, 1, none⟩ = some (.int .i64 n) := by rw [← hPut, putPart_other _ _ _ _ _ _ (Or.inl wg)]; exact y1
            have y2 : W1.cell? ⟨w.heap.size, 2, none⟩ = some (.int .i64 d) := by rw [← hPut, putPart_other _ _ _ _ _ _ (Or.inl wg)]; exact y2
            have y3 : W1.cell? ⟨w.heap.size, 3, none⟩ = some (.int .i64 L) := by rw [← hPut, putPart_other _ _ _ _ _ _ (Or.inl wg)]; exact y3
            have y4 : W1.cell? ⟨w.heap.size, 4, none⟩ = some (.int .i64 A) := by rw [← hPut, putPart_other _ _ _ _ _ _ (Or.inl wg)]; exact y4
            have fW : ∀ o, W1.frozen? ⟨g, o, none⟩ = false := fun o => by rw [← hPut, putPart_frozen]; exact f5 o
            have PW : PartsAt W1 g (qs.set j ⟨cb, nb, db, LP, t⟩) := by rw [← hPut]; exact putPart_set P5.out (by omega)
            have BW : Below w.heap.size w W1 := by rw [← hPut]; exact putPart_below B5 (by omega)
            clear hPut
            have al : ∀ (o : Obj), Below W1.heap.size W1 (W1.alloc o) := fun o => (Below.refl _ _).alloc (Nat.le_refl _) _
            refine ⟨j + 1, qs.set j ⟨cb, nb, db, LP, t⟩, by omega, by go_num, by simp [hql], ?_, by (repeat' (first | (with_reducible exact Below.refl _ _) | (with_reducible assumption) | (with_reducible refine Below.alloc ?_ ?_ _) | (with_reducible refine Below.drew ?_) | (with_reducible refine below_dn ?_) | (with_reducible refine Below.setCell ?_ ?_ _) | (with_reducible exact Nat.le_refl _) | omega | (simp only [World.size_alloc, World.size_setCell, World.size_drew]; omega) | (simp; omega) | (simp; done))), by simp; omega, keep y0 (al _), keep y1 (al _), keep y2 (al _), keep y3 (al _), keep y4 (al _), ?_, ?_⟩
            · intro k hk
              rw [getD_set _ _ _ _ (by omega)]
              by_cases e : k = j
              · rw [if_pos e, if_pos (by omega), e, HBK.out, ← HLP.out]; rfl
              · rw [if_neg e, hqs.out k hk]
                by_cases e2 : k < j
                · rw [if_pos e2, if_pos (by omega)]
                · rw [if_neg e2, if_neg (by omega)]
            · intro o
              exact (frozen?_alloc_cells _ _ _ _).trans (fW o)
            · exact PW.keep (al _)
          case measure => simp [intOf]; omega
        · obtain rfl : j = cs.length := by omega
          obtain ⟨goes, okm, hle⟩ := under_end hU.out h1 hql (fun k hk => by rw [hqs.out k hk, if_pos hk])
          have RF := Lib.hid (fun W : World => refill_ok c n d L A t W hU.out.2.2.2.1 hU.out.2.2.2.2.1 (by omega))
          have MF0 := fun (W : World) (hp : PartsAt W g qs) => merge_ok qs (some ⟨g, 0, none⟩) cs.length cs.length W hp.bkts (by omega) (by omega) (fun k hk => goes k (by omega)) hql.symm okm
          rw [hql] at MF0
          have MF := Lib.hid MF0
          obtain ⟨LV, hLV⟩ : ∃ z, lvl c n d L A t = z := ⟨_, rfl⟩
          obtain ⟨M, hM⟩ : ∃ z, tsum Bk.l qs = z := ⟨_, rfl⟩
          obtain ⟨Mc, hMc⟩ : ∃ z, tsum Bk.c qs = z := ⟨_, rfl⟩
          obtain ⟨Mn, hMn⟩ : ∃ z, tsum Bk.n qs = z := ⟨_, rfl⟩
          obtain ⟨⟨Qc, Qn, Qd, Ql, Qa⟩, hQ⟩ : ∃ z, qs.getD 0 Bk.zero = z := ⟨_, rfl⟩
          rw [hLV] at RF hle
          rw [hM] at hle MF
          rw [hMc, hMn, hQ] at MF
          clear MF0 goes okm hLV hM hMc hMn hQ hf2
          go_wp2_with fail
          refine (RF.out _).mono ?_
          rintro e w5 ⟨rfl, hb5⟩
          have B5 : Below w.heap.size w w5 := bt hB2 hb5
          have P5 := Lib.hid (hp2.out.keep hb5)
          have s5 : w.heap.size ≤ w5.heap.size := B5.size
          clear hb5 RF hp2 y0 y1 y2 y3 y4
          go_wp2_with fail
          refine (MF.out _ (P5.out.keep ((Below.refl _ _).alloc (Nat.le_refl _) _))).mono ?_
          rintro e w6 ⟨rfl, hb6⟩
          have B6 : Below w.heap.size w w6 := bt (by (repeat' (first | (with_reducible exact Below.refl _ _) | (with_reducible assumption) | (with_reducible refine Below.alloc ?_ ?_ _) | (with_reducible refine Below.drew ?_) | (with_reducible refine below_dn ?_) | (with_reducible refine Below.setCell ?_ ?_ _) | (with_reducible exact Nat.le_refl _) | omega | (simp only [World.size_alloc, World.size_setCell, World.size_drew]; omega) | (simp; omega) | (simp; done)))) hb6
          have q3 : w6.cell? ⟨w5.heap.size, 3, none⟩ = some (.int .i64 LV) := keep (by go_cell) hb6
          have z6 : w5.heap.size < w6.heap.size := by (have := hb6.size; (try simp at this); omega)
          have s6 : w.heap.size ≤ w6.heap.size := B6.size
          clear hb6 P5 MF
          go_wp2_with fail
          refine (sane' _).mono ?_
          rintro e w7 ⟨rfl, hb7⟩
          have B7 : Below w.heap.size w w7 := bt (by (repeat' (first | (with_reducible exact Below.refl _ _) | (with_reducible assumption) | (with_reducible refine Below.alloc ?_ ?_ _) | (with_reducible refine Below.drew ?_) | (with_reducible refine below_dn ?_) | (with_reducible refine Below.setCell ?_ ?_ _) | (with_reducible exact Nat.le_refl _) | omega | (simp only [World.size_alloc, World.size_setCell, World.size_drew]; omega) | (simp; omega) | (simp; done)))) hb7
          have q3 : w7.cell? ⟨w5.heap.size, 3, none⟩ = some (.int .i64 LV) := keep (by rw [World.cell?_alloc_past _ _ _ z6]; exact q3) hb7
          have r3 : w7.cell? ⟨w6.heap.size, 3, none⟩ = some (.int .i64 M) := keep (by go_cell) hb7
          clear hb7
          go_wp2
          go_ret
          exact ⟨ret_bool (by first | rfl | (apply decide_eq_true; omega) | (simp; omega)), by (repeat' (first | (with_reducible exact Below.refl _ _) | (with_reducible assumption) | (with_reducible refine Below.alloc ?_ ?_ _) | (with_reducible refine Below.drew ?_) | (with_reducible refine below_dn ?_) | (with_reducible refine Below.setCell ?_ ?_ _) | (with_reducible exact Nat.le_refl _) | omega | (simp only [World.size_alloc, World.size_setCell, World.size_drew]; omega) | (simp; omega) | (simp; done)))⟩
end Go.Proofs.Ytigalbgailnicaa
