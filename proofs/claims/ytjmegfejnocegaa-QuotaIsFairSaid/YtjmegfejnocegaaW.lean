/- Contracts: the shares of accounts (the reference's Wants). -/
import Derived.Test.YtjmegfejnocegaaU
namespace Go.Proofs.Ytjmegfejnocegaa
set_option linter.unusedVariables false
set_option linter.unusedSimpArgs false
open Go.RowKit
abbrev OwnS := OwnR 32 2 encS
theorem encS_one (s : Sh) : ∀ v ∈ encS s, v.oneCell' = true := by
  intro v hv
  simp only [encS, List.mem_cons, List.not_mem_nil, or_false] at hv
  rcases hv with rfl | rfl <;> rfl
theorem own_far {w : World} {base e size n : Nat} {v : Value} {xs : List Value} (h : w.ownsRow base e size v n xs) {p : Addr} (hp : ∀ k, v.ownBlock = some k → k ≠ p.block) (u : Value) : (w.setCell p u).ownsRow base e size v n xs := by
  refine ⟨h.1, ?_⟩
  rcases h.2 with h0 | ⟨g, cap, cur, rfl, hb, hg, r⟩
  · exact Or.inl h0
  · exact Or.inr ⟨g, cap, cur, rfl, hb, (Below.heap_setCell w p u g (hp g rfl)).trans hg, r⟩
theorem app_oneS (w : World) (B : Nat) (v : Value) (l : List Sh) (x1 x2 : Int) (hown : OwnS w B v l) (hl : l.length ≤ 1000000) (hB : B ≤ w.heap.size) :
    ∃ b n c w', (Builtin.append_ #[22, 22] 22 #[v, .slice (some ⟨w.heap.size, 0, none⟩) 1 1]).run Try.prog (w.alloc (.cells #[.int .i64 x1, .int .i64 x2] 32)) = .ok (.slice b n c) w' ∧ OwnS w' B (.slice b n c) (l ++ [(x1, x2)]) ∧ Below B w w' := by
  obtain ⟨b, n, c, w', hr, ho, hb⟩ := run_app_rows (ty := 22) Try.underlying22 Try.underlying22 infoS rfl (by decide) (by decide) encS_len encS_one (w.alloc (.cells (encS (x1, x2)).toArray 32)) B v l (hown.alloc _) (some ⟨w.heap.size, 0, none⟩) 1 [(x1, x2)] (rows_one (enc := encS) w (x1, x2)) (by omega) (by simp) (by simp; omega)
  exact ⟨b, n, c, w', hr, ho, ((Below.refl _ _).alloc hB _).trans hb⟩
theorem takeS_snoc (l : List Sh) (k : Nat) (h : k < l.length) : l.take (k + 1) = l.take k ++ [l.getD k (0, 0)] := take_snoc l k h
set_option maxRecDepth 100000 in
set_option maxHeartbeats 2000000 in
theorem wants_any (a : Option Addr) (cap : Nat) (l : List Ac) (x m : Int) (w : World) (hp : AcA w a l) (hok : OkA l) (hh : hasA l x = true) (hm0 : 0 ≤ m) (hm1 : m ≤ 1099511627776) :
    Calls Try.prog 31 #[.slice a l.length cap, .int .i64 x, .int .i64 m] w fun e w' => ∃ b c, e = .returned (.slice b l.length c) ∧ ShA w' b (wantsL l (posA l x) m) ∧ Below w.heap.size w w' := by
  have hm := hok.2
  have HP := Lib.hid hp; have HK := Lib.hid hok
  have IFF := Lib.hid (show ∀ k, k < l.length → ((l.getD k (0, 0, 0)).1 = x ↔ k = posA l x) from fun k hk => ⟨fun e => (hok.only hk e).1, fun e => by rw [e]; exact ((hasA_iff l x).1 hh).2⟩)
  obtain ⟨p, hpp⟩ : ∃ p, posA l x = p := ⟨_, rfl⟩
  rw [hpp] at IFF ⊢
  have WL := Lib.hid (wantsL_len l p m)
  have WA := Lib.hid (fun i h => wantsL_at l p m i h)
  obtain ⟨N, hN⟩ : ∃ N, l.length = N := ⟨_, rfl⟩
  have HE := Lib.hid hN
  rw [hN] at hm WL IFF ⊢
  obtain ⟨Z, hZ⟩ : ∃ Z, w.heap.size = Z := ⟨_, rfl⟩
  have HZ := Lib.hid hZ
  rw [hZ]
  clear hp hok hN hpp hZ hh
  go_enter Try.func31, Try.ntmps31
  go_wp2
  go_loopw [7, 8, 9] (fun u7 u8 _ wr => ∃ (k : Nat), k ≤ N ∧ u8 = .int .i64 k ∧ Hid (OwnS wr Z u7 ((wantsL l p m).take k)) ∧ Z ≤ wr.heap.size ∧ Hid (Below Z w wr)) (fun _ u8 _ _ => N - (intOf u8).toNat)
  case atStart => exact ⟨0, by omega, rfl, Lib.hid (OwnR.nil _ _ _ _ _), by rw [HZ.out]; exact Nat.le_refl _, Lib.hid (Below.refl _ _)⟩
  case round =>
    obtain ⟨k, hk, rfl, ho, hzr, hbe⟩ := hrel
    by_cases hlt : k < N
    · obtain ⟨b, off, rfl, q0, q1, q2⟩ := AcA.at_ (HP.out.mono (by rw [HZ.out]; exact hbe.out)) (k := k) (by rw [HE.out]; exact hlt)
      obtain ⟨-, -, o3, o4⟩ := HK.out.w (j := k) (by rw [HE.out]; exact hlt)
      have hst := takeS_snoc (wantsL l p m) k (by rw [WL.out]; exact hlt)
      rw [WA.out k (by rw [HE.out]; exact hlt)] at hst
      have hif := IFF.out k hlt
      have LN := Lib.hid (show ((wantsL l p m).take k).length ≤ 999999 by rw [List.length_take]; omega)
      obtain ⟨y, hy⟩ : ∃ y, l.getD k (0, 0, 0) = y := ⟨_, rfl⟩
      rw [hy] at q0 q1 q2 o3 o4 hst hif
      obtain ⟨y1, y2, y3⟩ := y
      simp only at q0 q1 q2 o3 o4 hst hif
      have r1 : (wr.alloc (.cells #[.int .i64 0, .int .i64 0] 32)).cell? ⟨b, off + k * 3 + 1, none⟩ = some (.int .i64 y2) := by rw [World.cell?_alloc_past _ _ _ (block_lt_of_cell q1)]; exact q1
      have r2 : (wr.alloc (.cells #[.int .i64 0, .int .i64 0] 32)).cell? ⟨b, off + k * 3 + 2, none⟩ = some (.int .i64 y3) := by rw [World.cell?_alloc_past _ _ _ (block_lt_of_cell q2)]; exact q2
      clear hy
      by_cases hkp : k = p
      · have e1 : y1 = x := hif.2 hkp
        rw [if_pos hkp] at hst
        have d0 : (y1 == x) = true := by rw [e1]; simp
        have d0' : decide (y1 = x) = true := decide_eq_true e1
        obtain ⟨V, hV⟩ : ∃ V, y3 + m = V := ⟨_, rfl⟩
        rw [hV] at hst
        obtain ⟨T, hT⟩ : ∃ T, min V 1099511627776 = T := ⟨_, rfl⟩
        rw [hT] at hst
        have hT2 : min 1099511627776 V = T := by rw [← hT]; omega
        have hT3 : (if V < 1099511627776 then V else 1099511627776) = T := by rw [← hT]; omega
        have HST := Lib.hid hst
        obtain ⟨w1, hw1⟩ : ∃ W, (wr.alloc (.cells #[.int .i64 y2, .int .i64 y3] 32)).drew = W := ⟨_, rfl⟩
        have O1 : OwnS w1 Z u7 ((wantsL l p m).take k) := by rw [← hw1]; exact (ho.out.alloc _).drew
        have KB : Blk w1 wr.heap.size 32 #[.int .i64 y2, .int .i64 y3] := by rw [← hw1]; exact Blk.new wr _ _
        have B1 : Below Z w w1 := by rw [← hw1]; exact Below.drew (hbe.out.alloc hzr _)
        have z1 : Z ≤ w1.heap.size := by rw [← hw1]; simp; omega
        have c1 : w1.cell? ⟨wr.heap.size, 0, none⟩ = some (.int .i64 y2) := KB.cell 0
        have c2 : w1.cell? ⟨wr.heap.size, 1, none⟩ = some (.int .i64 y3) := KB.cell 1
        have f2 : w1.frozen? ⟨wr.heap.size, 1, none⟩ = false := KB.frozen 1
        have p0 : w1.cell? ⟨b, off + k * 3, none⟩ = some (.int .i64 y1) := by rw [← hw1]; exact (World.cell?_alloc_past _ _ _ (block_lt_of_cell q0)).trans q0
        have O2 : OwnS (w1.setCell ⟨wr.heap.size, 1, none⟩ (.int .i64 T)) Z u7 ((wantsL l p m).take k) := own_far O1 (fun q hq => Nat.ne_of_lt (own_lt ho.out q hq).2) _
        obtain ⟨w2, hw2⟩ : ∃ W, w1.setCell ⟨wr.heap.size, 1, none⟩ (.int .i64 T) = W := ⟨_, rfl⟩
        have K2 : Blk w2 wr.heap.size 32 #[.int .i64 y2, .int .i64 T] := by rw [← hw2]; exact KB.set_ 1 _
        have B2 : Below Z w w2 := by rw [← hw2]; exact B1.setCell (by simp; omega) _
        have z2 : Z ≤ w2.heap.size := by rw [← hw2]; simp; omega
        rw [hw2] at O2
        have g1 : w2.cell? ⟨wr.heap.size, 0, none⟩ = some (.int .i64 y2) := K2.cell 0
        have g2 : w2.cell? ⟨wr.heap.size, 1, none⟩ = some (.int .i64 T) := K2.cell 1
        obtain ⟨b3, n3, c3, w3, hr3, ho3, hb3⟩ := app_oneS w2 Z u7 _ y2 T O2 (by have := LN.out; omega) z2
        have HR3 := Lib.hid hr3
        have O3 := Lib.hid (show OwnS w3 Z (.slice b3 n3 c3) ((wantsL l p m).take (k + 1)) by rw [HST.out]; exact ho3)
        have B3 := Lib.hid (B2.trans hb3)
        have z3 : Z ≤ w3.heap.size := Nat.le_trans z2 hb3.size
        have HW1 := Lib.hid hw1; have HW2 := Lib.hid hw2
        clear hst hif hkp e1 hw1 hw2 O1 O2 B1 B2 hr3 ho3 hb3 KB K2
        go_wp2
        go_region
        rw [HW1.out]
        go_upto_region 8 with (fail)
        rw [HW2.out]
        go_wp2_with (at_builtin; refine wpList_app_run rfl _ _ 22 22 rfl _ _ _ w3 rfl rfl HR3.out ?_)
        go_roundw
        case rel => exact ⟨k + 1, by omega, by go_num, O3, z3, B3⟩
        case measure => simp [intOf]; omega
      · have e1 : ¬ y1 = x := fun e => hkp (hif.1 e)
        rw [if_neg hkp] at hst
        have d0 : (y1 == x) = false := beq_eq_false_iff_ne.2 e1
        have d0' : decide (y1 = x) = false := decide_eq_false e1
        have HST := Lib.hid hst
        obtain ⟨w1, hw1⟩ : ∃ W, (wr.alloc (.cells #[.int .i64 y2, .int .i64 y3] 32)).drew = W := ⟨_, rfl⟩
        have O1 : OwnS w1 Z u7 ((wantsL l p m).take k) := by rw [← hw1]; exact (ho.out.alloc _).drew
        have B1 : Below Z w w1 := by rw [← hw1]; exact Below.drew (hbe.out.alloc hzr _)
        have z1 : Z ≤ w1.heap.size := by rw [← hw1]; simp; omega
        have c1 : w1.cell? ⟨wr.heap.size, 0, none⟩ = some (.int .i64 y2) := by rw [← hw1]; simp [go_sem]
        have c2 : w1.cell? ⟨wr.heap.size, 1, none⟩ = some (.int .i64 y3) := by rw [← hw1]; simp [go_sem]
        have p0 : w1.cell? ⟨b, off + k * 3, none⟩ = some (.int .i64 y1) := by rw [← hw1]; exact (World.cell?_alloc_past _ _ _ (block_lt_of_cell q0)).trans q0
        obtain ⟨b3, n3, c3, w3, hr3, ho3, hb3⟩ := app_oneS w1 Z u7 _ y2 y3 O1 (by have := LN.out; omega) z1
        have HR3 := Lib.hid hr3
        have O3 := Lib.hid (show OwnS w3 Z (.slice b3 n3 c3) ((wantsL l p m).take (k + 1)) by rw [HST.out]; exact ho3)
        have B3 := Lib.hid (B1.trans hb3)
        have z3 : Z ≤ w3.heap.size := Nat.le_trans z1 hb3.size
        have HW1 := Lib.hid hw1
        clear hst hif hkp e1 hw1 O1 B1 hr3 ho3 hb3
        go_wp2
        go_region
        rw [HW1.out]
        go_wp2_with (at_builtin; go_loud (refine wpList_app_run rfl _ _ 22 22 rfl _ _ _ w3 rfl rfl HR3.out ?_))
        go_roundw
        case rel => exact ⟨k + 1, by omega, by go_num, O3, z3, B3⟩
        case measure => simp [intOf]; omega
    · have hkN : k = N := by omega
      have O3 := Lib.hid (show OwnS wr Z u7 (wantsL l p m) by have := ho.out; rw [List.take_of_length_le (by rw [WL.out]; omega)] at this; exact this)
      obtain ⟨b3, c3, rfl, -, hi⟩ := O3.out.view encS_len
      rw [WL.out]
      have HI := Lib.hid hi
      clear ho hi O3 hkN
      go_wp2
      go_ret
      exact ⟨b3, c3, rfl, HI.out, hbe.out⟩
end Go.Proofs.Ytjmegfejnocegaa
