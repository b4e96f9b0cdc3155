/- Contracts: the reference's Halve. -/
import Derived.Test.YtmmjkhamknfhpaaDoorC
import Derived.Deep.RegionLaw
namespace Go.Proofs.YtmmjkhamknfhpaaDoor
set_option linter.unusedVariables false
set_option linter.unusedSimpArgs false
open Go.RowKit
theorem halve_take (l : List Int) (k : Nat) (h : k < l.length) : halve (l.take (k + 1)) = halve (l.take k) ++ [l.getD k 0 / 2] := by
  unfold halve
  rw [List.take_add_one, List.map_append, List.getElem?_eq_getElem h, List.getD_eq_getElem?_getD, List.getElem?_eq_getElem h]
  rfl
theorem OwnI.far {W : World} {B : Nat} {v : Value} {l : List Int} (h : OwnI W B v l) {p : Addr} (hp : p.block < B) (u : Value) : OwnI (W.setCell p u) B v l :=
  own_keep h fun k h1 h2 => Below.heap_setCell W p u k (by omega)
theorem OwnI.drewN {W : World} {B n : Nat} {v : Value} {l : List Int} (h : OwnI W B v l) : OwnI (W.drewN n) B v l := own_draw h
theorem OwnI.drew {W : World} {B : Nat} {v : Value} {l : List Int} (h : OwnI W B v l) : OwnI W.drew B v l := own_keep h fun _ _ _ => rfl
theorem OwnI.rowfar {W : World} {B g : Nat} {v : Value} {l : List Int} (h : OwnI W B v l) (hg : g < B) (cs : Array Value) : OwnI (W.setRow g cs) B v l := own_keep h fun k h1 h2 => setRow_other W g k cs (by omega)
theorem step_app_run {P : Program} {ops : Array Oper} {o : Oper} {a : Act} {w : World} {K : Act → World → Prop} {Q : Exit → Act → World → Prop} (hw : Region.wanted o (yielded ops a.tmps) = true) (s x : Operand) (t : TypeId)
    (ho : o.op = .call { callee := .builtin .append, args := #[s, x], argTypes := #[t, t] }) (v u v' : Value) (w' : World) (hs : a.eval s = v) (hx : a.eval x = u)
    (hr : (Builtin.append_ #[t, t] o.type #[v, u]).run P w = .ok v' w') (h : K (a.put o.dst v') w') : if Region.wanted o (yielded ops a.tmps) = true then Oper.wp P o a w K Q else K (a.put o.dst undef) w := by
  rw [if_pos hw]
  unfold Oper.wp execOp
  simp only [ho, resolve, invoke, builtin, Sem.run_bind, Sem.run_pure, Result.andThen_ok, List.map_toArray, List.map_cons, List.map_nil, hs, hx, hr]
  exact h
/-- One integer is appended to a row of the call's own: the run. -/
theorem run_appI (w : World) (B : Nat) (v : Value) (l : List Int) (y : Int) (hown : OwnI w B v l) (hl : l.length ≤ 1000000000) (hB : B ≤ w.heap.size) :
    ∃ b n c w', (Builtin.append_ #[22, 22] 22 #[v, .slice (some ⟨w.heap.size, 0, none⟩) 1 1]).run Tryd.prog (w.alloc (.cells #[.int .i64 y] 3)) = .ok (.slice b n c) w' ∧ OwnI w' B (.slice b n c) (l ++ [y]) ∧ Below B w w' := by
  obtain ⟨i0, hi, hz0, hz1, hz2⟩ := info_parts infoI
  have hs : Src Tryd.prog 1 22 (.slice (some ⟨w.heap.size, 0, none⟩) 1 1) [y].length ([y].map iv) (w.alloc (.cells #[.int .i64 y] 3)) :=
    src_ints (a := some ⟨w.heap.size, 0, none⟩) (cap := 1) (l := [y]) (fun k hk => by
      have : k = 0 := by simpa using hk
      subst this
      exact ⟨w.heap.size, 0, rfl, by simp [go_sem]⟩)
  obtain ⟨v', w', hr, h2, h3⟩ := run_app_src (P := Tryd.prog) (w.alloc (.cells #[.int .i64 y] 3)) B 22 22 22 3 i0 (.int .i64 0) Tryd.underlying22 hi hz0 (by rw [hz1]; rfl) (by rw [hz1]; decide) v l.length (l.map iv) (by rw [hz1]; exact own_alloc hown _) (.slice (some ⟨w.heap.size, 0, none⟩) 1 1) [y].length ([y].map iv) (by rw [hz1]; exact hs) (by unfold maxLen; simp; omega) (by rw [hz2]; simp; omega) (by simp; omega)
  have ho : OwnI w' B v' (l ++ [y]) := by
    unfold OwnI
    rw [List.length_append, List.map_append, ← hz1]
    exact h2
  obtain ⟨b2, c2, e, -, -⟩ := ho.view
  subst e
  exact ⟨b2, _, c2, w', hr, ho, grown_below ((Below.refl _ _).alloc hB _) h3 hown.lt (by simp; omega)⟩
set_option maxRecDepth 100000 in
set_option maxHeartbeats 400000 in
theorem halveref_any (W S A : Int) (a : Option Addr) (cap : Nat) (l : List Int) (w : World) (hp : IntsA w a l) (hm : l.length ≤ 1000000) (h0 : ∀ x ∈ l, 0 ≤ x ∧ x ≤ 15) (hA : 0 ≤ A) (hA2 : A ≤ 9223372036854775807) :
    Calls Tryd.prog 27 #[.agg #[.int .i64 W, .int .i64 S, .int .i64 A, .slice a l.length cap]] w fun e w' => (∃ b c, e = .returned (.agg #[.int .i64 W, .int .i64 S, .int .i64 (A / 2), .slice b l.length c]) ∧ l.length ≤ c ∧ IntsA w' b (halve l)) ∧ Below w.heap.size w w' := by
  have HP := Lib.hid hp
  have H0 := Lib.hid h0
  obtain ⟨n, hn⟩ : ∃ n, l.length = n := ⟨_, rfl⟩
  have HE := Lib.hid hn
  have eA : A.tdiv 2 = A / 2 := Int.tdiv_eq_ediv_of_nonneg hA
  have wA : IntKind.i64.wrap (A / 2) = A / 2 := by rw [IntKind.wrap_i64]; omega
  obtain ⟨A2, hA2'⟩ : ∃ x, A / 2 = x := ⟨_, rfl⟩
  rw [hA2'] at eA wA ⊢
  rw [hn] at hm ⊢
  clear hp hn h0 hA2' hA hA2
  go_enter Tryd.func27, Tryd.ntmps27
  go_wp2
  go_loopw [4] (fun u4 wr => ∃ (k : Nat) (v : Value), k ≤ n ∧ u4 = .int .i64 k ∧ Hid (OwnI wr (w.heap.size + 3) v (halve (l.take k))) ∧ Hid (Blk wr w.heap.size 24 #[.int .i64 W, .int .i64 S, .int .i64 A, .slice a n cap]) ∧ Hid (Blk wr (w.heap.size + 1) 24 #[.int .i64 0, .int .i64 0, .int .i64 0, .slice none 0 0]) ∧ Hid (Blk wr (w.heap.size + 1 + 1) 24 #[.int .i64 W, .int .i64 S, .int .i64 A2, v]) ∧ w.heap.size + 3 ≤ wr.heap.size ∧ Hid (Below w.heap.size w wr)) (fun u4 _ => n - (intOf u4).toNat)
  case atStart =>
    refine ⟨0, .slice none 0 0, by omega, rfl, Lib.hid (OwnI.nil _ _), Lib.hid (((Blk.new' w _ _ _ rfl rfl).alloc _).alloc _), Lib.hid ((Blk.new' _ _ _ _ (World.size_alloc _ _) rfl).alloc _), Lib.hid (Blk.new' _ _ _ _ (by simp) rfl), by simp, Lib.hid (by (repeat' (first | (with_reducible exact Below.refl _ _) | (with_reducible assumption) | (with_reducible refine Below.alloc ?_ ?_ _) | (with_reducible refine Below.drew ?_) | (with_reducible refine below_dn ?_) | (with_reducible refine Below.setCell ?_ ?_ _) | (with_reducible exact Nat.le_refl _) | omega | (simp only [World.size_alloc, World.size_setCell, World.size_drew]; omega) | (simp; omega) | (simp; done))))⟩
  case round =>
    obtain ⟨k, v, hk, rfl, HO, K1, K2, K3, hsz, hbe⟩ := hrel
    have c3 : wr.cell? ⟨w.heap.size, 3, none⟩ = some (.slice a n cap) := K1.out.cell 3
    by_cases hlt : k < n
    · obtain ⟨b, off, rfl, q1⟩ := (HP.out.mono hbe.out) k (by rw [HE.out]; exact hlt)
      have hs := halve_take l k (by rw [HE.out]; exact hlt)
      have hx0 := H0.out (l.getD k 0) (by rw [List.getD_eq_getElem?_getD, List.getElem?_eq_getElem (by rw [HE.out]; exact hlt)]; exact List.getElem_mem _)
      obtain ⟨x, hx⟩ : ∃ x, l.getD k 0 = x := ⟨_, rfl⟩
      rw [hx] at q1 hx0 hs
      have e1 : x.tdiv 2 = x / 2 := Int.tdiv_eq_ediv_of_nonneg hx0.1
      have e2 : IntKind.i64.wrap (x / 2) = x / 2 := by rw [IntKind.wrap_i64]; omega
      obtain ⟨y, hy⟩ : ∃ y, x / 2 = y := ⟨_, rfl⟩
      rw [hy] at e1 e2 hs
      have HS := Lib.hid hs
      have d3 : wr.cell? ⟨w.heap.size + 1 + 1, 3, none⟩ = some v := K3.out.cell 3
      have LN := Lib.hid (show (halve (l.take k)).length ≤ 1000000000 by rw [halve_len, List.length_take]; omega)
      have HOd := Lib.hid (show OwnI wr.drew (w.heap.size + 3) v (halve (l.take k)) from HO.out.drew)
      have HBd := Lib.hid (show w.heap.size + 3 ≤ wr.drew.heap.size from hsz)
      have D1 := Lib.hid (show Blk wr.drew w.heap.size 24 #[.int .i64 W, .int .i64 S, .int .i64 A, .slice (some ⟨b, off, none⟩) n cap] from K1.out)
      have D2 := Lib.hid (show Blk wr.drew (w.heap.size + 1) 24 #[.int .i64 0, .int .i64 0, .int .i64 0, .slice none 0 0] from K2.out)
      have D3 := Lib.hid (show Blk wr.drew (w.heap.size + 1 + 1) 24 #[.int .i64 W, .int .i64 S, .int .i64 A2, v] from K3.out)
      have BD := Lib.hid (show Below w.heap.size w wr.drew from Below.drew hbe.out)
      obtain ⟨b2, n2, c2, w3, hr, ho, hb3⟩ := run_appI wr.drew (w.heap.size + 3) v _ y HOd.out LN.out HBd.out
      have hr2 : (Builtin.append_ #[22, 22] 22 #[v, .slice (some ⟨wr.heap.size, 0, none⟩) 1 1]).run Tryd.prog ((wr.alloc (.cells #[.int .i64 y] 3)).drew) = .ok (.slice b2 n2 c2) w3 := hr
      have OX := Lib.hid (show OwnI w3 (w.heap.size + 3) (.slice b2 n2 c2) (halve (l.take (k + 1))) by rw [HS.out]; exact ho)
      have G1 := Lib.hid (D1.out.below hb3 (by omega))
      have G2 := Lib.hid (D2.out.below hb3 (by omega))
      have G3 := Lib.hid (D3.out.below hb3 (by omega))
      have z3 : w.heap.size + 3 ≤ w3.heap.size := Nat.le_trans HBd.out hb3.size
      have BX := Lib.hid (show Below w.heap.size w w3 from BD.out.trans (hb3.mono (by omega)))
      have g3 : w3.cell? ⟨w.heap.size + 1 + 1, 3, none⟩ = some v := G3.out.cell 3
      have f3 := G3.out.frozen 3
      have d4 : (World.drew (wr.alloc (.cells #[.int .i64 y] 3))).cell? ⟨w.heap.size + 1 + 1, 3, none⟩ = some v := (K3.out.alloc (.cells #[.int .i64 y] 3)).cell 3
      clear hx hx0 hy hs hr ho hb3 hbe K1 K2 K3 HO HOd D1 D2 D3 BD
      go_wp2
      go_region_law (refine step_app_run (by rfl) _ _ 22 rfl v _ (.slice b2 n2 c2) w3 rfl rfl hr2 ?_)
      all_goals
        go_wp2
        go_roundw
        case rel => exact ⟨k + 1, .slice b2 n2 c2, by omega, by go_num, Lib.hid (OX.out.far (by simp) _), Lib.hid (G1.out.far (by simp; omega) _), Lib.hid (G2.out.far (by simp) _), Lib.hid (show Blk _ _ _ _ from G3.out.set_ 3 _), by simp; omega, Lib.hid (BX.out.setCell (by simp; omega) _)⟩
        case measure => simp [intOf]; omega
    · have hkn : k = n := by omega
      have ho := HO.out
      rw [hkn, ← HE.out, List.take_length] at ho
      obtain ⟨b, c, rfl, hc, hi⟩ := ho.view
      have hln : (halve l).length = n := by rw [halve_len, HE.out]
      rw [hln] at hc K3
      have HI := Lib.hid hi; have HC := Lib.hid hc
      have IX := Lib.hid (show (Tryd.prog.info? 24).map (·.size) = some (#[.int .i64 W, .int .i64 S, .int .i64 A2, .slice b n c] : Array Value).size by kernel_rfl)
      have Ioq := Lib.hid (show (#[.int .i64 W, .int .i64 S, .int .i64 A2, .slice b n c] : Array Value).all (·.oneCell') = true by simp [Value.oneCell'])
      have OB := Lib.hid ho
      clear hkn hi hc hln HO ho
      go_wp2_with (first | (with_reducible refine wpList_load_all rfl _ _ rfl (w.heap.size + 1 + 1) rfl 24 _ _ K3.out Tryd.underlying24 IX.out ?_) | (with_reducible refine wpList_store_blk rfl _ _ _ rfl (w.heap.size + 1) 24 #[.int .i64 0, .int .i64 0, .int .i64 0, .slice none 0 0] #[.int .i64 W, .int .i64 S, .int .i64 A2, .slice b n c] rfl rfl K2.out IX.out rfl Ioq.out rfl ?_))
      refine bodyPost_ret (v := .agg #[.int .i64 W, .int .i64 S, .int .i64 A2, .slice b n c]) (results_cell_row rfl _ _ _ 24 _ (0, 0) _ rfl (K2.out.row_ _) Tryd.underlying24 rfl IX.out) rfl ⟨⟨b, c, rfl, HC.out, ?_⟩, below_setRow hbe.out (by omega) _⟩
      obtain ⟨b2, c2, e2, -, y2⟩ := (OB.out.rowfar (g := w.heap.size + 1) (by omega) #[.int .i64 W, .int .i64 S, .int .i64 A2, .slice b n c]).view
      injection e2 with e3
      subst e3
      exact y2
end Go.Proofs.YtmmjkhamknfhpaaDoor
