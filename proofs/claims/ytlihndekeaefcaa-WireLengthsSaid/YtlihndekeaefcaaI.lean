/- Contracts of the functions of wire: lists of digests are read. -/
import Derived.Test.YtlihndekeaefcaaH
import Derived.Great.BuildSlice
namespace Go.Proofs.Ytlihndekeaefcaa
set_option linter.unusedVariables false
set_option linter.unusedSimpArgs false
open Go.RowKit
def GD (l : List Nat) : List Nat × Nat × Nat := if l.length < 16 then (List.replicate 16 0, 0, 10) else (l.take 16, 16, 0)
theorem GD_short {l : List Nat} (h : l.length < 16) : GD l = (List.replicate 16 0, 0, 10) := by unfold GD; rw [if_pos h]
theorem GD_ok {l : List Nat} (h : 16 ≤ l.length) : GD l = (l.take 16, 16, 0) := by unfold GD; rw [if_neg (by omega)]
def GDV (l : List Nat) : Value := .tuple #[.agg (dca (GD l).1), .int .i64 ((GD l).2.1 : Nat), .int .i64 ((GD l).2.2 : Nat)]
theorem dca_zero : dca (List.replicate 16 0) = Array.replicate 16 (.int .u8 0) := by rfl
theorem arrayAt57 (a : Addr) (cap : Nat) (W : World) : (Instr.arrayAt 57 (.slice (some a) 16 cap)).run Try.prog W = .ok (.pointer (some a)) W := by kernel_rfl
theorem results50d (tmps : Array Value) (W : World) (p : Addr) (C : Array Value) (x y : Value) (h2 : tmps.getD 2 undef = .pointer (some p)) (hl : (loadVar 57 p).run Try.prog W = .ok (.agg C) W) (h3 : tmps.getD 3 undef = x) (h4 : tmps.getD 4 undef = y) :
    (results Try.f50 tmps).run Try.prog W = .ok (.tuple #[.agg C, x, y]) W := by
  unfold results
  rw [show Try.f50.results = #[.cell 2 57, .tmp 3, .tmp 4] from by kernel_rfl]
  simp only [Array.getD_eq_getD_getElem?] at h2 h3 h4
  simp [h2, h3, h4, hl, asAddr]
set_option maxRecDepth 100000 in
set_option maxHeartbeats 1000000 in
theorem getDigest_any (a : Option Addr) (cap : Nat) (l : List Nat) (w : World) (hc : l.length ≤ cap) (hp : BytesA w a l) (hm : l.length ≤ 1000000) :
    Calls Try.prog 50 #[.slice a l.length cap] w fun e w' => e = .returned (GDV l) ∧ Below w.heap.size w w' := by
  by_cases h : l.length < 16
  · have HG := Lib.hid (GD_short h)
    clear hp
    go_enter Try.func50, Try.ntmps50
    go_wp2_with (refine wpStoreD rfl _ _ rfl rfl _ _ rfl rfl rfl rfl ?_)
    refine bodyPost_ret (v := .tuple #[.agg (dca (List.replicate 16 0)), .int .i64 0, .int .i64 10]) (results50d _ _ ⟨w.heap.size, 0, none⟩ _ _ _ rfl (loadVar_new w (dca (List.replicate 16 0)) rfl) rfl rfl) rfl ⟨by unfold GDV; rw [HG.out]; rfl, by (repeat' (first | (with_reducible exact Below.refl _ _) | (with_reducible assumption) | (with_reducible refine Below.alloc ?_ ?_ _) | (with_reducible refine Below.drew ?_) | (with_reducible refine below_dn ?_) | (with_reducible refine Below.setCell ?_ ?_ _) | (with_reducible exact Nat.le_refl _) | omega | (simp only [World.size_alloc, World.size_setCell, World.size_drew]; omega) | (simp; omega) | (simp; done)))⟩
  · obtain ⟨b, off, rfl, -, -⟩ := hp 0 (by omega)
    have hG := GD_ok (l := l) (by omega)
    have hld := load_digest (l.take 16) (dca (l.take 16)) rfl (by rw [List.length_take]; omega) (w.alloc (.cells (Array.replicate 16 (.int .u8 0)) 57)) b off (fun j hj => by
      obtain ⟨b', off', e, h1, h2⟩ := hp j (by omega)
      simp only [Option.some.injEq, Addr.mk.injEq, and_true] at e
      obtain ⟨rfl, rfl⟩ := e
      rw [getD_take (by omega)]
      exact keep h1 ((Below.refl _ _).alloc (Nat.le_refl _) _))
    have c1 : (dca (l.take 16)).size = 16 := by rw [dca_size, List.length_take]; omega
    have c2 := dca_cells (l.take 16)
    obtain ⟨C, hC⟩ : ∃ C, dca (l.take 16) = C := ⟨_, rfl⟩
    rw [hC] at hld c1 c2
    have HLD := Lib.hid hld
    have C1 := Lib.hid c1
    have C2 := Lib.hid c2
    have HC := Lib.hid hC
    have HG := Lib.hid hG
    clear hp hG hC hld c1 c2
    have har := arrayAt57
    go_enter Try.func50, Try.ntmps50
    go_wp2_with (first | (refine wpLoadD rfl _ rfl ⟨b, off, none⟩ rfl C HLD.out ?_) | (refine wpStoreD rfl _ _ rfl rfl C _ rfl C1.out rfl C2.out ?_))
    refine bodyPost_ret (v := .tuple #[.agg C, .int .i64 16, .int .i64 0]) (results50d _ _ ⟨w.heap.size, 0, none⟩ _ _ _ rfl (loadVar_new w C C1.out) rfl rfl) rfl ⟨by unfold GDV; rw [HG.out, HC.out]; rfl, by (repeat' (first | (with_reducible exact Below.refl _ _) | (with_reducible assumption) | (with_reducible refine Below.alloc ?_ ?_ _) | (with_reducible refine Below.drew ?_) | (with_reducible refine below_dn ?_) | (with_reducible refine Below.setCell ?_ ?_ _) | (with_reducible exact Nat.le_refl _) | omega | (simp only [World.size_alloc, World.size_setCell, World.size_drew]; omega) | (simp; omega) | (simp; done)))⟩
theorem infoD : (Try.prog.info? 57).map (fun i => (i.zero, i.size, i.bytes)) = some (some (.agg (Array.replicate 16 (.int .u8 0))), 16, 16) := by kernel_rfl
/-- The cells of digests, one behind the other. -/
def dcs (l : List (List Nat)) : List Value := l.flatMap fun d => d.map bv
/-- A row of digests of the call's own. -/
def OwnG (W : World) (B : Nat) (v : Value) (l : List (List Nat)) : Prop := W.ownsRow B 57 16 v l.length (dcs l)
theorem wpAppG {ops : Array Oper} {rest : List Oper} {o : Oper} {a : Act} {Q : Exit → Act → World → Prop} {w : World} (hgd : o.guard = none) (s x : Operand)
    (ho : o.op = .call { callee := .builtin .append, args := #[s, x], argTypes := #[24, 24] }) (B : Nat) (v : Value) (l : List (List Nat)) (hs : a.eval s = v) (hown : OwnG w B v l) (y : List Nat) (C : Array Value) (hC : dca y = C) (hy : y.length = 16)
    (hx : a.eval x = .slice (some ⟨w.heap.size, 0, none⟩) 1 1) (hl : l.length ≤ 1000000) (hB : B ≤ w.heap.size)
    (h : ∀ v' w', OwnG w' B v' (l ++ [y]) → Below B w w' → wpList Try.prog ops Q rest (a.put o.dst v') w') : wpList Try.prog ops Q (o :: rest) a (w.alloc (.cells C 57)) := by
  obtain ⟨i0, hi, hz0, hz1, hz2⟩ := info_parts infoD
  refine wpList_append_own _ hgd s x 24 ho B 57 i0 _ 16 16 Try.underlying24 hi hz0 hz1 hz2 rfl (by decide) v l.length (dcs l) hs (own_alloc hown _) ⟨w.heap.size, 0, none⟩ 1 1 (y.map bv) hx (by rw [List.length_map, hy]) (fun j u hj => by
    rw [add_off, Nat.zero_add, ← hC, World.cell?_alloc_new]
    unfold dca
    simpa using hj) (fun u hu => by obtain ⟨_, _, rfl⟩ := List.mem_map.1 hu; rfl) (by unfold maxLen; omega) (by omega) (by simp; omega) ?_
  intro v' w' h1 h2 _
  refine h v' w' ?_ (grown_below ((Below.refl _ _).alloc hB _) h2 (fun k hk => (own_lt hown k hk).1) (by simp; omega))
  unfold OwnG dcs
  rw [List.length_append, List.flatMap_append]
  simpa [dcs] using h1
theorem fill_dig (C : Array Value) (hC : C.size = 16) : Instr.fill (fun i => some (i * 16, 16)) ((Array.range (1 * 16)).map ((Value.agg (Array.replicate 16 (.int .u8 0))).cells[· % (Value.agg (Array.replicate 16 (.int .u8 0))).cells.size]!)) [(0, .agg C)] = some C := by
  have := Great.fill_whole (s := 16) (by omega) [.agg C] ((Array.range (1 * 16)).map ((Value.agg (Array.replicate 16 (.int .u8 0))).cells[· % (Value.agg (Array.replicate 16 (.int .u8 0))).cells.size]!)) (fun v hv => by
    rw [List.mem_singleton.1 hv]
    exact hC) (by simp)
  refine this.trans ?_
  simp only [List.flatMap_cons, List.flatMap_nil, List.append_nil]
  rfl
/-- A list of one digest is made. -/
theorem wpBuildD {ops : Array Oper} {rest : List Oper} {o : Oper} {a : Act} {Q : Exit → Act → World → Prop} {w : World} (hgd : o.guard = none) (x : Operand) (ho : o.op = .buildSlice 24 1 #[(0, x)]) (C : Array Value) (hx : a.eval x = .agg C) (hC : C.size = 16)
    (h : wpList Try.prog ops Q rest (a.put o.dst (.slice (some ⟨w.heap.size, 0, none⟩) 1 1)) (w.alloc (.cells C 57))) : wpList Try.prog ops Q (o :: rest) a w := by
  obtain ⟨i0, hi, hz0, hz1, hz2⟩ := info_parts infoD
  refine Go.wpList_buildSlice hgd 24 57 1 _ ho C i0 _ Try.underlying24 hi hz0 (by rw [hz1]; omega) (by rw [hz1]; omega) ?_ h
  rw [hz1]
  simp only [List.map_toArray, List.map_cons, List.map_nil, hx]
  exact fill_dig C hC
theorem GD_bd (l : List Nat) : (GD l).2.1 ≤ l.length ∧ (GD l).2.2 ≤ 11 ∧ (GD l).1.length = 16 := by
  unfold GD
  split
  · exact ⟨Nat.zero_le _, by simp, by simp⟩
  · exact ⟨by simp only; omega, by simp, by simp only [List.length_take]; omega⟩
set_option maxRecDepth 100000 in
set_option maxHeartbeats 4000000 in
theorem getListG_any (a : Option Addr) (cap : Nat) (l : List Nat) (w : World) (hc : l.length ≤ cap) (hp : BytesA w a l) (hm : l.length ≤ 1000000) :
    Calls Try.prog 49 #[.slice a l.length cap, .int .i64 16, .func (.func 50) #[] #[]] w (GivesL OwnG w.heap.size w (DL GD 16 l)) := by
  obtain ⟨i0, hi, hz0, hz1, hz2⟩ := info_parts infoD
  have HB := Lib.hid hp.lt
  obtain ⟨g1, g2, g3, g4, g5⟩ := GL_bd (s := 16) hp.lt hm
  have C := Lib.hid (getLength_any 16 a cap l w (by omega) (by omega) hp hm)
  unfold GLV at C
  have HP := Lib.hid hp; clear hp
  obtain ⟨n, u, e, hG⟩ : ∃ n u e, GL 16 l = (n, u, e) := ⟨_, _, _, rfl⟩
  rw [hG] at g1 g2 g3 g4 g5 C
  simp only at g1 g2 g3 g4 g5 C
  obtain ⟨n, rfl⟩ : ∃ m : Nat, n = m := ⟨n.toNat, by omega⟩
  by_cases he : e = 0
  · subst he
    have g2' : n ≤ l.length := by have := g2 rfl; omega
    rw [DL_ok (D := GD) hG]
    obtain ⟨R, hR⟩ : ∃ R, dlA GD n [] u l = R := ⟨_, rfl⟩
    rw [hR]
    have HR := Lib.hid hR; clear hR
    clear hG g2
    go_enter Try.func49, Try.ntmps49
    go_wp2_with fail
    refine C.out.mono ?_
    rintro e w1 ⟨rfl, rfl⟩
    go_wp2_with (at_make; refine wpList_make_own _ rfl _ _ 24 rfl w.heap.size 57 i0 _ 16 Try.underlying24 hi hz0 hz1 .i64 .i64 _ n rfl rfl rfl ?bytes ?maxLen ?base ?_)
    case bytes => rw [hz2]; omega
    case maxLen => unfold maxLen; omega
    case base => exact Nat.le_refl _
    intro w1 hown1 hgrow1
    have HO1 := Lib.hid (show OwnG w1 w.heap.size (.slice (some ⟨w.heap.size, 0, none⟩) 0 n) [] from hown1)
    have HB1 := Lib.hid (grown_below (Below.refl w.heap.size w) hgrow1 (fun k hk => by cases hk) (Nat.le_refl _))
    clear hown1 hgrow1
    go_wp2
    go_loopw [10, 12, 29] (fun uat ul ui wr => ∃ (i at' : Nat) (xs : List (List Nat)), i ≤ n ∧ at' ≤ l.length ∧ xs.length = i ∧ ui = .int .i64 i ∧ uat = .int .i64 at' ∧ Hid (OwnG wr w.heap.size ul xs) ∧ Hid (dlA GD (n - i) xs at' l = R) ∧ Hid (Below w.heap.size w wr)) (fun _ _ ui _ => n - (intOf ui).toNat)
    case atStart => exact ⟨0, u, [], by omega, g3, rfl, rfl, rfl, HO1, HR, HB1⟩
    case round =>
      obtain ⟨i, at', xs, hi1, hat, hxl, rfl, rfl, how, hdl, hbe⟩ := hrel
      have HXL := Lib.hid hxl; clear hxl
      by_cases hlt : i < n
      · have hsl := fun W => slice_l a l.length cap at' hat W
        have bd := GD_bd (l.drop at')
        have hcc := getDigest_any (cutA a cap at') (cap - at') (l.drop at') wr (by rw [List.length_drop]; omega) (cutA_drop (HP.out.mono hbe.out) hc hat) (by rw [List.length_drop]; omega)
        unfold GDV at hcc
        obtain ⟨x, m, e, hD⟩ : ∃ x m e, GD (l.drop at') = (x, m, e) := ⟨_, _, _, rfl⟩
        rw [hD, List.length_drop] at hcc
        rw [hD] at bd
        simp only [List.length_drop] at hcc bd
        obtain ⟨bd1, bd2, bd3⟩ := bd
        have c1 : (dca x).size = 16 := by rw [dca_size, bd3]
        have c2 := dca_cells x
        obtain ⟨D, hDC⟩ : ∃ D, dca x = D := ⟨_, rfl⟩
        rw [hDC] at hcc c1 c2
        have CC := Lib.hid hcc
        have C1 := Lib.hid c1
        have C2 := Lib.hid c2
        have HDC := Lib.hid hDC
        have B3 := Lib.hid bd3
        clear hcc c1 c2 hDC bd3
        have hdl' := hdl.out
        obtain ⟨r, hr⟩ : ∃ r, n - i = r + 1 := ⟨n - i - 1, by omega⟩
        rw [hr] at hdl'
        by_cases he : e = 0
        · subst he
          rw [dlA_ok hD] at hdl'
          have HDL := Lib.hid hdl'
          have HRR := Lib.hid hr
          clear hdl' hD hr
          go_wp2_with fail
          refine CC.out.mono ?_
          rintro e w2 ⟨rfl, hb2⟩
          have HB2 := Lib.hid (bt hbe.out hb2)
          have HO2 := Lib.hid (show OwnG (w2.alloc (.cells D 57)) w.heap.size _ xs from own_alloc (own_below how.out hb2) (.cells D 57))
          clear hb2
          go_wp2_with (first | (refine wpStoreD rfl _ _ rfl rfl D _ rfl C1.out rfl C2.out ?_) | (refine wpLoadD rfl _ rfl ⟨w2.heap.size, 0, none⟩ rfl D (loadVar_new w2 D C1.out) ?_) | (refine wpBuildD rfl _ rfl D rfl C1.out ?_) | (at_builtin; refine wpAppG rfl _ _ rfl w.heap.size _ _ rfl HO2.out x D HDC.out B3.out ?hx ?hlen ?hBB ?_))
          case hlen => have := HXL.out; omega
          case hBB => have := HB2.out.size; simp; omega
          intro v3 w3 h3 hb3
          have H3 := Lib.hid h3
          have HB3 := Lib.hid ((HB2.out.alloc HB2.out.size (.cells D 57)).trans hb3)
          clear h3 hb3
          go_wp2
          go_roundw
          case rel => exact ⟨i + 1, at' + m, xs ++ [x], by omega, by omega, by rw [List.length_append, List.length_singleton, HXL.out], by go_num, by go_num, H3, Lib.hid (by rw [show n - (i + 1) = r by have := HRR.out; omega]; exact HDL.out), HB3⟩
          case measure => simp [intOf]; omega
        · rw [dlA_err hD he] at hdl'
          have HDL := Lib.hid hdl'
          have he' : ((e : Int) == 0) = false := by simp; omega
          have he2 : ((e : Int) != 0) = true := by simp; omega
          clear hdl' hD hr he
          go_wp2_with fail
          refine CC.out.mono ?_
          rintro e w2 ⟨rfl, hb2⟩
          have HB2 := Lib.hid (bt hbe.out hb2)
          clear hb2
          go_wp2_with (refine wpStoreD rfl _ _ rfl rfl D _ rfl C1.out rfl C2.out ?_)
          go_ret3
          have hh := HDL.out
          subst hh
          exact ⟨_, rfl, World.ownsRow_nil _ _ _ _, HB2.out.alloc HB2.out.size _⟩
      · obtain rfl : i = n := by omega
        have hdl' := hdl.out
        rw [Nat.sub_self] at hdl'
        have HDL := Lib.hid (show (xs, at', 0) = R from hdl')
        clear hdl'
        go_wp2
        go_ret3
        have hh := HDL.out
        subst hh
        exact ⟨_, rfl, how.out, hbe.out⟩
  · have HL := Lib.hid (DL_err (D := GD) hG he)
    have he' : ((e : Int) == 0) = false := by simp; omega
    have he2 : ((e : Int) != 0) = true := by simp; omega
    clear hG g2 he
    go_enter Try.func49, Try.ntmps49
    go_wp2_with fail
    refine C.out.mono ?_
    rintro e w1 ⟨rfl, rfl⟩
    go_wp2
    go_ret3
    exact ⟨_, by rw [HL.out]; rfl, by rw [HL.out]; exact World.ownsRow_nil _ _ _ _, Below.refl _ _⟩
theorem getDigests_any (a : Option Addr) (cap : Nat) (l : List Nat) (w : World) (hc : l.length ≤ cap) (hp : BytesA w a l) (hm : l.length ≤ 1000000) :
    Calls Try.prog 34 #[.slice a l.length cap] w (GivesL OwnG w.heap.size w (DL GD 16 l)) := by
  have HP := Lib.hid hp; clear hp
  go_enter Try.func34, Try.ntmps34
  go_wp2_with fail
  refine (getListG_any a cap l w hc HP.out hm).mono ?_
  rintro e w1 ⟨v, rfl, hv, hb⟩
  go_wp2
  go_ret3
  exact ⟨_, rfl, hv, hb⟩
end Go.Proofs.Ytlihndekeaefcaa
