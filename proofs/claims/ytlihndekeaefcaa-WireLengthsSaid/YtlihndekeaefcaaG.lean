/- Contracts of the functions of wire: lists are read. -/
import Derived.Test.YtlihndekeaefcaaF
namespace Go.Proofs.Ytlihndekeaefcaa
set_option linter.unusedVariables false
set_option linter.unusedSimpArgs false
open Go.RowKit
theorem infoI : (Try.prog.info? 3).map (fun i => (i.zero, i.size, i.bytes)) = some (some (.int .i64 0), 1, 8) := by kernel_rfl
theorem infoS : (Try.prog.info? 9).map (fun i => (i.zero, i.size, i.bytes)) = some (some (.string ByteArray.empty), 1, 16) := by kernel_rfl
/-- Rows of integers, and of strings, of the call's own. -/
def OwnI (W : World) (B : Nat) (v : Value) (l : List Int) : Prop := W.ownsRow B 3 1 v l.length (l.map (Value.int .i64))
def OwnS (W : World) (B : Nat) (v : Value) (l : List ByteArray) : Prop := W.ownsRow B 9 1 v l.length (l.map Value.string)
/-- One element is appended. -/
theorem wpAppI {ops : Array Oper} {rest : List Oper} {o : Oper} {a : Act} {Q : Exit → Act → World → Prop} {w : World} (hgd : o.guard = none) (s x : Operand)
    (ho : o.op = .call { callee := .builtin .append, args := #[s, x], argTypes := #[22, 22] }) (B : Nat) (v : Value) (l : List Int) (hs : a.eval s = v) (hown : OwnI w B v l) (y : Int)
    (hx : a.eval x = .slice (some ⟨w.heap.size, 0, none⟩) 1 1) (hl : l.length ≤ 1000000000) (hB : B ≤ w.heap.size)
    (h : ∀ v' w', OwnI w' B v' (l ++ [y]) → Below B w w' → wpList Try.prog ops Q rest (a.put o.dst v') w') : wpList Try.prog ops Q (o :: rest) a (w.alloc (.cells #[.int .i64 y] 3)) := by
  obtain ⟨i0, hi, hz0, hz1, hz2⟩ := info_parts infoI
  refine wpList_append_own _ hgd s x 22 ho B 3 i0 (.int .i64 0) 1 8 Try.underlying22 hi hz0 hz1 hz2 rfl (by decide) v l.length (l.map (Value.int .i64)) hs (own_alloc hown _) ⟨w.heap.size, 0, none⟩ 1 1 [.int .i64 y] hx rfl (cell_one_new _ _ _) (by simp [Value.oneCell']) (by unfold maxLen; omega) (by omega) (by simp; omega) ?_
  intro v' w' h1 h2 _
  refine h v' w' ?_ (grown_below ((Below.refl _ _).alloc hB _) h2 (fun k hk => (own_lt hown k hk).1) (by simp; omega))
  unfold OwnI
  rw [List.length_append, List.map_append]
  exact h1
theorem wpAppT {ops : Array Oper} {rest : List Oper} {o : Oper} {a : Act} {Q : Exit → Act → World → Prop} {w : World} (hgd : o.guard = none) (s x : Operand)
    (ho : o.op = .call { callee := .builtin .append, args := #[s, x], argTypes := #[23, 23] }) (B : Nat) (v : Value) (l : List ByteArray) (hs : a.eval s = v) (hown : OwnS w B v l) (y : ByteArray)
    (hx : a.eval x = .slice (some ⟨w.heap.size, 0, none⟩) 1 1) (hl : l.length ≤ 1000000000) (hB : B ≤ w.heap.size)
    (h : ∀ v' w', OwnS w' B v' (l ++ [y]) → Below B w w' → wpList Try.prog ops Q rest (a.put o.dst v') w') : wpList Try.prog ops Q (o :: rest) a (w.alloc (.cells #[.string y] 9)) := by
  obtain ⟨i0, hi, hz0, hz1, hz2⟩ := info_parts infoS
  refine wpList_append_own _ hgd s x 23 ho B 9 i0 (.string ByteArray.empty) 1 16 Try.underlying23 hi hz0 hz1 hz2 rfl (by decide) v l.length (l.map Value.string) hs (own_alloc hown _) ⟨w.heap.size, 0, none⟩ 1 1 [.string y] hx rfl (cell_one_new _ _ _) (by simp [Value.oneCell']) (by unfold maxLen; omega) (by omega) (by simp; omega) ?_
  intro v' w' h1 h2 _
  refine h v' w' ?_ (grown_below ((Below.refl _ _).alloc hB _) h2 (fun k hk => (own_lt hown k hk).1) (by simp; omega))
  unfold OwnS
  rw [List.length_append, List.map_append]
  exact h1
/-- A list is read, element by element. -/
def dlA {α : Type} (D : List Nat → α × Nat × Nat) : Nat → List α → Nat → List Nat → List α × Nat × Nat
  | 0, acc, at', _ => (acc, at', 0)
  | n + 1, acc, at', l => if (D (l.drop at')).2.2 ≠ 0 then ([], 0, (D (l.drop at')).2.2) else dlA D n (acc ++ [(D (l.drop at')).1]) (at' + (D (l.drop at')).2.1) l
def DL {α : Type} (D : List Nat → α × Nat × Nat) (s : Nat) (l : List Nat) : List α × Nat × Nat :=
  if (GL s l).2.2 ≠ 0 then ([], 0, (GL s l).2.2) else dlA D (GL s l).1.toNat [] (GL s l).2.1 l
theorem DL_err {α : Type} {D : List Nat → α × Nat × Nat} {s : Nat} {l : List Nat} {n : Int} {u e : Nat} (h : GL s l = (n, u, e)) (he : e ≠ 0) : DL D s l = ([], 0, e) := by unfold DL; rw [h]; simp [he]
theorem DL_ok {α : Type} {D : List Nat → α × Nat × Nat} {s : Nat} {l : List Nat} {n u : Nat} (h : GL s l = ((n : Int), u, 0)) : DL D s l = dlA D n [] u l := by unfold DL; rw [h]; simp
theorem dlA_err {α : Type} {D : List Nat → α × Nat × Nat} {n at' : Nat} {acc : List α} {l : List Nat} {x : α} {u e : Nat} (h : D (l.drop at') = (x, u, e)) (he : e ≠ 0) : dlA D (n + 1) acc at' l = ([], 0, e) := by
  rw [dlA, h]; simp [he]
theorem dlA_ok {α : Type} {D : List Nat → α × Nat × Nat} {n at' : Nat} {acc : List α} {l : List Nat} {x : α} {u : Nat} (h : D (l.drop at') = (x, u, 0)) : dlA D (n + 1) acc at' l = dlA D n (acc ++ [x]) (at' + u) l := by
  rw [dlA, h]; simp
def GivesL {α : Type} (own : World → Nat → Value → List α → Prop) (B : Nat) (w : World) (r : List α × Nat × Nat) (e : Ending) (w' : World) : Prop :=
  ∃ v, e = .returned (.tuple #[v, .int .i64 (r.2.1 : Nat), .int .i64 (r.2.2 : Nat)]) ∧ own w' B v r.1 ∧ Below B w w'
def GBs (l : List Nat) : ByteArray × Nat × Nat := (strB (GB l).1, (GB l).2.1, (GB l).2.2)
theorem GB_bd {l : List Nat} (hb : ∀ x ∈ l, x < 256) (hm : l.length ≤ 1000000) : (GB l).2.1 ≤ l.length ∧ (GB l).2.2 ≤ 11 := by
  obtain ⟨g1, g2, g3, g4, g5⟩ := GL_bd (s := 1) hb hm
  unfold GB
  split
  · exact ⟨Nat.zero_le _, g4⟩
  · rename_i h
    have := g2 (by omega)
    rw [Nat.div_one] at this
    exact ⟨by simp only; omega, by simp⟩
theorem cutA_drop {W : World} {a : Option Addr} {l : List Nat} {cap u : Nat} (h : BytesA W a l) (hc : l.length ≤ cap) (hu : u ≤ l.length) : BytesA W (cutA a cap u) (l.drop u) := by
  have h2 := cutA_bytes (u := u) h hc (l.length - u) (by omega)
  have e : (l.drop u).take (l.length - u) = l.drop u := List.take_of_length_le (by rw [List.length_drop]; exact Nat.le_refl _)
  rwa [e] at h2
theorem drop_lt {l : List Nat} (h : ∀ x ∈ l, x < 256) (n : Nat) : ∀ x ∈ l.drop n, x < 256 := fun x hx => h x (List.mem_of_mem_drop hx)
set_option maxRecDepth 100000 in
set_option maxHeartbeats 2000000 in
theorem getListI_any (a : Option Addr) (cap : Nat) (l : List Nat) (w : World) (hc : l.length ≤ cap) (hp : BytesA w a l) (hm : l.length ≤ 1000000) :
    Calls Try.prog 46 #[.slice a l.length cap, .int .i64 1, .func (.func 24) #[] #[]] w (GivesL OwnI w.heap.size w (DL G 1 l)) := by
  obtain ⟨i0, hi, hz0, hz1, hz2⟩ := info_parts infoI
  have HB := Lib.hid hp.lt
  obtain ⟨g1, g2, g3, g4, g5⟩ := GL_bd (s := 1) hp.lt hm
  have C := Lib.hid (getLength_any 1 a cap l w (by omega) (by omega) hp hm)
  unfold GLV at C
  have HP := Lib.hid hp; clear hp
  obtain ⟨n, u, e, hG⟩ : ∃ n u e, GL 1 l = (n, u, e) := ⟨_, _, _, rfl⟩
  rw [hG] at g1 g2 g3 g4 g5 C
  simp only [Nat.div_one] at g1 g2 g3 g4 g5 C
  obtain ⟨n, rfl⟩ : ∃ m : Nat, n = m := ⟨n.toNat, by omega⟩
  by_cases he : e = 0
  · subst he
    have g2' := g2 rfl
    rw [DL_ok (D := G) hG]
    obtain ⟨R, hR⟩ : ∃ R, dlA G n [] u l = R := ⟨_, rfl⟩
    rw [hR]
    have HR := Lib.hid hR; clear hR
    clear hG g2
    go_enter Try.func46, Try.ntmps46
    go_wp2_with fail
    refine C.out.mono ?_
    rintro e w1 ⟨rfl, rfl⟩
    go_wp2_with (at_make; refine wpList_make_own _ rfl _ _ 22 rfl w.heap.size 3 i0 (.int .i64 0) 1 Try.underlying22 hi hz0 hz1 .i64 .i64 _ n rfl rfl rfl ?bytes ?maxLen ?base ?_)
    case bytes => rw [hz2]; omega
    case maxLen => unfold maxLen; omega
    case base => exact Nat.le_refl _
    intro w1 hown1 hgrow1
    have HO1 := Lib.hid (show OwnI w1 w.heap.size (.slice (some ⟨w.heap.size, 0, none⟩) 0 n) [] from hown1)
    have HB1 := Lib.hid (grown_below (Below.refl w.heap.size w) hgrow1 (fun k hk => by cases hk) (Nat.le_refl _))
    clear hown1 hgrow1
    go_wp2
    go_loopw [10, 12, 29] (fun uat ul ui wr => ∃ (i at' : Nat) (xs : List Int), i ≤ n ∧ at' ≤ l.length ∧ xs.length = i ∧ ui = .int .i64 i ∧ uat = .int .i64 at' ∧ Hid (OwnI wr w.heap.size ul xs) ∧ Hid (dlA G (n - i) xs at' l = R) ∧ Hid (Below w.heap.size w wr)) (fun _ _ ui _ => n - (intOf ui).toNat)
    case atStart => exact ⟨0, u, [], by omega, g3, rfl, rfl, rfl, HO1, HR, HB1⟩
    case round =>
      obtain ⟨i, at', xs, hi1, hat, hxl, rfl, rfl, how, hdl, hbe⟩ := hrel
      have HXL := Lib.hid hxl; clear hxl
      by_cases hlt : i < n
      · have hsl := fun W => slice_l a l.length cap at' hat W
        have bd := G_bd (drop_lt HB.out at')
        have hcc := getInt_any (cutA a cap at') (cap - at') (l.drop at') wr (cutA_drop (HP.out.mono hbe.out) hc hat) (by rw [List.length_drop]; omega)
        unfold GV at hcc
        obtain ⟨x, m, e, hD⟩ : ∃ x m e, G (l.drop at') = (x, m, e) := ⟨_, _, _, rfl⟩
        have hD2 := hD
        rw [hD, List.length_drop] at hcc
        rw [hD] at bd
        simp only [List.length_drop] at hcc bd
        obtain ⟨-, -, bd1, -, bd2⟩ := bd
        have CC := Lib.hid hcc
        clear hcc
        have hdl' := hdl.out
        obtain ⟨r, hr⟩ : ∃ r, n - i = r + 1 := ⟨n - i - 1, by omega⟩
        rw [hr] at hdl'
        by_cases he : e = 0
        · subst he
          rw [dlA_ok hD] at hdl'
          have HDL := Lib.hid hdl'
          have HRR := Lib.hid hr
          clear hdl' hD hD2 hr
          go_wp2_with fail
          refine CC.out.mono ?_
          rintro e w2 ⟨rfl, rfl⟩
          go_wp2_with (at_builtin; refine wpAppI rfl _ _ rfl w.heap.size _ _ rfl how.out x rfl ?hlen ?hBB ?_)
          case hlen => have := HXL.out; omega
          case hBB => exact hbe.out.size
          intro v3 w3 h3 hb3
          have H3 := Lib.hid h3
          have HB3 := Lib.hid (hbe.out.trans hb3)
          clear h3 hb3
          go_wp2
          go_roundw
          case rel => exact ⟨i + 1, at' + m, xs ++ [x], by omega, by omega, by rw [List.length_append, List.length_singleton, HXL.out], by go_num, by go_num, H3, Lib.hid (by rw [show n - (i + 1) = r by have := HRR.out; omega]; exact HDL.out), HB3⟩
          case measure => simp [intOf]; omega
        · rw [dlA_err hD he] at hdl'
          have HDL := Lib.hid hdl'
          have he' : ((e : Int) == 0) = false := by simp; omega
          have he2 : ((e : Int) != 0) = true := by simp; omega
          clear hdl' hD hD2 hr he
          go_wp2_with fail
          refine CC.out.mono ?_
          rintro e w2 ⟨rfl, rfl⟩
          go_wp2
          go_ret3
          have hh := HDL.out
          subst hh
          exact ⟨_, rfl, World.ownsRow_nil _ _ _ _, hbe.out⟩
      · obtain rfl : i = n := by omega
        have hdl' := hdl.out
        rw [Nat.sub_self] at hdl'
        have HDL := Lib.hid (show (xs, at', 0) = R from hdl')
        clear hdl'
        go_wp2
        go_ret3
        have hh := HDL.out
        subst hh
        exact ⟨_, rfl, how.out, hbe.out⟩
  · have HL := Lib.hid (DL_err (D := G) hG he)
    have he' : ((e : Int) == 0) = false := by simp; omega
    have he2 : ((e : Int) != 0) = true := by simp; omega
    clear hG g2 he
    go_enter Try.func46, Try.ntmps46
    go_wp2_with fail
    refine C.out.mono ?_
    rintro e w1 ⟨rfl, rfl⟩
    go_wp2
    go_ret3
    exact ⟨_, by rw [HL.out]; rfl, by rw [HL.out]; exact World.ownsRow_nil _ _ _ _, Below.refl _ _⟩
set_option maxRecDepth 100000 in
set_option maxHeartbeats 2000000 in
theorem getIntsref_any (a : Option Addr) (cap : Nat) (l : List Nat) (w : World) (hc : l.length ≤ cap) (hp : BytesA w a l) (hm : l.length ≤ 1000000) :
    Calls Try.prog 29 #[.slice a l.length cap] w (GivesL OwnI w.heap.size w (DL G 1 l)) := by
  obtain ⟨i0, hi, hz0, hz1, hz2⟩ := info_parts infoI
  have HB := Lib.hid hp.lt
  obtain ⟨g1, g2, g3, g4, g5⟩ := GL_bd (s := 1) hp.lt hm
  have C := Lib.hid (getLengthref_any 1 a cap l w (by omega) (by omega) hp hm)
  unfold GLV at C
  have HP := Lib.hid hp; clear hp
  obtain ⟨n, u, e, hG⟩ : ∃ n u e, GL 1 l = (n, u, e) := ⟨_, _, _, rfl⟩
  rw [hG] at g1 g2 g3 g4 g5 C
  simp only [Nat.div_one] at g1 g2 g3 g4 g5 C
  obtain ⟨n, rfl⟩ : ∃ m : Nat, n = m := ⟨n.toNat, by omega⟩
  by_cases he : e = 0
  · subst he
    have g2' := g2 rfl
    rw [DL_ok (D := G) hG]
    obtain ⟨R, hR⟩ : ∃ R, dlA G n [] u l = R := ⟨_, rfl⟩
    rw [hR]
    have HR := Lib.hid hR; clear hR
    clear hG g2
    go_enter Try.func29, Try.ntmps29
    go_wp2_with fail
    refine C.out.mono ?_
    rintro e w1 ⟨rfl, rfl⟩
    go_wp2
    go_loopw [6, 8, 9] (fun uat ul ui wr => ∃ (i at' : Nat) (xs : List Int), i ≤ n ∧ at' ≤ l.length ∧ xs.length = i ∧ ui = .int .i64 i ∧ uat = .int .i64 at' ∧ Hid (OwnI wr w.heap.size ul xs) ∧ Hid (dlA G (n - i) xs at' l = R) ∧ Hid (Below w.heap.size w wr)) (fun _ _ ui _ => n - (intOf ui).toNat)
    case atStart => exact ⟨0, u, [], by omega, g3, rfl, rfl, rfl, Lib.hid (World.ownsRow_nil _ _ _ _), HR, Lib.hid (Below.refl _ _)⟩
    case round =>
      obtain ⟨i, at', xs, hi1, hat, hxl, rfl, rfl, how, hdl, hbe⟩ := hrel
      have HXL := Lib.hid hxl; clear hxl
      by_cases hlt : i < n
      · have hsl := fun W => slice_l a l.length cap at' hat W
        have bd := G_bd (drop_lt HB.out at')
        have hcc := getIntref_any (cutA a cap at') (cap - at') (l.drop at') wr (cutA_drop (HP.out.mono hbe.out) hc hat) (by rw [List.length_drop]; omega)
        unfold GV at hcc
        obtain ⟨x, m, e, hD⟩ : ∃ x m e, G (l.drop at') = (x, m, e) := ⟨_, _, _, rfl⟩
        have hD2 := hD
        rw [hD, List.length_drop] at hcc
        rw [hD] at bd
        simp only [List.length_drop] at hcc bd
        obtain ⟨-, -, bd1, -, bd2⟩ := bd
        have CC := Lib.hid hcc
        clear hcc
        have hdl' := hdl.out
        obtain ⟨r, hr⟩ : ∃ r, n - i = r + 1 := ⟨n - i - 1, by omega⟩
        rw [hr] at hdl'
        by_cases he : e = 0
        · subst he
          rw [dlA_ok hD] at hdl'
          have HDL := Lib.hid hdl'
          have HRR := Lib.hid hr
          clear hdl' hD hD2 hr
          go_wp2_with fail
          refine CC.out.mono ?_
          rintro e w2 ⟨rfl, rfl⟩
          go_wp2_with (at_builtin; refine wpAppI rfl _ _ rfl w.heap.size _ _ rfl how.out x rfl ?hlen ?hBB ?_)
          case hlen => have := HXL.out; omega
          case hBB => exact hbe.out.size
          intro v3 w3 h3 hb3
          have H3 := Lib.hid h3
          have HB3 := Lib.hid (hbe.out.trans hb3)
          clear h3 hb3
          go_wp2
          go_roundw
          case rel => exact ⟨i + 1, at' + m, xs ++ [x], by omega, by omega, by rw [List.length_append, List.length_singleton, HXL.out], by go_num, by go_num, H3, Lib.hid (by rw [show n - (i + 1) = r by have := HRR.out; omega]; exact HDL.out), HB3⟩
          case measure => simp [intOf]; omega
        · rw [dlA_err hD he] at hdl'
          have HDL := Lib.hid hdl'
          have he' : ((e : Int) == 0) = false := by simp; omega
          have he2 : ((e : Int) != 0) = true := by simp; omega
          clear hdl' hD hD2 hr he
          go_wp2_with fail
          refine CC.out.mono ?_
          rintro e w2 ⟨rfl, rfl⟩
          go_wp2
          go_ret3
          have hh := HDL.out
          subst hh
          exact ⟨_, rfl, World.ownsRow_nil _ _ _ _, hbe.out⟩
      · obtain rfl : i = n := by omega
        have hdl' := hdl.out
        rw [Nat.sub_self] at hdl'
        have HDL := Lib.hid (show (xs, at', 0) = R from hdl')
        clear hdl'
        go_wp2
        go_ret3
        have hh := HDL.out
        subst hh
        exact ⟨_, rfl, how.out, hbe.out⟩
  · have HL := Lib.hid (DL_err (D := G) hG he)
    have he' : ((e : Int) == 0) = false := by simp; omega
    have he2 : ((e : Int) != 0) = true := by simp; omega
    clear hG g2 he
    go_enter Try.func29, Try.ntmps29
    go_wp2_with fail
    refine C.out.mono ?_
    rintro e w1 ⟨rfl, rfl⟩
    go_wp2
    go_ret3
    exact ⟨_, by rw [HL.out]; rfl, by rw [HL.out]; exact World.ownsRow_nil _ _ _ _, Below.refl _ _⟩
set_option maxRecDepth 100000 in
set_option maxHeartbeats 2000000 in
theorem getListS_any (a : Option Addr) (cap : Nat) (l : List Nat) (w : World) (hc : l.length ≤ cap) (hp : BytesA w a l) (hm : l.length ≤ 1000000) :
    Calls Try.prog 48 #[.slice a l.length cap, .int .i64 1, .func (.func 26) #[] #[]] w (GivesL OwnS w.heap.size w (DL GBs 1 l)) := by
  obtain ⟨i0, hi, hz0, hz1, hz2⟩ := info_parts infoS
  have HB := Lib.hid hp.lt
  obtain ⟨g1, g2, g3, g4, g5⟩ := GL_bd (s := 1) hp.lt hm
  have C := Lib.hid (getLength_any 1 a cap l w (by omega) (by omega) hp hm)
  unfold GLV at C
  have HP := Lib.hid hp; clear hp
  obtain ⟨n, u, e, hG⟩ : ∃ n u e, GL 1 l = (n, u, e) := ⟨_, _, _, rfl⟩
  rw [hG] at g1 g2 g3 g4 g5 C
  simp only [Nat.div_one] at g1 g2 g3 g4 g5 C
  obtain ⟨n, rfl⟩ : ∃ m : Nat, n = m := ⟨n.toNat, by omega⟩
  by_cases he : e = 0
  · subst he
    have g2' := g2 rfl
    rw [DL_ok (D := GBs) hG]
    obtain ⟨R, hR⟩ : ∃ R, dlA GBs n [] u l = R := ⟨_, rfl⟩
    rw [hR]
    have HR := Lib.hid hR; clear hR
    clear hG g2
    go_enter Try.func48, Try.ntmps48
    go_wp2_with fail
    refine C.out.mono ?_
    rintro e w1 ⟨rfl, rfl⟩
    go_wp2_with (at_make; refine wpList_make_own _ rfl _ _ 23 rfl w.heap.size 9 i0 (.string ByteArray.empty) 1 Try.underlying23 hi hz0 hz1 .i64 .i64 _ n rfl rfl rfl ?bytes ?maxLen ?base ?_)
    case bytes => rw [hz2]; omega
    case maxLen => unfold maxLen; omega
    case base => exact Nat.le_refl _
    intro w1 hown1 hgrow1
    have HO1 := Lib.hid (show OwnS w1 w.heap.size (.slice (some ⟨w.heap.size, 0, none⟩) 0 n) [] from hown1)
    have HB1 := Lib.hid (grown_below (Below.refl w.heap.size w) hgrow1 (fun k hk => by cases hk) (Nat.le_refl _))
    clear hown1 hgrow1
    go_wp2
    go_loopw [10, 12, 29] (fun uat ul ui wr => ∃ (i at' : Nat) (xs : List ByteArray), i ≤ n ∧ at' ≤ l.length ∧ xs.length = i ∧ ui = .int .i64 i ∧ uat = .int .i64 at' ∧ Hid (OwnS wr w.heap.size ul xs) ∧ Hid (dlA GBs (n - i) xs at' l = R) ∧ Hid (Below w.heap.size w wr)) (fun _ _ ui _ => n - (intOf ui).toNat)
    case atStart => exact ⟨0, u, [], by omega, g3, rfl, rfl, rfl, HO1, HR, HB1⟩
    case round =>
      obtain ⟨i, at', xs, hi1, hat, hxl, rfl, rfl, how, hdl, hbe⟩ := hrel
      have HXL := Lib.hid hxl; clear hxl
      by_cases hlt : i < n
      · have hsl := fun W => slice_l a l.length cap at' hat W
        have bd := GB_bd (drop_lt HB.out at') (by rw [List.length_drop]; omega)
        have hcc := getBytes_any (cutA a cap at') (cap - at') (l.drop at') wr (by rw [List.length_drop]; omega) (cutA_drop (HP.out.mono hbe.out) hc hat) (by rw [List.length_drop]; omega)
        unfold GBV at hcc
        obtain ⟨x, m, e, hD⟩ : ∃ x m e, GBs (l.drop at') = (x, m, e) := ⟨_, _, _, rfl⟩
        have hD2 := hD
        obtain ⟨hx, hm', he0⟩ : strB (GB (l.drop at')).1 = x ∧ (GB (l.drop at')).2.1 = m ∧ (GB (l.drop at')).2.2 = e := by
          unfold GBs at hD
          simp only [Prod.mk.injEq] at hD
          exact hD
        rw [hx, hm', he0, List.length_drop] at hcc
        rw [hm', he0, List.length_drop] at bd
        obtain ⟨bd1, bd2⟩ := bd
        clear hx hm' he0
        have CC := Lib.hid hcc
        clear hcc
        have hdl' := hdl.out
        obtain ⟨r, hr⟩ : ∃ r, n - i = r + 1 := ⟨n - i - 1, by omega⟩
        rw [hr] at hdl'
        by_cases he : e = 0
        · subst he
          rw [dlA_ok hD] at hdl'
          have HDL := Lib.hid hdl'
          have HRR := Lib.hid hr
          clear hdl' hD hD2 hr
          go_wp2_with fail
          refine CC.out.mono ?_
          rintro e w2 ⟨rfl, rfl⟩
          go_wp2_with (at_builtin; refine wpAppT rfl _ _ rfl w.heap.size _ _ rfl how.out x rfl ?hlen ?hBB ?_)
          case hlen => have := HXL.out; omega
          case hBB => exact hbe.out.size
          intro v3 w3 h3 hb3
          have H3 := Lib.hid h3
          have HB3 := Lib.hid (hbe.out.trans hb3)
          clear h3 hb3
          go_wp2
          go_roundw
          case rel => exact ⟨i + 1, at' + m, xs ++ [x], by omega, by omega, by rw [List.length_append, List.length_singleton, HXL.out], by go_num, by go_num, H3, Lib.hid (by rw [show n - (i + 1) = r by have := HRR.out; omega]; exact HDL.out), HB3⟩
          case measure => simp [intOf]; omega
        · rw [dlA_err hD he] at hdl'
          have HDL := Lib.hid hdl'
          have he' : ((e : Int) == 0) = false := by simp; omega
          have he2 : ((e : Int) != 0) = true := by simp; omega
          clear hdl' hD hD2 hr he
          go_wp2_with fail
          refine CC.out.mono ?_
          rintro e w2 ⟨rfl, rfl⟩
          go_wp2
          go_ret3
          have hh := HDL.out
          subst hh
          exact ⟨_, rfl, World.ownsRow_nil _ _ _ _, hbe.out⟩
      · obtain rfl : i = n := by omega
        have hdl' := hdl.out
        rw [Nat.sub_self] at hdl'
        have HDL := Lib.hid (show (xs, at', 0) = R from hdl')
        clear hdl'
        go_wp2
        go_ret3
        have hh := HDL.out
        subst hh
        exact ⟨_, rfl, how.out, hbe.out⟩
  · have HL := Lib.hid (DL_err (D := GBs) hG he)
    have he' : ((e : Int) == 0) = false := by simp; omega
    have he2 : ((e : Int) != 0) = true := by simp; omega
    clear hG g2 he
    go_enter Try.func48, Try.ntmps48
    go_wp2_with fail
    refine C.out.mono ?_
    rintro e w1 ⟨rfl, rfl⟩
    go_wp2
    go_ret3
    exact ⟨_, by rw [HL.out]; rfl, by rw [HL.out]; exact World.ownsRow_nil _ _ _ _, Below.refl _ _⟩
set_option maxRecDepth 100000 in
set_option maxHeartbeats 2000000 in
theorem getStringsref_any (a : Option Addr) (cap : Nat) (l : List Nat) (w : World) (hc : l.length ≤ cap) (hp : BytesA w a l) (hm : l.length ≤ 1000000) :
    Calls Try.prog 32 #[.slice a l.length cap] w (GivesL OwnS w.heap.size w (DL GBs 1 l)) := by
  obtain ⟨i0, hi, hz0, hz1, hz2⟩ := info_parts infoS
  have HB := Lib.hid hp.lt
  obtain ⟨g1, g2, g3, g4, g5⟩ := GL_bd (s := 1) hp.lt hm
  have C := Lib.hid (getLengthref_any 1 a cap l w (by omega) (by omega) hp hm)
  unfold GLV at C
  have HP := Lib.hid hp; clear hp
  obtain ⟨n, u, e, hG⟩ : ∃ n u e, GL 1 l = (n, u, e) := ⟨_, _, _, rfl⟩
  rw [hG] at g1 g2 g3 g4 g5 C
  simp only [Nat.div_one] at g1 g2 g3 g4 g5 C
  obtain ⟨n, rfl⟩ : ∃ m : Nat, n = m := ⟨n.toNat, by omega⟩
  by_cases he : e = 0
  · subst he
    have g2' := g2 rfl
    rw [DL_ok (D := GBs) hG]
    obtain ⟨R, hR⟩ : ∃ R, dlA GBs n [] u l = R := ⟨_, rfl⟩
    rw [hR]
    have HR := Lib.hid hR; clear hR
    clear hG g2
    go_enter Try.func32, Try.ntmps32
    go_wp2_with fail
    refine C.out.mono ?_
    rintro e w1 ⟨rfl, rfl⟩
    go_wp2
    go_loopw [6, 8, 9] (fun uat ul ui wr => ∃ (i at' : Nat) (xs : List ByteArray), i ≤ n ∧ at' ≤ l.length ∧ xs.length = i ∧ ui = .int .i64 i ∧ uat = .int .i64 at' ∧ Hid (OwnS wr w.heap.size ul xs) ∧ Hid (dlA GBs (n - i) xs at' l = R) ∧ Hid (Below w.heap.size w wr)) (fun _ _ ui _ => n - (intOf ui).toNat)
    case atStart => exact ⟨0, u, [], by omega, g3, rfl, rfl, rfl, Lib.hid (World.ownsRow_nil _ _ _ _), HR, Lib.hid (Below.refl _ _)⟩
    case round =>
      obtain ⟨i, at', xs, hi1, hat, hxl, rfl, rfl, how, hdl, hbe⟩ := hrel
      have HXL := Lib.hid hxl; clear hxl
      by_cases hlt : i < n
      · have hsl := fun W => slice_l a l.length cap at' hat W
        have bd := GB_bd (drop_lt HB.out at') (by rw [List.length_drop]; omega)
        have hcc := getBytesref_any (cutA a cap at') (cap - at') (l.drop at') wr (by rw [List.length_drop]; omega) (cutA_drop (HP.out.mono hbe.out) hc hat) (by rw [List.length_drop]; omega)
        unfold GBV at hcc
        obtain ⟨x, m, e, hD⟩ : ∃ x m e, GBs (l.drop at') = (x, m, e) := ⟨_, _, _, rfl⟩
        have hD2 := hD
        obtain ⟨hx, hm', he0⟩ : strB (GB (l.drop at')).1 = x ∧ (GB (l.drop at')).2.1 = m ∧ (GB (l.drop at')).2.2 = e := by
          unfold GBs at hD
          simp only [Prod.mk.injEq] at hD
          exact hD
        rw [hx, hm', he0, List.length_drop] at hcc
        rw [hm', he0, List.length_drop] at bd
        obtain ⟨bd1, bd2⟩ := bd
        clear hx hm' he0
        have CC := Lib.hid hcc
        clear hcc
        have hdl' := hdl.out
        obtain ⟨r, hr⟩ : ∃ r, n - i = r + 1 := ⟨n - i - 1, by omega⟩
        rw [hr] at hdl'
        by_cases he : e = 0
        · subst he
          rw [dlA_ok hD] at hdl'
          have HDL := Lib.hid hdl'
          have HRR := Lib.hid hr
          clear hdl' hD hD2 hr
          go_wp2_with fail
          refine CC.out.mono ?_
          rintro e w2 ⟨rfl, rfl⟩
          go_wp2_with (at_builtin; refine wpAppT rfl _ _ rfl w.heap.size _ _ rfl how.out x rfl ?hlen ?hBB ?_)
          case hlen => have := HXL.out; omega
          case hBB => exact hbe.out.size
          intro v3 w3 h3 hb3
          have H3 := Lib.hid h3
          have HB3 := Lib.hid (hbe.out.trans hb3)
          clear h3 hb3
          go_wp2
          go_roundw
          case rel => exact ⟨i + 1, at' + m, xs ++ [x], by omega, by omega, by rw [List.length_append, List.length_singleton, HXL.out], by go_num, by go_num, H3, Lib.hid (by rw [show n - (i + 1) = r by have := HRR.out; omega]; exact HDL.out), HB3⟩
          case measure => simp [intOf]; omega
        · rw [dlA_err hD he] at hdl'
          have HDL := Lib.hid hdl'
          have he' : ((e : Int) == 0) = false := by simp; omega
          have he2 : ((e : Int) != 0) = true := by simp; omega
          clear hdl' hD hD2 hr he
          go_wp2_with fail
          refine CC.out.mono ?_
          rintro e w2 ⟨rfl, rfl⟩
          go_wp2
          go_ret3
          have hh := HDL.out
          subst hh
          exact ⟨_, rfl, World.ownsRow_nil _ _ _ _, hbe.out⟩
      · obtain rfl : i = n := by omega
        have hdl' := hdl.out
        rw [Nat.sub_self] at hdl'
        have HDL := Lib.hid (show (xs, at', 0) = R from hdl')
        clear hdl'
        go_wp2
        go_ret3
        have hh := HDL.out
        subst hh
        exact ⟨_, rfl, how.out, hbe.out⟩
  · have HL := Lib.hid (DL_err (D := GBs) hG he)
    have he' : ((e : Int) == 0) = false := by simp; omega
    have he2 : ((e : Int) != 0) = true := by simp; omega
    clear hG g2 he
    go_enter Try.func32, Try.ntmps32
    go_wp2_with fail
    refine C.out.mono ?_
    rintro e w1 ⟨rfl, rfl⟩
    go_wp2
    go_ret3
    exact ⟨_, by rw [HL.out]; rfl, by rw [HL.out]; exact World.ownsRow_nil _ _ _ _, Below.refl _ _⟩
theorem getInts_any (a : Option Addr) (cap : Nat) (l : List Nat) (w : World) (hc : l.length ≤ cap) (hp : BytesA w a l) (hm : l.length ≤ 1000000) :
    Calls Try.prog 28 #[.slice a l.length cap] w (GivesL OwnI w.heap.size w (DL G 1 l)) := by
  have HP := Lib.hid hp; clear hp
  go_enter Try.func28, Try.ntmps28
  go_wp2_with fail
  refine (getListI_any a cap l w hc HP.out hm).mono ?_
  rintro e w1 ⟨v, rfl, hv, hb⟩
  go_wp2
  go_ret3
  exact ⟨_, rfl, hv, hb⟩
theorem getStrings_any (a : Option Addr) (cap : Nat) (l : List Nat) (w : World) (hc : l.length ≤ cap) (hp : BytesA w a l) (hm : l.length ≤ 1000000) :
    Calls Try.prog 31 #[.slice a l.length cap] w (GivesL OwnS w.heap.size w (DL GBs 1 l)) := by
  have HP := Lib.hid hp; clear hp
  go_enter Try.func31, Try.ntmps31
  go_wp2_with fail
  refine (getListS_any a cap l w hc HP.out hm).mono ?_
  rintro e w1 ⟨v, rfl, hv, hb⟩
  go_wp2
  go_ret3
  exact ⟨_, rfl, hv, hb⟩
end Go.Proofs.Ytlihndekeaefcaa
