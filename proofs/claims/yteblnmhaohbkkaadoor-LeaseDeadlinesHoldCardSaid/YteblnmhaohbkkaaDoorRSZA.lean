import Derived.Test.YteblnmhaohbkkaaDoorRG2
import Derived.Lib.AppendZerosOnto
import Derived.Deep.AppendSrc
import Derived.Test.YteblnmhaohbkkaaDoorRP6
import Derived.Test.YteblnmhaohbkkaaDoorRP5
import Derived.Test.YteblnmhaohbkkaaDoorRP3
import Derived.Test.YteblnmhaohbkkaaDoorRP4
import Derived.OpenShut
import Derived.Deep.RegionHeld
import Derived.Deep.MidRow
namespace Go.Proofs.YteblnmhaohbkkaaDoor
set_option linter.unusedVariables false
set_option linter.unusedSimpArgs false
set_option linter.unusedSectionVars false
section
open Go.RowKit Go.Sort
def encT (s : ByteArray) : List Value := [.string s]
abbrev StR := RowsA 1 encT
abbrev OwnS := OwnR 9 1 encT
theorem encT_len (a : ByteArray) : (encT a).length = 1 := rfl
theorem encT_one (a : ByteArray) : ∀ v ∈ encT a, v.oneCell' = true := by
  intro v hv
  simp only [encT, List.mem_cons, List.not_mem_nil, or_false] at hv
  subst hv; rfl
set_option maxRecDepth 100000 in
theorem infoT : (Tryd.prog.info? 9).map (fun i => (i.zero, i.size, i.bytes)) = some (some (.string ⟨#[]⟩), 1, 16) := by kernel_rfl
theorem app_S (ty : TypeId) (w : World) (B : Nat) (v : Value) (l : List ByteArray) (hown : OwnS w B v l) (a : Option Addr) (cap : Nat) (m : List ByteArray) (hm : StR w a m) (hl : l.length ≤ 1000000000) (hml : m.length ≤ 1000000000) (hB : B ≤ w.heap.size) :
    ∃ b n c w', (Builtin.append_ #[112, 112] ty #[v, .slice a m.length cap]).run Tryd.prog w = .ok (.slice b n c) w' ∧ OwnS w' B (.slice b n c) (l ++ m) ∧ Below B w w' :=
  run_app_rows Tryd.underlying112 Tryd.underlying112 infoT rfl (by decide) (by decide) encT_len encT_one w B v l hown a cap m hm hl hml hB
abbrev Sl := Option Addr × Nat × List ByteArray
def encSl (x : Sl) : List Value := [.slice x.1 x.2.2.length x.2.1]
abbrev sl0 : Sl := (none, 0, [])
def tot : List Sl → Nat
  | [] => 0
  | x :: l => x.2.2.length + tot l
theorem tot_app (a b : List Sl) : tot (a ++ b) = tot a + tot b := by
  induction a with
  | nil => simp [tot]
  | cons x a ih => simp only [List.cons_append, tot, ih]; omega
theorem tot_take (l : List Sl) (k : Nat) (h : k < l.length) : tot (l.take (k + 1)) = tot (l.take k) + (l.getD k sl0).2.2.length := by
  rw [List.take_succ_eq_append_getElem h, tot_app, List.getD_eq_getElem?_getD, List.getElem?_eq_getElem h]
  simp [tot]
theorem tot_le (l : List Sl) (k : Nat) : tot (l.take k) ≤ tot l := by
  have : tot l = tot (l.take k) + tot (l.drop k) := by rw [← tot_app, List.take_append_drop]
  omega
theorem flatsl_len (l : List Sl) : (l.flatMap (·.2.2)).length = tot l := by
  induction l with
  | nil => rfl
  | cons x l ih => simp only [List.flatMap_cons, List.length_append, tot, ih]
theorem flatsl_take (l : List Sl) (k : Nat) (h : k < l.length) : (l.take (k + 1)).flatMap (·.2.2) = (l.take k).flatMap (·.2.2) ++ (l.getD k sl0).2.2 := by
  rw [List.take_succ_eq_append_getElem h, List.flatMap_append, List.getD_eq_getElem?_getD, List.getElem?_eq_getElem h]
  simp
theorem sl_at {W : World} {a : Option Addr} {l : List Sl} (h : RowsA 1 encSl W a l) {k : Nat} (hk : k < l.length) :
    ∃ b off, a = some ⟨b, off, none⟩ ∧ W.cell? ⟨b, off + k, none⟩ = some (.slice (l.getD k sl0).1 (l.getD k sl0).2.2.length (l.getD k sl0).2.1) := by
  rw [getD_at sl0 hk]
  obtain ⟨b, off, e, h1⟩ := h k _ (List.getElem?_eq_getElem hk)
  exact ⟨b, off, e, by have := h1 0 _ rfl; rwa [Nat.mul_one, Nat.add_zero] at this⟩
set_option maxRecDepth 100000 in
set_option maxHeartbeats 1000000 in
theorem grow_any (n : Nat) (w : World) (h0 : 0 < n) (hn : n ≤ 1000000) :
    Calls Tryd.prog 82 #[.slice none 0 0, .int .i64 n] w fun e w' => (∃ v, e = .returned v ∧ OwnS w' w.heap.size v []) ∧ Below w.heap.size w w' := by
  obtain ⟨i0, hi0, hz0, hzs, hzb⟩ := info_parts infoT
  have hold : (Builtin.firstCells i0.size 0 (.slice none 0 0)).run Tryd.prog w.drew = .ok #[] w.drew := by rw [hzs]; rfl
  have hrz := Lib.run_append_grow_zeros (P := Tryd.prog) w 112 3 112 9 i0 _ .i64 .i64 Tryd.underlying112 Tryd.underlying3 hi0 hz0 none 0 0 [] hold n h0 (by rw [hzs]; decide) (by omega) (by omega) (by rw [hzb]; omega) (by rw [hzb]; exact growslice_fits (by omega) (by omega))
  rw [Nat.zero_add] at hrz
  have hG1 := grownCap_ge w n 0 9
  have hG2 := grownCap_le_maxLen w n 0 9 (by unfold maxLen; omega)
  obtain ⟨G, hG⟩ : ∃ G, grownCap w n 0 9 = G := ⟨_, rfl⟩
  rw [hG] at hrz hG1 hG2
  obtain ⟨ROW, hROW⟩ : ∃ ROW : Array Value, ([] : List Value).toArray ++ Builtin.zeroCells (Value.string ⟨#[]⟩).cells n ++ Builtin.zeroCells (Value.string ⟨#[]⟩).cells (G - n) = ROW := ⟨_, rfl⟩
  rw [hROW] at hrz
  have hRsz : ROW.size = G * 1 := by
    rw [← hROW, Array.size_append, Array.size_append, size_zeroCells, size_zeroCells]
    simp [Value.cells]; omega
  obtain ⟨Z, hZ⟩ : ∃ Z, w.heap.size = Z := ⟨_, rfl⟩
  rw [hZ] at hrz
  obtain ⟨w1, hw1⟩ : ∃ w1, w.drew.alloc (.cells ROW 9) = w1 := ⟨_, rfl⟩
  rw [hw1] at hrz
  have hg1 : w1.heap[Z]? = some (.cells ROW 9 (0, 0)) := by rw [← hw1, ← hZ]; exact heap_alloc_new w.drew _
  have B1 := Lib.hid (show Below Z w w1 from by rw [← hw1, ← hZ]; exact ((Below.refl _ _).drew).alloc (Nat.le_refl _) _)
  have OW := Lib.hid (show OwnS w1 Z (.slice (some ⟨Z, 0, none⟩) 0 G) [] from ⟨rfl, .inr ⟨Z, G, ROW, rfl, Nat.le_refl _, hg1, Nat.zero_le _, hG2, hRsz, by simp⟩⟩)
  have HR := Lib.hid hrz
  have n1 : decide ((n : Int) < 0) = false := decide_eq_false (by omega)
  have n2 : decide ((0 : Int) < (n : Int)) = true := decide_eq_true (by omega)
  have n3 : decide (0 < n) = true := decide_eq_true h0
  have wn : IntKind.i64.wrap (n : Int) = (n : Int) := by rw [IntKind.wrap_i64]; omega
  have HZ := Lib.hid hZ
  have g0 : 0 ≤ G := Nat.zero_le _
  clear hi0 hz0 hzs hzb hold hrz hG1 hG hROW hRsz hZ hw1 hg1 i0
  go_enter Tryd.func82, Tryd.ntmps82
  go_wp2_with (at_builtin; refine wpList_app_run rfl _ _ _ _ rfl _ _ _ w1 rfl rfl HR.out ?_)
  go_ret
  exact ⟨⟨_, rfl, by rw [HZ.out]; exact OW.out⟩, by rw [HZ.out]; exact B1.out⟩
set_option maxRecDepth 100000 in
set_option maxHeartbeats 2000000 in
theorem concat_any (a : Option Addr) (c : Nat) (l : List Sl) (w : World) (hp : RowsA 1 encSl w a l) (hs : ∀ k, k < l.length → StR w (l.getD k sl0).1 (l.getD k sl0).2.2) (hm : tot l ≤ 100000) (h0 : 0 < tot l) (hl : l.length ≤ 1000) :
    Calls Tryd.prog 69 #[.slice a l.length c] w fun e w' => (∃ a' c', e = .returned (.slice a' (l.flatMap (·.2.2)).length c') ∧ StR w' a' (l.flatMap (·.2.2))) ∧ Below w.heap.size w w' := by
  have HP := Lib.hid hp
  have HS := Lib.hid hs
  have HT := Lib.hid (fun k h => tot_take l k h)
  have HTL := Lib.hid (fun k => tot_le l k)
  have HF := Lib.hid (fun k h => flatsl_take l k h)
  have HFL := Lib.hid (fun k => flatsl_len (l.take k))
  obtain ⟨N, hN⟩ : ∃ N, l.length = N := ⟨_, rfl⟩
  have HE := Lib.hid hN
  have HEND := Lib.hid (show l.take N = l by rw [← hN, List.take_length])
  obtain ⟨T, hT⟩ : ∃ T, tot l = T := ⟨_, rfl⟩
  have HTE := Lib.hid hT
  rw [hT] at hm h0 HTL
  rw [hN] at hl HT HF ⊢
  clear hp hs hN hT
  have GR := Lib.hid (fun X : World => grow_any T X h0 (by omega))
  obtain ⟨L, hL⟩ : ∃ L, l.flatMap (·.2.2) = L := ⟨_, rfl⟩
  have HL := Lib.hid hL
  obtain ⟨M, hM⟩ : ∃ M, L.length = M := ⟨_, rfl⟩
  have HM := Lib.hid hM
  rw [hL, hM]
  clear hL hM
  go_enter Tryd.func69, Tryd.ntmps69
  go_wp2
  go_loopw [3, 5, 11] (fun u3 _ u11 wr => ∃ k : Nat, k ≤ N ∧ u11 = .int .i64 k ∧ u3 = .int .i64 (tot (l.take k) : Nat) ∧ Hid (Below w.heap.size w wr)) (fun _ _ u11 _ => (N - intOf u11).toNat)
  case atStart => exact ⟨0, by omega, rfl, rfl, Lib.hid (Below.refl _ _)⟩
  case round =>
    obtain ⟨k, hk, rfl, rfl, B⟩ := hrel
    have ht1 := HTL.out k
    by_cases hlt : k < N
    · have t0 : decide ((k : Int) < (N : Int)) = true := decide_eq_true (by omega)
      have wk : IntKind.i64.wrap ((k : Int) + 1) = (k : Int) + 1 := by rw [IntKind.wrap_i64]; omega
      have ht2 := HT.out k hlt
      have ht3 := HTL.out (k + 1)
      obtain ⟨b, off, rfl, q0⟩ := sl_at (HP.out.mono B.out) (k := k) (by rw [HE.out]; exact hlt)
      obtain ⟨x, hx⟩ : ∃ y, l.getD k sl0 = y := ⟨_, rfl⟩
      rw [hx] at q0 ht2
      obtain ⟨xa, xc, xl⟩ := x
      simp only at q0 ht2
      obtain ⟨m, hm9⟩ : ∃ m, xl.length = m := ⟨_, rfl⟩
      rw [hm9] at q0 ht2
      obtain ⟨t, ht9⟩ : ∃ t, tot (l.take k) = t := ⟨_, rfl⟩
      obtain ⟨t', ht9'⟩ : ∃ t, tot (l.take (k + 1)) = t := ⟨_, rfl⟩
      rw [ht9] at ht1 ht2 ⊢
      rw [ht9'] at ht2 ht3
      have HT9 := Lib.hid ht9'
      have k0 : (0 : Int) ≤ (k : Int) := by omega
      have kN : (k : Int) < (N : Int) := by omega
      have ws : (t : Int) + (m : Int) = (t' : Int) := by omega
      have ws2 : IntKind.i64.wrap (t' : Int) = (t' : Int) := by rw [IntKind.wrap_i64]; omega
      have ws3 : IntKind.i64.wrap ((t : Int) + (m : Int)) = (t' : Int) := by rw [ws]; exact ws2
      have tn : decide ((t' : Int) < 0) = false := decide_eq_false (by omega)
      clear hx hm9 ht9 ht9' ht1 ht2 ht3
      go_wp2
      go_roundw
      case rel => exact ⟨k + 1, by omega, by go_num, by rw [HT9.out], B⟩
      case measure => simp [intOf]; omega
    · obtain rfl : k = N := by omega
      have e : tot (l.take k) = T := by rw [HEND.out]; exact HTE.out
      rw [e]
      clear e ht1
      go_wp2_with fail
      refine (GR.out _).mono ?_
      rintro e w1 ⟨⟨v, rfl, ho⟩, hb⟩
      have O1 := Lib.hid (OwnR.weak ho (show w.heap.size ≤ _ from B.out.size))
      replace B := Lib.hid (bt B.out hb)
      have HZ := Lib.hid (show w.heap.size ≤ w1.heap.size from B.out.size)
      clear hb ho GR
      go_wp2
      go_loopw [6, 8, 27] (fun u6 _ u27 wr => ∃ j : Nat, j ≤ k ∧ u27 = .int .i64 j ∧ Hid (OwnS wr w.heap.size u6 ((l.take j).flatMap (·.2.2))) ∧ Hid (Below w.heap.size w wr)) (fun _ _ u27 _ => (k - intOf u27).toNat)
      case atStart => exact ⟨0, by omega, rfl, Lib.hid (by simpa using O1.out), B⟩
      case round =>
        clear O1 B HZ
        obtain ⟨j, hj, rfl, ho, B⟩ := hrel
        by_cases hlt2 : j < k
        · have t0 : decide ((j : Int) < (k : Int)) = true := decide_eq_true (by omega)
          have wk : IntKind.i64.wrap ((j : Int) + 1) = (j : Int) + 1 := by rw [IntKind.wrap_i64]; omega
          obtain ⟨b, off, rfl, q0⟩ := sl_at (HP.out.mono B.out) (k := j) (by rw [HE.out]; exact hlt2)
          have hs2 := (HS.out j (by rw [HE.out]; exact hlt2)).mono B.out
          have hf := HF.out j hlt2
          have h1 := HFL.out j
          have h2 := HFL.out (j + 1)
          have h3 := HTL.out j
          have h4 := HTL.out (j + 1)
          have h5 := HT.out j hlt2
          obtain ⟨x, hx⟩ : ∃ y, l.getD j sl0 = y := ⟨_, rfl⟩
          rw [hx] at q0 hs2 hf h5
          obtain ⟨xa, xc, xl⟩ := x
          simp only at q0 hs2 hf h5
          obtain ⟨bb, nn, cc, w5, hr, ho2, hb⟩ := app_S 112 _ w.heap.size _ _ ho.out xa xc xl hs2 (by omega) (by omega) B.out.size
          have HR := Lib.hid hr
          have O2 := Lib.hid (show OwnS w5 w.heap.size (.slice bb nn cc) ((l.take (j + 1)).flatMap (·.2.2)) by rw [hf]; exact ho2)
          replace B := Lib.hid (B.out.trans hb)
          have k0 : (0 : Int) ≤ (j : Int) := by omega
          have kN : (j : Int) < (k : Int) := by omega
          clear hr ho2 hb hs2 hf h1 h2 h3 h4 h5 hx ho
          go_wp2_with (at_builtin; refine wpList_app_run rfl _ _ _ _ rfl _ _ _ w5 rfl rfl HR.out ?_)
          go_roundw
          case rel => exact ⟨j + 1, by omega, by go_num, O2, B⟩
          case measure => simp [intOf]; omega
        · obtain rfl : j = k := by omega
          have ho2 := ho.out
          rw [HEND.out, HL.out] at ho2
          obtain ⟨a9, c9, e9, -, h9⟩ := OwnR.view encT_len ho2
          rw [HM.out] at e9
          subst e9
          have H9 := Lib.hid h9
          clear ho2 ho h9
          go_wp2
          go_ret
          exact ⟨⟨a9, c9, rfl, H9.out⟩, B.out⟩
end
section
namespace Hs
open Go.RowKit
def strB (m : List Nat) : ByteArray := strOfNums (m.map fun (x : Nat) => (x : Int))
theorem strB_size (m : List Nat) : (strB m).size = m.length := by unfold strB; rw [strOfNums_size, List.length_map]
set_option maxRecDepth 100000 in
theorem conv_str (m : List Nat) (a : Option Addr) (c : Nat) (W : World) (h : BytesA W a m) : (convert 138 9 (.slice a m.length c)).run Tryd.prog W = .ok (.string (strB m)) W := by
  cases a with
  | none =>
    have : m = [] := by
      cases m with
      | nil => rfl
      | cons x xs => obtain ⟨b, off, e, -⟩ := h 0 (by simp); cases e
    subst this
    exact run_convert_bytes_nil W 138 5 Tryd.underlying138 Tryd.underlying5 0 c 9 Tryd.underlying9
  | some p =>
    obtain ⟨b, off, sp⟩ := p
    cases sp with
    | none => exact run_convert_bytes_arg W 138 5 Tryd.underlying138 Tryd.underlying5 b off m.length c (m.map fun (x : Nat) => (x : Int)) (by simp) (fun i hi => by
        obtain ⟨b', off', e, h1, -⟩ := h i hi
        simp only [Option.some.injEq, Addr.mk.injEq, and_true] at e
        obtain ⟨rfl, rfl⟩ := e
        rw [h1]
        simp [List.getD_eq_getElem?_getD, List.getElem?_eq_getElem hi]) 9 Tryd.underlying9
    | some q =>
      have : m = [] := by
        cases m with
        | nil => rfl
        | cons x xs => obtain ⟨b', off', e, -⟩ := h 0 (by simp); simp at e
      subst this
      have hl : (loadCells ⟨b, off, some q⟩ 0).run Tryd.prog W = .ok (([] : List Int).map (Value.int .u8)).toArray W := run_loadCells_list (P := Tryd.prog) W ⟨b, off, some q⟩ [] (fun j v hj => by simp at hj)
      show (convert 138 9 (.slice (some ⟨b, off, some q⟩) 0 c)).run Tryd.prog W = _
      rw [run_convert_bytes_string W 138 9 5 _ 0 c Tryd.underlying138 Tryd.underlying5 Tryd.underlying9, run_bytesToString W _ 0 c [] hl]
      rfl
def intsL (l : List Int) : List Nat := Wi.enc l.length ++ l.flatMap Wi.enc
theorem flat_snoc (f : Int → List Nat) (l : List Int) (k : Nat) (h : k < l.length) : (l.take (k + 1)).flatMap f = (l.take k).flatMap f ++ f (l.getD k 0) := by
  rw [List.take_succ_eq_append_getElem h, List.flatMap_append, List.getD_eq_getElem?_getD, List.getElem?_eq_getElem h]
  simp
theorem flat_le (f : Int → List Nat) (l : List Int) (k : Nat) : ((l.take k).flatMap f).length ≤ (l.flatMap f).length := by
  have e : l.flatMap f = (l.take k).flatMap f ++ (l.drop k).flatMap f := by rw [← List.flatMap_append, List.take_append_drop]
  rw [e, List.length_append]
  omega
set_option maxRecDepth 100000 in
set_option maxHeartbeats 1000000 in
theorem appendInts_any (a : Option Addr) (cap : Nat) (l : List Int) (w : World) (hp : IntsA w a l) (hb : ∀ k, k < l.length → -9223372036854775808 ≤ l.getD k 0 ∧ l.getD k 0 ≤ 9223372036854775807) (hm : l.length ≤ 1000) (hT : (intsL l).length ≤ 100000) :
    Calls Tryd.prog 92 #[.slice a l.length cap, .func (.func 91) #[] #[]] w (Gives w.heap.size w (intsL l)) := by
  have HP := Lib.hid hp
  have HBD := Lib.hid hb
  have HL := Lib.hid (fun k => flat_le Wi.enc l k)
  have HS := Lib.hid (fun k h => flat_snoc Wi.enc l k h)
  have HTT := Lib.hid (show (Wi.enc l.length).length + (l.flatMap Wi.enc).length ≤ 100000 by unfold intsL at hT; rw [List.length_append] at hT; exact hT)
  have HEND := Lib.hid (show l.take l.length = l from List.take_length)
  obtain ⟨N, hN⟩ : ∃ N, l.length = N := ⟨_, rfl⟩
  have HE := Lib.hid hN
  unfold intsL
  rw [hN] at hm HS HTT HBD HEND ⊢
  clear hp hb hT hN
  have CI := Lib.hid (fun X : World => Wi.int_any (N : Int) X (by omega) (by omega))
  obtain ⟨E, hE⟩ : ∃ E, Wi.enc (N : Int) = E := ⟨_, rfl⟩
  rw [hE] at HTT ⊢
  simp only [hE] at CI
  clear hE
  go_enter Tryd.func92, Tryd.ntmps92
  go_wp2_with fail
  refine (CI.out _).mono ?_
  rintro e w1 ⟨v1, rfl, h1, hb1⟩
  have H1 := Lib.hid h1
  have HB := Lib.hid hb1
  clear h1 hb1 CI
  go_wp2
  go_loopw [5, 7, 13] (fun u5 _ u13 wr => ∃ (k : Nat), k ≤ N ∧ u13 = .int .i64 k ∧ Hid (OwnB wr w.heap.size u5 (E ++ (l.take k).flatMap Wi.enc)) ∧ Hid (Below w.heap.size w wr)) (fun _ _ u13 _ => N - (intOf u13).toNat)
  case atStart => exact ⟨0, by omega, rfl, Lib.hid (by simpa using H1.out), HB⟩
  case round =>
    obtain ⟨k, hk, rfl, how, hbe⟩ := hrel
    by_cases hlt : k < N
    · obtain ⟨b, off, rfl, q1⟩ := HP.out k (by rw [HE.out]; exact hlt)
      have q1 := keep q1 hbe.out
      obtain ⟨q2, q3⟩ := HBD.out k hlt
      have hfm := HS.out k hlt
      obtain ⟨x, hx⟩ : ∃ x, l.getD k 0 = x := ⟨_, rfl⟩
      rw [hx] at q1 q2 q3 hfm
      have HFM := Lib.hid hfm
      have LL := Lib.hid (show (E ++ (l.take k).flatMap Wi.enc).length ≤ 1000000 by rw [List.length_append]; have := HL.out k; have := HTT.out; omega)
      have t0 : decide ((k : Int) < (N : Int)) = true := decide_eq_true (by omega)
      have wk : IntKind.i64.wrap ((k : Int) + 1) = (k : Int) + 1 := by rw [IntKind.wrap_i64]; omega
      have k0 : (0 : Int) ≤ (k : Int) := by omega
      have kN : (k : Int) < (N : Int) := by omega
      clear hx hfm
      go_wp2_with fail
      refine (Wi.appendInt_any _ w.heap.size _ _ _ q2 q3 hbe.out.size how.out LL.out).mono ?_
      rintro e w2 ⟨v2, rfl, h2, hb2⟩
      have H2 := Lib.hid h2
      have HB2 := Lib.hid (hbe.out.trans hb2)
      clear h2 hb2 q1 q2 q3
      go_wp2
      go_roundw
      case rel => exact ⟨k + 1, by omega, by go_num, Lib.hid (by rw [HFM.out, ← List.append_assoc]; exact H2.out), HB2⟩
      case measure => simp [intOf]; omega
    · obtain rfl : k = N := by omega
      have ho := how.out
      rw [HEND.out] at ho
      have HO := Lib.hid ho
      clear ho how
      go_wp2
      go_ret
      exact ⟨_, rfl, HO.out, hbe.out⟩
set_option maxRecDepth 100000 in
theorem numbers_any (a : Option Addr) (cap : Nat) (l : List Int) (w : World) (hp : IntsA w a l) (hb : ∀ k, k < l.length → -9223372036854775808 ≤ l.getD k 0 ∧ l.getD k 0 ≤ 9223372036854775807) (hm : l.length ≤ 1000) (hT : (intsL l).length ≤ 100000) (h256 : ∀ x ∈ intsL l, x < 256) :
    Calls Tryd.prog 71 #[.slice a l.length cap] w fun e w' => e = .returned (.string (strB (intsL l))) ∧ Below w.heap.size w w' := by
  have AI := Lib.hid (appendInts_any a cap l w hp hb hm hT)
  have CI := Lib.hid (show Calls Tryd.prog 83 #[.slice a l.length cap] w (Gives w.heap.size w (intsL l)) from by
    obtain ⟨N, hN⟩ : ∃ N, l.length = N := ⟨_, rfl⟩
    rw [hN] at AI ⊢
    go_enter Tryd.func83, Tryd.ntmps83
    go_wp2_with fail
    refine AI.out.mono ?_
    rintro e w1 ⟨v, rfl, h1, hb1⟩
    have H1 := Lib.hid h1
    have HB := Lib.hid hb1
    clear h1 hb1
    go_wp2
    go_ret
    exact ⟨_, rfl, H1.out, HB.out⟩)
  have H6 := Lib.hid h256
  obtain ⟨N, hN⟩ : ∃ N, l.length = N := ⟨_, rfl⟩
  rw [hN] at CI ⊢
  obtain ⟨L, hL⟩ : ∃ z, intsL l = z := ⟨_, rfl⟩
  rw [hL] at CI H6 ⊢
  clear hp hb hm hT h256 hN hL AI
  go_enter Tryd.func71, Tryd.ntmps71
  go_wp2_with fail
  refine CI.out.mono ?_
  rintro e w1 ⟨v, rfl, h1, hb1⟩
  obtain ⟨a9, c9, rfl, -, h9⟩ := OwnB.view h1 H6.out
  have hcv := conv_str L a9 c9 w1 h9
  obtain ⟨M, hM⟩ : ∃ M, L.length = M := ⟨_, rfl⟩
  rw [hM] at hcv ⊢
  have HB := Lib.hid hb1
  clear h1 hb1 h9 hM
  go_wp2
  go_ret
  exact ⟨rfl, HB.out⟩
end Hs
end
section
open Go.RowKit Go.Sort
theorem sixteen {X : World} {g : Nat} {t : TypeId} {v0 v1 v2 v3 v4 v5 v6 v7 v8 v9 v10 v11 v12 v13 v14 v15 : Value} (h : Blk X g t #[v0, v1, v2, v3, v4, v5, v6, v7, v8, v9, v10, v11, v12, v13, v14, v15]) : X.cell? ⟨g, 0, none⟩ = some v0 ∧ X.cell? ⟨g, 1, none⟩ = some v1 ∧ X.cell? ⟨g, 2, none⟩ = some v2 ∧ X.cell? ⟨g, 3, none⟩ = some v3 ∧ X.cell? ⟨g, 4, none⟩ = some v4 ∧ X.cell? ⟨g, 5, none⟩ = some v5 ∧ X.cell? ⟨g, 6, none⟩ = some v6 ∧ X.cell? ⟨g, 7, none⟩ = some v7 ∧ X.cell? ⟨g, 8, none⟩ = some v8 ∧ X.cell? ⟨g, 9, none⟩ = some v9 ∧ X.cell? ⟨g, 10, none⟩ = some v10 ∧ X.cell? ⟨g, 11, none⟩ = some v11 ∧ X.cell? ⟨g, 12, none⟩ = some v12 ∧ X.cell? ⟨g, 13, none⟩ = some v13 ∧ X.cell? ⟨g, 14, none⟩ = some v14 ∧ X.cell? ⟨g, 15, none⟩ = some v15 := ⟨h.cell 0, h.cell 1, h.cell 2, h.cell 3, h.cell 4, h.cell 5, h.cell 6, h.cell 7, h.cell 8, h.cell 9, h.cell 10, h.cell 11, h.cell 12, h.cell 13, h.cell 14, h.cell 15⟩
theorem list16 {l : List Nat} (h : l.length = 16) : ∃ d0 d1 d2 d3 d4 d5 d6 d7 d8 d9 d10 d11 d12 d13 d14 d15 : Nat, l = [d0, d1, d2, d3, d4, d5, d6, d7, d8, d9, d10, d11, d12, d13, d14, d15] := by
  match l, h with
  | [d0, d1, d2, d3, d4, d5, d6, d7, d8, d9, d10, d11, d12, d13, d14, d15], _ => exact ⟨d0, d1, d2, d3, d4, d5, d6, d7, d8, d9, d10, d11, d12, d13, d14, d15, rfl⟩
def mkS (t : Nat) (s : ByteArray) (parts : List ByteArray) : List Nat := (Hs.sha (Hs.inL t ([s] ++ parts ++ [s]))).take 16
theorem mkS_len (t : Nat) (s : ByteArray) (parts : List ByteArray) : (mkS t s parts).length = 16 := rfl
theorem strs_of {W : World} {a : Option Addr} {ss : List ByteArray} (h : StR W a ss) : Hs.StrsA W a ss := fun k hk => by
  obtain ⟨b, off, e, h1⟩ := h k _ (List.getElem?_eq_getElem hk)
  refine ⟨b, off, e, ?_⟩
  have := h1 0 _ rfl
  rw [Nat.mul_one, Nat.add_zero] at this
  rw [this, List.getD_eq_getElem?_getD, List.getElem?_eq_getElem hk]
  rfl
theorem one_str (W : World) (g : Nat) (s : ByteArray) (h : W.cell? ⟨g, 0, none⟩ = some (.string s)) : StR W (some ⟨g, 0, none⟩) [s] := by
  intro i x hx
  have hi : i = 0 := by have := (List.getElem?_eq_some_iff.1 hx).1; simpa using this
  subst hi
  obtain rfl : s = x := by simpa using hx
  refine ⟨g, 0, rfl, fun j u hu => ?_⟩
  have hj : j = 0 := by have := (List.getElem?_eq_some_iff.1 hu).1; simpa [encT] using this
  subst hj
  obtain rfl : Value.string s = u := by simpa [encT] using hu
  exact h
theorem three_sl (W : World) (g : Nat) (x y z : Sl) (h : Blk W g 112 #[.slice x.1 x.2.2.length x.2.1, .slice y.1 y.2.2.length y.2.1, .slice z.1 z.2.2.length z.2.1]) : RowsA 1 encSl W (some ⟨g, 0, none⟩) [x, y, z] := by
  intro i u hu
  refine ⟨g, 0, rfl, fun j v hv => ?_⟩
  have hj : j = 0 := by have := (List.getElem?_eq_some_iff.1 hv).1; simpa [encSl] using this
  subst hj
  obtain rfl : Value.slice u.1 u.2.2.length u.2.1 = v := by simpa [encSl] using hv
  have hi : i < 3 := by have := (List.getElem?_eq_some_iff.1 hu).1; simpa using this
  rw [show 0 + i * 1 + 0 = i by omega, h.cell i]
  match i, hi, hu with
  | 0, _, hu => simp at hu; subst hu; rfl
  | 1, _, hu => simp at hu; subst hu; rfl
  | 2, _, hu => simp at hu; subst hu; rfl
theorem three_ok {W : World} {x y z : Sl} (h1 : StR W x.1 x.2.2) (h2 : StR W y.1 y.2.2) (h3 : StR W z.1 z.2.2) : ∀ k, k < [x, y, z].length → StR W ([x, y, z].getD k sl0).1 ([x, y, z].getD k sl0).2.2 := fun k hk => by
  match k, hk with
  | 0, _ => exact h1
  | 1, _ => exact h2
  | 2, _ => exact h3
theorem Hs.LaidC.below {W W' : World} (h : Hs.LaidC W) (hb : Below W.heap.size W W') : Hs.LaidC W' := h.mono hb
set_option maxRecDepth 100000 in
set_option maxHeartbeats 600000 in
theorem make_any (k : Rw) (tag : Int) (t : Nat) (a : Option Addr) (c : Nat) (parts : List ByteArray) (w : World) (ht : tag % 256 = t) (hp : StR w a parts) (hf : parts.length ≤ 36 ∧ ∀ x ∈ parts, x.size ≤ 400) (hs : k.2.2.1.size ≤ 400) (hla : Hs.LaidC w) :
    Calls Tryd.prog 56 #[.agg (encR k).toArray, .int .i64 tag, .slice a parts.length c] w fun e w' => e = .returned (.agg (Hs.bvs (mkS t k.2.2.1 parts))) ∧ Below w.heap.size w w' := by
  have HP := Lib.hid hp
  have HL := Lib.hid hla
  obtain ⟨k1, k2, k3, k4, k5⟩ := k
  simp only at hs
  obtain ⟨n, hn⟩ : ∃ n, parts.length = n := ⟨_, rfl⟩
  have HE := Lib.hid hn
  obtain ⟨L, hL⟩ : ∃ L, [k3] ++ parts ++ [k3] = L := ⟨_, rfl⟩
  have hLl : L.length = n + 2 := by rw [← hL]; simp; omega
  have HFW := Lib.hid (show Hs.Few L from by
    refine ⟨by rw [hLl]; omega, fun x hx => ?_⟩
    rw [← hL] at hx
    simp only [List.mem_append, List.mem_singleton] at hx
    rcases hx with (rfl | hx) | rfl
    · omega
    · exact hf.2 x hx
    · omega)
  have HCO := Lib.hid (fun (Z : Nat) (X : World) (h3 : Blk X (Z + 1 + 1) 112 #[.slice (some ⟨Z, 0, none⟩) 1 1, .slice a n c, .slice (some ⟨Z + 1, 0, none⟩) 1 1]) (c1 : X.cell? ⟨Z, 0, none⟩ = some (.string k3)) (c2 : X.cell? ⟨Z + 1, 0, none⟩ = some (.string k3)) (h4 : StR X a parts) =>
    concat_any (some ⟨Z + 1 + 1, 0, none⟩) 3 [(some ⟨Z, 0, none⟩, 1, [k3]), (a, c, parts), (some ⟨Z + 1, 0, none⟩, 1, [k3])] X (three_sl X (Z + 1 + 1) _ _ _ (by rw [hn]; exact h3)) (three_ok (one_str X Z k3 c1) h4 (one_str X (Z + 1) k3 c2)) (by simp only [tot, List.length_cons, List.length_nil, hn]; omega) (by simp only [tot, List.length_cons, List.length_nil]; omega) (by simp))
  simp only [List.flatMap_cons, List.flatMap_nil, List.append_nil] at HCO
  rw [show [k3] ++ (parts ++ [k3]) = L by rw [← hL, List.append_assoc]] at HCO
  have HM := Lib.hid (show mkS t k3 parts = (Hs.sha (Hs.inL t L)).take 16 by unfold mkS; rw [hL])
  have HOF := Lib.hid (fun (a' : Option Addr) (c' : Nat) (X : World) (h : StR X a' L) (hla : Hs.LaidC X) => Hs.of_any tag t a' c' L X ht (strs_of h) HFW.out hla)
  simp only [← HM.out, hLl] at HOF
  simp only [hLl] at HCO
  simp only [encR]
  rw [hn]
  have VI : (Tryd.prog.info? 36).map (·.size) = some (Hs.bvs (mkS t k3 parts)).size := by rw [Hs.bvs_size, mkS_len]; kernel_rfl
  have VS : (#[Value.int .u8 0, .int .u8 0, .int .u8 0, .int .u8 0, .int .u8 0, .int .u8 0, .int .u8 0, .int .u8 0, .int .u8 0, .int .u8 0, .int .u8 0, .int .u8 0, .int .u8 0, .int .u8 0, .int .u8 0, .int .u8 0] : Array Value).size = (Hs.bvs (mkS t k3 parts)).size := by rw [Hs.bvs_size, mkS_len]; rfl
  have VO := Hs.bvs_one (mkS t k3 parts)
  obtain ⟨V, hV⟩ : ∃ V, Hs.bvs (mkS t k3 parts) = V := ⟨_, rfl⟩
  rw [hV] at VI VS VO ⊢
  simp only [hV] at HOF
  have VI := Lib.hid VI
  have VS := Lib.hid VS
  have VO := Lib.hid VO
  simp only [List.length_cons, List.length_nil, Nat.zero_add, Nat.reduceAdd] at HCO
  clear hp hla hn hL hLl HM hf hV
  go_enter Tryd.func56, Tryd.ntmps56
  obtain ⟨G, hG⟩ : ∃ G, w.heap.size = G := ⟨_, rfl⟩
  have HG := Lib.hid hG
  have Kk := Lib.hid (show Blk ((w.alloc (.cells #[.int .i64 k1, .int .i64 k2, .string k3, .int .i64 k4, .int .i64 k5] 26)).alloc (.cells #[.int .u8 0, .int .u8 0, .int .u8 0, .int .u8 0, .int .u8 0, .int .u8 0, .int .u8 0, .int .u8 0, .int .u8 0, .int .u8 0, .int .u8 0, .int .u8 0, .int .u8 0, .int .u8 0, .int .u8 0, .int .u8 0] 36)) (G) 26 #[.int .i64 k1, .int .i64 k2, .string k3, .int .i64 k4, .int .i64 k5] from (Blk.new' _ _ _ _ hG rfl).alloc _)
  have Kr := Lib.hid (show Blk ((w.alloc (.cells #[.int .i64 k1, .int .i64 k2, .string k3, .int .i64 k4, .int .i64 k5] 26)).alloc (.cells #[.int .u8 0, .int .u8 0, .int .u8 0, .int .u8 0, .int .u8 0, .int .u8 0, .int .u8 0, .int .u8 0, .int .u8 0, .int .u8 0, .int .u8 0, .int .u8 0, .int .u8 0, .int .u8 0, .int .u8 0, .int .u8 0] 36)) (G + 1) 36 #[.int .u8 0, .int .u8 0, .int .u8 0, .int .u8 0, .int .u8 0, .int .u8 0, .int .u8 0, .int .u8 0, .int .u8 0, .int .u8 0, .int .u8 0, .int .u8 0, .int .u8 0, .int .u8 0, .int .u8 0, .int .u8 0] from Blk.new' _ _ _ _ (by rw [World.size_alloc, hG]) rfl)
  have B := Lib.hid (show Below w.heap.size w ((w.alloc (.cells #[.int .i64 k1, .int .i64 k2, .string k3, .int .i64 k4, .int .i64 k5] 26)).alloc (.cells #[.int .u8 0, .int .u8 0, .int .u8 0, .int .u8 0, .int .u8 0, .int .u8 0, .int .u8 0, .int .u8 0, .int .u8 0, .int .u8 0, .int .u8 0, .int .u8 0, .int .u8 0, .int .u8 0, .int .u8 0, .int .u8 0] 36)) by (repeat' (first | (with_reducible exact Below.refl _ _) | (with_reducible assumption) | (with_reducible refine Below.alloc ?_ ?_ _) | (with_reducible refine Below.drew ?_) | (with_reducible refine below_dn ?_) | (with_reducible refine Below.setCell ?_ ?_ _) | (with_reducible exact Nat.le_refl _) | omega | (simp only [World.size_alloc, World.size_setCell, World.size_drew]; omega) | (simp; omega) | (simp; done))))
  go_upto_region 1 with (fail)
  try rw [hG]
  generalize hw0 : ((w.alloc (.cells #[.int .i64 k1, .int .i64 k2, .string k3, .int .i64 k4, .int .i64 k5] 26)).alloc (.cells #[.int .u8 0, .int .u8 0, .int .u8 0, .int .u8 0, .int .u8 0, .int .u8 0, .int .u8 0, .int .u8 0, .int .u8 0, .int .u8 0, .int .u8 0, .int .u8 0, .int .u8 0, .int .u8 0, .int .u8 0, .int .u8 0] 36)) = w0 at Kk Kr B ⊢
  clear hw0 hG
  obtain ⟨Z, hZ⟩ : ∃ Z, w0.heap.size = Z := ⟨_, rfl⟩
  have K1 := Lib.hid (show Blk (((w0.alloc (.cells #[.string k3] 9)).alloc (.cells #[.string k3] 9)).alloc (.cells #[.slice (some ⟨Z, 0, none⟩) 1 1, .slice a n c, .slice (some ⟨Z + 1, 0, none⟩) 1 1] 112)) Z 9 #[.string k3] from ((Blk.new' w0 _ _ _ hZ rfl).alloc _).alloc _)
  have K2 := Lib.hid (show Blk (((w0.alloc (.cells #[.string k3] 9)).alloc (.cells #[.string k3] 9)).alloc (.cells #[.slice (some ⟨Z, 0, none⟩) 1 1, .slice a n c, .slice (some ⟨Z + 1, 0, none⟩) 1 1] 112)) (Z + 1) 9 #[.string k3] from (Blk.new' _ _ _ _ (by rw [World.size_alloc, hZ]) rfl).alloc _)
  have K3 := Lib.hid (show Blk (((w0.alloc (.cells #[.string k3] 9)).alloc (.cells #[.string k3] 9)).alloc (.cells #[.slice (some ⟨Z, 0, none⟩) 1 1, .slice a n c, .slice (some ⟨Z + 1, 0, none⟩) 1 1] 112)) (Z + 1 + 1) 112 #[.slice (some ⟨Z, 0, none⟩) 1 1, .slice a n c, .slice (some ⟨Z + 1, 0, none⟩) 1 1] from Blk.new' _ _ _ _ (by rw [World.size_alloc, World.size_alloc, hZ]) rfl)
  have BB := Lib.hid (show Below w0.heap.size w0 (((w0.alloc (.cells #[.string k3] 9)).alloc (.cells #[.string k3] 9)).alloc (.cells #[.slice (some ⟨Z, 0, none⟩) 1 1, .slice a n c, .slice (some ⟨Z + 1, 0, none⟩) 1 1] 112)) from by (repeat' (first | (with_reducible exact Below.refl _ _) | (with_reducible assumption) | (with_reducible refine Below.alloc ?_ ?_ _) | (with_reducible refine Below.drew ?_) | (with_reducible refine below_dn ?_) | (with_reducible refine Below.setCell ?_ ?_ _) | (with_reducible exact Nat.le_refl _) | omega | (simp only [World.size_alloc, World.size_setCell, World.size_drew]; omega) | (simp; omega) | (simp; done))))
  obtain ⟨bkc0, bkc1, bkc2, bkc3, bkc4⟩ := five Kk.out
  obtain ⟨brc0, brc1, brc2, brc3, brc4, brc5, brc6, brc7, brc8, brc9, brc10, brc11, brc12, brc13, brc14, brc15⟩ := sixteen Kr.out
  obtain ⟨-, -, kc2, -, -⟩ := five (Kk.out.alloc (.cells #[.string k3] 9))
  go_wp2_with fail
  try rw [hZ]
  refine (HCO.out Z _ K3.out (oneb K1.out) (oneb K2.out) (HP.out.mono (B.out.trans (BB.out.mono B.out.size)))).mono ?_
  rintro e w1 ⟨⟨a', c', rfl, hr⟩, hb⟩
  have hbb := BB.out.trans (hb.mono BB.out.size)
  have HR := Lib.hid hr
  clear bkc0 bkc1 bkc2 bkc3 bkc4 brc0 brc1 brc2 brc3 brc4 brc5 brc6 brc7 brc8 brc9 brc10 brc11 brc12 brc13 brc14 brc15
  replace Kk := Lib.hid (Kk.out.below hbb Kk.out.lt)
  replace Kr := Lib.hid (Kr.out.below hbb Kr.out.lt)
  replace B := Lib.hid (B.out.trans (hbb.mono B.out.size))
  clear hbb hb hr K1 K2 K3 BB HCO hZ kc2
  obtain ⟨bkc0, bkc1, bkc2, bkc3, bkc4⟩ := five Kk.out
  obtain ⟨brc0, brc1, brc2, brc3, brc4, brc5, brc6, brc7, brc8, brc9, brc10, brc11, brc12, brc13, brc14, brc15⟩ := sixteen Kr.out
  go_wp2_with fail
  refine (HOF.out a' c' _ HR.out (HL.out.below B.out)).mono ?_
  rintro e w1 ⟨rfl, hb⟩
  replace Kk := Lib.hid (Kk.out.below hb Kk.out.lt)
  replace Kr := Lib.hid (Kr.out.below hb Kr.out.lt)
  replace B := Lib.hid (B.out.trans (hb.mono B.out.size))
  clear bkc0 bkc1 bkc2 bkc3 bkc4 brc0 brc1 brc2 brc3 brc4 brc5 brc6 brc7 brc8 brc9 brc10 brc11 brc12 brc13 brc14 brc15
  clear hb
  obtain ⟨bkc0, bkc1, bkc2, bkc3, bkc4⟩ := five Kk.out
  obtain ⟨brc0, brc1, brc2, brc3, brc4, brc5, brc6, brc7, brc8, brc9, brc10, brc11, brc12, brc13, brc14, brc15⟩ := sixteen Kr.out
  clear bkc0 bkc1 bkc2 bkc3 bkc4 brc0 brc1 brc2 brc3 brc4 brc5 brc6 brc7 brc8 brc9 brc10 brc11 brc12 brc13 brc14 brc15
  go_wp2_with (refine Hs.wpList_store_blk rfl 36 _ _ rfl (G + 1) 36 _ V rfl rfl Kr.out VI.out VS.out VO.out rfl ?_)
  refine bodyPost_ret (v := .agg V) (results_cell_row rfl _ _ _ 36 _ (0, 0) _ rfl (Kr.out.row_ _) Tryd.underlying36 rfl VI.out) rfl ⟨rfl, below_setRow B.out (show w.heap.size ≤ G + 1 by have := HG.out; omega) _⟩
end
section
open Go.RowKit Go.Sort
def leaseC (s e u r : Int) (D : List Nat) : Array Value := (([.int .i64 s, .int .i64 e, .int .i64 u, .int .i64 r] : List Value) ++ D.map Hs.bv).toArray
theorem lease_at (s e u r : Int) (D : List Nat) : (leaseC s e u r D)[0]? = some (.int .i64 s) ∧ (leaseC s e u r D)[1]? = some (.int .i64 e) ∧ (leaseC s e u r D)[2]? = some (.int .i64 u) ∧ (leaseC s e u r D)[3]? = some (.int .i64 r) := by
  unfold leaseC
  refine ⟨?_, ?_, ?_, ?_⟩ <;> simp
theorem lease_size (s e u r : Int) (D : List Nat) (h : D.length = 16) : (leaseC s e u r D).size = 20 := by unfold leaseC; simp [h]
theorem lease_set (s e u r : Int) (D : List Nat) (v : Int) : (leaseC s e u r D).setIfInBounds 3 (.int .i64 v) = leaseC s e u v D := by
  unfold leaseC
  simp
theorem lease_cells {X : World} {g : Nat} {t : TypeId} {s e u r : Int} {D : List Nat} (h : Blk X g t (leaseC s e u r D)) : X.cell? ⟨g, 0, none⟩ = some (.int .i64 s) ∧ X.cell? ⟨g, 1, none⟩ = some (.int .i64 e) ∧ X.cell? ⟨g, 2, none⟩ = some (.int .i64 u) ∧ X.cell? ⟨g, 3, none⟩ = some (.int .i64 r) := by
  obtain ⟨h0, h1, h2, h3⟩ := lease_at s e u r D
  exact ⟨(h.cell 0).trans h0, (h.cell 1).trans h1, (h.cell 2).trans h2, (h.cell 3).trans h3⟩
def leaseP (s e u r : Int) : ByteArray := Hs.strB (Hs.intsL [s, e, u, r])
def i64Ok (n : Int) : Prop := -9223372036854775808 ≤ n ∧ n ≤ 9223372036854775807
theorem enc_lt (n : Int) : ∀ x ∈ Hs.Wi.enc n, x < 256 := by
  have key : ∀ k z, z ≤ k → ∀ x ∈ Hs.Wi.digs z, x < 256 := by
    intro k
    induction k with
    | zero =>
      intro z hz x hx
      rw [Hs.Wi.digs_lo (by omega)] at hx
      simp at hx
      omega
    | succ k ih =>
      intro z hz x hx
      rcases Nat.lt_or_ge z 128 with h | h
      · rw [Hs.Wi.digs_lo h] at hx
        simp at hx
        omega
      · rw [Hs.Wi.digs_hi h] at hx
        rcases List.mem_cons.1 hx with rfl | hx
        · omega
        · exact ih (z / 128) (by omega) x hx
  exact key _ _ (Nat.le_refl _)
theorem intsL_lt (l : List Int) : ∀ x ∈ Hs.intsL l, x < 256 := fun x hx => by
  unfold Hs.intsL at hx
  rcases List.mem_append.1 hx with h | h
  · exact enc_lt _ x h
  · obtain ⟨n, -, h2⟩ := List.mem_flatMap.1 h
    exact enc_lt _ x h2
theorem intsL4 (s e u r : Int) (h1 : i64Ok s) (h2 : i64Ok e) (h3 : i64Ok u) (h4 : i64Ok r) : (Hs.intsL [s, e, u, r]).length ≤ 60 := by
  unfold i64Ok at *
  have a := (Hs.Wi.enc_len s h1.1 h1.2).2
  have b := (Hs.Wi.enc_len e h2.1 h2.2).2
  have c := (Hs.Wi.enc_len u h3.1 h3.2).2
  have d := (Hs.Wi.enc_len r h4.1 h4.2).2
  have n := (Hs.Wi.enc_len ([s, e, u, r] : List Int).length (by simp) (by simp)).2
  unfold Hs.intsL
  simp only [List.length_append, List.flatMap_cons, List.flatMap_nil, List.length_nil]
  omega
theorem ints4 {X : World} {g : Nat} {s e u r : Int} (h : Blk X g 3 #[.int .i64 s, .int .i64 e, .int .i64 u, .int .i64 r]) : Hs.IntsA X (some ⟨g, 0, none⟩) [s, e, u, r] := fun k hk => by
  refine ⟨g, 0, rfl, ?_⟩
  rw [Nat.zero_add, h.cell k]
  match k, hk with
  | 0, _ => rfl
  | 1, _ => rfl
  | 2, _ => rfl
  | 3, _ => rfl
set_option maxRecDepth 100000 in
theorem list_any (v : Value) (w : World) : Calls Tryd.prog 70 #[v] w fun e w' => e = .returned v ∧ w = w' := by
  go_enter Tryd.func70, Tryd.ntmps70
  go_wp2
  go_ret
  exact ⟨rfl, rfl⟩
set_option maxRecDepth 100000 in
set_option maxHeartbeats 1000000 in
theorem leaseParts_any (s e u r : Int) (D : List Nat) (w : World) (h1 : i64Ok s) (h2 : i64Ok e) (h3 : i64Ok u) (h4 : i64Ok r) :
    Calls Tryd.prog 57 #[.agg (leaseC s e u r D)] w fun e' w' => (∃ a c, e' = .returned (.slice a 1 c) ∧ StR w' a [leaseP s e u r]) ∧ Below w.heap.size w w' := by
  have hn := intsL4 s e u r h1 h2 h3 h4
  have NU := Lib.hid (fun (g : Nat) (X : World) (h : Blk X g 3 #[.int .i64 s, .int .i64 e, .int .i64 u, .int .i64 r]) => Hs.numbers_any (some ⟨g, 0, none⟩) 4 [s, e, u, r] X (ints4 h) (fun k hk => by
    match k, hk with
    | 0, _ => exact h1
    | 1, _ => exact h2
    | 2, _ => exact h3
    | 3, _ => exact h4) (by simp) (by omega) (intsL_lt _))
  simp only [List.length_cons, List.length_nil, Nat.zero_add, Nat.reduceAdd] at NU
  obtain ⟨P, hP⟩ : ∃ P, leaseP s e u r = P := ⟨_, rfl⟩
  have hP2 : Hs.strB (Hs.intsL [s, e, u, r]) = P := hP
  simp only [hP2] at NU
  rw [hP]
  clear hP hP2 hn h1 h2 h3 h4
  have LI := Lib.hid (fun (v : Value) (X : World) => list_any v X)
  obtain ⟨C, hC⟩ : ∃ C, leaseC s e u r D = C := ⟨_, rfl⟩
  obtain ⟨G, hG⟩ : ∃ G, w.heap.size = G := ⟨_, rfl⟩
  have HG := Lib.hid hG
  have K1 := Lib.hid (show Blk (w.alloc (.cells C 38)) G 38 (leaseC s e u r D) from by rw [hC]; exact Blk.new' w _ _ _ hG rfl)
  have B := Lib.hid (show Below w.heap.size w (w.alloc (.cells C 38)) by (repeat' (first | (with_reducible exact Below.refl _ _) | (with_reducible assumption) | (with_reducible refine Below.alloc ?_ ?_ _) | (with_reducible refine Below.drew ?_) | (with_reducible refine below_dn ?_) | (with_reducible refine Below.setCell ?_ ?_ _) | (with_reducible exact Nat.le_refl _) | omega | (simp only [World.size_alloc, World.size_setCell, World.size_drew]; omega) | (simp; omega) | (simp; done))))
  rw [hC]
  clear hC
  go_enter Tryd.func57, Tryd.ntmps57
  go_upto_region 1 with (fail)
  try rw [hG]
  generalize hw0 : w.alloc (.cells C 38) = w0 at K1 B ⊢
  clear hw0 hG
  obtain ⟨d0, d1, d2, d3⟩ := lease_cells K1.out
  obtain ⟨Z, hZ⟩ : ∃ Z, w0.heap.size = Z := ⟨_, rfl⟩
  have K2 := Lib.hid (show Blk (w0.alloc (.cells #[.int .i64 s, .int .i64 e, .int .i64 u, .int .i64 r] 3)) Z 3 #[.int .i64 s, .int .i64 e, .int .i64 u, .int .i64 r] from Blk.new' w0 _ _ _ hZ rfl)
  have BB := Lib.hid (show Below w0.heap.size w0 (w0.alloc (.cells #[.int .i64 s, .int .i64 e, .int .i64 u, .int .i64 r] 3)) from by (repeat' (first | (with_reducible exact Below.refl _ _) | (with_reducible assumption) | (with_reducible refine Below.alloc ?_ ?_ _) | (with_reducible refine Below.drew ?_) | (with_reducible refine below_dn ?_) | (with_reducible refine Below.setCell ?_ ?_ _) | (with_reducible exact Nat.le_refl _) | omega | (simp only [World.size_alloc, World.size_setCell, World.size_drew]; omega) | (simp; omega) | (simp; done))))
  go_wp2_with fail
  try rw [hZ]
  refine (NU.out Z _ K2.out).mono ?_
  rintro e' w1 ⟨rfl, hb⟩
  replace B := Lib.hid (B.out.trans ((BB.out.trans (hb.mono BB.out.size)).mono B.out.size))
  clear hb K1 K2 BB NU d0 d1 d2 d3 hZ
  obtain ⟨Y, hY⟩ : ∃ Y, w1.heap.size = Y := ⟨_, rfl⟩
  have K3 := Lib.hid (show Blk (w1.alloc (.cells #[.string P] 9)) Y 9 #[.string P] from Blk.new' w1 _ _ _ hY rfl)
  replace B := Lib.hid (B.out.alloc B.out.size (.cells #[.string P] 9))
  go_wp2_with fail
  try rw [hY]
  refine (LI.out _ _).mono ?_
  rintro e' w2 ⟨rfl, rfl⟩
  generalize hw1 : w1.alloc (.cells #[.string P] 9) = w2 at K3 B ⊢
  clear hw1 hY
  go_wp2
  go_ret
  exact ⟨⟨_, _, rfl, one_str _ _ P (oneb K3.out)⟩, B.out⟩
end
section
open Go.RowKit Go.Sort
section
variable {P : Program} {a : Act} {W : World} {o : Oper} {K : Act → World → Prop} {Q : Exit → Act → World → Prop}
theorem exec_load_row (ty : TypeId) (x : Operand) (ho : o.op = .load ty x) (g : Nat) (hx : a.eval x = .pointer (some ⟨g, 0, none⟩)) (t : TypeId) (cs : Array Value) (fr : Nat × Nat) (d : TypeDesc)
    (hg : W.heap[g]? = some (.cells cs t fr)) (hu : P.underlying ty = some d) (hd : (match d with | .struct _ | .array _ _ => true | _ => false) = true) (hi : (P.info? ty).map (·.size) = some cs.size) :
    (execOp a.eval o).run P W = .ok (.value (.agg cs)) W := by
  unfold execOp
  simp only [ho, hx, Instr.loadAt, Instr.sureAddr, Sem.run_bind, Sem.run_pure, Result.andThen_ok, run_loadVar_row W g t ty cs fr d hg hu hd hi]
theorem wp_load_row (ty : TypeId) (x : Operand) (ho : o.op = .load ty x) (g : Nat) (hx : a.eval x = .pointer (some ⟨g, 0, none⟩)) (t : TypeId) (cs : Array Value) (d : TypeDesc)
    (hg : Blk W g t cs) (hu : P.underlying ty = some d) (hd : (match d with | .struct _ | .array _ _ => true | _ => false) = true) (hi : (P.info? ty).map (·.size) = some cs.size) (h : K (a.put o.dst (.agg cs)) W) : o.wp P a W K Q := by
  unfold Oper.wp
  rw [exec_load_row ty x ho g hx t cs (0, 0) d hg hu hd hi]
  exact h
theorem wp_store_mid (ty : TypeId) (x y : Operand) (ho : o.op = .store ty x y) (g n : Nat) (t : TypeId) (cur : List Value) (cells : Array Value) (hx : a.eval x = .pointer (some ⟨g, n, none⟩)) (hy : a.eval y = .agg cells)
    (hg : Hs.Blk W g t cur.toArray) (hi : (P.info? ty).map (·.size) = some cells.size) (hf : n + cells.size ≤ cur.length) (h1 : cells.all (·.oneCell') = true)
    (hd : o.dst = none) (h : K a (W.setRow g (splice cur n cells.toList).toArray)) : o.wp P a W K Q := by
  unfold Oper.wp execOp
  simp only [ho, hx, hy, Instr.storeAt, Instr.sureAddr, Sem.run_bind, Sem.run_pure, Result.andThen_ok, Hs.run_storeVar_mid_row W g n t ty cur cells hg hi hf h1]
  have e : a.put o.dst undef = a := by rw [hd]; rfl
  rw [← e] at h
  exact h
end
def leaseL (s e u r : Int) (D : List Nat) : List Value := ([.int .i64 s, .int .i64 e, .int .i64 u, .int .i64 r] : List Value) ++ D.map Hs.bv
theorem lease_splice (s e u r : Int) (D V : List Nat) (hD : D.length = 16) (hV : V.length = 16) : splice (leaseL s e u r D) 4 (Hs.bvs V).toList = leaseL s e u r V := by
  unfold splice leaseL Hs.bvs
  simp [hV, hD]
theorem lease_one (s e u r : Int) (D : List Nat) : (leaseC s e u r D).all (·.oneCell') = true := by
  rw [Array.all_eq_true_iff_forall_mem]
  intro v hv
  unfold leaseC at hv
  simp only [List.mem_toArray, List.mem_append, List.mem_cons, List.not_mem_nil, or_false, List.mem_map] at hv
  rcases hv with (rfl | rfl | rfl | rfl) | ⟨x, -, rfl⟩ <;> rfl
set_option maxRecDepth 100000 in
set_option maxHeartbeats 1000000 in
theorem sealLease_any (k : Rw) (s e0 u r : Int) (D : List Nat) (w : World) (hD : D.length = 16) (h1 : i64Ok s) (h2 : i64Ok e0) (h3 : i64Ok u) (hk : i64Ok k.2.1) (hs : k.2.2.1.size ≤ 400) (hla : Hs.LaidC w) :
    Calls Tryd.prog 39 #[.agg (encR k).toArray, .agg (leaseC s e0 u r D)] w fun e w' => e = .returned (.agg (leaseC s e0 u k.2.1 (mkS 43 k.2.2.1 [leaseP s e0 u k.2.1]))) ∧ Below w.heap.size w w' := by
  have HLA := Lib.hid hla
  have ho2 : i64Ok k.2.1 := hk
  obtain ⟨k1, k2, k3, k4, k5⟩ := k
  simp only at hs ho2 hk
  have HP := Lib.hid (fun (X : World) => leaseParts_any s e0 u k2 D X h1 h2 h3 ho2)
  have PS : ∀ x ∈ [leaseP s e0 u k2], x.size ≤ 400 := fun x hx => by
    obtain rfl := List.mem_singleton.1 hx
    unfold leaseP
    rw [Hs.strB_size]
    have := intsL4 s e0 u k2 h1 h2 h3 ho2
    omega
  have HM := Lib.hid (fun (a : Option Addr) (c : Nat) (X : World) (h : StR X a [leaseP s e0 u k2]) (hla : Hs.LaidC X) => make_any (k1, k2, k3, k4, k5) 43 43 a c [leaseP s e0 u k2] X rfl h ⟨by simp, PS⟩ hs hla)
  simp only [encR, List.length_cons, List.length_nil, Nat.zero_add] at HM
  simp only [encR]
  obtain ⟨P, hP⟩ : ∃ P, leaseP s e0 u k2 = P := ⟨_, rfl⟩
  simp only [hP] at HM
  simp only [hP] at HP
  rw [hP]
  obtain ⟨V, hV⟩ : ∃ V, mkS 43 k3 [P] = V := ⟨_, rfl⟩
  have hVl : V.length = 16 := by rw [← hV]; exact mkS_len _ _ _
  simp only [hV] at HM
  rw [hV]
  have VI := Lib.hid (show (Tryd.prog.info? 36).map (·.size) = some (Hs.bvs V).size by rw [Hs.bvs_size, hVl]; kernel_rfl)
  have VO := Lib.hid (Hs.bvs_one V)
  have VF := Lib.hid (show 4 + (Hs.bvs V).size ≤ (leaseL s e0 u k2 D).length by rw [Hs.bvs_size, hVl]; unfold leaseL; simp [hD])
  have VS := Lib.hid (lease_splice s e0 u k2 D V hD hVl)
  have LI := Lib.hid (show (Tryd.prog.info? 38).map (·.size) = some (leaseC s e0 u k2 D).size by rw [lease_size _ _ _ _ _ hD]; kernel_rfl)
  have LJ := Lib.hid (show (Tryd.prog.info? 38).map (·.size) = some (leaseC s e0 u k2 V).size by rw [lease_size _ _ _ _ _ hVl]; kernel_rfl)
  have LS := Lib.hid (show (#[.int .i64 0, .int .i64 0, .int .i64 0, .int .i64 0, .int .u8 0, .int .u8 0, .int .u8 0, .int .u8 0, .int .u8 0, .int .u8 0, .int .u8 0, .int .u8 0, .int .u8 0, .int .u8 0, .int .u8 0, .int .u8 0, .int .u8 0, .int .u8 0, .int .u8 0, .int .u8 0] : Array Value).size = (leaseC s e0 u k2 V).size by rw [lease_size _ _ _ _ _ hVl]; rfl)
  have LO := Lib.hid (lease_one s e0 u k2 V)
  have KI := Lib.hid (show (Tryd.prog.info? 26).map (·.size) = some (#[.int .i64 k1, .int .i64 k2, .string k3, .int .i64 k4, .int .i64 k5] : Array Value).size from by kernel_rfl)
  have LSET := Lib.hid (lease_set s e0 u r D k2)
  clear hla hk ho2 h1 h2 h3 hs PS hP hV hVl hD
  obtain ⟨C, hC⟩ : ∃ C, leaseC s e0 u r D = C := ⟨_, rfl⟩
  obtain ⟨G, hG⟩ : ∃ G, w.heap.size = G := ⟨_, rfl⟩
  have HG := Lib.hid hG
  have Kk := Lib.hid (show Blk (((w.alloc (.cells #[.int .i64 k1, .int .i64 k2, .string k3, .int .i64 k4, .int .i64 k5] 26)).alloc (.cells C 38)).alloc (.cells #[.int .i64 0, .int .i64 0, .int .i64 0, .int .i64 0, .int .u8 0, .int .u8 0, .int .u8 0, .int .u8 0, .int .u8 0, .int .u8 0, .int .u8 0, .int .u8 0, .int .u8 0, .int .u8 0, .int .u8 0, .int .u8 0, .int .u8 0, .int .u8 0, .int .u8 0, .int .u8 0] 38)) G 26 #[.int .i64 k1, .int .i64 k2, .string k3, .int .i64 k4, .int .i64 k5] from ((Blk.new' w _ _ _ hG rfl).alloc _).alloc _)
  have Kx := Lib.hid (show Blk (((w.alloc (.cells #[.int .i64 k1, .int .i64 k2, .string k3, .int .i64 k4, .int .i64 k5] 26)).alloc (.cells C 38)).alloc (.cells #[.int .i64 0, .int .i64 0, .int .i64 0, .int .i64 0, .int .u8 0, .int .u8 0, .int .u8 0, .int .u8 0, .int .u8 0, .int .u8 0, .int .u8 0, .int .u8 0, .int .u8 0, .int .u8 0, .int .u8 0, .int .u8 0, .int .u8 0, .int .u8 0, .int .u8 0, .int .u8 0] 38)) (G + 1) 38 (leaseC s e0 u r D) from by rw [hC]; exact (Blk.new' _ _ _ _ (by rw [World.size_alloc, hG]) rfl).alloc _)
  have Kr := Lib.hid (show Blk (((w.alloc (.cells #[.int .i64 k1, .int .i64 k2, .string k3, .int .i64 k4, .int .i64 k5] 26)).alloc (.cells C 38)).alloc (.cells #[.int .i64 0, .int .i64 0, .int .i64 0, .int .i64 0, .int .u8 0, .int .u8 0, .int .u8 0, .int .u8 0, .int .u8 0, .int .u8 0, .int .u8 0, .int .u8 0, .int .u8 0, .int .u8 0, .int .u8 0, .int .u8 0, .int .u8 0, .int .u8 0, .int .u8 0, .int .u8 0] 38)) (G + 1 + 1) 38 #[.int .i64 0, .int .i64 0, .int .i64 0, .int .i64 0, .int .u8 0, .int .u8 0, .int .u8 0, .int .u8 0, .int .u8 0, .int .u8 0, .int .u8 0, .int .u8 0, .int .u8 0, .int .u8 0, .int .u8 0, .int .u8 0, .int .u8 0, .int .u8 0, .int .u8 0, .int .u8 0] from Blk.new' _ _ _ _ (by rw [World.size_alloc, World.size_alloc, hG]) rfl)
  have B := Lib.hid (show Below w.heap.size w (((w.alloc (.cells #[.int .i64 k1, .int .i64 k2, .string k3, .int .i64 k4, .int .i64 k5] 26)).alloc (.cells C 38)).alloc (.cells #[.int .i64 0, .int .i64 0, .int .i64 0, .int .i64 0, .int .u8 0, .int .u8 0, .int .u8 0, .int .u8 0, .int .u8 0, .int .u8 0, .int .u8 0, .int .u8 0, .int .u8 0, .int .u8 0, .int .u8 0, .int .u8 0, .int .u8 0, .int .u8 0, .int .u8 0, .int .u8 0] 38)) by (repeat' (first | (with_reducible exact Below.refl _ _) | (with_reducible assumption) | (with_reducible refine Below.alloc ?_ ?_ _) | (with_reducible refine Below.drew ?_) | (with_reducible refine below_dn ?_) | (with_reducible refine Below.setCell ?_ ?_ _) | (with_reducible exact Nat.le_refl _) | omega | (simp only [World.size_alloc, World.size_setCell, World.size_drew]; omega) | (simp; omega) | (simp; done))))
  rw [hC]
  clear hC
  go_enter Tryd.func39, Tryd.ntmps39
  go_upto_region 1 with (fail)
  try rw [hG]
  generalize hw0 : (((w.alloc (.cells #[.int .i64 k1, .int .i64 k2, .string k3, .int .i64 k4, .int .i64 k5] 26)).alloc (.cells C 38)).alloc (.cells #[.int .i64 0, .int .i64 0, .int .i64 0, .int .i64 0, .int .u8 0, .int .u8 0, .int .u8 0, .int .u8 0, .int .u8 0, .int .u8 0, .int .u8 0, .int .u8 0, .int .u8 0, .int .u8 0, .int .u8 0, .int .u8 0, .int .u8 0, .int .u8 0, .int .u8 0, .int .u8 0] 38)) = w0 at Kk Kx Kr B ⊢
  clear hw0 hG
  obtain ⟨t0, t1, t2, t3, t4⟩ := five Kk.out
  obtain ⟨x0, x1, x2, x3⟩ := lease_cells Kx.out
  have fx := fun q => Kx.out.frozen q
  replace Kx := Lib.hid (show Blk (w0.setCell ⟨G + 1, 3, none⟩ (.int .i64 k2)) (G + 1) 38 (leaseC s e0 u k2 D) from by have h := Kx.out.set_ 3 (.int .i64 k2); rw [LSET.out] at h; exact h)
  replace Kk := Lib.hid (show Blk (w0.setCell ⟨G + 1, 3, none⟩ (.int .i64 k2)) G 26 #[.int .i64 k1, .int .i64 k2, .string k3, .int .i64 k4, .int .i64 k5] from Kk.out.far (p := ⟨G + 1, 3, none⟩) (by simp) (.int .i64 k2))
  replace Kr := Lib.hid (show Blk (w0.setCell ⟨G + 1, 3, none⟩ (.int .i64 k2)) (G + 1 + 1) 38 #[.int .i64 0, .int .i64 0, .int .i64 0, .int .i64 0, .int .u8 0, .int .u8 0, .int .u8 0, .int .u8 0, .int .u8 0, .int .u8 0, .int .u8 0, .int .u8 0, .int .u8 0, .int .u8 0, .int .u8 0, .int .u8 0, .int .u8 0, .int .u8 0, .int .u8 0, .int .u8 0] from Kr.out.far (p := ⟨G + 1, 3, none⟩) (by simp) (.int .i64 k2))
  replace B := Lib.hid (show Below w.heap.size w (w0.setCell ⟨G + 1, 3, none⟩ (.int .i64 k2)) from B.out.setCell (p := ⟨G + 1, 3, none⟩) (show w.heap.size ≤ G + 1 by have := HG.out; omega) (.int .i64 k2))
  go_upto_region 2 with (fail)
  generalize hw1 : (w0.setCell ⟨G + 1, 3, none⟩ (.int .i64 k2)) = w1 at Kk Kx Kr B ⊢
  clear hw1 t0 t1 t2 t3 t4 x0 x1 x2 x3 fx LSET
  refine wp_region_held_drew (S := fun W => Blk W G 26 #[.int .i64 k1, .int .i64 k2, .string k3, .int .i64 k4, .int .i64 k5]) (by kernel_rfl) Kk.out.drew (fun hHeld => ?_)
  replace Kx := Lib.hid Kx.out.drew
  replace Kk := Lib.hid Kk.out.drew
  replace Kr := Lib.hid Kr.out.drew
  replace B := Lib.hid B.out.drew
  generalize w1.drew = w2 at Kx Kk Kr B hHeld ⊢
  refine wpAnyH_take (i := 0) (v := .agg #[.int .i64 k1, .int .i64 k2, .string k3, .int .i64 k4, .int .i64 k5]) rfl (by kernel_rfl) (by kernel_rfl) (by kernel_rfl) (fun _ _ _ h => h) (Or.inl ⟨by rfl, fun W hW => exec_load_row 26 _ rfl G rfl 26 #[.int .i64 k1, .int .i64 k2, .string k3, .int .i64 k4, .int .i64 k5] (0, 0) _ hW Tryd.underlying26 rfl KI.out⟩) (by assumption) ?_
  (try simp only [Act.put, List.getElem_toArray, List.getElem_cons_succ, List.getElem_cons_zero, List.setIfInBounds_toArray, List.set_cons_zero, List.set_cons_succ])
  refine wpAnyH_ready (rs := [1]) (by kernel_rfl) (by simp) (AllReadyH.cons rfl (fun K hK => ?_) AllReadyH.nil)
  rw [if_pos (by rfl)]
  refine wp_load_row 38 _ rfl (G + 1) rfl 38 (leaseC s e0 u k2 D) _ Kx.out Tryd.underlying38 rfl LI.out ?_
  refine hK _ _ hHeld (fun hHeld1 => ?_)
  clear hK K
  (try simp only [Act.put, List.getElem_toArray, List.getElem_cons_succ, List.getElem_cons_zero, List.setIfInBounds_toArray, List.set_cons_zero, List.set_cons_succ])
  refine wpAnyH_ready (rs := [2]) (by kernel_rfl) (by simp) (AllReadyH.cons rfl (fun K hK => ?_) AllReadyH.nil)
  go_simp
  refine (HP.out _).mono ?_
  rintro e w3 ⟨⟨a, c, rfl, hr⟩, hb⟩
  have HR := Lib.hid hr
  replace Kx := Lib.hid (Kx.out.below hb Kx.out.lt)
  replace Kk := Lib.hid (Kk.out.below hb Kk.out.lt)
  replace Kr := Lib.hid (Kr.out.below hb Kr.out.lt)
  replace B := Lib.hid (B.out.trans (hb.mono B.out.size))
  clear hb hr
  go_wp2_with fail
  refine hK _ _ Kk.out (fun hHeld2 => ?_)
  clear hK K
  (try simp only [Act.put, List.getElem_toArray, List.getElem_cons_succ, List.getElem_cons_zero, List.setIfInBounds_toArray, List.set_cons_zero, List.set_cons_succ])
  refine wpAnyH_ready (rs := [3]) (by kernel_rfl) (by simp) (AllReadyH.cons rfl (fun K hK => ?_) AllReadyH.nil)
  go_simp
  refine (HM.out a c _ HR.out (HLA.out.below B.out)).mono ?_
  rintro e w4 ⟨rfl, hb⟩
  replace Kx := Lib.hid (Kx.out.below hb Kx.out.lt)
  replace Kk := Lib.hid (Kk.out.below hb Kk.out.lt)
  replace Kr := Lib.hid (Kr.out.below hb Kr.out.lt)
  replace B := Lib.hid (B.out.trans (hb.mono B.out.size))
  clear hb
  go_wp2_with fail
  refine hK _ _ Kk.out (fun hHeld3 => ?_)
  clear hK K
  (try simp only [Act.put, List.getElem_toArray, List.getElem_cons_succ, List.getElem_cons_zero, List.setIfInBounds_toArray, List.set_cons_zero, List.set_cons_succ])
  refine wpAnyH_take (i := 4) (v := .pointer (some ⟨G + 1, 4, none⟩)) rfl (by kernel_rfl) (by kernel_rfl) (by kernel_rfl) (fun _ _ _ h => h) (Or.inl ⟨by rfl, fun W hW => by go_simp⟩) (by assumption) ?_
  (try simp only [Act.put, List.getElem_toArray, List.getElem_cons_succ, List.getElem_cons_zero, List.setIfInBounds_toArray, List.set_cons_zero, List.set_cons_succ])
  refine wpAnyH_ready (rs := [5]) (by kernel_rfl) (by simp) (AllReadyH.cons rfl (fun K hK => ?_) AllReadyH.nil)
  rw [if_pos (by rfl)]
  refine wp_store_mid 36 _ _ rfl (G + 1) 4 38 (leaseL s e0 u k2 D) (Hs.bvs V) rfl rfl Kx.out VI.out VF.out VO.out rfl ?_
  rw [VS.out]
  have Kx5 := Lib.hid (show Blk (w4.setRow (G + 1) (leaseL s e0 u k2 V).toArray) (G + 1) 38 (leaseC s e0 u k2 V) from Kx.out.row_ _)
  have Kk5 := Lib.hid (show Blk (w4.setRow (G + 1) (leaseL s e0 u k2 V).toArray) G 26 #[.int .i64 k1, .int .i64 k2, .string k3, .int .i64 k4, .int .i64 k5] from Kk.out.rowfar (by omega) _)
  have Kr5 := Lib.hid (show Blk (w4.setRow (G + 1) (leaseL s e0 u k2 V).toArray) (G + 1 + 1) 38 #[.int .i64 0, .int .i64 0, .int .i64 0, .int .i64 0, .int .u8 0, .int .u8 0, .int .u8 0, .int .u8 0, .int .u8 0, .int .u8 0, .int .u8 0, .int .u8 0, .int .u8 0, .int .u8 0, .int .u8 0, .int .u8 0, .int .u8 0, .int .u8 0, .int .u8 0, .int .u8 0] from Kr.out.rowfar (by omega) _)
  have B5 := Lib.hid (show Below w.heap.size w (w4.setRow (G + 1) (leaseL s e0 u k2 V).toArray) from below_setRow B.out (show w.heap.size ≤ G + 1 by have := HG.out; omega) _)
  refine hK _ _ Kk5.out (fun hHeld4 => ?_)
  clear hK K
  (try simp only [Act.put, List.getElem_toArray, List.getElem_cons_succ, List.getElem_cons_zero, List.setIfInBounds_toArray, List.set_cons_zero, List.set_cons_succ])
  refine wpAnyH_done (by kernel_rfl) ?_ _
  generalize (w4.setRow (G + 1) (leaseL s e0 u k2 V).toArray) = w5 at Kx5 Kr5 B5 ⊢
  have Hx := Lib.hid (show Hs.Blk w5 (G + 1) 38 (leaseC s e0 u k2 V) from Kx5.out)
  have Hr := Lib.hid (show Hs.Blk w5 (G + 1 + 1) 38 #[.int .i64 0, .int .i64 0, .int .i64 0, .int .i64 0, .int .u8 0, .int .u8 0, .int .u8 0, .int .u8 0, .int .u8 0, .int .u8 0, .int .u8 0, .int .u8 0, .int .u8 0, .int .u8 0, .int .u8 0, .int .u8 0, .int .u8 0, .int .u8 0, .int .u8 0, .int .u8 0] from Kr5.out)
  go_wp2_with (first | (with_reducible refine Hs.wpList_load_all rfl 38 _ rfl (G + 1) rfl 38 (leaseC s e0 u k2 V) _ Hx.out Tryd.underlying38 LJ.out ?_) | (with_reducible refine Hs.wpList_store_blk rfl 38 _ _ rfl (G + 1 + 1) 38 _ (leaseC s e0 u k2 V) rfl rfl Hr.out LJ.out LS.out LO.out rfl ?_))
  refine bodyPost_ret (v := .agg (leaseC s e0 u k2 V)) (results_cell_row rfl _ _ _ 38 _ (0, 0) _ rfl (Kr5.out.row_ _) Tryd.underlying38 rfl LJ.out) rfl ⟨rfl, below_setRow B5.out (show w.heap.size ≤ G + 1 + 1 by have := HG.out; omega) _⟩
end
section
namespace Hs
open Go.RowKit
set_option maxRecDepth 100000 in
theorem eqItems_all (d : Nat) (xs ys : List Nat) (n : Nat) (W : World) (hx : xs.length = n) (hy : ys.length = n) : ∀ is : List Nat, (∀ i ∈ is, i < n) → (Op.eqItems (d + 1) 5 (Tryd.prog.cellsOf 5) (bvs xs) (bvs ys) is).run Tryd.prog W = .ok (is.all fun i => xs.getD i 0 == ys.getD i 0) W
  | [], _ => by simp [Op.eqItems]
  | i :: is, h => by
    have hi := h i (by simp)
    have ih := eqItems_all d xs ys n W hx hy is (fun j hj => h j (by simp [hj]))
    have e1 : Tryd.prog.cellsOf 5 = 1 := by kernel_rfl
    have hp : ∀ zs : List Nat, zs.length = n → (part 5 (bvs zs) (i * Tryd.prog.cellsOf 5)).run Tryd.prog W = .ok (bv (zs.getD i 0)) W := fun zs hz => by
      have ha := bvs_at zs i (by omega)
      rw [e1, Nat.mul_one]
      have h2 : (isAgg 5).run Tryd.prog W = .ok false W := by kernel_rfl
      simp [part, h2, ha]
    simp only [Op.eqItems, Sem.run_bind, hp xs hx, hp ys hy, Result.andThen_ok]
    have h3 : (Op.equalIn (d + 1) 5 (bv (xs.getD i 0)) (bv (ys.getD i 0))).run Tryd.prog W = .ok (xs.getD i 0 == ys.getD i 0) W := by
      have := run_equalIn_int (P := Tryd.prog) W d 5 .u8 .u8 ((xs.getD i 0 : Nat) : Int) ((ys.getD i 0 : Nat) : Int) Tryd.underlying5
      rw [this]
      by_cases h : xs.getD i 0 = ys.getD i 0
      · rw [h, beq_self_eq_true, beq_self_eq_true]
      · rw [beq_eq_false_iff_ne.2 h, beq_eq_false_iff_ne.2 (show ((xs.getD i 0 : Nat) : Int) ≠ ((ys.getD i 0 : Nat) : Int) from fun h' => h (by omega))]
    simp only [h3, Result.andThen_ok, List.all_cons]
    cases (xs.getD i 0 == ys.getD i 0)
    · simp
    · simpa using ih
set_option maxRecDepth 100000 in
theorem equalIn_16d (xs ys : List Nat) (hx : xs.length = 16) (hy : ys.length = 16) (W : World) : (Op.equalIn 10000 36 (.agg (bvs xs)) (.agg (bvs ys))).run Tryd.prog W = .ok (decide (xs = ys)) W := by
  obtain ⟨i, hi⟩ : ∃ i, Tryd.prog.info? 5 = some i := by
    obtain ⟨i0, hi, -⟩ := info_parts infoB
    exact ⟨_, hi⟩
  show (Op.equalIn (9999 + 1) 36 (.agg (bvs xs)) (.agg (bvs ys))).run Tryd.prog W = _
  rw [run_equalIn_array W 9999 (n := 16) (bvs xs) (bvs ys) Tryd.underlying36 hi, eqItems_all 9998 xs ys 16 W hx hy _ (fun i hi => by simpa using hi)]
  congr 1
  by_cases h : xs = ys
  · rw [h, decide_eq_true rfl]; simp
  · rw [decide_eq_false h, List.all_eq_false]
    apply Classical.byContradiction
    intro hn
    apply h
    apply List.ext_getElem (by omega)
    intro k h1 h2
    apply Classical.byContradiction
    intro hk
    apply hn
    refine ⟨k, by simp; omega, ?_⟩
    rw [getD_at 0 h1, getD_at 0 h2]
    simpa using hk
end Hs
open Go.RowKit Go.Sort
def chkE (l : List Rw) (p s : Int) (t : Nat) (parts : List ByteArray) (S : List Nat) (lo hi : Int) : Int :=
  if hasC (cR p s) l = true then (if countsB (findL l p s) lo hi = true then (if mkS t (findL l p s).2.2.1 parts = S then 0 else 8) else 9) else 5
set_option maxRecDepth 100000 in
set_option maxHeartbeats 1000000 in
theorem check_no (a : Option Addr) (c : Nat) (l : List Rw) (p s tag : Int) (t : Nat) (b : Option Addr) (c2 : Nat) (parts : List ByteArray) (S : List Nat) (lo hi : Int) (w : World) (hp : RwA w a l) (hq : StR w b parts) (ok : RingOk l) (ht : tag % 256 = t) (hf : parts.length ≤ 36 ∧ ∀ x ∈ parts, x.size ≤ 400) (hS : S.length = 16) (hla : Hs.LaidC w) (hh : ¬ hasC (cR p s) l = true) :
    Calls Tryd.prog 75 #[.slice a l.length c, .int .i64 p, .int .i64 s, .int .i64 tag, .slice b parts.length c2, .agg (Hs.bvs S), per lo hi] w fun e w' => e = .returned (.int .i64 (chkE l p s t parts S lo hi)) ∧ Below w.heap.size w w' := by
  have HP := Lib.hid hp
  have HQ := Lib.hid hq
  have HLA := Lib.hid hla
  have FI := Lib.hid (fun (X : World) (h : RwA X a l) => find_any a c l p s X h ok.ord (by have := ok.few; omega))
  unfold chkE
  rw [if_neg hh]
  obtain ⟨z1, z2⟩ := find_no hh
  simp only [z1, z2, encR] at FI
  obtain ⟨N, hN⟩ : ∃ N, l.length = N := ⟨_, rfl⟩
  obtain ⟨n, hn⟩ : ∃ n, parts.length = n := ⟨_, rfl⟩
  simp only [hN] at FI
  rw [hN, hn]
  obtain ⟨SV, hSV⟩ : ∃ V, Hs.bvs S = V := ⟨_, rfl⟩
  rw [hSV]
  clear hp hq hla ok ht hf hS hh z1 z2 hN hn hSV HQ HLA
  obtain ⟨G, hG⟩ : ∃ G, w.heap.size = G := ⟨_, rfl⟩
  have HG := Lib.hid hG
  have Kg := Lib.hid (show Blk ((w.alloc (.cells SV 36)).alloc (.cells #[.int .i64 lo, .int .i64 hi] 28)) G 36 SV from (Blk.new' w _ _ _ hG rfl).alloc _)
  have Kp := Lib.hid (show Blk ((w.alloc (.cells SV 36)).alloc (.cells #[.int .i64 lo, .int .i64 hi] 28)) (G + 1) 28 #[.int .i64 lo, .int .i64 hi] from Blk.new' _ _ _ _ (by rw [World.size_alloc, hG]) rfl)
  have B := Lib.hid (show Below w.heap.size w ((w.alloc (.cells SV 36)).alloc (.cells #[.int .i64 lo, .int .i64 hi] 28)) by (repeat' (first | (with_reducible exact Below.refl _ _) | (with_reducible assumption) | (with_reducible refine Below.alloc ?_ ?_ _) | (with_reducible refine Below.drew ?_) | (with_reducible refine below_dn ?_) | (with_reducible refine Below.setCell ?_ ?_ _) | (with_reducible exact Nat.le_refl _) | omega | (simp only [World.size_alloc, World.size_setCell, World.size_drew]; omega) | (simp; omega) | (simp; done))))
  go_enter Tryd.func75, Tryd.ntmps75
  go_upto_region 1 with (fail)
  try rw [hG]
  generalize hw0 : ((w.alloc (.cells SV 36)).alloc (.cells #[.int .i64 lo, .int .i64 hi] 28)) = w0 at Kg Kp B ⊢
  clear hw0 hG
  go_wp2_with fail
  refine (FI.out _ (HP.out.mono B.out)).mono ?_
  rintro e w1 ⟨rfl, hb⟩
  replace Kg := Lib.hid (Kg.out.below hb Kg.out.lt)
  replace Kp := Lib.hid (Kp.out.below hb Kp.out.lt)
  replace B := Lib.hid (B.out.trans (hb.mono B.out.size))
  clear hb FI
  obtain ⟨gk, hgk⟩ : ∃ G, w1.heap.size = G := ⟨_, rfl⟩
  have Kk := Lib.hid (show Blk (w1.alloc (.cells #[.int .i64 0, .int .i64 0, .string ⟨#[]⟩, .int .i64 0, .int .i64 0] 26)) gk 26 #[.int .i64 0, .int .i64 0, .string ⟨#[]⟩, .int .i64 0, .int .i64 0] from Blk.new' w1 _ _ _ hgk rfl)
  replace Kg := Lib.hid (Kg.out.alloc (.cells #[.int .i64 0, .int .i64 0, .string ⟨#[]⟩, .int .i64 0, .int .i64 0] 26))
  replace Kp := Lib.hid (Kp.out.alloc (.cells #[.int .i64 0, .int .i64 0, .string ⟨#[]⟩, .int .i64 0, .int .i64 0] 26))
  replace B := Lib.hid (B.out.alloc B.out.size (.cells #[.int .i64 0, .int .i64 0, .string ⟨#[]⟩, .int .i64 0, .int .i64 0] 26))
  go_upto_region 2 with (fail)
  try rw [hgk]
  generalize hw : w1.alloc (.cells #[.int .i64 0, .int .i64 0, .string ⟨#[]⟩, .int .i64 0, .int .i64 0] 26) = w2 at Kg Kp Kk B ⊢
  clear hw hgk
  obtain ⟨q0, q1, q2, q3, q4⟩ := five Kk.out
  obtain ⟨p0, p1⟩ := twob Kp.out
  go_wp2
  go_ret
  exact ⟨rfl, B.out⟩
set_option maxRecDepth 100000 in
set_option maxHeartbeats 1000000 in
theorem check_time (a : Option Addr) (c : Nat) (l : List Rw) (p s tag : Int) (t : Nat) (b : Option Addr) (c2 : Nat) (parts : List ByteArray) (S : List Nat) (lo hi : Int) (w : World) (hp : RwA w a l) (hq : StR w b parts) (ok : RingOk l) (ht : tag % 256 = t) (hf : parts.length ≤ 36 ∧ ∀ x ∈ parts, x.size ≤ 400) (hS : S.length = 16) (hla : Hs.LaidC w) (hh : hasC (cR p s) l = true) (hc : ¬ countsB (findL l p s) lo hi = true) :
    Calls Tryd.prog 75 #[.slice a l.length c, .int .i64 p, .int .i64 s, .int .i64 tag, .slice b parts.length c2, .agg (Hs.bvs S), per lo hi] w fun e w' => e = .returned (.int .i64 (chkE l p s t parts S lo hi)) ∧ Below w.heap.size w w' := by
  have HP := Lib.hid hp
  have HQ := Lib.hid hq
  have HLA := Lib.hid hla
  have FI := Lib.hid (fun (X : World) (h : RwA X a l) => find_any a c l p s X h ok.ord (by have := ok.few; omega))
  unfold chkE
  rw [if_pos hh]
  obtain ⟨z1, z2⟩ := find_yes hh
  simp only [z2] at FI
  have hkey : keyOk (findL l p s) := by rw [z1]; exact ok.keys _ ((hasC_iff _ _).1 hh).1
  obtain ⟨x, hx⟩ : ∃ y, findL l p s = y := ⟨_, rfl⟩
  simp only [hx] at FI
  rw [hx] at hkey hc ⊢
  have CO := Lib.hid (fun W : World => counts_any x lo hi W)
  rw [if_neg hc]
  have hc2 : countsB x lo hi = false := by simpa using hc
  rw [hc2] at CO
  obtain ⟨f1, f2, f3, f4, f5⟩ := x
  simp only [encR] at FI CO
  obtain ⟨N, hN⟩ : ∃ N, l.length = N := ⟨_, rfl⟩
  obtain ⟨n, hn⟩ : ∃ n, parts.length = n := ⟨_, rfl⟩
  simp only [hN] at FI
  rw [hN, hn]
  obtain ⟨SV, hSV⟩ : ∃ V, Hs.bvs S = V := ⟨_, rfl⟩
  rw [hSV]
  clear hp hq hla ok ht hf hS hh z1 z2 hN hn hSV HQ HLA hkey hx hc hc2
  obtain ⟨G, hG⟩ : ∃ G, w.heap.size = G := ⟨_, rfl⟩
  have HG := Lib.hid hG
  have Kg := Lib.hid (show Blk ((w.alloc (.cells SV 36)).alloc (.cells #[.int .i64 lo, .int .i64 hi] 28)) G 36 SV from (Blk.new' w _ _ _ hG rfl).alloc _)
  have Kp := Lib.hid (show Blk ((w.alloc (.cells SV 36)).alloc (.cells #[.int .i64 lo, .int .i64 hi] 28)) (G + 1) 28 #[.int .i64 lo, .int .i64 hi] from Blk.new' _ _ _ _ (by rw [World.size_alloc, hG]) rfl)
  have B := Lib.hid (show Below w.heap.size w ((w.alloc (.cells SV 36)).alloc (.cells #[.int .i64 lo, .int .i64 hi] 28)) by (repeat' (first | (with_reducible exact Below.refl _ _) | (with_reducible assumption) | (with_reducible refine Below.alloc ?_ ?_ _) | (with_reducible refine Below.drew ?_) | (with_reducible refine below_dn ?_) | (with_reducible refine Below.setCell ?_ ?_ _) | (with_reducible exact Nat.le_refl _) | omega | (simp only [World.size_alloc, World.size_setCell, World.size_drew]; omega) | (simp; omega) | (simp; done))))
  go_enter Tryd.func75, Tryd.ntmps75
  go_upto_region 1 with (fail)
  try rw [hG]
  generalize hw0 : ((w.alloc (.cells SV 36)).alloc (.cells #[.int .i64 lo, .int .i64 hi] 28)) = w0 at Kg Kp B ⊢
  clear hw0 hG
  go_wp2_with fail
  refine (FI.out _ (HP.out.mono B.out)).mono ?_
  rintro e w1 ⟨rfl, hb⟩
  replace Kg := Lib.hid (Kg.out.below hb Kg.out.lt)
  replace Kp := Lib.hid (Kp.out.below hb Kp.out.lt)
  replace B := Lib.hid (B.out.trans (hb.mono B.out.size))
  clear hb FI
  obtain ⟨gk, hgk⟩ : ∃ G, w1.heap.size = G := ⟨_, rfl⟩
  have Kk := Lib.hid (show Blk (w1.alloc (.cells #[.int .i64 f1, .int .i64 f2, .string f3, .int .i64 f4, .int .i64 f5] 26)) gk 26 #[.int .i64 f1, .int .i64 f2, .string f3, .int .i64 f4, .int .i64 f5] from Blk.new' w1 _ _ _ hgk rfl)
  replace Kg := Lib.hid (Kg.out.alloc (.cells #[.int .i64 f1, .int .i64 f2, .string f3, .int .i64 f4, .int .i64 f5] 26))
  replace Kp := Lib.hid (Kp.out.alloc (.cells #[.int .i64 f1, .int .i64 f2, .string f3, .int .i64 f4, .int .i64 f5] 26))
  replace B := Lib.hid (B.out.alloc B.out.size (.cells #[.int .i64 f1, .int .i64 f2, .string f3, .int .i64 f4, .int .i64 f5] 26))
  go_upto_region 2 with (fail)
  try rw [hgk]
  generalize hw : w1.alloc (.cells #[.int .i64 f1, .int .i64 f2, .string f3, .int .i64 f4, .int .i64 f5] 26) = w2 at Kg Kp Kk B ⊢
  clear hw hgk
  obtain ⟨q0, q1, q2, q3, q4⟩ := five Kk.out
  obtain ⟨p0, p1⟩ := twob Kp.out
  go_wp2_with fail
  refine (CO.out _).mono ?_
  rintro e w3 ⟨rfl, hb⟩
  replace B := Lib.hid (B.out.trans (hb.mono B.out.size))
  clear hb
  go_wp2
  go_ret
  exact ⟨rfl, B.out⟩
set_option maxRecDepth 100000 in
set_option maxHeartbeats 1000000 in
theorem check_seal (a : Option Addr) (c : Nat) (l : List Rw) (p s tag : Int) (t : Nat) (b : Option Addr) (c2 : Nat) (parts : List ByteArray) (S : List Nat) (lo hi : Int) (w : World) (hp : RwA w a l) (hq : StR w b parts) (ok : RingOk l) (ht : tag % 256 = t) (hf : parts.length ≤ 36 ∧ ∀ x ∈ parts, x.size ≤ 400) (hS : S.length = 16) (hla : Hs.LaidC w) (hh : hasC (cR p s) l = true) (hc : countsB (findL l p s) lo hi = true) (hv : ¬ mkS t (findL l p s).2.2.1 parts = S) :
    Calls Tryd.prog 75 #[.slice a l.length c, .int .i64 p, .int .i64 s, .int .i64 tag, .slice b parts.length c2, .agg (Hs.bvs S), per lo hi] w fun e w' => e = .returned (.int .i64 (chkE l p s t parts S lo hi)) ∧ Below w.heap.size w w' := by
  have HP := Lib.hid hp
  have HQ := Lib.hid hq
  have HLA := Lib.hid hla
  have FI := Lib.hid (fun (X : World) (h : RwA X a l) => find_any a c l p s X h ok.ord (by have := ok.few; omega))
  unfold chkE
  rw [if_pos hh]
  obtain ⟨z1, z2⟩ := find_yes hh
  simp only [z2] at FI
  have hkey : keyOk (findL l p s) := by rw [z1]; exact ok.keys _ ((hasC_iff _ _).1 hh).1
  obtain ⟨x, hx⟩ : ∃ y, findL l p s = y := ⟨_, rfl⟩
  simp only [hx] at FI
  rw [hx] at hkey hc hv ⊢
  have CO := Lib.hid (fun W : World => counts_any x lo hi W)
  rw [if_pos hc, if_neg hv]
  rw [hc] at CO
  have HM := Lib.hid (fun (X : World) (h : StR X b parts) (hla : Hs.LaidC X) => make_any x tag t b c2 parts X ht h hf (by have := hkey.2.2.1.2; omega) hla)
  have EQ := Hs.equalIn_16d (mkS t x.2.2.1 parts) S (mkS_len _ _ _) hS
  have SI := Lib.hid (show (Tryd.prog.info? 36).map (·.size) = some (Hs.bvs S).size by rw [Hs.bvs_size, hS]; kernel_rfl)
  simp only [decide_eq_false hv] at EQ
  obtain ⟨f1, f2, f3, f4, f5⟩ := x
  simp only [encR] at FI CO HM
  have KI := Lib.hid (show (Tryd.prog.info? 26).map (·.size) = some (#[.int .i64 f1, .int .i64 f2, .string f3, .int .i64 f4, .int .i64 f5] : Array Value).size from by kernel_rfl)
  simp only at EQ
  obtain ⟨V, hV⟩ : ∃ V, Hs.bvs (mkS t f3 parts) = V := ⟨_, rfl⟩
  simp only [hV] at HM EQ
  obtain ⟨N, hN⟩ : ∃ N, l.length = N := ⟨_, rfl⟩
  obtain ⟨n, hn⟩ : ∃ n, parts.length = n := ⟨_, rfl⟩
  simp only [hN] at FI
  simp only [hn] at HM
  rw [hN, hn]
  obtain ⟨SV, hSV⟩ : ∃ V, Hs.bvs S = V := ⟨_, rfl⟩
  rw [hSV] at SI ⊢
  simp only [hSV] at EQ
  clear hp hq hla ok ht hf hS hh z1 z2 hN hn hSV hkey hx hc hv hV
  obtain ⟨G, hG⟩ : ∃ G, w.heap.size = G := ⟨_, rfl⟩
  have HG := Lib.hid hG
  have Kg := Lib.hid (show Blk ((w.alloc (.cells SV 36)).alloc (.cells #[.int .i64 lo, .int .i64 hi] 28)) G 36 SV from (Blk.new' w _ _ _ hG rfl).alloc _)
  have Kp := Lib.hid (show Blk ((w.alloc (.cells SV 36)).alloc (.cells #[.int .i64 lo, .int .i64 hi] 28)) (G + 1) 28 #[.int .i64 lo, .int .i64 hi] from Blk.new' _ _ _ _ (by rw [World.size_alloc, hG]) rfl)
  have B := Lib.hid (show Below w.heap.size w ((w.alloc (.cells SV 36)).alloc (.cells #[.int .i64 lo, .int .i64 hi] 28)) by (repeat' (first | (with_reducible exact Below.refl _ _) | (with_reducible assumption) | (with_reducible refine Below.alloc ?_ ?_ _) | (with_reducible refine Below.drew ?_) | (with_reducible refine below_dn ?_) | (with_reducible refine Below.setCell ?_ ?_ _) | (with_reducible exact Nat.le_refl _) | omega | (simp only [World.size_alloc, World.size_setCell, World.size_drew]; omega) | (simp; omega) | (simp; done))))
  go_enter Tryd.func75, Tryd.ntmps75
  go_upto_region 1 with (fail)
  try rw [hG]
  generalize hw0 : ((w.alloc (.cells SV 36)).alloc (.cells #[.int .i64 lo, .int .i64 hi] 28)) = w0 at Kg Kp B ⊢
  clear hw0 hG
  go_wp2_with fail
  refine (FI.out _ (HP.out.mono B.out)).mono ?_
  rintro e w1 ⟨rfl, hb⟩
  replace Kg := Lib.hid (Kg.out.below hb Kg.out.lt)
  replace Kp := Lib.hid (Kp.out.below hb Kp.out.lt)
  replace B := Lib.hid (B.out.trans (hb.mono B.out.size))
  clear hb FI
  obtain ⟨gk, hgk⟩ : ∃ G, w1.heap.size = G := ⟨_, rfl⟩
  have Kk := Lib.hid (show Blk (w1.alloc (.cells #[.int .i64 f1, .int .i64 f2, .string f3, .int .i64 f4, .int .i64 f5] 26)) gk 26 #[.int .i64 f1, .int .i64 f2, .string f3, .int .i64 f4, .int .i64 f5] from Blk.new' w1 _ _ _ hgk rfl)
  replace Kg := Lib.hid (Kg.out.alloc (.cells #[.int .i64 f1, .int .i64 f2, .string f3, .int .i64 f4, .int .i64 f5] 26))
  replace Kp := Lib.hid (Kp.out.alloc (.cells #[.int .i64 f1, .int .i64 f2, .string f3, .int .i64 f4, .int .i64 f5] 26))
  replace B := Lib.hid (B.out.alloc B.out.size (.cells #[.int .i64 f1, .int .i64 f2, .string f3, .int .i64 f4, .int .i64 f5] 26))
  go_upto_region 2 with (fail)
  try rw [hgk]
  generalize hw : w1.alloc (.cells #[.int .i64 f1, .int .i64 f2, .string f3, .int .i64 f4, .int .i64 f5] 26) = w2 at Kg Kp Kk B ⊢
  clear hw hgk
  obtain ⟨q0, q1, q2, q3, q4⟩ := five Kk.out
  obtain ⟨p0, p1⟩ := twob Kp.out
  go_wp2_with fail
  refine (CO.out _).mono ?_
  rintro e w3 ⟨rfl, hb⟩
  replace Kg := Lib.hid (Kg.out.below hb Kg.out.lt)
  replace Kk := Lib.hid (Kk.out.below hb Kk.out.lt)
  replace B := Lib.hid (B.out.trans (hb.mono B.out.size))
  clear hb Kp q0 q1 q2 q3 q4 p0 p1 CO
  go_upto_region 6 with (fail)
  refine wp_region_held_drew (S := fun W => Blk W gk 26 #[.int .i64 f1, .int .i64 f2, .string f3, .int .i64 f4, .int .i64 f5] ∧ Blk W G 36 SV) (by kernel_rfl) ⟨Kk.out.drew, Kg.out.drew⟩ (fun hHeld => ?_)
  replace B := Lib.hid B.out.drew
  generalize w3.drew = w4 at B hHeld ⊢
  refine wpAnyH_take (i := 0) (v := .agg #[.int .i64 f1, .int .i64 f2, .string f3, .int .i64 f4, .int .i64 f5]) rfl (by kernel_rfl) (by kernel_rfl) (by kernel_rfl) (fun _ _ _ h => h) (Or.inl ⟨by rfl, fun W hW => exec_load_row 26 _ rfl gk rfl 26 #[.int .i64 f1, .int .i64 f2, .string f3, .int .i64 f4, .int .i64 f5] (0, 0) _ hW.1 Tryd.underlying26 rfl KI.out⟩) (by assumption) ?_
  (try simp only [Act.put, List.getElem_toArray, List.getElem_cons_succ, List.getElem_cons_zero, List.setIfInBounds_toArray, List.set_cons_zero, List.set_cons_succ])
  refine wpAnyH_take (i := 1) (v := .int .i64 tag) rfl (by kernel_rfl) (by kernel_rfl) (by kernel_rfl) (fun _ _ _ h => h) (Or.inl ⟨by rfl, fun W hW => by go_simp⟩) (by assumption) ?_
  (try simp only [Act.put, List.getElem_toArray, List.getElem_cons_succ, List.getElem_cons_zero, List.setIfInBounds_toArray, List.set_cons_zero, List.set_cons_succ])
  refine wpAnyH_take (i := 2) (v := .slice b n c2) rfl (by kernel_rfl) (by kernel_rfl) (by kernel_rfl) (fun _ _ _ h => h) (Or.inl ⟨by rfl, fun W hW => by go_simp⟩) (by assumption) ?_
  (try simp only [Act.put, List.getElem_toArray, List.getElem_cons_succ, List.getElem_cons_zero, List.setIfInBounds_toArray, List.set_cons_zero, List.set_cons_succ])
  refine wpAnyH_take (i := 4) (v := .agg SV) rfl (by kernel_rfl) (by kernel_rfl) (by kernel_rfl) (fun _ _ _ h => h) (Or.inl ⟨by rfl, fun W hW => exec_load_row 36 _ rfl G rfl 36 SV (0, 0) _ hW.2 Tryd.underlying36 rfl SI.out⟩) (by assumption) ?_
  (try simp only [Act.put, List.getElem_toArray, List.getElem_cons_succ, List.getElem_cons_zero, List.setIfInBounds_toArray, List.set_cons_zero, List.set_cons_succ])
  refine wpAnyH_ready (rs := [3]) (by kernel_rfl) (by simp) (AllReadyH.cons rfl (fun K hK => ?_) AllReadyH.nil)
  go_simp
  refine (HM.out _ (HQ.out.mono B.out) (HLA.out.below B.out)).mono ?_
  rintro e w5 ⟨rfl, hb⟩
  have hB5 := Lib.hid hb
  replace B := Lib.hid (B.out.trans (hb.mono B.out.size))
  clear hb
  go_wp2_with fail
  refine hK _ _ ⟨hHeld.1.below hB5.out hHeld.1.lt, hHeld.2.below hB5.out hHeld.2.lt⟩ (fun hHeld2 => ?_)
  clear hK K
  (try simp only [Act.put, List.getElem_toArray, List.getElem_cons_succ, List.getElem_cons_zero, List.setIfInBounds_toArray, List.set_cons_zero, List.set_cons_succ])
  refine wpAnyH_take (i := 5) (v := .bool true) rfl (by kernel_rfl) (by kernel_rfl) (by kernel_rfl) (fun _ _ _ h => h) (Or.inl ⟨by rfl, fun W hW => by go_simp⟩) (by assumption) ?_
  (try simp only [Act.put, List.getElem_toArray, List.getElem_cons_succ, List.getElem_cons_zero, List.setIfInBounds_toArray, List.set_cons_zero, List.set_cons_succ])
  refine wpAnyH_take (i := 6) (v := .bool true) rfl (by kernel_rfl) (by kernel_rfl) (by kernel_rfl) (fun _ _ _ h => h) (Or.inl ⟨by rfl, fun W hW => by go_simp⟩) (by assumption) ?_
  (try simp only [Act.put, List.getElem_toArray, List.getElem_cons_succ, List.getElem_cons_zero, List.setIfInBounds_toArray, List.set_cons_zero, List.set_cons_succ])
  refine wpAnyH_done (by kernel_rfl) ?_ _
  go_wp2
  go_ret
  exact ⟨rfl, B.out⟩
set_option maxRecDepth 100000 in
set_option maxHeartbeats 1000000 in
theorem check_ok (a : Option Addr) (c : Nat) (l : List Rw) (p s tag : Int) (t : Nat) (b : Option Addr) (c2 : Nat) (parts : List ByteArray) (S : List Nat) (lo hi : Int) (w : World) (hp : RwA w a l) (hq : StR w b parts) (ok : RingOk l) (ht : tag % 256 = t) (hf : parts.length ≤ 36 ∧ ∀ x ∈ parts, x.size ≤ 400) (hS : S.length = 16) (hla : Hs.LaidC w) (hh : hasC (cR p s) l = true) (hc : countsB (findL l p s) lo hi = true) (hv : mkS t (findL l p s).2.2.1 parts = S) :
    Calls Tryd.prog 75 #[.slice a l.length c, .int .i64 p, .int .i64 s, .int .i64 tag, .slice b parts.length c2, .agg (Hs.bvs S), per lo hi] w fun e w' => e = .returned (.int .i64 (chkE l p s t parts S lo hi)) ∧ Below w.heap.size w w' := by
  have HP := Lib.hid hp
  have HQ := Lib.hid hq
  have HLA := Lib.hid hla
  have FI := Lib.hid (fun (X : World) (h : RwA X a l) => find_any a c l p s X h ok.ord (by have := ok.few; omega))
  unfold chkE
  rw [if_pos hh]
  obtain ⟨z1, z2⟩ := find_yes hh
  simp only [z2] at FI
  have hkey : keyOk (findL l p s) := by rw [z1]; exact ok.keys _ ((hasC_iff _ _).1 hh).1
  obtain ⟨x, hx⟩ : ∃ y, findL l p s = y := ⟨_, rfl⟩
  simp only [hx] at FI
  rw [hx] at hkey hc hv ⊢
  have CO := Lib.hid (fun W : World => counts_any x lo hi W)
  rw [if_pos hc, if_pos hv]
  rw [hc] at CO
  have HM := Lib.hid (fun (X : World) (h : StR X b parts) (hla : Hs.LaidC X) => make_any x tag t b c2 parts X ht h hf (by have := hkey.2.2.1.2; omega) hla)
  have EQ := Hs.equalIn_16d (mkS t x.2.2.1 parts) S (mkS_len _ _ _) hS
  have SI := Lib.hid (show (Tryd.prog.info? 36).map (·.size) = some (Hs.bvs S).size by rw [Hs.bvs_size, hS]; kernel_rfl)
  simp only [decide_eq_true hv] at EQ
  obtain ⟨f1, f2, f3, f4, f5⟩ := x
  simp only [encR] at FI CO HM
  have KI := Lib.hid (show (Tryd.prog.info? 26).map (·.size) = some (#[.int .i64 f1, .int .i64 f2, .string f3, .int .i64 f4, .int .i64 f5] : Array Value).size from by kernel_rfl)
  simp only at EQ
  obtain ⟨V, hV⟩ : ∃ V, Hs.bvs (mkS t f3 parts) = V := ⟨_, rfl⟩
  simp only [hV] at HM EQ
  obtain ⟨N, hN⟩ : ∃ N, l.length = N := ⟨_, rfl⟩
  obtain ⟨n, hn⟩ : ∃ n, parts.length = n := ⟨_, rfl⟩
  simp only [hN] at FI
  simp only [hn] at HM
  rw [hN, hn]
  obtain ⟨SV, hSV⟩ : ∃ V, Hs.bvs S = V := ⟨_, rfl⟩
  rw [hSV] at SI ⊢
  simp only [hSV] at EQ
  clear hp hq hla ok ht hf hS hh z1 z2 hN hn hSV hkey hx hc hv hV
  obtain ⟨G, hG⟩ : ∃ G, w.heap.size = G := ⟨_, rfl⟩
  have HG := Lib.hid hG
  have Kg := Lib.hid (show Blk ((w.alloc (.cells SV 36)).alloc (.cells #[.int .i64 lo, .int .i64 hi] 28)) G 36 SV from (Blk.new' w _ _ _ hG rfl).alloc _)
  have Kp := Lib.hid (show Blk ((w.alloc (.cells SV 36)).alloc (.cells #[.int .i64 lo, .int .i64 hi] 28)) (G + 1) 28 #[.int .i64 lo, .int .i64 hi] from Blk.new' _ _ _ _ (by rw [World.size_alloc, hG]) rfl)
  have B := Lib.hid (show Below w.heap.size w ((w.alloc (.cells SV 36)).alloc (.cells #[.int .i64 lo, .int .i64 hi] 28)) by (repeat' (first | (with_reducible exact Below.refl _ _) | (with_reducible assumption) | (with_reducible refine Below.alloc ?_ ?_ _) | (with_reducible refine Below.drew ?_) | (with_reducible refine below_dn ?_) | (with_reducible refine Below.setCell ?_ ?_ _) | (with_reducible exact Nat.le_refl _) | omega | (simp only [World.size_alloc, World.size_setCell, World.size_drew]; omega) | (simp; omega) | (simp; done))))
  go_enter Tryd.func75, Tryd.ntmps75
  go_upto_region 1 with (fail)
  try rw [hG]
  generalize hw0 : ((w.alloc (.cells SV 36)).alloc (.cells #[.int .i64 lo, .int .i64 hi] 28)) = w0 at Kg Kp B ⊢
  clear hw0 hG
  go_wp2_with fail
  refine (FI.out _ (HP.out.mono B.out)).mono ?_
  rintro e w1 ⟨rfl, hb⟩
  replace Kg := Lib.hid (Kg.out.below hb Kg.out.lt)
  replace Kp := Lib.hid (Kp.out.below hb Kp.out.lt)
  replace B := Lib.hid (B.out.trans (hb.mono B.out.size))
  clear hb FI
  obtain ⟨gk, hgk⟩ : ∃ G, w1.heap.size = G := ⟨_, rfl⟩
  have Kk := Lib.hid (show Blk (w1.alloc (.cells #[.int .i64 f1, .int .i64 f2, .string f3, .int .i64 f4, .int .i64 f5] 26)) gk 26 #[.int .i64 f1, .int .i64 f2, .string f3, .int .i64 f4, .int .i64 f5] from Blk.new' w1 _ _ _ hgk rfl)
  replace Kg := Lib.hid (Kg.out.alloc (.cells #[.int .i64 f1, .int .i64 f2, .string f3, .int .i64 f4, .int .i64 f5] 26))
  replace Kp := Lib.hid (Kp.out.alloc (.cells #[.int .i64 f1, .int .i64 f2, .string f3, .int .i64 f4, .int .i64 f5] 26))
  replace B := Lib.hid (B.out.alloc B.out.size (.cells #[.int .i64 f1, .int .i64 f2, .string f3, .int .i64 f4, .int .i64 f5] 26))
  go_upto_region 2 with (fail)
  try rw [hgk]
  generalize hw : w1.alloc (.cells #[.int .i64 f1, .int .i64 f2, .string f3, .int .i64 f4, .int .i64 f5] 26) = w2 at Kg Kp Kk B ⊢
  clear hw hgk
  obtain ⟨q0, q1, q2, q3, q4⟩ := five Kk.out
  obtain ⟨p0, p1⟩ := twob Kp.out
  go_wp2_with fail
  refine (CO.out _).mono ?_
  rintro e w3 ⟨rfl, hb⟩
  replace Kg := Lib.hid (Kg.out.below hb Kg.out.lt)
  replace Kk := Lib.hid (Kk.out.below hb Kk.out.lt)
  replace B := Lib.hid (B.out.trans (hb.mono B.out.size))
  clear hb Kp q0 q1 q2 q3 q4 p0 p1 CO
  go_upto_region 6 with (fail)
  refine wp_region_held_drew (S := fun W => Blk W gk 26 #[.int .i64 f1, .int .i64 f2, .string f3, .int .i64 f4, .int .i64 f5] ∧ Blk W G 36 SV) (by kernel_rfl) ⟨Kk.out.drew, Kg.out.drew⟩ (fun hHeld => ?_)
  replace B := Lib.hid B.out.drew
  generalize w3.drew = w4 at B hHeld ⊢
  refine wpAnyH_take (i := 0) (v := .agg #[.int .i64 f1, .int .i64 f2, .string f3, .int .i64 f4, .int .i64 f5]) rfl (by kernel_rfl) (by kernel_rfl) (by kernel_rfl) (fun _ _ _ h => h) (Or.inl ⟨by rfl, fun W hW => exec_load_row 26 _ rfl gk rfl 26 #[.int .i64 f1, .int .i64 f2, .string f3, .int .i64 f4, .int .i64 f5] (0, 0) _ hW.1 Tryd.underlying26 rfl KI.out⟩) (by assumption) ?_
  (try simp only [Act.put, List.getElem_toArray, List.getElem_cons_succ, List.getElem_cons_zero, List.setIfInBounds_toArray, List.set_cons_zero, List.set_cons_succ])
  refine wpAnyH_take (i := 1) (v := .int .i64 tag) rfl (by kernel_rfl) (by kernel_rfl) (by kernel_rfl) (fun _ _ _ h => h) (Or.inl ⟨by rfl, fun W hW => by go_simp⟩) (by assumption) ?_
  (try simp only [Act.put, List.getElem_toArray, List.getElem_cons_succ, List.getElem_cons_zero, List.setIfInBounds_toArray, List.set_cons_zero, List.set_cons_succ])
  refine wpAnyH_take (i := 2) (v := .slice b n c2) rfl (by kernel_rfl) (by kernel_rfl) (by kernel_rfl) (fun _ _ _ h => h) (Or.inl ⟨by rfl, fun W hW => by go_simp⟩) (by assumption) ?_
  (try simp only [Act.put, List.getElem_toArray, List.getElem_cons_succ, List.getElem_cons_zero, List.setIfInBounds_toArray, List.set_cons_zero, List.set_cons_succ])
  refine wpAnyH_take (i := 4) (v := .agg SV) rfl (by kernel_rfl) (by kernel_rfl) (by kernel_rfl) (fun _ _ _ h => h) (Or.inl ⟨by rfl, fun W hW => exec_load_row 36 _ rfl G rfl 36 SV (0, 0) _ hW.2 Tryd.underlying36 rfl SI.out⟩) (by assumption) ?_
  (try simp only [Act.put, List.getElem_toArray, List.getElem_cons_succ, List.getElem_cons_zero, List.setIfInBounds_toArray, List.set_cons_zero, List.set_cons_succ])
  refine wpAnyH_ready (rs := [3]) (by kernel_rfl) (by simp) (AllReadyH.cons rfl (fun K hK => ?_) AllReadyH.nil)
  go_simp
  refine (HM.out _ (HQ.out.mono B.out) (HLA.out.below B.out)).mono ?_
  rintro e w5 ⟨rfl, hb⟩
  have hB5 := Lib.hid hb
  replace B := Lib.hid (B.out.trans (hb.mono B.out.size))
  clear hb
  go_wp2_with fail
  refine hK _ _ ⟨hHeld.1.below hB5.out hHeld.1.lt, hHeld.2.below hB5.out hHeld.2.lt⟩ (fun hHeld2 => ?_)
  clear hK K
  (try simp only [Act.put, List.getElem_toArray, List.getElem_cons_succ, List.getElem_cons_zero, List.setIfInBounds_toArray, List.set_cons_zero, List.set_cons_succ])
  refine wpAnyH_take (i := 5) (v := .bool false) rfl (by kernel_rfl) (by kernel_rfl) (by kernel_rfl) (fun _ _ _ h => h) (Or.inl ⟨by rfl, fun W hW => by go_simp⟩) (by assumption) ?_
  (try simp only [Act.put, List.getElem_toArray, List.getElem_cons_succ, List.getElem_cons_zero, List.setIfInBounds_toArray, List.set_cons_zero, List.set_cons_succ])
  refine wpAnyH_take (i := 6) (v := .bool false) rfl (by kernel_rfl) (by kernel_rfl) (by kernel_rfl) (fun _ _ _ h => h) (Or.inl ⟨by rfl, fun W hW => by go_simp⟩) (by assumption) ?_
  (try simp only [Act.put, List.getElem_toArray, List.getElem_cons_succ, List.getElem_cons_zero, List.setIfInBounds_toArray, List.set_cons_zero, List.set_cons_succ])
  refine wpAnyH_done (by kernel_rfl) ?_ _
  go_wp2
  go_ret
  exact ⟨rfl, B.out⟩
theorem check_any (a : Option Addr) (c : Nat) (l : List Rw) (p s tag : Int) (t : Nat) (b : Option Addr) (c2 : Nat) (parts : List ByteArray) (S : List Nat) (lo hi : Int) (w : World) (hp : RwA w a l) (hq : StR w b parts) (ok : RingOk l) (ht : tag % 256 = t) (hf : parts.length ≤ 36 ∧ ∀ x ∈ parts, x.size ≤ 400) (hS : S.length = 16) (hla : Hs.LaidC w) :
    Calls Tryd.prog 75 #[.slice a l.length c, .int .i64 p, .int .i64 s, .int .i64 tag, .slice b parts.length c2, .agg (Hs.bvs S), per lo hi] w fun e w' => e = .returned (.int .i64 (chkE l p s t parts S lo hi)) ∧ Below w.heap.size w w' := by
  by_cases hh : hasC (cR p s) l = true
  · by_cases hc : countsB (findL l p s) lo hi = true
    · by_cases hv : mkS t (findL l p s).2.2.1 parts = S
      · exact check_ok a c l p s tag t b c2 parts S lo hi w hp hq ok ht hf hS hla hh hc hv
      · exact check_seal a c l p s tag t b c2 parts S lo hi w hp hq ok ht hf hS hla hh hc hv
    · exact check_time a c l p s tag t b c2 parts S lo hi w hp hq ok ht hf hS hla hh hc
  · exact check_no a c l p s tag t b c2 parts S lo hi w hp hq ok ht hf hS hla hh
end
section
open Go.RowKit Go.Sort
theorem exec_load_mid {P : Program} {a : Act} {W : World} {o : Oper} (ty : TypeId) (x : Operand) (ho : o.op = .load ty x) (g n : Nat) (hx : a.eval x = .pointer (some ⟨g, n, none⟩)) (cs : List Value) (d : TypeDesc)
    (hc : W.rangeAt g n cs) (hu : P.underlying ty = some d) (hd : d.isRow = true) (hi : (P.info? ty).map (·.size) = some cs.length) : (execOp a.eval o).run P W = .ok (.value (.agg cs.toArray)) W := by
  unfold execOp
  simp only [ho, hx, Instr.loadAt, Instr.sureAddr, Sem.run_bind, Sem.run_pure, Result.andThen_ok, run_loadVar_mid W g n ty cs d hc hu hd hi]
theorem range_of {W : World} {g : Nat} {t : TypeId} {A M Z : List Value} (h : Blk W g t (A ++ M ++ Z).toArray) : W.rangeAt g A.length M := fun j v hv => by
  rw [h.cell]
  have hj := (List.getElem?_eq_some_iff.1 hv).1
  simp only [List.getElem?_toArray]
  rw [List.append_assoc, List.getElem?_append_right (by omega), Nat.add_sub_cancel_left, List.getElem?_append_left hj]
  exact hv
def claimC (p s tag : Int) (S : List Nat) (lo hi : Int) : Array Value := (([.int .i64 p, .int .i64 s, .int .i64 tag] : List Value) ++ S.map Hs.bv ++ ([.int .i64 lo, .int .i64 hi] : List Value)).toArray
theorem claim_cells {X : World} {g : Nat} {t : TypeId} {p s tag lo hi : Int} {S : List Nat} (h : Blk X g t (claimC p s tag S lo hi)) : X.cell? ⟨g, 0, none⟩ = some (.int .i64 p) ∧ X.cell? ⟨g, 1, none⟩ = some (.int .i64 s) ∧ X.cell? ⟨g, 2, none⟩ = some (.int .i64 tag) :=
  ⟨(h.cell 0).trans (by unfold claimC; simp), (h.cell 1).trans (by unfold claimC; simp), (h.cell 2).trans (by unfold claimC; simp)⟩
theorem claim_seal {X : World} {g : Nat} {t : TypeId} {p s tag lo hi : Int} {S : List Nat} (h : Blk X g t (claimC p s tag S lo hi)) : X.rangeAt g 3 (S.map Hs.bv) := range_of (A := [.int .i64 p, .int .i64 s, .int .i64 tag]) h
theorem claim_per {X : World} {g : Nat} {t : TypeId} {p s tag lo hi : Int} {S : List Nat} (hS : S.length = 16) (h : Blk X g t (claimC p s tag S lo hi)) : X.rangeAt g 19 [.int .i64 lo, .int .i64 hi] := by
  have := range_of (A := ([.int .i64 p, .int .i64 s, .int .i64 tag] : List Value) ++ S.map Hs.bv) (M := [.int .i64 lo, .int .i64 hi]) (Z := []) (W := X) (g := g) (t := t) (by rw [List.append_nil]; exact h)
  rw [show (([.int .i64 p, .int .i64 s, .int .i64 tag] : List Value) ++ S.map Hs.bv).length = 19 by simp [hS]] at this
  exact this
theorem site_yes {n : Int} (h : 0 ≤ n ∧ n < 64) (w : World) : Calls Tryd.prog 62 #[.int .i64 n] w fun e w' => e = .returned (.bool true) ∧ w = w' := by
  obtain ⟨h1, h2⟩ := h
  go_enter Tryd.func62, Tryd.ntmps62
  go_wp2
  go_ret
  exact ⟨rfl, rfl⟩
set_option maxRecDepth 100000 in
set_option maxHeartbeats 1000000 in
theorem checkL_any (a : Option Addr) (c : Nat) (l : List Rw) (st e0 u r : Int) (D : List Nat) (p s : Int) (S : List Nat) (lo hi : Int) (w : World) (hp : RwA w a l) (ok : RingOk l) (hD : D.length = 16) (hS : S.length = 16) (h1 : i64Ok st) (h2 : i64Ok e0) (h3 : i64Ok u) (h4 : i64Ok r) (hla : Hs.LaidC w) :
    Calls Tryd.prog 63 #[.slice a l.length c, .agg (leaseC st e0 u r D), .func (.func 57) #[] #[], .agg (claimC p s 43 S lo hi)] w fun e w' => e = .returned (.int .i64 (chkE l p s 43 [leaseP st e0 u r] S lo hi)) ∧ Below w.heap.size w w' := by
  have HLA := Lib.hid hla
  have HR0 := Lib.hid hp
  have LP := Lib.hid (fun (X : World) => leaseParts_any st e0 u r D X h1 h2 h3 h4)
  have PS : ∀ x ∈ [leaseP st e0 u r], x.size ≤ 400 := fun x hx => by
    obtain rfl := List.mem_singleton.1 hx
    unfold leaseP
    rw [Hs.strB_size]
    have := intsL4 st e0 u r h1 h2 h3 h4
    omega
  have CK := Lib.hid (fun (b : Option Addr) (c2 : Nat) (X : World) (h : RwA X a l) (h2 : StR X b [leaseP st e0 u r]) (hla : Hs.LaidC X) => check_any a c l p s 43 43 b c2 [leaseP st e0 u r] S lo hi X h h2 ok rfl ⟨by simp, PS⟩ hS hla)
  simp only [List.length_cons, List.length_nil, Nat.zero_add] at CK
  obtain ⟨P, hP⟩ : ∃ P, leaseP st e0 u r = P := ⟨_, rfl⟩
  simp only [hP] at CK LP
  rw [hP]
  obtain ⟨R, hR⟩ : ∃ R, chkE l p s 43 [P] S lo hi = R := ⟨_, rfl⟩
  simp only [hR] at CK
  rw [hR]
  have LI := Lib.hid (show (Tryd.prog.info? 38).map (·.size) = some (leaseC st e0 u r D).size by rw [lease_size _ _ _ _ _ hD]; kernel_rfl)
  have SI := Lib.hid (show (Tryd.prog.info? 36).map (·.size) = some (S.map Hs.bv).length by rw [List.length_map, hS]; kernel_rfl)
  have PI := Lib.hid (show (Tryd.prog.info? 28).map (·.size) = some ([.int .i64 lo, .int .i64 hi] : List Value).length by kernel_rfl)
  have HSL := Lib.hid hS
  obtain ⟨N, hN⟩ : ∃ N, l.length = N := ⟨_, rfl⟩
  simp only [hN] at CK
  rw [hN]
  clear hla hp h1 h2 h3 h4 PS hP hR hD hS ok hN
  obtain ⟨LC, hLC⟩ : ∃ C, leaseC st e0 u r D = C := ⟨_, rfl⟩
  obtain ⟨CC, hCC⟩ : ∃ C, claimC p s 43 S lo hi = C := ⟨_, rfl⟩
  obtain ⟨G, hG⟩ : ∃ G, w.heap.size = G := ⟨_, rfl⟩
  have HG := Lib.hid hG
  have Kx := Lib.hid (show Blk ((w.alloc (.cells LC 38)).alloc (.cells CC 118)) G 38 (leaseC st e0 u r D) from by rw [hLC]; exact (Blk.new' w _ _ _ hG rfl).alloc _)
  have Kc := Lib.hid (show Blk ((w.alloc (.cells LC 38)).alloc (.cells CC 118)) (G + 1) 118 (claimC p s 43 S lo hi) from by rw [hCC]; exact Blk.new' _ _ _ _ (by rw [World.size_alloc, hG]) rfl)
  have B := Lib.hid (show Below w.heap.size w ((w.alloc (.cells LC 38)).alloc (.cells CC 118)) by (repeat' (first | (with_reducible exact Below.refl _ _) | (with_reducible assumption) | (with_reducible refine Below.alloc ?_ ?_ _) | (with_reducible refine Below.drew ?_) | (with_reducible refine below_dn ?_) | (with_reducible refine Below.setCell ?_ ?_ _) | (with_reducible exact Nat.le_refl _) | omega | (simp only [World.size_alloc, World.size_setCell, World.size_drew]; omega) | (simp; omega) | (simp; done))))
  rw [hLC, hCC]
  clear hLC hCC
  go_enter Tryd.func63, Tryd.ntmps63
  go_upto_region 1 with (fail)
  try rw [hG]
  generalize hw0 : ((w.alloc (.cells LC 38)).alloc (.cells CC 118)) = w0 at Kx Kc B ⊢
  clear hw0 hG
  refine wp_region_held_drew (S := fun W => Blk W G 38 (leaseC st e0 u r D) ∧ Blk W (G + 1) 118 (claimC p s 43 S lo hi)) (by kernel_rfl) ⟨Kx.out.drew, Kc.out.drew⟩ (fun hHeld => ?_)
  replace B := Lib.hid B.out.drew
  generalize w0.drew = w1 at B hHeld ⊢
  refine wpAnyH_take (i := 0) (v := .slice a N c) rfl (by kernel_rfl) (by kernel_rfl) (by kernel_rfl) (fun _ _ _ h => h) (Or.inl ⟨by rfl, fun W hW => by go_simp⟩) (by assumption) ?_
  (try simp only [Act.put, List.getElem_toArray, List.getElem_cons_succ, List.getElem_cons_zero, List.setIfInBounds_toArray, List.set_cons_zero, List.set_cons_succ])
  refine wpAnyH_take (i := 1) (v := .pointer (some ⟨G + 1, 0, none⟩)) rfl (by kernel_rfl) (by kernel_rfl) (by kernel_rfl) (fun _ _ _ h => h) (Or.inl ⟨by rfl, fun W hW => by go_simp⟩) (by assumption) ?_
  (try simp only [Act.put, List.getElem_toArray, List.getElem_cons_succ, List.getElem_cons_zero, List.setIfInBounds_toArray, List.set_cons_zero, List.set_cons_succ])
  refine wpAnyH_take (i := 2) (v := .int .i64 p) rfl (by kernel_rfl) (by kernel_rfl) (by kernel_rfl) (fun _ _ _ h => h) (Or.inl ⟨by rfl, fun W hW => (by have h := (claim_cells hW.2).1; go_simp)⟩) (by assumption) ?_
  (try simp only [Act.put, List.getElem_toArray, List.getElem_cons_succ, List.getElem_cons_zero, List.setIfInBounds_toArray, List.set_cons_zero, List.set_cons_succ])
  refine wpAnyH_take (i := 3) (v := .pointer (some ⟨G + 1, 1, none⟩)) rfl (by kernel_rfl) (by kernel_rfl) (by kernel_rfl) (fun _ _ _ h => h) (Or.inl ⟨by rfl, fun W hW => by go_simp⟩) (by assumption) ?_
  (try simp only [Act.put, List.getElem_toArray, List.getElem_cons_succ, List.getElem_cons_zero, List.setIfInBounds_toArray, List.set_cons_zero, List.set_cons_succ])
  refine wpAnyH_take (i := 4) (v := .int .i64 s) rfl (by kernel_rfl) (by kernel_rfl) (by kernel_rfl) (fun _ _ _ h => h) (Or.inl ⟨by rfl, fun W hW => (by have h := (claim_cells hW.2).2.1; go_simp)⟩) (by assumption) ?_
  (try simp only [Act.put, List.getElem_toArray, List.getElem_cons_succ, List.getElem_cons_zero, List.setIfInBounds_toArray, List.set_cons_zero, List.set_cons_succ])
  refine wpAnyH_take (i := 5) (v := .pointer (some ⟨G + 1, 2, none⟩)) rfl (by kernel_rfl) (by kernel_rfl) (by kernel_rfl) (fun _ _ _ h => h) (Or.inl ⟨by rfl, fun W hW => by go_simp⟩) (by assumption) ?_
  (try simp only [Act.put, List.getElem_toArray, List.getElem_cons_succ, List.getElem_cons_zero, List.setIfInBounds_toArray, List.set_cons_zero, List.set_cons_succ])
  refine wpAnyH_take (i := 6) (v := .int .i64 43) rfl (by kernel_rfl) (by kernel_rfl) (by kernel_rfl) (fun _ _ _ h => h) (Or.inl ⟨by rfl, fun W hW => (by have h := (claim_cells hW.2).2.2; go_simp)⟩) (by assumption) ?_
  (try simp only [Act.put, List.getElem_toArray, List.getElem_cons_succ, List.getElem_cons_zero, List.setIfInBounds_toArray, List.set_cons_zero, List.set_cons_succ])
  refine wpAnyH_take (i := 7) (v := .func (.func 57) #[] #[]) rfl (by kernel_rfl) (by kernel_rfl) (by kernel_rfl) (fun _ _ _ h => h) (Or.inl ⟨by rfl, fun W hW => by go_simp⟩) (by assumption) ?_
  (try simp only [Act.put, List.getElem_toArray, List.getElem_cons_succ, List.getElem_cons_zero, List.setIfInBounds_toArray, List.set_cons_zero, List.set_cons_succ])
  refine wpAnyH_take (i := 8) (v := .agg (leaseC st e0 u r D)) rfl (by kernel_rfl) (by kernel_rfl) (by kernel_rfl) (fun _ _ _ h => h) (Or.inl ⟨by rfl, fun W hW => exec_load_row 38 _ rfl G rfl 38 (leaseC st e0 u r D) (0, 0) _ hW.1 Tryd.underlying38 rfl LI.out⟩) (by assumption) ?_
  (try simp only [Act.put, List.getElem_toArray, List.getElem_cons_succ, List.getElem_cons_zero, List.setIfInBounds_toArray, List.set_cons_zero, List.set_cons_succ])
  refine wpAnyH_take (i := 10) (v := .pointer (some ⟨G + 1, 3, none⟩)) rfl (by kernel_rfl) (by kernel_rfl) (by kernel_rfl) (fun _ _ _ h => h) (Or.inl ⟨by rfl, fun W hW => by go_simp⟩) (by assumption) ?_
  (try simp only [Act.put, List.getElem_toArray, List.getElem_cons_succ, List.getElem_cons_zero, List.setIfInBounds_toArray, List.set_cons_zero, List.set_cons_succ])
  refine wpAnyH_take (i := 11) (v := .agg (S.map Hs.bv).toArray) rfl (by kernel_rfl) (by kernel_rfl) (by kernel_rfl) (fun _ _ _ h => h) (Or.inl ⟨by rfl, fun W hW => exec_load_mid 36 _ rfl (G + 1) 3 rfl (S.map Hs.bv) _ (claim_seal hW.2) Tryd.underlying36 rfl SI.out⟩) (by assumption) ?_
  (try simp only [Act.put, List.getElem_toArray, List.getElem_cons_succ, List.getElem_cons_zero, List.setIfInBounds_toArray, List.set_cons_zero, List.set_cons_succ])
  refine wpAnyH_take (i := 12) (v := .pointer (some ⟨G + 1, 19, none⟩)) rfl (by kernel_rfl) (by kernel_rfl) (by kernel_rfl) (fun _ _ _ h => h) (Or.inl ⟨by rfl, fun W hW => by go_simp⟩) (by assumption) ?_
  (try simp only [Act.put, List.getElem_toArray, List.getElem_cons_succ, List.getElem_cons_zero, List.setIfInBounds_toArray, List.set_cons_zero, List.set_cons_succ])
  refine wpAnyH_take (i := 13) (v := .agg #[.int .i64 lo, .int .i64 hi]) rfl (by kernel_rfl) (by kernel_rfl) (by kernel_rfl) (fun _ _ _ h => h) (Or.inl ⟨by rfl, fun W hW => exec_load_mid 28 _ rfl (G + 1) 19 rfl [.int .i64 lo, .int .i64 hi] _ (claim_per HSL.out hW.2) Tryd.underlying28 rfl PI.out⟩) (by assumption) ?_
  (try simp only [Act.put, List.getElem_toArray, List.getElem_cons_succ, List.getElem_cons_zero, List.setIfInBounds_toArray, List.set_cons_zero, List.set_cons_succ])
  refine wpAnyH_ready (rs := [9]) (by kernel_rfl) (by simp) (AllReadyH.cons rfl (fun K hK => ?_) AllReadyH.nil)
  go_simp
  refine (LP.out _).mono ?_
  rintro e w3 ⟨⟨b, c2, rfl, hr⟩, hb⟩
  have HR := Lib.hid hr
  have hB3 := Lib.hid hb
  replace B := Lib.hid (B.out.trans (hb.mono B.out.size))
  clear hb hr
  go_wp2_with fail
  refine hK _ _ ⟨hHeld.1.below hB3.out hHeld.1.lt, hHeld.2.below hB3.out hHeld.2.lt⟩ (fun hHeld1 => ?_)
  clear hK K
  (try simp only [Act.put, List.getElem_toArray, List.getElem_cons_succ, List.getElem_cons_zero, List.setIfInBounds_toArray, List.set_cons_zero, List.set_cons_succ])
  refine wpAnyH_ready (rs := [14]) (by kernel_rfl) (by simp) (AllReadyH.cons rfl (fun K hK => ?_) AllReadyH.nil)
  go_simp
  refine (CK.out b c2 _ (HR0.out.mono B.out) HR.out (HLA.out.below B.out)).mono ?_
  rintro e w4 ⟨rfl, hb⟩
  have hB4 := Lib.hid hb
  replace B := Lib.hid (B.out.trans (hb.mono B.out.size))
  clear hb
  go_wp2_with fail
  refine hK _ _ ⟨hHeld1.1.below hB4.out hHeld1.1.lt, hHeld1.2.below hB4.out hHeld1.2.lt⟩ (fun hHeld2 => ?_)
  clear hK K
  (try simp only [Act.put, List.getElem_toArray, List.getElem_cons_succ, List.getElem_cons_zero, List.setIfInBounds_toArray, List.set_cons_zero, List.set_cons_succ])
  refine wpAnyH_take (i := 15) (v := .int .i64 R) rfl (by kernel_rfl) (by kernel_rfl) (by kernel_rfl) (fun _ _ _ h => h) (Or.inl ⟨by rfl, fun W hW => by go_simp⟩) (by assumption) ?_
  (try simp only [Act.put, List.getElem_toArray, List.getElem_cons_succ, List.getElem_cons_zero, List.setIfInBounds_toArray, List.set_cons_zero, List.set_cons_succ])
  refine wpAnyH_done (by kernel_rfl) ?_ _
  go_wp2
  go_ret
  exact ⟨rfl, B.out⟩
theorem lease_seal {X : World} {g : Nat} {t : TypeId} {st e0 u r : Int} {D : List Nat} (h : Blk X g t (leaseC st e0 u r D)) : X.rangeAt g 4 (D.map Hs.bv) := by
  have := range_of (A := ([.int .i64 st, .int .i64 e0, .int .i64 u, .int .i64 r] : List Value)) (M := D.map Hs.bv) (Z := []) (W := X) (g := g) (t := t) (by rw [List.append_nil]; exact h)
  exact this
set_option maxRecDepth 100000 in
set_option maxHeartbeats 1000000 in
theorem checkLease_any (a : Option Addr) (c : Nat) (l : List Rw) (st e0 u r : Int) (D : List Nat) (w : World) (hp : RwA w a l) (ok : RingOk l) (hD : D.length = 16) (hsite : 0 ≤ st ∧ st < 64) (h1 : i64Ok st) (h2 : i64Ok e0) (h3 : i64Ok u ∧ i64Ok (u - 1)) (h4 : i64Ok r) (hla : Hs.LaidC w) :
    Calls Tryd.prog 52 #[.slice a l.length c, .agg (leaseC st e0 u r D)] w fun e w' => e = .returned (.int .i64 (chkE l 1 r 43 [leaseP st e0 u r] D (u - 1) (u - 1))) ∧ Below w.heap.size w w' := by
  obtain ⟨h3, h3b⟩ := h3
  have HLA := Lib.hid hla
  have HP := Lib.hid hp
  have SY := Lib.hid (fun W : World => site_yes hsite W)
  have LI := Lib.hid (show (Tryd.prog.info? 38).map (·.size) = some (leaseC st e0 u r D).size by rw [lease_size _ _ _ _ _ hD]; kernel_rfl)
  have SI := Lib.hid (show (Tryd.prog.info? 36).map (·.size) = some (D.map Hs.bv).length by rw [List.length_map, hD]; kernel_rfl)
  obtain ⟨U, hU⟩ : ∃ U, u - 1 = U := ⟨_, rfl⟩
  have wU : IntKind.i64.wrap U = U := by rw [IntKind.wrap_i64]; unfold i64Ok at h3b; omega
  have wU2 : IntKind.i64.wrap (u - 1) = U := by rw [hU]; exact wU
  have CH := Lib.hid (fun (X : World) (h : RwA X a l) (hla : Hs.LaidC X) => checkL_any a c l st e0 u r D 1 r D U U X h ok hD hD h1 h2 h3 h4 hla)
  rw [hU]
  obtain ⟨R, hR⟩ : ∃ R, chkE l 1 r 43 [leaseP st e0 u r] D U U = R := ⟨_, rfl⟩
  simp only [hR] at CH
  rw [hR]
  obtain ⟨N, hN⟩ : ∃ N, l.length = N := ⟨_, rfl⟩
  simp only [hN] at CH
  rw [hN]
  have HD := Lib.hid hD
  clear hla hp hsite ok hR hN h1 h2 h3 h3b h4 hD
  obtain ⟨LC, hLC⟩ : ∃ C, leaseC st e0 u r D = C := ⟨_, rfl⟩
  obtain ⟨G, hG⟩ : ∃ G, w.heap.size = G := ⟨_, rfl⟩
  have HG := Lib.hid hG
  have Kx := Lib.hid (show Blk (w.alloc (.cells LC 38)) G 38 (leaseC st e0 u r D) from by rw [hLC]; exact (Blk.new' w _ _ _ hG rfl))
  have B := Lib.hid (show Below w.heap.size w (w.alloc (.cells LC 38)) by (repeat' (first | (with_reducible exact Below.refl _ _) | (with_reducible assumption) | (with_reducible refine Below.alloc ?_ ?_ _) | (with_reducible refine Below.drew ?_) | (with_reducible refine below_dn ?_) | (with_reducible refine Below.setCell ?_ ?_ _) | (with_reducible exact Nat.le_refl _) | omega | (simp only [World.size_alloc, World.size_setCell, World.size_drew]; omega) | (simp; omega) | (simp; done))))
  rw [hLC]
  clear hLC
  go_enter Tryd.func52, Tryd.ntmps52
  go_upto_region 1 with (fail)
  try rw [hG]
  generalize hw0 : (w.alloc (.cells LC 38)) = w0 at Kx B ⊢
  clear hw0 hG
  obtain ⟨x0, x1, x2, x3⟩ := lease_cells Kx.out
  go_wp2_with fail
  refine (SY.out _).mono ?_
  rintro e wz ⟨rfl, rfl⟩
  obtain ⟨gp, hgp⟩ : ∃ G, w0.heap.size = G := ⟨_, rfl⟩
  have Kp := Lib.hid (show Blk (w0.alloc (.cells #[.int .i64 U, .int .i64 U] 28)) gp 28 #[.int .i64 U, .int .i64 U] from Blk.new' w0 _ _ _ hgp rfl)
  replace Kx := Lib.hid (Kx.out.alloc (.cells #[.int .i64 U, .int .i64 U] 28))
  replace B := Lib.hid (B.out.alloc B.out.size (.cells #[.int .i64 U, .int .i64 U] 28))
  go_upto_region 4 with (fail)
  try rw [hgp]
  generalize hw : w0.alloc (.cells #[.int .i64 U, .int .i64 U] 28) = w1 at Kx Kp B ⊢
  clear hw hgp x0 x1 x2 x3
  obtain ⟨d0, d1, d2, d3, d4, d5, d6, d7, d8, d9, d10, d11, d12, d13, d14, d15, rfl⟩ := list16 HD.out
  obtain ⟨x0, x1, x2, x3⟩ := lease_cells Kx.out
  obtain ⟨p0, p1⟩ := twob Kp.out
  have Hx := Lib.hid (show Hs.Blk w1 G 38 (leaseC st e0 u r [d0, d1, d2, d3, d4, d5, d6, d7, d8, d9, d10, d11, d12, d13, d14, d15]) from Kx.out)
  have Hs4 := Lib.hid (lease_seal Kx.out)
  clear HD
  go_wp2_with (first | (with_reducible refine Hs.wpList_load_all rfl 38 _ rfl G rfl 38 (leaseC st e0 u r [d0, d1, d2, d3, d4, d5, d6, d7, d8, d9, d10, d11, d12, d13, d14, d15]) _ Hx.out Tryd.underlying38 LI.out ?_) | (with_reducible refine wpList_load_mid rfl 36 _ rfl G 4 rfl ([d0, d1, d2, d3, d4, d5, d6, d7, d8, d9, d10, d11, d12, d13, d14, d15].map Hs.bv) _ Hs4.out Tryd.underlying36 rfl SI.out ?_))
  refine (CH.out _ (HP.out.mono B.out) (HLA.out.below B.out)).mono ?_
  rintro e w3 ⟨rfl, hb⟩
  replace B := Lib.hid (B.out.trans (hb.mono B.out.size))
  clear hb
  go_wp2
  go_ret
  exact ⟨rfl, B.out⟩
end
end Go.Proofs.YteblnmhaohbkkaaDoor
