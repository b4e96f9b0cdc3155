/- Law 6: no count is ever less than the number of a key. (ZB, ZC, AR, S, X, BR8, M7, R8, P4, Y, M6, P6, W6 in one text) -/
import Derived.Test.YtmmjkhamknfhpaaDoorD
import Derived.Test.YtmmjkhamknfhpaaDoorI
import Derived.Test.YtmmjkhamknfhpaaDoorK
import Derived.Deep.Cut
import Derived.Deep.CutRange
import Derived.Deep.DeepCutAuto
import Derived.Deep.RegionLaw
import Derived.Test.YtmmjkhamknfhpaaDoorN
import Derived.BigQuiet
import Derived.Lib.QuietBelow
import Derived.Test.YtmmjkhamknfhpaaDoorE
import Derived.Test.YtmmjkhamknfhpaaDoorHAA
import Derived.Test.YtmmjkhamknfhpaaDoorB
import Derived.Test.YtmmjkhamknfhpaaDoorM
import Derived.Laws.OwnMore
import Derived.Deep.RegionHeld3
import Derived.Test.YtmmjkhamknfhpaaDoorF
import Derived.StillTailTactics
namespace Go.Proofs.YtmmjkhamknfhpaaDoor
set_option linter.unusedVariables false
set_option linter.unusedSimpArgs false
section
open Go.RowKit
theorem own_empty {W : World} {g : Nat} (h : W.heap[g]? = some (.cells #[] 3 (0, 0))) : OwnI W g (.slice (some ⟨g, 0, none⟩) 0 0) [] :=
  ⟨rfl, Or.inr ⟨g, 0, #[], rfl, Nat.le_refl _, h, Nat.le_refl _, Nat.zero_le _, rfl, rfl⟩⟩
theorem run_appE (a : Option Addr) (cap : Nat) (l : List Int) (X : World) (hp : IntsA X a l) (hm : l.length ≤ 1000000) (g : Nat) (h : X.heap[g]? = some (.cells #[] 3 (0, 0))) :
    ∃ b n c w', (Builtin.append_ #[22, 22] 22 #[.slice (some ⟨g, 0, none⟩) 0 0, .slice a l.length cap]).run Tryd.prog X = .ok (.slice b n c) w' ∧ OwnI w' g (.slice b n c) l ∧ Below g X w' := by
  obtain ⟨i0, hi, hz0, hz1, hz2⟩ := info_parts infoI
  have hg : g < X.heap.size := (Array.getElem?_eq_some_iff.1 h).1
  have hown := own_empty h
  obtain ⟨v', w', hr, h2, h3⟩ := run_app_src (P := Tryd.prog) X g 22 22 22 3 i0 (.int .i64 0) Tryd.underlying22 hi hz0 (by rw [hz1]; rfl) (by rw [hz1]; decide) _ 0 [] (by rw [hz1]; exact hown) (.slice a l.length cap) l.length (l.map iv) (by rw [hz1]; exact src_ints hp) (by unfold maxLen; omega) (by rw [hz2]; omega) (by omega)
  have ho : OwnI w' g v' l := by
    unfold OwnI
    rw [← hz1]
    simpa using h2
  obtain ⟨b2, c2, e, -, -⟩ := ho.view
  subst e
  exact ⟨b2, _, c2, w', hr, ho, grown_below (Below.refl _ _) h3 hown.lt (by omega)⟩
end
section
open Go.RowKit
theorem run_appN (a : Option Addr) (cap : Nat) (l : List Int) (X : World) (hp : IntsA X a l) (hm : l.length ≤ 1000000) (hn : 0 < l.length) (g : Nat) (h : X.heap[g]? = some (.cells #[] 3 (0, 0))) :
    ∃ b c w', (Builtin.append_ #[22, 22] 22 #[.slice (some ⟨g, 0, none⟩) 0 0, .slice a l.length cap]).run Tryd.prog X = .ok (.slice (some ⟨b, 0, none⟩) l.length c) w' ∧ l.length ≤ c ∧ g ≤ b ∧ RowI w' b l ∧ (∀ k t cs, k ≠ g → Blk X k t cs → Blk w' k t cs) ∧ ∀ B, B ≤ g → Below B X w' := by
  obtain ⟨i0, hi, hz0, hz1, hz2⟩ := info_parts infoI
  have hg : g < X.heap.size := (Array.getElem?_eq_some_iff.1 h).1
  have hown := own_empty h
  obtain ⟨v', w', hr, h2, h3⟩ := run_app_src (P := Tryd.prog) X g 22 22 22 3 i0 (.int .i64 0) Tryd.underlying22 hi hz0 (by rw [hz1]; rfl) (by rw [hz1]; decide) _ 0 [] (by rw [hz1]; exact hown) (.slice a l.length cap) l.length (l.map iv) (by rw [hz1]; exact src_ints hp) (by unfold maxLen; omega) (by rw [hz2]; omega) (by omega)
  have ho : OwnI w' g v' l := by
    unfold OwnI
    rw [← hz1]
    simpa using h2
  obtain ⟨b, c, rfl, hb, hc, hrow⟩ := ho.row hn
  have hob : (Value.slice (some ⟨g, 0, none⟩) 0 0).ownBlock = some g := rfl
  refine ⟨b, c, w', hr, hc, hb, hrow, fun k t cs hk hB => (h3.block k hB.lt (fun e => ?_)).trans hB, fun B hB => grown_below (Below.refl _ _) h3 (fun k e => ?_) (by omega)⟩
  · rw [hob] at e
    exact hk (Option.some.inj e)
  · rw [hob] at e
    have := Option.some.inj e
    omega
theorem four {X : World} {g : Nat} {t : TypeId} {v0 v1 v2 v3 : Value} (h : Blk X g t #[v0, v1, v2, v3]) : X.cell? ⟨g, 0, none⟩ = some v0 ∧ X.cell? ⟨g, 1, none⟩ = some v1 ∧ X.cell? ⟨g, 2, none⟩ = some v2 ∧ X.cell? ⟨g, 3, none⟩ = some v3 := ⟨h.cell 0, h.cell 1, h.cell 2, h.cell 3⟩
/-- run_appN as one step of a region that draws, whatever the world is by then. -/
theorem step_appN {ops : Array Oper} {o : Oper} {a : Act} {w : World} {K : Act → World → Prop} {Q : Exit → Act → World → Prop} {E : Prop} (hgd : o.guard = none) (s x : Operand)
    (ho : o.op = .call { callee := .builtin .append, args := #[s, x], argTypes := #[22, 22] }) (hty : o.type = 22) (g : Nat) (hs : a.eval s = .slice (some ⟨g, 0, none⟩) 0 0)
    (p : Option Addr) (cap : Nat) (l : List Int) (n : Nat) (hln : l.length = n) (hx : a.eval x = .slice p n cap) (hp : IntsA w p l) (hm : n ≤ 1000000) (hn : 0 < n) (hh : w.heap[g]? = some (.cells #[] 3 (0, 0)))
    (hK : ∀ b c w', n ≤ c → g ≤ b → RowI w' b l → (∀ k t cs, k ≠ g → Blk w k t cs → Blk w' k t cs) → (∀ B, B ≤ g → Below B w w') → K (a.put o.dst (.slice (some ⟨b, 0, none⟩) n c)) w') :
    if Region.wanted o (yielded ops a.tmps) = true then Oper.wp Tryd.prog o a w K Q else E := by
  subst hln
  obtain ⟨b, c, w', hr, h1, h2, h3, h4, h5⟩ := run_appN p cap l w hp hm hn g hh
  have hw : Region.wanted o (yielded ops a.tmps) = true := by simp [Region.wanted, hgd]
  rw [if_pos hw]
  unfold Oper.wp execOp
  simp only [ho, hty, resolve, invoke, builtin, Sem.run_bind, Sem.run_pure, Result.andThen_ok, List.map_toArray, List.map_cons, List.map_nil, hs, hx, hr]
  exact hK _ _ _ h1 h2 h3 h4 h5
theorem Blk.ne {W : World} {g k : Nat} {t : TypeId} {cs : Array Value} {l : List Int} (h : Blk W k t cs) (ht : t ≠ 3) (hr : RowI W g l) : g ≠ k := by
  obtain ⟨cs', h', -⟩ := hr
  intro e
  subst e
  unfold Blk at h h'
  rw [h] at h'
  injection h' with h'
  injection h' with _ h2 _
  exact ht h2
end
section
open Go.RowKit
theorem IntsA.rowfar4 {w : World} {a : Option Addr} {l : List Int} {g : Nat} (h : IntsA w a l) (hg : ∀ b off, a = some ⟨b, off, none⟩ → b ≠ g) (cs : Array Value) : IntsA (w.setRow g cs) a l := fun k hk => by
  obtain ⟨b, off, e, h1⟩ := h k hk
  refine ⟨b, off, e, ?_⟩
  have := setRow_other w g b cs (hg b off e)
  unfold World.cell? at h1 ⊢
  simpa [this] using h1
theorem ints_apart4 {w : World} {a : Option Addr} {l : List Int} {g : Nat} {t : TypeId} {i0 i1 i2 : Value} (h : IntsA w a l) (hl : 4 ≤ l.length) (hb : Blk w g t #[i0, i1, i2, .slice none 0 0]) : ∀ b off, a = some ⟨b, off, none⟩ → b ≠ g := by
  rintro b off rfl rfl
  by_cases ho : off ≤ 3
  · obtain ⟨b', off', e, h1⟩ := h (3 - off) (by omega)
    simp only [Option.some.injEq, Addr.mk.injEq, and_true] at e
    obtain ⟨rfl, rfl⟩ := e
    have h2 := hb.cell 3
    rw [show off + (3 - off) = 3 by omega, h2] at h1
    simp at h1
  · obtain ⟨b', off', e, h1⟩ := h 0 (by omega)
    simp only [Option.some.injEq, Addr.mk.injEq, and_true] at e
    obtain ⟨rfl, rfl⟩ := e
    have h2 := hb.cell (off + 0)
    rw [h2] at h1
    rw [Array.getElem?_eq_none (by simp; omega)] at h1
    cases h1
set_option maxRecDepth 100000 in
set_option maxHeartbeats 1000000 in
theorem addref_any (W : Nat) (S A : Int) (a : Option Addr) (cap : Nat) (l : List Int) (key : ByteArray) (w : World) (hp : IntsA w a l) (hl : l.length = 4 * W) (hk : key.size ≤ 400) (hW : ∃ k : Nat, k ≤ 12 ∧ W = 2 ^ k)
    (h0 : ∀ x ∈ l, 0 ≤ x ∧ x ≤ 15) (hA : 0 ≤ A) (hS : A < S) (hS2 : S ≤ 1048576) (hla : LaidK w) :
    Calls Tryd.prog 23 #[.agg #[.int .i64 W, .int .i64 S, .int .i64 A, .slice a l.length cap], .string key] w fun e w' => (∃ b c, e = .returned (.agg #[.int .i64 W, .int .i64 S, .int .i64 (nxA S A), .slice b l.length c]) ∧ IntsA w' b (nxL W (pl key) S A l)) ∧ Below w.heap.size w w' := by
  have W0 : 0 < W := by obtain ⟨k, -, h2⟩ := hW; rw [h2]; exact Nat.two_pow_pos k
  have W4 : W ≤ 4096 := by
    obtain ⟨k, h1, h2⟩ := hW
    have := Nat.pow_le_pow_right (n := 2) (by decide) h1
    have e : (2 : Nat) ^ 12 = 4096 := by decide
    omega
  have HP := Lib.hid hp; have LA := Lib.hid hla; have HL := Lib.hid hl
  have HV := Lib.hid (fun (X : World) (gg cc : Nat) (A1 : Int) (y : List Int) (hr : RowI X gg y) (hy : y.length = l.length) (hb : ∀ x ∈ y, 0 ≤ x ∧ x ≤ 15) (ha : 0 ≤ A1) (ha2 : A1 ≤ 9223372036854775807) => (show Calls Tryd.prog 27 #[.agg #[.int .i64 W, .int .i64 S, .int .i64 A1, .slice (some ⟨gg, 0, none⟩) l.length cc]] X _ from by
    have h := halveref_any W S A1 (some ⟨gg, 0, none⟩) cc y X hr.ints (by omega) hb ha ha2
    rw [hy] at h; exact h))
  have PC := Lib.hid (fun (k : Nat) (h : k < 4) (X : World) (h2 : LaidK X) => placeref_any key k W X hk h hW h2)
  have SM := Lib.hid (fun (i : Nat) => getD_small l h0 i)
  have HBD := Lib.hid (addL_bd (pl key) l W0 hl h0)
  have IL := Lib.hid (fun (k : Nat) (h : k < 4) => show idx W (pl key) k < l.length by rw [hl]; exact idx_lt _ W0 h)
  have OWN := Lib.hid (fun (k : Nat) => addK_own (pl key) l (cnt W (pl key) l) W0 k)
  have LEN := Lib.hid (fun (k : Nat) => addK_len W (pl key) l (cnt W (pl key) l) k)
  have STEP := Lib.hid (fun (k : Nat) => show addK W (pl key) l (cnt W (pl key) l) (k + 1) = if l.getD (idx W (pl key) k) 0 = cnt W (pl key) l ∧ cnt W (pl key) l < 15 then (addK W (pl key) l (cnt W (pl key) l) k).set (idx W (pl key) k) (cnt W (pl key) l + 1) else addK W (pl key) l (cnt W (pl key) l) k from rfl)
  have FIN := Lib.hid (show addK W (pl key) l (cnt W (pl key) l) 4 = addL W (pl key) l from rfl)
  have ALN := Lib.hid (addL_len W (pl key) l)
  obtain ⟨ba, oa, rfl, -⟩ := hp 0 (by omega)
  have RD := Lib.hid (show ∀ k, k < l.length → ∀ X, Below w.heap.size w X → X.cell? ⟨ba, oa + k, none⟩ = some (.int .i64 (l.getD k 0)) from fun k hk X hX => by
    obtain ⟨b', off', e, h1⟩ := (hp.mono hX) k hk
    simp only [Option.some.injEq, Addr.mk.injEq, and_true] at e
    obtain ⟨rfl, rfl⟩ := e
    exact h1)
  have hC15 := cnt_le W (pl key) l
  obtain ⟨c, hc⟩ : ∃ c, cnt W (pl key) l = c := ⟨_, rfl⟩
  have CN := Lib.hid (fun (X : World) (h : IntsA X (some ⟨ba, oa, none⟩) l) (h2 : LaidK X) => countref_any W S A (some ⟨ba, oa, none⟩) cap l key X h hl hk hW h2)
  have RUN := Lib.hid (fun (X : World) (h : IntsA X (some ⟨ba, oa, none⟩) l) (g : Nat) (h2 : X.heap[g]? = some (.cells #[] 3 (0, 0))) => run_appN (some ⟨ba, oa, none⟩) cap l X h (by omega) (by omega) g h2)
  obtain ⟨n, hn⟩ : ∃ n, l.length = n := ⟨_, rfl⟩
  rw [hn] at CN RUN IL RD HV ⊢
  rw [hc] at hC15
  simp only [hc] at CN OWN LEN STEP FIN
  have HE := Lib.hid hn
  have HM := Lib.hid (show n ≤ 1000000 by omega)
  have HN := Lib.hid (show 0 < n by omega)
  have WH := Lib.hid W0
  have wr : IntKind.i64.wrap (A + 1) = A + 1 := by rw [IntKind.wrap_i64]; omega
  obtain ⟨A1, hA1⟩ : ∃ x, A + 1 = x := ⟨_, rfl⟩
  rw [hA1] at wr
  clear hp hla hl hk hW h0 hc hn
  go_enter Tryd.func23, Tryd.ntmps23
  go_wp2_with fail
  refine (CN.out _ (HP.out.mono (by (repeat' (first | (with_reducible exact Below.refl _ _) | (with_reducible assumption) | (with_reducible refine Below.alloc ?_ ?_ _) | (with_reducible refine Below.drew ?_) | (with_reducible refine below_dn ?_) | (with_reducible refine Below.setCell ?_ ?_ _) | (with_reducible exact Nat.le_refl _) | omega | (simp only [World.size_alloc, World.size_setCell, World.size_drew]; omega) | (simp; omega) | (simp; done))))) (LA.out.mono (by (repeat' (first | (with_reducible exact Below.refl _ _) | (with_reducible assumption) | (with_reducible refine Below.alloc ?_ ?_ _) | (with_reducible refine Below.drew ?_) | (with_reducible refine below_dn ?_) | (with_reducible refine Below.setCell ?_ ?_ _) | (with_reducible exact Nat.le_refl _) | omega | (simp only [World.size_alloc, World.size_setCell, World.size_drew]; omega) | (simp; omega) | (simp; done)))))).mono ?_
  rintro e w1 ⟨rfl, hb⟩
  have K1 := Lib.hid (show Blk w1 w.heap.size 24 #[.int .i64 W, .int .i64 S, .int .i64 A, .slice (some ⟨ba, oa, none⟩) n cap] from ((Blk.new' w _ _ _ rfl rfl).alloc _).below hb (by simp; omega))
  have K2 := Lib.hid (show Blk w1 (w.heap.size + 1) 24 #[.int .i64 0, .int .i64 0, .int .i64 0, .slice none 0 0] from (Blk.new' _ _ _ _ (World.size_alloc _ _) rfl).below hb (by simp))
  have d0 := K1.out.cell 0
  have d1 := K1.out.cell 1
  have d2 := K1.out.cell 2
  have d3 := K1.out.cell 3
  change _ = some (Value.int .i64 (W : Int)) at d0
  change _ = some (Value.int .i64 S) at d1
  change _ = some (Value.int .i64 A) at d2
  change _ = some (Value.slice (some ⟨ba, oa, none⟩) n cap) at d3
  have B1 := Lib.hid (show Below w.heap.size w w1 from bt (by (repeat' (first | (with_reducible exact Below.refl _ _) | (with_reducible assumption) | (with_reducible refine Below.alloc ?_ ?_ _) | (with_reducible refine Below.drew ?_) | (with_reducible refine below_dn ?_) | (with_reducible refine Below.setCell ?_ ?_ _) | (with_reducible exact Nat.le_refl _) | omega | (simp only [World.size_alloc, World.size_setCell, World.size_drew]; omega) | (simp; omega) | (simp; done)))) hb)
  have H1 := Lib.hid (HP.out.mono B1.out)
  have z1 : w.heap.size + 2 ≤ w1.heap.size := by have := K2.out.lt; omega
  clear hb CN
  go_upto_region 2 with (fail)
  go_cut [6] from 12 to 23 (fun s6 wx => ∃ (o g cc : Nat), s6 = .pointer (some ⟨o, 0, none⟩) ∧ Hid (w.heap.size + 2 ≤ o ∧ w.heap.size + 2 ≤ g ∧ g ≠ o ∧ n ≤ cc) ∧ Hid (Blk wx o 24 #[.int .i64 W, .int .i64 S, .int .i64 A1, .slice (some ⟨g, 0, none⟩) n cc]) ∧ Hid (RowI wx g l) ∧ Hid (Below w1.heap.size w1 wx))
  case first =>
    clear LA HL HV PC SM HBD IL OWN LEN STEP FIN ALN RD RUN HP
    have NM := HM; have NP := HN
    clear d0 d1 d2 d3 B1
    go_region_held3 (fun X => X.cell? ⟨w.heap.size, 0, none⟩ = some (.int .i64 W) ∧ X.cell? ⟨w.heap.size, 1, none⟩ = some (.int .i64 S) ∧ X.cell? ⟨w.heap.size, 2, none⟩ = some (.int .i64 A) ∧ X.cell? ⟨w.heap.size, 3, none⟩ = some (.slice (some ⟨ba, oa, none⟩) n cap)) (first | with_reducible exact four K1.out | with_reducible exact four K1.out.drew | with_reducible exact four (K1.out.alloc _) | with_reducible exact four (K1.out.alloc _).drew | with_reducible exact four ((K1.out.alloc _).alloc _) | with_reducible exact four ((K1.out.alloc _).alloc _).drew | with_reducible exact four KX.out | with_reducible exact four (KX.out.alloc _) | (with_reducible refine four ((((KX.out.far ?_ _).far ?_ _).far ?_ _).far ?_ _) <;> (simp; done)) | (with_reducible refine four ((((KX.out.far ?_ _).far ?_ _).far ?_ _).far ?_ _) <;> (simp; omega))) (first | ((refine step_appN (by rfl) (.tmp 19) (.tmp 21) (by rfl) (by rfl) _ (by rfl) _ _ l _ HE.out (by rfl) (H1.out.mono (by (repeat' (first | (with_reducible exact Below.refl _ _) | (with_reducible assumption) | (with_reducible refine Below.alloc ?_ ?_ _) | (with_reducible refine Below.drew ?_) | (with_reducible refine below_dn ?_) | (with_reducible refine Below.setCell ?_ ?_ _) | (with_reducible exact Nat.le_refl _) | omega | (simp only [World.size_alloc, World.size_setCell, World.size_drew]; omega) | (simp; omega) | (simp; done))))) NM.out NP.out (by first | exact World.alloc_heap_new _ _ | exact (Blk.new _ 3 #[]).alloc _ | exact Blk.new' _ 3 #[] #[] (World.size_alloc _ _) rfl) ?_); intro b0 c0 xw hc0 hg0 hr0 hk0 hb0; have BW := Lib.hid (show Below w1.heap.size w1 xw from by refine Below.trans ?_ (hb0 w1.heap.size ?_) <;> (repeat' (first | (with_reducible exact Below.refl _ _) | (with_reducible assumption) | (with_reducible refine Below.alloc ?_ ?_ _) | (with_reducible refine Below.drew ?_) | (with_reducible refine below_dn ?_) | (with_reducible refine Below.setCell ?_ ?_ _) | (with_reducible exact Nat.le_refl _) | omega | (simp only [World.size_alloc, World.size_setCell, World.size_drew]; omega) | (simp; omega) | (simp; done)))); have KX := Lib.hid (K1.out.below BW.out K1.out.lt); (try (refine (have OZ : Hid (Blk xw (w1.heap.size + 1) 24 #[.int .i64 0, .int .i64 0, .int .i64 0, .slice none 0 0]) := ?hz; ?_); (case hz => exact Lib.hid (hk0 _ _ _ (by simp) ((Blk.new' _ _ _ _ (World.size_alloc _ _) rfl).drew))); have o0 := OZ.out.cell 0; change _ = some (Value.int .i64 0) at o0; have o1 := OZ.out.cell 1; change _ = some (Value.int .i64 0) at o1; have o2 := OZ.out.cell 2; change _ = some (Value.int .i64 0) at o2; have o3 := OZ.out.cell 3; change _ = some (Value.slice none 0 0) at o3; have of := fun q => OZ.out.frozen q)); (try (refine (have OZ : Hid (Blk xw (w1.heap.size) 24 #[.int .i64 0, .int .i64 0, .int .i64 0, .slice none 0 0]) := ?hz; ?_); (case hz => exact Lib.hid (hk0 _ _ _ (by simp) (((Blk.new _ _ _).alloc _).drew))); have o0 := OZ.out.cell 0; change _ = some (Value.int .i64 0) at o0; have o1 := OZ.out.cell 1; change _ = some (Value.int .i64 0) at o1; have o2 := OZ.out.cell 2; change _ = some (Value.int .i64 0) at o2; have o3 := OZ.out.cell 3; change _ = some (Value.slice none 0 0) at o3; have of := fun q => OZ.out.frozen q))))
    all_goals go_wp2_with fail
    all_goals go_meet
    · exact ⟨xw.heap.size, b0, c0, rfl, Lib.hid ⟨by have := BW.out.size; omega, by omega, by have := hr0.lt; omega, hc0⟩, Lib.hid (Blk.new _ _ _), Lib.hid (hr0.alloc _), Lib.hid (BW.out.alloc BW.out.size _)⟩
    · exact ⟨w1.heap.size + 1, b0, c0, rfl, Lib.hid ⟨by omega, by omega, Blk.ne OZ.out (by decide) hr0, hc0⟩, Lib.hid ((((OZ.out.set_ 0 _).set_ 1 _).set_ 2 _).set_ 3 _), Lib.hid ((((hr0.far (Blk.ne OZ.out (by decide) hr0) _).far (Blk.ne OZ.out (by decide) hr0) _).far (Blk.ne OZ.out (by decide) hr0) _).far (Blk.ne OZ.out (by decide) hr0) _), Lib.hid ((((BW.out.setCell (by simp) _).setCell (by simp) _).setCell (by simp) _).setCell (by simp) _)⟩
    · exact ⟨w1.heap.size, b0, c0, rfl, Lib.hid ⟨by omega, by omega, Blk.ne OZ.out (by decide) hr0, hc0⟩, Lib.hid ((((OZ.out.set_ 0 _).set_ 1 _).set_ 2 _).set_ 3 _), Lib.hid ((((hr0.far (Blk.ne OZ.out (by decide) hr0) _).far (Blk.ne OZ.out (by decide) hr0) _).far (Blk.ne OZ.out (by decide) hr0) _).far (Blk.ne OZ.out (by decide) hr0) _), Lib.hid ((((BW.out.setCell (by simp) _).setCell (by simp) _).setCell (by simp) _).setCell (by simp) _)⟩
  case rest =>
    obtain ⟨o, g, cc, rfl, hne, hBo, hRg, hbx⟩ := hcut
    have K1c := Lib.hid (K1.out.below hbx.out K1.out.lt)
    have K2c := Lib.hid (K2.out.below hbx.out K2.out.lt)
    have Bc := Lib.hid (show Below w.heap.size w wc from bt B1.out hbx.out)
    obtain ⟨o1, g1, og, ncc⟩ := hne.out
    have R0 : Hid (RowI wc g (addK W (pl key) l c 0)) := hRg
    clear K1 K2 B1 H1 d0 d1 d2 d3 hbx hne hRg RUN z1
    go_wp2
    go_loopw [7, 8] (fun u7 _ wr => ∃ (k : Nat), k ≤ 4 ∧ u7 = .int .i64 k ∧ Hid (RowI wr g (addK W (pl key) l c k)) ∧ Hid (Blk wr w.heap.size 24 #[.int .i64 W, .int .i64 S, .int .i64 A, .slice (some ⟨ba, oa, none⟩) n cap]) ∧ Hid (Blk wr (w.heap.size + 1) 24 #[.int .i64 0, .int .i64 0, .int .i64 0, .slice none 0 0]) ∧ Hid (Blk wr o 24 #[.int .i64 W, .int .i64 S, .int .i64 A1, .slice (some ⟨g, 0, none⟩) n cc]) ∧ Hid (Below w.heap.size w wr)) (fun u7 _ _ => 4 - (intOf u7).toNat)
    case atStart => exact ⟨0, by omega, rfl, R0, K1c, K2c, hBo, Bc⟩
    case round =>
      obtain ⟨k, hk, rfl, RG, X1, X2, X3, hbe⟩ := hrel
      by_cases hlt : k < 4
      · have c0 : wr.cell? ⟨w.heap.size, 0, none⟩ = some (.int .i64 W) := X1.out.cell 0
        have il := IL.out k hlt
        have hm : k * W ≤ 3 * 4096 := Nat.mul_le_mul (by omega) W4
        obtain ⟨M, hM⟩ : ∃ M, k * W = M := ⟨_, rfl⟩
        have pc := PC.out k hlt
        have hR : pl key k % W < W := Nat.mod_lt _ WH.out
        have hidx : idx W (pl key) k = M + pl key k % W := by unfold idx; rw [hM]
        have st := STEP.out k
        have q := RG.out.cell (k := idx W (pl key) k) (by rw [LEN.out, HE.out]; exact il)
        rw [OWN.out k] at q
        have fr := RG.out.frozen (idx W (pl key) k)
        have x0 := SM.out (idx W (pl key) k)
        rw [hidx] at q fr il st x0
        obtain ⟨R, hR'⟩ : ∃ R, pl key k % W = R := ⟨_, rfl⟩
        simp only [hR'] at pc
        rw [hR'] at q fr il st hR x0
        obtain ⟨i, hI⟩ : ∃ I, M + R = I := ⟨_, rfl⟩
        rw [hI] at q fr il st x0
        have rd := RD.out i il
        obtain ⟨x, hx⟩ : ∃ x, l.getD i 0 = x := ⟨_, rfl⟩
        rw [hx] at q st x0
        simp only [hx] at rd
        rw [hM] at hm
        have P1 := Lib.hid pc
        have e1 : (k : Int) * (W : Int) = (M : Int) := by rw [← hM]; simp
        have e2 : (M : Int) + (R : Int) = (i : Int) := by omega
        have v1 : IntKind.i64.wrap (M : Int) = (M : Int) := by rw [IntKind.wrap_i64]; omega
        have v2 : IntKind.i64.wrap (i : Int) = (i : Int) := by rw [IntKind.wrap_i64]; omega
        have iL : (i : Int) < (n : Int) := by omega
        have i0 : (0 : Int) ≤ (i : Int) := by omega
        have BD := Lib.hid (show Below w.heap.size w wr.drew from Below.drew hbe.out)
        have RDX := Lib.hid rd; have ST := Lib.hid st; have FR := Lib.hid fr
        clear hM hidx hR' hI hx pc hm hR rd st fr
        go_wp2
        go_region_held3 (fun X => X.cell? ⟨w.heap.size, 0, none⟩ = some (.int .i64 W)) (first | exact c0 | exact keep (W := World.drew wr) c0 hb2) (first | (go_at_call 20; refine (P1.out _ (LA.out.mono BD.out)).mono ?_; rintro e w2 ⟨rfl, hb2⟩; have Y1 := Lib.hid (X1.out.drew.below hb2 X1.out.lt); have Y2 := Lib.hid (X2.out.drew.below hb2 X2.out.lt); have Y3 := Lib.hid (X3.out.drew.below hb2 X3.out.lt); have YG := Lib.hid (RG.out.drew.below hb2 RG.out.lt); have B2 := Lib.hid (bt BD.out hb2)))
        by_cases hxc : x = c
        · subst hxc
          have t1 : (x == x) = true := beq_self_eq_true x
          have q1 := RDX.out w2 B2.out
          have m3 : w2.cell? ⟨w.heap.size, 3, none⟩ = some (.slice (some ⟨ba, oa, none⟩) n cap) := Y1.out.cell 3
          by_cases h15 : x < 15
          · have t2 : decide (x < 15) = true := decide_eq_true h15
            have ST2 := ST.out
            rw [if_pos ⟨rfl, h15⟩] at ST2
            have S2 := Lib.hid ST2
            have wx1 : IntKind.i64.wrap (x + 1) = x + 1 := by rw [IntKind.wrap_i64]; omega
            have o3 : w2.cell? ⟨o, 3, none⟩ = some (.slice (some ⟨g, 0, none⟩) n cc) := Y3.out.cell 3
            have gq := YG.out.cell (k := i) (by rw [LEN.out, HE.out]; omega)
            have gf := YG.out.frozen i
            clear ST2 ST
            go_wp2
            try go_region
            all_goals go_wp2
            all_goals go_roundw
            case rel => exact ⟨k + 1, by omega, by go_num, by rw [S2.out]; exact Lib.hid (YG.out.set_ i (x + 1)), Lib.hid (Y1.out.far (by simp; omega) _), Lib.hid (Y2.out.far (by simp; omega) _), Lib.hid (Y3.out.far (by simp; omega) _), Lib.hid (B2.out.setCell (by simp; omega) _)⟩
            case measure => simp [intOf]; omega
          · have t2 : decide (x < 15) = false := decide_eq_false h15
            have ST2 := ST.out
            rw [if_neg (fun h => h15 h.2)] at ST2
            have S2 := Lib.hid ST2
            clear ST2 ST
            go_wp2
            go_roundw
            case rel => exact ⟨k + 1, by omega, by go_num, by rw [S2.out]; exact YG, Y1, Y2, Y3, B2⟩
            case measure => simp [intOf]; omega
        · have t1 : (x == c) = false := beq_eq_false_iff_ne.mpr hxc
          have t2 : decide (x = c) = false := decide_eq_false hxc
          have q1 := RDX.out w2 B2.out
          have m3 : w2.cell? ⟨w.heap.size, 3, none⟩ = some (.slice (some ⟨ba, oa, none⟩) n cap) := Y1.out.cell 3
          have ST2 := ST.out
          rw [if_neg (fun h => hxc h.1)] at ST2
          have S2 := Lib.hid ST2
          clear ST2 ST
          go_wp2
          go_roundw
          case rel => exact ⟨k + 1, by omega, by go_num, by rw [S2.out]; exact YG, Y1, Y2, Y3, B2⟩
          case measure => simp [intOf]; omega
      · have hk4 : k = 4 := by omega
        have RF := RG.out
        rw [hk4, FIN.out] at RF
        have RR := Lib.hid RF
        have o1' := X3.out.cell 1
        have o2' := X3.out.cell 2
        change _ = some (Value.int .i64 S) at o1'
        change _ = some (Value.int .i64 A1) at o2'
        have IX := Lib.hid (show (Tryd.prog.info? 24).map (·.size) = some (#[.int .i64 W, .int .i64 S, .int .i64 A1, .slice (some ⟨g, 0, none⟩) n cc] : Array Value).size by kernel_rfl)
        clear RF hk4 RG
        by_cases hAS : A1 = S
        · have t1 : (A1 == S) = true := by rw [hAS]; exact beq_self_eq_true S
          have t2 : decide (A1 = S) = true := decide_eq_true hAS
          have HNX := Lib.hid (show nxA S A = A1 / 2 ∧ nxL W (pl key) S A l = halve (addL W (pl key) l) by unfold nxA nxL; rw [hA1, if_pos hAS, if_pos hAS]; exact ⟨rfl, rfl⟩)
          clear hA1
          subst hAS
          go_wp2_with (with_reducible refine wpList_load_all rfl _ _ rfl o rfl 24 _ _ X3.out Tryd.underlying24 IX.out ?_)
          refine (HV.out wr g cc A1 (addL W (pl key) l) RR.out (by rw [ALN.out, HE.out]) HBD.out (by omega) (by omega)).mono ?_
          rintro e w5 ⟨⟨b5, c5, rfl, hc5, hi5⟩, hb5⟩
          have Q2 := Lib.hid (X2.out.below hb5 X2.out.lt)
          have B5 := Lib.hid (show Below w.heap.size w w5 from bt hbe.out hb5)
          have I5 := Lib.hid hi5
          have IX2 := Lib.hid (show (Tryd.prog.info? 24).map (·.size) = some (#[.int .i64 W, .int .i64 A1, .int .i64 (A1 / 2), .slice b5 n c5] : Array Value).size by kernel_rfl)
          have Ioq := Lib.hid (show (#[.int .i64 W, .int .i64 A1, .int .i64 (A1 / 2), .slice b5 n c5] : Array Value).all (·.oneCell') = true by simp [Value.oneCell'])
          clear hb5 hc5 hi5
          go_wp2_with (with_reducible refine wpList_store_blk rfl _ _ _ rfl (w.heap.size + 1) 24 #[.int .i64 0, .int .i64 0, .int .i64 0, .slice none 0 0] #[.int .i64 W, .int .i64 A1, .int .i64 (A1 / 2), .slice b5 n c5] rfl rfl Q2.out IX2.out rfl Ioq.out rfl ?_)
          refine bodyPost_ret (v := .agg #[.int .i64 W, .int .i64 A1, .int .i64 (A1 / 2), .slice b5 n c5]) (results_cell_row rfl _ _ _ 24 _ (0, 0) _ rfl (Q2.out.row_ _) Tryd.underlying24 rfl IX2.out) rfl ?_
          rw [HNX.out.1, HNX.out.2]
          refine ⟨⟨b5, c5, rfl, ?_⟩, below_setRow B5.out (by omega) _⟩
          exact I5.out.rowfar4 (ints_apart4 I5.out (by rw [halve_len, ALN.out]; have := HL.out; have := WH.out; omega) Q2.out) _
        · have t1 : (A1 == S) = false := beq_eq_false_iff_ne.2 hAS
          have t2 : decide (A1 = S) = false := decide_eq_false hAS
          have HNX := Lib.hid (show nxA S A = A1 ∧ nxL W (pl key) S A l = addL W (pl key) l by unfold nxA nxL; rw [hA1, if_neg hAS, if_neg hAS]; exact ⟨rfl, rfl⟩)
          have IX2 := IX
          have Ioq := Lib.hid (show (#[.int .i64 W, .int .i64 S, .int .i64 A1, .slice (some ⟨g, 0, none⟩) n cc] : Array Value).all (·.oneCell') = true by simp [Value.oneCell'])
          clear hA1
          go_wp2_with (first | (with_reducible refine wpList_load_all rfl _ _ rfl o rfl 24 _ _ X3.out Tryd.underlying24 IX.out ?_) | (with_reducible refine wpList_store_blk rfl _ _ _ rfl (w.heap.size + 1) 24 #[.int .i64 0, .int .i64 0, .int .i64 0, .slice none 0 0] #[.int .i64 W, .int .i64 S, .int .i64 A1, .slice (some ⟨g, 0, none⟩) n cc] rfl rfl X2.out IX2.out rfl Ioq.out rfl ?_))
          refine bodyPost_ret (v := .agg #[.int .i64 W, .int .i64 S, .int .i64 A1, .slice (some ⟨g, 0, none⟩) n cc]) (results_cell_row rfl _ _ _ 24 _ (0, 0) _ rfl (X2.out.row_ _) Tryd.underlying24 rfl IX2.out) rfl ?_
          rw [HNX.out.1, HNX.out.2]
          exact ⟨⟨_, _, rfl, (RR.out.rowfar (by omega) _).ints⟩, below_setRow hbe.out (by omega) _⟩
end
section
open Go.RowKit Go.Sort
theorem grow_cell3 (w : World) (d : Nat) (os : Array Obj) (b o : Nat) (h : b < w.heap.size) : (grow (redrawn w d) os).cell? ⟨b, o, none⟩ = w.cell? ⟨b, o, none⟩ :=
  (below_regrown w d os).cell (p := ⟨b, o, none⟩) h
theorem below_of_grow3 {W W' : World} {d : Nat} {os : Array Obj} (h : W' = grow (redrawn W d) os) : Below W.heap.size W W' := h ▸ below_regrown W d os
theorem Ok.nat3 {W S A : Int} {l : List Int} (h : Ok W S A l) : ∃ N : Nat, W = (N : Int) ∧ (∃ k : Nat, k ≤ 12 ∧ N = 2 ^ k) ∧ l.length = 4 * N := by
  obtain ⟨k, -, hk⟩ := of_decide_eq_true h.two
  refine ⟨2 ^ k, hk, ⟨k, ?_, rfl⟩, ?_⟩
  · rcases Nat.lt_or_ge 12 k with h1 | h1
    · have h2 := Nat.pow_le_pow_right (n := 2) (by decide) (show 13 ≤ k by omega)
      have h3 : (2 : Nat) ^ 13 = 8192 := by decide
      have := h.w
      omega
    · exact h1
  · have := h.len
    omega
set_option maxRecDepth 100000 in
set_option maxHeartbeats 1000000 in
theorem same_true (W S A : Int) (a1 a2 : Option Addr) (c1 c2 : Nat) (l : List Int) (w : World) (hp1 : IntsA w a1 l) (hp2 : IntsA w a2 l) (hm : l.length ≤ 9223372036854775807) :
    Calls Tryd.prog 13 #[.agg #[.int .i64 W, .int .i64 S, .int .i64 A, .slice a1 l.length c1], .agg #[.int .i64 W, .int .i64 S, .int .i64 A, .slice a2 l.length c2]] w fun e w' => e = .returned (.bool true) ∧ Below w.heap.size w w' := by
  have HP := Lib.hid hp1
  have HQ := Lib.hid hp2
  obtain ⟨n, hn⟩ : ∃ n, l.length = n := ⟨_, rfl⟩
  have HE := Lib.hid hn
  rw [hn] at hm ⊢
  clear hp1 hp2 hn
  go_enter Tryd.func13, Tryd.ntmps13
  go_wp2
  go_loopw [5] (fun u5 wr => ∃ k : Nat, k ≤ n ∧ u5 = .int .i64 k ∧ Hid (Blk wr w.heap.size 24 #[.int .i64 W, .int .i64 S, .int .i64 A, .slice a1 n c1]) ∧ Hid (Blk wr (w.heap.size + 1) 24 #[.int .i64 W, .int .i64 S, .int .i64 A, .slice a2 n c2]) ∧ Hid (Below w.heap.size w wr)) (fun u5 _ => n - (intOf u5).toNat)
  case atStart => exact ⟨0, by omega, rfl, Lib.hid ((Blk.new' w _ _ _ rfl rfl).alloc _), Lib.hid (Blk.new' _ _ _ _ (World.size_alloc _ _) rfl), Lib.hid (by (repeat' (first | (with_reducible exact Below.refl _ _) | (with_reducible assumption) | (with_reducible refine Below.alloc ?_ ?_ _) | (with_reducible refine Below.drew ?_) | (with_reducible refine below_dn ?_) | (with_reducible refine Below.setCell ?_ ?_ _) | (with_reducible exact Nat.le_refl _) | omega | (simp only [World.size_alloc, World.size_setCell, World.size_drew]; omega) | (simp; omega) | (simp; done))))⟩
  case round =>
    obtain ⟨k, hk, rfl, K1, K2, BB⟩ := hrel
    have e3 : wr.cell? ⟨w.heap.size, 3, none⟩ = some (.slice a1 n c1) := K1.out.cell 3
    have e4 : wr.cell? ⟨w.heap.size + 1, 3, none⟩ = some (.slice a2 n c2) := K2.out.cell 3
    by_cases hlt : k < n
    · obtain ⟨b1, f1, rfl, q1⟩ := HP.out.mono BB.out k (by rw [HE.out]; exact hlt)
      obtain ⟨b2, f2, rfl, q2⟩ := HQ.out.mono BB.out k (by rw [HE.out]; exact hlt)
      obtain ⟨x, hx⟩ : ∃ x, l.getD k 0 = x := ⟨_, rfl⟩
      rw [hx] at q1 q2
      clear hx
      go_wp2
      go_quiet (fail)
      go_wp2
      go_roundw
      case rel => exact ⟨k + 1, by omega, by go_num, Lib.hid (K1.out.drewN _), Lib.hid (K2.out.drewN _), Lib.hid (below_dn BB.out)⟩
      case measure => simp [intOf]; omega
    · go_wp2
      go_ret
      exact ⟨rfl, BB.out⟩
theorem IntsA.none_ (w : World) : IntsA w none [] := fun k hk => absurd hk (by simp)
theorem new_both (W S : Int) (b1 : -9223372036854775808 ≤ W) (b2 : W ≤ 9223372036854775807) : ∃ (W' S' e : Int) (l : List Int), l.length ≤ 1000000 ∧
    (∀ X, Calls Tryd.prog 10 #[.int .i64 W, .int .i64 S] X fun r w' => (∃ a c, r = .returned (.tuple #[.agg #[.int .i64 W', .int .i64 S', .int .i64 0, .slice a l.length c], .int .i64 e]) ∧ IntsA w' a l) ∧ Below X.heap.size X w') ∧
    (∀ X, Calls Tryd.prog 11 #[.int .i64 W, .int .i64 S] X fun r w' => (∃ a c, r = .returned (.agg #[.int .i64 W', .int .i64 S', .int .i64 0, .slice a l.length c, .int .i64 e]) ∧ IntsA w' a l) ∧ Below X.heap.size X w') := by
  by_cases h : pw W = false ∨ S < 1
  · refine ⟨0, 0, 1, [], by simp, fun X => (new_arg W S X b1 b2 h).mono ?_, fun X => (newref_arg W S X b1 b2 h).mono ?_⟩
    · rintro r w' ⟨rfl, hb⟩; exact ⟨⟨none, 0, rfl, IntsA.none_ _⟩, hb⟩
    · rintro r w' ⟨rfl, hb⟩; exact ⟨⟨none, 0, rfl, IntsA.none_ _⟩, hb⟩
  · have hp : pw W = true := by cases hq : pw W; exact absurd (Or.inl hq) h; rfl
    have hS : 1 ≤ S := by have : ¬ S < 1 := fun q => h (Or.inr q); omega
    by_cases h2 : 4096 < W ∨ 1048576 < S
    · refine ⟨0, 0, 2, [], by simp, fun X => (new_limit W S X b1 b2 hp hS h2).mono ?_, fun X => (newref_limit W S X b1 b2 hp hS h2).mono ?_⟩
      · rintro r w' ⟨rfl, hb⟩; exact ⟨⟨none, 0, rfl, IntsA.none_ _⟩, hb⟩
      · rintro r w' ⟨rfl, hb⟩; exact ⟨⟨none, 0, rfl, IntsA.none_ _⟩, hb⟩
    · have h3 : W ≤ 4096 := by omega
      have h4 : S ≤ 1048576 := by omega
      have p0 := pw_pos hp
      obtain ⟨n, hn⟩ : ∃ n : Nat, (n : Int) = 4 * W := ⟨(4 * W).toNat, by omega⟩
      refine ⟨W, S, 0, List.replicate n 0, by rw [List.length_replicate]; omega, fun X => (new_ok W S X b1 b2 hp hS h3 h4 n hn).mono ?_, fun X => (newref_ok W S X b1 b2 hp hS h3 h4 n hn).mono ?_⟩
      · rintro r w' ⟨⟨g, rfl, hr⟩, hb⟩; exact ⟨⟨some ⟨g, 0, none⟩, n, by rw [List.length_replicate], hr.ints⟩, hb⟩
      · rintro r w' ⟨⟨g, rfl, hr⟩, hb⟩; exact ⟨⟨some ⟨g, 0, none⟩, n, by rw [List.length_replicate], hr.ints⟩, hb⟩
end
section
open Go.RowKit
/-- Few keys, and each of few bytes. -/
def Short (ss : List ByteArray) : Prop := ss.length ≤ 60 ∧ ∀ k, k < ss.length → (ss.getD k ByteArray.empty).size ≤ 100
set_option maxRecDepth 100000 in
set_option maxHeartbeats 400000 in
theorem short_any (a : Option Addr) (cap : Nat) (ss : List ByteArray) (w : World) (hp : StrsA w a ss) (hm : ss.length ≤ 9223372036854775807) (hz : ∀ k, k < ss.length → (ss.getD k ByteArray.empty).size ≤ 9223372036854775807) :
    Calls Tryd.prog 21 #[.slice a ss.length cap] w fun e w' => Judged e (Short ss) ∧ Below w.heap.size w w' := by
  have HP := Lib.hid hp
  have HZ := Lib.hid hz
  have HS := Lib.hid (show Short ss ↔ ss.length ≤ 60 ∧ ∀ k, k < ss.length → (ss.getD k ByteArray.empty).size ≤ 100 from Iff.rfl)
  obtain ⟨n, hn⟩ : ∃ n, ss.length = n := ⟨_, rfl⟩
  have HE := Lib.hid hn
  rw [hn] at hm HZ HS ⊢
  clear hp hn hz
  go_enter Tryd.func21, Tryd.ntmps21
  go_wp2
  go_loopw [3] (fun u3 wr => ∃ k : Nat, k ≤ n ∧ u3 = .int .i64 k ∧ Hid (∀ j, j < k → (ss.getD j ByteArray.empty).size ≤ 100) ∧ Hid (Below w.heap.size w wr)) (fun u3 _ => n - (intOf u3).toNat)
  case atStart => exact ⟨0, by omega, rfl, Lib.hid (fun j h => absurd h (by omega)), Lib.hid (by (repeat' (first | (with_reducible exact Below.refl _ _) | (with_reducible assumption) | (with_reducible refine Below.alloc ?_ ?_ _) | (with_reducible refine Below.drew ?_) | (with_reducible refine below_dn ?_) | (with_reducible refine Below.setCell ?_ ?_ _) | (with_reducible exact Nat.le_refl _) | omega | (simp only [World.size_alloc, World.size_setCell, World.size_drew]; omega) | (simp; omega) | (simp; done))))⟩
  case round =>
    obtain ⟨k, hk, rfl, HJ, B⟩ := hrel
    by_cases hlt : k < n
    · obtain ⟨b, off, rfl, q1⟩ := HP.out.mono B.out k (by rw [HE.out]; exact hlt)
      have z0 := HZ.out k hlt
      obtain ⟨s, hs⟩ : ∃ s, ss.getD k ByteArray.empty = s := ⟨_, rfl⟩
      rw [hs] at q1 z0
      have SE := Lib.hid hs
      clear hs
      by_cases h1 : s.size ≤ 100
      · have t1 : decide ((100 : Int) < (s.size : Int)) = false := decide_eq_false (by omega)
        have H1 := Lib.hid h1
        clear h1
        go_wp2
        go_roundw
        case rel =>
          refine ⟨k + 1, by omega, by go_num, Lib.hid (fun j hj => ?_), B⟩
          rcases Nat.lt_or_ge j k with h | h
          · exact HJ.out j h
          · rw [show j = k by omega, SE.out]; exact H1.out
        case measure => simp [intOf]; omega
      · have t1 : decide ((100 : Int) < (s.size : Int)) = true := decide_eq_true (by omega)
        have H1 := Lib.hid h1
        clear h1
        go_wp2
        go_ret
        exact ⟨⟨false, rfl, ⟨(fun h => by cases h), fun h => absurd ((HS.out.1 h).2 k hlt) (by rw [SE.out]; exact H1.out)⟩⟩, B.out⟩
    · have hkn : k = n := by omega
      by_cases h60 : n ≤ 60
      · have t1 : decide ((n : Int) ≤ 60) = true := decide_eq_true (by omega)
        go_wp2
        go_ret
        exact ⟨⟨true, rfl, ⟨fun _ => HS.out.2 ⟨h60, fun j hj => HJ.out j (by omega)⟩, fun _ => rfl⟩⟩, B.out⟩
      · have t1 : decide ((n : Int) ≤ 60) = false := decide_eq_false (by omega)
        go_wp2
        go_ret
        exact ⟨⟨false, rfl, ⟨(fun h => by cases h), fun h => absurd (HS.out.1 h).1 h60⟩⟩, B.out⟩
end
section
open Go.RowKit
section
variable {α : Type} {P : Program}
theorem flat_len {k : Nat} {enc : α → List Value} (hk : ∀ x, (enc x).length = k) (l : List α) : (l.flatMap enc).length = l.length * k := by
  induction l with
  | nil => simp
  | cons x l ih => simp only [List.flatMap_cons, List.length_append, hk, ih, List.length_cons, Nat.add_mul]; omega
theorem flat_at {k : Nat} {enc : α → List Value} (hk : ∀ x, (enc x).length = k) (l : List α) (i j : Nat) (hj : j < k) : (l.flatMap enc)[i * k + j]? = (l[i]?).bind fun x => (enc x)[j]? := by
  induction l generalizing i with
  | nil => simp
  | cons x l ih =>
    cases i with
    | zero => simp only [List.flatMap_cons, Nat.zero_mul, Nat.zero_add]; rw [List.getElem?_append_left (by rw [hk]; exact hj)]; simp
    | succ i =>
      rw [List.flatMap_cons, List.getElem?_append_right (by rw [hk, Nat.add_mul]; omega), hk, List.getElem?_cons_succ, ← ih i]
      congr 1
      rw [Nat.add_mul]; omega
/-- A slice of structs in memory, nil included. -/
def RowsA (k : Nat) (enc : α → List Value) (W : World) (a : Option Addr) (l : List α) : Prop :=
  ∀ i x, l[i]? = some x → ∃ b off, a = some ⟨b, off, none⟩ ∧ ∀ j u, (enc x)[j]? = some u → W.cell? ⟨b, off + i * k + j, none⟩ = some u
theorem RowsA.mono {k : Nat} {enc : α → List Value} {W W' : World} {a : Option Addr} {l : List α} (h : RowsA k enc W a l) (hb : Below W.heap.size W W') : RowsA k enc W' a l := by
  intro i x hx
  obtain ⟨b, off, e, h1⟩ := h i x hx
  exact ⟨b, off, e, fun j u hu => keep (h1 j u hu) hb⟩
theorem RowsA.nil (k : Nat) (enc : α → List Value) (W : World) (a : Option Addr) : RowsA k enc W a [] := fun i x h => by simp at h
/-- A row of structs of the call's own, from block B on. -/
def OwnR (e k : Nat) (enc : α → List Value) (W : World) (B : Nat) (v : Value) (l : List α) : Prop := W.ownsRow B e k v l.length (l.flatMap enc)
theorem OwnR.nil (e k : Nat) (enc : α → List Value) (W : World) (B : Nat) : OwnR e k enc W B (.slice none 0 0) [] := World.ownsRow_nil W B e k
theorem OwnR.lt {e k : Nat} {enc : α → List Value} {W : World} {B : Nat} {v : Value} {l : List α} (h : OwnR e k enc W B v l) : ∀ g, v.ownBlock = some g → B ≤ g := fun g hg => (own_lt h g hg).1
theorem OwnR.below {e k : Nat} {enc : α → List Value} {W W' : World} {B : Nat} {v : Value} {l : List α} (h : OwnR e k enc W B v l) (hb : Below W.heap.size W W') : OwnR e k enc W' B v l := own_below h hb
theorem OwnR.alloc {e k : Nat} {enc : α → List Value} {W : World} {B : Nat} {v : Value} {l : List α} (h : OwnR e k enc W B v l) (o : Obj) : OwnR e k enc (W.alloc o) B v l := own_alloc h o
theorem OwnR.drew {e k : Nat} {enc : α → List Value} {W : World} {B : Nat} {v : Value} {l : List α} (h : OwnR e k enc W B v l) : OwnR e k enc W.drew B v l := own_keep h fun _ _ _ => rfl
theorem OwnR.far {e k : Nat} {enc : α → List Value} {W : World} {B : Nat} {v : Value} {l : List α} (h : OwnR e k enc W B v l) {p : Addr} (hp : p.block < B) (u : Value) : OwnR e k enc (W.setCell p u) B v l :=
  own_keep h fun g hg _ => Below.heap_setCell W p u g (by omega)
theorem OwnR.view {e k : Nat} {enc : α → List Value} (hk : ∀ x, (enc x).length = k) {W : World} {B : Nat} {v : Value} {l : List α} (h : OwnR e k enc W B v l) : ∃ a cap, v = .slice a l.length cap ∧ l.length ≤ cap ∧ RowsA k enc W a l := by
  obtain ⟨a, cap, rfl, hc, h1⟩ := own_view h
  refine ⟨a, cap, rfl, hc, fun i x hx => ?_⟩
  have hi : i < l.length := by
    rcases Nat.lt_or_ge i l.length with hi | hi
    · exact hi
    · rw [List.getElem?_eq_none hi] at hx; cases hx
  rcases Nat.eq_zero_or_pos k with h0 | h0
  · -- no cells at all: any address does, but there is one only where the row has a block
    rcases h.2 with ⟨_, hz⟩ | ⟨g, cap', cur, e', _⟩
    · omega
    · injection e' with e1
      exact ⟨g, 0, e1, fun j u hu => by have := (List.getElem?_eq_some_iff.1 hu).1; rw [hk] at this; omega⟩
  · obtain ⟨g, rfl, -⟩ := h1 (i * k) (by exact Nat.mul_lt_mul_of_pos_right hi h0)
    refine ⟨g, 0, rfl, fun j u hu => ?_⟩
    have hj : j < k := by have := (List.getElem?_eq_some_iff.1 hu).1; rwa [hk] at this
    have hp : i * k + j < l.length * k := by
      have : (i + 1) * k ≤ l.length * k := Nat.mul_le_mul_right k hi
      rw [Nat.add_mul] at this; omega
    obtain ⟨g', e', h2⟩ := h1 (i * k + j) hp
    injection e' with e1; injection e1 with e1
    subst e1
    rw [Nat.zero_add]
    exact h2 u (by rw [flat_at hk l i j hj, hx]; exact hu)
theorem RowsA.rowfar {k : Nat} {enc : α → List Value} {W : World} {a : Option Addr} {l : List α} {g : Nat} (h : RowsA k enc W a l) (hg : ∀ p, a = some p → p.block ≠ g) (cs : Array Value) : RowsA k enc (W.setRow g cs) a l := by
  intro i x hx
  obtain ⟨b, off, e, h1⟩ := h i x hx
  refine ⟨b, off, e, fun j u hu => ?_⟩
  have h2 := h1 j u hu
  have e2 : (W.setRow g cs).heap[b]? = W.heap[b]? := setRow_other W g b cs (hg _ e)
  unfold World.cell? at h2 ⊢
  simp only at h2 ⊢
  rw [e2]; exact h2
theorem RowsA.far {k : Nat} {enc : α → List Value} {W : World} {a : Option Addr} {l : List α} (h : RowsA k enc W a l) {p : Addr} (hg : ∀ q, a = some q → q.block ≠ p.block) (u : Value) : RowsA k enc (W.setCell p u) a l := by
  intro i x hx
  obtain ⟨b, off, e, h1⟩ := h i x hx
  refine ⟨b, off, e, fun j v hv => ?_⟩
  have h2 := h1 j v hv
  have e2 : (W.setCell p u).heap[b]? = W.heap[b]? := Below.heap_setCell W p u b (hg _ e)
  unfold World.cell? at h2 ⊢
  simp only at h2 ⊢
  rw [e2]; exact h2
theorem OwnR.block {e k : Nat} {enc : α → List Value} {W : World} {B n c : Nat} {a : Option Addr} {l : List α} (h : OwnR e k enc W B (.slice a n c) l) : ∀ p, a = some p → B ≤ p.block := fun p hp => h.lt p.block (by subst hp; rfl)
theorem src_rows {t e k : Nat} {enc : α → List Value} (ht : P.underlying t = some (.slice e)) (hk : ∀ x, (enc x).length = k) (hk0 : 0 < k) (h1 : ∀ x, ∀ v ∈ enc x, v.oneCell' = true) {W : World} {a : Option Addr} {l : List α} {cap : Nat} (h : RowsA k enc W a l) :
    Src P k t (.slice a l.length cap) l.length (l.flatMap enc) W := by
  have hone : ∀ u ∈ l.flatMap enc, u.oneCell' = true := fun u hu => by obtain ⟨x, _, hx⟩ := List.mem_flatMap.1 hu; exact h1 x u hx
  cases l with
  | nil =>
    cases a with
    | none => exact Src.ofNil W ht cap
    | some p => exact Src.ofSlice W ht p 0 cap [] (by simp) (fun j u hu => by simp at hu) (fun u hu => by cases hu)
  | cons x l =>
    obtain ⟨b, off, rfl, -⟩ := h 0 x rfl
    refine Src.ofSlice W ht ⟨b, off, none⟩ (x :: l).length cap _ (flat_len hk _) (fun j u hu => ?_) hone
    have hd : j = j / k * k + j % k := by rw [Nat.mul_comm]; exact (Nat.div_add_mod j k).symm
    rw [hd, flat_at hk _ _ _ (Nat.mod_lt _ hk0)] at hu
    cases hx : (x :: l)[j / k]? with
    | none => rw [hx] at hu; simp at hu
    | some y =>
      rw [hx] at hu
      obtain ⟨b', off', e', h2⟩ := h _ _ hx
      injection e' with e1; injection e1 with e1 e2
      subst e1; subst e2
      rw [add_off]
      conv => lhs; rw [hd, ← Nat.add_assoc]
      exact h2 _ u hu
/-- What is appended to a row of the call's own: the run, and the longer row. -/
theorem run_app_rows {t tx ty e k bytes : Nat} {z : Value} {enc : α → List Value} (ht : P.underlying t = some (.slice e)) (htx : P.underlying tx = some (.slice e)) (hinfo : (P.info? e).map (fun i => (i.zero, i.size, i.bytes)) = some (some z, k, bytes)) (hz : z.cells.size = k) (hk0 : 0 < k) (hb0 : bytes ≤ 1024)
    (hk : ∀ x, (enc x).length = k) (h1 : ∀ x, ∀ v ∈ enc x, v.oneCell' = true) (w : World) (B : Nat) (v : Value) (l : List α) (hown : OwnR e k enc w B v l) (a : Option Addr) (cap : Nat) (m : List α) (hm : RowsA k enc w a m)
    (hl : l.length ≤ 1000000000) (hml : m.length ≤ 1000000000) (hB : B ≤ w.heap.size) :
    ∃ b n c w', (Builtin.append_ #[t, tx] ty #[v, .slice a m.length cap]).run P w = .ok (.slice b n c) w' ∧ OwnR e k enc w' B (.slice b n c) (l ++ m) ∧ Below B w w' := by
  obtain ⟨i0, hi, hz0, hz1, hz2⟩ := info_parts hinfo
  have hs := src_rows (cap := cap) htx hk hk0 h1 hm
  have hbb : (l.length + m.length) * bytes ≤ 2000000000 * 1024 := Nat.mul_le_mul (by omega) hb0
  obtain ⟨v', w', hr, h2, h3⟩ := run_app_src (P := P) w B t tx ty e i0 z ht hi hz0 (by rw [hz1]; exact hz) (by rw [hz1]; exact hk0) v l.length (l.flatMap enc) (by rw [hz1]; exact hown) (.slice a m.length cap) m.length (m.flatMap enc) (by rw [hz1]; exact hs) (by unfold maxLen; omega) (by rw [hz2]; omega) hB
  have ho : OwnR e k enc w' B v' (l ++ m) := by
    unfold OwnR
    rw [List.length_append, List.flatMap_append, ← hz1]
    exact h2
  obtain ⟨b2, c2, e2, -, -⟩ := ho.view hk
  subst e2
  exact ⟨b2, _, c2, w', hr, ho, grown_below (Below.refl _ _) h3 (fun g hg => (own_lt hown g hg).1) hB⟩
/-- One struct, laid in a block, as a source. -/
theorem rows_one {k e : Nat} {enc : α → List Value} (w : World) (x : α) : RowsA k enc (w.alloc (.cells (enc x).toArray e)) (some ⟨w.heap.size, 0, none⟩) [x] := by
  intro i y hy
  have hi : i = 0 := by have := (List.getElem?_eq_some_iff.1 hy).1; simpa using this
  subst hi
  obtain rfl : x = y := by simpa using hy
  refine ⟨w.heap.size, 0, rfl, fun j u hu => ?_⟩
  have h := (Blk.new w e (enc x).toArray).cell j
  rw [show 0 + 0 * k + j = j by omega, h]
  simpa using hu
end
end
section
/-- A key and its number. -/
abbrev Cn := ByteArray × Int
def moreL : List Cn → ByteArray → List Cn
  | [], key => [(key, 1)]
  | c :: r, key => if c.1 = key then (c.1, min (c.2 + 1) 15) :: r else c :: moreL r key
def numL : List Cn → ByteArray → Int
  | [], _ => 0
  | c :: r, q => if c.1 = q then c.2 else numL r q
def keysL (L : List Cn) : List ByteArray := L.map (·.1)
def halveC (L : List Cn) : List Cn := L.map fun c => (c.1, c.2 / 2)
theorem numL_more (L : List Cn) (key q : ByteArray) : numL (moreL L key) q = if key = q then min (numL L q + 1) 15 else numL L q := by
  induction L with
  | nil =>
    simp only [moreL, numL]
    split
    · rfl
    · rfl
  | cons c r ih =>
    unfold moreL
    by_cases h : c.1 = key
    · rw [if_pos h]
      simp only [numL]
      by_cases e : key = q
      · rw [if_pos (h.trans e), if_pos (h.trans e), if_pos e]
      · have : ¬ c.1 = q := fun h2 => e (h.symm.trans h2)
        rw [if_neg this, if_neg this, if_neg e]
    · rw [if_neg h]
      simp only [numL]
      by_cases e : c.1 = q
      · have : ¬ key = q := fun h2 => h (e.trans h2.symm)
        rw [if_pos e, if_pos e, if_neg this]
      · rw [if_neg e, if_neg e, ih]
theorem numL_halve (L : List Cn) (q : ByteArray) : numL (halveC L) q = numL L q / 2 := by
  induction L with
  | nil => rfl
  | cons c r ih =>
    simp only [halveC, List.map_cons, numL]
    split
    · rfl
    · exact ih
theorem keysL_more (L : List Cn) (key : ByteArray) : ∀ k, k ∈ keysL (moreL L key) ↔ k ∈ keysL L ∨ k = key := by
  induction L with
  | nil => intro k; simp [moreL, keysL]
  | cons c r ih =>
    intro k
    unfold moreL
    by_cases h : c.1 = key
    · rw [if_pos h]
      simp only [keysL, List.map_cons, List.mem_cons, List.mem_map]
      constructor
      · exact fun h => Or.inl h
      · rintro (h2 | h2)
        · exact h2
        · exact Or.inl (h2.trans h.symm)
    · rw [if_neg h]
      have := ih k
      simp only [keysL] at this
      simp only [keysL, List.map_cons, List.mem_cons]
      rw [this]
      constructor
      · rintro (h | h | h)
        · exact Or.inl (Or.inl h)
        · exact Or.inl (Or.inr h)
        · exact Or.inr h
      · rintro ((h | h) | h)
        · exact Or.inl h
        · exact Or.inr (Or.inl h)
        · exact Or.inr (Or.inr h)
theorem keysL_halve (L : List Cn) : keysL (halveC L) = keysL L := by simp [keysL, halveC]
/-- All keys are different. -/
def Diff (L : List Cn) : Prop := (keysL L).Nodup
theorem Diff.more {L : List Cn} (h : Diff L) (key : ByteArray) : Diff (moreL L key) := by
  induction L with
  | nil => simp [Diff, moreL, keysL]
  | cons c r ih =>
    unfold Diff keysL at h
    rw [List.map_cons, List.nodup_cons] at h
    have ih := ih h.2
    unfold moreL
    by_cases e : c.1 = key
    · rw [if_pos e]; unfold Diff keysL; rw [List.map_cons, List.nodup_cons]; exact h
    · rw [if_neg e]; unfold Diff keysL; rw [List.map_cons, List.nodup_cons]
      refine ⟨fun hm => ?_, ih⟩
      rcases (keysL_more r key c.1).1 hm with h2 | h2
      · exact h.1 h2
      · exact e h2
theorem Diff.halve {L : List Cn} (h : Diff L) : Diff (halveC L) := by unfold Diff; rw [keysL_halve]; exact h
theorem Diff.num {L : List Cn} (h : Diff L) {i : Nat} (hi : i < L.length) : numL L L[i].1 = L[i].2 := by
  induction L generalizing i with
  | nil => simp at hi
  | cons c r ih =>
    unfold Diff keysL at h
    rw [List.map_cons, List.nodup_cons] at h
    match i with
    | 0 => simp [numL]
    | i + 1 =>
      have hi' : i < r.length := by simpa using hi
      simp only [List.getElem_cons_succ, numL]
      have hne : ¬ c.1 = r[i].1 := fun e => h.1 (by rw [e]; exact List.mem_map.2 ⟨r[i], List.getElem_mem _, rfl⟩)
      rw [if_neg hne]
      exact ih h.2 hi'
/-- Do two keys share a cell? -/
def Sh (W : Nat) (p q : Nat → Nat) : Prop := ∃ r, r < 4 ∧ p r % W = q r % W
/-- What holds of counted keys, and of the cells of a sketch. -/
structure Cnts (W : Nat) (P : ByteArray → Nat → Nat) (l : List Int) (L : List Cn) : Prop where
  ge : ∀ q, numL L q ≤ cnt W (P q) l
  eq : ∀ q, (∀ k ∈ keysL L, k ≠ q → ¬ Sh W (P q) (P k)) → cnt W (P q) l = numL L q
theorem cntK_congr (W : Nat) (p : Nat → Nat) (l l' : List Int) : ∀ r, (∀ s, s < r → l'.getD (idx W p s) 0 = l.getD (idx W p s) 0) → cntK W p l' r = cntK W p l r
  | 0, _ => rfl
  | r + 1, h => by
    have ih := cntK_congr W p l l' r (fun s hs => h s (by omega))
    have h1 := h r (by omega)
    simp only [cntK]
    rw [ih, h1]
theorem cnt_far {W : Nat} (p q : Nat → Nat) (l : List Int) (hW : 0 < W) (h : ¬ Sh W q p) : cnt W q (addL W p l) = cnt W q l := by
  refine cntK_congr W q l _ 4 fun s hs => addL_far W p l _ fun r hr e => ?_
  obtain ⟨e1, e2⟩ := idx_row p q hW e
  subst e1
  exact h ⟨r, hr, e2.symm⟩
theorem Cnts.add {W : Nat} {P : ByteArray → Nat → Nat} {l : List Int} {L : List Cn} (h : Cnts W P l L) (key : ByteArray) (hW : 0 < W) (hl : l.length = 4 * W) : Cnts W P (addL W (P key) l) (moreL L key) where
  ge := fun q => by
    rw [numL_more]
    have := h.ge q
    by_cases e : key = q
    · subst e; rw [if_pos rfl, cnt_addL _ _ hW hl]; omega
    · rw [if_neg e]
      have := (cnt_other (P key) (P q) l hW hl).1
      omega
  eq := fun q hq => by
    rw [numL_more]
    have h1 := h.eq q fun k hk hne => hq k ((keysL_more L key k).2 (Or.inl hk)) hne
    by_cases e : key = q
    · subst e; rw [if_pos rfl, cnt_addL _ _ hW hl, h1]
    · rw [if_neg e, cnt_far _ _ _ hW (hq key ((keysL_more L key key).2 (Or.inr rfl)) e), h1]
theorem Cnts.halve {W : Nat} {P : ByteArray → Nat → Nat} {l : List Int} {L : List Cn} (h : Cnts W P l L) (hb : ∀ j, l.getD j 0 ≤ 15) : Cnts W P (halve l) (halveC L) where
  ge := fun q => by
    rw [numL_halve, cnt_halve _ _ _ (fun r _ => hb _)]
    have := h.ge q
    omega
  eq := fun q hq => by
    rw [keysL_halve] at hq
    rw [numL_halve, cnt_halve _ _ _ (fun r _ => hb _), h.eq q hq]
theorem Cnts.start (W : Nat) (P : ByteArray → Nat → Nat) (hW : 0 < W) : Cnts W P (List.replicate (4 * W) 0) [] := by
  have key : ∀ q, cnt W (P q) (List.replicate (4 * W) 0) = 0 := fun q => by
    have a := cnt_cell W (P q) (List.replicate (4 * W) 0) (r := 0) (by decide)
    have e : (List.replicate (4 * W) (0 : Int)).getD (idx W (P q) 0) 0 = 0 := by
      rw [List.getD_eq_getElem?_getD, List.getElem?_replicate]; split <;> rfl
    have b := cnt_ge W (P q) (List.replicate (4 * W) 0) 0 (by decide) fun r _ => by
      rw [List.getD_eq_getElem?_getD, List.getElem?_replicate]; split <;> simp
    rw [e] at a
    omega
  exact ⟨fun q => by rw [key]; exact Int.le_refl _, fun q _ => key q⟩
theorem moreL_len (L : List Cn) (key : ByteArray) : (moreL L key).length ≤ L.length + 1 := by
  induction L with
  | nil => simp [moreL]
  | cons c r ih =>
    unfold moreL
    split
    · simp
    · simp only [List.length_cons]; omega
/-- All numbers are small. -/
def Small (L : List Cn) : Prop := ∀ c ∈ L, 0 ≤ c.2 ∧ c.2 ≤ 15
theorem Small.more {L : List Cn} (h : Small L) (key : ByteArray) : Small (moreL L key) := by
  induction L with
  | nil => intro c hc; simp [moreL] at hc; subst hc; simp
  | cons c r ih =>
    have h1 := h c (List.mem_cons_self ..)
    have ih := ih fun x hx => h x (List.mem_cons_of_mem _ hx)
    unfold moreL
    split
    · intro x hx
      rcases List.mem_cons.1 hx with e | hx
      · subst e; simp only; omega
      · exact h x (List.mem_cons_of_mem _ hx)
    · intro x hx
      rcases List.mem_cons.1 hx with e | hx
      · subst e; exact h1
      · exact ih x hx
theorem Small.halve {L : List Cn} (h : Small L) : Small (halveC L) := by
  intro x hx
  obtain ⟨c, hc, rfl⟩ := List.mem_map.1 hx
  have := h c hc
  simp only; omega
end
section
open Go.RowKit
abbrev CT : Nat := 49
abbrev CS : Nat := 46
def encC (c : Cn) : List Value := [.string c.1, .int .i64 c.2]
theorem encC_len (c : Cn) : (encC c).length = 2 := rfl
theorem encC_one (c : Cn) : ∀ v ∈ encC c, v.oneCell' = true := by
  intro v hv
  simp [encC] at hv
  rcases hv with rfl | rfl <;> rfl
abbrev cn0 : Cn := (ByteArray.empty, 0)
theorem moreL_hit (key : ByteArray) : ∀ (L : List Cn) (k : Nat), k < L.length → (∀ j, j < k → (L.getD j cn0).1 ≠ key) → (L.getD k cn0).1 = key → moreL L key = L.set k ((L.getD k cn0).1, min ((L.getD k cn0).2 + 1) 15)
  | [], k, h, _, _ => absurd h (by simp)
  | c :: r, 0, _, _, h2 => by
    have h : c.1 = key := by simpa using h2
    unfold moreL
    rw [if_pos h]
    simp
  | c :: r, k + 1, h, h1, h2 => by
    have h0 : ¬ c.1 = key := by simpa using h1 0 (by omega)
    have ih := moreL_hit key r k (by simpa using h) (fun j hj => by have := h1 (j + 1) (by omega); simpa using this) (by simpa using h2)
    unfold moreL
    rw [if_neg h0, ih]
    simp
theorem moreL_miss (key : ByteArray) : ∀ (L : List Cn), (∀ j, j < L.length → (L.getD j cn0).1 ≠ key) → moreL L key = L ++ [(key, 1)]
  | [], _ => rfl
  | c :: r, h1 => by
    have h0 : ¬ c.1 = key := by simpa using h1 0 (by simp)
    have ih := moreL_miss key r (fun j hj => by have := h1 (j + 1) (by simpa using hj); simpa using this)
    unfold moreL
    rw [if_neg h0, ih]
    rfl
/-- The world is as it was; opaque to the walk. -/
def SameW (w wr : World) : Prop := wr = w
/-- A row of counted keys of the call's own. -/
def OwnC (W : World) (B : Nat) (v : Value) (L : List Cn) : Prop := OwnR CT 2 encC W B v L
theorem OwnC.at {W : World} {B : Nat} {a : Option Addr} {n cap : Nat} {L : List Cn} (h : OwnC W B (.slice a n cap) L) {i : Nat} (hi : i < L.length) :
    ∃ g, a = some ⟨g, 0, none⟩ ∧ W.cell? ⟨g, i * 2, none⟩ = some (.string (L.getD i cn0).1) ∧ W.cell? ⟨g, i * 2 + 1, none⟩ = some (.int .i64 (L.getD i cn0).2) ∧ W.frozen? ⟨g, i * 2 + 1, none⟩ = false := by
  rcases h.2 with ⟨-, h1⟩ | ⟨g, cap', cur, e, -, hg, -⟩
  · rw [h1] at hi; simp at hi
  · injection e with e1 e2 e3
    subst e1; subst e2; subst e3
    have hx : L[i]? = some (L.getD i cn0) := by rw [List.getElem?_eq_getElem hi, getD_at cn0 hi]
    refine ⟨g, rfl, ?_, ?_, h.frozenAt _⟩
    · rw [World.ownsRow.cellAt h (i * 2) (by omega)]
      have := flat_at encC_len L i 0 (by decide)
      rw [hx] at this
      exact this
    · rw [World.ownsRow.cellAt h (i * 2 + 1) (by omega)]
      have := flat_at encC_len L i 1 (by decide)
      rw [hx] at this
      exact this
theorem flat_set1 : ∀ (L : List Cn) (i : Nat) (y : Int), i < L.length → (L.flatMap encC).set (i * 2 + 1) (.int .i64 y) = (L.set i ((L.getD i cn0).1, y)).flatMap encC
  | [], i, y, h => absurd h (by simp)
  | c :: r, 0, y, _ => by simp [encC]
  | c :: r, i + 1, y, h => by
    have ih := flat_set1 r i y (by simpa using h)
    have e : (i + 1) * 2 + 1 = (i * 2 + 1) + 1 + 1 := by omega
    rw [e]
    simpa [encC] using ih
theorem OwnC.set {W : World} {B g : Nat} {n cap : Nat} {L : List Cn} (h : OwnC W B (.slice (some ⟨g, 0, none⟩) n cap) L) {i : Nat} (hi : i < L.length) (y : Int) :
    OwnC (W.setCell ⟨g, i * 2 + 1, none⟩ (.int .i64 y)) B (.slice (some ⟨g, 0, none⟩) n cap) (L.set i ((L.getD i cn0).1, y)) ∧ W.grownBy (W.setCell ⟨g, i * 2 + 1, none⟩ (.int .i64 y)) (some g) := by
  have hn : n = L.length := by
    rcases h.2 with ⟨h', _⟩ | ⟨g', cap', cur, h', _⟩
    · simp at h'
    · injection h'
  subst hn
  have := World.ownsRow.stored h (i * 2 + 1) (.int .i64 y)
  refine ⟨?_, this.2⟩
  unfold OwnC OwnR
  rw [← flat_set1 L i y hi, List.length_set]
  exact this.1
theorem grown_trans {w w1 w2 : World} {r : Option Nat} (h : w.grownBy w1 r) (k : w1.grownBy w2 r) : w.grownBy w2 r :=
  ⟨k.os.trans h.os, k.tape.trans h.tape, k.output.trans h.output, Nat.le_trans h.size k.size, fun b hb hr => (k.block b (Nat.lt_of_lt_of_le hb h.size) hr).trans (h.block b hb hr)⟩
theorem grown_alloc (w : World) (o : Obj) (r : Option Nat) : w.grownBy (w.alloc o) r := ⟨rfl, rfl, rfl, by simp, fun b hb _ => Below.heap_alloc w o b hb⟩
theorem infoC : (Tryd.prog.info? CT).map (fun i => (i.zero, i.size, i.bytes)) = some (some (.agg #[.string ⟨#[]⟩, .int .i64 0]), 2, 24) := by kernel_rfl
theorem run_appC (w : World) (B : Nat) (v : Value) (L : List Cn) (own : OwnC w B v L) (g cap : Nat) (c : Cn) (hm : RowsA 2 encC w (some ⟨g, 0, none⟩) [c]) (hL : L.length ≤ 1000000) (hB : B ≤ w.heap.size) :
    ∃ b c' w', (Builtin.append_ #[CS, CS] CS #[v, .slice (some ⟨g, 0, none⟩) 1 cap]).run Tryd.prog w = .ok (.slice b (L.length + 1) c') w' ∧ OwnC w' B (.slice b (L.length + 1) c') (L ++ [c]) ∧ w.grownBy w' v.ownBlock := by
  obtain ⟨i0, hi, hz0, hz1, hz2⟩ := info_parts infoC
  have hs := src_rows (P := Tryd.prog) (cap := cap) (t := CS) Tryd.underlying46 encC_len (by decide) encC_one hm
  obtain ⟨v', w', hr, h2, h3⟩ := run_app_src (P := Tryd.prog) w B CS CS CS CT i0 _ Tryd.underlying46 hi hz0 (by rw [hz1]; rfl) (by rw [hz1]; decide) v L.length (L.flatMap encC) (by rw [hz1]; exact own) (.slice (some ⟨g, 0, none⟩) 1 cap) 1 ([c].flatMap encC) (by rw [hz1]; exact hs) (by unfold maxLen; omega) (by rw [hz2]; omega) hB
  have ho : OwnC w' B v' (L ++ [c]) := by
    unfold OwnC OwnR
    rw [List.length_append, List.flatMap_append, ← hz1]
    exact h2
  obtain ⟨b2, c2, e2, -, -⟩ := OwnR.view encC_len ho
  subst e2
  rw [List.length_append] at hr ho
  exact ⟨b2, c2, w', hr, ho, h3⟩
theorem wpList_appC {ops : Array Oper} {rest : List Oper} {o : Oper} {a : Act} {Q : Exit → Act → World → Prop} {w : World} (hgd : o.guard = none) (s x : Operand)
    (ho : o.op = .call { callee := .builtin .append, args := #[s, x], argTypes := #[CS, CS] }) (hty : o.type = CS) (B : Nat) (v : Value) (L : List Cn) (hs : a.eval s = v) (own : OwnC w B v L) (g cap : Nat) (c : Cn)
    (hx : a.eval x = .slice (some ⟨g, 0, none⟩) 1 cap) (hm : RowsA 2 encC w (some ⟨g, 0, none⟩) [c]) (hL : L.length ≤ 1000000) (hB : B ≤ w.heap.size)
    (hK : ∀ b c' w', OwnC w' B (.slice b (L.length + 1) c') (L ++ [c]) → w.grownBy w' v.ownBlock → wpList Tryd.prog ops Q rest (a.put o.dst (.slice b (L.length + 1) c')) w') :
    wpList Tryd.prog ops Q (o :: rest) a w := by
  obtain ⟨b, c', w', hr, h1, h2⟩ := run_appC w B v L own g cap c hm hL hB
  refine wpList_plain hgd fun K hK2 => ?_
  unfold Oper.wp execOp
  simp only [ho, hty, resolve, invoke, builtin, Sem.run_bind, Sem.run_pure, Result.andThen_ok, List.map_toArray, List.map_cons, List.map_nil, hs, hx, hr]
  exact hK2 _ _ (hK _ _ _ h1 h2)
set_option maxRecDepth 100000 in
set_option maxHeartbeats 1000000 in
theorem more_any (L : List Cn) (v : Value) (B : Nat) (key : ByteArray) (w : World) (own : OwnC w B v L) (hB : B ≤ w.heap.size) (hL : L.length ≤ 1000) (sm : Small L) :
    Calls Tryd.prog 28 #[v, .string key] w fun e w' => (∃ v', e = .returned v' ∧ OwnC w' B v' (moreL L key)) ∧ w.grownBy w' v.ownBlock := by
  have OW := Lib.hid own
  obtain ⟨a, cap, rfl, -, -⟩ := OwnR.view encC_len own
  have HIT := Lib.hid (moreL_hit key L)
  have MISS := Lib.hid (moreL_miss key L)
  have SM := Lib.hid (show ∀ k, k < L.length → 0 ≤ (L.getD k cn0).2 ∧ (L.getD k cn0).2 ≤ 15 from fun k hk => by rw [getD_at cn0 hk]; exact sm _ (List.getElem_mem hk))
  obtain ⟨n, hn⟩ : ∃ n, L.length = n := ⟨_, rfl⟩
  rw [hn] at SM HIT MISS ⊢
  have OW1 := Lib.hid (show OwnC w B (.slice a n cap) L by rw [← hn]; exact own)
  have HE := Lib.hid hn
  have LE := Lib.hid hL
  have HB := Lib.hid hB
  have n1 : n ≤ 1000 := by omega
  clear own sm hB OW hL hn
  go_enter Tryd.func28, Tryd.ntmps28
  go_wp2
  go_loopw [5] (fun u5 wr => ∃ k : Nat, k ≤ n ∧ u5 = .int .i64 k ∧ Hid (∀ j, j < k → (L.getD j cn0).1 ≠ key) ∧ SameW w wr) (fun u5 _ => n - (intOf u5).toNat)
  case atStart => exact ⟨0, by omega, rfl, Lib.hid (fun j h => absurd h (by omega)), (rfl : w = w)⟩
  case round =>
    obtain ⟨k, hk, rfl, HJ, HW⟩ := hrel
    have OWr := Lib.hid (show OwnC wr B (.slice a n cap) L by rw [show wr = w from HW]; exact OW1.out)
    have HW2 := Lib.hid HW
    have HBr := Lib.hid (show B ≤ wr.heap.size by rw [show wr = w from HW]; exact HB.out)
    by_cases hlt : k < n
    · obtain ⟨g, rfl, q0, q1, q2⟩ := OWr.out.at (i := k) (by rw [HE.out]; exact hlt)
      have sk := SM.out k hlt
      have hit := HIT.out k hlt HJ.out
      have st := OWr.out.set (i := k) (by rw [HE.out]; exact hlt)
      obtain ⟨kk, hkk⟩ : ∃ x, (L.getD k cn0).1 = x := ⟨_, rfl⟩
      obtain ⟨x, hx⟩ : ∃ x, (L.getD k cn0).2 = x := ⟨_, rfl⟩
      rw [hkk] at q0 hit st
      rw [hx] at q1 sk hit
      have HK := Lib.hid hkk
      have k0 : (0 : Int) ≤ (k : Int) := by omega
      have kn : (k : Int) < (n : Int) := by omega
      by_cases e : kk = key
      · have t2 : (kk.toList == key.toList) = true := by rw [e]; exact beq_self_eq_true _
        have HI := Lib.hid (hit e)
        have ST := Lib.hid st
        have wx : IntKind.i64.wrap (x + 1) = x + 1 := by rw [IntKind.wrap_i64]; omega
        clear hit st hkk hx
        go_wp2
        go_ret
        obtain rfl : wr = w := HW2.out
        exact ⟨⟨_, rfl, by rw [HI.out]; exact (ST.out _).1⟩, (ST.out _).2⟩
      · have t2 : (kk.toList == key.toList) = false := beq_eq_false_iff_ne.2 (fun h => e (by rw [ByteArray.toList_eq, ByteArray.toList_eq] at h; exact ByteArray.ext (Array.toList_inj.mp h)))
        have HEE := Lib.hid e
        clear hit st hkk hx e
        go_wp2
        go_roundw
        case rel =>
          refine ⟨k + 1, by omega, by go_num, Lib.hid (fun j hj => ?_), HW2.out⟩
          rcases Nat.lt_or_ge j k with h | h
          · exact HJ.out j h
          · rw [show j = k by omega, HK.out]; exact HEE.out
        case measure => simp [intOf]; omega
    · have hkn : k = n := by omega
      subst hkn
      have MS := Lib.hid (MISS.out HJ.out)
      have OA := Lib.hid (fun ob : Obj => (show OwnC (wr.alloc ob) B (.slice a k cap) L from OwnR.alloc OWr.out ob))
      go_wp2_with (at_builtin; go_loud (refine wpList_appC (by rfl) (.tmp 31) (.tmp 34) (by rfl) (by rfl) B _ L (by rfl) (OA.out _) _ _ (key, 1) (by rfl) (rows_one (enc := encC) wr (key, 1)) (by have := HE.out; have := LE.out; omega) (by have := HBr.out; simp; omega) ?_))
      intro b c w2 h1 h2
      rw [← MS.out] at h1
      go_wp2
      go_ret
      obtain rfl : wr = w := HW2.out
      exact ⟨⟨_, rfl, h1⟩, grown_trans (grown_alloc _ _ _) h2⟩
end
section
open Go.RowKit
theorem wpList_appN {ops : Array Oper} {rest : List Oper} {o : Oper} {a : Act} {Q : Exit → Act → World → Prop} {w : World} (hgd : o.guard = none) (s x : Operand)
    (ho : o.op = .call { callee := .builtin .append, args := #[s, x], argTypes := #[22, 22] }) (hty : o.type = 22) (g : Nat) (hs : a.eval s = .slice (some ⟨g, 0, none⟩) 0 0)
    (p : Option Addr) (cap : Nat) (l : List Int) (n : Nat) (hln : l.length = n) (hx : a.eval x = .slice p n cap) (hp : IntsA w p l) (hm : n ≤ 1000000) (hn : 0 < n) (hh : w.heap[g]? = some (.cells #[] 3 (0, 0)))
    (hK : ∀ b c w', n ≤ c → g ≤ b → RowI w' b l → (∀ k t cs, k ≠ g → Blk w k t cs → Blk w' k t cs) → (∀ B, B ≤ g → Below B w w') → wpList Tryd.prog ops Q rest (a.put o.dst (.slice (some ⟨b, 0, none⟩) n c)) w') :
    wpList Tryd.prog ops Q (o :: rest) a w := by
  subst hln
  obtain ⟨b, c, w', hr, h1, h2, h3, h4, h5⟩ := run_appN p cap l w hp hm hn g hh
  refine wpList_plain hgd fun K hK2 => ?_
  unfold Oper.wp execOp
  simp only [ho, hty, resolve, invoke, builtin, Sem.run_bind, Sem.run_pure, Result.andThen_ok, List.map_toArray, List.map_cons, List.map_nil, hs, hx, hr]
  exact hK2 _ _ (hK _ _ _ h1 h2 h3 h4 h5)
theorem cell_far {W : World} {p : Addr} {u v : Value} {b o : Nat} (h : W.cell? ⟨b, o, none⟩ = some v) (hne : b ≠ p.block) : (W.setCell p u).cell? ⟨b, o, none⟩ = some v := by
  have e := Below.heap_setCell W p u b hne
  unfold World.cell? at h ⊢
  simpa [e] using h
theorem far4 {X : World} {g i : Nat} {t : TypeId} {cs : Array Value} {b o : Nat} {v : Value} (hg : Blk X g t cs) (h : X.cell? ⟨b, o, none⟩ = some v) (h1 : g ≠ i) (h2 : b ≠ i) (u0 u1 u2 u3 : Value) :
    Blk ((((X.setCell ⟨i, 0, none⟩ u0).setCell ⟨i, 1, none⟩ u1).setCell ⟨i, 2, none⟩ u2).setCell ⟨i, 3, none⟩ u3) g t cs ∧ ((((X.setCell ⟨i, 0, none⟩ u0).setCell ⟨i, 1, none⟩ u1).setCell ⟨i, 2, none⟩ u2).setCell ⟨i, 3, none⟩ u3).cell? ⟨b, o, none⟩ = some v :=
  ⟨(((hg.far h1 _).far h1 _).far h1 _).far h1 _, cell_far (cell_far (cell_far (cell_far h h2) h2) h2) h2⟩
theorem IntsA.far1 {W : World} {g o : Nat} {l : List Int} (h : IntsA W (some ⟨g, o, none⟩) l) {p : Addr} (hne : g ≠ p.block) (u : Value) : IntsA (W.setCell p u) (some ⟨g, o, none⟩) l := fun k hk => by
  obtain ⟨b, off, e, h1⟩ := h k hk
  simp only [Option.some.injEq, Addr.mk.injEq, and_true] at e
  obtain ⟨rfl, rfl⟩ := e
  exact ⟨g, o, rfl, cell_far h1 hne⟩
theorem and_four {X : World} {g : Nat} {t : TypeId} {v0 v1 v2 v3 : Value} {P : Prop} (h : Blk X g t #[v0, v1, v2, v3] ∧ P) : (X.cell? ⟨g, 0, none⟩ = some v0 ∧ X.cell? ⟨g, 1, none⟩ = some v1 ∧ X.cell? ⟨g, 2, none⟩ = some v2 ∧ X.cell? ⟨g, 3, none⟩ = some v3) ∧ P := ⟨four h.1, h.2⟩
theorem ok_add {N : Nat} {S A : Int} {l : List Int} (ok : Ok (N : Int) S A l) (p : Nat → Nat) (N0 : 0 < N) (hl : l.length = 4 * N) : Ok (N : Int) S (nxA S A) (nxL N p S A l) := by
  have hc : ∀ j, j < l.length → okc (A + 1) ((addL N p l).getD j 0) := fun j hj => by
    have h1 := ok.cells j hj
    unfold okc at h1 ⊢
    rcases addL_step p l N0 hl j with h | ⟨h, h2, h3⟩ <;> rw [h] <;> omega
  have p0 := ok.a0; have p1 := ok.a1; have p2 := ok.s1
  unfold nxA nxL
  by_cases h : A + 1 = S
  · rw [if_pos h, if_pos h]
    refine ⟨ok.two, ok.w, ok.s1, ok.s2, by omega, by omega, by rw [halve_len, addL_len]; exact ok.len, fun j hj => ?_⟩
    rw [halve_len, addL_len] at hj
    have := hc j hj
    rw [halve_at]
    unfold okc at this ⊢
    omega
  · rw [if_neg h, if_neg h]
    exact ⟨ok.two, ok.w, ok.s1, ok.s2, by omega, by omega, by rw [addL_len]; exact ok.len, fun j hj => by rw [addL_len] at hj; exact hc j hj⟩
theorem nxL_len (N : Nat) (p : Nat → Nat) (S A : Int) (l : List Int) : (nxL N p S A l).length = l.length := by
  unfold nxL
  split
  · rw [halve_len, addL_len]
  · rw [addL_len]
theorem pos_of_ok {N : Nat} {S A : Int} {l : List Int} (ok : Ok (N : Int) S A l) : 0 < N ∧ l.length = 4 * N ∧ (∃ k : Nat, k ≤ 12 ∧ N = 2 ^ k) := by
  obtain ⟨M, h1, h2, h3⟩ := ok.nat3
  have : N = M := by omega
  subst this
  have := ok.pos
  exact ⟨by omega, h3, h2⟩
theorem add_m {N m : Nat} {S A : Int} {l : List Int} (ok : Ok (N : Int) S A l) (hm : l.length = m) (a : Option Addr) (c : Nat) (key : ByteArray) (hk : key.size ≤ 100) (X : World) (hp : IntsA X a l) (hla : LaidC X) :
    Calls Tryd.prog 22 #[.agg #[.int .i64 N, .int .i64 S, .int .i64 A, .slice a m c], .string key] X fun e w' => (∃ g c2, e = .returned (.agg #[.int .i64 N, .int .i64 S, .int .i64 (nxA S A), .slice (some ⟨g, 0, none⟩) m c2]) ∧ X.heap.size ≤ g ∧ RowI w' g (nxL N (pl key) S A l)) ∧ Below X.heap.size X w' := by
  subst hm
  obtain ⟨h1, h2, h3⟩ := pos_of_ok ok
  refine (add_any N S A a c l key X hp h2 (by omega) h3 ok.all ok.a0 ok.a1 ok.s2 hla).mono ?_
  rintro e w' ⟨⟨g, c2, rfl, -, hg, hr⟩, hb⟩
  exact ⟨⟨g, c2, rfl, hg, hr⟩, hb⟩
theorem addref_m {N m : Nat} {S A : Int} {l : List Int} (ok : Ok (N : Int) S A l) (hm : l.length = m) (a : Option Addr) (c : Nat) (key : ByteArray) (hk : key.size ≤ 100) (X : World) (hp : IntsA X a l) (hla : LaidK X) :
    Calls Tryd.prog 23 #[.agg #[.int .i64 N, .int .i64 S, .int .i64 A, .slice a m c], .string key] X fun e w' => (∃ b c2, e = .returned (.agg #[.int .i64 N, .int .i64 S, .int .i64 (nxA S A), .slice b m c2]) ∧ IntsA w' b (nxL N (pl key) S A l)) ∧ Below X.heap.size X w' := by
  subst hm
  obtain ⟨h1, h2, h3⟩ := pos_of_ok ok
  exact addref_any N S A a c l key X hp h2 (by omega) h3 ok.all ok.a0 ok.a1 ok.s2 hla
theorem same_m {N m : Nat} {S A : Int} {l : List Int} (hm : l.length = m) (hm2 : m ≤ 1000000) (a1 a2 : Option Addr) (c1 c2 : Nat) (X : World) (h1 : IntsA X a1 l) (h2 : IntsA X a2 l) :
    Calls Tryd.prog 13 #[.agg #[.int .i64 N, .int .i64 S, .int .i64 A, .slice a1 m c1], .agg #[.int .i64 N, .int .i64 S, .int .i64 A, .slice a2 m c2]] X fun e w' => e = .returned (.bool true) ∧ Below X.heap.size X w' := by
  subst hm
  exact same_true N S A a1 a2 c1 c2 l X h1 h2 (by omega)
theorem valid_m {N m : Nat} {S A : Int} {l : List Int} (ok : Ok (N : Int) S A l) (hm : l.length = m) (hm2 : m ≤ 1000000) (a : Option Addr) (c : Nat) (X : World) (hp : IntsA X a l) :
    Calls Tryd.prog 12 #[.agg #[.int .i64 N, .int .i64 S, .int .i64 A, .slice a m c]] X fun e w' => e = .returned (.bool true) ∧ Below X.heap.size X w' := by
  subst hm
  have := ok.w; have := ok.pos
  refine (validref_any N S A a c l X hp (by omega) (by omega) (by omega)).mono ?_
  rintro e w' ⟨⟨b, rfl, hb0⟩, hb⟩
  obtain rfl : b = true := hb0.2 ok
  exact ⟨rfl, hb⟩
set_option maxRecDepth 100000 in
set_option maxHeartbeats 4000000 in
theorem adds_ok (N : Nat) (S A : Int) (a : Option Addr) (cap : Nat) (l : List Int) (s : Option Addr) (scap : Nat) (ss : List ByteArray) (w : World) (hp : IntsA w a l) (hs : StrsA w s ss) (h3 : l.length ≤ 300) (ok : Ok (N : Int) S A l) (sh : Short ss) (hla : LaidC w) (hlk : LaidK w) :
    Calls Tryd.prog 4 #[.agg #[.int .i64 N, .int .i64 S, .int .i64 A, .slice a l.length cap], .slice s ss.length scap] w fun e w' => e = .returned (.bool true) ∧ Below w.heap.size w w' := by
  have HP := Lib.hid hp; have HS := Lib.hid hs; have LA := Lib.hid hla; have LK := Lib.hid hlk
  have SH := Lib.hid sh
  have SZ := Lib.hid (show ∀ k, k < ss.length → (ss.getD k ByteArray.empty).size ≤ 100 from sh.2)
  have SO := Lib.hid (fun (X : World) (h : StrsA X s ss) => short_any s scap ss X h (by have := sh.1; omega) (fun k hk => by have := sh.2 k hk; omega))
  have SA := Lib.hid (fun (X : World) (h : LaidC X) => sane X h)
  have N0 := (pos_of_ok ok).1
  have L4 := (pos_of_ok ok).2.1
  obtain ⟨m, hm⟩ : ∃ m, l.length = m := ⟨_, rfl⟩
  obtain ⟨n, hn⟩ : ∃ n, ss.length = n := ⟨_, rfl⟩
  have n60 : n ≤ 60 := by rw [← hn]; exact sh.1
  rw [hn] at SO SZ ⊢
  have VA := Lib.hid (fun (X : World) (h : IntsA X a l) => valid_m ok hm (by omega) a cap X h)
  rw [hm] at h3 L4 ⊢
  have OK := Lib.hid ok
  have HM := Lib.hid hm; have HN := Lib.hid hn
  have m0 : 0 < m := by omega
  have M4 := Lib.hid L4
  have N0 := Lib.hid N0
  have t1 : decide ((300 : Int) < (m : Int)) = false := decide_eq_false (by omega)
  clear hp hs ok sh hla hlk hm hn L4
  go_enter Tryd.func4, Tryd.ntmps4
  go_wp2_with fail
  refine (SO.out _ (HS.out.mono (by (repeat' (first | (with_reducible exact Below.refl _ _) | (with_reducible assumption) | (with_reducible refine Below.alloc ?_ ?_ _) | (with_reducible refine Below.drew ?_) | (with_reducible refine below_dn ?_) | (with_reducible refine Below.setCell ?_ ?_ _) | (with_reducible exact Nat.le_refl _) | omega | (simp only [World.size_alloc, World.size_setCell, World.size_drew]; omega) | (simp; omega) | (simp; done)))))).mono ?_
  rintro r w1 ⟨⟨b, rfl, hb0⟩, hb⟩
  obtain rfl : b = true := hb0.2 SH.out
  have K := Lib.hid (show Blk w1 w.heap.size 24 #[.int .i64 N, .int .i64 S, .int .i64 A, .slice a m cap] from (Blk.new' w _ _ _ rfl rfl).below hb (by simp))
  have B := Lib.hid (bt (show Below w.heap.size w (w.alloc (.cells #[.int .i64 N, .int .i64 S, .int .i64 A, .slice a m cap] 24)) by (repeat' (first | (with_reducible exact Below.refl _ _) | (with_reducible assumption) | (with_reducible refine Below.alloc ?_ ?_ _) | (with_reducible refine Below.drew ?_) | (with_reducible refine below_dn ?_) | (with_reducible refine Below.setCell ?_ ?_ _) | (with_reducible exact Nat.le_refl _) | omega | (simp only [World.size_alloc, World.size_setCell, World.size_drew]; omega) | (simp; omega) | (simp; done)))) hb)
  clear hb hb0 SO
  have d0 := K.out.cell 0
  change _ = some (Value.int .i64 N) at d0
  have d1 := K.out.cell 1
  change _ = some (Value.int .i64 S) at d1
  have d2 := K.out.cell 2
  change _ = some (Value.int .i64 A) at d2
  have d3 := K.out.cell 3
  change _ = some (Value.slice a m cap) at d3
  go_wp2_with fail
  refine (VA.out _ (HP.out.mono B.out)).mono ?_
  rintro r w2 ⟨rfl, hb⟩
  replace K := Lib.hid (K.out.below hb K.out.lt)
  replace B := Lib.hid (bt B.out hb)
  have I := Lib.hid (HP.out.mono B.out)
  clear hb VA d0 d1 d2 d3
  go_wp2_with fail
  go_loopw [6, 7, 8, 9] (fun u6 _ _ _ wr => ∃ (k : Nat) (A1 : Int) (a1 : Option Addr) (c1 : Nat) (l1 : List Int), k ≤ n ∧ u6 = .int .i64 k ∧ Hid (Ok (N : Int) S A1 l1) ∧ Hid (l1.length = m) ∧ Hid (IntsA wr a1 l1) ∧ Hid (Blk wr w.heap.size 24 #[.int .i64 N, .int .i64 S, .int .i64 A1, .slice a1 m c1]) ∧ Hid (Below w.heap.size w wr)) (fun u6 _ _ _ _ => n - (intOf u6).toNat)
  case atStart => exact ⟨0, A, a, cap, l, by omega, rfl, OK, HM, I, K, B⟩
  case round =>
    obtain ⟨k, A1, a1, c1, l1, hk, rfl, OK1, HL1, I1, K1, B1⟩ := hrel
    clear OK HM I K B HP t1 SH
    by_cases hlt : k < n
    · obtain ⟨bs, os, rfl, q1⟩ := HS.out.mono B1.out k (by rw [HN.out]; exact hlt)
      have z1 : (ss.getD k ByteArray.empty).size ≤ 100 := SZ.out k hlt
      obtain ⟨key, hkey⟩ : ∃ s, ss.getD k ByteArray.empty = s := ⟨_, rfl⟩
      rw [hkey] at q1 z1
      have e3 : ∀ ob : Obj, (wr.alloc ob).cell? ⟨w.heap.size, 3, none⟩ = some (.slice a1 m c1) := fun ob => (K1.out.alloc ob).cell 3
      have Q1 := Lib.hid q1
      have M6 := Lib.hid (show m ≤ 1000000 by omega)
      have M0 := Lib.hid m0
      have AD := Lib.hid (fun (X : World) (h : IntsA X a1 l1) (h2 : LaidC X) => add_m OK1.out HL1.out a1 c1 key z1 X h h2)
      have AE := Lib.hid (fun (X : World) (h : IntsA X a1 l1) (h2 : LaidK X) => addref_m OK1.out HL1.out a1 c1 key z1 X h h2)
      have OK2 := Lib.hid (ok_add OK1.out (pl key) N0.out (by rw [HL1.out]; exact M4.out))
      have HL2 := Lib.hid (show (nxL N (pl key) S A1 l1).length = m by rw [nxL_len]; exact HL1.out)
      have SM := Lib.hid (fun (X : World) (x1 x2 : Option Addr) (y1 y2 : Nat) (h1 : IntsA X x1 (nxL N (pl key) S A1 l1)) (h2 : IntsA X x2 (nxL N (pl key) S A1 l1)) => same_m (N := N) (S := S) (A := nxA S A1) HL2.out M6.out x1 x2 y1 y2 X h1 h2)
      have VM := Lib.hid (fun (X : World) (x1 : Option Addr) (y1 : Nat) (h1 : IntsA X x1 (nxL N (pl key) S A1 l1)) => valid_m OK2.out HL2.out M6.out x1 y1 X h1)
      obtain ⟨A2, hA2⟩ : ∃ x, nxA S A1 = x := ⟨_, rfl⟩
      obtain ⟨l2, hl2⟩ : ∃ x, nxL N (pl key) S A1 l1 = x := ⟨_, rfl⟩
      simp only [hA2, hl2] at AD AE OK2 HL2 SM VM
      clear hA2 hl2 hkey z1 q1
      go_wp2_with (refine wpList_appN (by rfl) (.tmp 32) (.tmp 34) (by rfl) (by rfl) _ (by rfl) _ _ l1 _ HL1.out (by rfl) (I1.out.mono (by (repeat' (first | (with_reducible exact Below.refl _ _) | (with_reducible assumption) | (with_reducible refine Below.alloc ?_ ?_ _) | (with_reducible refine Below.drew ?_) | (with_reducible refine below_dn ?_) | (with_reducible refine Below.setCell ?_ ?_ _) | (with_reducible exact Nat.le_refl _) | omega | (simp only [World.size_alloc, World.size_setCell, World.size_drew]; omega) | (simp; omega) | (simp; done))))) M6.out M0.out (by first | exact World.alloc_heap_new _ _ | exact Blk.new _ 3 #[]) ?_)
      intro b0 c0 w3 hc0 hg0 hr0 hk0 hb0
      have BW := Lib.hid (show Below wr.heap.size wr w3 from by refine Below.trans ?_ (hb0 wr.heap.size ?_) <;> (repeat' (first | (with_reducible exact Below.refl _ _) | (with_reducible assumption) | (with_reducible refine Below.alloc ?_ ?_ _) | (with_reducible refine Below.drew ?_) | (with_reducible refine below_dn ?_) | (with_reducible refine Below.setCell ?_ ?_ _) | (with_reducible exact Nat.le_refl _) | omega | (simp only [World.size_alloc, World.size_setCell, World.size_drew]; omega) | (simp; omega) | (simp; done))))
      replace K1 := Lib.hid (K1.out.below BW.out K1.out.lt)
      replace B1 := Lib.hid (bt B1.out BW.out)
      replace I1 := Lib.hid (I1.out.mono BW.out)
      have LA3 := Lib.hid (LA.out.mono B1.out)
      have R1 := Lib.hid hr0
      replace Q1 := Lib.hid (keep Q1.out BW.out)
      have zw : w.heap.size < w3.heap.size := K1.out.lt
      have zb : b0 < w3.heap.size := hr0.lt
      clear hc0 hg0 hr0 hk0 hb0 BW e3
      go_upto_region 8 with (fail)
      go_cut [8] from 36 to 41 (fun s8 wx => ∃ (o g c : Nat), s8 = .pointer (some ⟨o, 0, none⟩) ∧ Hid (w3.heap.size ≤ o ∧ w3.heap.size ≤ g ∧ g ≠ o) ∧ Hid (Blk wx o 24 #[.int .i64 N, .int .i64 S, .int .i64 A2, .slice (some ⟨g, 0, none⟩) m c]) ∧ Hid (RowI wx g l2) ∧ Hid (Below w3.heap.size w3 wx))
      case first =>
        clear AE OK2 HL2 SM VM SA
        have k0 : (0 : Int) ≤ (k : Int) := by omega
        have kn : (k : Int) < (n : Int) := by omega
        have NE1 := Lib.hid (show w.heap.size ≠ w3.heap.size by omega)
        have NE2 := Lib.hid (show bs ≠ w3.heap.size by have h : bs < w3.heap.size := block_lt_of_cell Q1.out; omega)
        have QD := Lib.hid (show (World.drew w3).cell? ⟨bs, os + k, none⟩ = some (.string key) from Q1.out)
        have QA := Lib.hid (show ∀ ob, (w3.alloc ob).cell? ⟨bs, os + k, none⟩ = some (.string key) from fun ob => keep Q1.out ((Below.refl _ w3).alloc (Nat.le_refl _) ob))
        have QE := Lib.hid (show ∀ ob, (World.drew (w3.alloc ob)).cell? ⟨bs, os + k, none⟩ = some (.string key) from fun ob => QA.out ob)
        go_region_held3 (fun X => (X.cell? ⟨w.heap.size, 0, none⟩ = some (.int .i64 N) ∧ X.cell? ⟨w.heap.size, 1, none⟩ = some (.int .i64 S) ∧ X.cell? ⟨w.heap.size, 2, none⟩ = some (.int .i64 A1) ∧ X.cell? ⟨w.heap.size, 3, none⟩ = some (.slice a1 m c1)) ∧ X.cell? ⟨bs, os + k, none⟩ = some (.string key)) (first | with_reducible exact ⟨four K1.out.drew, QD.out⟩ | with_reducible exact ⟨four K1.out, Q1.out⟩ | with_reducible exact ⟨four (K1.out.alloc _), QA.out _⟩ | with_reducible exact ⟨four (K1.out.alloc _).drew, QE.out _⟩ | with_reducible exact ⟨four KX.out, QX.out⟩ | with_reducible exact ⟨four (KX.out.alloc _), QY.out _⟩ | with_reducible exact and_four (far4 KX.out QX.out NE1.out NE2.out _ _ _ _)) (first | (go_at_call 22; with_reducible refine (AD.out _ (I1.out.mono (by (repeat' (first | (with_reducible exact Below.refl _ _) | (with_reducible assumption) | (with_reducible refine Below.alloc ?_ ?_ _) | (with_reducible refine Below.drew ?_) | (with_reducible refine below_dn ?_) | (with_reducible refine Below.setCell ?_ ?_ _) | (with_reducible exact Nat.le_refl _) | omega | (simp only [World.size_alloc, World.size_setCell, World.size_drew]; omega) | (simp; omega) | (simp; done))))) (LA3.out.mono (by (repeat' (first | (with_reducible exact Below.refl _ _) | (with_reducible assumption) | (with_reducible refine Below.alloc ?_ ?_ _) | (with_reducible refine Below.drew ?_) | (with_reducible refine below_dn ?_) | (with_reducible refine Below.setCell ?_ ?_ _) | (with_reducible exact Nat.le_refl _) | omega | (simp only [World.size_alloc, World.size_setCell, World.size_drew]; omega) | (simp; omega) | (simp; done)))))).mono ?_; rintro r w4 ⟨⟨g, c2, rfl, hg, hr⟩, hb⟩; have BX := Lib.hid (show Below w3.heap.size w3 w4 from by refine Below.trans ?_ (hb.mono ?_) <;> (repeat' (first | (with_reducible exact Below.refl _ _) | (with_reducible assumption) | (with_reducible refine Below.alloc ?_ ?_ _) | (with_reducible refine Below.drew ?_) | (with_reducible refine below_dn ?_) | (with_reducible refine Below.setCell ?_ ?_ _) | (with_reducible exact Nat.le_refl _) | omega | (simp only [World.size_alloc, World.size_setCell, World.size_drew]; omega) | (simp; omega) | (simp; done)))); have KX := Lib.hid (K1.out.below BX.out K1.out.lt); have QX := Lib.hid (keep Q1.out BX.out); have QY := Lib.hid (show ∀ ob, (w4.alloc ob).cell? ⟨bs, os + k, none⟩ = some (.string key) from fun ob => keep QX.out ((Below.refl _ w4).alloc (Nat.le_refl _) ob)); (try (refine (have OZ : Hid (Blk w4 w3.heap.size 24 #[.int .i64 0, .int .i64 0, .int .i64 0, .slice none 0 0]) := ?hz; ?_); (case hz => exact Lib.hid ((Blk.new _ _ _).drew.below hb (by simp))); obtain ⟨o0, o1, o2, o3⟩ := four OZ.out; have of := fun q => OZ.out.frozen q))))
        all_goals go_wp2_with fail
        all_goals go_meet
        · exact ⟨w4.heap.size, g, c2, rfl, Lib.hid ⟨BX.out.size, hg, by have := hr.lt; omega⟩, Lib.hid (Blk.new _ _ _), Lib.hid (hr.alloc _), Lib.hid (BX.out.alloc BX.out.size _)⟩
        · have hg' : w3.heap.size + 1 ≤ g := by simpa using hg
          have hn' : g ≠ w3.heap.size := by omega
          exact ⟨w3.heap.size, g, c2, rfl, Lib.hid ⟨Nat.le_refl _, by omega, hn'⟩, Lib.hid ((((OZ.out.set_ 0 _).set_ 1 _).set_ 2 _).set_ 3 _), Lib.hid ((((hr.far hn' _).far hn' _).far hn' _).far hn' _), Lib.hid ((((BX.out.setCell (by simp) _).setCell (by simp) _).setCell (by simp) _).setCell (by simp) _)⟩
      case rest =>
        obtain ⟨o, g, c2, rfl, hne, KO, RG, hbx⟩ := hcut
        have hgw : g ≠ w.heap.size := by have := hne.out; omega
        replace K1 := Lib.hid (K1.out.below hbx.out K1.out.lt).drew
        replace KO := Lib.hid KO.out.drew
        replace R1 := Lib.hid (R1.out.below hbx.out R1.out.lt).drew
        replace I1 := Lib.hid ((I1.out.mono hbx.out).mono (Below.drew (Below.refl _ wc)))
        replace Q1 := Lib.hid (show (World.drew wc).cell? ⟨bs, os + k, none⟩ = some (.string key) from keep Q1.out (Below.drew hbx.out))
        replace B1 := Lib.hid (Below.drew (bt B1.out hbx.out))
        have I2 := Lib.hid (RG.out.ints.mono (Below.drew (Below.refl _ wc)))
        clear hbx RG hne LA3 AD zw zb
        have k0 : (0 : Int) ≤ (k : Int) := by omega
        have kn : (k : Int) < (n : Int) := by omega
        go_wp2_with fail
        go_region_held3 (fun X => (X.cell? ⟨w.heap.size, 0, none⟩ = some (.int .i64 N) ∧ X.cell? ⟨w.heap.size, 1, none⟩ = some (.int .i64 S) ∧ X.cell? ⟨w.heap.size, 2, none⟩ = some (.int .i64 A1) ∧ X.cell? ⟨w.heap.size, 3, none⟩ = some (.slice a1 m c1)) ∧ (X.cell? ⟨o, 0, none⟩ = some (.int .i64 N) ∧ X.cell? ⟨o, 1, none⟩ = some (.int .i64 S) ∧ X.cell? ⟨o, 2, none⟩ = some (.int .i64 A2) ∧ X.cell? ⟨o, 3, none⟩ = some (.slice (some ⟨g, 0, none⟩) m c2)) ∧ X.cell? ⟨bs, os + k, none⟩ = some (.string key)) (first | with_reducible exact ⟨four K1.out, four KO.out, Q1.out⟩) (first | (go_at_call 23; with_reducible refine (AE.out _ I1.out (LK.out.mono B1.out)).mono ?_; rintro r w5 ⟨⟨b5, c5, rfl, hi⟩, hb⟩; replace K1 := Lib.hid (K1.out.below hb K1.out.lt); replace KO := Lib.hid (KO.out.below hb KO.out.lt); replace R1 := Lib.hid (R1.out.below hb R1.out.lt); replace I1 := Lib.hid (I1.out.mono hb); replace I2 := Lib.hid (I2.out.mono hb); replace Q1 := Lib.hid (keep Q1.out hb); replace B1 := Lib.hid (bt B1.out hb); clear hb; have I5 := Lib.hid hi; clear hi) | (go_at_call 13; with_reducible refine (SM.out _ _ _ _ _ I2.out I5.out).mono ?_; rintro r w6 ⟨rfl, hb⟩; replace K1 := Lib.hid (K1.out.below hb K1.out.lt); replace KO := Lib.hid (KO.out.below hb KO.out.lt); replace R1 := Lib.hid (R1.out.below hb R1.out.lt); replace I1 := Lib.hid (I1.out.mono hb); replace I2 := Lib.hid (I2.out.mono hb); replace Q1 := Lib.hid (keep Q1.out hb); replace B1 := Lib.hid (bt B1.out hb); clear hb) | (go_at_call 12; with_reducible refine (VM.out _ _ _ I2.out).mono ?_; rintro r w7 ⟨rfl, hb⟩; replace K1 := Lib.hid (K1.out.below hb K1.out.lt); replace KO := Lib.hid (KO.out.below hb KO.out.lt); replace R1 := Lib.hid (R1.out.below hb R1.out.lt); replace I1 := Lib.hid (I1.out.mono hb); replace I2 := Lib.hid (I2.out.mono hb); replace Q1 := Lib.hid (keep Q1.out hb); replace B1 := Lib.hid (bt B1.out hb); clear hb))
        obtain ⟨wa, rfl⟩ : ∃ v, v = wr := ⟨_, rfl⟩
        go_wp2_with fail
        go_loopw [9] (fun u9 wr => ∃ i : Nat, i ≤ m ∧ u9 = .int .i64 i ∧ Hid (RowI wr b0 l1) ∧ Hid (IntsA wr a1 l1) ∧ Hid (Blk wr w.heap.size 24 #[.int .i64 N, .int .i64 S, .int .i64 A1, .slice a1 m c1]) ∧ Hid (Blk wr o 24 #[.int .i64 N, .int .i64 S, .int .i64 A2, .slice (some ⟨g, 0, none⟩) m c2]) ∧ Hid (IntsA wr (some ⟨g, 0, none⟩) l2) ∧ Hid (Below w.heap.size w wr)) (fun u9 _ => m - (intOf u9).toNat)
        case atStart => exact ⟨0, by omega, rfl, R1, I1, K1, KO, I2, B1⟩
        case round =>
          clear R1 I1 K1 KO I2 B1 Q1 AE SM VM I5
          obtain ⟨i, hi, rfl, R1, I1, K1, KO, I2, B1⟩ := hrel
          by_cases him : i < m
          · have q3 : wr.cell? ⟨w.heap.size, 3, none⟩ = some (.slice a1 m c1) := K1.out.cell 3
            have q4 := R1.out.cell (k := i) (by rw [HL1.out]; exact him)
            obtain ⟨bx, ox, rfl, q5⟩ := I1.out i (by rw [HL1.out]; exact him)
            obtain ⟨x, hx⟩ : ∃ x, l1.getD i 0 = x := ⟨_, rfl⟩
            rw [hx] at q4 q5
            have t1 : (x != x) = false := by simp
            have i0 : (0 : Int) ≤ (i : Int) := by omega
            have im : (i : Int) < (m : Int) := by omega
            clear hx
            go_wp2_with fail
            go_quiet (fail)
            go_wp2_with fail
            go_roundw
            case rel => exact ⟨i + 1, by omega, by go_num, Lib.hid (R1.out.drewN _), Lib.hid (I1.out.mono (below_dn (Below.refl _ wr))), Lib.hid (K1.out.drewN _), Lib.hid (KO.out.drewN _), Lib.hid (I2.out.mono (below_dn (Below.refl _ wr))), Lib.hid (below_dn B1.out)⟩
            case measure => simp [intOf]; omega
          · obtain ⟨d0, d1, d2, d3⟩ := four KO.out
            obtain ⟨h0, h1, h2, h3⟩ := four K1.out
            have f1 := fun q => K1.out.frozen q
            go_wp2_with fail
            go_roundw
            case rel => exact ⟨k + 1, A2, some ⟨g, 0, none⟩, c2, l2, by omega, by go_num, OK2, HL2, Lib.hid ((((I2.out.far1 hgw _).far1 hgw _).far1 hgw _).far1 hgw _), Lib.hid ((((K1.out.set_ 0 _).set_ 1 _).set_ 2 _).set_ 3 _), Lib.hid ((((B1.out.setCell (by simp) _).setCell (by simp) _).setCell (by simp) _).setCell (by simp) _)⟩
            case measure => simp [intOf]; omega
    · go_wp2_with fail
      refine (SA.out _ (LA.out.mono B1.out)).mono ?_
      rintro r w9 ⟨rfl, hb⟩
      have B9 := Lib.hid (bt B1.out hb)
      clear hb
      go_wp2_with fail
      go_ret
      exact ⟨rfl, B9.out⟩
end
section
open Go.RowKit
/-- Do two keys share a cell? -/
def Shares (W : Nat) (p q : Nat → Nat) : Prop := ∃ r, r < 4 ∧ p r % W = q r % W
set_option maxRecDepth 100000 in
set_option maxHeartbeats 400000 in
theorem shared_any (k1 k2 : ByteArray) (W : Nat) (w : World) (h1 : k1.size ≤ 400) (h2 : k2.size ≤ 400) (hW : ∃ k : Nat, k ≤ 12 ∧ W = 2 ^ k) (hla : LaidK w) :
    Calls Tryd.prog 29 #[.string k1, .string k2, .int .i64 W] w fun e w' => Judged e (Shares W (pl k1) (pl k2)) ∧ Below w.heap.size w w' := by
  have LA := Lib.hid hla
  have P1 := Lib.hid (fun (r : Nat) (h : r < 4) (X : World) (h2 : LaidK X) => placeref_any k1 r W X h1 h hW h2)
  have P2 := Lib.hid (fun (r : Nat) (h : r < 4) (X : World) (h3 : LaidK X) => placeref_any k2 r W X h2 h hW h3)
  have HS := Lib.hid (show Shares W (pl k1) (pl k2) ↔ ∃ r, r < 4 ∧ pl k1 r % W = pl k2 r % W from Iff.rfl)
  clear hla h1 h2 hW
  go_enter Tryd.func29, Tryd.ntmps29
  go_wp2
  go_loopw [7] (fun u7 wr => ∃ k : Nat, k ≤ 4 ∧ u7 = .int .i64 k ∧ Hid (∀ j, j < k → pl k1 j % W ≠ pl k2 j % W) ∧ Hid (Below w.heap.size w wr)) (fun u7 _ => 4 - (intOf u7).toNat)
  case atStart => exact ⟨0, by omega, rfl, Lib.hid (fun j h => absurd h (by omega)), Lib.hid (by (repeat' (first | (with_reducible exact Below.refl _ _) | (with_reducible assumption) | (with_reducible refine Below.alloc ?_ ?_ _) | (with_reducible refine Below.drew ?_) | (with_reducible refine below_dn ?_) | (with_reducible refine Below.setCell ?_ ?_ _) | (with_reducible exact Nat.le_refl _) | omega | (simp only [World.size_alloc, World.size_setCell, World.size_drew]; omega) | (simp; omega) | (simp; done))))⟩
  case round =>
    obtain ⟨k, hk, rfl, HJ, B⟩ := hrel
    by_cases hlt : k < 4
    · have p1 := P1.out k hlt
      have p2 := P2.out k hlt
      obtain ⟨x, hx⟩ : ∃ x, pl k1 k % W = x := ⟨_, rfl⟩
      obtain ⟨y, hy⟩ : ∃ x, pl k2 k % W = x := ⟨_, rfl⟩
      rw [hx] at p1
      rw [hy] at p2
      have Q1 := Lib.hid p1
      have Q2 := Lib.hid p2
      have HX := Lib.hid hx
      have HY := Lib.hid hy
      have K4 := Lib.hid hlt
      clear p1 p2 hx hy
      go_wp2_with fail
      refine (Q1.out _ (LA.out.mono B.out)).mono ?_
      rintro e w1 ⟨rfl, hb⟩
      have B := Lib.hid (bt B.out hb)
      clear hb
      go_wp2_with fail
      refine (Q2.out _ (LA.out.mono B.out)).mono ?_
      rintro e w2 ⟨rfl, hb⟩
      have B := Lib.hid (bt B.out hb)
      clear hb
      by_cases hxy : x = y
      · have t1 : ((x : Int) == (y : Int)) = true := by rw [hxy]; exact beq_self_eq_true _
        have SH := Lib.hid (show Shares W (pl k1) (pl k2) from ⟨k, K4.out, by rw [HX.out, HY.out]; exact hxy⟩)
        subst hxy
        go_wp2
        go_ret
        exact ⟨⟨true, rfl, ⟨fun _ => SH.out, fun _ => rfl⟩⟩, B.out⟩
      · have t1 : ((x : Int) == (y : Int)) = false := beq_eq_false_iff_ne.mpr (by omega)
        have t2 : decide ((x : Int) = (y : Int)) = false := decide_eq_false (by omega)
        have HN := Lib.hid hxy
        clear hxy
        go_wp2
        go_roundw
        case rel =>
          refine ⟨k + 1, by omega, by go_num, Lib.hid (fun j hj => ?_), B⟩
          rcases Nat.lt_or_ge j k with h | h
          · exact HJ.out j h
          · rw [show j = k by omega, HX.out, HY.out]; exact HN.out
        case measure => simp [intOf]; omega
    · go_wp2
      go_ret
      exact ⟨⟨false, rfl, ⟨(fun h => by cases h), fun ⟨r, h1, h2⟩ => absurd h2 (HJ.out r (by omega))⟩⟩, B.out⟩
end
section
open Go.RowKit
/-- What holds between two keys. -/
structure Good (N : Nat) (S A : Int) (l : List Int) (L : List Cn) (k : Nat) : Prop where
  ok : Ok (N : Int) S A l
  cn : Cnts N pl l L
  df : Diff L
  sm : Small L
  ln : L.length ≤ k
  sz : ∀ c ∈ L, c.1.size ≤ 100
theorem sz_more {L : List Cn} {key : ByteArray} (h : ∀ c ∈ L, c.1.size ≤ 100) (hk : key.size ≤ 100) : ∀ c ∈ moreL L key, c.1.size ≤ 100 := fun c hc => by
  have h1 : c.1 ∈ keysL (moreL L key) := List.mem_map.2 ⟨c, hc, rfl⟩
  rcases (keysL_more L key c.1).1 h1 with h2 | h2
  · obtain ⟨d, hd, e⟩ := List.mem_map.1 h2
    rw [← e]; exact h d hd
  · rw [h2]; exact hk
def nxC (S A : Int) (L : List Cn) (key : ByteArray) : List Cn := if A + 1 = S then halveC (moreL L key) else moreL L key
theorem halveC_len (L : List Cn) : (halveC L).length = L.length := by simp [halveC]
theorem Good.next {N : Nat} {S A : Int} {l : List Int} {L : List Cn} {k : Nat} (h : Good N S A l L k) (key : ByteArray) (hk : key.size ≤ 100) : Good N S (nxA S A) (nxL N (pl key) S A l) (nxC S A L key) (k + 1) := by
  obtain ⟨N0, hl, -⟩ := pos_of_ok h.ok
  have h1 := h.cn.add key N0 hl
  have hb : ∀ j, (addL N (pl key) l).getD j 0 ≤ 15 := fun j => (getD_small _ (addL_bd (pl key) l N0 hl h.ok.all) j).2
  have hln := moreL_len L key
  have := h.ln
  refine ⟨ok_add h.ok (pl key) N0 hl, ?_, ?_, ?_, ?_, ?_⟩
  · unfold nxL nxC
    split
    · exact h1.halve hb
    · exact h1
  · unfold nxC
    split
    · exact (h.df.more key).halve
    · exact h.df.more key
  · unfold nxC
    split
    · exact (h.sm.more key).halve
    · exact h.sm.more key
  · unfold nxC
    split
    · rw [halveC_len]; omega
    · omega
  · unfold nxC
    split
    · intro c hc
      obtain ⟨d, hd, rfl⟩ := List.mem_map.1 hc
      exact sz_more h.sz hk d hd
    · exact sz_more h.sz hk
theorem Good.start {N : Nat} {S : Int} (hN : ∃ k : Nat, k ≤ 12 ∧ N = 2 ^ k) (hw : pw (N : Int) = true) (hS : 1 ≤ S) (hS2 : S ≤ 1048576) (n : Nat) (hn : n = 4 * N) : Good N S 0 (List.replicate n 0) [] 0 := by
  have N0 : 0 < N := by obtain ⟨k, -, h2⟩ := hN; rw [h2]; exact Nat.two_pow_pos k
  have N4 : N ≤ 4096 := by
    obtain ⟨k, h1, h2⟩ := hN
    have := Nat.pow_le_pow_right (n := 2) (by decide) h1
    have e : (2 : Nat) ^ 12 = 4096 := by decide
    omega
  subst hn
  refine ⟨⟨hw, by omega, hS, hS2, by omega, by omega, by simp, fun j hj => ?_⟩, Cnts.start N pl N0, by simp [Diff, keysL], (fun c hc => by cases hc), by simp, (fun c hc => by cases hc)⟩
  rw [List.length_replicate] at hj
  rw [rep_at 0 hj]
  unfold okc
  omega
/-- The number of the i-th key is at most its count. -/
theorem Good.ge {N : Nat} {S A : Int} {l : List Int} {L : List Cn} {k : Nat} (h : Good N S A l L k) {i : Nat} (hi : i < L.length) : (L.getD i cn0).2 ≤ cnt N (pl (L.getD i cn0).1) l := by
  rw [getD_at cn0 hi, ← h.df.num hi]
  exact h.cn.ge _
theorem Good.eq {N : Nat} {S A : Int} {l : List Int} {L : List Cn} {k : Nat} (h : Good N S A l L k) {i : Nat} (hi : i < L.length)
    (ha : ∀ j, j < L.length → j = i ∨ ¬ Shares N (pl (L.getD i cn0).1) (pl (L.getD j cn0).1)) : cnt N (pl (L.getD i cn0).1) l = (L.getD i cn0).2 := by
  have h1 := h.df.num hi
  rw [getD_at cn0 hi, ← h1]
  refine h.cn.eq _ fun q hq hne => ?_
  obtain ⟨c, hc, rfl⟩ := List.mem_map.1 hq
  obtain ⟨j, hj, rfl⟩ := List.getElem_of_mem hc
  rcases ha j hj with e | e
  · subst e; exact absurd rfl hne
  · rw [getD_at cn0 hi, getD_at cn0 hj] at e
    exact e
theorem Good.small {N : Nat} {S A : Int} {l : List Int} {L : List Cn} {k : Nat} (h : Good N S A l L k) {i : Nat} (hi : i < L.length) : 0 ≤ (L.getD i cn0).2 ∧ (L.getD i cn0).2 ≤ 15 ∧ (L.getD i cn0).1.size ≤ 100 := by
  rw [getD_at cn0 hi]
  exact ⟨(h.sm _ (List.getElem_mem hi)).1, (h.sm _ (List.getElem_mem hi)).2, h.sz _ (List.getElem_mem hi)⟩
/-- The first i numbers halved. -/
def hv (L : List Cn) (i : Nat) : List Cn := (halveC L).take i ++ L.drop i
theorem hv_zero (L : List Cn) : hv L 0 = L := by simp [hv]
theorem hv_all (L : List Cn) : hv L L.length = halveC L := by
  unfold hv
  rw [List.drop_length, List.append_nil, List.take_of_length_le (by rw [halveC_len]; exact Nat.le_refl _)]
theorem hv_len (L : List Cn) (i : Nat) (h : i ≤ L.length) : (hv L i).length = L.length := by
  unfold hv
  rw [List.length_append, List.length_take, List.length_drop, halveC_len]
  omega
theorem hv_at (L : List Cn) (i : Nat) (h : i < L.length) : (hv L i).getD i cn0 = L.getD i cn0 := by
  unfold hv
  rw [List.getD_eq_getElem?_getD, List.getElem?_append_right (by rw [List.length_take, halveC_len]; omega), List.length_take, halveC_len, Nat.min_eq_left (by omega), Nat.sub_self, List.getElem?_drop, Nat.add_zero, ← List.getD_eq_getElem?_getD]
theorem hv_step (L : List Cn) (i : Nat) (h : i < L.length) : (hv L i).set i ((L.getD i cn0).1, (L.getD i cn0).2 / 2) = hv L (i + 1) := by
  have e1 : ((halveC L).take i).length = i := by rw [List.length_take, halveC_len]; omega
  have e2 : L.drop i = L[i] :: L.drop (i + 1) := List.drop_eq_getElem_cons h
  have hc : i < (halveC L).length := by rw [halveC_len]; exact h
  have e3 : (halveC L).take (i + 1) = (halveC L).take i ++ [(halveC L)[i]] := (List.take_append_getElem hc).symm
  unfold hv
  rw [List.set_append_right _ _ (by rw [e1]; exact Nat.le_refl _), e1, Nat.sub_self, e2, List.set_cons_zero, e3, getD_at cn0 h]
  simp [halveC]
theorem count_m {N m : Nat} {S A : Int} {l : List Int} (ok : Ok (N : Int) S A l) (hm : l.length = m) (a : Option Addr) (c : Nat) (key : ByteArray) (hk : key.size ≤ 100) (X : World) (hp : IntsA X a l) (hla : LaidC X) :
    Calls Tryd.prog 15 #[.agg #[.int .i64 N, .int .i64 S, .int .i64 A, .slice a m c], .string key] X fun e w' => e = .returned (.int .i64 (cnt N (pl key) l)) ∧ Below X.heap.size X w' := by
  subst hm
  obtain ⟨h1, h2, h3⟩ := pos_of_ok ok
  exact count_any N S A a c l key X hp h2 (by omega) h3 hla
theorem Judged.tell {e : Ending} {p : Prop} (h : Judged e p) : ∃ b, e = .returned (.bool b) ∧ (b = true ↔ p) := h
/-- Four cells of a block are stored. -/
abbrev set4 (X : World) (o : Nat) (u0 u1 u2 u3 : Value) : World := (((X.setCell ⟨o, 0, none⟩ u0).setCell ⟨o, 1, none⟩ u1).setCell ⟨o, 2, none⟩ u2).setCell ⟨o, 3, none⟩ u3
section
variable {X X' : World} {B o g k : Nat} {v : Value} {L : List Cn} {l : List Int} {t : TypeId} {cs : Array Value} {r : Option Nat}
theorem OwnC.ne (h : OwnC X B v L) (hb : Blk X o t cs) (ht : t ≠ CT) : v.ownBlock ≠ some o := by
  intro e
  rcases h.2 with ⟨rfl, _⟩ | ⟨g, cap, cur, rfl, _, hg, _⟩
  · simp [Value.ownBlock] at e
  · have e2 : g = o := by simpa [Value.ownBlock] using e
    subst e2
    unfold Blk at hb
    rw [hb] at hg
    injection hg with hg
    injection hg with _ h2 _
    exact ht h2
theorem OwnC.neRow (h : OwnC X B v L) (hr : RowI X g l) : v.ownBlock ≠ some g := by
  obtain ⟨cs, hb, -⟩ := hr
  exact h.ne hb (by decide)
theorem OwnC.below (h : OwnC X B v L) (hb : Below X.heap.size X X') : OwnC X' B v L := OwnR.below h hb
theorem OwnC.drew (h : OwnC X B v L) : OwnC X.drew B v L := OwnR.drew h
theorem OwnC.drewN (h : OwnC X B v L) (n : Nat) : OwnC (X.drewN n) B v L := own_keep h fun _ _ _ => rfl
theorem OwnC.set4 (h : OwnC X B v L) (hn : v.ownBlock ≠ some o) (u0 u1 u2 u3 : Value) : OwnC (set4 X o u0 u1 u2 u3) B v L :=
  ownsRow_setCell_other (ownsRow_setCell_other (ownsRow_setCell_other (ownsRow_setCell_other h hn u0) hn u1) hn u2) hn u3
theorem RowI.set4 (h : RowI X g l) (hn : g ≠ o) (u0 u1 u2 u3 : Value) : RowI (set4 X o u0 u1 u2 u3) g l := (((h.far hn u0).far hn u1).far hn u2).far hn u3
theorem cell_set4 {b i : Nat} {x : Value} (h : X.cell? ⟨b, i, none⟩ = some x) (hn : b ≠ o) (u0 u1 u2 u3 : Value) : (Go.Proofs.YtmmjkhamknfhpaaDoor.set4 X o u0 u1 u2 u3).cell? ⟨b, i, none⟩ = some x := cell_far (cell_far (cell_far (cell_far h hn) hn) hn) hn
theorem below_set4 {w : World} (h : Below B w X) (hn : B ≤ o) (u0 u1 u2 u3 : Value) : Below B w (Go.Proofs.YtmmjkhamknfhpaaDoor.set4 X o u0 u1 u2 u3) := (((h.setCell hn u0).setCell hn u1).setCell hn u2).setCell hn u3
theorem Blk.set4 {a0 a1 a2 a3 : Value} (h : Blk X o t #[a0, a1, a2, a3]) (u0 u1 u2 u3 : Value) : Blk (Go.Proofs.YtmmjkhamknfhpaaDoor.set4 X o u0 u1 u2 u3) o t #[u0, u1, u2, u3] := (((h.set_ 0 u0).set_ 1 u1).set_ 2 u2).set_ 3 u3
theorem Blk.grown (h : Blk X k t cs) (hg : X.grownBy X' r) (hn : r ≠ some k) : Blk X' k t cs := (hg.block k h.lt (fun e => hn e.symm)).trans h
theorem RowI.grown (h : RowI X g l) (hg : X.grownBy X' r) (hn : r ≠ some g) : RowI X' g l := by
  obtain ⟨cs, hb, h1⟩ := h
  exact ⟨cs, hb.grown hg hn, h1⟩
theorem below_grown {w : World} (h : Below B w X) (hg : X.grownBy X' v.ownBlock) (ho : OwnC X B v L) (hB : B ≤ X.heap.size) : Below B w X' := grown_below h hg (fun k e => OwnR.lt ho k e) hB
end
end
section
open Go.RowKit
set_option maxRecDepth 100000 in
set_option maxHeartbeats 4000000 in
theorem never_ok (uw us : Nat) (s : Option Addr) (scap : Nat) (ss : List ByteArray) (w : World) (hs : StrsA w s ss) (hu : uw < 256) (hv : us ≤ 65535) (sh : Short ss) (hla : LaidC w) (hlk : LaidK w) :
    Calls Tryd.prog 6 #[.int .u8 uw, .int .u16 us, .slice s ss.length scap] w fun e w' => e = .returned (.bool true) ∧ Below w.heap.size w w' := by
  have HS := Lib.hid hs; have LA := Lib.hid hla; have LK := Lib.hid hlk
  have SH := Lib.hid sh
  have SZ := Lib.hid (show ∀ k, k < ss.length → (ss.getD k ByteArray.empty).size ≤ 100 from sh.2)
  have SO := Lib.hid (fun (X : World) (h : StrsA X s ss) => short_any s scap ss X h (by have := sh.1; omega) (fun k hk => by have := sh.2 k hk; omega))
  have SA := Lib.hid (fun (X : World) (h : LaidC X) => sane X h)
  obtain ⟨n, hn⟩ : ∃ n, ss.length = n := ⟨_, rfl⟩
  have n60 : n ≤ 60 := by rw [← hn]; exact sh.1
  rw [hn] at SO SZ ⊢
  have HN := Lib.hid hn
  obtain ⟨r, hr⟩ : ∃ r, uw % 8 = r := ⟨_, rfl⟩
  have r8 : r < 8 := by omega
  have v1 : (uw : Int) % 8 = (r : Int) := by omega
  have v2 : (uw : Int).tmod 8 = (r : Int) := by rw [Int.tmod_eq_emod_of_nonneg (by omega)]; exact v1
  clear hs sh hla hlk hn
  go_enter Tryd.func6, Tryd.ntmps6
  go_wp2_with fail
  refine (SO.out _ (HS.out.mono (by (repeat' (first | (with_reducible exact Below.refl _ _) | (with_reducible assumption) | (with_reducible refine Below.alloc ?_ ?_ _) | (with_reducible refine Below.drew ?_) | (with_reducible refine below_dn ?_) | (with_reducible refine Below.setCell ?_ ?_ _) | (with_reducible exact Nat.le_refl _) | omega | (simp only [World.size_alloc, World.size_setCell, World.size_drew]; omega) | (simp; omega) | (simp; done)))))).mono ?_
  rintro e w1 ⟨⟨b, rfl, hb0⟩, hb⟩
  obtain rfl : b = true := hb0.2 SH.out
  have B := Lib.hid hb
  clear hb hb0 SO
  go_wp2_with fail
  obtain ⟨N, hN⟩ : ∃ N, 2 ^ r = N := ⟨_, rfl⟩
  have hN2 : N ≤ 128 := by
    have h1 := Nat.pow_le_pow_right (n := 2) (by decide) (show r ≤ 7 by omega)
    have e : (2 : Nat) ^ 7 = 128 := by decide
    omega
  have hN0 : 0 < N := by rw [← hN]; exact Nat.two_pow_pos r
  have v3 : wrap64 ((2 : Int) ^ r) = (N : Int) := by
    have e : (2 : Int) ^ r = (N : Int) := by rw [← hN]; simp
    rw [e]
    unfold wrap64
    omega
  obtain ⟨S, hS⟩ : ∃ S : Int, 1 + (us : Int) = S := ⟨_, rfl⟩
  have pwN : pw (N : Int) = true := decide_eq_true ⟨r, by omega, by rw [hN]⟩
  rw [v3, hS]
  have hS1 : 1 ≤ S := by omega
  have hS2 : S ≤ 1048576 := by omega
  refine (new_ok N S w1 (by omega) (by omega) pwN hS1 (by omega) hS2 (4 * N) (by omega)).mono ?_
  rintro e w2 ⟨⟨g, rfl, hr⟩, hb⟩
  have HW := Lib.hid (show ∃ k : Nat, k ≤ 12 ∧ N = 2 ^ k from ⟨r, by omega, hN.symm⟩)
  obtain ⟨m, hm⟩ : ∃ m, 4 * N = m := ⟨_, rfl⟩
  have GS := Lib.hid (Good.start (S := S) HW.out pwN hS1 hS2 m hm.symm)
  rw [hm] at hr ⊢
  have B2 := Lib.hid (bt B.out hb)
  have R := Lib.hid hr
  have m512 : m ≤ 512 := by omega
  have HM := Lib.hid hm
  have HS12 := Lib.hid (And.intro hS1 hS2)
  clear v1 v2 v3 hS hr hb hm hN pwN hN2 hN0 B hS1 hS2 hu hv r8 SH
  obtain ⟨o, ho⟩ : ∃ o, w2.heap.size = o := ⟨_, rfl⟩
  have K := Lib.hid (show Blk (w2.alloc (.cells #[.int .i64 N, .int .i64 S, .int .i64 0, .slice (some ⟨g, 0, none⟩) m m] 24)) o 24 #[.int .i64 N, .int .i64 S, .int .i64 0, .slice (some ⟨g, 0, none⟩) m m] from Blk.new' w2 _ _ _ ho rfl)
  have BB := Lib.hid (B2.out.alloc B2.out.size (.cells #[.int .i64 N, .int .i64 S, .int .i64 0, .slice (some ⟨g, 0, none⟩) m m] 24))
  have RR := Lib.hid (R.out.alloc (.cells #[.int .i64 N, .int .i64 S, .int .i64 0, .slice (some ⟨g, 0, none⟩) m m] 24))
  have HO := Lib.hid (show w.heap.size ≤ o by rw [← ho]; exact B2.out.size)
  go_wp2_with fail
  generalize hw3 : World.alloc w2 (.cells #[.int .i64 N, .int .i64 S, .int .i64 0, .slice (some ⟨g, 0, none⟩) m m] 24) = w3 at K BB RR ⊢
  clear hw3 ho R B2
  go_wp2_with fail
  go_loopw [10, 11, 12, 13, 14] (fun u10 u11 _ _ _ wr => ∃ (k : Nat) (A : Int) (g c : Nat) (l : List Int) (a : Option Addr) (q cc : Nat) (L : List Cn), k ≤ n ∧ u11 = .int .i64 k ∧ u10 = .slice a q cc ∧ Hid (L.length = q) ∧ Hid (Good N S A l L k) ∧ Hid (OwnC wr w.heap.size (.slice a q cc) L) ∧ Hid (RowI wr g l) ∧ Hid (Blk wr o 24 #[.int .i64 N, .int .i64 S, .int .i64 A, .slice (some ⟨g, 0, none⟩) m c]) ∧ Hid (Below w.heap.size w wr)) (fun _ u11 _ _ _ _ => n - (intOf u11).toNat)
  case atStart => exact ⟨0, 0, g, m, _, none, 0, 0, [], by omega, rfl, rfl, Lib.hid rfl, GS, Lib.hid (OwnR.nil _ _ _ _ _), RR, K, BB⟩
  case round =>
    obtain ⟨k, A, g1, c1, l, a, q, cc, L, hk, rfl, rfl, HQ, GD, OC, RR1, K1, B1⟩ := hrel
    clear GS K BB RR
    by_cases hlt : k < n
    · obtain ⟨bs, os, rfl, q1⟩ := HS.out.mono B1.out k (by rw [HN.out]; exact hlt)
      have z1 : (ss.getD k ByteArray.empty).size ≤ 100 := SZ.out k hlt
      obtain ⟨key, hkey⟩ : ∃ s, ss.getD k ByteArray.empty = s := ⟨_, rfl⟩
      rw [hkey] at q1 z1
      have k0 : (0 : Int) ≤ (k : Int) := by omega
      have kn : (k : Int) < (n : Int) := by omega
      have GN := Lib.hid (GD.out.next key z1)
      have AD := Lib.hid (fun (X : World) (h : IntsA X (some ⟨g1, 0, none⟩) l) (h2 : LaidC X) => add_m GD.out.ok (show l.length = m by have := (pos_of_ok GD.out.ok).2.1; rw [this]; exact HM.out) (some ⟨g1, 0, none⟩) c1 key z1 X h h2)
      obtain ⟨d0, d1, d2, d3⟩ := four K1.out
      clear hkey z1
      go_wp2_with fail
      refine wp_region_still_tail 5 (by kernel_rfl) (by kernel_rfl) ?_
      simp only [List.take_succ_cons, List.take_zero, List.drop_succ_cons, List.drop_zero]
      show wpStill _ _ (World.drew _) _ _ _
      repeat still_step
      refine wpStill_nil ?_
      show wpList _ _ _ _ _ (World.drew _)
      go_wp2_with fail
      refine (AD.out _ (RR1.out.ints.mono (Below.drew (Below.refl _ wr))) (LA.out.mono (Below.drew B1.out))).mono ?_
      rintro e w4 ⟨⟨g2, c2, rfl, hg2, hr2⟩, hb⟩
      obtain ⟨A2, hA2⟩ : ∃ x, nxA S A = x := ⟨_, rfl⟩
      obtain ⟨l2, hl2⟩ : ∃ x, nxL N (pl key) S A l = x := ⟨_, rfl⟩
      rw [hA2, hl2] at GN
      rw [hA2]
      rw [hl2] at hr2
      have HA2 := Lib.hid hA2
      have NE := Lib.hid (show bs ≠ o by have h : bs < w.heap.size := by { obtain ⟨b', o', e, h⟩ := HS.out k (by rw [HN.out]; exact hlt); injection e with e; injection e with e1 e2; subst e1; exact block_lt_of_cell h }; have := HO.out; omega)
      replace K1 := Lib.hid (K1.out.drew.below hb K1.out.lt)
      replace OC := Lib.hid (show OwnC w4 w.heap.size (.slice a q cc) L from OwnR.below (OwnR.drew OC.out) hb)
      have Q1 := Lib.hid (keep (W := wr.drew) q1 hb)
      replace B1 := Lib.hid (bt (Below.drew B1.out) hb)
      have R2 := Lib.hid hr2
      have NG := Lib.hid (show g2 ≠ o from Blk.ne K1.out (by decide) hr2)
      have NV := Lib.hid (OwnC.ne OC.out K1.out (by decide))
      obtain ⟨d0, d1, d2, d3⟩ := four K1.out
      have fz := fun q => K1.out.frozen q
      clear hb hr2 hg2 AD RR1 q1 hA2 hl2
      go_upto_region 11 with (fail)
      have K5 := Lib.hid (K1.out.set4 (.int .i64 N) (.int .i64 S) (.int .i64 A2) (.slice (some ⟨g2, 0, none⟩) m c2))
      have O5 := Lib.hid (OC.out.set4 NV.out (.int .i64 N) (.int .i64 S) (.int .i64 A2) (.slice (some ⟨g2, 0, none⟩) m c2))
      have R5 := Lib.hid (R2.out.set4 NG.out (.int .i64 N) (.int .i64 S) (.int .i64 A2) (.slice (some ⟨g2, 0, none⟩) m c2))
      have q5 := cell_set4 Q1.out NE.out (.int .i64 N) (.int .i64 S) (.int .i64 A2) (.slice (some ⟨g2, 0, none⟩) m c2)
      have B5 := Lib.hid (below_set4 B1.out HO.out (.int .i64 N) (.int .i64 S) (.int .i64 A2) (.slice (some ⟨g2, 0, none⟩) m c2))
      simp only [set4] at K5 O5 R5 q5 B5
      generalize hw5 : (((w4.setCell ⟨o, 0, none⟩ (.int .i64 N)).setCell ⟨o, 1, none⟩ (.int .i64 S)).setCell ⟨o, 2, none⟩ (.int .i64 A2)).setCell ⟨o, 3, none⟩ (.slice (some ⟨g2, 0, none⟩) m c2) = w5 at K5 O5 R5 q5 B5 ⊢
      clear hw5 d0 d1 d2 d3 fz K1 OC R2 Q1 B1
      have MO := Lib.hid (more_any L (.slice a q cc) w.heap.size key w5 O5.out B5.out.size (by have := GD.out.ln; omega) GD.out.sm)
      go_wp2_with fail
      refine MO.out.mono ?_
      rintro e w6 ⟨⟨v', rfl, ho6⟩, hg6⟩
      have NV5 := Lib.hid (O5.out.ne K5.out (by decide))
      have NR5 := Lib.hid (O5.out.neRow R5.out)
      have K6 := Lib.hid (K5.out.grown hg6 NV5.out)
      have R6 := Lib.hid (R5.out.grown hg6 NR5.out)
      have B6 := Lib.hid (below_grown B5.out hg6 O5.out B5.out.size)
      obtain ⟨a6, cap6, rfl, -, -⟩ := OwnR.view encC_len ho6
      have O6 := Lib.hid ho6
      obtain ⟨q6, hq6⟩ : ∃ q, (moreL L key).length = q := ⟨_, rfl⟩
      rw [hq6] at O6 ⊢
      have HQ6 := Lib.hid hq6
      have A0 := GD.out.ok.a0
      have A3 := GD.out.ok.a1
      have S20 := HS12.out.2
      have p2 : w6.cell? ⟨o, 2, none⟩ = some (.int .i64 A2) := K6.out.cell 2
      have SM6 := Lib.hid (GD.out.sm.more key)
      have GD' := Lib.hid (GN.out.ok.a0)
      clear hg6 ho6 hq6 MO NV NG NE NV5 NR5 K5 O5 R5 q5 B5 HQ
      have wA : IntKind.i64.wrap (A + 1) = A + 1 := by rw [IntKind.wrap_i64]; omega
      obtain ⟨wa, rfl⟩ : ∃ v, v = wr := ⟨_, rfl⟩
      obtain ⟨L6, hL6⟩ : ∃ x, moreL L key = x := ⟨_, rfl⟩
      rw [hL6] at O6 HQ6 SM6
      have HL6 := Lib.hid hL6
      clear hL6
      have HNX := Lib.hid (show (A + 1 = S → A2 = (A + 1) / 2 ∧ nxC S A L key = halveC L6) ∧ (A + 1 ≠ S → A2 = A + 1 ∧ nxC S A L key = L6) from ⟨fun h => ⟨by rw [← HA2.out]; unfold nxA; rw [if_pos h], by unfold nxC; rw [if_pos h, HL6.out]⟩, fun h => ⟨by rw [← HA2.out]; unfold nxA; rw [if_neg h], by unfold nxC; rw [if_neg h, HL6.out]⟩⟩)
      obtain ⟨LN, hLN⟩ : ∃ x, nxC S A L key = x := ⟨_, rfl⟩
      rw [hLN] at HNX GN
      have HQN := Lib.hid (show LN.length = q6 by
        by_cases hS : A + 1 = S
        · rw [(HNX.out.1 hS).2, halveC_len]; exact HQ6.out
        · rw [(HNX.out.2 hS).2]; exact HQ6.out)
      have GL := Lib.hid (show q6 ≤ 61 by have := GN.out.ln; rw [HQN.out] at this; omega)
      clear hLN
      go_upto_if 65 with (fail)
      go_cut [10, 13] from 66 to 81 (fun u10 _ wx => u10 = .slice a6 q6 cap6 ∧ Hid (OwnC wx w.heap.size (.slice a6 q6 cap6) LN) ∧ Hid (RowI wx g2 l2) ∧ Hid (Blk wx o 24 #[.int .i64 N, .int .i64 S, .int .i64 A2, .slice (some ⟨g2, 0, none⟩) m c2]) ∧ Hid (Below w.heap.size w wx))
      case first =>
        clear GN GD SA LK HS HQN
        by_cases hS : A + 1 = S
        · have hAA := (HNX.out.1 hS).1
          have hne : (A2 != A + 1) = true := by simp; omega
          have HC := Lib.hid (HNX.out.1 hS).2
          clear hAA
          go_wp2_with fail
          go_loopw [13] (fun u13 wr => ∃ i : Nat, i ≤ q6 ∧ u13 = .int .i64 i ∧ Hid (OwnC wr w.heap.size (.slice a6 q6 cap6) (hv L6 i)) ∧ Hid (RowI wr g2 l2) ∧ Hid (Blk wr o 24 #[.int .i64 N, .int .i64 S, .int .i64 A2, .slice (some ⟨g2, 0, none⟩) m c2]) ∧ Hid (Below w.heap.size w wr)) (fun u13 _ => q6 - (intOf u13).toNat)
          case atStart => exact ⟨0, by omega, rfl, by rw [hv_zero]; exact O6, R6, K6, B6⟩
          case round =>
            clear O6 R6 K6 B6 p2
            obtain ⟨i, hi, rfl, O6, R6, K6, B6⟩ := hrel
            by_cases hiq : i < q6
            · have hil : i < L6.length := by rw [HQ6.out]; exact hiq
              have hil2 : i < (hv L6 i).length := by rw [hv_len _ _ (by omega)]; exact hil
              obtain ⟨gg, rfl, e0, e1, e2⟩ := O6.out.at hil2
              have NR := Lib.hid (O6.out.neRow R6.out)
              have NB := Lib.hid (O6.out.ne K6.out (by decide))
              have LT := Lib.hid (OwnR.lt O6.out gg rfl)
              have ST := (O6.out.set hil2 ((L6.getD i cn0).2 / 2)).1
              have sm := SM6.out _ (List.getElem_mem hil)
              rw [← getD_at cn0 hil] at sm
              rw [hv_at _ _ hil] at e0 e1 ST
              rw [hv_step _ _ hil] at ST
              have S7 := Lib.hid ST
              obtain ⟨x, hx⟩ : ∃ x, (L6.getD i cn0).2 = x := ⟨_, rfl⟩
              rw [hx] at e1 S7 sm
              have td : x.tdiv 2 = x / 2 := Int.tdiv_eq_ediv_of_nonneg (by omega)
              obtain ⟨y, hy⟩ : ∃ y, x / 2 = y := ⟨_, rfl⟩
              rw [hy] at td S7
              have wy : IntKind.i64.wrap y = y := by rw [IntKind.wrap_i64]; omega
              have i0 : (0 : Int) ≤ (i : Int) := by omega
              have iq : (i : Int) < (q6 : Int) := by omega
              have q60 : q6 ≤ 1000000 := by have := GL.out; omega
              clear hx hy ST hil2 hil
              go_wp2_with fail
              go_roundw
              case rel => exact ⟨i + 1, by omega, by go_num, S7, Lib.hid (R6.out.far (fun h => NR.out (by simp [Value.ownBlock, h])) _), Lib.hid (K6.out.far (fun h => NB.out (by simp [Value.ownBlock, h])) _), Lib.hid (B6.out.setCell LT.out _)⟩
              case measure => simp [intOf]; omega
            · have hiq2 : i = L6.length := by rw [HQ6.out]; omega
              have O7 := Lib.hid (show OwnC wr w.heap.size (.slice a6 q6 cap6) LN by rw [HC.out, ← hv_all, ← hiq2]; exact O6.out)
              clear hiq2 O6
              go_wp2_with fail
              go_meet
              exact ⟨rfl, O7, R6, K6, B6⟩
        · have hAA := (HNX.out.2 hS).1
          have hne : (A2 != A + 1) = false := by simp; exact hAA
          have HC := Lib.hid (HNX.out.2 hS).2
          clear hAA
          go_wp2_with fail
          go_meet
          exact ⟨rfl, by rw [HC.out]; exact O6, R6, K6, B6⟩
      case rest =>
        obtain ⟨rfl, O7, R7, K7, B7⟩ := hcut
        clear O6 R6 K6 B6 p2 HL6 SM6 HQ6 HNX HA2
        go_wp2_with fail
        go_loopw [14] (fun u14 wr => ∃ i : Nat, i ≤ q6 ∧ u14 = .int .i64 i ∧ Hid (OwnC wr w.heap.size (.slice a6 q6 cap6) LN) ∧ Hid (RowI wr g2 l2) ∧ Hid (Blk wr o 24 #[.int .i64 N, .int .i64 S, .int .i64 A2, .slice (some ⟨g2, 0, none⟩) m c2]) ∧ Hid (Below w.heap.size w wr)) (fun u14 _ => q6 - (intOf u14).toNat)
        case atStart => exact ⟨0, by omega, rfl, O7, R7, K7, B7⟩
        case round =>
          clear O7 R7 K7 B7
          obtain ⟨i, hi, rfl, O7, R7, K7, B7⟩ := hrel
          by_cases hiq : i < q6
          · have hil : i < LN.length := by rw [HQN.out]; exact hiq
            obtain ⟨gg, rfl, e0, e1, -⟩ := O7.out.at hil
            have hge := GN.out.ge hil
            have hsm := GN.out.small hil
            have CN := Lib.hid (fun (X : World) (h : IntsA X (some ⟨g2, 0, none⟩) l2) (h2 : LaidC X) => count_m GN.out.ok (show l2.length = m by have := (pos_of_ok GN.out.ok).2.1; rw [this]; exact HM.out) (some ⟨g2, 0, none⟩) c2 (LN.getD i cn0).1 hsm.2.2 X h h2)
            obtain ⟨kk, hkk⟩ : ∃ x, (LN.getD i cn0).1 = x := ⟨_, rfl⟩
            obtain ⟨y, hy⟩ : ∃ x, (LN.getD i cn0).2 = x := ⟨_, rfl⟩
            simp only [hkk] at CN
            rw [hkk] at e0 hge
            rw [hy] at e1 hge
            obtain ⟨x, hx⟩ : ∃ x, cnt N (pl kk) l2 = x := ⟨_, rfl⟩
            rw [hx] at CN hge
            have t1 : decide (x < y) = false := decide_eq_false (by omega)
            have E0 := Lib.hid (show (World.drew wr).cell? ⟨gg, i * 2, none⟩ = some (.string kk) from e0)
            have E1 := Lib.hid (show (World.drew wr).cell? ⟨gg, i * 2 + 1, none⟩ = some (.int .i64 y) from e1)
            replace K7 := Lib.hid K7.out.drew
            replace R7 := Lib.hid R7.out.drew
            replace O7 := Lib.hid O7.out.drew
            replace B7 := Lib.hid (Below.drew B7.out)
            have i0 : (0 : Int) ≤ (i : Int) := by omega
            have iq : (i : Int) < (q6 : Int) := by omega
            have q60 : q6 ≤ 1000000 := by have := GL.out; omega
            clear hkk hy hx hge hsm e0 e1 hil
            go_wp2_with fail
            go_region_held3 (fun X => (X.cell? ⟨o, 0, none⟩ = some (.int .i64 N) ∧ X.cell? ⟨o, 1, none⟩ = some (.int .i64 S) ∧ X.cell? ⟨o, 2, none⟩ = some (.int .i64 A2) ∧ X.cell? ⟨o, 3, none⟩ = some (.slice (some ⟨g2, 0, none⟩) m c2)) ∧ X.cell? ⟨gg, i * 2, none⟩ = some (.string kk) ∧ X.cell? ⟨gg, i * 2 + 1, none⟩ = some (.int .i64 y)) (first | with_reducible exact ⟨four K7.out, E0.out, E1.out⟩) (first | (go_at_call 15; with_reducible refine (CN.out _ R7.out.ints (LA.out.mono B7.out)).mono ?_; rintro r w8 ⟨rfl, hb⟩; replace K7 := Lib.hid (K7.out.below hb K7.out.lt); replace R7 := Lib.hid (R7.out.below hb R7.out.lt); replace O7 := Lib.hid (O7.out.below hb); replace B7 := Lib.hid (bt B7.out hb); replace E0 := Lib.hid (keep E0.out hb); replace E1 := Lib.hid (keep E1.out hb); clear hb))
            go_wp2_with fail
            go_roundw
            case rel => exact ⟨i + 1, by omega, by go_num, O7, R7, K7, B7⟩
            case measure => simp [intOf]; omega
          · go_wp2_with fail
            go_roundw
            case rel => exact ⟨k + 1, A2, g2, c2, l2, a6, q6, cap6, LN, by omega, by go_num, rfl, HQN, GN, O7, R7, K7, B7⟩
            case measure => simp [intOf]; omega
    · have GL := Lib.hid (show q ≤ 61 by have := GD.out.ln; rw [HQ.out] at this; omega)
      have A0 := GD.out.ok.a0
      obtain ⟨wa, rfl⟩ : ∃ v, v = wr := ⟨_, rfl⟩
      go_wp2_with fail
      go_loopw [15, 16, 17] (fun u15 _ _ wr => ∃ i : Nat, i ≤ q ∧ u15 = .int .i64 i ∧ Hid (OwnC wr w.heap.size (.slice a q cc) L) ∧ Hid (RowI wr g1 l) ∧ Hid (Blk wr o 24 #[.int .i64 N, .int .i64 S, .int .i64 A, .slice (some ⟨g1, 0, none⟩) m c1]) ∧ Hid (Below w.heap.size w wr)) (fun u15 _ _ _ => q - (intOf u15).toNat)
      case atStart => exact ⟨0, by omega, rfl, OC, RR1, K1, B1⟩
      case round =>
        clear OC RR1 K1 B1
        obtain ⟨i, hi, rfl, O7, R7, K7, B7⟩ := hrel
        by_cases hiq : i < q
        · have hil : i < L.length := by rw [HQ.out]; exact hiq
          have hsm := GD.out.small hil
          have EQ := Lib.hid (GD.out.eq hil)
          have CN := Lib.hid (fun (X : World) (h : IntsA X (some ⟨g1, 0, none⟩) l) (h2 : LaidC X) => count_m GD.out.ok (show l.length = m by have := (pos_of_ok GD.out.ok).2.1; rw [this]; exact HM.out) (some ⟨g1, 0, none⟩) c1 (L.getD i cn0).1 hsm.2.2 X h h2)
          have AT := Lib.hid (fun (X : World) (h : OwnC X w.heap.size (.slice a q cc) L) => h.at hil)
          have AJ := Lib.hid (fun (j : Nat) (hj : j < q) (X : World) (h : OwnC X w.heap.size (.slice a q cc) L) => h.at (i := j) (by rw [HQ.out]; exact hj))
          have SJ := Lib.hid (fun (j : Nat) (hj : j < q) => GD.out.small (i := j) (by rw [HQ.out]; exact hj))
          have SR := Lib.hid (fun (k2 : ByteArray) (h : k2.size ≤ 100) (X : World) (h2 : LaidK X) => shared_any (L.getD i cn0).1 k2 N X (by have := hsm.2.2; omega) (by omega) HW.out h2)
          obtain ⟨kk, hkk⟩ : ∃ x, (L.getD i cn0).1 = x := ⟨_, rfl⟩
          obtain ⟨y, hy⟩ : ∃ x, (L.getD i cn0).2 = x := ⟨_, rfl⟩
          simp only [hkk, hy, HQ.out] at CN EQ AT SR
          obtain ⟨x, hx⟩ : ∃ x, cnt N (pl kk) l = x := ⟨_, rfl⟩
          rw [hx] at CN EQ
          have i0 : (0 : Int) ≤ (i : Int) := by omega
          have iq : (i : Int) < (q : Int) := by omega
          have q60 : q ≤ 61 := GL.out
          clear hkk hy hx hsm hil
          go_wp2_with fail
          obtain ⟨wb, rfl⟩ : ∃ v, v = wr := ⟨_, rfl⟩
          go_loopw [16, 17] (fun u16 u17 wr => ∃ (j : Nat) (b : Bool), j ≤ q ∧ u17 = .int .i64 j ∧ u16 = .bool b ∧ Hid (b = true → ∀ j', j' < j → j' = i ∨ ¬ Shares N (pl kk) (pl (L.getD j' cn0).1)) ∧ Hid (OwnC wr w.heap.size (.slice a q cc) L) ∧ Hid (RowI wr g1 l) ∧ Hid (Blk wr o 24 #[.int .i64 N, .int .i64 S, .int .i64 A, .slice (some ⟨g1, 0, none⟩) m c1]) ∧ Hid (Below w.heap.size w wr)) (fun _ u17 _ => q - (intOf u17).toNat)
          case atStart => exact ⟨0, true, by omega, rfl, rfl, Lib.hid (fun _ j' h => absurd h (by omega)), O7, R7, K7, B7⟩
          case round =>
            clear O7 R7 K7 B7
            obtain ⟨j, b, hj, rfl, rfl, HB, O7, R7, K7, B7⟩ := hrel
            by_cases hjq : j < q
            · cases b
              · go_wp2_with fail
                go_quiet (fail)
                go_wp2_with fail
                go_roundw
                case rel => exact ⟨j + 1, false, by omega, by go_num, rfl, Lib.hid (fun h => by cases h), Lib.hid (O7.out.drewN _), Lib.hid (R7.out.drewN _), Lib.hid (K7.out.drewN _), Lib.hid (below_dn B7.out)⟩
                case measure => simp [intOf]; omega
              · have HB1 := Lib.hid (HB.out rfl)
                clear HB
                by_cases hji : j = i
                · have t1 : ((j : Int) == (i : Int)) = true := by rw [hji]; exact beq_self_eq_true _
                  have t2 : decide ((j : Int) = (i : Int)) = true := decide_eq_true (by omega)
                  have HJI := Lib.hid hji
                  clear hji
                  go_wp2_with fail
                  go_quiet (fail)
                  go_wp2_with fail
                  go_roundw
                  case rel =>
                    refine ⟨j + 1, true, by omega, by go_num, rfl, Lib.hid (fun h j' hj' => ?_), Lib.hid (O7.out.drewN _), Lib.hid (R7.out.drewN _), Lib.hid (K7.out.drewN _), Lib.hid (below_dn B7.out)⟩
                    rcases Nat.lt_or_ge j' j with h1 | h1
                    · exact HB1.out j' h1
                    · left; have := HJI.out; omega
                  case measure => simp [intOf]; omega
                · have t1 : ((j : Int) == (i : Int)) = false := beq_eq_false_iff_ne.2 (by omega)
                  have t2 : decide ((j : Int) = (i : Int)) = false := decide_eq_false (by omega)
                  obtain ⟨gg, e, e0, -, -⟩ := AT.out wr O7.out
                  obtain ⟨g', rfl, f0, -, -⟩ := AJ.out j hjq wr O7.out
                  injection e with e; injection e with e
                  subst e
                  have sj := (SJ.out j hjq).2.2
                  have SR2 := Lib.hid (fun (X : World) (h2 : LaidK X) => SR.out _ sj X h2)
                  obtain ⟨k2, hk2⟩ : ∃ x, (L.getD j cn0).1 = x := ⟨_, rfl⟩
                  simp only [hk2] at SR2
                  rw [hk2] at f0
                  have HK2 := Lib.hid hk2
                  have E0 := Lib.hid (show (World.drew wr).cell? ⟨g', i * 2, none⟩ = some (.string kk) from e0)
                  have E1 := Lib.hid (show (World.drew wr).cell? ⟨g', j * 2, none⟩ = some (.string k2) from f0)
                  replace K7 := Lib.hid K7.out.drew
                  replace R7 := Lib.hid R7.out.drew
                  replace O7 := Lib.hid O7.out.drew
                  replace B7 := Lib.hid (Below.drew B7.out)
                  have j0 : (0 : Int) ≤ (j : Int) := by omega
                  have jq : (j : Int) < (q : Int) := by omega
                  clear hji e0 f0 hk2 sj
                  go_wp2_with fail
                  go_region_held3 (fun X => (X.cell? ⟨o, 0, none⟩ = some (.int .i64 N) ∧ X.cell? ⟨o, 1, none⟩ = some (.int .i64 S) ∧ X.cell? ⟨o, 2, none⟩ = some (.int .i64 A) ∧ X.cell? ⟨o, 3, none⟩ = some (.slice (some ⟨g1, 0, none⟩) m c1)) ∧ X.cell? ⟨g', i * 2, none⟩ = some (.string kk) ∧ X.cell? ⟨g', j * 2, none⟩ = some (.string k2)) (first | with_reducible exact ⟨four K7.out, E0.out, E1.out⟩) (first | (go_at_call 29; with_reducible refine (SR2.out _ (LK.out.mono B7.out)).mono ?_; rintro r w8 ⟨hjd, hb⟩; obtain ⟨b, rfl, hsb⟩ := Judged.tell hjd; replace K7 := Lib.hid (K7.out.below hb K7.out.lt); replace R7 := Lib.hid (R7.out.below hb R7.out.lt); replace O7 := Lib.hid (O7.out.below hb); replace B7 := Lib.hid (bt B7.out hb); replace E0 := Lib.hid (keep E0.out hb); replace E1 := Lib.hid (keep E1.out hb); have HSB := Lib.hid hsb; clear hb hsb))
                  go_wp2_with fail
                  go_roundw
                  case rel =>
                    refine ⟨j + 1, !b, by omega, by go_num, rfl, Lib.hid (fun h j' hj' => ?_), O7, R7, K7, B7⟩
                    rcases Nat.lt_or_ge j' j with h1 | h1
                    · exact HB1.out j' h1
                    · right
                      rw [show j' = j by omega, HK2.out]
                      intro hs
                      rw [HSB.out.2 hs] at h
                      cases h
                  case measure => simp [intOf]; omega
            · have hjq2 : j = q := by omega
              cases b
              · go_wp2_with fail
                go_quiet (fail)
                go_wp2_with fail
                go_roundw
                case rel => exact ⟨i + 1, by omega, by go_num, Lib.hid (O7.out.drewN _), Lib.hid (R7.out.drewN _), Lib.hid (K7.out.drewN _), Lib.hid (below_dn B7.out)⟩
                case measure => simp [intOf]; omega
              · obtain ⟨gg, rfl, e0, e1, -⟩ := AT.out wr O7.out
                have hxy : x = y := EQ.out (fun j' hj' => HB.out rfl j' (by omega))
                have t1 : (x != y) = false := by simp [hxy]
                have E0 := Lib.hid (show (World.drew wr).cell? ⟨gg, i * 2, none⟩ = some (.string kk) from e0)
                have E1 := Lib.hid (show (World.drew wr).cell? ⟨gg, i * 2 + 1, none⟩ = some (.int .i64 y) from e1)
                replace K7 := Lib.hid K7.out.drew
                replace R7 := Lib.hid R7.out.drew
                replace O7 := Lib.hid O7.out.drew
                replace B7 := Lib.hid (Below.drew B7.out)
                clear hxy e0 e1
                go_wp2_with fail
                go_region_held3 (fun X => (X.cell? ⟨o, 0, none⟩ = some (.int .i64 N) ∧ X.cell? ⟨o, 1, none⟩ = some (.int .i64 S) ∧ X.cell? ⟨o, 2, none⟩ = some (.int .i64 A) ∧ X.cell? ⟨o, 3, none⟩ = some (.slice (some ⟨g1, 0, none⟩) m c1)) ∧ X.cell? ⟨gg, i * 2, none⟩ = some (.string kk) ∧ X.cell? ⟨gg, i * 2 + 1, none⟩ = some (.int .i64 y)) (first | with_reducible exact ⟨four K7.out, E0.out, E1.out⟩) (first | (go_at_call 15; with_reducible refine (CN.out _ R7.out.ints (LA.out.mono B7.out)).mono ?_; rintro r w8 ⟨rfl, hb⟩; replace K7 := Lib.hid (K7.out.below hb K7.out.lt); replace R7 := Lib.hid (R7.out.below hb R7.out.lt); replace O7 := Lib.hid (O7.out.below hb); replace B7 := Lib.hid (bt B7.out hb); replace E0 := Lib.hid (keep E0.out hb); replace E1 := Lib.hid (keep E1.out hb); clear hb))
                go_wp2_with fail
                go_roundw
                case rel => exact ⟨i + 1, by omega, by go_num, O7, R7, K7, B7⟩
                case measure => simp [intOf]; omega
        · go_wp2_with fail
          refine (SA.out _ (LA.out.mono B7.out)).mono ?_
          rintro r w9 ⟨rfl, hb⟩
          have B9 := Lib.hid (bt B7.out hb)
          clear hb
          go_wp2_with fail
          go_ret
          exact ⟨rfl, B9.out⟩
end
section
open Go.RowKit
set_option maxRecDepth 100000 in
set_option maxHeartbeats 2000000 in
theorem never_law (uw us : Nat) (s : Option Addr) (scap : Nat) (ss : List ByteArray) (w : World) (hs : StrsA w s ss) (hsm : ss.length ≤ 9223372036854775807) (hz : ∀ x ∈ ss, x.size ≤ 9223372036854775807) (hu : uw < 256) (hv : us ≤ 65535) (hla : LaidC w) (hlk : LaidK w) :
    Calls Tryd.prog 6 #[.int .u8 uw, .int .u16 us, .slice s ss.length scap] w fun e w' => e = .returned (.bool true) ∧ Below w.heap.size w w' := by
  by_cases sh : Short ss
  · exact never_ok uw us s scap ss w hs hu hv sh hla hlk
  · have HS := Lib.hid hs; have LA := Lib.hid hla
    have SH := Lib.hid sh
    have SO := Lib.hid (fun (X : World) (h : StrsA X s ss) => short_any s scap ss X h hsm (fun k hk => by rw [getD_at _ hk]; exact hz _ (List.getElem_mem hk)))
    have SA := Lib.hid (fun (X : World) (h : LaidC X) => sane X h)
    obtain ⟨n, hn⟩ : ∃ n, ss.length = n := ⟨_, rfl⟩
    rw [hn] at SO ⊢
    obtain ⟨r, hr⟩ : ∃ r, uw % 8 = r := ⟨_, rfl⟩
    have r8 : r < 8 := by omega
    have v1 : (uw : Int) % 8 = (r : Int) := by omega
    have v2 : (uw : Int).tmod 8 = (r : Int) := by rw [Int.tmod_eq_emod_of_nonneg (by omega)]; exact v1
    clear hs sh hla hlk hn hsm hz
    go_enter Tryd.func6, Tryd.ntmps6
    go_wp2_with fail
    refine (SO.out _ (HS.out.mono (by (repeat' (first | (with_reducible exact Below.refl _ _) | (with_reducible assumption) | (with_reducible refine Below.alloc ?_ ?_ _) | (with_reducible refine Below.drew ?_) | (with_reducible refine below_dn ?_) | (with_reducible refine Below.setCell ?_ ?_ _) | (with_reducible exact Nat.le_refl _) | omega | (simp only [World.size_alloc, World.size_setCell, World.size_drew]; omega) | (simp; omega) | (simp; done)))))).mono ?_
    rintro e w1 ⟨⟨b, rfl, hb0⟩, hb⟩
    obtain rfl : b = false := by
      cases b
      · rfl
      · exact absurd (hb0.1 rfl) SH.out
    have B := Lib.hid hb
    clear hb hb0 SO
    go_wp2_with fail
    obtain ⟨N, hN⟩ : ∃ N, 2 ^ r = N := ⟨_, rfl⟩
    have hN2 : N ≤ 128 := by
      have h1 := Nat.pow_le_pow_right (n := 2) (by decide) (show r ≤ 7 by omega)
      have e : (2 : Nat) ^ 7 = 128 := by decide
      omega
    have hN0 : 0 < N := by rw [← hN]; exact Nat.two_pow_pos r
    have v3 : wrap64 ((2 : Int) ^ r) = (N : Int) := by
      have e : (2 : Int) ^ r = (N : Int) := by rw [← hN]; simp
      rw [e]
      unfold wrap64
      omega
    obtain ⟨S, hS⟩ : ∃ S : Int, 1 + (us : Int) = S := ⟨_, rfl⟩
    have pwN : pw (N : Int) = true := decide_eq_true ⟨r, by omega, by rw [hN]⟩
    rw [v3, hS]
    refine (new_ok N S w1 (by omega) (by omega) pwN (by omega) (by omega) (by omega) (4 * N) (by omega)).mono ?_
    rintro e w2 ⟨⟨g, rfl, -⟩, hb⟩
    obtain ⟨m, hm⟩ : ∃ m, 4 * N = m := ⟨_, rfl⟩
    rw [hm]
    have BB := Lib.hid (let B2 := bt B.out hb; B2.alloc B2.size (.cells #[.int .i64 N, .int .i64 S, .int .i64 0, .slice (some ⟨g, 0, none⟩) m m] 24))
    clear v1 v2 v3 hS hb hm hN pwN hN2 hN0 B hu hv r8 SH
    go_wp2_with fail
    refine (SA.out _ (LA.out.mono BB.out)).mono ?_
    rintro r w9 ⟨rfl, hb⟩
    have B9 := Lib.hid (bt BB.out hb)
    clear hb
    go_wp2_with fail
    go_ret
    exact ⟨rfl, B9.out⟩
end
end Go.Proofs.YtmmjkhamknfhpaaDoor
