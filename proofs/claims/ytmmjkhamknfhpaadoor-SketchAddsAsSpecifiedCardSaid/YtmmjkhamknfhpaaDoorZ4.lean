/- Law 4: additions one after the other are as the specification says. (ZB, ZC, AR, S, X, P4, W4 in one text) -/
import Derived.Test.YtmmjkhamknfhpaaDoorD
import Derived.Test.YtmmjkhamknfhpaaDoorI
import Derived.Test.YtmmjkhamknfhpaaDoorK
import Derived.Deep.Cut
import Derived.Deep.CutRange
import Derived.Deep.DeepCutAuto
import Derived.Deep.RegionLaw
import Derived.Test.YtmmjkhamknfhpaaDoorN
import Derived.BigQuiet
import Derived.Lib.QuietBelow
import Derived.Test.YtmmjkhamknfhpaaDoorE
import Derived.Test.YtmmjkhamknfhpaaDoorHAA
import Derived.Deep.RegionHeld3
namespace Go.Proofs.YtmmjkhamknfhpaaDoor
set_option linter.unusedVariables false
set_option linter.unusedSimpArgs false
section
open Go.RowKit
theorem own_empty {W : World} {g : Nat} (h : W.heap[g]? = some (.cells #[] 3 (0, 0))) : OwnI W g (.slice (some ⟨g, 0, none⟩) 0 0) [] :=
  ⟨rfl, Or.inr ⟨g, 0, #[], rfl, Nat.le_refl _, h, Nat.le_refl _, Nat.zero_le _, rfl, rfl⟩⟩
theorem run_appE (a : Option Addr) (cap : Nat) (l : List Int) (X : World) (hp : IntsA X a l) (hm : l.length ≤ 1000000) (g : Nat) (h : X.heap[g]? = some (.cells #[] 3 (0, 0))) :
    ∃ b n c w', (Builtin.append_ #[22, 22] 22 #[.slice (some ⟨g, 0, none⟩) 0 0, .slice a l.length cap]).run Tryd.prog X = .ok (.slice b n c) w' ∧ OwnI w' g (.slice b n c) l ∧ Below g X w' := by
  obtain ⟨i0, hi, hz0, hz1, hz2⟩ := info_parts infoI
  have hg : g < X.heap.size := (Array.getElem?_eq_some_iff.1 h).1
  have hown := own_empty h
  obtain ⟨v', w', hr, h2, h3⟩ := run_app_src (P := Tryd.prog) X g 22 22 22 3 i0 (.int .i64 0) Tryd.underlying22 hi hz0 (by rw [hz1]; rfl) (by rw [hz1]; decide) _ 0 [] (by rw [hz1]; exact hown) (.slice a l.length cap) l.length (l.map iv) (by rw [hz1]; exact src_ints hp) (by unfold maxLen; omega) (by rw [hz2]; omega) (by omega)
  have ho : OwnI w' g v' l := by
    unfold OwnI
    rw [← hz1]
    simpa using h2
  obtain ⟨b2, c2, e, -, -⟩ := ho.view
  subst e
  exact ⟨b2, _, c2, w', hr, ho, grown_below (Below.refl _ _) h3 hown.lt (by omega)⟩
end
section
open Go.RowKit
theorem run_appN (a : Option Addr) (cap : Nat) (l : List Int) (X : World) (hp : IntsA X a l) (hm : l.length ≤ 1000000) (hn : 0 < l.length) (g : Nat) (h : X.heap[g]? = some (.cells #[] 3 (0, 0))) :
    ∃ b c w', (Builtin.append_ #[22, 22] 22 #[.slice (some ⟨g, 0, none⟩) 0 0, .slice a l.length cap]).run Tryd.prog X = .ok (.slice (some ⟨b, 0, none⟩) l.length c) w' ∧ l.length ≤ c ∧ g ≤ b ∧ RowI w' b l ∧ (∀ k t cs, k ≠ g → Blk X k t cs → Blk w' k t cs) ∧ ∀ B, B ≤ g → Below B X w' := by
  obtain ⟨i0, hi, hz0, hz1, hz2⟩ := info_parts infoI
  have hg : g < X.heap.size := (Array.getElem?_eq_some_iff.1 h).1
  have hown := own_empty h
  obtain ⟨v', w', hr, h2, h3⟩ := run_app_src (P := Tryd.prog) X g 22 22 22 3 i0 (.int .i64 0) Tryd.underlying22 hi hz0 (by rw [hz1]; rfl) (by rw [hz1]; decide) _ 0 [] (by rw [hz1]; exact hown) (.slice a l.length cap) l.length (l.map iv) (by rw [hz1]; exact src_ints hp) (by unfold maxLen; omega) (by rw [hz2]; omega) (by omega)
  have ho : OwnI w' g v' l := by
    unfold OwnI
    rw [← hz1]
    simpa using h2
  obtain ⟨b, c, rfl, hb, hc, hrow⟩ := ho.row hn
  have hob : (Value.slice (some ⟨g, 0, none⟩) 0 0).ownBlock = some g := rfl
  refine ⟨b, c, w', hr, hc, hb, hrow, fun k t cs hk hB => (h3.block k hB.lt (fun e => ?_)).trans hB, fun B hB => grown_below (Below.refl _ _) h3 (fun k e => ?_) (by omega)⟩
  · rw [hob] at e
    exact hk (Option.some.inj e)
  · rw [hob] at e
    have := Option.some.inj e
    omega
theorem four {X : World} {g : Nat} {t : TypeId} {v0 v1 v2 v3 : Value} (h : Blk X g t #[v0, v1, v2, v3]) : X.cell? ⟨g, 0, none⟩ = some v0 ∧ X.cell? ⟨g, 1, none⟩ = some v1 ∧ X.cell? ⟨g, 2, none⟩ = some v2 ∧ X.cell? ⟨g, 3, none⟩ = some v3 := ⟨h.cell 0, h.cell 1, h.cell 2, h.cell 3⟩
/-- run_appN as one step of a region that draws, whatever the world is by then. -/
theorem step_appN {ops : Array Oper} {o : Oper} {a : Act} {w : World} {K : Act → World → Prop} {Q : Exit → Act → World → Prop} {E : Prop} (hgd : o.guard = none) (s x : Operand)
    (ho : o.op = .call { callee := .builtin .append, args := #[s, x], argTypes := #[22, 22] }) (hty : o.type = 22) (g : Nat) (hs : a.eval s = .slice (some ⟨g, 0, none⟩) 0 0)
    (p : Option Addr) (cap : Nat) (l : List Int) (n : Nat) (hln : l.length = n) (hx : a.eval x = .slice p n cap) (hp : IntsA w p l) (hm : n ≤ 1000000) (hn : 0 < n) (hh : w.heap[g]? = some (.cells #[] 3 (0, 0)))
    (hK : ∀ b c w', n ≤ c → g ≤ b → RowI w' b l → (∀ k t cs, k ≠ g → Blk w k t cs → Blk w' k t cs) → (∀ B, B ≤ g → Below B w w') → K (a.put o.dst (.slice (some ⟨b, 0, none⟩) n c)) w') :
    if Region.wanted o (yielded ops a.tmps) = true then Oper.wp Tryd.prog o a w K Q else E := by
  subst hln
  obtain ⟨b, c, w', hr, h1, h2, h3, h4, h5⟩ := run_appN p cap l w hp hm hn g hh
  have hw : Region.wanted o (yielded ops a.tmps) = true := by simp [Region.wanted, hgd]
  rw [if_pos hw]
  unfold Oper.wp execOp
  simp only [ho, hty, resolve, invoke, builtin, Sem.run_bind, Sem.run_pure, Result.andThen_ok, List.map_toArray, List.map_cons, List.map_nil, hs, hx, hr]
  exact hK _ _ _ h1 h2 h3 h4 h5
theorem Blk.ne {W : World} {g k : Nat} {t : TypeId} {cs : Array Value} {l : List Int} (h : Blk W k t cs) (ht : t ≠ 3) (hr : RowI W g l) : g ≠ k := by
  obtain ⟨cs', h', -⟩ := hr
  intro e
  subst e
  unfold Blk at h h'
  rw [h] at h'
  injection h' with h'
  injection h' with _ h2 _
  exact ht h2
end
section
open Go.RowKit
theorem IntsA.rowfar4 {w : World} {a : Option Addr} {l : List Int} {g : Nat} (h : IntsA w a l) (hg : ∀ b off, a = some ⟨b, off, none⟩ → b ≠ g) (cs : Array Value) : IntsA (w.setRow g cs) a l := fun k hk => by
  obtain ⟨b, off, e, h1⟩ := h k hk
  refine ⟨b, off, e, ?_⟩
  have := setRow_other w g b cs (hg b off e)
  unfold World.cell? at h1 ⊢
  simpa [this] using h1
theorem ints_apart4 {w : World} {a : Option Addr} {l : List Int} {g : Nat} {t : TypeId} {i0 i1 i2 : Value} (h : IntsA w a l) (hl : 4 ≤ l.length) (hb : Blk w g t #[i0, i1, i2, .slice none 0 0]) : ∀ b off, a = some ⟨b, off, none⟩ → b ≠ g := by
  rintro b off rfl rfl
  by_cases ho : off ≤ 3
  · obtain ⟨b', off', e, h1⟩ := h (3 - off) (by omega)
    simp only [Option.some.injEq, Addr.mk.injEq, and_true] at e
    obtain ⟨rfl, rfl⟩ := e
    have h2 := hb.cell 3
    rw [show off + (3 - off) = 3 by omega, h2] at h1
    simp at h1
  · obtain ⟨b', off', e, h1⟩ := h 0 (by omega)
    simp only [Option.some.injEq, Addr.mk.injEq, and_true] at e
    obtain ⟨rfl, rfl⟩ := e
    have h2 := hb.cell (off + 0)
    rw [h2] at h1
    rw [Array.getElem?_eq_none (by simp; omega)] at h1
    cases h1
set_option maxRecDepth 100000 in
set_option maxHeartbeats 1000000 in
theorem addref_any (W : Nat) (S A : Int) (a : Option Addr) (cap : Nat) (l : List Int) (key : ByteArray) (w : World) (hp : IntsA w a l) (hl : l.length = 4 * W) (hk : key.size ≤ 400) (hW : ∃ k : Nat, k ≤ 12 ∧ W = 2 ^ k)
    (h0 : ∀ x ∈ l, 0 ≤ x ∧ x ≤ 15) (hA : 0 ≤ A) (hS : A < S) (hS2 : S ≤ 1048576) (hla : LaidK w) :
    Calls Tryd.prog 23 #[.agg #[.int .i64 W, .int .i64 S, .int .i64 A, .slice a l.length cap], .string key] w fun e w' => (∃ b c, e = .returned (.agg #[.int .i64 W, .int .i64 S, .int .i64 (nxA S A), .slice b l.length c]) ∧ IntsA w' b (nxL W (pl key) S A l)) ∧ Below w.heap.size w w' := by
  have W0 : 0 < W := by obtain ⟨k, -, h2⟩ := hW; rw [h2]; exact Nat.two_pow_pos k
  have W4 : W ≤ 4096 := by
    obtain ⟨k, h1, h2⟩ := hW
    have := Nat.pow_le_pow_right (n := 2) (by decide) h1
    have e : (2 : Nat) ^ 12 = 4096 := by decide
    omega
  have HP := Lib.hid hp; have LA := Lib.hid hla; have HL := Lib.hid hl
  have HV := Lib.hid (fun (X : World) (gg cc : Nat) (A1 : Int) (y : List Int) (hr : RowI X gg y) (hy : y.length = l.length) (hb : ∀ x ∈ y, 0 ≤ x ∧ x ≤ 15) (ha : 0 ≤ A1) (ha2 : A1 ≤ 9223372036854775807) => (show Calls Tryd.prog 27 #[.agg #[.int .i64 W, .int .i64 S, .int .i64 A1, .slice (some ⟨gg, 0, none⟩) l.length cc]] X _ from by
    have h := halveref_any W S A1 (some ⟨gg, 0, none⟩) cc y X hr.ints (by omega) hb ha ha2
    rw [hy] at h; exact h))
  have PC := Lib.hid (fun (k : Nat) (h : k < 4) (X : World) (h2 : LaidK X) => placeref_any key k W X hk h hW h2)
  have SM := Lib.hid (fun (i : Nat) => getD_small l h0 i)
  have HBD := Lib.hid (addL_bd (pl key) l W0 hl h0)
  have IL := Lib.hid (fun (k : Nat) (h : k < 4) => show idx W (pl key) k < l.length by rw [hl]; exact idx_lt _ W0 h)
  have OWN := Lib.hid (fun (k : Nat) => addK_own (pl key) l (cnt W (pl key) l) W0 k)
  have LEN := Lib.hid (fun (k : Nat) => addK_len W (pl key) l (cnt W (pl key) l) k)
  have STEP := Lib.hid (fun (k : Nat) => show addK W (pl key) l (cnt W (pl key) l) (k + 1) = if l.getD (idx W (pl key) k) 0 = cnt W (pl key) l ∧ cnt W (pl key) l < 15 then (addK W (pl key) l (cnt W (pl key) l) k).set (idx W (pl key) k) (cnt W (pl key) l + 1) else addK W (pl key) l (cnt W (pl key) l) k from rfl)
  have FIN := Lib.hid (show addK W (pl key) l (cnt W (pl key) l) 4 = addL W (pl key) l from rfl)
  have ALN := Lib.hid (addL_len W (pl key) l)
  obtain ⟨ba, oa, rfl, -⟩ := hp 0 (by omega)
  have RD := Lib.hid (show ∀ k, k < l.length → ∀ X, Below w.heap.size w X → X.cell? ⟨ba, oa + k, none⟩ = some (.int .i64 (l.getD k 0)) from fun k hk X hX => by
    obtain ⟨b', off', e, h1⟩ := (hp.mono hX) k hk
    simp only [Option.some.injEq, Addr.mk.injEq, and_true] at e
    obtain ⟨rfl, rfl⟩ := e
    exact h1)
  have hC15 := cnt_le W (pl key) l
  obtain ⟨c, hc⟩ : ∃ c, cnt W (pl key) l = c := ⟨_, rfl⟩
  have CN := Lib.hid (fun (X : World) (h : IntsA X (some ⟨ba, oa, none⟩) l) (h2 : LaidK X) => countref_any W S A (some ⟨ba, oa, none⟩) cap l key X h hl hk hW h2)
  have RUN := Lib.hid (fun (X : World) (h : IntsA X (some ⟨ba, oa, none⟩) l) (g : Nat) (h2 : X.heap[g]? = some (.cells #[] 3 (0, 0))) => run_appN (some ⟨ba, oa, none⟩) cap l X h (by omega) (by omega) g h2)
  obtain ⟨n, hn⟩ : ∃ n, l.length = n := ⟨_, rfl⟩
  rw [hn] at CN RUN IL RD HV ⊢
  rw [hc] at hC15
  simp only [hc] at CN OWN LEN STEP FIN
  have HE := Lib.hid hn
  have HM := Lib.hid (show n ≤ 1000000 by omega)
  have HN := Lib.hid (show 0 < n by omega)
  have WH := Lib.hid W0
  have wr : IntKind.i64.wrap (A + 1) = A + 1 := by rw [IntKind.wrap_i64]; omega
  obtain ⟨A1, hA1⟩ : ∃ x, A + 1 = x := ⟨_, rfl⟩
  rw [hA1] at wr
  clear hp hla hl hk hW h0 hc hn
  go_enter Tryd.func23, Tryd.ntmps23
  go_wp2_with fail
  refine (CN.out _ (HP.out.mono (by (repeat' (first | (with_reducible exact Below.refl _ _) | (with_reducible assumption) | (with_reducible refine Below.alloc ?_ ?_ _) | (with_reducible refine Below.drew ?_) | (with_reducible refine below_dn ?_) | (with_reducible refine Below.setCell ?_ ?_ _) | (with_reducible exact Nat.le_refl _) | omega | (simp only [World.size_alloc, World.size_setCell, World.size_drew]; omega) | (simp; omega) | (simp; done))))) (LA.out.mono (by (repeat' (first | (with_reducible exact Below.refl _ _) | (with_reducible assumption) | (with_reducible refine Below.alloc ?_ ?_ _) | (with_reducible refine Below.drew ?_) | (with_reducible refine below_dn ?_) | (with_reducible refine Below.setCell ?_ ?_ _) | (with_reducible exact Nat.le_refl _) | omega | (simp only [World.size_alloc, World.size_setCell, World.size_drew]; omega) | (simp; omega) | (simp; done)))))).mono ?_
  rintro e w1 ⟨rfl, hb⟩
  have K1 := Lib.hid (show Blk w1 w.heap.size 24 #[.int .i64 W, .int .i64 S, .int .i64 A, .slice (some ⟨ba, oa, none⟩) n cap] from ((Blk.new' w _ _ _ rfl rfl).alloc _).below hb (by simp; omega))
  have K2 := Lib.hid (show Blk w1 (w.heap.size + 1) 24 #[.int .i64 0, .int .i64 0, .int .i64 0, .slice none 0 0] from (Blk.new' _ _ _ _ (World.size_alloc _ _) rfl).below hb (by simp))
  have d0 := K1.out.cell 0
  have d1 := K1.out.cell 1
  have d2 := K1.out.cell 2
  have d3 := K1.out.cell 3
  change _ = some (Value.int .i64 (W : Int)) at d0
  change _ = some (Value.int .i64 S) at d1
  change _ = some (Value.int .i64 A) at d2
  change _ = some (Value.slice (some ⟨ba, oa, none⟩) n cap) at d3
  have B1 := Lib.hid (show Below w.heap.size w w1 from bt (by (repeat' (first | (with_reducible exact Below.refl _ _) | (with_reducible assumption) | (with_reducible refine Below.alloc ?_ ?_ _) | (with_reducible refine Below.drew ?_) | (with_reducible refine below_dn ?_) | (with_reducible refine Below.setCell ?_ ?_ _) | (with_reducible exact Nat.le_refl _) | omega | (simp only [World.size_alloc, World.size_setCell, World.size_drew]; omega) | (simp; omega) | (simp; done)))) hb)
  have H1 := Lib.hid (HP.out.mono B1.out)
  have z1 : w.heap.size + 2 ≤ w1.heap.size := by have := K2.out.lt; omega
  clear hb CN
  go_upto_region 2 with (fail)
  go_cut [6] from 12 to 23 (fun s6 wx => ∃ (o g cc : Nat), s6 = .pointer (some ⟨o, 0, none⟩) ∧ Hid (w.heap.size + 2 ≤ o ∧ w.heap.size + 2 ≤ g ∧ g ≠ o ∧ n ≤ cc) ∧ Hid (Blk wx o 24 #[.int .i64 W, .int .i64 S, .int .i64 A1, .slice (some ⟨g, 0, none⟩) n cc]) ∧ Hid (RowI wx g l) ∧ Hid (Below w1.heap.size w1 wx))
  case first =>
    clear LA HL HV PC SM HBD IL OWN LEN STEP FIN ALN RD RUN HP
    have NM := HM; have NP := HN
    clear d0 d1 d2 d3 B1
    go_region_held3 (fun X => X.cell? ⟨w.heap.size, 0, none⟩ = some (.int .i64 W) ∧ X.cell? ⟨w.heap.size, 1, none⟩ = some (.int .i64 S) ∧ X.cell? ⟨w.heap.size, 2, none⟩ = some (.int .i64 A) ∧ X.cell? ⟨w.heap.size, 3, none⟩ = some (.slice (some ⟨ba, oa, none⟩) n cap)) (first | with_reducible exact four K1.out | with_reducible exact four K1.out.drew | with_reducible exact four (K1.out.alloc _) | with_reducible exact four (K1.out.alloc _).drew | with_reducible exact four ((K1.out.alloc _).alloc _) | with_reducible exact four ((K1.out.alloc _).alloc _).drew | with_reducible exact four KX.out | with_reducible exact four (KX.out.alloc _) | (with_reducible refine four ((((KX.out.far ?_ _).far ?_ _).far ?_ _).far ?_ _) <;> (simp; done)) | (with_reducible refine four ((((KX.out.far ?_ _).far ?_ _).far ?_ _).far ?_ _) <;> (simp; omega))) (first | ((refine step_appN (by rfl) (.tmp 19) (.tmp 21) (by rfl) (by rfl) _ (by rfl) _ _ l _ HE.out (by rfl) (H1.out.mono (by (repeat' (first | (with_reducible exact Below.refl _ _) | (with_reducible assumption) | (with_reducible refine Below.alloc ?_ ?_ _) | (with_reducible refine Below.drew ?_) | (with_reducible refine below_dn ?_) | (with_reducible refine Below.setCell ?_ ?_ _) | (with_reducible exact Nat.le_refl _) | omega | (simp only [World.size_alloc, World.size_setCell, World.size_drew]; omega) | (simp; omega) | (simp; done))))) NM.out NP.out (by first | exact World.alloc_heap_new _ _ | exact (Blk.new _ 3 #[]).alloc _ | exact Blk.new' _ 3 #[] #[] (World.size_alloc _ _) rfl) ?_); intro b0 c0 xw hc0 hg0 hr0 hk0 hb0; have BW := Lib.hid (show Below w1.heap.size w1 xw from by refine Below.trans ?_ (hb0 w1.heap.size ?_) <;> (repeat' (first | (with_reducible exact Below.refl _ _) | (with_reducible assumption) | (with_reducible refine Below.alloc ?_ ?_ _) | (with_reducible refine Below.drew ?_) | (with_reducible refine below_dn ?_) | (with_reducible refine Below.setCell ?_ ?_ _) | (with_reducible exact Nat.le_refl _) | omega | (simp only [World.size_alloc, World.size_setCell, World.size_drew]; omega) | (simp; omega) | (simp; done)))); have KX := Lib.hid (K1.out.below BW.out K1.out.lt); (try (refine (have OZ : Hid (Blk xw (w1.heap.size + 1) 24 #[.int .i64 0, .int .i64 0, .int .i64 0, .slice none 0 0]) := ?hz; ?_); (case hz => exact Lib.hid (hk0 _ _ _ (by simp) ((Blk.new' _ _ _ _ (World.size_alloc _ _) rfl).drew))); have o0 := OZ.out.cell 0; change _ = some (Value.int .i64 0) at o0; have o1 := OZ.out.cell 1; change _ = some (Value.int .i64 0) at o1; have o2 := OZ.out.cell 2; change _ = some (Value.int .i64 0) at o2; have o3 := OZ.out.cell 3; change _ = some (Value.slice none 0 0) at o3; have of := fun q => OZ.out.frozen q)); (try (refine (have OZ : Hid (Blk xw (w1.heap.size) 24 #[.int .i64 0, .int .i64 0, .int .i64 0, .slice none 0 0]) := ?hz; ?_); (case hz => exact Lib.hid (hk0 _ _ _ (by simp) (((Blk.new _ _ _).alloc _).drew))); have o0 := OZ.out.cell 0; change _ = some (Value.int .i64 0) at o0; have o1 := OZ.out.cell 1; change _ = some (Value.int .i64 0) at o1; have o2 := OZ.out.cell 2; change _ = some (Value.int .i64 0) at o2; have o3 := OZ.out.cell 3; change _ = some (Value.slice none 0 0) at o3; have of := fun q => OZ.out.frozen q))))
    all_goals go_wp2_with fail
    all_goals go_meet
    · exact ⟨xw.heap.size, b0, c0, rfl, Lib.hid ⟨by have := BW.out.size; omega, by omega, by have := hr0.lt; omega, hc0⟩, Lib.hid (Blk.new _ _ _), Lib.hid (hr0.alloc _), Lib.hid (BW.out.alloc BW.out.size _)⟩
    · exact ⟨w1.heap.size + 1, b0, c0, rfl, Lib.hid ⟨by omega, by omega, Blk.ne OZ.out (by decide) hr0, hc0⟩, Lib.hid ((((OZ.out.set_ 0 _).set_ 1 _).set_ 2 _).set_ 3 _), Lib.hid ((((hr0.far (Blk.ne OZ.out (by decide) hr0) _).far (Blk.ne OZ.out (by decide) hr0) _).far (Blk.ne OZ.out (by decide) hr0) _).far (Blk.ne OZ.out (by decide) hr0) _), Lib.hid ((((BW.out.setCell (by simp) _).setCell (by simp) _).setCell (by simp) _).setCell (by simp) _)⟩
    · exact ⟨w1.heap.size, b0, c0, rfl, Lib.hid ⟨by omega, by omega, Blk.ne OZ.out (by decide) hr0, hc0⟩, Lib.hid ((((OZ.out.set_ 0 _).set_ 1 _).set_ 2 _).set_ 3 _), Lib.hid ((((hr0.far (Blk.ne OZ.out (by decide) hr0) _).far (Blk.ne OZ.out (by decide) hr0) _).far (Blk.ne OZ.out (by decide) hr0) _).far (Blk.ne OZ.out (by decide) hr0) _), Lib.hid ((((BW.out.setCell (by simp) _).setCell (by simp) _).setCell (by simp) _).setCell (by simp) _)⟩
  case rest =>
    obtain ⟨o, g, cc, rfl, hne, hBo, hRg, hbx⟩ := hcut
    have K1c := Lib.hid (K1.out.below hbx.out K1.out.lt)
    have K2c := Lib.hid (K2.out.below hbx.out K2.out.lt)
    have Bc := Lib.hid (show Below w.heap.size w wc from bt B1.out hbx.out)
    obtain ⟨o1, g1, og, ncc⟩ := hne.out
    have R0 : Hid (RowI wc g (addK W (pl key) l c 0)) := hRg
    clear K1 K2 B1 H1 d0 d1 d2 d3 hbx hne hRg RUN z1
    go_wp2
    go_loopw [7, 8] (fun u7 _ wr => ∃ (k : Nat), k ≤ 4 ∧ u7 = .int .i64 k ∧ Hid (RowI wr g (addK W (pl key) l c k)) ∧ Hid (Blk wr w.heap.size 24 #[.int .i64 W, .int .i64 S, .int .i64 A, .slice (some ⟨ba, oa, none⟩) n cap]) ∧ Hid (Blk wr (w.heap.size + 1) 24 #[.int .i64 0, .int .i64 0, .int .i64 0, .slice none 0 0]) ∧ Hid (Blk wr o 24 #[.int .i64 W, .int .i64 S, .int .i64 A1, .slice (some ⟨g, 0, none⟩) n cc]) ∧ Hid (Below w.heap.size w wr)) (fun u7 _ _ => 4 - (intOf u7).toNat)
    case atStart => exact ⟨0, by omega, rfl, R0, K1c, K2c, hBo, Bc⟩
    case round =>
      obtain ⟨k, hk, rfl, RG, X1, X2, X3, hbe⟩ := hrel
      by_cases hlt : k < 4
      · have c0 : wr.cell? ⟨w.heap.size, 0, none⟩ = some (.int .i64 W) := X1.out.cell 0
        have il := IL.out k hlt
        have hm : k * W ≤ 3 * 4096 := Nat.mul_le_mul (by omega) W4
        obtain ⟨M, hM⟩ : ∃ M, k * W = M := ⟨_, rfl⟩
        have pc := PC.out k hlt
        have hR : pl key k % W < W := Nat.mod_lt _ WH.out
        have hidx : idx W (pl key) k = M + pl key k % W := by unfold idx; rw [hM]
        have st := STEP.out k
        have q := RG.out.cell (k := idx W (pl key) k) (by rw [LEN.out, HE.out]; exact il)
        rw [OWN.out k] at q
        have fr := RG.out.frozen (idx W (pl key) k)
        have x0 := SM.out (idx W (pl key) k)
        rw [hidx] at q fr il st x0
        obtain ⟨R, hR'⟩ : ∃ R, pl key k % W = R := ⟨_, rfl⟩
        simp only [hR'] at pc
        rw [hR'] at q fr il st hR x0
        obtain ⟨i, hI⟩ : ∃ I, M + R = I := ⟨_, rfl⟩
        rw [hI] at q fr il st x0
        have rd := RD.out i il
        obtain ⟨x, hx⟩ : ∃ x, l.getD i 0 = x := ⟨_, rfl⟩
        rw [hx] at q st x0
        simp only [hx] at rd
        rw [hM] at hm
        have P1 := Lib.hid pc
        have e1 : (k : Int) * (W : Int) = (M : Int) := by rw [← hM]; simp
        have e2 : (M : Int) + (R : Int) = (i : Int) := by omega
        have v1 : IntKind.i64.wrap (M : Int) = (M : Int) := by rw [IntKind.wrap_i64]; omega
        have v2 : IntKind.i64.wrap (i : Int) = (i : Int) := by rw [IntKind.wrap_i64]; omega
        have iL : (i : Int) < (n : Int) := by omega
        have i0 : (0 : Int) ≤ (i : Int) := by omega
        have BD := Lib.hid (show Below w.heap.size w wr.drew from Below.drew hbe.out)
        have RDX := Lib.hid rd; have ST := Lib.hid st; have FR := Lib.hid fr
        clear hM hidx hR' hI hx pc hm hR rd st fr
        go_wp2
        go_region_held3 (fun X => X.cell? ⟨w.heap.size, 0, none⟩ = some (.int .i64 W)) (first | exact c0 | exact keep (W := World.drew wr) c0 hb2) (first | (go_at_call 20; refine (P1.out _ (LA.out.mono BD.out)).mono ?_; rintro e w2 ⟨rfl, hb2⟩; have Y1 := Lib.hid (X1.out.drew.below hb2 X1.out.lt); have Y2 := Lib.hid (X2.out.drew.below hb2 X2.out.lt); have Y3 := Lib.hid (X3.out.drew.below hb2 X3.out.lt); have YG := Lib.hid (RG.out.drew.below hb2 RG.out.lt); have B2 := Lib.hid (bt BD.out hb2)))
        by_cases hxc : x = c
        · subst hxc
          have t1 : (x == x) = true := beq_self_eq_true x
          have q1 := RDX.out w2 B2.out
          have m3 : w2.cell? ⟨w.heap.size, 3, none⟩ = some (.slice (some ⟨ba, oa, none⟩) n cap) := Y1.out.cell 3
          by_cases h15 : x < 15
          · have t2 : decide (x < 15) = true := decide_eq_true h15
            have ST2 := ST.out
            rw [if_pos ⟨rfl, h15⟩] at ST2
            have S2 := Lib.hid ST2
            have wx1 : IntKind.i64.wrap (x + 1) = x + 1 := by rw [IntKind.wrap_i64]; omega
            have o3 : w2.cell? ⟨o, 3, none⟩ = some (.slice (some ⟨g, 0, none⟩) n cc) := Y3.out.cell 3
            have gq := YG.out.cell (k := i) (by rw [LEN.out, HE.out]; omega)
            have gf := YG.out.frozen i
            clear ST2 ST
            go_wp2
            try go_region
            all_goals go_wp2
            all_goals go_roundw
            case rel => exact ⟨k + 1, by omega, by go_num, by rw [S2.out]; exact Lib.hid (YG.out.set_ i (x + 1)), Lib.hid (Y1.out.far (by simp; omega) _), Lib.hid (Y2.out.far (by simp; omega) _), Lib.hid (Y3.out.far (by simp; omega) _), Lib.hid (B2.out.setCell (by simp; omega) _)⟩
            case measure => simp [intOf]; omega
          · have t2 : decide (x < 15) = false := decide_eq_false h15
            have ST2 := ST.out
            rw [if_neg (fun h => h15 h.2)] at ST2
            have S2 := Lib.hid ST2
            clear ST2 ST
            go_wp2
            go_roundw
            case rel => exact ⟨k + 1, by omega, by go_num, by rw [S2.out]; exact YG, Y1, Y2, Y3, B2⟩
            case measure => simp [intOf]; omega
        · have t1 : (x == c) = false := beq_eq_false_iff_ne.mpr hxc
          have t2 : decide (x = c) = false := decide_eq_false hxc
          have q1 := RDX.out w2 B2.out
          have m3 : w2.cell? ⟨w.heap.size, 3, none⟩ = some (.slice (some ⟨ba, oa, none⟩) n cap) := Y1.out.cell 3
          have ST2 := ST.out
          rw [if_neg (fun h => hxc h.1)] at ST2
          have S2 := Lib.hid ST2
          clear ST2 ST
          go_wp2
          go_roundw
          case rel => exact ⟨k + 1, by omega, by go_num, by rw [S2.out]; exact YG, Y1, Y2, Y3, B2⟩
          case measure => simp [intOf]; omega
      · have hk4 : k = 4 := by omega
        have RF := RG.out
        rw [hk4, FIN.out] at RF
        have RR := Lib.hid RF
        have o1' := X3.out.cell 1
        have o2' := X3.out.cell 2
        change _ = some (Value.int .i64 S) at o1'
        change _ = some (Value.int .i64 A1) at o2'
        have IX := Lib.hid (show (Tryd.prog.info? 24).map (·.size) = some (#[.int .i64 W, .int .i64 S, .int .i64 A1, .slice (some ⟨g, 0, none⟩) n cc] : Array Value).size by kernel_rfl)
        clear RF hk4 RG
        by_cases hAS : A1 = S
        · have t1 : (A1 == S) = true := by rw [hAS]; exact beq_self_eq_true S
          have t2 : decide (A1 = S) = true := decide_eq_true hAS
          have HNX := Lib.hid (show nxA S A = A1 / 2 ∧ nxL W (pl key) S A l = halve (addL W (pl key) l) by unfold nxA nxL; rw [hA1, if_pos hAS, if_pos hAS]; exact ⟨rfl, rfl⟩)
          clear hA1
          subst hAS
          go_wp2_with (with_reducible refine wpList_load_all rfl _ _ rfl o rfl 24 _ _ X3.out Tryd.underlying24 IX.out ?_)
          refine (HV.out wr g cc A1 (addL W (pl key) l) RR.out (by rw [ALN.out, HE.out]) HBD.out (by omega) (by omega)).mono ?_
          rintro e w5 ⟨⟨b5, c5, rfl, hc5, hi5⟩, hb5⟩
          have Q2 := Lib.hid (X2.out.below hb5 X2.out.lt)
          have B5 := Lib.hid (show Below w.heap.size w w5 from bt hbe.out hb5)
          have I5 := Lib.hid hi5
          have IX2 := Lib.hid (show (Tryd.prog.info? 24).map (·.size) = some (#[.int .i64 W, .int .i64 A1, .int .i64 (A1 / 2), .slice b5 n c5] : Array Value).size by kernel_rfl)
          have Ioq := Lib.hid (show (#[.int .i64 W, .int .i64 A1, .int .i64 (A1 / 2), .slice b5 n c5] : Array Value).all (·.oneCell') = true by simp [Value.oneCell'])
          clear hb5 hc5 hi5
          go_wp2_with (with_reducible refine wpList_store_blk rfl _ _ _ rfl (w.heap.size + 1) 24 #[.int .i64 0, .int .i64 0, .int .i64 0, .slice none 0 0] #[.int .i64 W, .int .i64 A1, .int .i64 (A1 / 2), .slice b5 n c5] rfl rfl Q2.out IX2.out rfl Ioq.out rfl ?_)
          refine bodyPost_ret (v := .agg #[.int .i64 W, .int .i64 A1, .int .i64 (A1 / 2), .slice b5 n c5]) (results_cell_row rfl _ _ _ 24 _ (0, 0) _ rfl (Q2.out.row_ _) Tryd.underlying24 rfl IX2.out) rfl ?_
          rw [HNX.out.1, HNX.out.2]
          refine ⟨⟨b5, c5, rfl, ?_⟩, below_setRow B5.out (by omega) _⟩
          exact I5.out.rowfar4 (ints_apart4 I5.out (by rw [halve_len, ALN.out]; have := HL.out; have := WH.out; omega) Q2.out) _
        · have t1 : (A1 == S) = false := beq_eq_false_iff_ne.2 hAS
          have t2 : decide (A1 = S) = false := decide_eq_false hAS
          have HNX := Lib.hid (show nxA S A = A1 ∧ nxL W (pl key) S A l = addL W (pl key) l by unfold nxA nxL; rw [hA1, if_neg hAS, if_neg hAS]; exact ⟨rfl, rfl⟩)
          have IX2 := IX
          have Ioq := Lib.hid (show (#[.int .i64 W, .int .i64 S, .int .i64 A1, .slice (some ⟨g, 0, none⟩) n cc] : Array Value).all (·.oneCell') = true by simp [Value.oneCell'])
          clear hA1
          go_wp2_with (first | (with_reducible refine wpList_load_all rfl _ _ rfl o rfl 24 _ _ X3.out Tryd.underlying24 IX.out ?_) | (with_reducible refine wpList_store_blk rfl _ _ _ rfl (w.heap.size + 1) 24 #[.int .i64 0, .int .i64 0, .int .i64 0, .slice none 0 0] #[.int .i64 W, .int .i64 S, .int .i64 A1, .slice (some ⟨g, 0, none⟩) n cc] rfl rfl X2.out IX2.out rfl Ioq.out rfl ?_))
          refine bodyPost_ret (v := .agg #[.int .i64 W, .int .i64 S, .int .i64 A1, .slice (some ⟨g, 0, none⟩) n cc]) (results_cell_row rfl _ _ _ 24 _ (0, 0) _ rfl (X2.out.row_ _) Tryd.underlying24 rfl IX2.out) rfl ?_
          rw [HNX.out.1, HNX.out.2]
          exact ⟨⟨_, _, rfl, (RR.out.rowfar (by omega) _).ints⟩, below_setRow hbe.out (by omega) _⟩
end
section
open Go.RowKit Go.Sort
theorem grow_cell3 (w : World) (d : Nat) (os : Array Obj) (b o : Nat) (h : b < w.heap.size) : (grow (redrawn w d) os).cell? ⟨b, o, none⟩ = w.cell? ⟨b, o, none⟩ :=
  (below_regrown w d os).cell (p := ⟨b, o, none⟩) h
theorem below_of_grow3 {W W' : World} {d : Nat} {os : Array Obj} (h : W' = grow (redrawn W d) os) : Below W.heap.size W W' := h ▸ below_regrown W d os
theorem Ok.nat3 {W S A : Int} {l : List Int} (h : Ok W S A l) : ∃ N : Nat, W = (N : Int) ∧ (∃ k : Nat, k ≤ 12 ∧ N = 2 ^ k) ∧ l.length = 4 * N := by
  obtain ⟨k, -, hk⟩ := of_decide_eq_true h.two
  refine ⟨2 ^ k, hk, ⟨k, ?_, rfl⟩, ?_⟩
  · rcases Nat.lt_or_ge 12 k with h1 | h1
    · have h2 := Nat.pow_le_pow_right (n := 2) (by decide) (show 13 ≤ k by omega)
      have h3 : (2 : Nat) ^ 13 = 8192 := by decide
      have := h.w
      omega
    · exact h1
  · have := h.len
    omega
set_option maxRecDepth 100000 in
set_option maxHeartbeats 1000000 in
theorem same_true (W S A : Int) (a1 a2 : Option Addr) (c1 c2 : Nat) (l : List Int) (w : World) (hp1 : IntsA w a1 l) (hp2 : IntsA w a2 l) (hm : l.length ≤ 9223372036854775807) :
    Calls Tryd.prog 13 #[.agg #[.int .i64 W, .int .i64 S, .int .i64 A, .slice a1 l.length c1], .agg #[.int .i64 W, .int .i64 S, .int .i64 A, .slice a2 l.length c2]] w fun e w' => e = .returned (.bool true) ∧ Below w.heap.size w w' := by
  have HP := Lib.hid hp1
  have HQ := Lib.hid hp2
  obtain ⟨n, hn⟩ : ∃ n, l.length = n := ⟨_, rfl⟩
  have HE := Lib.hid hn
  rw [hn] at hm ⊢
  clear hp1 hp2 hn
  go_enter Tryd.func13, Tryd.ntmps13
  go_wp2
  go_loopw [5] (fun u5 wr => ∃ k : Nat, k ≤ n ∧ u5 = .int .i64 k ∧ Hid (Blk wr w.heap.size 24 #[.int .i64 W, .int .i64 S, .int .i64 A, .slice a1 n c1]) ∧ Hid (Blk wr (w.heap.size + 1) 24 #[.int .i64 W, .int .i64 S, .int .i64 A, .slice a2 n c2]) ∧ Hid (Below w.heap.size w wr)) (fun u5 _ => n - (intOf u5).toNat)
  case atStart => exact ⟨0, by omega, rfl, Lib.hid ((Blk.new' w _ _ _ rfl rfl).alloc _), Lib.hid (Blk.new' _ _ _ _ (World.size_alloc _ _) rfl), Lib.hid (by (repeat' (first | (with_reducible exact Below.refl _ _) | (with_reducible assumption) | (with_reducible refine Below.alloc ?_ ?_ _) | (with_reducible refine Below.drew ?_) | (with_reducible refine below_dn ?_) | (with_reducible refine Below.setCell ?_ ?_ _) | (with_reducible exact Nat.le_refl _) | omega | (simp only [World.size_alloc, World.size_setCell, World.size_drew]; omega) | (simp; omega) | (simp; done))))⟩
  case round =>
    obtain ⟨k, hk, rfl, K1, K2, BB⟩ := hrel
    have e3 : wr.cell? ⟨w.heap.size, 3, none⟩ = some (.slice a1 n c1) := K1.out.cell 3
    have e4 : wr.cell? ⟨w.heap.size + 1, 3, none⟩ = some (.slice a2 n c2) := K2.out.cell 3
    by_cases hlt : k < n
    · obtain ⟨b1, f1, rfl, q1⟩ := HP.out.mono BB.out k (by rw [HE.out]; exact hlt)
      obtain ⟨b2, f2, rfl, q2⟩ := HQ.out.mono BB.out k (by rw [HE.out]; exact hlt)
      obtain ⟨x, hx⟩ : ∃ x, l.getD k 0 = x := ⟨_, rfl⟩
      rw [hx] at q1 q2
      clear hx
      go_wp2
      go_quiet (fail)
      go_wp2
      go_roundw
      case rel => exact ⟨k + 1, by omega, by go_num, Lib.hid (K1.out.drewN _), Lib.hid (K2.out.drewN _), Lib.hid (below_dn BB.out)⟩
      case measure => simp [intOf]; omega
    · go_wp2
      go_ret
      exact ⟨rfl, BB.out⟩
theorem IntsA.none_ (w : World) : IntsA w none [] := fun k hk => absurd hk (by simp)
theorem new_both (W S : Int) (b1 : -9223372036854775808 ≤ W) (b2 : W ≤ 9223372036854775807) : ∃ (W' S' e : Int) (l : List Int), l.length ≤ 1000000 ∧
    (∀ X, Calls Tryd.prog 10 #[.int .i64 W, .int .i64 S] X fun r w' => (∃ a c, r = .returned (.tuple #[.agg #[.int .i64 W', .int .i64 S', .int .i64 0, .slice a l.length c], .int .i64 e]) ∧ IntsA w' a l) ∧ Below X.heap.size X w') ∧
    (∀ X, Calls Tryd.prog 11 #[.int .i64 W, .int .i64 S] X fun r w' => (∃ a c, r = .returned (.agg #[.int .i64 W', .int .i64 S', .int .i64 0, .slice a l.length c, .int .i64 e]) ∧ IntsA w' a l) ∧ Below X.heap.size X w') := by
  by_cases h : pw W = false ∨ S < 1
  · refine ⟨0, 0, 1, [], by simp, fun X => (new_arg W S X b1 b2 h).mono ?_, fun X => (newref_arg W S X b1 b2 h).mono ?_⟩
    · rintro r w' ⟨rfl, hb⟩; exact ⟨⟨none, 0, rfl, IntsA.none_ _⟩, hb⟩
    · rintro r w' ⟨rfl, hb⟩; exact ⟨⟨none, 0, rfl, IntsA.none_ _⟩, hb⟩
  · have hp : pw W = true := by cases hq : pw W; exact absurd (Or.inl hq) h; rfl
    have hS : 1 ≤ S := by have : ¬ S < 1 := fun q => h (Or.inr q); omega
    by_cases h2 : 4096 < W ∨ 1048576 < S
    · refine ⟨0, 0, 2, [], by simp, fun X => (new_limit W S X b1 b2 hp hS h2).mono ?_, fun X => (newref_limit W S X b1 b2 hp hS h2).mono ?_⟩
      · rintro r w' ⟨rfl, hb⟩; exact ⟨⟨none, 0, rfl, IntsA.none_ _⟩, hb⟩
      · rintro r w' ⟨rfl, hb⟩; exact ⟨⟨none, 0, rfl, IntsA.none_ _⟩, hb⟩
    · have h3 : W ≤ 4096 := by omega
      have h4 : S ≤ 1048576 := by omega
      have p0 := pw_pos hp
      obtain ⟨n, hn⟩ : ∃ n : Nat, (n : Int) = 4 * W := ⟨(4 * W).toNat, by omega⟩
      refine ⟨W, S, 0, List.replicate n 0, by rw [List.length_replicate]; omega, fun X => (new_ok W S X b1 b2 hp hS h3 h4 n hn).mono ?_, fun X => (newref_ok W S X b1 b2 hp hS h3 h4 n hn).mono ?_⟩
      · rintro r w' ⟨⟨g, rfl, hr⟩, hb⟩; exact ⟨⟨some ⟨g, 0, none⟩, n, by rw [List.length_replicate], hr.ints⟩, hb⟩
      · rintro r w' ⟨⟨g, rfl, hr⟩, hb⟩; exact ⟨⟨some ⟨g, 0, none⟩, n, by rw [List.length_replicate], hr.ints⟩, hb⟩
end
section
open Go.RowKit
/-- Few keys, and each of few bytes. -/
def Short (ss : List ByteArray) : Prop := ss.length ≤ 60 ∧ ∀ k, k < ss.length → (ss.getD k ByteArray.empty).size ≤ 100
set_option maxRecDepth 100000 in
set_option maxHeartbeats 400000 in
theorem short_any (a : Option Addr) (cap : Nat) (ss : List ByteArray) (w : World) (hp : StrsA w a ss) (hm : ss.length ≤ 9223372036854775807) (hz : ∀ k, k < ss.length → (ss.getD k ByteArray.empty).size ≤ 9223372036854775807) :
    Calls Tryd.prog 21 #[.slice a ss.length cap] w fun e w' => Judged e (Short ss) ∧ Below w.heap.size w w' := by
  have HP := Lib.hid hp
  have HZ := Lib.hid hz
  have HS := Lib.hid (show Short ss ↔ ss.length ≤ 60 ∧ ∀ k, k < ss.length → (ss.getD k ByteArray.empty).size ≤ 100 from Iff.rfl)
  obtain ⟨n, hn⟩ : ∃ n, ss.length = n := ⟨_, rfl⟩
  have HE := Lib.hid hn
  rw [hn] at hm HZ HS ⊢
  clear hp hn hz
  go_enter Tryd.func21, Tryd.ntmps21
  go_wp2
  go_loopw [3] (fun u3 wr => ∃ k : Nat, k ≤ n ∧ u3 = .int .i64 k ∧ Hid (∀ j, j < k → (ss.getD j ByteArray.empty).size ≤ 100) ∧ Hid (Below w.heap.size w wr)) (fun u3 _ => n - (intOf u3).toNat)
  case atStart => exact ⟨0, by omega, rfl, Lib.hid (fun j h => absurd h (by omega)), Lib.hid (by (repeat' (first | (with_reducible exact Below.refl _ _) | (with_reducible assumption) | (with_reducible refine Below.alloc ?_ ?_ _) | (with_reducible refine Below.drew ?_) | (with_reducible refine below_dn ?_) | (with_reducible refine Below.setCell ?_ ?_ _) | (with_reducible exact Nat.le_refl _) | omega | (simp only [World.size_alloc, World.size_setCell, World.size_drew]; omega) | (simp; omega) | (simp; done))))⟩
  case round =>
    obtain ⟨k, hk, rfl, HJ, B⟩ := hrel
    by_cases hlt : k < n
    · obtain ⟨b, off, rfl, q1⟩ := HP.out.mono B.out k (by rw [HE.out]; exact hlt)
      have z0 := HZ.out k hlt
      obtain ⟨s, hs⟩ : ∃ s, ss.getD k ByteArray.empty = s := ⟨_, rfl⟩
      rw [hs] at q1 z0
      have SE := Lib.hid hs
      clear hs
      by_cases h1 : s.size ≤ 100
      · have t1 : decide ((100 : Int) < (s.size : Int)) = false := decide_eq_false (by omega)
        have H1 := Lib.hid h1
        clear h1
        go_wp2
        go_roundw
        case rel =>
          refine ⟨k + 1, by omega, by go_num, Lib.hid (fun j hj => ?_), B⟩
          rcases Nat.lt_or_ge j k with h | h
          · exact HJ.out j h
          · rw [show j = k by omega, SE.out]; exact H1.out
        case measure => simp [intOf]; omega
      · have t1 : decide ((100 : Int) < (s.size : Int)) = true := decide_eq_true (by omega)
        have H1 := Lib.hid h1
        clear h1
        go_wp2
        go_ret
        exact ⟨⟨false, rfl, ⟨(fun h => by cases h), fun h => absurd ((HS.out.1 h).2 k hlt) (by rw [SE.out]; exact H1.out)⟩⟩, B.out⟩
    · have hkn : k = n := by omega
      by_cases h60 : n ≤ 60
      · have t1 : decide ((n : Int) ≤ 60) = true := decide_eq_true (by omega)
        go_wp2
        go_ret
        exact ⟨⟨true, rfl, ⟨fun _ => HS.out.2 ⟨h60, fun j hj => HJ.out j (by omega)⟩, fun _ => rfl⟩⟩, B.out⟩
      · have t1 : decide ((n : Int) ≤ 60) = false := decide_eq_false (by omega)
        go_wp2
        go_ret
        exact ⟨⟨false, rfl, ⟨(fun h => by cases h), fun h => absurd (HS.out.1 h).1 h60⟩⟩, B.out⟩
end
section
open Go.RowKit
theorem wpList_appN {ops : Array Oper} {rest : List Oper} {o : Oper} {a : Act} {Q : Exit → Act → World → Prop} {w : World} (hgd : o.guard = none) (s x : Operand)
    (ho : o.op = .call { callee := .builtin .append, args := #[s, x], argTypes := #[22, 22] }) (hty : o.type = 22) (g : Nat) (hs : a.eval s = .slice (some ⟨g, 0, none⟩) 0 0)
    (p : Option Addr) (cap : Nat) (l : List Int) (n : Nat) (hln : l.length = n) (hx : a.eval x = .slice p n cap) (hp : IntsA w p l) (hm : n ≤ 1000000) (hn : 0 < n) (hh : w.heap[g]? = some (.cells #[] 3 (0, 0)))
    (hK : ∀ b c w', n ≤ c → g ≤ b → RowI w' b l → (∀ k t cs, k ≠ g → Blk w k t cs → Blk w' k t cs) → (∀ B, B ≤ g → Below B w w') → wpList Tryd.prog ops Q rest (a.put o.dst (.slice (some ⟨b, 0, none⟩) n c)) w') :
    wpList Tryd.prog ops Q (o :: rest) a w := by
  subst hln
  obtain ⟨b, c, w', hr, h1, h2, h3, h4, h5⟩ := run_appN p cap l w hp hm hn g hh
  refine wpList_plain hgd fun K hK2 => ?_
  unfold Oper.wp execOp
  simp only [ho, hty, resolve, invoke, builtin, Sem.run_bind, Sem.run_pure, Result.andThen_ok, List.map_toArray, List.map_cons, List.map_nil, hs, hx, hr]
  exact hK2 _ _ (hK _ _ _ h1 h2 h3 h4 h5)
theorem cell_far {W : World} {p : Addr} {u v : Value} {b o : Nat} (h : W.cell? ⟨b, o, none⟩ = some v) (hne : b ≠ p.block) : (W.setCell p u).cell? ⟨b, o, none⟩ = some v := by
  have e := Below.heap_setCell W p u b hne
  unfold World.cell? at h ⊢
  simpa [e] using h
theorem far4 {X : World} {g i : Nat} {t : TypeId} {cs : Array Value} {b o : Nat} {v : Value} (hg : Blk X g t cs) (h : X.cell? ⟨b, o, none⟩ = some v) (h1 : g ≠ i) (h2 : b ≠ i) (u0 u1 u2 u3 : Value) :
    Blk ((((X.setCell ⟨i, 0, none⟩ u0).setCell ⟨i, 1, none⟩ u1).setCell ⟨i, 2, none⟩ u2).setCell ⟨i, 3, none⟩ u3) g t cs ∧ ((((X.setCell ⟨i, 0, none⟩ u0).setCell ⟨i, 1, none⟩ u1).setCell ⟨i, 2, none⟩ u2).setCell ⟨i, 3, none⟩ u3).cell? ⟨b, o, none⟩ = some v :=
  ⟨(((hg.far h1 _).far h1 _).far h1 _).far h1 _, cell_far (cell_far (cell_far (cell_far h h2) h2) h2) h2⟩
theorem IntsA.far1 {W : World} {g o : Nat} {l : List Int} (h : IntsA W (some ⟨g, o, none⟩) l) {p : Addr} (hne : g ≠ p.block) (u : Value) : IntsA (W.setCell p u) (some ⟨g, o, none⟩) l := fun k hk => by
  obtain ⟨b, off, e, h1⟩ := h k hk
  simp only [Option.some.injEq, Addr.mk.injEq, and_true] at e
  obtain ⟨rfl, rfl⟩ := e
  exact ⟨g, o, rfl, cell_far h1 hne⟩
theorem and_four {X : World} {g : Nat} {t : TypeId} {v0 v1 v2 v3 : Value} {P : Prop} (h : Blk X g t #[v0, v1, v2, v3] ∧ P) : (X.cell? ⟨g, 0, none⟩ = some v0 ∧ X.cell? ⟨g, 1, none⟩ = some v1 ∧ X.cell? ⟨g, 2, none⟩ = some v2 ∧ X.cell? ⟨g, 3, none⟩ = some v3) ∧ P := ⟨four h.1, h.2⟩
theorem ok_add {N : Nat} {S A : Int} {l : List Int} (ok : Ok (N : Int) S A l) (p : Nat → Nat) (N0 : 0 < N) (hl : l.length = 4 * N) : Ok (N : Int) S (nxA S A) (nxL N p S A l) := by
  have hc : ∀ j, j < l.length → okc (A + 1) ((addL N p l).getD j 0) := fun j hj => by
    have h1 := ok.cells j hj
    unfold okc at h1 ⊢
    rcases addL_step p l N0 hl j with h | ⟨h, h2, h3⟩ <;> rw [h] <;> omega
  have p0 := ok.a0; have p1 := ok.a1; have p2 := ok.s1
  unfold nxA nxL
  by_cases h : A + 1 = S
  · rw [if_pos h, if_pos h]
    refine ⟨ok.two, ok.w, ok.s1, ok.s2, by omega, by omega, by rw [halve_len, addL_len]; exact ok.len, fun j hj => ?_⟩
    rw [halve_len, addL_len] at hj
    have := hc j hj
    rw [halve_at]
    unfold okc at this ⊢
    omega
  · rw [if_neg h, if_neg h]
    exact ⟨ok.two, ok.w, ok.s1, ok.s2, by omega, by omega, by rw [addL_len]; exact ok.len, fun j hj => by rw [addL_len] at hj; exact hc j hj⟩
theorem nxL_len (N : Nat) (p : Nat → Nat) (S A : Int) (l : List Int) : (nxL N p S A l).length = l.length := by
  unfold nxL
  split
  · rw [halve_len, addL_len]
  · rw [addL_len]
theorem pos_of_ok {N : Nat} {S A : Int} {l : List Int} (ok : Ok (N : Int) S A l) : 0 < N ∧ l.length = 4 * N ∧ (∃ k : Nat, k ≤ 12 ∧ N = 2 ^ k) := by
  obtain ⟨M, h1, h2, h3⟩ := ok.nat3
  have : N = M := by omega
  subst this
  have := ok.pos
  exact ⟨by omega, h3, h2⟩
theorem add_m {N m : Nat} {S A : Int} {l : List Int} (ok : Ok (N : Int) S A l) (hm : l.length = m) (a : Option Addr) (c : Nat) (key : ByteArray) (hk : key.size ≤ 100) (X : World) (hp : IntsA X a l) (hla : LaidC X) :
    Calls Tryd.prog 22 #[.agg #[.int .i64 N, .int .i64 S, .int .i64 A, .slice a m c], .string key] X fun e w' => (∃ g c2, e = .returned (.agg #[.int .i64 N, .int .i64 S, .int .i64 (nxA S A), .slice (some ⟨g, 0, none⟩) m c2]) ∧ X.heap.size ≤ g ∧ RowI w' g (nxL N (pl key) S A l)) ∧ Below X.heap.size X w' := by
  subst hm
  obtain ⟨h1, h2, h3⟩ := pos_of_ok ok
  refine (add_any N S A a c l key X hp h2 (by omega) h3 ok.all ok.a0 ok.a1 ok.s2 hla).mono ?_
  rintro e w' ⟨⟨g, c2, rfl, -, hg, hr⟩, hb⟩
  exact ⟨⟨g, c2, rfl, hg, hr⟩, hb⟩
theorem addref_m {N m : Nat} {S A : Int} {l : List Int} (ok : Ok (N : Int) S A l) (hm : l.length = m) (a : Option Addr) (c : Nat) (key : ByteArray) (hk : key.size ≤ 100) (X : World) (hp : IntsA X a l) (hla : LaidK X) :
    Calls Tryd.prog 23 #[.agg #[.int .i64 N, .int .i64 S, .int .i64 A, .slice a m c], .string key] X fun e w' => (∃ b c2, e = .returned (.agg #[.int .i64 N, .int .i64 S, .int .i64 (nxA S A), .slice b m c2]) ∧ IntsA w' b (nxL N (pl key) S A l)) ∧ Below X.heap.size X w' := by
  subst hm
  obtain ⟨h1, h2, h3⟩ := pos_of_ok ok
  exact addref_any N S A a c l key X hp h2 (by omega) h3 ok.all ok.a0 ok.a1 ok.s2 hla
theorem same_m {N m : Nat} {S A : Int} {l : List Int} (hm : l.length = m) (hm2 : m ≤ 1000000) (a1 a2 : Option Addr) (c1 c2 : Nat) (X : World) (h1 : IntsA X a1 l) (h2 : IntsA X a2 l) :
    Calls Tryd.prog 13 #[.agg #[.int .i64 N, .int .i64 S, .int .i64 A, .slice a1 m c1], .agg #[.int .i64 N, .int .i64 S, .int .i64 A, .slice a2 m c2]] X fun e w' => e = .returned (.bool true) ∧ Below X.heap.size X w' := by
  subst hm
  exact same_true N S A a1 a2 c1 c2 l X h1 h2 (by omega)
theorem valid_m {N m : Nat} {S A : Int} {l : List Int} (ok : Ok (N : Int) S A l) (hm : l.length = m) (hm2 : m ≤ 1000000) (a : Option Addr) (c : Nat) (X : World) (hp : IntsA X a l) :
    Calls Tryd.prog 12 #[.agg #[.int .i64 N, .int .i64 S, .int .i64 A, .slice a m c]] X fun e w' => e = .returned (.bool true) ∧ Below X.heap.size X w' := by
  subst hm
  have := ok.w; have := ok.pos
  refine (validref_any N S A a c l X hp (by omega) (by omega) (by omega)).mono ?_
  rintro e w' ⟨⟨b, rfl, hb0⟩, hb⟩
  obtain rfl : b = true := hb0.2 ok
  exact ⟨rfl, hb⟩
set_option maxRecDepth 100000 in
set_option maxHeartbeats 4000000 in
theorem adds_ok (N : Nat) (S A : Int) (a : Option Addr) (cap : Nat) (l : List Int) (s : Option Addr) (scap : Nat) (ss : List ByteArray) (w : World) (hp : IntsA w a l) (hs : StrsA w s ss) (h3 : l.length ≤ 300) (ok : Ok (N : Int) S A l) (sh : Short ss) (hla : LaidC w) (hlk : LaidK w) :
    Calls Tryd.prog 4 #[.agg #[.int .i64 N, .int .i64 S, .int .i64 A, .slice a l.length cap], .slice s ss.length scap] w fun e w' => e = .returned (.bool true) ∧ Below w.heap.size w w' := by
  have HP := Lib.hid hp; have HS := Lib.hid hs; have LA := Lib.hid hla; have LK := Lib.hid hlk
  have SH := Lib.hid sh
  have SZ := Lib.hid (show ∀ k, k < ss.length → (ss.getD k ByteArray.empty).size ≤ 100 from sh.2)
  have SO := Lib.hid (fun (X : World) (h : StrsA X s ss) => short_any s scap ss X h (by have := sh.1; omega) (fun k hk => by have := sh.2 k hk; omega))
  have SA := Lib.hid (fun (X : World) (h : LaidC X) => sane X h)
  have N0 := (pos_of_ok ok).1
  have L4 := (pos_of_ok ok).2.1
  obtain ⟨m, hm⟩ : ∃ m, l.length = m := ⟨_, rfl⟩
  obtain ⟨n, hn⟩ : ∃ n, ss.length = n := ⟨_, rfl⟩
  have n60 : n ≤ 60 := by rw [← hn]; exact sh.1
  rw [hn] at SO SZ ⊢
  have VA := Lib.hid (fun (X : World) (h : IntsA X a l) => valid_m ok hm (by omega) a cap X h)
  rw [hm] at h3 L4 ⊢
  have OK := Lib.hid ok
  have HM := Lib.hid hm; have HN := Lib.hid hn
  have m0 : 0 < m := by omega
  have M4 := Lib.hid L4
  have N0 := Lib.hid N0
  have t1 : decide ((300 : Int) < (m : Int)) = false := decide_eq_false (by omega)
  clear hp hs ok sh hla hlk hm hn L4
  go_enter Tryd.func4, Tryd.ntmps4
  go_wp2_with fail
  refine (SO.out _ (HS.out.mono (by (repeat' (first | (with_reducible exact Below.refl _ _) | (with_reducible assumption) | (with_reducible refine Below.alloc ?_ ?_ _) | (with_reducible refine Below.drew ?_) | (with_reducible refine below_dn ?_) | (with_reducible refine Below.setCell ?_ ?_ _) | (with_reducible exact Nat.le_refl _) | omega | (simp only [World.size_alloc, World.size_setCell, World.size_drew]; omega) | (simp; omega) | (simp; done)))))).mono ?_
  rintro r w1 ⟨⟨b, rfl, hb0⟩, hb⟩
  obtain rfl : b = true := hb0.2 SH.out
  have K := Lib.hid (show Blk w1 w.heap.size 24 #[.int .i64 N, .int .i64 S, .int .i64 A, .slice a m cap] from (Blk.new' w _ _ _ rfl rfl).below hb (by simp))
  have B := Lib.hid (bt (show Below w.heap.size w (w.alloc (.cells #[.int .i64 N, .int .i64 S, .int .i64 A, .slice a m cap] 24)) by (repeat' (first | (with_reducible exact Below.refl _ _) | (with_reducible assumption) | (with_reducible refine Below.alloc ?_ ?_ _) | (with_reducible refine Below.drew ?_) | (with_reducible refine below_dn ?_) | (with_reducible refine Below.setCell ?_ ?_ _) | (with_reducible exact Nat.le_refl _) | omega | (simp only [World.size_alloc, World.size_setCell, World.size_drew]; omega) | (simp; omega) | (simp; done)))) hb)
  clear hb hb0 SO
  have d0 := K.out.cell 0
  change _ = some (Value.int .i64 N) at d0
  have d1 := K.out.cell 1
  change _ = some (Value.int .i64 S) at d1
  have d2 := K.out.cell 2
  change _ = some (Value.int .i64 A) at d2
  have d3 := K.out.cell 3
  change _ = some (Value.slice a m cap) at d3
  go_wp2_with fail
  refine (VA.out _ (HP.out.mono B.out)).mono ?_
  rintro r w2 ⟨rfl, hb⟩
  replace K := Lib.hid (K.out.below hb K.out.lt)
  replace B := Lib.hid (bt B.out hb)
  have I := Lib.hid (HP.out.mono B.out)
  clear hb VA d0 d1 d2 d3
  go_wp2_with fail
  go_loopw [6, 7, 8, 9] (fun u6 _ _ _ wr => ∃ (k : Nat) (A1 : Int) (a1 : Option Addr) (c1 : Nat) (l1 : List Int), k ≤ n ∧ u6 = .int .i64 k ∧ Hid (Ok (N : Int) S A1 l1) ∧ Hid (l1.length = m) ∧ Hid (IntsA wr a1 l1) ∧ Hid (Blk wr w.heap.size 24 #[.int .i64 N, .int .i64 S, .int .i64 A1, .slice a1 m c1]) ∧ Hid (Below w.heap.size w wr)) (fun u6 _ _ _ _ => n - (intOf u6).toNat)
  case atStart => exact ⟨0, A, a, cap, l, by omega, rfl, OK, HM, I, K, B⟩
  case round =>
    obtain ⟨k, A1, a1, c1, l1, hk, rfl, OK1, HL1, I1, K1, B1⟩ := hrel
    clear OK HM I K B HP t1 SH
    by_cases hlt : k < n
    · obtain ⟨bs, os, rfl, q1⟩ := HS.out.mono B1.out k (by rw [HN.out]; exact hlt)
      have z1 : (ss.getD k ByteArray.empty).size ≤ 100 := SZ.out k hlt
      obtain ⟨key, hkey⟩ : ∃ s, ss.getD k ByteArray.empty = s := ⟨_, rfl⟩
      rw [hkey] at q1 z1
      have e3 : ∀ ob : Obj, (wr.alloc ob).cell? ⟨w.heap.size, 3, none⟩ = some (.slice a1 m c1) := fun ob => (K1.out.alloc ob).cell 3
      have Q1 := Lib.hid q1
      have M6 := Lib.hid (show m ≤ 1000000 by omega)
      have M0 := Lib.hid m0
      have AD := Lib.hid (fun (X : World) (h : IntsA X a1 l1) (h2 : LaidC X) => add_m OK1.out HL1.out a1 c1 key z1 X h h2)
      have AE := Lib.hid (fun (X : World) (h : IntsA X a1 l1) (h2 : LaidK X) => addref_m OK1.out HL1.out a1 c1 key z1 X h h2)
      have OK2 := Lib.hid (ok_add OK1.out (pl key) N0.out (by rw [HL1.out]; exact M4.out))
      have HL2 := Lib.hid (show (nxL N (pl key) S A1 l1).length = m by rw [nxL_len]; exact HL1.out)
      have SM := Lib.hid (fun (X : World) (x1 x2 : Option Addr) (y1 y2 : Nat) (h1 : IntsA X x1 (nxL N (pl key) S A1 l1)) (h2 : IntsA X x2 (nxL N (pl key) S A1 l1)) => same_m (N := N) (S := S) (A := nxA S A1) HL2.out M6.out x1 x2 y1 y2 X h1 h2)
      have VM := Lib.hid (fun (X : World) (x1 : Option Addr) (y1 : Nat) (h1 : IntsA X x1 (nxL N (pl key) S A1 l1)) => valid_m OK2.out HL2.out M6.out x1 y1 X h1)
      obtain ⟨A2, hA2⟩ : ∃ x, nxA S A1 = x := ⟨_, rfl⟩
      obtain ⟨l2, hl2⟩ : ∃ x, nxL N (pl key) S A1 l1 = x := ⟨_, rfl⟩
      simp only [hA2, hl2] at AD AE OK2 HL2 SM VM
      clear hA2 hl2 hkey z1 q1
      go_wp2_with (refine wpList_appN (by rfl) (.tmp 32) (.tmp 34) (by rfl) (by rfl) _ (by rfl) _ _ l1 _ HL1.out (by rfl) (I1.out.mono (by (repeat' (first | (with_reducible exact Below.refl _ _) | (with_reducible assumption) | (with_reducible refine Below.alloc ?_ ?_ _) | (with_reducible refine Below.drew ?_) | (with_reducible refine below_dn ?_) | (with_reducible refine Below.setCell ?_ ?_ _) | (with_reducible exact Nat.le_refl _) | omega | (simp only [World.size_alloc, World.size_setCell, World.size_drew]; omega) | (simp; omega) | (simp; done))))) M6.out M0.out (by first | exact World.alloc_heap_new _ _ | exact Blk.new _ 3 #[]) ?_)
      intro b0 c0 w3 hc0 hg0 hr0 hk0 hb0
      have BW := Lib.hid (show Below wr.heap.size wr w3 from by refine Below.trans ?_ (hb0 wr.heap.size ?_) <;> (repeat' (first | (with_reducible exact Below.refl _ _) | (with_reducible assumption) | (with_reducible refine Below.alloc ?_ ?_ _) | (with_reducible refine Below.drew ?_) | (with_reducible refine below_dn ?_) | (with_reducible refine Below.setCell ?_ ?_ _) | (with_reducible exact Nat.le_refl _) | omega | (simp only [World.size_alloc, World.size_setCell, World.size_drew]; omega) | (simp; omega) | (simp; done))))
      replace K1 := Lib.hid (K1.out.below BW.out K1.out.lt)
      replace B1 := Lib.hid (bt B1.out BW.out)
      replace I1 := Lib.hid (I1.out.mono BW.out)
      have LA3 := Lib.hid (LA.out.mono B1.out)
      have R1 := Lib.hid hr0
      replace Q1 := Lib.hid (keep Q1.out BW.out)
      have zw : w.heap.size < w3.heap.size := K1.out.lt
      have zb : b0 < w3.heap.size := hr0.lt
      clear hc0 hg0 hr0 hk0 hb0 BW e3
      go_upto_region 8 with (fail)
      go_cut [8] from 36 to 41 (fun s8 wx => ∃ (o g c : Nat), s8 = .pointer (some ⟨o, 0, none⟩) ∧ Hid (w3.heap.size ≤ o ∧ w3.heap.size ≤ g ∧ g ≠ o) ∧ Hid (Blk wx o 24 #[.int .i64 N, .int .i64 S, .int .i64 A2, .slice (some ⟨g, 0, none⟩) m c]) ∧ Hid (RowI wx g l2) ∧ Hid (Below w3.heap.size w3 wx))
      case first =>
        clear AE OK2 HL2 SM VM SA
        have k0 : (0 : Int) ≤ (k : Int) := by omega
        have kn : (k : Int) < (n : Int) := by omega
        have NE1 := Lib.hid (show w.heap.size ≠ w3.heap.size by omega)
        have NE2 := Lib.hid (show bs ≠ w3.heap.size by have h : bs < w3.heap.size := block_lt_of_cell Q1.out; omega)
        have QD := Lib.hid (show (World.drew w3).cell? ⟨bs, os + k, none⟩ = some (.string key) from Q1.out)
        have QA := Lib.hid (show ∀ ob, (w3.alloc ob).cell? ⟨bs, os + k, none⟩ = some (.string key) from fun ob => keep Q1.out ((Below.refl _ w3).alloc (Nat.le_refl _) ob))
        have QE := Lib.hid (show ∀ ob, (World.drew (w3.alloc ob)).cell? ⟨bs, os + k, none⟩ = some (.string key) from fun ob => QA.out ob)
        go_region_held3 (fun X => (X.cell? ⟨w.heap.size, 0, none⟩ = some (.int .i64 N) ∧ X.cell? ⟨w.heap.size, 1, none⟩ = some (.int .i64 S) ∧ X.cell? ⟨w.heap.size, 2, none⟩ = some (.int .i64 A1) ∧ X.cell? ⟨w.heap.size, 3, none⟩ = some (.slice a1 m c1)) ∧ X.cell? ⟨bs, os + k, none⟩ = some (.string key)) (first | with_reducible exact ⟨four K1.out.drew, QD.out⟩ | with_reducible exact ⟨four K1.out, Q1.out⟩ | with_reducible exact ⟨four (K1.out.alloc _), QA.out _⟩ | with_reducible exact ⟨four (K1.out.alloc _).drew, QE.out _⟩ | with_reducible exact ⟨four KX.out, QX.out⟩ | with_reducible exact ⟨four (KX.out.alloc _), QY.out _⟩ | with_reducible exact and_four (far4 KX.out QX.out NE1.out NE2.out _ _ _ _)) (first | (go_at_call 22; with_reducible refine (AD.out _ (I1.out.mono (by (repeat' (first | (with_reducible exact Below.refl _ _) | (with_reducible assumption) | (with_reducible refine Below.alloc ?_ ?_ _) | (with_reducible refine Below.drew ?_) | (with_reducible refine below_dn ?_) | (with_reducible refine Below.setCell ?_ ?_ _) | (with_reducible exact Nat.le_refl _) | omega | (simp only [World.size_alloc, World.size_setCell, World.size_drew]; omega) | (simp; omega) | (simp; done))))) (LA3.out.mono (by (repeat' (first | (with_reducible exact Below.refl _ _) | (with_reducible assumption) | (with_reducible refine Below.alloc ?_ ?_ _) | (with_reducible refine Below.drew ?_) | (with_reducible refine below_dn ?_) | (with_reducible refine Below.setCell ?_ ?_ _) | (with_reducible exact Nat.le_refl _) | omega | (simp only [World.size_alloc, World.size_setCell, World.size_drew]; omega) | (simp; omega) | (simp; done)))))).mono ?_; rintro r w4 ⟨⟨g, c2, rfl, hg, hr⟩, hb⟩; have BX := Lib.hid (show Below w3.heap.size w3 w4 from by refine Below.trans ?_ (hb.mono ?_) <;> (repeat' (first | (with_reducible exact Below.refl _ _) | (with_reducible assumption) | (with_reducible refine Below.alloc ?_ ?_ _) | (with_reducible refine Below.drew ?_) | (with_reducible refine below_dn ?_) | (with_reducible refine Below.setCell ?_ ?_ _) | (with_reducible exact Nat.le_refl _) | omega | (simp only [World.size_alloc, World.size_setCell, World.size_drew]; omega) | (simp; omega) | (simp; done)))); have KX := Lib.hid (K1.out.below BX.out K1.out.lt); have QX := Lib.hid (keep Q1.out BX.out); have QY := Lib.hid (show ∀ ob, (w4.alloc ob).cell? ⟨bs, os + k, none⟩ = some (.string key) from fun ob => keep QX.out ((Below.refl _ w4).alloc (Nat.le_refl _) ob)); (try (refine (have OZ : Hid (Blk w4 w3.heap.size 24 #[.int .i64 0, .int .i64 0, .int .i64 0, .slice none 0 0]) := ?hz; ?_); (case hz => exact Lib.hid ((Blk.new _ _ _).drew.below hb (by simp))); obtain ⟨o0, o1, o2, o3⟩ := four OZ.out; have of := fun q => OZ.out.frozen q))))
        all_goals go_wp2_with fail
        all_goals go_meet
        · exact ⟨w4.heap.size, g, c2, rfl, Lib.hid ⟨BX.out.size, hg, by have := hr.lt; omega⟩, Lib.hid (Blk.new _ _ _), Lib.hid (hr.alloc _), Lib.hid (BX.out.alloc BX.out.size _)⟩
        · have hg' : w3.heap.size + 1 ≤ g := by simpa using hg
          have hn' : g ≠ w3.heap.size := by omega
          exact ⟨w3.heap.size, g, c2, rfl, Lib.hid ⟨Nat.le_refl _, by omega, hn'⟩, Lib.hid ((((OZ.out.set_ 0 _).set_ 1 _).set_ 2 _).set_ 3 _), Lib.hid ((((hr.far hn' _).far hn' _).far hn' _).far hn' _), Lib.hid ((((BX.out.setCell (by simp) _).setCell (by simp) _).setCell (by simp) _).setCell (by simp) _)⟩
      case rest =>
        obtain ⟨o, g, c2, rfl, hne, KO, RG, hbx⟩ := hcut
        have hgw : g ≠ w.heap.size := by have := hne.out; omega
        replace K1 := Lib.hid (K1.out.below hbx.out K1.out.lt).drew
        replace KO := Lib.hid KO.out.drew
        replace R1 := Lib.hid (R1.out.below hbx.out R1.out.lt).drew
        replace I1 := Lib.hid ((I1.out.mono hbx.out).mono (Below.drew (Below.refl _ wc)))
        replace Q1 := Lib.hid (show (World.drew wc).cell? ⟨bs, os + k, none⟩ = some (.string key) from keep Q1.out (Below.drew hbx.out))
        replace B1 := Lib.hid (Below.drew (bt B1.out hbx.out))
        have I2 := Lib.hid (RG.out.ints.mono (Below.drew (Below.refl _ wc)))
        clear hbx RG hne LA3 AD zw zb
        have k0 : (0 : Int) ≤ (k : Int) := by omega
        have kn : (k : Int) < (n : Int) := by omega
        go_wp2_with fail
        go_region_held3 (fun X => (X.cell? ⟨w.heap.size, 0, none⟩ = some (.int .i64 N) ∧ X.cell? ⟨w.heap.size, 1, none⟩ = some (.int .i64 S) ∧ X.cell? ⟨w.heap.size, 2, none⟩ = some (.int .i64 A1) ∧ X.cell? ⟨w.heap.size, 3, none⟩ = some (.slice a1 m c1)) ∧ (X.cell? ⟨o, 0, none⟩ = some (.int .i64 N) ∧ X.cell? ⟨o, 1, none⟩ = some (.int .i64 S) ∧ X.cell? ⟨o, 2, none⟩ = some (.int .i64 A2) ∧ X.cell? ⟨o, 3, none⟩ = some (.slice (some ⟨g, 0, none⟩) m c2)) ∧ X.cell? ⟨bs, os + k, none⟩ = some (.string key)) (first | with_reducible exact ⟨four K1.out, four KO.out, Q1.out⟩) (first | (go_at_call 23; with_reducible refine (AE.out _ I1.out (LK.out.mono B1.out)).mono ?_; rintro r w5 ⟨⟨b5, c5, rfl, hi⟩, hb⟩; replace K1 := Lib.hid (K1.out.below hb K1.out.lt); replace KO := Lib.hid (KO.out.below hb KO.out.lt); replace R1 := Lib.hid (R1.out.below hb R1.out.lt); replace I1 := Lib.hid (I1.out.mono hb); replace I2 := Lib.hid (I2.out.mono hb); replace Q1 := Lib.hid (keep Q1.out hb); replace B1 := Lib.hid (bt B1.out hb); clear hb; have I5 := Lib.hid hi; clear hi) | (go_at_call 13; with_reducible refine (SM.out _ _ _ _ _ I2.out I5.out).mono ?_; rintro r w6 ⟨rfl, hb⟩; replace K1 := Lib.hid (K1.out.below hb K1.out.lt); replace KO := Lib.hid (KO.out.below hb KO.out.lt); replace R1 := Lib.hid (R1.out.below hb R1.out.lt); replace I1 := Lib.hid (I1.out.mono hb); replace I2 := Lib.hid (I2.out.mono hb); replace Q1 := Lib.hid (keep Q1.out hb); replace B1 := Lib.hid (bt B1.out hb); clear hb) | (go_at_call 12; with_reducible refine (VM.out _ _ _ I2.out).mono ?_; rintro r w7 ⟨rfl, hb⟩; replace K1 := Lib.hid (K1.out.below hb K1.out.lt); replace KO := Lib.hid (KO.out.below hb KO.out.lt); replace R1 := Lib.hid (R1.out.below hb R1.out.lt); replace I1 := Lib.hid (I1.out.mono hb); replace I2 := Lib.hid (I2.out.mono hb); replace Q1 := Lib.hid (keep Q1.out hb); replace B1 := Lib.hid (bt B1.out hb); clear hb))
        obtain ⟨wa, rfl⟩ : ∃ v, v = wr := ⟨_, rfl⟩
        go_wp2_with fail
        go_loopw [9] (fun u9 wr => ∃ i : Nat, i ≤ m ∧ u9 = .int .i64 i ∧ Hid (RowI wr b0 l1) ∧ Hid (IntsA wr a1 l1) ∧ Hid (Blk wr w.heap.size 24 #[.int .i64 N, .int .i64 S, .int .i64 A1, .slice a1 m c1]) ∧ Hid (Blk wr o 24 #[.int .i64 N, .int .i64 S, .int .i64 A2, .slice (some ⟨g, 0, none⟩) m c2]) ∧ Hid (IntsA wr (some ⟨g, 0, none⟩) l2) ∧ Hid (Below w.heap.size w wr)) (fun u9 _ => m - (intOf u9).toNat)
        case atStart => exact ⟨0, by omega, rfl, R1, I1, K1, KO, I2, B1⟩
        case round =>
          clear R1 I1 K1 KO I2 B1 Q1 AE SM VM I5
          obtain ⟨i, hi, rfl, R1, I1, K1, KO, I2, B1⟩ := hrel
          by_cases him : i < m
          · have q3 : wr.cell? ⟨w.heap.size, 3, none⟩ = some (.slice a1 m c1) := K1.out.cell 3
            have q4 := R1.out.cell (k := i) (by rw [HL1.out]; exact him)
            obtain ⟨bx, ox, rfl, q5⟩ := I1.out i (by rw [HL1.out]; exact him)
            obtain ⟨x, hx⟩ : ∃ x, l1.getD i 0 = x := ⟨_, rfl⟩
            rw [hx] at q4 q5
            have t1 : (x != x) = false := by simp
            have i0 : (0 : Int) ≤ (i : Int) := by omega
            have im : (i : Int) < (m : Int) := by omega
            clear hx
            go_wp2_with fail
            go_quiet (fail)
            go_wp2_with fail
            go_roundw
            case rel => exact ⟨i + 1, by omega, by go_num, Lib.hid (R1.out.drewN _), Lib.hid (I1.out.mono (below_dn (Below.refl _ wr))), Lib.hid (K1.out.drewN _), Lib.hid (KO.out.drewN _), Lib.hid (I2.out.mono (below_dn (Below.refl _ wr))), Lib.hid (below_dn B1.out)⟩
            case measure => simp [intOf]; omega
          · obtain ⟨d0, d1, d2, d3⟩ := four KO.out
            obtain ⟨h0, h1, h2, h3⟩ := four K1.out
            have f1 := fun q => K1.out.frozen q
            go_wp2_with fail
            go_roundw
            case rel => exact ⟨k + 1, A2, some ⟨g, 0, none⟩, c2, l2, by omega, by go_num, OK2, HL2, Lib.hid ((((I2.out.far1 hgw _).far1 hgw _).far1 hgw _).far1 hgw _), Lib.hid ((((K1.out.set_ 0 _).set_ 1 _).set_ 2 _).set_ 3 _), Lib.hid ((((B1.out.setCell (by simp) _).setCell (by simp) _).setCell (by simp) _).setCell (by simp) _)⟩
            case measure => simp [intOf]; omega
    · go_wp2_with fail
      refine (SA.out _ (LA.out.mono B1.out)).mono ?_
      rintro r w9 ⟨rfl, hb⟩
      have B9 := Lib.hid (bt B1.out hb)
      clear hb
      go_wp2_with fail
      go_ret
      exact ⟨rfl, B9.out⟩
end
section
open Go.RowKit
set_option maxRecDepth 100000 in
set_option maxHeartbeats 2000000 in
theorem adds_law (W S A : Int) (a : Option Addr) (cap : Nat) (l : List Int) (s : Option Addr) (scap : Nat) (ss : List ByteArray) (w : World) (hp : IntsA w a l) (hm : l.length ≤ 9223372036854775807) (hs : StrsA w s ss) (hsm : ss.length ≤ 9223372036854775807)
    (hz : ∀ x ∈ ss, x.size ≤ 9223372036854775807) (wa : -9223372036854775808 ≤ W) (wb : W ≤ 9223372036854775807) (hla : LaidC w) (hlk : LaidK w) :
    Calls Tryd.prog 4 #[.agg #[.int .i64 W, .int .i64 S, .int .i64 A, .slice a l.length cap], .slice s ss.length scap] w fun e w' => e = .returned (.bool true) ∧ Below w.heap.size w w' := by
  by_cases hall : l.length ≤ 300 ∧ Ok W S A l ∧ Short ss
  · obtain ⟨h1, h2, h3⟩ := hall
    obtain ⟨N, rfl, -, -⟩ := h2.nat3
    exact adds_ok N S A a cap l s scap ss w hp hs h1 h2 h3 hla hlk
  · have LA := Lib.hid hla
    have HP := Lib.hid hp
    have HS := Lib.hid hs
    have VR := Lib.hid (fun (X : World) (h : IntsA X a l) => validref_any W S A a cap l X h hm wa wb)
    have SO := Lib.hid (fun (X : World) (h : StrsA X s ss) => short_any s scap ss X h hsm (fun k hk => by rw [getD_at _ hk]; exact hz _ (List.getElem_mem hk)))
    have SA := Lib.hid (fun (X : World) (h : LaidC X) => sane X h)
    obtain ⟨n, hn⟩ : ∃ n, l.length = n := ⟨_, rfl⟩
    obtain ⟨m, hmm⟩ : ∃ n, ss.length = n := ⟨_, rfl⟩
    rw [hn] at VR hm hall ⊢
    rw [hmm] at SO ⊢
    have G0 := Lib.hid (show Below w.heap.size w (w.alloc (.cells #[.int .i64 W, .int .i64 S, .int .i64 A, .slice a n cap] 24)) by (repeat' (first | (with_reducible exact Below.refl _ _) | (with_reducible assumption) | (with_reducible refine Below.alloc ?_ ?_ _) | (with_reducible refine Below.drew ?_) | (with_reducible refine below_dn ?_) | (with_reducible refine Below.setCell ?_ ?_ _) | (with_reducible exact Nat.le_refl _) | omega | (simp only [World.size_alloc, World.size_setCell, World.size_drew]; omega) | (simp; omega) | (simp; done))))
    clear hla hp hs hn hmm wa wb hsm hz hlk
    by_cases sh : Short ss
    · have SH := Lib.hid sh
      by_cases h1 : n ≤ 300
      · have t1 : decide ((300 : Int) < (n : Int)) = false := decide_eq_false (by omega)
        have NO := Lib.hid (show ¬ Ok W S A l from fun h => hall ⟨h1, h, sh⟩)
        clear hall sh
        go_enter Tryd.func4, Tryd.ntmps4
        go_wp2_with fail
        refine (SO.out _ (HS.out.mono G0.out)).mono ?_
        rintro r w1 ⟨⟨b, rfl, hb0⟩, hb⟩
        obtain rfl : b = true := hb0.2 SH.out
        have K := Lib.hid (show Blk w1 w.heap.size 24 #[.int .i64 W, .int .i64 S, .int .i64 A, .slice a n cap] from (Blk.new' w _ _ _ rfl rfl).below hb (by simp))
        have B := Lib.hid (bt G0.out hb)
        clear hb hb0 SO G0
        obtain ⟨d0, d1, d2, d3⟩ := four K.out
        go_wp2_with fail
        refine (VR.out _ (HP.out.mono B.out)).mono ?_
        rintro r w2 ⟨⟨b, rfl, hb0⟩, hb⟩
        obtain rfl : b = false := by
          cases b
          · rfl
          · exact absurd (hb0.1 rfl) NO.out
        replace B := Lib.hid (bt B.out hb)
        clear hb hb0 VR d0 d1 d2 d3
        go_wp2_with fail
        refine (SA.out _ (LA.out.mono B.out)).mono ?_
        rintro e w9 ⟨rfl, hb⟩
        replace B := Lib.hid (bt B.out hb)
        clear hb
        go_wp2_with fail
        go_ret
        exact ⟨rfl, B.out⟩
      · have t1 : decide ((300 : Int) < (n : Int)) = true := decide_eq_true (by omega)
        clear hall sh
        go_enter Tryd.func4, Tryd.ntmps4
        go_wp2_with fail
        refine (SO.out _ (HS.out.mono G0.out)).mono ?_
        rintro r w1 ⟨⟨b, rfl, hb0⟩, hb⟩
        obtain rfl : b = true := hb0.2 SH.out
        have K := Lib.hid (show Blk w1 w.heap.size 24 #[.int .i64 W, .int .i64 S, .int .i64 A, .slice a n cap] from (Blk.new' w _ _ _ rfl rfl).below hb (by simp))
        have B := Lib.hid (bt G0.out hb)
        clear hb hb0 SO G0
        obtain ⟨d0, d1, d2, d3⟩ := four K.out
        go_wp2_with fail
        refine (SA.out _ (LA.out.mono B.out)).mono ?_
        rintro e w9 ⟨rfl, hb⟩
        replace B := Lib.hid (bt B.out hb)
        clear hb
        go_wp2_with fail
        go_ret
        exact ⟨rfl, B.out⟩
    · have SH := Lib.hid sh
      clear hall sh
      go_enter Tryd.func4, Tryd.ntmps4
      go_wp2_with fail
      refine (SO.out _ (HS.out.mono G0.out)).mono ?_
      rintro r w1 ⟨⟨b, rfl, hb0⟩, hb⟩
      obtain rfl : b = false := by
        cases b
        · rfl
        · exact absurd (hb0.1 rfl) SH.out
      have B := Lib.hid (bt G0.out hb)
      clear hb hb0 SO G0
      go_wp2_with fail
      refine (SA.out _ (LA.out.mono B.out)).mono ?_
      rintro e w9 ⟨rfl, hb⟩
      replace B := Lib.hid (bt B.out hb)
      clear hb
      go_wp2_with fail
      go_ret
      exact ⟨rfl, B.out⟩
end
end Go.Proofs.YtmmjkhamknfhpaaDoor
