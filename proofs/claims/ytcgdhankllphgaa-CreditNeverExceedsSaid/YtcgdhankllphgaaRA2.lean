import Derived.Test.YtcgdhankllphgaaRA1
import Derived.Laws.StructEq
import Derived.Great.FillDense
import Derived.Great.BuildSlice
import Derived.Laws.MakeOwn
namespace Go.Proofs.Ytcgdhankllphgaa
set_option linter.unusedVariables false
set_option linter.unusedSimpArgs false
set_option linter.unusedSectionVars false
section
namespace Am
open Go Go.RowKit
theorem pureOf_run {P : Program} {α : Type} (w : World) : ∀ (s : Sem α) (r : α), pureOf P s = some r → s.run P w = .ok r w
  | .pure a, r, h => by cases h; rfl
  | .program k, r, h => pureOf_run w (k P) r h
  | .load _ _ _, _, h => by cases h
  | .store _ _ _ _, _, h => by cases h
  | .new _ _, _, h => by cases h
  | .shape _ _, _, h => by cases h
  | .freeze _ _ _, _, h => by cases h
  | .frozen _ _, _, h => by cases h
  | .getObj _ _, _, h => by cases h
  | .setObj _ _ _, _, h => by cases h
  | .choose _ _, _, h => by cases h
  | .sys _ _, _, h => by cases h
  | .mark _ _, _, h => by cases h
  | .halt _, _, h => by cases h
section
variable [Base] {P : Program} {ti : TypeId → Option TI} {S : Nat → Prop} {F : Nat → Option Cn} {w : World}
theorem scal_ok {s : Sem Value} {e : Eff} (h : scal P s = some e) : ∃ r, s.run P w = .ok r w ∧ VR S F w e.v r ∧ e.upd = [] := by
  unfold scal at h
  split at h
  · rename_i r hr
    cases h
    exact ⟨r, pureOf_run w s r hr, .v r, rfl⟩
  · cases h
theorem addr_add (b o j : Nat) : (⟨b, o, none⟩ : Addr).add j = ⟨b, o + j, none⟩ := Addr.add_mid b o j
theorem extractE_ok {i : Nat} {x : AV} {v : Value} (hx : VR S F w x v) {e : Eff} (h : extractE i x = some e) : ∃ r, (Instr.extract v i).run P w = .ok r w ∧ VR S F w e.v r ∧ e.upd = [] := by
  unfold extractE at h
  split at h
  · rename_i cs
    obtain ⟨vs, rfl, hl⟩ := hx.tup_eq
    split at h
    · rename_i y hy
      cases h
      obtain ⟨u, q1, q2⟩ := hl.at hy
      refine ⟨u, ?_, q2, rfl⟩
      simp [Instr.extract, q1]
    · cases h
  · cases h
theorem lenE_ok (hti : TOk P ti) {t : TypeId} {x : AV} {v : Value} (hx : VR S F w x v) {e : Eff} (h : lenE ti t x = some e) (ty : TypeId) :
    ∃ r, (Builtin.len_ #[t] ty #[v]).run P w = .ok r w ∧ VR S F w e.v r ∧ e.upd = [] := by
  unfold lenE at h
  split at h
  · rename_i el hu
    obtain ⟨_, hu, rfl⟩ := hti.tdesc hu
    have key : ∀ a n c, v = .slice a n c → (Builtin.len_ #[t] ty #[v]).run P w = .ok (.int .i64 n) w := fun a n c e => by
      subst e; simp [Builtin.len_, run_underlying hu, goInt]
    split at h
    · cases h
      cases hx with
      | sl _ a n cap k b o f hn _ _ _ _ => exact ⟨_, key _ _ _ rfl, by rw [hn]; exact .v _, rfl⟩
    · cases h
      cases hx with
      | own => exact ⟨_, key _ _ _ rfl, .v _, rfl⟩
      | ownN => exact ⟨_, key _ _ _ rfl, .v _, rfl⟩
      | ownD => exact ⟨_, key _ _ _ rfl, .v _, rfl⟩
    · cases h
      exact ⟨_, key _ _ _ hx.v_eq, .v _, rfl⟩
    · cases h
  · rename_i hu
    obtain ⟨_, hu, rfl⟩ := hti.tdesc hu
    split at h
    · cases h
      have hx := hx.v_eq
      subst hx
      exact ⟨_, by simp [Builtin.len_, run_underlying hu]; rfl, .v _, rfl⟩
    · cases h
  · cases h
theorem pickE_ok {a b c : AV} {va vb vc : Value} (ha : VR S F w a va) (hb : VR S F w b vb) (hc : VR S F w c vc) {e : Eff} (h : pickE a b c = some e) : ∃ r, ((do pure (if ← asBool vc then va else vb) : Sem Value)).run P w = .ok r w ∧ VR S F w e.v r ∧ e.upd = [] := by
  unfold pickE at h
  split at h
  · split at h
    · cases h
      have hc := hc.v_eq
      have ha := ha.v_eq
      have hb := hb.v_eq
      subst hc ha hb
      refine ⟨_, ?_, .v _, rfl⟩
      rename_i cc _ x y
      cases cc <;> simp [asBool]
    · have hc := hc.v_eq
      subst hc
      split at h
      · cases h; exact ⟨va, by simp [asBool], ha, rfl⟩
      · cases h; exact ⟨vb, by simp [asBool], hb, rfl⟩
  · cases h
theorem unE_ok {op : UnOp} {x : AV} {v : Value} (hx : VR S F w x v) {e : Eff} (h : unE op x = some e) : ∃ r, (Op.unary op v).run P w = .ok r w ∧ VR S F w e.v r ∧ e.upd = [] := by
  unfold unE at h
  split at h
  · split at h
    · cases h
      have hx := hx.v_eq
      subst hx
      exact ⟨_, rfl, .v _, rfl⟩
    · cases h
  · split at h
    · cases h
      have hx := hx.v_eq
      subst hx
      exact ⟨_, rfl, .v _, rfl⟩
    · cases h
  · cases h
theorem convE_ok (hti : TOk P ti) {s d : TypeId} {x : AV} {v : Value} (hs : ∃ ds, P.underlying s = some ds ∧ ds ≠ .unsafePointer) (hx : VR S F w x v) {e : Eff} (h : convE ti d x = some e) : ∃ r, (convert s d v).run P w = .ok r w ∧ VR S F w e.v r ∧ e.upd = [] := by
  obtain ⟨ds, hs, -⟩ := hs
  unfold convE at h
  split at h
  · split at h
    · rename_i k hk
      cases h
      have hx := hx.v_eq
      subst hx
      obtain ⟨_, hk, rfl⟩ := hti.tdesc hk
      refine ⟨_, ?_, .v _, rfl⟩
      simp [convert, run_underlying hs, run_underlying hk, Conv.intToInt]
    · cases h
  · split at h
    · rename_i hk
      cases h
      have hx := hx.v_eq
      subst hx
      obtain ⟨_, hk, rfl⟩ := hti.tdesc hk
      refine ⟨_, ?_, .v _, rfl⟩
      simp [convert, run_underlying hs, run_underlying hk]
    · cases h
  · cases h
theorem binE_ok (hti : TOk P ti) {op : BinOp} {t : TypeId} {x y : Operand} {a b : AV} {va vb : Value} (ha : VR S F w a va) (hb : VR S F w b vb) {e : Eff} (h : binE P ti op t a b = some e) (ho : e.obl) :
    ∃ r, ((do eqGuard op t x y va vb; binOp op t va vb : Sem Value)).run P w = .ok r w ∧ VR S F w e.v r ∧ e.upd = [] := by
  unfold binE at h
  split at h
  · rename_i k p k2 q
    have ha := ha.v_eq
    have hb := hb.v_eq
    subst ha hb
    have hg : (eqGuard op t x y (.int k p) (.int k2 q)).run P w = .ok () w := by cases op <;> rfl
    rw [Sem.run_bind, hg]
    simp only [Result.andThen_ok]
    cases op <;> simp only at h
    case add => split at h <;> cases h; subst ‹k = k2›; exact ⟨_, by simp [binOp, Op.intArith], .v _, rfl⟩
    case sub => split at h <;> cases h; subst ‹k = k2›; exact ⟨_, by simp [binOp, Op.intArith], .v _, rfl⟩
    case mul => split at h <;> cases h; subst ‹k = k2›; exact ⟨_, by simp [binOp, Op.intArith], .v _, rfl⟩
    case quo => split at h <;> cases h; subst ‹k = k2›; have ho : q ≠ 0 := ho; exact ⟨_, by simp [binOp, Op.intDiv, ho], .v _, rfl⟩
    case rem => split at h <;> cases h; subst ‹k = k2›; have ho : q ≠ 0 := ho; exact ⟨_, by simp [binOp, Op.intDiv, ho], .v _, rfl⟩
    case eql => split at h <;> cases h; subst ‹k = k2›; exact ⟨_, by simp [binOp, Op.intCmp], .v _, rfl⟩
    case neq => split at h <;> cases h; subst ‹k = k2›; exact ⟨_, by simp [binOp, Op.intCmp], .v _, rfl⟩
    case lss => split at h <;> cases h; subst ‹k = k2›; exact ⟨_, by simp [binOp, Op.intCmp], .v _, rfl⟩
    case leq => split at h <;> cases h; subst ‹k = k2›; exact ⟨_, by simp [binOp, Op.intCmp], .v _, rfl⟩
    case gtr => split at h <;> cases h; subst ‹k = k2›; exact ⟨_, by simp [binOp, Op.intCmp], .v _, rfl⟩
    case geq => split at h <;> cases h; subst ‹k = k2›; exact ⟨_, by simp [binOp, Op.intCmp], .v _, rfl⟩
    case shl => cases h; have ho : 0 ≤ q := ho; exact ⟨_, by simp [binOp, Op.shift, Int.not_lt.2 ho], .v _, rfl⟩
    case shr => cases h; have ho : 0 ≤ q := ho; exact ⟨_, by simp [binOp, Op.shift, Int.not_lt.2 ho], .v _, rfl⟩
    all_goals exact scal_ok h
  · rename_i p q
    have ha := ha.v_eq
    have hb := hb.v_eq
    subst ha hb
    have hg : (eqGuard op t x y (.bool p) (.bool q)).run P w = .ok () w := by cases op <;> rfl
    rw [Sem.run_bind, hg]
    simp only [Result.andThen_ok]
    split at h
    · rename_i hu
      obtain ⟨_, hu, rfl⟩ := hti.tdesc hu
      split at h
      · cases h; exact ⟨_, by simp [binOp, Op.equal, Op.maxDepth, run_equalIn_bool' w 9999 t p q hu], .v _, rfl⟩
      · cases h; exact ⟨_, by simp [binOp, Op.equal, Op.maxDepth, run_equalIn_bool' w 9999 t p q hu], .v _, rfl⟩
      · cases h
    · cases h
  · rename_i p q
    have ha := ha.v_eq
    have hb := hb.v_eq
    subst ha hb
    have hg : (eqGuard op t x y (.string p) (.string q)).run P w = .ok () w := by cases op <;> rfl
    rw [Sem.run_bind, hg]
    simp only [Result.andThen_ok]
    cases op
    case add =>
      cases h
      have ho : p.size + q.size ≤ 9223372036854775807 := ho
      refine ⟨_, ?_, .v _, rfl⟩
      have : ¬ (((p.size + q.size : Nat) : Int) > IntKind.i64.max) := by
        have : IntKind.i64.max = 9223372036854775807 := rfl
        rw [this]; omega
      simp only [binOp, Op.stringOp, if_neg this]
      rfl
    all_goals first
      | (cases h; done)
      | (cases h; exact ⟨_, by simp only [binOp, Op.stringOp]; rfl, .v _, rfl⟩)
  · cases h
end
end Am
end
section
namespace Am
open Go Go.RowKit
section
variable [Base] {P : Program} {ti : TypeId → Option TI} {B : Nat} {D S0 : Nat → Prop} {T : Nat → Option Blk} {F : Nat → Option Cn} {w : World}
theorem VR.dp_eq {S : Nat → Prop} {cs : List AV} {v : Value} (h : VR S F w (.dp cs) v) : ∃ (b o : Nat) (f : Nat → Value), v = .pointer (some ⟨b, o, none⟩) ∧ (∀ (j : Nat) (c : AV), cs[j]? = some c → S b ∧ w.cell? ⟨b, o + j, none⟩ = some (f j)) ∧ (∀ (j : Nat) (c : AV), cs[j]? = some c → VR S (fun _ => none) w c (f j)) := by
  cases h with
  | dp _ b o f h1 h2 => exact ⟨b, o, f, rfl, h1, h2⟩
theorem VR.dp_drop {S : Nat → Prop} {cs : List AV} {b o n : Nat} {f : Nat → Value} (h : ∀ (j : Nat) (c : AV), cs[j]? = some c → S b ∧ w.cell? ⟨b, o + j, none⟩ = some (f j)) (hv : ∀ (j : Nat) (c : AV), cs[j]? = some c → VR S (fun _ => none) w c (f j)) :
    VR S F w (.dp (cs.drop n)) (.pointer (some ⟨b, o + n, none⟩)) :=
  .dp _ b (o + n) (fun j => f (n + j)) (fun j c hj => by rw [List.getElem?_drop] at hj; have := h _ c hj; rw [Nat.add_assoc]; exact this) (fun j c hj => by rw [List.getElem?_drop] at hj; exact hv _ c hj)
theorem fieldAddrE_ok (hti : TOk P ti) (hT : TabR B D S0 T F w) {s : TypeId} {f : Nat} {x : AV} {v : Value} (hx : VR (stab B D S0 T F w) F w x v) {e : Eff} (h : fieldAddrE ti T s f x = some e) :
    ∃ r, (Instr.fieldAt s v f).run P w = .ok r w ∧ VR (stab B D S0 T F w) F w e.v r ∧ e.upd = [] := by
  unfold fieldAddrE at h
  split at h
  · rename_i fs hs
    obtain ⟨_, hu, Fq, rfl, hFq⟩ := hti.tdesc hs
    split at h
    · rename_i p hp
      obtain ⟨fd, hfd, e1, e2⟩ := hFq f p hp
      rw [← e1, ← e2] at h
      have key : ∀ (i : TI) (b o : Nat), ti fd.type = some i → v = .pointer (some ⟨b, o, none⟩) → (Instr.fieldAt s v f).run P w = .ok (.pointer (some ⟨b, o + fd.offset, none⟩)) w := fun i b o hi e => by
        subst e
        have hz : ¬ i.size = 0 := by have := hti.pos hi; omega
        simp [Instr.fieldAt, run_underlying hu, hfd, Instr.sureAddr, fieldPlace, run_sizeOf' (hti.size hi), hz, addr_add]
      split at h
      · rename_i i id ix off hi
        split at h
        · rename_i b hb
          cases h
          obtain ⟨g, cap, hF, rfl, -⟩ := hT.ptr hb hx
          exact ⟨_, key i g _ hi rfl, by rw [Nat.add_assoc]; exact .ptr _ _ _ _ _ _ hF, rfl⟩
        · cases h
      · rename_i i cs hi
        cases h
        obtain ⟨b, o, g, rfl, h1, h2⟩ := hx.dp_eq
        exact ⟨_, key _ b o hi rfl, VR.dp_drop h1 h2, rfl⟩
      · cases h
    · cases h
  · cases h
theorem fieldE_ok {S : Nat → Prop} (hti : TOk P ti) {s : TypeId} {f : Nat} {x : AV} {v : Value} (hx : VR S F w x v) {e : Eff} (h : fieldE ti s f x = some e) (ho : e.obl) :
    ∃ r, (Instr.field s v f).run P w = .ok r w ∧ VR S F w e.v r ∧ e.upd = [] := by
  unfold fieldE at h
  split at h
  · rename_i fs hs
    obtain ⟨_, hu, Fq, rfl, hFq⟩ := hti.tdesc hs
    split at h
    · rename_i p hp
      obtain ⟨fd, hfd, e1, e2⟩ := hFq f p hp
      rw [← e1, ← e2] at h
      split at h
      · rename_i i cs hi
        split at h
        · rename_i y hy
          cases h
          obtain ⟨vs, rfl, hl⟩ := hx.agg_eq
          obtain ⟨r, r1, r2⟩ := run_part (P := P) (w := w) hti hi hl hy ho
          exact ⟨r, by simp [Instr.field, run_underlying hu, hfd, asAgg, r1], r2, rfl⟩
        · cases h
      · cases h
    · cases h
  · cases h
theorem indexE_ok {S : Nat → Prop} (hti : TOk P ti) {t : TypeId} {x ix : AV} {v vi : Value} (hx : VR S F w x v) (hi : VR S F w ix vi) {e : Eff} (h : indexE ti t x ix = some e) (ho : e.obl) :
    ∃ r, (Instr.index t v vi).run P w = .ok r w ∧ VR S F w e.v r ∧ e.upd = [] := by
  unfold indexE at h
  split at h
  · rename_i k i
    have hi := hi.v_eq
    subst hi
    split at h
    · rename_i n el cs hs
      obtain ⟨_, hu, rfl⟩ := hti.tdesc hs
      split at h
      · rename_i ie hie
        split at h
        · rename_i y hy
          cases h
          obtain ⟨ho1, ho2, ho3⟩ : 0 ≤ i ∧ i < n ∧ i.toNat * ie.size + ie.size ≤ cs.length := ho
          obtain ⟨vs, rfl, hl⟩ := hx.agg_eq
          obtain ⟨r, r1, r2⟩ := run_part (P := P) (w := w) hti hie hl hy ho3
          exact ⟨r, by simp [Instr.index, asIntOf, run_underlying hu, ho1, ho2, run_sizeOf' (hti.size hie), r1], r2, rfl⟩
        · cases h
      · cases h
    · rename_i s hs
      obtain ⟨_, hu, rfl⟩ := hti.tdesc hs
      cases h
      have hx := hx.v_eq
      subst hx
      obtain ⟨ho1, ho2⟩ : 0 ≤ i ∧ i < s.size := ho
      have hlt : i.toNat < s.size := by omega
      refine ⟨_, ?_, .v _, rfl⟩
      have h3 : s[i.toNat]? = some s[i.toNat] := by simp [hlt]
      have h4 : s.data.getD i.toNat 0 = s[i.toNat] := by
        show s.data.getD i.toNat 0 = s.data[i.toNat]
        have : i.toNat < s.data.size := hlt
        unfold Array.getD
        rw [dif_pos this]
        rfl
      simp only [Instr.index, asIntOf, Sem.run_bind, Sem.run_pure, Result.andThen_ok, run_underlying hu, if_pos ho1, h3, h4]
    · cases h
  · cases h
theorem indexAddrE_ok (hti : TOk P ti) (hT : TabR B D S0 T F w) {t : TypeId} {x ix : AV} {v vi : Value} (hx : VR (stab B D S0 T F w) F w x v) (hi : VR (stab B D S0 T F w) F w ix vi) {e : Eff} (h : indexAddrE ti T t x ix = some e) (ho : e.obl) :
    ∃ r, (Instr.indexAt t v vi).run P w = .ok r w ∧ VR (stab B D S0 T F w) F w e.v r ∧ e.upd = [] := by
  unfold indexAddrE at h
  split at h
  · rename_i k i
    have hi := hi.v_eq
    subst hi
    split at h
    · rename_i el hs
      obtain ⟨_, hu, rfl⟩ := hti.tdesc hs
      have key : ∀ (ie : TI) (b o n c : Nat), ti el = some ie → v = .slice (some ⟨b, o, none⟩) n c → 0 ≤ i → i < n → (Instr.indexAt t v (.int k i)).run P w = .ok (.pointer (some ⟨b, o + i.toNat * ie.size, none⟩)) w := fun ie b o n c hie e h0 h1 => by
        subst e
        simp [Instr.indexAt, asIntOf, run_underlying hu, h0, h1, run_sizeOf' (hti.size hie), addr_add]
      split at h
      · rename_i ie els hie
        cases h
        obtain ⟨ho1, ho2, ho3⟩ : 0 ≤ i ∧ i < els.length ∧ (els.getD i.toNat []).length = ie.size := ho
        have hlt : i.toNat < els.length := by omega
        cases hx with
        | sl _ a n cap kk b o f hn hc hk h1 h2 =>
          have hrow : els[i.toNat]? = some (els.getD i.toNat []) := by simp [List.getD_eq_getElem?_getD, List.getElem?_eq_getElem hlt]
          have hpos := hti.pos hie
          have hkk := hk _ _ hrow
          rw [ho3] at hkk
          subst hkk
          have hc0 : (els.getD i.toNat [])[0]? = some ((els.getD i.toNat []).getD 0 .any) := by
            rw [List.getD_eq_getElem?_getD (i := 0), List.getElem?_eq_getElem (by omega)]; rfl
          obtain ⟨ha, -, -⟩ := h1 _ 0 _ _ hrow hc0
          subst ha
          refine ⟨_, key ie b o n cap hie rfl ho1 (by omega), ?_, rfl⟩
          refine .dp _ b _ (f i.toNat) (fun j c hj => ?_) (fun j c hj => h2 _ j _ c hrow hj)
          obtain ⟨-, q2, q3⟩ := h1 _ j _ c hrow hj
          exact ⟨q2, by rw [Nat.add_assoc]; exact q3⟩
      · rename_i ie id o n hie
        split at h
        · rename_i b hb
          split at h
          · rename_i hkk
            cases h
            obtain ⟨ho1, ho2⟩ : 0 ≤ i ∧ i < n := ho
            rcases hT.own hb hx with ⟨g, cap, oo, hF, rfl, hn, hoo, -⟩ | ⟨-, -, rfl, -⟩
            · refine ⟨_, key ie g oo n _ hie rfl ho1 ho2, ?_, rfl⟩
              rw [hoo (by omega), ← hkk, ← Nat.add_mul]
              exact .ptr id (o + i.toNat) 0 g cap b.k hF
            · omega
          · cases h
        · cases h
      · cases h
    · rename_i n el hs
      obtain ⟨_, hu, rfl⟩ := hti.tdesc hs
      have key : ∀ (ie : TI) (b o : Nat), ti el = some ie → v = .pointer (some ⟨b, o, none⟩) → 0 ≤ i → i < n → (Instr.indexAt t v (.int k i)).run P w = .ok (.pointer (some ⟨b, o + i.toNat * ie.size, none⟩)) w := fun ie b o hie e h0 h1 => by
        subst e
        simp [Instr.indexAt, asIntOf, run_underlying hu, Instr.sureAddr, h0, h1, run_sizeOf' (hti.size hie), addr_add]
      split at h
      · rename_i ie id ix off hie
        split at h
        · rename_i b hb
          cases h
          obtain ⟨ho1, ho2⟩ : 0 ≤ i ∧ i < n := ho
          obtain ⟨g, cap, hF, rfl, -⟩ := hT.ptr hb hx
          exact ⟨_, key ie g _ hie rfl ho1 ho2, by rw [Nat.add_assoc]; exact .ptr _ _ _ _ _ _ hF, rfl⟩
        · cases h
      · rename_i ie cs hie
        cases h
        obtain ⟨ho1, ho2⟩ : 0 ≤ i ∧ i < n := ho
        obtain ⟨b, o, g, rfl, h1, h2⟩ := hx.dp_eq
        exact ⟨_, key ie b o hie rfl ho1 ho2, VR.dp_drop h1 h2, rfl⟩
      · cases h
    · cases h
  · cases h
theorem minE_ok {S : Nat → Prop} {op : Builtin} {l : List AV} {vs : List Value} (hl : LR S F w l vs) {e : Eff} (h : minE op l = some e) (at_ : Array TypeId) (ty : TypeId) (cs : Array Bool) :
    ∃ r, (builtin op at_ ty cs vs.toArray).run P w = .ok (.value r) w ∧ VR S F w e.v r ∧ e.upd = [] := by
  unfold minE at h
  split at h
  · rename_i k x k2 y
    split at h
    · rename_i hk
      subst hk
      obtain ⟨hlen, hat⟩ := hl
      obtain ⟨a, b, rfl⟩ : ∃ a b, vs = [a, b] := by
        match vs, hlen with
        | [a, b], _ => exact ⟨a, b, rfl⟩
      have ha := (hat 0 _ a rfl rfl).v_eq
      have hb := (hat 1 _ b rfl rfl).v_eq
      subst ha hb
      split at h
      · cases h
        exact ⟨_, by simp [builtin, Builtin.min_, Builtin.min2], .v _, rfl⟩
      · cases h
        exact ⟨_, by simp [builtin, Builtin.max_, Builtin.max2], .v _, rfl⟩
      · cases h
    · cases h
  · cases h
end
end Am
end
section
namespace Am
open Go Go.RowKit
def OV (S : Nat → Prop) (F : Nat → Option Cn) (w : World) : Option AV → Option Value → Prop
  | none, none => True
  | some x, some v => VR S F w x v
  | _, _ => False
section
variable [Base] {P : Program} {ti : TypeId → Option TI} {B : Nat} {D S0 : Nat → Prop} {T : Nat → Option Blk} {F : Nat → Option Cn} {w : World}
theorem run_bounds {S : Nat → Prop} {lo hi : Option AV} {vlo vhi : Option Value} (hlo : OV S F w lo vlo) (hhi : OV S F w hi vhi) {l h : Int} {len cap : Nat} (h1 : low lo = some l) (h2 : bound hi len = some h) (c1 : 0 ≤ l) (c2 : l ≤ h) (c3 : h ≤ len) (c4 : len ≤ cap) (b : Bool) :
    (Instr.sliceBounds b len cap vlo vhi none).run P w = .ok (l.toNat, h.toNat, cap) w := by
  have hL : (vlo = none ∧ l = 0) ∨ ∃ k, vlo = some (.int k l) := by
    cases vlo with
    | none =>
      cases lo with
      | none => cases h1; exact .inl ⟨rfl, rfl⟩
      | some x => exact hlo.elim
    | some v =>
      cases lo with
      | none => exact hlo.elim
      | some x =>
        have hx : VR S F w x v := hlo
        unfold low at h1
        split at h1
        · rename_i q; cases q
        · rename_i k i q
          cases q
          cases h1
          exact .inr ⟨k, by rw [hx.v_eq]⟩
        · cases h1
  have hH : (vhi = none ∧ h = len) ∨ ∃ k, vhi = some (.int k h) := by
    cases vhi with
    | none =>
      cases hi with
      | some x => exact hhi.elim
      | none => unfold bound at h2; simp at h2; exact .inl ⟨rfl, h2.symm⟩
    | some v =>
      cases hi with
      | none => exact hhi.elim
      | some x =>
        have hx : VR S F w x v := hhi
        have h2 : low (some x) = some h := h2
        unfold low at h2
        split at h2
        · rename_i q; cases q
        · rename_i k i q
          cases q
          cases h2
          exact .inr ⟨k, by rw [hx.v_eq]⟩
        · cases h2
  have h0 : 0 ≤ h := Int.le_trans c1 c2
  have hc : h ≤ cap := by omega
  have hn : l ≤ (h.toNat : Int) := by omega
  have hn2 : l ≤ (len : Int) := by omega
  rcases hL with ⟨rfl, rfl⟩ | ⟨k, rfl⟩ <;> rcases hH with ⟨rfl, rfl⟩ | ⟨k', rfl⟩
  · simp [Instr.sliceBounds]
  · simp [Instr.sliceBounds, Instr.sliceBound, asIntOf, h0, hc]
  · simp [Instr.sliceBounds, Instr.sliceBound, asIntOf, c1, hn2]
  · simp only [Instr.sliceBounds, Instr.sliceBound, asIntOf, Sem.run_bind, Sem.run_pure, Result.andThen_ok, if_pos (And.intro h0 hc), if_pos (And.intro c1 hn), Option.isSome_none, Bool.false_eq_true, if_false]
theorem sliceE_ok (hti : TOk P ti) (hT : TabR B D S0 T F w) {t : TypeId} {lo hi : Option AV} {vlo vhi : Option Value} {x : AV} {v : Value} (hlo : OV (stab B D S0 T F w) F w lo vlo) (hhi : OV (stab B D S0 T F w) F w hi vhi) (hx : VR (stab B D S0 T F w) F w x v) {e : Eff} (h : sliceE ti T t lo hi x = some e) (ho : e.obl) :
    ∃ r, (Instr.sliceAt t v vlo vhi none).run P w = .ok r w ∧ VR (stab B D S0 T F w) F w e.v r ∧ e.upd = [] := by
  unfold sliceE at h
  split at h
  · rename_i hs
    obtain ⟨_, hu, rfl⟩ := hti.tdesc hs
    split at h
    · rename_i s
      split at h
      · rename_i l hh hl hb
        cases h
        obtain ⟨c1, c2, c3⟩ : 0 ≤ l ∧ l ≤ hh ∧ hh ≤ s.size := ho
        have hx := hx.v_eq
        subst hx
        exact ⟨_, by simp [Instr.sliceAt, Instr.slice, run_underlying hu, run_bounds (P := P) hlo hhi hl hb c1 c2 c3 (Nat.le_refl _)], .v _, rfl⟩
      · cases h
    · cases h
  · rename_i el hs
    obtain ⟨_, hu, rfl⟩ := hti.tdesc hs
    have key : ∀ (ie : TI) (a : Option Addr) (n cap : Nat) (l hh : Int), ti el = some ie → v = .slice a n cap → low lo = some l → bound hi n = some hh → 0 ≤ l → l ≤ hh → hh ≤ n → n ≤ cap →
        (Instr.sliceAt t v vlo vhi none).run P w = .ok (.slice (if cap = l.toNat then a else a.map (·.add (l.toNat * ie.size))) (hh.toNat - l.toNat) (cap - l.toNat)) w := fun ie a n cap l hh hie e hl hb c1 c2 c3 c4 => by
      subst e
      simp [Instr.sliceAt, Instr.slice, run_underlying hu, run_bounds (P := P) hlo hhi hl hb c1 c2 c3 c4, run_sizeOf' (hti.size hie)]
    split at h
    · cases h
    · rename_i ie id ix n hie
      split at h
      · rename_i l hh b hl hb hbb
        split at h
        · rename_i hkk
          cases h
          obtain ⟨c1, c2, c3⟩ : 0 ≤ l ∧ l ≤ hh ∧ hh ≤ n := ho
          rcases hT.own hbb hx with ⟨g, cap, oo, hF, rfl, hn, hoo, -⟩ | ⟨hF, rfl, rfl, rfl, -⟩
          · refine ⟨_, key ie _ n (cap - ix) l hh hie rfl hl hb c1 c2 c3 (by omega), ?_, rfl⟩
            have e1 : cap - ix - l.toNat = cap - (ix + l.toNat) := by omega
            have e2 : hh.toNat - l.toNat = (hh - l).toNat := by omega
            rw [e1, e2]
            by_cases q : cap - ix = l.toNat
            · rw [if_pos q]
              exact .own _ _ _ g cap b.k oo hF (by omega) (fun q2 => by omega)
            · rw [if_neg q]
              simp only [Option.map_some, addr_add]
              exact .own _ _ _ g cap b.k _ hF (by omega) (fun q2 => by rw [hoo (by omega), hkk, Nat.add_mul])
          · obtain rfl : l = 0 := by omega
            obtain rfl : hh = 0 := by omega
            exact ⟨_, key ie none 0 0 0 0 hie rfl hl hb (by omega) (by omega) (by omega) (by omega), .ownN _ hF, rfl⟩
        · cases h
      · cases h
    · rename_i ie hie
      split at h
      · rename_i l hh hl hb
        cases h
        obtain ⟨rfl, rfl⟩ : l = 0 ∧ hh = 0 := ho
        have hx := hx.v_eq
        subst hx
        exact ⟨_, key ie none 0 0 0 0 hie rfl hl hb (by omega) (by omega) (by omega) (by omega), .v _, rfl⟩
      · cases h
    · cases h
  · cases h
end
end Am
end
section
namespace Am
open Go Go.RowKit
structure Did [Base] (B : Nat) (D S0 : Nat → Prop) (T : Nat → Option Blk) (F : Nat → Option Cn) (w : World) (nw : Nat) (e : Eff) (r : Value) (F' : Nat → Option Cn) (w' : World) : Prop where
  tab : TabR B D S0 (ov e.upd T) F' w'
  ev : Ev (stab B D S0 T F w) F w (stab B D S0 (ov e.upd T) F' w') F' w'
  kept : Kept B D w w'
  val : VR (stab B D S0 (ov e.upd T) F' w') F' w' e.v r
  dom : ∀ id, ¬ (nw ≤ id ∧ id < nw + 16) → F id = none → F' id = none
section
variable [Base] {P : Program} {ti : TypeId → Option TI} {B : Nat} {D S0 : Nat → Prop} {T : Nat → Option Blk} {F : Nat → Option Cn} {w : World} {nw : Nat}
theorem Did.pure (hT : TabR B D S0 T F w) {e : Eff} {r : Value} (h : VR (stab B D S0 T F w) F w e.v r) (hu : e.upd = []) : Did B D S0 T F w nw e r F w := by
  obtain ⟨o, v, u⟩ := e
  have hu : u = [] := hu
  subst hu
  exact ⟨hT, .refl, .refl, h, fun _ _ h => h⟩
theorem one_el {S : Nat → Prop} {cs : List AV} {vs : Array Value} (hl : LR S F w cs vs.toList) (k : Nat) : ∀ (i j : Nat) (row : List AV) (c : AV), [cs][i]? = some row → row[j]? = some c → ∃ v : Value, vs[i * k + j]? = some v ∧ VR S F w c v := fun i j row c h1 h2 => by
  cases i with
  | zero =>
    simp at h1
    subst h1
    obtain ⟨v, q1, q2⟩ := hl.at h2
    exact ⟨v, by simpa using q1, q2⟩
  | succ i => simp at h1
theorem one_len {cs : List AV} {k : Nat} (h : cs.length = k) : ∀ (i : Nat) (row : List AV), [cs][i]? = some row → row.length = k := fun i row h1 => by
  cases i with
  | zero => simp at h1; subst h1; exact h
  | succ i => simp at h1
theorem new_box (hT : TabR B D S0 T F w) (hN : T nw = none) (hF : F nw = none) {e : TypeId} {k : Nat} {cs : List AV} {vs : Array Value} (hl : LR (stab B D S0 T F w) F w cs vs.toList) (hk : cs.length = k) {o : Prop} :
    ∃ F', Did B D S0 T F w nw ⟨o, .ptr nw 0 0, [(nw, ⟨.live, false, e, k, [cs]⟩)]⟩ (.pointer (some ⟨w.heap.size, 0, none⟩)) F' (w.alloc (.cells vs e)) := by
  have hvs : vs.size = k := by have := hl.1; simp at this; omega
  obtain ⟨q1, q2, q3⟩ := hT.new hN hF ⟨.live, false, e, k, [cs]⟩ vs 1 k rfl rfl (by omega) (by simp) (by unfold maxLen; omega) (fun _ => rfl) (one_len hk) (one_el hl k)
  refine ⟨_, ⟨q1, q2, q3, ?_, fun id hid h => by show (if id = nw then _ else F id) = _; rw [if_neg (by omega)]; exact h⟩⟩
  have := VR0.ptr (S := stab B D S0 (ov [(nw, ⟨.live, false, e, k, [cs]⟩)] T) (fun id => if id = nw then some (Cn.blk w.heap.size 1 k) else F id) (w.alloc (.cells vs e))) (F := fun id => if id = nw then some (Cn.blk w.heap.size 1 k) else F id) (w := w.alloc (.cells vs e)) nw 0 0 w.heap.size 1 k (if_pos rfl)
  simpa using this
theorem allocE_ok (hti : TOk P ti) (hT : TabR B D S0 T F w) (hN : T nw = none) (hF : F nw = none) {t : TypeId} {e : Eff} (h : allocE ti nw t = some e) :
    ∃ r F' w', (Instr.alloc t true (.tuple #[])).run P w = .ok r w' ∧ Did B D S0 T F w nw e r F' w' := by
  unfold allocE at h
  split at h
  · rename_i i hi
    cases h
    obtain ⟨info, z, dd, q1, q2, q3, q4, qf, q5, q6, q7, -⟩ := hti.ok t i hi
    obtain ⟨F', hd⟩ := new_box (o := True) (e := t) hT hN hF (cs := i.zero.map .v) (vs := z.cells) (k := i.size) (by rw [q6]; exact LR.plain _) (by simp [q7])
    exact ⟨_, F', _, by simp [Instr.alloc, zeroValue, typeInfo, q1, q5, newVar, newRow], hd⟩
  · cases h
theorem boxE_ok (hti : TOk P ti) (hT : TabR B D S0 T F w) (hN : T nw = none) (hF : F nw = none) {t : TypeId} {x : AV} {v : Value} (hx : VR (stab B D S0 T F w) F w x v) {e : Eff} (h : boxE ti nw t x = some e) (ho : e.obl) :
    ∃ r F' w', (Instr.box t v).run P w = .ok r w' ∧ Did B D S0 T F w nw e r F' w' := by
  unfold boxE at h
  split at h
  · rename_i i hi
    cases h
    obtain ⟨o1, o2⟩ : x.cells.length = i.size ∧ allOne x.cells := ho
    obtain ⟨F', hd⟩ := new_box (o := x.cells.length = i.size ∧ allOne x.cells) (e := t) hT hN hF (cells_lr hx o2).1 o1
    exact ⟨_, F', _, by simp [Instr.box, newVar, newRow], hd⟩
  · cases h
theorem storeE_ok (hti : TOk P ti) (hT : TabR B D S0 T F w) {t : TypeId} {x p : AV} {v vp : Value} (hx : VR (stab B D S0 T F w) F w x v) (hp : VR (stab B D S0 T F w) F w p vp) {e : Eff} (h : storeE ti T t x p = some e) (ho : e.obl) :
    ∃ w', (Instr.storeAt t vp v).run P w = .ok () w' ∧ Did B D S0 T F w nw e undef F w' := by
  unfold storeE at h
  split at h
  · rename_i id ix off
    split at h
    · rename_i i b hi hb
      split at h
      · rename_i hst
        split at h
        · rename_i row hrow
          cases h
          obtain ⟨o1, o2, o3⟩ : x.cells.length = i.size ∧ allOne x.cells ∧ off + i.size ≤ row.length := ho
          have hal : aliveB T id = some b := by unfold aliveB; rw [hb]; simp [hst]
          obtain ⟨g, cap, hF, rfl, hk, cur, b1, b2, b3, b4, b4b, b5, b6, b7, b8⟩ := hT.ptr hal hp
          obtain ⟨hlr, h1⟩ := cells_lr hx o2
          have hlen : v.cells.toList.length = i.size := by rw [← hlr.1, o1]
          have hrk := b5 ix row hrow
          have hix : ix < cap := by have := (List.getElem?_eq_some_iff.1 hrow).1; omega
          have hfit : ix * b.k + b.k ≤ cap * b.k := by rw [← Nat.succ_mul]; exact Nat.mul_le_mul_right _ hix
          have hrun := run_storeCells_at (P := P) g (ix * b.k + off) b.e v.cells.toList 0 cur w b1 (by omega) h1
          simp only [Nat.add_zero] at hrun
          obtain ⟨q1, q2, q3⟩ := hT.write hb hst hF (b.els.set ix (row.take off ++ x.cells ++ row.drop (off + i.size))) (cur.toList.take (ix * b.k + off) ++ v.cells.toList ++ cur.toList.drop (ix * b.k + off + v.cells.toList.length)).toArray
            (by simp only [List.size_toArray, List.length_append, List.length_take, List.length_drop, Array.length_toList, hlen]; omega) (by simpa using b3)
            (fun j r hj => by
              rw [List.getElem?_set] at hj
              split at hj
              · split at hj
                · cases hj; simp only [List.length_append, List.length_take, List.length_drop, o1]; omega
                · cases hj
              · exact b5 j r hj)
            (fun j m r c hj hc => by
              have hget : ∀ n : Nat, (cur.toList.take (ix * b.k + off) ++ v.cells.toList ++ cur.toList.drop (ix * b.k + off + v.cells.toList.length)).toArray[n]? = if n < ix * b.k + off then cur[n]? else if n < ix * b.k + off + i.size then v.cells.toList[n - (ix * b.k + off)]? else cur[n]? := fun n => by
                rw [List.getElem?_toArray, List.append_assoc]
                by_cases c1 : n < ix * b.k + off
                · rw [if_pos c1, List.getElem?_append_left (by simp; omega), List.getElem?_take, if_pos c1]
                  simp
                · rw [if_neg c1, List.getElem?_append_right (by simp; omega)]
                  have e1 : (cur.toList.take (ix * b.k + off)).length = ix * b.k + off := by simp; omega
                  rw [e1]
                  by_cases c2 : n < ix * b.k + off + i.size
                  · rw [if_pos c2, List.getElem?_append_left (by omega)]
                  · rw [if_neg c2, List.getElem?_append_right (by omega), hlen, List.getElem?_drop, show ix * b.k + off + i.size + (n - (ix * b.k + off) - i.size) = n by omega]
                    simp
              rw [hget]
              rw [List.getElem?_set] at hj
              split at hj
              · rename_i hjx
                subst hjx
                split at hj
                · cases hj
                  by_cases c1 : m < off
                  · rw [if_pos (by omega)]
                    rw [List.append_assoc, List.getElem?_append_left (by simp; omega), List.getElem?_take, if_pos c1] at hc
                    exact b6 ix m row c hrow hc
                  · rw [if_neg (by omega)]
                    have e1 : (row.take off).length = off := by simp; omega
                    rw [List.append_assoc, List.getElem?_append_right (by omega), e1] at hc
                    by_cases c2 : m < off + i.size
                    · rw [if_pos (by omega)]
                      rw [List.getElem?_append_left (by omega)] at hc
                      obtain ⟨u, u1, u2⟩ := hlr.at hc
                      exact ⟨u, by rw [show ix * b.k + m - (ix * b.k + off) = m - off by omega]; exact u1, u2⟩
                    · rw [if_neg (by omega)]
                      rw [List.getElem?_append_right (by omega), o1, List.getElem?_drop, show off + i.size + (m - off - i.size) = m by omega] at hc
                      exact b6 ix m row c hrow hc
                · cases hj
              · rename_i hne
                have hm : m < b.k := by rw [← b5 j r hj]; exact (List.getElem?_eq_some_iff.1 hc).1
                obtain ⟨u, u1, u2⟩ := b6 j m r c hj hc
                refine ⟨u, ?_, u2⟩
                rcases Nat.lt_or_gt_of_ne hne with q | q
                · have : (ix + 1) * b.k ≤ j * b.k := Nat.mul_le_mul_right _ q
                  rw [Nat.add_mul] at this
                  rw [if_neg (by omega), if_neg (by omega)]
                  exact u1
                · have : (j + 1) * b.k ≤ ix * b.k := Nat.mul_le_mul_right _ q
                  rw [Nat.add_mul] at this
                  rw [if_pos (by omega)]
                  exact u1)
          have hsz : ∃ info, P.info? t = some info ∧ info.size = i.size := by
            obtain ⟨info, z, dd, r1, r2, -⟩ := hti.ok t i hi
            exact ⟨info, r1, r2⟩
          obtain ⟨info, r1, r2⟩ := hsz
          refine ⟨_, ?_, q1, q2, q3, .v _, fun _ _ h => h⟩
          have hc2 : v.cells.size = i.size := by rw [← Array.length_toList]; exact hlen
          simp only [Instr.storeAt, Instr.sureAddr, Sem.run_bind, Sem.run_pure, Result.andThen_ok, storeVar, run_sizeOf' (hti.size hi), hc2, ne_eq, not_true_eq_false, if_false]
          exact hrun
        · cases h
      · cases h
    · cases h
  · cases h
end
end Am
end
section
namespace Am
open Go Go.RowKit
section
variable [Base] {P : Program} {ti : TypeId → Option TI} {B : Nat} {D S0 : Nat → Prop} {T : Nat → Option Blk} {F : Nat → Option Cn} {w : World} {nw : Nat}
theorem foldSet (off : Nat) : ∀ (vs : List Value) (i0 : Nat) (cells : Array Value), off + i0 + vs.length ≤ cells.size →
    ((vs.zipIdx i0).foldl (fun (cs : Array Value) (x : Value × Nat) => cs.setIfInBounds (off + x.2) x.1) cells).toList = cells.toList.take (off + i0) ++ vs ++ cells.toList.drop (off + i0 + vs.length)
  | [], i0, cells, h => by simp
  | v :: vs, i0, cells, h => by
    simp only [List.length_cons] at h
    rw [List.zipIdx_cons, List.foldl_cons, foldSet off vs (i0 + 1) _ (by simp; omega)]
    have := list_seg_step cells.toList (off + i0) v vs (by simp; omega)
    simp only [Array.toList_setIfInBounds, List.length_cons]
    rw [show off + (i0 + 1) = off + i0 + 1 by omega, this]
theorem fill_step (place : Nat → Option (Nat × Nat)) (cells : Array Value) (i off size : Nat) (v : Value) (rest : List (Nat × Value)) (hp : place i = some (off, size)) (hs : v.cells.size = size) (hf : off + size ≤ cells.size) :
    Instr.fill place cells ((i, v) :: rest) = Instr.fill place (cells.toList.take off ++ v.cells.toList ++ cells.toList.drop (off + size)).toArray rest := by
  rw [Instr.fill]
  simp only [hp]
  rw [if_neg (by simp [hs]; omega)]
  congr 1
  apply Array.ext'
  have := foldSet off v.cells.toList 0 cells (by simp; omega)
  rw [← Array.foldl_toList]
  rw [Array.toList_zipIdx]
  simp only [Nat.add_zero, Array.length_toList, hs] at this
  exact this
theorem fillA_ok {S : Nat → Prop} {ρ : Operand → AV} {σ : Operand → Value} (place place' : Nat → Option (Nat × Nat)) (hpl : ∀ j r, place j = some r → place' j = some r) :
    ∀ (ps : List (Nat × Operand)) (cells : List AV) (vcells : Array Value) (cs : List AV), (∀ p ∈ ps, VR S F w (ρ p.2) (σ p.2) ∧ allOne (ρ p.2).cells) → LR S F w cells vcells.toList → fillA place cells (pairs ρ ps) = some cs →
      ∃ vs : Array Value, Instr.fill place' vcells (ps.map fun p => (p.1, σ p.2)) = some vs ∧ LR S F w cs vs.toList
  | [], cells, vcells, cs, _, hl, h => by
    cases h
    exact ⟨vcells, rfl, hl⟩
  | p :: ps, cells, vcells, cs, hv, hl, h => by
    obtain ⟨i, x⟩ := p
    have hx := hv (i, x) (by simp)
    unfold pairs at h
    rw [List.map_cons] at h
    unfold fillA at h
    simp only at h
    split at h
    · cases h
    · rename_i off size hp
      split at h
      · rename_i hc
        obtain ⟨c1, c2⟩ := hc
        obtain ⟨l1, -⟩ := cells_lr hx.1 hx.2
        have hsz : (σ x).cells.size = size := by rw [← Array.length_toList, ← l1.1]; exact c1
        have hcs : vcells.size = cells.length := by rw [← Array.length_toList, ← hl.1]
        obtain ⟨vs, q1, q2⟩ := fillA_ok place place' hpl ps _ (vcells.toList.take off ++ (σ x).cells.toList ++ vcells.toList.drop (off + size)).toArray cs (fun p hp => hv p (by simp [hp])) (((hl.take off).append l1).append (hl.drop (off + size))) h
        refine ⟨vs, ?_, q2⟩
        rw [List.map_cons, fill_step place' vcells i off size (σ x) _ (hpl i _ hp) hsz (by omega)]
        exact q1
      · cases h
theorem mapM_at {α β : Type} {f : α → Option β} : ∀ {l : List α} {r : List β}, l.mapM f = some r → ∀ (j : Nat) (x : α), l[j]? = some x → ∃ y, f x = some y ∧ r[j]? = some y
  | [], _, _, j, x, hx => by simp at hx
  | a :: l, r, h, j, x, hx => by
    simp only [List.mapM_cons, Option.bind_eq_bind, Option.pure_def] at h
    cases ha : f a with
    | none => simp [ha] at h
    | some b =>
      cases hr : l.mapM f with
      | none => simp [ha, hr] at h
      | some rest =>
        simp [ha, hr] at h
        subst h
        cases j with
        | zero => simp at hx; subst hx; exact ⟨b, ha, rfl⟩
        | succ j => simp at hx; obtain ⟨y, q1, q2⟩ := mapM_at hr j x hx; exact ⟨y, q1, by simpa using q2⟩
theorem buildE_ok {S : Nat → Prop} (hti : TOk P ti) {ρ : Operand → AV} {σ : Operand → Value} {ps : Array (Nat × Operand)} (hv : ∀ p ∈ ps.toList, VR S F w (ρ p.2) (σ p.2)) {t : TypeId} {e : Eff} (h : buildE ti t (pairs ρ ps.toList) = some e) (ho : e.obl) :
    ∃ r, (Instr.build t (ps.map fun (i, x) => (i, σ x))).run P w = .ok r w ∧ VR S F w e.v r ∧ e.upd = [] := by
  unfold buildE at h
  split at h
  · rename_i i hi
    obtain ⟨info, z, dd, q1, q2, q3, q4, qf, q5, q6, q7, q8, q9, q10, q11⟩ := hti.ok t i hi
    have hz : LR S F w (i.zero.map .v) z.cells.toList := by rw [q6]; exact LR.plain _
    have hl : (ps.map fun (i, x) => (i, σ x)).toList = ps.toList.map fun p => (p.1, σ p.2) := by simp
    have hone : (∀ p ∈ pairs ρ ps.toList, allOne p.2.cells) → ∀ p ∈ ps.toList, VR S F w (ρ p.2) (σ p.2) ∧ allOne (ρ p.2).cells := fun q p hp => ⟨hv p hp, q (p.1, ρ p.2) (List.mem_map.2 ⟨p, hp, rfl⟩)⟩
    split at h
    · rename_i fs hd
      rw [hd] at qf
      obtain ⟨Fq, rfl, hFq⟩ := qf
      split at h
      · rename_i cs hcs
        cases h
        obtain ⟨places, hpl⟩ := Option.isSome_iff_exists.1 (q11 Fq rfl)
        obtain ⟨vs, r1, r2⟩ := fillA_ok (S := S) (F := F) (w := w) (σ := σ) _ (places.toArray[·]?) (fun j r hr => by
          split at hr
          · rename_i p0 hp0
            obtain ⟨f, hf, f1, f2⟩ := hFq j p0 hp0
            rw [← f1, ← f2] at hr
            obtain ⟨y, y1, y2⟩ := mapM_at hpl j f (by simpa using hf)
            cases hk : ti f.type with
            | none => simp [hk] at hr
            | some k =>
              obtain ⟨info', z', dd', p1, p2, -⟩ := hti.ok _ k hk
              rw [p1] at y1
              simp [hk] at hr
              simp at y1
              subst hr y1
              rw [p2] at y2
              simpa using y2
          · cases hr) ps.toList _ z.cells cs (hone ho) hz hcs
        refine ⟨.agg vs, run_build w t _ vs ?_, by simpa using r2.agg, rfl⟩
        unfold Program.built
        simp only [q1, q4, q5, hpl]
        rw [hl]
        exact r1
      · cases h
    · rename_i n el hd
      rw [hd] at qf
      have qf : dd = .array n el := qf
      subst qf
      split at h
      · rename_i k hk
        split at h
        · rename_i cs hcs
          cases h
          obtain ⟨info', z', dd', p1, p2, -⟩ := hti.ok _ k hk
          obtain ⟨vs, r1, r2⟩ := fillA_ok (S := S) (F := F) (w := w) (σ := σ) _ (fun j => some (j * info'.size, info'.size)) (fun j r hr => by rw [p2]; exact hr) ps.toList _ z.cells cs (hone ho) hz hcs
          refine ⟨.agg vs, run_build w t _ vs ?_, by simpa using r2.agg, rfl⟩
          unfold Program.built
          simp only [q1, q4, q5, p1]
          rw [hl]
          exact r1
        · cases h
      · cases h
    · cases h
  · cases h
theorem new_row (hT : TabR B D S0 T F w) (hN : T nw = none) (hF : F nw = none) {t : TypeId} {k n cap : Nat} {els : List (List AV)} {vs : Array Value} (hn : n = els.length) (hs : vs.size = cap * k) (hc : els.length ≤ cap) (hm : cap ≤ maxLen) (hk : ∀ (i : Nat) (row : List AV), els[i]? = some row → row.length = k)
    (hv : ∀ (i j : Nat) (row : List AV) (c : AV), els[i]? = some row → row[j]? = some c → ∃ v : Value, vs[i * k + j]? = some v ∧ VR (stab B D S0 T F w) F w c v) {o : Prop} :
    ∃ F', Did B D S0 T F w nw ⟨o, .own nw 0 n, [(nw, ⟨.live, true, t, k, els⟩)]⟩ (.slice (some ⟨w.heap.size, 0, none⟩) n cap) F' (w.alloc (.cells vs t)) := by
  obtain ⟨q1, q2, q3⟩ := hT.new hN hF ⟨.live, true, t, k, els⟩ vs cap k rfl rfl hs hc hm (fun h => by cases h) hk hv
  refine ⟨_, ⟨q1, q2, q3, ?_, fun id hid h => by show (if id = nw then _ else F id) = _; rw [if_neg (by omega)]; exact h⟩⟩
  subst hn
  have := VR0.own (S := stab B D S0 (ov [(nw, ⟨.live, true, t, k, els⟩)] T) (fun id => if id = nw then some (Cn.blk w.heap.size cap k) else F id) (w.alloc (.cells vs t))) (F := fun id => if id = nw then some (Cn.blk w.heap.size cap k) else F id) (w := w.alloc (.cells vs t)) nw 0 els.length w.heap.size cap k 0 (if_pos rfl) (by omega) (by simp)
  simpa using this
theorem litEls_ok {S : Nat → Prop} {ρ : Operand → AV} {σ : Operand → Value} {size : Nat} : ∀ (ps : List (Nat × Operand)) (n : Nat) (els : List (List AV)), (∀ p ∈ ps, VR S F w (ρ p.2) (σ p.2)) → litEls size n (pairs ρ ps) = some els → (∀ r ∈ els, allOne r) →
    ∃ vs : List Value, (ps.map fun p => (p.1, σ p.2)) = (vs.zipIdx n).map (fun x => (x.2, x.1)) ∧ vs.length = els.length ∧ (∀ v ∈ vs, v.cells.size = size) ∧ ∀ (i : Nat) (row : List AV) (v : Value), els[i]? = some row → vs[i]? = some v → LR S F w row v.cells.toList
  | [], n, els, _, h, _ => by
    cases h
    exact ⟨[], rfl, rfl, (fun v hv => by cases hv), (fun i row v h => by simp at h)⟩
  | p :: ps, n, els, hv, h, h1 => by
    obtain ⟨i, x⟩ := p
    unfold pairs at h
    rw [List.map_cons] at h
    unfold litEls at h
    simp only at h
    split at h
    · rename_i hc
      obtain ⟨rfl, c2⟩ := hc
      cases hr : litEls size (i + 1) (pairs ρ ps) with
      | none => unfold pairs at hr; rw [hr] at h; cases h
      | some rest =>
        have hr' := hr
        unfold pairs at hr'
        rw [hr'] at h
        cases h
        obtain ⟨vs, v1, v2, v3, v4⟩ := litEls_ok ps (i + 1) rest (fun p hp => hv p (by simp [hp])) hr (fun r hr => h1 r (by simp [hr]))
        obtain ⟨l1, -⟩ := cells_lr (hv (i, x) (by simp)) (h1 _ (by simp))
        refine ⟨σ x :: vs, by simp [v1, List.zipIdx_cons], by simp [v2], fun v hvm => ?_, fun j row v hj hvj => ?_⟩
        · rcases List.mem_cons.1 hvm with rfl | hvm
          · rw [← Array.length_toList, ← l1.1]; exact c2
          · exact v3 v hvm
        · cases j with
          | zero => simp at hj hvj; subst hj hvj; exact l1
          | succ j => simp at hj hvj; exact v4 j row v hj hvj
    · cases h
theorem buildSliceE_ok (hti : TOk P ti) (hT : TabR B D S0 T F w) (hN : T nw = none) (hF : F nw = none) {ρ : Operand → AV} {σ : Operand → Value} {ps : Array (Nat × Operand)} (hv : ∀ p ∈ ps.toList, VR (stab B D S0 T F w) F w (ρ p.2) (σ p.2)) {t : TypeId} {len : Nat} {e : Eff}
    (h : buildSliceE ti nw t len (pairs ρ ps.toList) = some e) (ho : e.obl) :
    ∃ r F' w', (Instr.buildSlice t len (ps.map fun (i, x) => (i, σ x))).run P w = .ok r w' ∧ Did B D S0 T F w nw e r F' w' := by
  unfold buildSliceE at h
  split at h
  · rename_i el hs
    obtain ⟨_, hu, rfl⟩ := hti.tdesc hs
    split at h
    · rename_i k hk
      split at h
      · rename_i els hels
        split at h
        · rename_i hc
          obtain ⟨c1, c2, c3⟩ := hc
          cases h
          obtain ⟨info, z, dd, q1, q2, q3, q4, qf, q5, q6, q7, q8, q9, q10, q11⟩ := hti.ok _ k hk
          obtain ⟨vs, v1, v2, v3, v4⟩ := litEls_ok (S := stab B D S0 T F w) (F := F) (w := w) (σ := σ) ps.toList 0 els hv hels ho
          have hl : (ps.map fun (i, x) => (i, σ x)).toList = (vs.zipIdx 0).map fun x => (x.2, x.1) := by simpa using v1
          have hlen : (vs.flatMap fun v => v.cells.toList).length = len * k.size := by
            rw [← c1, ← v2, List.length_flatMap]
            clear v1 v2 v4 hl
            induction vs with
            | nil => simp
            | cons v vs ih =>
              rw [List.map_cons, List.sum_cons, ih (fun u hu => v3 u (by simp [hu])), List.length_cons, Nat.add_mul, Array.length_toList, v3 v (by simp)]
              omega
          have hrun : (Instr.buildSlice t len (ps.map fun (i, x) => (i, σ x))).run P w = .ok (.slice (some ⟨w.heap.size, 0, none⟩) len len) (w.alloc (.cells (vs.flatMap fun v => v.cells.toList).toArray el)) := by
            by_cases h0 : len * k.size = 0
            · have e0 : len = 0 := by
                rcases Nat.mul_eq_zero.1 h0 with q | q
                · exact q
                · omega
              subst e0
              have ev : vs = [] := List.eq_nil_of_length_eq_zero (by omega)
              subst ev
              have ep : ps.toList = [] := by simpa using v1
              have ep : ps = #[] := by simpa using ep
              subst ep
              simp [Instr.buildSlice, run_underlying hu, run_sizeOf' (hti.size hk), Instr.fill, newRow, Array.range_zero']
            · refine Go.run_buildSlice w t el len _ _ info z hu q1 q5 (by rw [q2]; omega) (by rw [q2]; exact h0) ?_
              rw [hl, q2]
              exact Great.fill_whole c3 vs _ v3 (by simp; rw [v2, c1])
          obtain ⟨F', hd⟩ := new_row (o := ∀ r ∈ els, allOne r) (t := el) hT hN hF (k := k.size) (n := len) (cap := len) (els := els) (vs := (vs.flatMap fun v => v.cells.toList).toArray) c1.symm (by simpa using hlen) (by omega) (by unfold maxLen; have : len ≤ len * k.size := Nat.le_mul_of_pos_right _ c3; omega)
            (fun i row hr => by
              have hi : i < vs.length := by rw [v2]; exact (List.getElem?_eq_some_iff.1 hr).1
              have := v4 i row vs[i] hr (List.getElem?_eq_getElem hi)
              rw [this.1, Array.length_toList]
              exact v3 _ (List.getElem_mem hi))
            (fun i j row c hr hj => by
              have hi : i < vs.length := by rw [v2]; exact (List.getElem?_eq_some_iff.1 hr).1
              have hl2 := v4 i row vs[i] hr (List.getElem?_eq_getElem hi)
              obtain ⟨u, u1, u2⟩ := hl2.at hj
              have hjk : j < k.size := by
                have := (List.getElem?_eq_some_iff.1 u1).1
                rw [Array.length_toList, v3 _ (List.getElem_mem hi)] at this
                exact this
              refine ⟨u, ?_, u2⟩
              rw [List.getElem?_toArray, Great.flat_get c3 vs v3 (i * k.size + j)]
              have e1 : (i * k.size + j) / k.size = i := by rw [Nat.mul_comm, Nat.mul_add_div c3, Nat.div_eq_of_lt hjk, Nat.add_zero]
              have e2 : (i * k.size + j) % k.size = j := by rw [Nat.mul_comm, Nat.mul_add_mod, Nat.mod_eq_of_lt hjk]
              rw [e1, e2, List.getElem?_eq_getElem hi]
              simpa using u1)
          exact ⟨_, F', _, hrun, hd⟩
        · cases h
      · cases h
    · cases h
  · cases h
theorem makeSliceE_ok (hti : TOk P ti) (hT : TabR B D S0 T F w) (hN : T nw = none) (hF : F nw = none) {t : TypeId} {l c : AV} {vl vc : Value} (hl : VR (stab B D S0 T F w) F w l vl) (hc : VR (stab B D S0 T F w) F w c vc) {e : Eff} (h : makeSliceE ti nw t l c = some e) (ho : e.obl) :
    ∃ r F' w', (Instr.makeSlice t vl vc).run P w = .ok r w' ∧ Did B D S0 T F w nw e r F' w' := by
  unfold makeSliceE at h
  split at h
  · rename_i kl l kc c
    have hl := hl.v_eq
    have hc := hc.v_eq
    subst hl hc
    split at h
    · rename_i el hs
      obtain ⟨_, hu, rfl⟩ := hti.tdesc hs
      split at h
      · rename_i k hk
        cases h
        obtain ⟨o1, o2, o3, o4⟩ : 0 ≤ l ∧ l ≤ c ∧ k.bytes * c ≤ 140737488355328 ∧ c ≤ 9223372036854775807 := ho
        obtain ⟨info, z, dd, q1, q2, q3, q4, qf, q5, q6, q7, q8, q9, q10, q11⟩ := hti.ok _ k hk
        have hrun := run_make (P := P) w t el info z hu q1 q5 kl kc l c o1 o2 (by rw [q3]; omega) o4
        rw [q2] at hrun
        have hzs : z.cells.size = k.size := by rw [← Array.length_toList, q6, q7]
        obtain ⟨F', hd⟩ := new_row (o := 0 ≤ l ∧ l ≤ c ∧ k.bytes * c ≤ 140737488355328 ∧ c ≤ 9223372036854775807) (t := el) hT hN hF (k := k.size) (n := l.toNat) (cap := c.toNat) (els := List.replicate l.toNat (k.zero.map .v)) (vs := madeCells z.cells (c.toNat * k.size)) (by simp) (size_madeCells _ _) (by simp; omega) (by unfold maxLen; omega)
          (fun i row hr => by
            rw [List.getElem?_replicate] at hr
            split at hr
            · cases hr; simp [q7]
            · cases hr)
          (fun i j row x hr hj => by
            rw [List.getElem?_replicate] at hr
            split at hr
            · rename_i hi
              cases hr
              have hj2 := hj
              rw [List.getElem?_map] at hj2
              cases hzj : k.zero[j]? with
              | none => rw [hzj] at hj2; cases hj2
              | some u =>
                rw [hzj] at hj2
                cases hj2
                have hjk : j < k.size := by rw [← q7]; exact (List.getElem?_eq_some_iff.1 hzj).1
                refine ⟨u, ?_, .v u⟩
                have hic : (i + 1) * k.size ≤ c.toNat * k.size := Nat.mul_le_mul_right _ (by omega)
                rw [Nat.add_mul] at hic
                unfold madeCells
                rw [Array.getElem?_map, Array.getElem?_range, if_pos (by omega)]
                have e2 : (i * k.size + j) % k.size = j := by rw [Nat.mul_comm, Nat.mul_add_mod, Nat.mod_eq_of_lt hjk]
                simp only [Option.map_some, hzs, e2]
                have : z.cells[j]? = some u := by rw [← Array.getElem?_toList, q6]; exact hzj
                rw [getElem!_def, this]
            · cases hr)
        exact ⟨_, F', _, hrun, hd⟩
      · cases h
    · cases h
  · cases h
end
end Am
end
end Go.Proofs.Ytcgdhankllphgaa
