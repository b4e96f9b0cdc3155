import Derived.Test.YtcgdhankllphgaaRows
import Derived.WalkKit
import Derived.Laws.CopyRow
import Derived.Laws.Rows
import Derived.Below
import Derived.Deep.MidRow
import Derived.Laws.Tables
import Derived.Laws.Cells
namespace Go.Proofs.Ytcgdhankllphgaa
set_option linter.unusedVariables false
set_option linter.unusedSimpArgs false
set_option linter.unusedSectionVars false
section
namespace Am
open Go
 inductive AV where
  | any
  | v (x : Value)
  | agg (cs : List AV)
  | tup (cs : List AV)
  | ptr (id ix off : Nat)
  | sl (els : List (List AV))
  | dp (cs : List AV)
  | own (id ix n : Nat)
  | fn (f : FuncId) (first caps : List AV)
  deriving Inhabited
def AV.cells : AV → List AV
  | .agg cs => cs
  | x => [x]
 inductive St where
  | live
  | frozen
  | dead
structure Blk where
  st : St
  row : Bool
  e : TypeId
  k : Nat
  els : List (List AV)
structure AS where
  t : List (Nat × AV)
  T : List (Nat × Blk)
  N : Nat
  M : Nat
def look {α : Type} : List (Nat × α) → Nat → Option α
  | [], _ => none
  | (j, a) :: r, k => if j = k then some a else look r k
def AS.put (s : AS) (d : Option Tmp) (x : AV) : AS :=
  match d with
  | some d => { s with t := (d, x) :: s.t }
  | none => s
def AS.ev (s : AS) : Operand → AV
  | .tmp t => (look s.t t).getD .any
  | .const c => .v c
  | .global g => .v (.pointer (some ⟨g, 0, none⟩))
  | .func f => .fn f [] []
structure Eff where
  obl : Prop
  v : AV
  upd : List (Nat × Blk)
def eff (x : AV) : Option Eff := some ⟨True, x, []⟩
def effIf (p : Prop) (x : AV) : Option Eff := some ⟨p, x, []⟩
 inductive KD where
  | int (k : IntKind)
  | bool
  | string
  | slice (e : TypeId)
  | array (n : Nat) (e : TypeId)
  | struct (fs : List (Nat × TypeId))
  | other
structure TI where
  size : Nat
  bytes : Nat
  desc : KD
  zero : List Value
def KD.row : KD → Bool
  | .struct _ | .array _ _ => true
  | _ => false
def rowish : TypeDesc → Bool
  | .struct _ | .array _ _ => true
  | _ => false
def KD.fits : KD → TypeDesc → Prop
  | .int k, d => d = .int k
  | .bool, d => d = .bool
  | .string, d => d = .string
  | .slice e, d => d = .slice e
  | .array n e, d => d = .array n e
  | .struct fs, d => ∃ Fq : Array Field, d = .struct Fq ∧ ∀ (f : Nat) (p : Nat × TypeId), fs[f]? = some p → ∃ fd, Fq[f]? = some fd ∧ fd.offset = p.1 ∧ fd.type = p.2
  | .other, d => rowish d = false
def TI.isAgg (i : TI) : Bool := i.desc.row
def tdesc (ti : TypeId → Option TI) (t : TypeId) : Option KD := (ti t).map (·.desc)
def partOf (i : TI) (cs : List AV) (off : Nat) : Option AV :=
  bif i.isAgg then some (.agg ((cs.drop off).take i.size)) else cs[off]?
def pureOf (P : Program) {α : Type} : Sem α → Option α
  | .pure a => some a
  | .program k => pureOf P (k P)
  | _ => none
def scal (P : Program) (s : Sem Value) : Option Eff := match pureOf P s with
  | some r => eff (.v r)
  | none => none
def AV.one : AV → Bool
  | .v x => x.oneCell'
  | .any | .agg _ | .tup _ => false
  | _ => true
def binE (P : Program) (ti : TypeId → Option TI) (op : BinOp) (t : TypeId) : AV → AV → Option Eff
  | .v (.int k a), .v (.int k2 b) => match op with
    | .add => if k = k2 then eff (.v (.int k (k.wrap (a + b)))) else none
    | .sub => if k = k2 then eff (.v (.int k (k.wrap (a - b)))) else none
    | .mul => if k = k2 then eff (.v (.int k (k.wrap (a * b)))) else none
    | .quo => if k = k2 then effIf (b ≠ 0) (.v (.int k (k.wrap (a.tdiv b)))) else none
    | .rem => if k = k2 then effIf (b ≠ 0) (.v (.int k (a.tmod b))) else none
    | .eql => if k = k2 then eff (.v (.bool (a == b))) else none
    | .neq => if k = k2 then eff (.v (.bool (a != b))) else none
    | .lss => if k = k2 then eff (.v (.bool (decide (a < b)))) else none
    | .leq => if k = k2 then eff (.v (.bool (decide (a ≤ b)))) else none
    | .gtr => if k = k2 then eff (.v (.bool (decide (b < a)))) else none
    | .geq => if k = k2 then eff (.v (.bool (decide (b ≤ a)))) else none
    | .shl => effIf (0 ≤ b) (.v (.int k (k.wrap (a * 2 ^ (min b.toNat k.bits)))))
    | .shr => effIf (0 ≤ b) (.v (.int k (a.fdiv (2 ^ (min b.toNat k.bits)))))
    | _ => scal P (binOp op t (.int k a) (.int k2 b))
  | .v (.bool a), .v (.bool b) => match tdesc ti t with
    | some .bool => match op with
      | .eql => eff (.v (.bool (a == b)))
      | .neq => eff (.v (.bool (!(a == b))))
      | _ => none
    | _ => none
  | .v (.string a), .v (.string b) => match op with
    | .add => effIf (a.size + b.size ≤ 9223372036854775807) (.v (.string (a ++ b)))
    | .eql => eff (.v (.bool (a.toList == b.toList)))
    | .neq => eff (.v (.bool (!(a.toList == b.toList))))
    | .lss => eff (.v (.bool (Op.bytesLess a.toList b.toList)))
    | .leq => eff (.v (.bool (Op.bytesLess a.toList b.toList || a.toList == b.toList)))
    | .gtr => eff (.v (.bool (!(Op.bytesLess a.toList b.toList || a.toList == b.toList))))
    | .geq => eff (.v (.bool (!Op.bytesLess a.toList b.toList)))
    | _ => none
  | _, _ => none
def unE (op : UnOp) : AV → Option Eff
  | .v (.int k n) => match op with
    | .neg => eff (.v (.int k (k.wrap (0 - n))))
    | _ => none
  | .v (.bool b) => match op with
    | .not => eff (.v (.bool (!b)))
    | _ => none
  | _ => none
def convE (ti : TypeId → Option TI) (d : TypeId) : AV → Option Eff
  | .v (.int _ n) => match tdesc ti d with
    | some (.int k) => eff (.v (.int k (k.wrap n)))
    | _ => none
  | .v (.string s) => match tdesc ti d with
    | some .string => eff (.v (.string s))
    | _ => none
  | _ => none
def aliveB (T : Nat → Option Blk) (id : Nat) : Option Blk := match T id with
  | some b => match b.st with
    | .dead => none
    | _ => some b
  | none => none
def loadE (ti : TypeId → Option TI) (T : Nat → Option Blk) (t : TypeId) : AV → Option Eff
  | .ptr id ix off => match ti t, aliveB T id with
    | some i, some b => match b.els[ix]? with
      | some row => match partOf i row off with
        | some x => effIf (off + i.size ≤ row.length) x
        | none => none
      | none => none
    | _, _ => none
  | .dp cs => match ti t with
    | some i => match partOf i cs 0 with
      | some x => effIf (i.size ≤ cs.length) x
      | none => none
    | none => none
  | _ => none
def allOne (cs : List AV) : Prop := ∀ x ∈ cs, x.one = true
def storeE (ti : TypeId → Option TI) (T : Nat → Option Blk) (t : TypeId) (x : AV) : AV → Option Eff
  | .ptr id ix off => match ti t, T id with
    | some i, some b => match b.st with
      | .live => match b.els[ix]? with
        | some row => some ⟨x.cells.length = i.size ∧ allOne x.cells ∧ off + i.size ≤ row.length, .v undef, [(id, { b with els := b.els.set ix (row.take off ++ x.cells ++ row.drop (off + i.size)) })]⟩
        | none => none
      | _ => none
    | _, _ => none
  | _ => none
def fieldAddrE (ti : TypeId → Option TI) (T : Nat → Option Blk) (s : TypeId) (f : Nat) (x : AV) : Option Eff := match tdesc ti s with
  | some (.struct fs) => match fs[f]? with
    | some fd => match ti fd.2, x with
      | some _, .ptr id ix off => match aliveB T id with
        | some _ => eff (.ptr id ix (off + fd.1))
        | none => none
      | some _, .dp cs => eff (.dp (cs.drop fd.1))
      | _, _ => none
    | none => none
  | _ => none
def fieldE (ti : TypeId → Option TI) (s : TypeId) (f : Nat) (x : AV) : Option Eff := match tdesc ti s with
  | some (.struct fs) => match fs[f]? with
    | some fd => match ti fd.2, x with
      | some i, .agg cs => match partOf i cs fd.1 with
        | some x => effIf (fd.1 + i.size ≤ cs.length) x
        | none => none
      | _, _ => none
    | none => none
  | _ => none
def indexAddrE (ti : TypeId → Option TI) (T : Nat → Option Blk) (t : TypeId) (x : AV) : AV → Option Eff
  | .v (.int _ i) => match tdesc ti t with
    | some (.slice e) => match ti e, x with
      | some ie, .sl els => effIf (0 ≤ i ∧ i < els.length ∧ (els.getD i.toNat []).length = ie.size) (.dp (els.getD i.toNat []))
      | some ie, .own id o n => match aliveB T id with
        | some b => if b.k = ie.size then effIf (0 ≤ i ∧ i < n) (.ptr id (o + i.toNat) 0) else none
        | none => none
      | _, _ => none
    | some (.array n e) => match ti e, x with
      | some ie, .ptr id ix off => match aliveB T id with
        | some _ => effIf (0 ≤ i ∧ i < n) (.ptr id ix (off + i.toNat * ie.size))
        | none => none
      | some ie, .dp cs => effIf (0 ≤ i ∧ i < n) (.dp (cs.drop (i.toNat * ie.size)))
      | _, _ => none
    | _ => none
  | _ => none
def indexE (ti : TypeId → Option TI) (t : TypeId) (x : AV) : AV → Option Eff
  | .v (.int _ i) => match tdesc ti t, x with
    | some (.array n e), .agg cs => match ti e with
      | some ie => match partOf ie cs (i.toNat * ie.size) with
        | some x => effIf (0 ≤ i ∧ i < n ∧ i.toNat * ie.size + ie.size ≤ cs.length) x
        | none => none
      | none => none
    | some .string, .v (.string s) => effIf (0 ≤ i ∧ i < s.size) (.v (.int .u8 ((s.data.getD i.toNat 0).toNat : Int)))
    | _, _ => none
  | _ => none
def extractE (i : Nat) : AV → Option Eff
  | .tup cs => match cs[i]? with
    | some x => eff x
    | none => none
  | _ => none
def lenE (ti : TypeId → Option TI) (t : TypeId) (x : AV) : Option Eff := match tdesc ti t with
  | some (.slice _) => match x with
    | .sl els => eff (.v (.int .i64 els.length))
    | .own _ _ n => eff (.v (.int .i64 n))
    | .v (.slice none 0 0) => eff (.v (.int .i64 0))
    | _ => none
  | some .string => match x with
    | .v (.string s) => eff (.v (.int .i64 s.size))
    | _ => none
  | _ => none
def pickE (a b : AV) : AV → Option Eff
  | .v (.bool c) => match a, b with
    | .v (.bool x), .v (.bool y) => eff (.v (.bool (bif c then x else y)))
    | _, _ => match c with
      | true => eff a
      | false => eff b
  | _ => none
def minE (op : Builtin) : List AV → Option Eff
  | [.v (.int k x), .v (.int k2 y)] => if k = k2 then match op with
    | .min => eff (.v (.int k (if y < x then y else x)))
    | .max => eff (.v (.int k (if y > x then y else x)))
    | _ => none else none
  | _ => none
def allocE (ti : TypeId → Option TI) (nw : Nat) (e : TypeId) : Option Eff := match ti e with
  | some i => some ⟨True, .ptr nw 0 0, [(nw, ⟨.live, false, e, i.size, [i.zero.map .v]⟩)]⟩
  | none => none
def boxE (ti : TypeId → Option TI) (nw : Nat) (e : TypeId) (x : AV) : Option Eff := match ti e with
  | some i => some ⟨x.cells.length = i.size ∧ allOne x.cells, .ptr nw 0 0, [(nw, ⟨.live, false, e, i.size, [x.cells]⟩)]⟩
  | none => none
def low : Option AV → Option Int
  | none => some 0
  | some (.v (.int _ i)) => some i
  | _ => none
def bound : Option AV → Nat → Option Int
  | none, n => some n
  | some x, _ => low (some x)
def sliceE (ti : TypeId → Option TI) (T : Nat → Option Blk) (t : TypeId) (lo hi : Option AV) (x : AV) : Option Eff := match tdesc ti t with
  | some .string => match x with
    | .v (.string s) => match low lo, bound hi s.size with
      | some l, some h => effIf (0 ≤ l ∧ l ≤ h ∧ h ≤ s.size) (.v (.string (s.extract l.toNat h.toNat)))
      | _, _ => none
    | _ => none
  | some (.slice e) => match ti e, x with
    | some _, .sl _ => none
    | some ie, .own id ix n => match low lo, bound hi n, aliveB T id with
      | some l, some h, some b => if b.k = ie.size then effIf (0 ≤ l ∧ l ≤ h ∧ h ≤ n) (.own id (ix + l.toNat) (h - l).toNat) else none
      | _, _, _ => none
    | some _, .v (.slice none 0 0) => match low lo, bound hi 0 with
      | some l, some h => effIf (l = 0 ∧ h = 0) (.v (.slice none 0 0))
      | _, _ => none
    | _, _ => none
  | _ => none
def fillA (place : Nat → Option (Nat × Nat)) (cells : List AV) : List (Nat × AV) → Option (List AV)
  | [] => some cells
  | (i, v) :: rest => match place i with
    | none => none
    | some (off, size) => if v.cells.length = size ∧ off + size ≤ cells.length then fillA place (cells.take off ++ v.cells ++ cells.drop (off + size)) rest else none
def buildE (ti : TypeId → Option TI) (t : TypeId) (parts : List (Nat × AV)) : Option Eff := match ti t with
  | some i => match i.desc with
    | .struct fs => match fillA (fun j => match fs[j]? with | some f => (ti f.2).map fun k => (f.1, k.size) | none => none) (i.zero.map .v) parts with
      | some cs => effIf (∀ p ∈ parts, allOne p.2.cells) (.agg cs)
      | none => none
    | .array _ e => match ti e with
      | some k => match fillA (fun j => some (j * k.size, k.size)) (i.zero.map .v) parts with
        | some cs => effIf (∀ p ∈ parts, allOne p.2.cells) (.agg cs)
        | none => none
      | none => none
    | _ => none
  | none => none
def litEls (size : Nat) : Nat → List (Nat × AV) → Option (List (List AV))
  | _, [] => some []
  | n, (i, v) :: r => if i = n ∧ v.cells.length = size then (litEls size (n + 1) r).map (v.cells :: ·) else none
def buildSliceE (ti : TypeId → Option TI) (nw : Nat) (t : TypeId) (len : Nat) (parts : List (Nat × AV)) : Option Eff := match tdesc ti t with
  | some (.slice e) => match ti e with
    | some k => match litEls k.size 0 parts with
      | some els => if els.length = len ∧ len * k.size ≤ 16777216 ∧ 0 < k.size then some ⟨∀ r ∈ els, allOne r, .own nw 0 len, [(nw, ⟨.live, true, e, k.size, els⟩)]⟩ else none
      | none => none
    | none => none
  | _ => none
def makeSliceE (ti : TypeId → Option TI) (nw : Nat) (t : TypeId) : AV → AV → Option Eff
  | .v (.int _ l), .v (.int _ c) => match tdesc ti t with
    | some (.slice e) => match ti e with
      | some k => some ⟨0 ≤ l ∧ l ≤ c ∧ k.bytes * c ≤ 140737488355328 ∧ c ≤ 9223372036854775807, .own nw 0 l.toNat, [(nw, ⟨.live, true, e, k.size, List.replicate l.toNat (k.zero.map .v)⟩)]⟩
      | none => none
    | _ => none
  | _, _ => none
def elsOf (T : Nat → Option Blk) : AV → Option (List (List AV))
  | .sl els => some els
  | .v (.slice none 0 0) => some []
  | .own id ix n => match aliveB T id with
    | some b => if ix + n ≤ b.els.length then some ((b.els.drop ix).take n) else none
    | none => none
  | _ => none
def appendE (ti : TypeId → Option TI) (T : Nat → Option Blk) (nw : Nat) (t : TypeId) (x : AV) : AV → Option Eff
  | .v (.slice none 0 0) => match tdesc ti t with
    | some (.slice e) => match ti e, elsOf T x with
      | some k, some xs => some ⟨xs.length ≤ 9223372036854775807 ∧ xs.length * k.bytes ≤ 140737488355328 ∧ (∀ r ∈ xs, r.length = k.size ∧ allOne r), .own nw 0 xs.length, [(nw, ⟨.live, true, e, k.size, xs⟩)]⟩
      | _, _ => none
    | _ => none
  | .own id 0 n => match tdesc ti t with
    | some (.slice e) => match ti e, elsOf T x, T id with
      | some k, some xs, some b => match b.st with
        | .live => some ⟨b.row = true ∧ b.e = e ∧ b.k = k.size ∧ n ≤ b.els.length ∧ n + xs.length ≤ 9223372036854775807 ∧ (n + xs.length) * k.bytes ≤ 140737488355328 ∧ (∀ r ∈ xs, r.length = k.size ∧ allOne r), .own nw 0 (n + xs.length),
            [(nw, ⟨.live, true, e, k.size, b.els.take n ++ xs⟩), (id, { b with st := .dead })]⟩
        | _ => none
      | _, _, _ => none
    | _ => none
  | _ => none
def pairs (ρ : Operand → AV) (l : List (Nat × Operand)) : List (Nat × AV) := l.map fun p => (p.1, ρ p.2)
def asem (P : Program) (ti : TypeId → Option TI) (nw : Nat) (T : Nat → Option Blk) (ρ : Operand → AV) : Op → Option Eff
  | .move x | .assign x => eff (ρ x)
  | .pick c a b => pickE (ρ a) (ρ b) (ρ c)
  | .alloc e => allocE ti nw e
  | .box e x => boxE ti nw e (ρ x)
  | .build t ps => buildE ti t (pairs ρ ps.toList)
  | .buildSlice t len ps => buildSliceE ti nw t len (pairs ρ ps.toList)
  | .load t a => loadE ti T t (ρ a)
  | .store t a x => storeE ti T t (ρ x) (ρ a)
  | .fieldAddr s x f => fieldAddrE ti T s f (ρ x)
  | .field s x f => fieldE ti s f (ρ x)
  | .indexAddr t x ix => indexAddrE ti T t (ρ x) (ρ ix)
  | .index t x ix => indexE ti t (ρ x) (ρ ix)
  | .binOp op t x y _ => binE P ti op t (ρ x) (ρ y)
  | .unOp op _ x => unE op (ρ x)
  | .convert s d x => match tdesc ti s with
    | some (.int _) => convE ti d (ρ x)
    | some .string => convE ti d (ρ x)
    | _ => none
  | .extract x i => extractE i (ρ x)
  | .makeFunc (.func f) first caps => eff (.fn f (first.toList.map ρ) (caps.toList.map ρ))
  | .makeSlice t l c => makeSliceE ti nw t (ρ l) (ρ c)
  | .slice t x lo hi none => sliceE ti T t (lo.map ρ) (hi.map ρ) (ρ x)
  | .call c => match c.callee, c.args.toList.map ρ, c.argTypes.toList with
    | .builtin .len, [x], [t] => lenE ti t x
    | .builtin .append, [s, x], [t, t2] => match tdesc ti t2 with
      | some (.slice _) => appendE ti T nw t x s
      | _ => none
    | .builtin .min, l, _ => minE .min l
    | .builtin .max, l, _ => minE .max l
    | _, _, _ => none
  | _ => none
end Am
end
section
namespace Am
open Go Go.RowKit
 inductive Cn where
  | dead
  | nil
  | blk (b cap k : Nat)
 inductive VR0 (S : Nat → Prop) (w : World) : (Nat → Option Cn) → AV → Value → Prop
  | any {F : Nat → Option Cn} (x : Value) : VR0 S w F .any x
  | v {F : Nat → Option Cn} (x : Value) : VR0 S w F (.v x) x
  | agg {F : Nat → Option Cn} (cs : List AV) (vs : List Value) (hl : cs.length = vs.length) (h : ∀ (i : Nat) (c : AV) (v : Value), cs[i]? = some c → vs[i]? = some v → VR0 S w F c v) : VR0 S w F (.agg cs) (.agg vs.toArray)
  | tup {F : Nat → Option Cn} (cs : List AV) (vs : List Value) (hl : cs.length = vs.length) (h : ∀ (i : Nat) (c : AV) (v : Value), cs[i]? = some c → vs[i]? = some v → VR0 S w F c v) : VR0 S w F (.tup cs) (.tuple vs.toArray)
  | ptr {F : Nat → Option Cn} (id ix off b cap k : Nat) (h : F id = some (.blk b cap k)) : VR0 S w F (.ptr id ix off) (.pointer (some ⟨b, ix * k + off, none⟩))
  | ptrD {F : Nat → Option Cn} (id ix off : Nat) (a : Option Addr) (h : F id = some .dead) : VR0 S w F (.ptr id ix off) (.pointer a)
  | sl {F : Nat → Option Cn} (els : List (List AV)) (a : Option Addr) (n cap k b o : Nat) (f : Nat → Nat → Value) (hn : n = els.length) (hc : True) (hk : ∀ (i : Nat) (row : List AV), els[i]? = some row → row.length = k)
      (h : ∀ (i j : Nat) (row : List AV) (c : AV), els[i]? = some row → row[j]? = some c → a = some ⟨b, o, none⟩ ∧ S b ∧ w.cell? ⟨b, o + (i * k + j), none⟩ = some (f i j))
      (hv : ∀ (i j : Nat) (row : List AV) (c : AV), els[i]? = some row → row[j]? = some c → VR0 S w (fun _ => none) c (f i j)) : VR0 S w F (.sl els) (.slice a n cap)
  | dp {F : Nat → Option Cn} (cs : List AV) (b o : Nat) (f : Nat → Value) (h : ∀ (j : Nat) (c : AV), cs[j]? = some c → S b ∧ w.cell? ⟨b, o + j, none⟩ = some (f j)) (hv : ∀ (j : Nat) (c : AV), cs[j]? = some c → VR0 S w (fun _ => none) c (f j)) :
      VR0 S w F (.dp cs) (.pointer (some ⟨b, o, none⟩))
  | own {F : Nat → Option Cn} (id ix n b cap k o : Nat) (h : F id = some (.blk b cap k)) (hn : ix + n ≤ cap) (ho : ix < cap → o = ix * k) : VR0 S w F (.own id ix n) (.slice (some ⟨b, o, none⟩) n (cap - ix))
  | ownN {F : Nat → Option Cn} (id : Nat) (h : F id = some .nil) : VR0 S w F (.own id 0 0) (.slice none 0 0)
  | ownD {F : Nat → Option Cn} (id ix n : Nat) (a : Option Addr) (cap : Nat) (h : F id = some .dead) : VR0 S w F (.own id ix n) (.slice a n cap)
  | fn {F : Nat → Option Cn} (g : FuncId) (first caps : List AV) (fv cv : List Value) (hf : first.length = fv.length) (hc : caps.length = cv.length)
      (h1 : ∀ (i : Nat) (c : AV) (v : Value), first[i]? = some c → fv[i]? = some v → VR0 S w F c v) (h2 : ∀ (i : Nat) (c : AV) (v : Value), caps[i]? = some c → cv[i]? = some v → VR0 S w F c v) : VR0 S w F (.fn g first caps) (.func (.func g) fv.toArray cv.toArray)
abbrev VR (S : Nat → Prop) (F : Nat → Option Cn) (w : World) (x : AV) (v : Value) : Prop := VR0 S w F x v
structure Ev (S : Nat → Prop) (F : Nat → Option Cn) (w : World) (S' : Nat → Prop) (F' : Nat → Option Cn) (w' : World) : Prop where
  s : ∀ b, S b → S' b
  h : ∀ b, S b → w'.heap[b]? = w.heap[b]?
  f : ∀ id c, F id = some c → F' id = some c ∨ F' id = some .dead
section
variable {S S' S2 : Nat → Prop} {F F' F2 : Nat → Option Cn} {w w' w2 : World}
theorem Ev.refl : Ev S F w S F w := ⟨fun _ h => h, fun _ _ => rfl, fun _ _ h => .inl h⟩
theorem Ev.trans (a : Ev S F w S' F' w') (b : Ev S' F' w' S2 F2 w2) : Ev S F w S2 F2 w2 :=
  ⟨fun x h => b.s x (a.s x h), fun x h => (b.h x (a.s x h)).trans (a.h x h), fun id c h => by
    rcases a.f id c h with q | q
    · exact b.f id c q
    · rcases b.f id _ q with r | r <;> exact .inr r⟩
theorem cell_keep {b o : Nat} {v : Value} (h : w'.heap[b]? = w.heap[b]?) (hc : w.cell? ⟨b, o, none⟩ = some v) : w'.cell? ⟨b, o, none⟩ = some v := by
  unfold World.cell? at hc ⊢
  simp only [h]
  exact hc
theorem Ev.nil (e : Ev S F w S' F' w') : Ev S (fun _ => none) w S' (fun _ => none) w' := ⟨e.s, e.h, fun _ _ h => by cases h⟩
theorem VR0.mono {x : AV} {v : Value} (h : VR0 S w F x v) : ∀ {F' : Nat → Option Cn}, Ev S F w S' F' w' → VR0 S' w' F' x v := by
  induction h with
  | any x => intro F' e; exact .any x
  | v x => intro F' e; exact .v x
  | agg cs vs hl _ ih => intro F' e; exact .agg cs vs hl (fun i c v h1 h2 => ih i c v h1 h2 e)
  | tup cs vs hl _ ih => intro F' e; exact .tup cs vs hl (fun i c v h1 h2 => ih i c v h1 h2 e)
  | ptr id ix off b cap k h =>
    intro F' e
    rcases e.f _ _ h with q | q
    · exact .ptr id ix off b cap k q
    · exact .ptrD id ix off _ q
  | ptrD id ix off a h => intro F' e; rcases e.f _ _ h with q | q <;> exact .ptrD id ix off a q
  | sl els a n cap k b o f hn hc hk h _ ih => intro F' e; exact .sl els a n cap k b o f hn hc hk (fun i j row c h1 h2 => by
      obtain ⟨q1, q2, q3⟩ := h i j row c h1 h2
      exact ⟨q1, e.s b q2, cell_keep (e.h b q2) q3⟩) (fun i j row c h1 h2 => ih i j row c h1 h2 e.nil)
  | dp cs b o f h _ ih => intro F' e; exact .dp cs b o f (fun j c h1 => by
      obtain ⟨q2, q3⟩ := h j c h1
      exact ⟨e.s b q2, cell_keep (e.h b q2) q3⟩) (fun j c h1 => ih j c h1 e.nil)
  | own id ix n b cap k o h hn ho =>
    intro F' e
    rcases e.f _ _ h with q | q
    · exact .own id ix n b cap k o q hn ho
    · exact .ownD id ix n _ _ q
  | ownN id h =>
    intro F' e
    rcases e.f _ _ h with q | q
    · exact .ownN id q
    · exact .ownD id 0 0 _ _ q
  | ownD id ix n a cap h => intro F' e; rcases e.f _ _ h with q | q <;> exact .ownD id ix n a cap q
  | fn g first caps fv cv hf hc _ _ i1 i2 => intro F' e; exact .fn g first caps fv cv hf hc (fun i c v h1 h2 => i1 i c v h1 h2 e) (fun i c v h1 h2 => i2 i c v h1 h2 e)
theorem VR.mono (e : Ev S F w S' F' w') {x : AV} {v : Value} (h : VR S F w x v) : VR S' F' w' x v := VR0.mono h e
theorem VR.any_F {x : AV} {v : Value} (h : VR S (fun _ => none) w x v) : VR S F w x v := VR.mono ⟨fun _ h => h, fun _ _ => rfl, fun _ _ h => by cases h⟩ h
end
def BlkR (S : Nat → Prop) (F : Nat → Option Cn) (w : World) (ok : Nat → Prop) (b : Blk) : Cn → Prop
  | .dead => False
  | .nil => b.row = true ∧ b.els = []
  | .blk g cap k => k = b.k ∧ ∃ cur : Array Value, w.heap[g]? = some (.cells cur b.e (0, 0)) ∧ cur.size = cap * k ∧ b.els.length ≤ cap ∧ cap ≤ maxLen ∧ (b.row = false → cap = 1) ∧ (∀ (i : Nat) (row : List AV), b.els[i]? = some row → row.length = k) ∧
      (∀ (i j : Nat) (row : List AV) (c : AV), b.els[i]? = some row → row[j]? = some c → ∃ v : Value, cur[i * k + j]? = some v ∧ VR S F w c v) ∧ (b.st = .live → ok g) ∧ (b.st = .frozen → S g)
def stab (B : Nat) (D S0 : Nat → Prop) (T : Nat → Option Blk) (F : Nat → Option Cn) (w : World) : Nat → Prop :=
  fun b => b < w.heap.size ∧ (b < B → S0 b ∨ D b) ∧ ∀ id bk cap k, T id = some bk → bk.st = .live → F id ≠ some (.blk b cap k)
 class Base where
  w : World
structure TabR [Base] (B : Nat) (D S0 : Nat → Prop) (T : Nat → Option Blk) (F : Nat → Option Cn) (w : World) : Prop where
  cov : ∀ id b, T id = some b → ∃ c, F id = some c ∧ (b.st ≠ .dead → BlkR (stab B D S0 T F w) F w (fun g => B ≤ g ∨ D g) b c)
  inj : ∀ id id' b b' g cap k cap' k', T id = some b → T id' = some b' → b.st = .live → b'.st = .live → F id = some (.blk g cap k) → F id' = some (.blk g cap' k') → id = id'
  sh : ∀ g, S0 g → ¬ D g
  big : B ≤ w.heap.size
  laid : ∀ g, g < Base.w.heap.size → g < B ∧ S0 g ∧ w.heap[g]? = Base.w.heap[g]?
structure Kept (B : Nat) (D : Nat → Prop) (w w' : World) : Prop where
  os : w'.os = w.os
  tape : w'.tape = w.tape
  output : w'.output = w.output
  size : w.heap.size ≤ w'.heap.size
  block : ∀ b, b < B → ¬ D b → w'.heap[b]? = w.heap[b]?
section
variable {B : Nat} {D : Nat → Prop} {w w' w2 : World}
theorem Kept.refl : Kept B D w w := ⟨rfl, rfl, rfl, Nat.le_refl _, fun _ _ _ => rfl⟩
theorem Kept.trans (a : Kept B D w w') (b : Kept B D w' w2) : Kept B D w w2 :=
  ⟨b.os.trans a.os, b.tape.trans a.tape, b.output.trans a.output, Nat.le_trans a.size b.size, fun k h1 h2 => (b.block k h1 h2).trans (a.block k h1 h2)⟩
end
section
variable [Base] {B : Nat} {D S0 : Nat → Prop} {T : Nat → Option Blk} {F : Nat → Option Cn} {w : World}
def ov (u : List (Nat × Blk)) (T : Nat → Option Blk) : Nat → Option Blk := fun id => (look u id).or (T id)
theorem look_append {α : Type} (u l : List (Nat × α)) (id : Nat) : look (u ++ l) id = (look u id).or (look l id) := by
  induction u with
  | nil => rfl
  | cons x r ih =>
    obtain ⟨j, a⟩ := x
    simp only [List.cons_append, look]
    split
    · rfl
    · exact ih
theorem look_ov (u l : List (Nat × Blk)) : look (u ++ l) = ov u (look l) := funext fun id => look_append u l id
theorem BlkR.mono {S S' : Nat → Prop} {F F' : Nat → Option Cn} {w w' : World} {ok : Nat → Prop} {b : Blk} {c : Cn} (e : Ev S F w S' F' w') (hb : ∀ g cap k, c = .blk g cap k → w'.heap[g]? = w.heap[g]?) (h : BlkR S F w ok b c) : BlkR S' F' w' ok b c := by
  cases c with
  | dead => exact h
  | nil => exact h
  | blk g cap k =>
    obtain ⟨hk, cur, h1, h2, h3, h4, h4b, h5, h6, h7, h8⟩ := h
    exact ⟨hk, cur, (hb g cap k rfl).trans h1, h2, h3, h4, h4b, h5, fun i j row c a1 a2 => let ⟨v, q1, q2⟩ := h6 i j row c a1 a2; ⟨v, q1, q2.mono e⟩, h7, fun q => e.s _ (h8 q)⟩
theorem TabR.lt (h : TabR B D S0 T F w) {id : Nat} {b : Blk} {g cap k : Nat} (hT : T id = some b) (hl : b.st ≠ .dead) (hF : F id = some (.blk g cap k)) : g < w.heap.size := by
  obtain ⟨c, h1, h2⟩ := h.cov id b hT
  rw [hF] at h1
  cases h1
  obtain ⟨-, cur, q, -⟩ := h2 hl
  rcases Nat.lt_or_ge g w.heap.size with r | r
  · exact r
  · rw [Array.getElem?_eq_none r] at q; cases q
theorem TabR.stabL (h : TabR B D S0 T F w) {g : Nat} (hg : g < Base.w.heap.size) : stab B D S0 T F w g := by
  obtain ⟨h1, h2, h3⟩ := h.laid g hg
  refine ⟨Nat.lt_of_lt_of_le h1 h.big, fun _ => .inl h2, fun id bk cap k hT hl hF => ?_⟩
  obtain ⟨c, q1, q2⟩ := h.cov id bk hT
  rw [hF] at q1
  cases q1
  obtain ⟨-, -, -, -, -, -, -, -, -, b7, -⟩ := q2 (by rw [hl]; simp)
  rcases b7 hl with r | r
  · omega
  · exact h.sh g h2 r
theorem TabR.laidEv (h : TabR B D S0 T F w) {S' : Nat → Prop} {F' : Nat → Option Cn} {w' : World} (e : Ev (stab B D S0 T F w) F w S' F' w') : ∀ g, g < Base.w.heap.size → g < B ∧ S0 g ∧ w'.heap[g]? = Base.w.heap[g]? :=
  fun g hg => ⟨(h.laid g hg).1, (h.laid g hg).2.1, (e.h g (h.stabL hg)).trans (h.laid g hg).2.2⟩
theorem TabR.new (h : TabR B D S0 T F w) {nw : Nat} (hT : T nw = none) (hF : F nw = none) (bk : Blk) (cur : Array Value) (cap k : Nat) (hbk : k = bk.k) (hst : bk.st = .live) (hs : cur.size = cap * k) (hc : bk.els.length ≤ cap) (hm : cap ≤ maxLen) (h1 : bk.row = false → cap = 1)
    (hk : ∀ (i : Nat) (row : List AV), bk.els[i]? = some row → row.length = k) (hv : ∀ (i j : Nat) (row : List AV) (c : AV), bk.els[i]? = some row → row[j]? = some c → ∃ v : Value, cur[i * k + j]? = some v ∧ VR (stab B D S0 T F w) F w c v) :
    let F' := fun id => if id = nw then some (Cn.blk w.heap.size cap k) else F id
    let w' := w.alloc (.cells cur bk.e)
    TabR B D S0 (ov [(nw, bk)] T) F' w' ∧ Ev (stab B D S0 T F w) F w (stab B D S0 (ov [(nw, bk)] T) F' w') F' w' ∧ Kept B D w w' := by
  intro F' w'
  have hsz : w'.heap.size = w.heap.size + 1 := by show (w.alloc _).heap.size = _; simp
  have hold : ∀ g, g < w.heap.size → w'.heap[g]? = w.heap[g]? := fun g hg => Below.heap_alloc w _ g hg
  have hnew : w'.heap[w.heap.size]? = some (.cells cur bk.e (0, 0)) := heap_alloc_new w _
  have hF' : ∀ id c, F id = some c → F' id = some c := fun id c hc => by
    show (if id = nw then _ else F id) = _
    rw [if_neg (fun e => by subst e; rw [hF] at hc; cases hc)]
    exact hc
  have hov : ∀ id b, ov [(nw, bk)] T id = some b → (id = nw ∧ b = bk) ∨ (id ≠ nw ∧ T id = some b) := fun id b hb => by
    unfold ov look at hb
    by_cases e : nw = id
    · rw [if_pos e] at hb; cases hb; exact .inl ⟨e.symm, rfl⟩
    · rw [if_neg e] at hb; exact .inr ⟨fun q => e q.symm, hb⟩
  have ev : Ev (stab B D S0 T F w) F w (stab B D S0 (ov [(nw, bk)] T) F' w') F' w' := by
    refine ⟨fun b hb => ⟨by rw [hsz]; exact Nat.lt_succ_of_lt hb.1, hb.2.1, fun id x c k' hx hl hF2 => ?_⟩, fun b hb => hold b hb.1, fun id c hc => .inl (hF' id c hc)⟩
    rcases hov id x hx with ⟨rfl, rfl⟩ | ⟨hne, hx⟩
    · have : (if id = id then some (Cn.blk w.heap.size cap k) else F id) = some (.blk b c k') := hF2
      rw [if_pos rfl] at this
      cases this
      exact absurd hb.1 (Nat.lt_irrefl _)
    · have : (if id = nw then some (Cn.blk w.heap.size cap k) else F id) = some (.blk b c k') := hF2
      rw [if_neg hne] at this
      exact hb.2.2 id x c k' hx hl this
  refine ⟨⟨fun id b hb => ?_, fun id id' b b' g c k' c' k'' hb hb' hl hl' hg hg' => ?_, h.sh, by rw [hsz]; exact Nat.le_succ_of_le h.big, h.laidEv ev⟩, ev, ⟨rfl, rfl, rfl, by rw [hsz]; exact Nat.le_succ _, fun b hb _ => hold b (Nat.lt_of_lt_of_le hb h.big)⟩⟩
  · rcases hov id b hb with ⟨rfl, rfl⟩ | ⟨hne, hb⟩
    · exact ⟨.blk w.heap.size cap k, if_pos rfl, fun _ => ⟨hbk, cur, hnew, hs, hc, hm, h1, hk, fun i j row c a1 a2 => let ⟨v, q1, q2⟩ := hv i j row c a1 a2; ⟨v, q1, q2.mono ev⟩, fun _ => .inl h.big, fun q => by rw [hst] at q; cases q⟩⟩
    · obtain ⟨c, q1, q2⟩ := h.cov id b hb
      refine ⟨c, hF' id c q1, fun hd => BlkR.mono ev (fun g cap k e => ?_) (q2 hd)⟩
      subst e
      exact hold g (h.lt hb hd q1)
  · have g1 : (if id = nw then some (Cn.blk w.heap.size cap k) else F id) = some (.blk g c k') := hg
    have g2 : (if id' = nw then some (Cn.blk w.heap.size cap k) else F id') = some (.blk g c' k'') := hg'
    rcases hov id b hb with ⟨e, eb⟩ | ⟨hne, hbo⟩ <;> rcases hov id' b' hb' with ⟨e', eb'⟩ | ⟨hne', hbo'⟩
    · exact e.trans e'.symm
    · rw [if_pos e] at g1
      cases g1
      rw [if_neg hne'] at g2
      exact absurd (h.lt hbo' (by rw [hl']; simp) g2) (Nat.lt_irrefl _)
    · rw [if_pos e'] at g2
      cases g2
      rw [if_neg hne] at g1
      exact absurd (h.lt hbo (by rw [hl]; simp) g1) (Nat.lt_irrefl _)
    · rw [if_neg hne] at g1
      rw [if_neg hne'] at g2
      exact h.inj id id' b b' g c k' c' k'' hbo hbo' hl hl' g1 g2
theorem TabR.write (h : TabR B D S0 T F w) {id : Nat} {b : Blk} {g cap k : Nat} (hT : T id = some b) (hl : b.st = .live) (hF : F id = some (.blk g cap k)) (els : List (List AV)) (cur : Array Value) (hs : cur.size = cap * k) (hc : els.length ≤ cap)
    (hk : ∀ (i : Nat) (row : List AV), els[i]? = some row → row.length = k) (hv : ∀ (i j : Nat) (row : List AV) (c : AV), els[i]? = some row → row[j]? = some c → ∃ v : Value, cur[i * k + j]? = some v ∧ VR (stab B D S0 T F w) F w c v) :
    let w' := w.setRow g cur
    let T' := ov [(id, { b with els := els })] T
    TabR B D S0 T' F w' ∧ Ev (stab B D S0 T F w) F w (stab B D S0 T' F w') F w' ∧ Kept B D w w' := by
  intro w' T'
  have hsz : w'.heap.size = w.heap.size := by show (w.setRow g cur).heap.size = _; simp
  have hoth : ∀ x, x ≠ g → w'.heap[x]? = w.heap[x]? := fun x hx => setRow_other w g x cur hx
  obtain ⟨c0, q0, q1⟩ := h.cov id b hT
  rw [hF] at q0
  cases q0
  obtain ⟨b0, cur0, b1, b2, b3, b4, b4b, b5, b6, b7, b8⟩ := q1 (by rw [hl]; simp)
  have hsame : w'.heap[g]? = some (.cells cur b.e (0, 0)) := setRow_heap w g cur0 cur b.e _ b1
  have hov : ∀ j x, T' j = some x → (j = id ∧ x = { b with els := els }) ∨ (j ≠ id ∧ T j = some x) := fun j x hx => by
    have hx' : ov [(id, { b with els := els })] T j = some x := hx
    unfold ov look at hx'
    by_cases e : id = j
    · rw [if_pos e] at hx'; cases hx'; exact .inl ⟨e.symm, rfl⟩
    · rw [if_neg e] at hx'; exact .inr ⟨fun q => e q.symm, hx'⟩
  have hst : ∀ x, stab B D S0 T F w x → x ≠ g := fun x hx e => by subst e; exact hx.2.2 id b cap k hT hl hF
  have ev : Ev (stab B D S0 T F w) F w (stab B D S0 T' F w') F w' := by
    refine ⟨fun x hx => ⟨by rw [hsz]; exact hx.1, hx.2.1, fun j y c k' hy hly hF2 => ?_⟩, fun x hx => hoth x (hst x hx), fun _ _ hc => .inl hc⟩
    rcases hov j y hy with ⟨rfl, rfl⟩ | ⟨hne, hy⟩
    · exact hx.2.2 j b c k' hT hl hF2
    · exact hx.2.2 j y c k' hy hly hF2
  refine ⟨⟨fun j x hx => ?_, fun j j' x x' g' c k' c' k'' hx hx' hl1 hl2 hg hg' => ?_, h.sh, by rw [hsz]; exact h.big, h.laidEv ev⟩, ev, ⟨rfl, rfl, rfl, by rw [hsz]; exact Nat.le_refl _, fun x hx hD => hoth x (fun e => ?_)⟩⟩
  · rcases hov j x hx with ⟨rfl, rfl⟩ | ⟨hne, hx⟩
    · exact ⟨_, hF, fun _ => ⟨b0, cur, hsame, hs, hc, b4, b4b, hk, fun i j row c a1 a2 => let ⟨v, q1, q2⟩ := hv i j row c a1 a2; ⟨v, q1, q2.mono ev⟩, fun _ => b7 hl, fun q => by have : b.st = .frozen := q; rw [hl] at this; cases this⟩⟩
    · obtain ⟨c, r1, r2⟩ := h.cov j x hx
      refine ⟨c, r1, fun hd => BlkR.mono ev (fun g' cap' k' e => ?_) (r2 hd)⟩
      subst e
      refine hoth g' (fun e => ?_)
      subst e
      cases hxs : x.st with
      | live => exact hne (h.inj j id x b g' cap' k' cap k hx hT hxs hl r1 hF)
      | frozen =>
        obtain ⟨-, _, -, -, -, -, -, -, -, -, r8⟩ := r2 hd
        exact hst g' (r8 hxs) rfl
      | dead => exact hd hxs
  · rcases hov j x hx with ⟨e1, -⟩ | ⟨hne, hxo⟩ <;> rcases hov j' x' hx' with ⟨e2, -⟩ | ⟨hne', hxo'⟩
    · exact e1.trans e2.symm
    · subst e1; exact h.inj j j' b x' g' c k' c' k'' hT hxo' hl hl2 hg hg'
    · subst e2; exact h.inj j j' x b g' c k' c' k'' hxo hT hl1 hl hg hg'
    · exact h.inj j j' x x' g' c k' c' k'' hxo hxo' hl1 hl2 hg hg'
  · subst e
    rcases b7 hl with q | q
    · exact absurd hx (Nat.not_lt.2 q)
    · exact hD q
theorem aliveB_eq {id : Nat} {b : Blk} (h : aliveB T id = some b) : T id = some b ∧ b.st ≠ .dead := by
  unfold aliveB at h
  split at h
  · rename_i b' hb
    split at h
    · cases h
    · rename_i hs
      cases h
      exact ⟨hb, hs⟩
  · cases h
theorem TabR.alive (h : TabR B D S0 T F w) {id : Nat} {b : Blk} (hb : aliveB T id = some b) : ∃ c, F id = some c ∧ BlkR (stab B D S0 T F w) F w (fun g => B ≤ g ∨ D g) b c :=
  let ⟨c, q1, q2⟩ := h.cov id b (aliveB_eq hb).1
  ⟨c, q1, q2 (aliveB_eq hb).2⟩
theorem TabR.ptr (h : TabR B D S0 T F w) {S : Nat → Prop} {id ix off : Nat} {b : Blk} (hb : aliveB T id = some b) {v : Value} (hv : VR S F w (.ptr id ix off) v) :
    ∃ g cap, F id = some (.blk g cap b.k) ∧ v = .pointer (some ⟨g, ix * b.k + off, none⟩) ∧ BlkR (stab B D S0 T F w) F w (fun g => B ≤ g ∨ D g) b (.blk g cap b.k) := by
  obtain ⟨c, q1, q2⟩ := h.alive hb
  cases hv with
  | ptr _ _ _ g cap k hg =>
    rw [q1] at hg
    cases hg
    have hk := q2.1
    subst hk
    exact ⟨g, cap, q1, rfl, q2⟩
  | ptrD _ _ _ a hg => rw [q1] at hg; cases hg; exact q2.elim
theorem TabR.own (h : TabR B D S0 T F w) {S : Nat → Prop} {id ix n : Nat} {b : Blk} (hb : aliveB T id = some b) {v : Value} (hv : VR S F w (.own id ix n) v) :
    (∃ g cap o, F id = some (.blk g cap b.k) ∧ v = .slice (some ⟨g, o, none⟩) n (cap - ix) ∧ ix + n ≤ cap ∧ (ix < cap → o = ix * b.k) ∧ BlkR (stab B D S0 T F w) F w (fun g => B ≤ g ∨ D g) b (.blk g cap b.k)) ∨
    (F id = some .nil ∧ ix = 0 ∧ n = 0 ∧ v = .slice none 0 0 ∧ b.els = [] ∧ b.row = true) := by
  obtain ⟨c, q1, q2⟩ := h.alive hb
  cases hv with
  | own _ _ _ g cap k o hg hn ho =>
    rw [q1] at hg
    cases hg
    have hk := q2.1
    subst hk
    exact .inl ⟨g, cap, o, q1, rfl, hn, ho, q2⟩
  | ownN _ hg => rw [q1] at hg; cases hg; exact .inr ⟨q1, rfl, rfl, rfl, q2.2, q2.1⟩
  | ownD _ _ _ a c hg => rw [q1] at hg; cases hg; exact q2.elim
end
end Am
end
section
namespace Am
open Go Go.RowKit
structure TOk (P : Program) (ti : TypeId → Option TI) : Prop where
  ok : ∀ t i, ti t = some i → ∃ info z d, P.info? t = some info ∧ info.size = i.size ∧ info.bytes = i.bytes ∧ P.underlying t = some d ∧ i.desc.fits d ∧ info.zero = some z ∧ z.cells.toList = i.zero ∧ i.zero.length = i.size ∧ (i.isAgg = false → i.size = 1) ∧ (∀ v ∈ i.zero, v.oneCell' = true) ∧ 0 < i.size ∧ (∀ fs, d = .struct fs → (fs.toList.mapM fun f => (P.info? f.type).map fun i => (f.offset, i.size)).isSome = true)
section
variable [Base] {S : Nat → Prop} {F : Nat → Option Cn} {w : World}
def LR (S : Nat → Prop) (F : Nat → Option Cn) (w : World) (cs : List AV) (vs : List Value) : Prop :=
  cs.length = vs.length ∧ ∀ (i : Nat) (c : AV) (v : Value), cs[i]? = some c → vs[i]? = some v → VR S F w c v
theorem LR.nil : LR S F w [] [] := ⟨rfl, fun i c v h => by simp at h⟩
theorem LR.cons {c : AV} {v : Value} {cs : List AV} {vs : List Value} (h : VR S F w c v) (t : LR S F w cs vs) : LR S F w (c :: cs) (v :: vs) :=
  ⟨by simp [t.1], fun i c' v' h1 h2 => by
    cases i with
    | zero => simp at h1 h2; subst h1 h2; exact h
    | succ i => exact t.2 i c' v' (by simpa using h1) (by simpa using h2)⟩
theorem LR.take {cs : List AV} {vs : List Value} (h : LR S F w cs vs) (n : Nat) : LR S F w (cs.take n) (vs.take n) :=
  ⟨by simp [h.1], fun i c v h1 h2 => by
    rw [List.getElem?_take] at h1 h2
    split at h1
    · rw [if_pos ‹_›] at h2; exact h.2 i c v h1 h2
    · cases h1⟩
theorem LR.drop {cs : List AV} {vs : List Value} (h : LR S F w cs vs) (n : Nat) : LR S F w (cs.drop n) (vs.drop n) :=
  ⟨by simp [h.1], fun i c v h1 h2 => by
    rw [List.getElem?_drop] at h1 h2
    exact h.2 _ c v h1 h2⟩
theorem LR.append {cs ds : List AV} {vs us : List Value} (h : LR S F w cs vs) (k : LR S F w ds us) : LR S F w (cs ++ ds) (vs ++ us) :=
  ⟨by simp [h.1, k.1], fun i c v h1 h2 => by
    rcases Nat.lt_or_ge i cs.length with q | q
    · rw [List.getElem?_append_left q] at h1
      rw [List.getElem?_append_left (by rw [← h.1]; exact q)] at h2
      exact h.2 i c v h1 h2
    · rw [List.getElem?_append_right q] at h1
      rw [List.getElem?_append_right (by rw [← h.1]; exact q), ← h.1] at h2
      exact k.2 _ c v h1 h2⟩
theorem LR.plain (vs : List Value) : LR S F w (vs.map .v) vs :=
  ⟨by simp, fun i c v h1 h2 => by
    rw [List.getElem?_map, h2] at h1
    cases h1
    exact .v v⟩
theorem LR.agg {cs : List AV} {vs : List Value} (h : LR S F w cs vs) : VR S F w (.agg cs) (.agg vs.toArray) := .agg cs vs h.1 h.2
theorem LR.mono {S' : Nat → Prop} {F' : Nat → Option Cn} {w' : World} (e : Ev S F w S' F' w') {cs : List AV} {vs : List Value} (h : LR S F w cs vs) : LR S' F' w' cs vs := ⟨h.1, fun i c v h1 h2 => (h.2 i c v h1 h2).mono e⟩
theorem LR.at {cs : List AV} {vs : List Value} (h : LR S F w cs vs) {i : Nat} {c : AV} (hc : cs[i]? = some c) : ∃ v, vs[i]? = some v ∧ VR S F w c v := by
  have hi : i < vs.length := by rw [← h.1]; exact (List.getElem?_eq_some_iff.1 hc).1
  exact ⟨vs[i], List.getElem?_eq_getElem hi, h.2 i c _ hc (List.getElem?_eq_getElem hi)⟩
theorem VR.v_eq {x y : Value} (h : VR S F w (.v x) y) : y = x := by cases h; rfl
theorem VR.agg_eq {cs : List AV} {y : Value} (h : VR S F w (.agg cs) y) : ∃ vs, y = .agg vs.toArray ∧ LR S F w cs vs := by
  cases h with
  | agg _ vs hl h => exact ⟨vs, rfl, hl, h⟩
theorem VR.tup_eq {cs : List AV} {y : Value} (h : VR S F w (.tup cs) y) : ∃ vs, y = .tuple vs.toArray ∧ LR S F w cs vs := by
  cases h with
  | tup _ vs hl h => exact ⟨vs, rfl, hl, h⟩
theorem one_of {x : AV} {v : Value} (h : VR S F w x v) (ho : x.one = true) : v.oneCell' = true := by
  cases h with
  | v x => exact ho
  | any x => cases ho
  | agg => cases ho
  | tup => cases ho
  | _ => rfl
theorem cells_one {v : Value} (h : v.oneCell' = true) : v.cells = #[v] := by cases v <;> first | rfl | cases h
theorem cells_lr {x : AV} {v : Value} (h : VR S F w x v) (ho : allOne x.cells) : LR S F w x.cells v.cells.toList ∧ ∀ u ∈ v.cells.toList, u.oneCell' = true := by
  by_cases hx : ∃ cs, x = .agg cs
  · obtain ⟨cs, rfl⟩ := hx
    obtain ⟨vs, rfl, hl⟩ := h.agg_eq
    refine ⟨hl, fun u hu => ?_⟩
    have hu : u ∈ vs := hu
    obtain ⟨i, hi, rfl⟩ := List.mem_iff_getElem.1 hu
    have hi2 : i < cs.length := by rw [hl.1]; exact hi
    exact one_of (hl.2 i cs[i] _ (List.getElem?_eq_getElem hi2) (List.getElem?_eq_getElem hi)) (ho _ (List.getElem_mem hi2))
  · have hc : x.cells = [x] := by cases x <;> first | rfl | exact absurd ⟨_, rfl⟩ hx
    rw [hc] at ho ⊢
    have h1 := one_of h (ho x (by simp))
    rw [cells_one h1]
    exact ⟨LR.cons h LR.nil, fun u hu => by simp at hu; subst hu; exact h1⟩
end
theorem fits_row {k : KD} {d : TypeDesc} (h : k.fits d) : rowish d = k.row := by
  cases k with
  | struct fs => obtain ⟨Fq, rfl, -⟩ := h; rfl
  | other => exact h
  | _ => have h : d = _ := h; subst h; rfl
theorem TOk.und {P : Program} {ti : TypeId → Option TI} (h : TOk P ti) {t : TypeId} {i : TI} (ht : ti t = some i) : ∃ d, P.underlying t = some d ∧ i.desc.fits d ∧ rowish d = i.isAgg := by
  obtain ⟨_, _, d, _, _, _, q, q2, _⟩ := h.ok t i ht
  exact ⟨d, q, q2, fits_row q2⟩
theorem TOk.tdesc {P : Program} {ti : TypeId → Option TI} (h : TOk P ti) {t : TypeId} {k : KD} (ht : tdesc ti t = some k) : ∃ d, P.underlying t = some d ∧ k.fits d := by
  unfold Am.tdesc at ht
  cases hi : ti t with
  | none => rw [hi] at ht; cases ht
  | some i => rw [hi] at ht; cases ht; obtain ⟨d, q1, q2, -⟩ := h.und hi; exact ⟨d, q1, q2⟩
theorem TOk.size {P : Program} {ti : TypeId → Option TI} (h : TOk P ti) {t : TypeId} {i : TI} (ht : ti t = some i) : (P.info? t).map (·.size) = some i.size := by
  obtain ⟨info, z, d, q1, q2, -⟩ := h.ok t i ht
  rw [q1]; simp [q2]
theorem TOk.one {P : Program} {ti : TypeId → Option TI} (h : TOk P ti) {t : TypeId} {i : TI} (ht : ti t = some i) (ha : i.isAgg = false) : i.size = 1 := let ⟨_, _, _, _, _, _, _, _, _, _, _, q, _⟩ := h.ok t i ht; q ha
theorem TOk.pos {P : Program} {ti : TypeId → Option TI} (h : TOk P ti) {t : TypeId} {i : TI} (ht : ti t = some i) : 0 < i.size := let ⟨_, _, _, _, _, _, _, _, _, _, _, _, _, q, _⟩ := h.ok t i ht; q
section
variable [Base] {P : Program} {w : World}
theorem run_sizeOf' {t : TypeId} {n : Nat} (h : (P.info? t).map (·.size) = some n) : (sizeOf t).run P w = .ok n w := by
  cases hq : P.info? t with
  | none => simp [hq] at h
  | some i => simp [hq] at h; simp [sizeOf, typeInfo, hq, h]
theorem run_isAgg {t : TypeId} {d : TypeDesc} (h : P.underlying t = some d) : (isAgg t).run P w = .ok (rowish d) w := by
  unfold isAgg
  rw [Sem.run_bind, run_underlying h w]
  cases d <;> rfl
theorem run_part {S : Nat → Prop} {F : Nat → Option Cn} {ti : TypeId → Option TI} (hti : TOk P ti) {t : TypeId} {i : TI} (ht : ti t = some i) {cs : List AV} {vs : List Value} (hl : LR S F w cs vs) {off : Nat} {x : AV} (h : partOf i cs off = some x) (hle : off + i.size ≤ cs.length) :
    ∃ v, (part t vs.toArray off).run P w = .ok v w ∧ VR S F w x v := by
  obtain ⟨d, hd, -, ea⟩ := hti.und ht
  have hs := hti.size ht
  unfold partOf at h
  unfold part
  rw [Sem.run_bind, run_isAgg hd, ea]
  cases hA : i.isAgg with
  | true =>
    rw [hA] at h
    simp only [cond_true, Option.some.injEq] at h
    subst h
    refine ⟨.agg ((vs.drop off).take i.size).toArray, ?_, (((hl.drop off).take i.size)).agg⟩
    simp only [Result.andThen_ok, if_true, Sem.run_bind, run_sizeOf' hs, Sem.run_pure]
    simp [List.extract_eq_take_drop]
  | false =>
    rw [hA] at h
    simp only [cond_false] at h
    obtain ⟨v, q1, q2⟩ := hl.at h
    refine ⟨v, ?_, q2⟩
    simp only [Result.andThen_ok, Bool.false_eq_true, if_false]
    have : vs.toArray[off]? = some v := by simpa using q1
    rw [this]
    rfl
end
section
variable [Base] {P : Program} {ti : TypeId → Option TI} {B : Nat} {D S0 : Nat → Prop} {T : Nat → Option Blk} {F : Nat → Option Cn} {w : World}
theorem load_range {S : Nat → Prop} (hti : TOk P ti) {t : TypeId} {i : TI} (ht : ti t = some i) {cs : List AV} {b o off : Nat} (hc : ∀ (j : Nat) (c : AV), cs[j]? = some c → ∃ v, w.cell? ⟨b, o + j, none⟩ = some v ∧ VR S F w c v) {x : AV} (h : partOf i cs off = some x) (hle : off + i.size ≤ cs.length) :
    ∃ v, (loadVar t ⟨b, o + off, none⟩).run P w = .ok v w ∧ VR S F w x v := by
  obtain ⟨d, hd, -, ea⟩ := hti.und ht
  have hs := hti.size ht
  unfold partOf at h
  cases hA : i.isAgg with
  | true =>
    rw [hA] at h
    simp only [cond_true, Option.some.injEq] at h
    subst h
    have hex : ∀ j : Nat, j < cs.length → ∃ v, w.cell? ⟨b, o + j, none⟩ = some v ∧ ∀ c, cs[j]? = some c → VR S F w c v := fun j hj => by
      obtain ⟨v, q1, q2⟩ := hc j cs[j] (List.getElem?_eq_getElem hj)
      exact ⟨v, q1, fun c hcc => by rw [List.getElem?_eq_getElem hj] at hcc; cases hcc; exact q2⟩
    let f : Nat → Value := fun j => (w.cell? ⟨b, o + j, none⟩).getD undef
    have hf : ∀ j, j < cs.length → w.cell? ⟨b, o + j, none⟩ = some (f j) ∧ ∀ c, cs[j]? = some c → VR S F w c (f j) := fun j hj => by
      obtain ⟨v, q1, q2⟩ := hex j hj
      have : f j = v := by show (w.cell? ⟨b, o + j, none⟩).getD undef = v; rw [q1]; rfl
      rw [this]
      exact ⟨q1, q2⟩
    refine ⟨.agg ((List.range i.size).map fun j => f (off + j)).toArray, ?_, LR.agg ⟨by simp; omega, fun j c v h1 h2 => ?_⟩⟩
    · have hrow : d.isRow = true := by
        rw [← hA, ← ea]
        unfold rowish
        cases d <;> rfl
      refine run_loadVar_mid w b (o + off) t _ d (fun j v hv => ?_) hd hrow (by simp [hs])
      rw [List.getElem?_map] at hv
      cases hr : (List.range i.size)[j]? with
      | none => rw [hr] at hv; cases hv
      | some m =>
        rw [hr] at hv
        obtain ⟨h3, h4⟩ := List.getElem?_eq_some_iff.1 hr
        simp at h3 h4
        subst h4
        cases hv
        rw [Nat.add_assoc]
        exact (hf (off + j) (by omega)).1
    · rw [List.getElem?_take] at h1
      split at h1
      · rename_i hj
        rw [List.getElem?_drop] at h1
        rw [List.getElem?_map, List.getElem?_range hj] at h2
        cases h2
        exact (hf (off + j) (by omega)).2 c h1
      · cases h1
  | false =>
    rw [hA] at h
    simp only [cond_false] at h
    obtain ⟨v, q1, q2⟩ := hc off x h
    refine ⟨v, ?_, q2⟩
    unfold loadVar
    rw [Sem.run_bind, run_isAgg hd, ea, hA]
    simp [q1]
theorem loadE_ok (hti : TOk P ti) (hT : TabR B D S0 T F w) {t : TypeId} {x : AV} {v : Value} (hx : VR (stab B D S0 T F w) F w x v) {e : Eff} (h : loadE ti T t x = some e) (ho : e.obl) :
    ∃ r, (Instr.loadAt t v).run P w = .ok r w ∧ VR (stab B D S0 T F w) F w e.v r ∧ e.upd = [] := by
  unfold loadE at h
  split at h
  · rename_i id ix off
    split at h
    · rename_i i b hi hb
      split at h
      · rename_i row hrow
        split at h
        · rename_i y hy
          cases h
          obtain ⟨g, cap, hF, rfl, -, cur, b1, b2, b3, b4, b4b, b5, b6, b7, b8⟩ := hT.ptr hb hx
          obtain ⟨r, r1, r2⟩ := load_range (w := w) (F := F) (S := stab B D S0 T F w) (b := g) (o := ix * b.k) hti hi (cs := row) (fun j c hc => by
            obtain ⟨v, q1, q2⟩ := b6 ix j row c hrow hc
            exact ⟨v, by rw [cell_of_row w g _ cur b.e (0, 0) b1]; exact q1, q2⟩) hy ho
          exact ⟨r, by simp only [Instr.loadAt, Instr.sureAddr, Sem.run_bind, Sem.run_pure, Result.andThen_ok]; exact r1, r2, rfl⟩
        · cases h
      · cases h
    · cases h
  · rename_i cs
    split at h
    · rename_i i hi
      split at h
      · rename_i y hy
        cases h
        cases hx with
        | dp _ b o f h1 h2 =>
          obtain ⟨r, r1, r2⟩ := load_range (w := w) (F := F) (S := stab B D S0 T F w) (b := b) (o := o) hti hi (cs := cs) (fun j c hc => ⟨_, (h1 j c hc).2, VR.any_F (h2 j c hc)⟩) hy (by have h3 : i.size ≤ cs.length := ho; omega)
          exact ⟨r, by simp only [Instr.loadAt, Instr.sureAddr, Sem.run_bind, Sem.run_pure, Result.andThen_ok]; exact r1, r2, rfl⟩
      · cases h
    · cases h
  · cases h
end
end Am
end
end Go.Proofs.Ytcgdhankllphgaa
