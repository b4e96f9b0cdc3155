/- Contracts: the parts of an epoch. -/
import Derived.Test.YteblnmhaohbkkaaDoorRSPT
import Derived.Test.YteblnmhaohbkkaaDoorRSZB
namespace Go.Proofs.YteblnmhaohbkkaaDoor
set_option linter.unusedVariables false
set_option linter.unusedSimpArgs false
open Go.RowKit Go.Sort
/-- A purge: kind, what, soft. -/
abbrev Pu := Int × ByteArray × Bool
def encPu (x : Pu) : List Value := [.int .i64 x.1, .string x.2.1, .bool x.2.2]
abbrev pu0 : Pu := (0, ⟨#[]⟩, false)
/-- A digest. -/
abbrev Dg := { D : List Nat // D.length = 16 ∧ ∀ x ∈ D, x < 256 }
def encDg (x : Dg) : List Value := x.1.map Hs.bv
def dg0 : Dg := ⟨List.replicate 16 0, by simp, fun x hx => by rw [List.eq_of_mem_replicate hx]; omega⟩
def EpM (W : World) (pa : Option Addr) (pl : List Pu) (ra : Option Addr) (rl : List Dg) : Prop := RowsA 3 encPu W pa pl ∧ RowsA 16 encDg W ra rl
theorem EpM.mono {W W' : World} {pa ra : Option Addr} {pl : List Pu} {rl : List Dg} (h : EpM W pa pl ra rl) (hb : Below W.heap.size W W') : EpM W' pa pl ra rl := ⟨h.1.mono hb, h.2.mono hb⟩
def EpOk (pl : List Pu) (rl : List Dg) : Prop := pl.length ≤ 10 ∧ rl.length ≤ 10 ∧ ∀ x ∈ pl, i64Ok x.1 ∧ x.2.1.size ≤ 200
def puP (x : Pu) : List ByteArray := [numP [x.1, if x.2.2 then 1 else 0], x.2.1]
def dgP (x : Dg) : ByteArray := Hs.strB x.1
def epochP (nu lo hi se : Int) (B : List Nat) (pl : List Pu) (rl : List Dg) : List ByteArray := [numP [nu, lo, hi, se, pl.length], Hs.strB B] ++ pl.flatMap puP ++ rl.map dgP
end Go.Proofs.YteblnmhaohbkkaaDoor
