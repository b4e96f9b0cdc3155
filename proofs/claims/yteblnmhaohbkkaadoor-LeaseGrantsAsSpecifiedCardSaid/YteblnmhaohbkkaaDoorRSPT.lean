/- Contracts: the parts of stamps and heads. -/
import Derived.Test.YteblnmhaohbkkaaDoorRSRE
namespace Go.Proofs.YteblnmhaohbkkaaDoor
set_option linter.unusedVariables false
set_option linter.unusedSimpArgs false
open Go.RowKit Go.Sort
def headP (si sz lo hi se : Int) (B : List Nat) : List ByteArray := [numP [si, sz, lo, hi, se], Hs.strB B]
def stampP (ad va tg : ByteArray) (st sz lo hi ga se : Int) (B : List Nat) : List ByteArray := [ad, va, numP [st, sz, lo, hi, ga, se], Hs.strB B, tg]
end Go.Proofs.YteblnmhaohbkkaaDoor
