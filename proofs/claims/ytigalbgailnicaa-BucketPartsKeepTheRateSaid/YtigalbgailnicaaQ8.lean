/- Law 8, for every input. -/
import Derived.Test.YtigalbgailnicaaP8
namespace Go.Proofs.Ytigalbgailnicaa
set_option linter.unusedVariables false
set_option linter.unusedSimpArgs false
open Go.RowKit
theorem partsKeepTheRate (c n d l a : Int) (ac an ad : Option Addr) (capc capn cap : Nat) (cs ns : List Int) (ls : List (Int × Int × Int)) (w : World) (hp : Tries3 w ad ls) (hm : ls.length ≤ 9223372036854775807) (hc : IntsA .i64 w ac cs) (hm1 : cs.length ≤ 9223372036854775807) (hn : IntsA .i64 w an ns) (hm2 : ns.length ≤ 9223372036854775807) :
    Calls Try.prog 8 #[bk c n d l a, .slice ac cs.length capc, .slice an ns.length capn, .slice ad ls.length cap] w fun e w' => e = .returned (.bool true) ∧ Below w.heap.size w w' := by
  by_cases o : 64 < cs.length ∨ 60 < ls.length ∨ ¬ OkB c n d l a ∨ 1099511527776 < a
  · exact parts_out c n d l a ac an ad capc capn cap cs ns ls w hm hm1 o
  · have h : OkB c n d l a := Classical.byContradiction fun h => o (Or.inr (Or.inr (Or.inl h)))
    have o1 : cs.length ≤ 64 := by omega
    have o2 : ls.length ≤ 60 := by omega
    have o3 : a ≤ 1099511527776 := by omega
    by_cases h1 : cs.length < 1
    · exact parts_refused c n d l a ac an ad capc capn cap cs ns ls w o2 o1 h o3 fun W hb => split_few c n d l a ac an capc capn cs ns W hm1 hm2 h h1
    · by_cases h3 : ns.length = cs.length
      · by_cases hb1 : addB c cs = true
        · by_cases hb2 : addB n ns = true
          · have := parts_in c n d l a ac an ad capc capn cap cs ns ls w hp o2 (by omega) o1 h3 hc hn h o3 hb1 hb2
            rw [h3]
            exact this
          · exact parts_refused c n d l a ac an ad capc capn cap cs ns ls w o2 o1 h o3 fun W hb => split_sum2 c n d l a ac an capc capn cs ns W h (by omega) o1 h3 (hc.mono hb) (hn.mono hb) hb1 (by simpa using hb2)
        · exact parts_refused c n d l a ac an ad capc capn cap cs ns ls w o2 o1 h o3 fun W hb => split_sum1 c n d l a ac an capc capn cs ns W h (by omega) o1 h3 (hc.mono hb) (hn.mono hb) (by simpa using hb1)
      · exact parts_refused c n d l a ac an ad capc capn cap cs ns ls w o2 o1 h o3 fun W hb => split_len c n d l a ac an capc capn cs ns W hm1 hm2 h (by omega) o1 h3
end Go.Proofs.Ytigalbgailnicaa
