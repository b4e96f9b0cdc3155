/-
  NARROWER THAN 'FOR EVERY INPUT', by the rows' own cells (each row's printed sentence says how): SketchBeginsAsSpecified: laid · SketchAddsAsSpecified: laid · SketchMergesAsSpecified: laid · SketchNeverCountsLess: laid · SketchAddsAtMostOne: laid · SketchMergedCountsBoth: laid.
  DERIVED. THE GIVEN ROWS OF THIS SEAT. 6 by the template 'for every input the law returns true; each argument reads behind the call as it read before'; 0 by the template 'total and deterministic' (their statements: YtmmjkhamknfhpaaDoorTotals.lean).
  GIVEN WITH THE SEED: the statements are not yours to turn. If you find one false, say at which input.
  Laid BY PROGRAM, IN A SANDBOX (cutbox-rows.mjs): the forced cells as the released guide's own fill.sh prints them over the translation 66af9699c60ae881… (all of the seat's roots in one cut). By AI agents, Wed Nov 11 2026. No macro, syntax, notation, axiom, sorry.
-/
import Derived.Test.YtmmjkhamknfhpaaDoorChecked
import GoSem.Claim
import GoSem.ClaimJoined
import GoSem.ClaimMapViews
import Derived.JoinedTies
import Derived.KernelRfl
namespace Go.Proofs.YtmmjkhamknfhpaaDoor
/- THE CELL 'sum', in the pinned program and in every row, IS THE sha256 OF THE DUMP (.gsa) THAT YtmmjkhamknfhpaaDoorProg.lean LOADS. Nothing in Lean hashes anything: it is a label: what it is worth is what the hold of that sum in a sandbox is worth. -/
noncomputable def Tryd.pinned : Pinned := { name := "ytmmjkhamknfhpaadoor", sum := "66af9699c60ae88119e53e63d14ebf1bd618577a555c0efd093125e1863cae2b", checked := Tryd.checked }
namespace Rows
def none {H : Type} : Left H := { results := [], args := [] }

/- WHAT THE LISTED PACKAGE-LEVEL VARIABLES READ AS WHEN THE CALL BEGINS. Each datum BY PROGRAM (the guide's laid-datum.mjs) off the statement by which the dump's own 'gosem.cut.vars' lays the variable. In a bare row this is a premise. The card (YtmmjkhamknfhpaaDoorCards.lean) ties it to the program's text. -/
def laid_weirgate_weirgateref02_constants {H : Type} : DataW H := .agg [.lit (.int .u32 1116352408), .lit (.int .u32 1899447441), .lit (.int .u32 3049323471), .lit (.int .u32 3921009573), .lit (.int .u32 961987163), .lit (.int .u32 1508970993), .lit (.int .u32 2453635748), .lit (.int .u32 2870763221), .lit (.int .u32 3624381080), .lit (.int .u32 310598401), .lit (.int .u32 607225278), .lit (.int .u32 1426881987), .lit (.int .u32 1925078388), .lit (.int .u32 2162078206), .lit (.int .u32 2614888103), .lit (.int .u32 3248222580), .lit (.int .u32 3835390401), .lit (.int .u32 4022224774), .lit (.int .u32 264347078), .lit (.int .u32 604807628), .lit (.int .u32 770255983), .lit (.int .u32 1249150122), .lit (.int .u32 1555081692), .lit (.int .u32 1996064986), .lit (.int .u32 2554220882), .lit (.int .u32 2821834349), .lit (.int .u32 2952996808), .lit (.int .u32 3210313671), .lit (.int .u32 3336571891), .lit (.int .u32 3584528711), .lit (.int .u32 113926993), .lit (.int .u32 338241895), .lit (.int .u32 666307205), .lit (.int .u32 773529912), .lit (.int .u32 1294757372), .lit (.int .u32 1396182291), .lit (.int .u32 1695183700), .lit (.int .u32 1986661051), .lit (.int .u32 2177026350), .lit (.int .u32 2456956037), .lit (.int .u32 2730485921), .lit (.int .u32 2820302411), .lit (.int .u32 3259730800), .lit (.int .u32 3345764771), .lit (.int .u32 3516065817), .lit (.int .u32 3600352804), .lit (.int .u32 4094571909), .lit (.int .u32 275423344), .lit (.int .u32 430227734), .lit (.int .u32 506948616), .lit (.int .u32 659060556), .lit (.int .u32 883997877), .lit (.int .u32 958139571), .lit (.int .u32 1322822218), .lit (.int .u32 1537002063), .lit (.int .u32 1747873779), .lit (.int .u32 1955562222), .lit (.int .u32 2024104815), .lit (.int .u32 2227730452), .lit (.int .u32 2361852424), .lit (.int .u32 2428436474), .lit (.int .u32 2756734187), .lit (.int .u32 3204031479), .lit (.int .u32 3329325298)]
def laid_weirgate_hash_rounds {H : Type} : DataW H := .agg [.lit (.int .u32 1116352408), .lit (.int .u32 1899447441), .lit (.int .u32 3049323471), .lit (.int .u32 3921009573), .lit (.int .u32 961987163), .lit (.int .u32 1508970993), .lit (.int .u32 2453635748), .lit (.int .u32 2870763221), .lit (.int .u32 3624381080), .lit (.int .u32 310598401), .lit (.int .u32 607225278), .lit (.int .u32 1426881987), .lit (.int .u32 1925078388), .lit (.int .u32 2162078206), .lit (.int .u32 2614888103), .lit (.int .u32 3248222580), .lit (.int .u32 3835390401), .lit (.int .u32 4022224774), .lit (.int .u32 264347078), .lit (.int .u32 604807628), .lit (.int .u32 770255983), .lit (.int .u32 1249150122), .lit (.int .u32 1555081692), .lit (.int .u32 1996064986), .lit (.int .u32 2554220882), .lit (.int .u32 2821834349), .lit (.int .u32 2952996808), .lit (.int .u32 3210313671), .lit (.int .u32 3336571891), .lit (.int .u32 3584528711), .lit (.int .u32 113926993), .lit (.int .u32 338241895), .lit (.int .u32 666307205), .lit (.int .u32 773529912), .lit (.int .u32 1294757372), .lit (.int .u32 1396182291), .lit (.int .u32 1695183700), .lit (.int .u32 1986661051), .lit (.int .u32 2177026350), .lit (.int .u32 2456956037), .lit (.int .u32 2730485921), .lit (.int .u32 2820302411), .lit (.int .u32 3259730800), .lit (.int .u32 3345764771), .lit (.int .u32 3516065817), .lit (.int .u32 3600352804), .lit (.int .u32 4094571909), .lit (.int .u32 275423344), .lit (.int .u32 430227734), .lit (.int .u32 506948616), .lit (.int .u32 659060556), .lit (.int .u32 883997877), .lit (.int .u32 958139571), .lit (.int .u32 1322822218), .lit (.int .u32 1537002063), .lit (.int .u32 1747873779), .lit (.int .u32 1955562222), .lit (.int .u32 2024104815), .lit (.int .u32 2227730452), .lit (.int .u32 2361852424), .lit (.int .u32 2428436474), .lit (.int .u32 2756734187), .lit (.int .u32 3204031479), .lit (.int .u32 3329325298)]

/-- 'weirgatelaw08.SketchBeginsAsSpecified': WHATEVER THE INPUT: true; the input reads as it did. -/
def sketchBeginsAsSpecifiedSpec : ChangeSpec := { name := "sketchBeginsAsSpecified", fn := fun _ => fun
  | [d1, d2, d3, d4, d5] => { results := [.lit (.bool true)], args := [d1, d2, d3, d4, d5] }
  | _ => none }
def sketchBeginsAsSpecifiedRow : OpenClaim := { program := "ytmmjkhamknfhpaadoor", sum := "66af9699c60ae88119e53e63d14ebf1bd618577a555c0efd093125e1863cae2b", func := "weirgate/weirgatelaw08.SketchBeginsAsSpecified", spec := "sketchBeginsAsSpecified", unfollowed := true, recurses := true, named := ["weirgate/hash.rounds", "weirgate/weirgateref02.constants"], apart := false, laid := [("weirgate/weirgateref02.constants", laid_weirgate_weirgateref02_constants), ("weirgate/hash.rounds", laid_weirgate_hash_rounds)] }
def SketchBeginsAsSpecifiedSaid : Prop := sketchBeginsAsSpecifiedRow.holds Tryd.pinned (OpenSpec.ofChange sketchBeginsAsSpecifiedSpec)

/-- ITS FALSE NEIGHBOUR: 'it returns false'. Refute it at one input. -/
def sketchBeginsAsSpecifiedWrong : ChangeSpec := { name := "sketchBeginsAsSpecified", fn := fun _ => fun
  | [d1, d2, d3, d4, d5] => { results := [.lit (.bool false)], args := [d1, d2, d3, d4, d5] }
  | _ => none }
def SketchBeginsAsSpecifiedWrongFalsely : Prop := sketchBeginsAsSpecifiedRow.holds Tryd.pinned (OpenSpec.ofChange sketchBeginsAsSpecifiedWrong)

/-- 'weirgatelaw08.SketchAddsAsSpecified': WHATEVER THE INPUT: true; the input reads as it did. -/
def sketchAddsAsSpecifiedSpec : ChangeSpec := { name := "sketchAddsAsSpecified", fn := fun _ => fun
  | [d1, d2] => { results := [.lit (.bool true)], args := [d1, d2] }
  | _ => none }
def sketchAddsAsSpecifiedRow : OpenClaim := { program := "ytmmjkhamknfhpaadoor", sum := "66af9699c60ae88119e53e63d14ebf1bd618577a555c0efd093125e1863cae2b", func := "weirgate/weirgatelaw08.SketchAddsAsSpecified", spec := "sketchAddsAsSpecified", unfollowed := true, recurses := true, named := ["weirgate/hash.rounds", "weirgate/weirgateref02.constants"], apart := false, laid := [("weirgate/weirgateref02.constants", laid_weirgate_weirgateref02_constants), ("weirgate/hash.rounds", laid_weirgate_hash_rounds)] }
def SketchAddsAsSpecifiedSaid : Prop := sketchAddsAsSpecifiedRow.holds Tryd.pinned (OpenSpec.ofChange sketchAddsAsSpecifiedSpec)

/-- ITS FALSE NEIGHBOUR: 'it returns false'. Refute it at one input. -/
def sketchAddsAsSpecifiedWrong : ChangeSpec := { name := "sketchAddsAsSpecified", fn := fun _ => fun
  | [d1, d2] => { results := [.lit (.bool false)], args := [d1, d2] }
  | _ => none }
def SketchAddsAsSpecifiedWrongFalsely : Prop := sketchAddsAsSpecifiedRow.holds Tryd.pinned (OpenSpec.ofChange sketchAddsAsSpecifiedWrong)

/-- 'weirgatelaw08.SketchMergesAsSpecified': WHATEVER THE INPUT: true; the input reads as it did. -/
def sketchMergesAsSpecifiedSpec : ChangeSpec := { name := "sketchMergesAsSpecified", fn := fun _ => fun
  | [d1, d2] => { results := [.lit (.bool true)], args := [d1, d2] }
  | _ => none }
def sketchMergesAsSpecifiedRow : OpenClaim := { program := "ytmmjkhamknfhpaadoor", sum := "66af9699c60ae88119e53e63d14ebf1bd618577a555c0efd093125e1863cae2b", func := "weirgate/weirgatelaw08.SketchMergesAsSpecified", spec := "sketchMergesAsSpecified", unfollowed := true, recurses := true, named := ["weirgate/hash.rounds"], apart := false, laid := [("weirgate/hash.rounds", laid_weirgate_hash_rounds)] }
def SketchMergesAsSpecifiedSaid : Prop := sketchMergesAsSpecifiedRow.holds Tryd.pinned (OpenSpec.ofChange sketchMergesAsSpecifiedSpec)

/-- ITS FALSE NEIGHBOUR: 'it returns false'. Refute it at one input. -/
def sketchMergesAsSpecifiedWrong : ChangeSpec := { name := "sketchMergesAsSpecified", fn := fun _ => fun
  | [d1, d2] => { results := [.lit (.bool false)], args := [d1, d2] }
  | _ => none }
def SketchMergesAsSpecifiedWrongFalsely : Prop := sketchMergesAsSpecifiedRow.holds Tryd.pinned (OpenSpec.ofChange sketchMergesAsSpecifiedWrong)

/-- 'weirgatelaw08.SketchNeverCountsLess': WHATEVER THE INPUT: true; the input reads as it did. -/
def sketchNeverCountsLessSpec : ChangeSpec := { name := "sketchNeverCountsLess", fn := fun _ => fun
  | [d1, d2, d3] => { results := [.lit (.bool true)], args := [d1, d2, d3] }
  | _ => none }
def sketchNeverCountsLessRow : OpenClaim := { program := "ytmmjkhamknfhpaadoor", sum := "66af9699c60ae88119e53e63d14ebf1bd618577a555c0efd093125e1863cae2b", func := "weirgate/weirgatelaw08.SketchNeverCountsLess", spec := "sketchNeverCountsLess", unfollowed := true, recurses := true, named := ["weirgate/hash.rounds", "weirgate/weirgateref02.constants"], apart := false, laid := [("weirgate/weirgateref02.constants", laid_weirgate_weirgateref02_constants), ("weirgate/hash.rounds", laid_weirgate_hash_rounds)] }
def SketchNeverCountsLessSaid : Prop := sketchNeverCountsLessRow.holds Tryd.pinned (OpenSpec.ofChange sketchNeverCountsLessSpec)

/-- ITS FALSE NEIGHBOUR: 'it returns false'. Refute it at one input. -/
def sketchNeverCountsLessWrong : ChangeSpec := { name := "sketchNeverCountsLess", fn := fun _ => fun
  | [d1, d2, d3] => { results := [.lit (.bool false)], args := [d1, d2, d3] }
  | _ => none }
def SketchNeverCountsLessWrongFalsely : Prop := sketchNeverCountsLessRow.holds Tryd.pinned (OpenSpec.ofChange sketchNeverCountsLessWrong)

/-- 'weirgatelaw08.SketchAddsAtMostOne': WHATEVER THE INPUT: true; the input reads as it did. -/
def sketchAddsAtMostOneSpec : ChangeSpec := { name := "sketchAddsAtMostOne", fn := fun _ => fun
  | [d1, d2, d3] => { results := [.lit (.bool true)], args := [d1, d2, d3] }
  | _ => none }
def sketchAddsAtMostOneRow : OpenClaim := { program := "ytmmjkhamknfhpaadoor", sum := "66af9699c60ae88119e53e63d14ebf1bd618577a555c0efd093125e1863cae2b", func := "weirgate/weirgatelaw08.SketchAddsAtMostOne", spec := "sketchAddsAtMostOne", unfollowed := true, recurses := true, named := ["weirgate/hash.rounds"], apart := false, laid := [("weirgate/hash.rounds", laid_weirgate_hash_rounds)] }
def SketchAddsAtMostOneSaid : Prop := sketchAddsAtMostOneRow.holds Tryd.pinned (OpenSpec.ofChange sketchAddsAtMostOneSpec)

/-- ITS FALSE NEIGHBOUR: 'it returns false'. Refute it at one input. -/
def sketchAddsAtMostOneWrong : ChangeSpec := { name := "sketchAddsAtMostOne", fn := fun _ => fun
  | [d1, d2, d3] => { results := [.lit (.bool false)], args := [d1, d2, d3] }
  | _ => none }
def SketchAddsAtMostOneWrongFalsely : Prop := sketchAddsAtMostOneRow.holds Tryd.pinned (OpenSpec.ofChange sketchAddsAtMostOneWrong)

/-- 'weirgatelaw08.SketchMergedCountsBoth': WHATEVER THE INPUT: true; the input reads as it did. -/
def sketchMergedCountsBothSpec : ChangeSpec := { name := "sketchMergedCountsBoth", fn := fun _ => fun
  | [d1, d2, d3] => { results := [.lit (.bool true)], args := [d1, d2, d3] }
  | _ => none }
def sketchMergedCountsBothRow : OpenClaim := { program := "ytmmjkhamknfhpaadoor", sum := "66af9699c60ae88119e53e63d14ebf1bd618577a555c0efd093125e1863cae2b", func := "weirgate/weirgatelaw08.SketchMergedCountsBoth", spec := "sketchMergedCountsBoth", unfollowed := true, recurses := true, named := ["weirgate/hash.rounds"], apart := false, laid := [("weirgate/hash.rounds", laid_weirgate_hash_rounds)] }
def SketchMergedCountsBothSaid : Prop := sketchMergedCountsBothRow.holds Tryd.pinned (OpenSpec.ofChange sketchMergedCountsBothSpec)

/-- ITS FALSE NEIGHBOUR: 'it returns false'. Refute it at one input. -/
def sketchMergedCountsBothWrong : ChangeSpec := { name := "sketchMergedCountsBoth", fn := fun _ => fun
  | [d1, d2, d3] => { results := [.lit (.bool false)], args := [d1, d2, d3] }
  | _ => none }
def SketchMergedCountsBothWrongFalsely : Prop := sketchMergedCountsBothRow.holds Tryd.pinned (OpenSpec.ofChange sketchMergedCountsBothWrong)

/- THE SECOND FORM. 'bulk': how many values and letters a reading holds, each counted each time it is reached (what is shared counts as often as it is met; a slice's spare places count too). A statement '..UptoSaid' is the law's where the arguments, and the package variables that the reading takes, are together of bulk at most 1048576: NARROWER than '..Said'. Prove '..Said' where nothing that the law and all that it calls make is longer than what came in: it says more and counts as full. Else prove '..UptoSaid'. A law counts once. -/
mutual
def uptoBulk {H : Type} : DataW H → Nat
  | .lit (.string bytes) => bytes.length + 1
  | .lit _ => 1
  | .nil => 1
  | .ptr d => uptoBulk d + 1
  | .slice elems spare => uptoBulkAll elems + uptoBulkAll spare + 1
  | .agg parts => uptoBulkAll parts + 1
  | .iface _ d => uptoBulk d + 1
  | .map entries => uptoBulkEntries entries + 1
  | .held _ => 1
def uptoBulkAll {H : Type} : List (DataW H) → Nat
  | [] => 0
  | d :: r => uptoBulk d + uptoBulkAll r
def uptoBulkEntries {H : Type} : List (Lit × DataW H) → Nat
  | [] => 0
  | x :: r => uptoBulkEntry x + uptoBulkEntries r
def uptoBulkEntry {H : Type} : Lit × DataW H → Nat
  | (.string bytes, d) => bytes.length + uptoBulk d + 1
  | (_, d) => uptoBulk d + 1
 end
def uptoSmall : (H : Type) → List (DataW H) → Bool := fun _ ds => decide (uptoBulkAll ds ≤ 1048576)
def OpenSpec.upto (s : _root_.Go.ChangeSpec) : _root_.Go.OpenSpec := { _root_.Go.OpenSpec.ofChange s with cond := some uptoSmall }

/-- 'weirgatelaw08.SketchBeginsAsSpecified', WHERE WHAT IT READS IS OF BULK AT MOST 1048576: true; the input reads as it did. -/
def sketchBeginsAsSpecifiedUptoRow : OpenClaim := { program := "ytmmjkhamknfhpaadoor", sum := "66af9699c60ae88119e53e63d14ebf1bd618577a555c0efd093125e1863cae2b", func := "weirgate/weirgatelaw08.SketchBeginsAsSpecified", spec := "sketchBeginsAsSpecified", unfollowed := true, recurses := true, named := ["weirgate/hash.rounds", "weirgate/weirgateref02.constants"], apart := false, laid := [("weirgate/weirgateref02.constants", laid_weirgate_weirgateref02_constants), ("weirgate/hash.rounds", laid_weirgate_hash_rounds)], narrowed := true }
def SketchBeginsAsSpecifiedUptoSaid : Prop := sketchBeginsAsSpecifiedUptoRow.holds Tryd.pinned (OpenSpec.upto sketchBeginsAsSpecifiedSpec)

/-- 'weirgatelaw08.SketchAddsAsSpecified', WHERE WHAT IT READS IS OF BULK AT MOST 1048576: true; the input reads as it did. -/
def sketchAddsAsSpecifiedUptoRow : OpenClaim := { program := "ytmmjkhamknfhpaadoor", sum := "66af9699c60ae88119e53e63d14ebf1bd618577a555c0efd093125e1863cae2b", func := "weirgate/weirgatelaw08.SketchAddsAsSpecified", spec := "sketchAddsAsSpecified", unfollowed := true, recurses := true, named := ["weirgate/hash.rounds", "weirgate/weirgateref02.constants"], apart := false, laid := [("weirgate/weirgateref02.constants", laid_weirgate_weirgateref02_constants), ("weirgate/hash.rounds", laid_weirgate_hash_rounds)], narrowed := true }
def SketchAddsAsSpecifiedUptoSaid : Prop := sketchAddsAsSpecifiedUptoRow.holds Tryd.pinned (OpenSpec.upto sketchAddsAsSpecifiedSpec)

/-- 'weirgatelaw08.SketchMergesAsSpecified', WHERE WHAT IT READS IS OF BULK AT MOST 1048576: true; the input reads as it did. -/
def sketchMergesAsSpecifiedUptoRow : OpenClaim := { program := "ytmmjkhamknfhpaadoor", sum := "66af9699c60ae88119e53e63d14ebf1bd618577a555c0efd093125e1863cae2b", func := "weirgate/weirgatelaw08.SketchMergesAsSpecified", spec := "sketchMergesAsSpecified", unfollowed := true, recurses := true, named := ["weirgate/hash.rounds"], apart := false, laid := [("weirgate/hash.rounds", laid_weirgate_hash_rounds)], narrowed := true }
def SketchMergesAsSpecifiedUptoSaid : Prop := sketchMergesAsSpecifiedUptoRow.holds Tryd.pinned (OpenSpec.upto sketchMergesAsSpecifiedSpec)

/-- 'weirgatelaw08.SketchNeverCountsLess', WHERE WHAT IT READS IS OF BULK AT MOST 1048576: true; the input reads as it did. -/
def sketchNeverCountsLessUptoRow : OpenClaim := { program := "ytmmjkhamknfhpaadoor", sum := "66af9699c60ae88119e53e63d14ebf1bd618577a555c0efd093125e1863cae2b", func := "weirgate/weirgatelaw08.SketchNeverCountsLess", spec := "sketchNeverCountsLess", unfollowed := true, recurses := true, named := ["weirgate/hash.rounds", "weirgate/weirgateref02.constants"], apart := false, laid := [("weirgate/weirgateref02.constants", laid_weirgate_weirgateref02_constants), ("weirgate/hash.rounds", laid_weirgate_hash_rounds)], narrowed := true }
def SketchNeverCountsLessUptoSaid : Prop := sketchNeverCountsLessUptoRow.holds Tryd.pinned (OpenSpec.upto sketchNeverCountsLessSpec)

/-- 'weirgatelaw08.SketchAddsAtMostOne', WHERE WHAT IT READS IS OF BULK AT MOST 1048576: true; the input reads as it did. -/
def sketchAddsAtMostOneUptoRow : OpenClaim := { program := "ytmmjkhamknfhpaadoor", sum := "66af9699c60ae88119e53e63d14ebf1bd618577a555c0efd093125e1863cae2b", func := "weirgate/weirgatelaw08.SketchAddsAtMostOne", spec := "sketchAddsAtMostOne", unfollowed := true, recurses := true, named := ["weirgate/hash.rounds"], apart := false, laid := [("weirgate/hash.rounds", laid_weirgate_hash_rounds)], narrowed := true }
def SketchAddsAtMostOneUptoSaid : Prop := sketchAddsAtMostOneUptoRow.holds Tryd.pinned (OpenSpec.upto sketchAddsAtMostOneSpec)

/-- 'weirgatelaw08.SketchMergedCountsBoth', WHERE WHAT IT READS IS OF BULK AT MOST 1048576: true; the input reads as it did. -/
def sketchMergedCountsBothUptoRow : OpenClaim := { program := "ytmmjkhamknfhpaadoor", sum := "66af9699c60ae88119e53e63d14ebf1bd618577a555c0efd093125e1863cae2b", func := "weirgate/weirgatelaw08.SketchMergedCountsBoth", spec := "sketchMergedCountsBoth", unfollowed := true, recurses := true, named := ["weirgate/hash.rounds"], apart := false, laid := [("weirgate/hash.rounds", laid_weirgate_hash_rounds)], narrowed := true }
def SketchMergedCountsBothUptoSaid : Prop := sketchMergedCountsBothUptoRow.holds Tryd.pinned (OpenSpec.upto sketchMergedCountsBothSpec)

end Rows
end Go.Proofs.YtmmjkhamknfhpaaDoor
