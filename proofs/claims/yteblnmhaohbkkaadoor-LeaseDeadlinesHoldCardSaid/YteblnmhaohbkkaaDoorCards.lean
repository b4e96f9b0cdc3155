/-
  DERIVED. GIVEN WITH THE SEED: THE CARDS: each row of YteblnmhaohbkkaaDoorRows.lean that lists a variable, with what it lists TIED to the program's text (the seventh form; the later family's looks); each row that meets fmt, with fmt's text TOLD by the authors' own Lean function (tested against real Go, not proved from fmt's source: count such statements apart). THE CARD IS WHAT COUNTS. Prove the row's statement (the work); the ties are given (YteblnmhaohbkkaaDoorTie.lean); close each card by the builder's one call (the guide's Derived/Test/ToyasCard.lean, 'card_holds'). Laid BY PROGRAM, IN A SANDBOX (cutbox-door.mjs). By AI agents, Wed Nov 11 2026. No macro, syntax, notation, axiom, sorry.
-/
import Derived.Test.YteblnmhaohbkkaaDoorRows
import GoSem.ClaimSeven
namespace Go.Proofs.YteblnmhaohbkkaaDoor
namespace Rows

/-- THE TIED CARD OF 'weirgatelaw30.LeaseGrantsAsSpecified'. -/
def leaseGrantsAsSpecifiedCard : Claim7 := { stood := { row := leaseGrantsAsSpecifiedRow, standIns := [], harness := (true, "f8e2b6d5db976d2b85982ac41b63eaec06be9f38586daa49d70451526b4b3b54"), looks := false }, kinds := [], alts := [], laidByText := true, laidKinds := [.data, .data], laidTests := true, laidLooks := .later }
def LeaseGrantsAsSpecifiedCardSaid : Prop := Claim7.holds Tryd.pinned (.plain (OpenSpec.ofChange leaseGrantsAsSpecifiedSpec)) leaseGrantsAsSpecifiedCard

/-- THE TIED CARD OF 'weirgatelaw30.LeaseDeadlinesHold'. -/
def leaseDeadlinesHoldCard : Claim7 := { stood := { row := leaseDeadlinesHoldRow, standIns := [], harness := (true, "f8e2b6d5db976d2b85982ac41b63eaec06be9f38586daa49d70451526b4b3b54"), looks := false }, kinds := [], alts := [], laidByText := true, laidKinds := [.data], laidTests := true, laidLooks := .later }
def LeaseDeadlinesHoldCardSaid : Prop := Claim7.holds Tryd.pinned (.plain (OpenSpec.ofChange leaseDeadlinesHoldSpec)) leaseDeadlinesHoldCard

/-- THE TIED CARD OF 'weirgatelaw30.LeaseWorthIsExact'. -/
def leaseWorthIsExactCard : Claim7 := { stood := { row := leaseWorthIsExactRow, standIns := [], harness := (true, "f8e2b6d5db976d2b85982ac41b63eaec06be9f38586daa49d70451526b4b3b54"), looks := false }, kinds := [], alts := [], laidByText := true, laidKinds := [.data], laidTests := true, laidLooks := .later }
def LeaseWorthIsExactCardSaid : Prop := Claim7.holds Tryd.pinned (.plain (OpenSpec.ofChange leaseWorthIsExactSpec)) leaseWorthIsExactCard

/-- THE TIED CARD OF 'weirgatelaw30.LeaseNeedsHearing'. -/
def leaseNeedsHearingCard : Claim7 := { stood := { row := leaseNeedsHearingRow, standIns := [], harness := (true, "f8e2b6d5db976d2b85982ac41b63eaec06be9f38586daa49d70451526b4b3b54"), looks := false }, kinds := [], alts := [], laidByText := true, laidKinds := [.data], laidTests := true, laidLooks := .later }
def LeaseNeedsHearingCardSaid : Prop := Claim7.holds Tryd.pinned (.plain (OpenSpec.ofChange leaseNeedsHearingSpec)) leaseNeedsHearingCard

/-- THE SECOND FORM's CARD OF 'weirgatelaw30.LeaseGrantsAsSpecified'. -/
def leaseGrantsAsSpecifiedUptoCard : Claim7 := { stood := { row := leaseGrantsAsSpecifiedUptoRow, standIns := [], harness := (true, "f8e2b6d5db976d2b85982ac41b63eaec06be9f38586daa49d70451526b4b3b54"), looks := false }, kinds := [], alts := [], laidByText := true, laidKinds := [.data, .data], laidTests := true, laidLooks := .later }
def LeaseGrantsAsSpecifiedUptoCardSaid : Prop := Claim7.holds Tryd.pinned (.plain (OpenSpec.upto leaseGrantsAsSpecifiedSpec)) leaseGrantsAsSpecifiedUptoCard

/-- THE SECOND FORM's CARD OF 'weirgatelaw30.LeaseDeadlinesHold'. -/
def leaseDeadlinesHoldUptoCard : Claim7 := { stood := { row := leaseDeadlinesHoldUptoRow, standIns := [], harness := (true, "f8e2b6d5db976d2b85982ac41b63eaec06be9f38586daa49d70451526b4b3b54"), looks := false }, kinds := [], alts := [], laidByText := true, laidKinds := [.data], laidTests := true, laidLooks := .later }
def LeaseDeadlinesHoldUptoCardSaid : Prop := Claim7.holds Tryd.pinned (.plain (OpenSpec.upto leaseDeadlinesHoldSpec)) leaseDeadlinesHoldUptoCard

/-- THE SECOND FORM's CARD OF 'weirgatelaw30.LeaseWorthIsExact'. -/
def leaseWorthIsExactUptoCard : Claim7 := { stood := { row := leaseWorthIsExactUptoRow, standIns := [], harness := (true, "f8e2b6d5db976d2b85982ac41b63eaec06be9f38586daa49d70451526b4b3b54"), looks := false }, kinds := [], alts := [], laidByText := true, laidKinds := [.data], laidTests := true, laidLooks := .later }
def LeaseWorthIsExactUptoCardSaid : Prop := Claim7.holds Tryd.pinned (.plain (OpenSpec.upto leaseWorthIsExactSpec)) leaseWorthIsExactUptoCard

/-- THE SECOND FORM's CARD OF 'weirgatelaw30.LeaseNeedsHearing'. -/
def leaseNeedsHearingUptoCard : Claim7 := { stood := { row := leaseNeedsHearingUptoRow, standIns := [], harness := (true, "f8e2b6d5db976d2b85982ac41b63eaec06be9f38586daa49d70451526b4b3b54"), looks := false }, kinds := [], alts := [], laidByText := true, laidKinds := [.data], laidTests := true, laidLooks := .later }
def LeaseNeedsHearingUptoCardSaid : Prop := Claim7.holds Tryd.pinned (.plain (OpenSpec.upto leaseNeedsHearingSpec)) leaseNeedsHearingUptoCard
end Rows
end Go.Proofs.YteblnmhaohbkkaaDoor
