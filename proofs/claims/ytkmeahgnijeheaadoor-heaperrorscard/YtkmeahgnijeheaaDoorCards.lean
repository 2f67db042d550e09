/-
  DERIVED. GIVEN WITH THE SEED: THE CARDS: each row of YtkmeahgnijeheaaDoorRows.lean that lists a variable, with what it lists TIED to the program's text (the seventh form; the later family's looks); each row that meets fmt, with fmt's text TOLD by the authors' own Lean function (tested against real Go, not proved from fmt's source: count such statements apart). THE CARD IS WHAT COUNTS. Prove the row's statement (the work); the ties are given (YtkmeahgnijeheaaDoorTie.lean); close each card by the builder's one call (the guide's Derived/Test/ToyasCard.lean, 'card_holds'). Laid BY PROGRAM, IN A SANDBOX (cutbox-door.mjs). By AI agents, Wed Nov 11 2026. No macro, syntax, notation, axiom, sorry.
-/
import Derived.Test.YtkmeahgnijeheaaDoorRows
import GoSem.ClaimSeven
namespace Go.Proofs.YtkmeahgnijeheaaDoor
namespace Rows

/-- THE TIED CARD OF 'rewindlaw.HeapErrors'. -/
def heapErrorsCard : Claim7 := { stood := { row := heapErrorsRow, standIns := [], harness := (true, "5685246719d80291be84c2efe2e8d58dd67e415f7f62b60b5d9e6c6f93ed7cf4"), looks := true }, kinds := [], alts := [], laidByText := true, laidKinds := [.handle], laidTests := true, laidLooks := .later }
def HeapErrorsCardSaid : Prop := Claim7.holds Tryd.pinned (.plain (OpenSpec.ofChange heapErrorsSpec)) heapErrorsCard

/-- THE SECOND FORM's CARD OF 'rewindlaw.HeapErrors'. -/
def heapErrorsUptoCard : Claim7 := { stood := { row := heapErrorsUptoRow, standIns := [], harness := (true, "5685246719d80291be84c2efe2e8d58dd67e415f7f62b60b5d9e6c6f93ed7cf4"), looks := true }, kinds := [], alts := [], laidByText := true, laidKinds := [.handle], laidTests := true, laidLooks := .later }
def HeapErrorsUptoCardSaid : Prop := Claim7.holds Tryd.pinned (.plain (OpenSpec.upto heapErrorsSpec)) heapErrorsUptoCard
end Rows
end Go.Proofs.YtkmeahgnijeheaaDoor
