/-
  DERIVED. GIVEN WITH THE SEED: THE CARDS: each row of YtcbgcjkcfolcoaaDoorRows.lean that lists a variable, with what it lists TIED to the program's text (the seventh form; the later family's looks); each row that meets fmt, with fmt's text TOLD by the authors' own Lean function (tested against real Go, not proved from fmt's source: count such statements apart). THE CARD IS WHAT COUNTS. Prove the row's statement (the work); the ties are given (YtcbgcjkcfolcoaaDoorTie.lean); close each card by the builder's one call (the guide's Derived/Test/ToyasCard.lean, 'card_holds'). Laid BY PROGRAM, IN A SANDBOX (cutbox-door.mjs). By AI agents, Wed Nov 11 2026. No macro, syntax, notation, axiom, sorry.
-/
import Derived.Test.YtcbgcjkcfolcoaaDoorRows
import GoSem.ClaimSeven
namespace Go.Proofs.YtcbgcjkcfolcoaaDoor
namespace Rows

/-- THE TIED CARD OF 'rewindlaw.VmNews'. -/
def vmNewsCard : Claim7 := { stood := { row := vmNewsRow, standIns := [], harness := (true, "3d815a76b3043e1a72105d7438bc89bfc0fc74d38aa696551e7d261e820e321c"), looks := true }, kinds := [], alts := [], laidByText := true, laidKinds := [.handle, .data], laidTests := true, laidLooks := .later }
def VmNewsCardSaid : Prop := Claim7.holds Tryd.pinned (.plain (OpenSpec.ofChange vmNewsSpec)) vmNewsCard

/-- THE SECOND FORM's CARD OF 'rewindlaw.VmNews'. -/
def vmNewsUptoCard : Claim7 := { stood := { row := vmNewsUptoRow, standIns := [], harness := (true, "3d815a76b3043e1a72105d7438bc89bfc0fc74d38aa696551e7d261e820e321c"), looks := true }, kinds := [], alts := [], laidByText := true, laidKinds := [.handle, .data], laidTests := true, laidLooks := .later }
def VmNewsUptoCardSaid : Prop := Claim7.holds Tryd.pinned (.plain (OpenSpec.upto vmNewsSpec)) vmNewsUptoCard
end Rows
end Go.Proofs.YtcbgcjkcfolcoaaDoor
