/-
  DERIVED. GIVEN WITH THE SEED: THE CARDS: each row of YtlflknfkenfpiaaGreatDoorRows.lean that lists a variable, with what it lists TIED to the program's text (the seventh form; the later family's looks); each row that meets fmt, with fmt's text TOLD by the authors' own Lean function (tested against real Go, not proved from fmt's source: count such statements apart). THE CARD IS WHAT COUNTS. Prove the row's statement (the work); the ties are given (YtlflknfkenfpiaaGreatDoorTie.lean); close each card by the builder's one call (the guide's Derived/Test/ToyasCard.lean, 'card_holds'). Laid BY PROGRAM, IN A SANDBOX (cutbox-door.mjs). By AI agents, Wed Nov 11 2026. No macro, syntax, notation, axiom, sorry.
-/
import Derived.Test.YtlflknfkenfpiaaGreatDoorRows
import GoSem.ClaimSeven
namespace Go.Proofs.YtlflknfkenfpiaaGreatDoor
namespace Rows

/-- THE TIED CARD OF 'granulelaw13.ProperChecks'. -/
def properChecksCard : Claim7 := { stood := { row := properChecksRow, standIns := [], harness := (true, "5cd39cb564e6a530d63de1a2c3eddf62c2e34c42c9c3fc143a31284fb3d09080"), looks := false }, kinds := [], alts := [], laidByText := true, laidKinds := [.data, .data, .data, .data, .data, .data, .data, .data, .data, .data, .pinned], laidTests := true, laidLooks := .later }
def ProperChecksCardSaid : Prop := Claim7.holds Tryz.pinned (.plain (OpenSpec.ofChange properChecksSpec)) properChecksCard

/-- THE SECOND FORM's CARD OF 'granulelaw13.ProperChecks'. -/
def properChecksUptoCard : Claim7 := { stood := { row := properChecksUptoRow, standIns := [], harness := (true, "5cd39cb564e6a530d63de1a2c3eddf62c2e34c42c9c3fc143a31284fb3d09080"), looks := false }, kinds := [], alts := [], laidByText := true, laidKinds := [.data, .data, .data, .data, .data, .data, .data, .data, .data, .data, .pinned], laidTests := true, laidLooks := .later }
def ProperChecksUptoCardSaid : Prop := Claim7.holds Tryz.pinned (.plain (OpenSpec.upto properChecksSpec)) properChecksUptoCard
end Rows
end Go.Proofs.YtlflknfkenfpiaaGreatDoor
