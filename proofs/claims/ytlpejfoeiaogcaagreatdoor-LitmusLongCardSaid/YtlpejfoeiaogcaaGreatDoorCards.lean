/-
  DERIVED. GIVEN WITH THE SEED: THE CARDS: each row of YtlpejfoeiaogcaaGreatDoorRows.lean that lists a variable, with what it lists TIED to the program's text (the seventh form; the later family's looks); each row that meets fmt, with fmt's text TOLD by the authors' own Lean function (tested against real Go, not proved from fmt's source: count such statements apart). THE CARD IS WHAT COUNTS. Prove the row's statement (the work); the ties are given (YtlpejfoeiaogcaaGreatDoorTie.lean); close each card by the builder's one call (the guide's Derived/Test/ToyasCard.lean, 'card_holds'). Laid BY PROGRAM, IN A SANDBOX (cutbox-door.mjs). By AI agents, Wed Nov 11 2026. No macro, syntax, notation, axiom, sorry.
-/
import Derived.Test.YtlpejfoeiaogcaaGreatDoorRows
import GoSem.ClaimSeven
namespace Go.Proofs.YtlpejfoeiaogcaaGreatDoor
namespace Rows

/-- THE TIED CARD OF 'granulelaw12.LitmusLong'. -/
def litmusLongCard : Claim7 := { stood := { row := litmusLongRow, standIns := [], harness := (true, "87b17fecb82eeb4b7dc6b9c37365e243be36fd485dc12a437a736a3a58848a2a"), looks := false }, kinds := [], alts := [], laidByText := true, laidKinds := [.data, .data, .data, .data, .data, .data, .data, .data, .data, .data, .pinned], laidTests := true, laidLooks := .later }
def LitmusLongCardSaid : Prop := Claim7.holds Tryz.pinned (.plain (OpenSpec.ofChange litmusLongSpec)) litmusLongCard

/-- THE SECOND FORM's CARD OF 'granulelaw12.LitmusLong'. -/
def litmusLongUptoCard : Claim7 := { stood := { row := litmusLongUptoRow, standIns := [], harness := (true, "87b17fecb82eeb4b7dc6b9c37365e243be36fd485dc12a437a736a3a58848a2a"), looks := false }, kinds := [], alts := [], laidByText := true, laidKinds := [.data, .data, .data, .data, .data, .data, .data, .data, .data, .data, .pinned], laidTests := true, laidLooks := .later }
def LitmusLongUptoCardSaid : Prop := Claim7.holds Tryz.pinned (.plain (OpenSpec.upto litmusLongSpec)) litmusLongUptoCard
end Rows
end Go.Proofs.YtlpejfoeiaogcaaGreatDoor
