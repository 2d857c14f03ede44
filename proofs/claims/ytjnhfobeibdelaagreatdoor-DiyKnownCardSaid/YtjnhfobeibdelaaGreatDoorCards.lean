/-
  DERIVED. GIVEN WITH THE SEED: THE CARDS: each row of YtjnhfobeibdelaaGreatDoorRows.lean that lists a variable, with what it lists TIED to the program's text (the seventh form; the later family's looks); each row that meets fmt, with fmt's text TOLD by the authors' own Lean function (tested against real Go, not proved from fmt's source: count such statements apart). THE CARD IS WHAT COUNTS. Prove the row's statement (the work); the ties are given (YtjnhfobeibdelaaGreatDoorTie.lean); close each card by the builder's one call (the guide's Derived/Test/ToyasCard.lean, 'card_holds'). Laid BY PROGRAM, IN A SANDBOX (cutbox-door.mjs). By AI agents, Wed Nov 11 2026. No macro, syntax, notation, axiom, sorry.
-/
import Derived.Test.YtjnhfobeibdelaaGreatDoorRows
import GoSem.ClaimSeven
namespace Go.Proofs.YtjnhfobeibdelaaGreatDoor
namespace Rows

/-- THE TIED CARD OF 'granulelaw24.DiyReads'. -/
def diyReadsCard : Claim7 := { stood := { row := diyReadsRow, standIns := [], harness := (true, "0db4115e6184e887ba51d2dfd0dd67fc1de9ba602a19438a6df924f521491144"), looks := false }, kinds := [], alts := [], laidByText := true, laidKinds := [.data, .data, .data, .listed, .data, .data], laidTests := true, laidLooks := .later }
def DiyReadsCardSaid : Prop := Claim7.holds Tryz.pinned (.plain (OpenSpec.ofChange diyReadsSpec)) diyReadsCard

/-- THE TIED CARD OF 'granulelaw24.DiyMakes'. -/
def diyMakesCard : Claim7 := { stood := { row := diyMakesRow, standIns := [], harness := (true, "0db4115e6184e887ba51d2dfd0dd67fc1de9ba602a19438a6df924f521491144"), looks := false }, kinds := [], alts := [], laidByText := true, laidKinds := [.data, .data, .data, .listed, .data, .data], laidTests := true, laidLooks := .later }
def DiyMakesCardSaid : Prop := Claim7.holds Tryz.pinned (.plain (OpenSpec.ofChange diyMakesSpec)) diyMakesCard

/-- THE TIED CARD OF 'granulelaw24.DiyKnown'. -/
def diyKnownCard : Claim7 := { stood := { row := diyKnownRow, standIns := [], harness := (true, "0db4115e6184e887ba51d2dfd0dd67fc1de9ba602a19438a6df924f521491144"), looks := false }, kinds := [], alts := [], laidByText := true, laidKinds := [.data, .data, .data, .listed, .data, .data], laidTests := true, laidLooks := .later }
def DiyKnownCardSaid : Prop := Claim7.holds Tryz.pinned (.plain (OpenSpec.ofChange diyKnownSpec)) diyKnownCard

/-- THE SECOND FORM's CARD OF 'granulelaw24.DiyReads'. -/
def diyReadsUptoCard : Claim7 := { stood := { row := diyReadsUptoRow, standIns := [], harness := (true, "0db4115e6184e887ba51d2dfd0dd67fc1de9ba602a19438a6df924f521491144"), looks := false }, kinds := [], alts := [], laidByText := true, laidKinds := [.data, .data, .data, .listed, .data, .data], laidTests := true, laidLooks := .later }
def DiyReadsUptoCardSaid : Prop := Claim7.holds Tryz.pinned (.plain (OpenSpec.upto diyReadsSpec)) diyReadsUptoCard

/-- THE SECOND FORM's CARD OF 'granulelaw24.DiyMakes'. -/
def diyMakesUptoCard : Claim7 := { stood := { row := diyMakesUptoRow, standIns := [], harness := (true, "0db4115e6184e887ba51d2dfd0dd67fc1de9ba602a19438a6df924f521491144"), looks := false }, kinds := [], alts := [], laidByText := true, laidKinds := [.data, .data, .data, .listed, .data, .data], laidTests := true, laidLooks := .later }
def DiyMakesUptoCardSaid : Prop := Claim7.holds Tryz.pinned (.plain (OpenSpec.upto diyMakesSpec)) diyMakesUptoCard

/-- THE SECOND FORM's CARD OF 'granulelaw24.DiyKnown'. -/
def diyKnownUptoCard : Claim7 := { stood := { row := diyKnownUptoRow, standIns := [], harness := (true, "0db4115e6184e887ba51d2dfd0dd67fc1de9ba602a19438a6df924f521491144"), looks := false }, kinds := [], alts := [], laidByText := true, laidKinds := [.data, .data, .data, .listed, .data, .data], laidTests := true, laidLooks := .later }
def DiyKnownUptoCardSaid : Prop := Claim7.holds Tryz.pinned (.plain (OpenSpec.upto diyKnownSpec)) diyKnownUptoCard
end Rows
end Go.Proofs.YtjnhfobeibdelaaGreatDoor
