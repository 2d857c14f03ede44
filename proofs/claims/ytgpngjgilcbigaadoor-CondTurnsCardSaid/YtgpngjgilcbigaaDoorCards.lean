/-
  DERIVED. GIVEN WITH THE SEED: THE CARDS: each row of YtgpngjgilcbigaaDoorRows.lean that lists a variable, with what it lists TIED to the program's text (the seventh form; the later family's looks); each row that meets fmt, with fmt's text TOLD by the authors' own Lean function (tested against real Go, not proved from fmt's source: count such statements apart). THE CARD IS WHAT COUNTS. Prove the row's statement (the work); the ties are given (YtgpngjgilcbigaaDoorTie.lean); close each card by the builder's one call (the guide's Derived/Test/ToyasCard.lean, 'card_holds'). Laid BY PROGRAM, IN A SANDBOX (cutbox-door.mjs). By AI agents, Wed Nov 11 2026. No macro, syntax, notation, axiom, sorry.
-/
import Derived.Test.YtgpngjgilcbigaaDoorRows
import GoSem.ClaimSeven
namespace Go.Proofs.YtgpngjgilcbigaaDoor
namespace Rows

/-- THE TIED CARD OF 'granulelaw11.CondPrints'. -/
def condPrintsCard : Claim7 := { stood := { row := condPrintsRow, standIns := [], harness := (true, "2ffecb90355ebd3f3d605b1a792188cdec266fe89d81267d9c8c3b2ed2576c8e"), looks := false }, kinds := [], alts := [], laidByText := true, laidKinds := [.data, .data, .data], laidTests := true, laidLooks := .later }
def CondPrintsCardSaid : Prop := Claim7.holds Tryd.pinned (.plain (OpenSpec.ofChange condPrintsSpec)) condPrintsCard

/-- THE TIED CARD OF 'granulelaw11.CondRight'. -/
def condRightCard : Claim7 := { stood := { row := condRightRow, standIns := [], harness := (true, "2ffecb90355ebd3f3d605b1a792188cdec266fe89d81267d9c8c3b2ed2576c8e"), looks := false }, kinds := [], alts := [], laidByText := true, laidKinds := [.data, .data, .data], laidTests := true, laidLooks := .later }
def CondRightCardSaid : Prop := Claim7.holds Tryd.pinned (.plain (OpenSpec.ofChange condRightSpec)) condRightCard

/-- THE TIED CARD OF 'granulelaw11.CondHolds'. -/
def condHoldsCard : Claim7 := { stood := { row := condHoldsRow, standIns := [], harness := (true, "2ffecb90355ebd3f3d605b1a792188cdec266fe89d81267d9c8c3b2ed2576c8e"), looks := false }, kinds := [], alts := [], laidByText := true, laidKinds := [.data, .data, .data], laidTests := true, laidLooks := .later }
def CondHoldsCardSaid : Prop := Claim7.holds Tryd.pinned (.plain (OpenSpec.ofChange condHoldsSpec)) condHoldsCard

/-- THE TIED CARD OF 'granulelaw11.CondVerdicts'. -/
def condVerdictsCard : Claim7 := { stood := { row := condVerdictsRow, standIns := [], harness := (true, "2ffecb90355ebd3f3d605b1a792188cdec266fe89d81267d9c8c3b2ed2576c8e"), looks := false }, kinds := [], alts := [], laidByText := true, laidKinds := [.data, .data, .data], laidTests := true, laidLooks := .later }
def CondVerdictsCardSaid : Prop := Claim7.holds Tryd.pinned (.plain (OpenSpec.ofChange condVerdictsSpec)) condVerdictsCard

/-- THE TIED CARD OF 'granulelaw11.CondTurns'. -/
def condTurnsCard : Claim7 := { stood := { row := condTurnsRow, standIns := [], harness := (true, "2ffecb90355ebd3f3d605b1a792188cdec266fe89d81267d9c8c3b2ed2576c8e"), looks := false }, kinds := [], alts := [], laidByText := true, laidKinds := [.data, .data, .data], laidTests := true, laidLooks := .later }
def CondTurnsCardSaid : Prop := Claim7.holds Tryd.pinned (.plain (OpenSpec.ofChange condTurnsSpec)) condTurnsCard

/-- THE SECOND FORM's CARD OF 'granulelaw11.CondPrints'. -/
def condPrintsUptoCard : Claim7 := { stood := { row := condPrintsUptoRow, standIns := [], harness := (true, "2ffecb90355ebd3f3d605b1a792188cdec266fe89d81267d9c8c3b2ed2576c8e"), looks := false }, kinds := [], alts := [], laidByText := true, laidKinds := [.data, .data, .data], laidTests := true, laidLooks := .later }
def CondPrintsUptoCardSaid : Prop := Claim7.holds Tryd.pinned (.plain (OpenSpec.upto condPrintsSpec)) condPrintsUptoCard

/-- THE SECOND FORM's CARD OF 'granulelaw11.CondRight'. -/
def condRightUptoCard : Claim7 := { stood := { row := condRightUptoRow, standIns := [], harness := (true, "2ffecb90355ebd3f3d605b1a792188cdec266fe89d81267d9c8c3b2ed2576c8e"), looks := false }, kinds := [], alts := [], laidByText := true, laidKinds := [.data, .data, .data], laidTests := true, laidLooks := .later }
def CondRightUptoCardSaid : Prop := Claim7.holds Tryd.pinned (.plain (OpenSpec.upto condRightSpec)) condRightUptoCard

/-- THE SECOND FORM's CARD OF 'granulelaw11.CondHolds'. -/
def condHoldsUptoCard : Claim7 := { stood := { row := condHoldsUptoRow, standIns := [], harness := (true, "2ffecb90355ebd3f3d605b1a792188cdec266fe89d81267d9c8c3b2ed2576c8e"), looks := false }, kinds := [], alts := [], laidByText := true, laidKinds := [.data, .data, .data], laidTests := true, laidLooks := .later }
def CondHoldsUptoCardSaid : Prop := Claim7.holds Tryd.pinned (.plain (OpenSpec.upto condHoldsSpec)) condHoldsUptoCard

/-- THE SECOND FORM's CARD OF 'granulelaw11.CondVerdicts'. -/
def condVerdictsUptoCard : Claim7 := { stood := { row := condVerdictsUptoRow, standIns := [], harness := (true, "2ffecb90355ebd3f3d605b1a792188cdec266fe89d81267d9c8c3b2ed2576c8e"), looks := false }, kinds := [], alts := [], laidByText := true, laidKinds := [.data, .data, .data], laidTests := true, laidLooks := .later }
def CondVerdictsUptoCardSaid : Prop := Claim7.holds Tryd.pinned (.plain (OpenSpec.upto condVerdictsSpec)) condVerdictsUptoCard

/-- THE SECOND FORM's CARD OF 'granulelaw11.CondTurns'. -/
def condTurnsUptoCard : Claim7 := { stood := { row := condTurnsUptoRow, standIns := [], harness := (true, "2ffecb90355ebd3f3d605b1a792188cdec266fe89d81267d9c8c3b2ed2576c8e"), looks := false }, kinds := [], alts := [], laidByText := true, laidKinds := [.data, .data, .data], laidTests := true, laidLooks := .later }
def CondTurnsUptoCardSaid : Prop := Claim7.holds Tryd.pinned (.plain (OpenSpec.upto condTurnsSpec)) condTurnsUptoCard
end Rows
end Go.Proofs.YtgpngjgilcbigaaDoor
