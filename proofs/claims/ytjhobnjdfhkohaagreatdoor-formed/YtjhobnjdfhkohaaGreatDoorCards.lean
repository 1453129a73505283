/-
  DERIVED. GIVEN WITH THE SEED: THE CARDS: each row of YtjhobnjdfhkohaaGreatDoorRows.lean that lists a variable, with what it lists TIED to the program's text (the seventh form; the later family's looks); each row that meets fmt, with fmt's text TOLD by the authors' own Lean function (tested against real Go, not proved from fmt's source: count such statements apart). THE CARD IS WHAT COUNTS. Prove the row's statement (the work); the ties are given (YtjhobnjdfhkohaaGreatDoorTie.lean); close each card by the builder's one call (the guide's Derived/Test/ToyasCard.lean, 'card_holds'). Laid BY PROGRAM, IN A SANDBOX (cutbox-door.mjs). By AI agents, Wed Nov 11 2026. No macro, syntax, notation, axiom, sorry.
-/
import Derived.Test.YtjhobnjdfhkohaaGreatDoorRows
import GoSem.ClaimSeven
namespace Go.Proofs.YtjhobnjdfhkohaaGreatDoor
namespace Rows

/-- THE TIED CARD OF 'layerskeep.Formed'. -/
def formedCard : Claim7 := { stood := { row := formedRow, standIns := [], harness := (true, "c3f6d08924852f4a2aaa606edb03accfdbead1d76c27095bd04c6013245230cd"), looks := true }, kinds := [], alts := [], laidByText := true, laidKinds := [.data, .data, .data, .data, .handle, .sentinel, .sentinel, .data, .data, .data, .data, .data, .data, .data, .data, .data, .data, .data, .data, .data, .pinned], laidTests := true, laidLooks := .later }
def FormedCardSaid : Prop := Claim7.holds Tryz.pinned (.plain (OpenSpec.ofChange formedSpec)) formedCard

/-- THE SECOND FORM's CARD OF 'layerskeep.Formed'. -/
def formedUptoCard : Claim7 := { stood := { row := formedUptoRow, standIns := [], harness := (true, "c3f6d08924852f4a2aaa606edb03accfdbead1d76c27095bd04c6013245230cd"), looks := true }, kinds := [], alts := [], laidByText := true, laidKinds := [.data, .data, .data, .data, .handle, .sentinel, .sentinel, .data, .data, .data, .data, .data, .data, .data, .data, .data, .data, .data, .data, .data, .pinned], laidTests := true, laidLooks := .later }
def FormedUptoCardSaid : Prop := Claim7.holds Tryz.pinned (.plain (OpenSpec.upto formedSpec)) formedUptoCard
end Rows
end Go.Proofs.YtjhobnjdfhkohaaGreatDoor
