/-
  DERIVED. GIVEN WITH THE SEED: THE CARDS: each row of YtpiponkhhimaoaaGreatDoorRows.lean that lists a variable, with what it lists TIED to the program's text (the seventh form; the later family's looks); each row that meets fmt, with fmt's text TOLD by the authors' own Lean function (tested against real Go, not proved from fmt's source: count such statements apart). THE CARD IS WHAT COUNTS. Prove the row's statement (the work); the ties are given (YtpiponkhhimaoaaGreatDoorTie.lean); close each card by the builder's one call (the guide's Derived/Test/ToyasCard.lean, 'card_holds'). Laid BY PROGRAM, IN A SANDBOX (cutbox-door.mjs). By AI agents, Wed Nov 11 2026. No macro, syntax, notation, axiom, sorry.
-/
import Derived.Test.YtpiponkhhimaoaaGreatDoorRows
import GoSem.ClaimSeven
namespace Go.Proofs.YtpiponkhhimaoaaGreatDoor
namespace Rows

/-- THE TIED CARD OF 'layerslaw.Stores'. -/
def storesCard : Claim7 := { stood := { row := storesRow, standIns := [], harness := (true, "7d2239fcbe1a9d198e4fe310790552f18f3393dceaf4f14090bff2e11f9a080a"), looks := true }, kinds := [], alts := [], laidByText := true, laidKinds := [.handle, .data], laidTests := true, laidLooks := .later }
def StoresCardSaid : Prop := Claim7.holds Tryz.pinned (.plain (OpenSpec.ofChange storesSpec)) storesCard

/-- THE SECOND FORM's CARD OF 'layerslaw.Stores'. -/
def storesUptoCard : Claim7 := { stood := { row := storesUptoRow, standIns := [], harness := (true, "7d2239fcbe1a9d198e4fe310790552f18f3393dceaf4f14090bff2e11f9a080a"), looks := true }, kinds := [], alts := [], laidByText := true, laidKinds := [.handle, .data], laidTests := true, laidLooks := .later }
def StoresUptoCardSaid : Prop := Claim7.holds Tryz.pinned (.plain (OpenSpec.upto storesSpec)) storesUptoCard
end Rows
end Go.Proofs.YtpiponkhhimaoaaGreatDoor
