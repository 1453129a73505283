/-
  DERIVED. GIVEN WITH THE SEED: THE CARDS: each row of YtdhnmilifbobiaaDoorRows.lean that lists a variable, with what it lists TIED to the program's text (the seventh form; the later family's looks); each row that meets fmt, with fmt's text TOLD by the authors' own Lean function (tested against real Go, not proved from fmt's source: count such statements apart). THE CARD IS WHAT COUNTS. Prove the row's statement (the work); the ties are given (YtdhnmilifbobiaaDoorTie.lean); close each card by the builder's one call (the guide's Derived/Test/ToyasCard.lean, 'card_holds'). Laid BY PROGRAM, IN A SANDBOX (cutbox-door.mjs). By AI agents, Wed Nov 11 2026. No macro, syntax, notation, axiom, sorry.
-/
import Derived.Test.YtdhnmilifbobiaaDoorRows
import GoSem.ClaimSeven
namespace Go.Proofs.YtdhnmilifbobiaaDoor
namespace Rows

/-- THE TIED CARD OF 'layerslaw.Resolves'. -/
def resolvesCard : Claim7 := { stood := { row := resolvesRow, standIns := [], harness := (true, "5317a3586feea29badc34386d39bff273b4d828e37a6459350142305d14eb83b"), looks := true }, kinds := [], alts := [], laidByText := true, laidKinds := [.data, .handle, .pinned], laidTests := true, laidLooks := .later }
def ResolvesCardSaid : Prop := Claim7.holds Tryd.pinned (.plain (OpenSpec.ofChange resolvesSpec)) resolvesCard

/-- THE SECOND FORM's CARD OF 'layerslaw.Resolves'. -/
def resolvesUptoCard : Claim7 := { stood := { row := resolvesUptoRow, standIns := [], harness := (true, "5317a3586feea29badc34386d39bff273b4d828e37a6459350142305d14eb83b"), looks := true }, kinds := [], alts := [], laidByText := true, laidKinds := [.data, .handle, .pinned], laidTests := true, laidLooks := .later }
def ResolvesUptoCardSaid : Prop := Claim7.holds Tryd.pinned (.plain (OpenSpec.upto resolvesSpec)) resolvesUptoCard
end Rows
end Go.Proofs.YtdhnmilifbobiaaDoor
