/-
  DERIVED. GIVEN WITH THE SEED: THE CARDS: each row of YtlamfdmacalggaaGreatDoorRows.lean that lists a variable, with what it lists TIED to the program's text (the seventh form; the later family's looks); each row that meets fmt, with fmt's text TOLD by the authors' own Lean function (tested against real Go, not proved from fmt's source: count such statements apart). THE CARD IS WHAT COUNTS. Prove the row's statement (the work); the ties are given (YtlamfdmacalggaaGreatDoorTie.lean); close each card by the builder's one call (the guide's Derived/Test/ToyasCard.lean, 'card_holds'). Laid BY PROGRAM, IN A SANDBOX (cutbox-door.mjs). By AI agents, Wed Nov 11 2026. No macro, syntax, notation, axiom, sorry.
-/
import Derived.Test.YtlamfdmacalggaaGreatDoorRows
import GoSem.ClaimSeven
namespace Go.Proofs.YtlamfdmacalggaaGreatDoor
namespace Rows

/-- THE TIED CARD OF 'layerslaw.Sums'. -/
def sumsCard : Claim7 := { stood := { row := sumsRow, standIns := [], harness := (true, "6e9f64a941fa8e8a3f7d823a6001653919594f3dd07fb0994620c8b19263c212"), looks := true }, kinds := [], alts := [], laidByText := true, laidKinds := [.data, .data, .data, .data, .handle, .data, .pinned], laidTests := true, laidLooks := .later }
def SumsCardSaid : Prop := Claim7.holds Tryz.pinned (.plain (OpenSpec.ofChange sumsSpec)) sumsCard

/-- THE TIED CARD OF 'layerslaw.Diffs'. -/
def diffsCard : Claim7 := { stood := { row := diffsRow, standIns := [], harness := (true, "6e9f64a941fa8e8a3f7d823a6001653919594f3dd07fb0994620c8b19263c212"), looks := true }, kinds := [], alts := [], laidByText := true, laidKinds := [.data, .handle, .pinned], laidTests := true, laidLooks := .later }
def DiffsCardSaid : Prop := Claim7.holds Tryz.pinned (.plain (OpenSpec.ofChange diffsSpec)) diffsCard

/-- THE TIED CARD OF 'layerslaw.Patches'. -/
def patchesCard : Claim7 := { stood := { row := patchesRow, standIns := [], harness := (true, "6e9f64a941fa8e8a3f7d823a6001653919594f3dd07fb0994620c8b19263c212"), looks := true }, kinds := [], alts := [], laidByText := true, laidKinds := [.data, .handle, .pinned], laidTests := true, laidLooks := .later }
def PatchesCardSaid : Prop := Claim7.holds Tryz.pinned (.plain (OpenSpec.ofChange patchesSpec)) patchesCard

/-- THE SECOND FORM's CARD OF 'layerslaw.Sums'. -/
def sumsUptoCard : Claim7 := { stood := { row := sumsUptoRow, standIns := [], harness := (true, "6e9f64a941fa8e8a3f7d823a6001653919594f3dd07fb0994620c8b19263c212"), looks := true }, kinds := [], alts := [], laidByText := true, laidKinds := [.data, .data, .data, .data, .handle, .data, .pinned], laidTests := true, laidLooks := .later }
def SumsUptoCardSaid : Prop := Claim7.holds Tryz.pinned (.plain (OpenSpec.upto sumsSpec)) sumsUptoCard

/-- THE SECOND FORM's CARD OF 'layerslaw.Diffs'. -/
def diffsUptoCard : Claim7 := { stood := { row := diffsUptoRow, standIns := [], harness := (true, "6e9f64a941fa8e8a3f7d823a6001653919594f3dd07fb0994620c8b19263c212"), looks := true }, kinds := [], alts := [], laidByText := true, laidKinds := [.data, .handle, .pinned], laidTests := true, laidLooks := .later }
def DiffsUptoCardSaid : Prop := Claim7.holds Tryz.pinned (.plain (OpenSpec.upto diffsSpec)) diffsUptoCard

/-- THE SECOND FORM's CARD OF 'layerslaw.Patches'. -/
def patchesUptoCard : Claim7 := { stood := { row := patchesUptoRow, standIns := [], harness := (true, "6e9f64a941fa8e8a3f7d823a6001653919594f3dd07fb0994620c8b19263c212"), looks := true }, kinds := [], alts := [], laidByText := true, laidKinds := [.data, .handle, .pinned], laidTests := true, laidLooks := .later }
def PatchesUptoCardSaid : Prop := Claim7.holds Tryz.pinned (.plain (OpenSpec.upto patchesSpec)) patchesUptoCard
end Rows
end Go.Proofs.YtlamfdmacalggaaGreatDoor
