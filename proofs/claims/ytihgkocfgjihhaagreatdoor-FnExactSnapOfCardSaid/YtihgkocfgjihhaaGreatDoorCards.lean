/-
  DERIVED. GIVEN WITH THE SEED: THE CARDS: each row of YtihgkocfgjihhaaGreatDoorRows.lean that lists a variable, with what it lists TIED to the program's text (the seventh form; the later family's looks); each row that meets fmt, with fmt's text TOLD by the authors' own Lean function (tested against real Go, not proved from fmt's source: count such statements apart). THE CARD IS WHAT COUNTS. Prove the row's statement (the work); the ties are given (YtihgkocfgjihhaaGreatDoorTie.lean); close each card by the builder's one call (the guide's Derived/Test/ToyasCard.lean, 'card_holds'). Laid BY PROGRAM, IN A SANDBOX (cutbox-door.mjs). By AI agents, Wed Nov 11 2026. No macro, syntax, notation, axiom, sorry.
-/
import Derived.Test.YtihgkocfgjihhaaGreatDoorRows
import GoSem.ClaimSeven
namespace Go.Proofs.YtihgkocfgjihhaaGreatDoor
namespace Rows

/-- THE TIED CARD OF 'laws.FnExactFormatDisk'. -/
def fnExactFormatDiskCard : Claim7 := { stood := { row := fnExactFormatDiskRow, standIns := [], harness := (true, "192ed9bce81f08fd5affaaf099c3a56060776c4e912a097f5f53d0bc5501565e"), looks := true }, kinds := [], alts := [], laidByText := true, laidKinds := [.data, .data, .data, .sentinel, .data], laidTests := true, laidLooks := .later }
def FnExactFormatDiskCardSaid : Prop := Claim7.holds Tryz.pinned (.plain (OpenSpec.ofChange fnExactFormatDiskSpec)) fnExactFormatDiskCard

/-- THE TIED CARD OF 'laws.FnExactSnapOf'. -/
def fnExactSnapOfCard : Claim7 := { stood := { row := fnExactSnapOfRow, standIns := [], harness := (true, "192ed9bce81f08fd5affaaf099c3a56060776c4e912a097f5f53d0bc5501565e"), looks := true }, kinds := [], alts := [], laidByText := true, laidKinds := [.data], laidTests := true, laidLooks := .later }
def FnExactSnapOfCardSaid : Prop := Claim7.holds Tryz.pinned (.plain (OpenSpec.ofChange fnExactSnapOfSpec)) fnExactSnapOfCard

/-- THE SECOND FORM's CARD OF 'laws.FnExactFormatDisk'. -/
def fnExactFormatDiskUptoCard : Claim7 := { stood := { row := fnExactFormatDiskUptoRow, standIns := [], harness := (true, "192ed9bce81f08fd5affaaf099c3a56060776c4e912a097f5f53d0bc5501565e"), looks := true }, kinds := [], alts := [], laidByText := true, laidKinds := [.data, .data, .data, .sentinel, .data], laidTests := true, laidLooks := .later }
def FnExactFormatDiskUptoCardSaid : Prop := Claim7.holds Tryz.pinned (.plain (OpenSpec.upto fnExactFormatDiskSpec)) fnExactFormatDiskUptoCard

/-- THE SECOND FORM's CARD OF 'laws.FnExactSnapOf'. -/
def fnExactSnapOfUptoCard : Claim7 := { stood := { row := fnExactSnapOfUptoRow, standIns := [], harness := (true, "192ed9bce81f08fd5affaaf099c3a56060776c4e912a097f5f53d0bc5501565e"), looks := true }, kinds := [], alts := [], laidByText := true, laidKinds := [.data], laidTests := true, laidLooks := .later }
def FnExactSnapOfUptoCardSaid : Prop := Claim7.holds Tryz.pinned (.plain (OpenSpec.upto fnExactSnapOfSpec)) fnExactSnapOfUptoCard
end Rows
end Go.Proofs.YtihgkocfgjihhaaGreatDoor
