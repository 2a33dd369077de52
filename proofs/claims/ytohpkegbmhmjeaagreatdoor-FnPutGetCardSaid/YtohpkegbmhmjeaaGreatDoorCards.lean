/-
  DERIVED. GIVEN WITH THE SEED: THE CARDS: each row of YtohpkegbmhmjeaaGreatDoorRows.lean that lists a variable, with what it lists TIED to the program's text (the seventh form; the later family's looks); each row that meets fmt, with fmt's text TOLD by the authors' own Lean function (tested against real Go, not proved from fmt's source: count such statements apart). THE CARD IS WHAT COUNTS. Prove the row's statement (the work); the ties are given (YtohpkegbmhmjeaaGreatDoorTie.lean); close each card by the builder's one call (the guide's Derived/Test/ToyasCard.lean, 'card_holds'). Laid BY PROGRAM, IN A SANDBOX (cutbox-door.mjs). By AI agents, Wed Nov 11 2026. No macro, syntax, notation, axiom, sorry.
-/
import Derived.Test.YtohpkegbmhmjeaaGreatDoorRows
import GoSem.ClaimSeven
namespace Go.Proofs.YtohpkegbmhmjeaaGreatDoor
namespace Rows

/-- THE TIED CARD OF 'laws.FnPutGet'. -/
def fnPutGetCard : Claim7 := { stood := { row := fnPutGetRow, standIns := [], harness := (true, "ad0197d458da48bd30e02851878ccddd86a669f2e9d1c1293ef615e8ece49b18"), looks := true }, kinds := [], alts := [], laidByText := true, laidKinds := [.data, .data, .data], laidTests := true, laidLooks := .later }
def FnPutGetCardSaid : Prop := Claim7.holds Tryz.pinned (.plain (OpenSpec.ofChange fnPutGetSpec)) fnPutGetCard

/-- THE TIED CARD OF 'laws.FnFolds'. -/
def fnFoldsCard : Claim7 := { stood := { row := fnFoldsRow, standIns := [], harness := (true, "ad0197d458da48bd30e02851878ccddd86a669f2e9d1c1293ef615e8ece49b18"), looks := true }, kinds := [], alts := [], laidByText := true, laidKinds := [.data, .data, .data], laidTests := true, laidLooks := .later }
def FnFoldsCardSaid : Prop := Claim7.holds Tryz.pinned (.plain (OpenSpec.ofChange fnFoldsSpec)) fnFoldsCard

/-- THE SECOND FORM's CARD OF 'laws.FnPutGet'. -/
def fnPutGetUptoCard : Claim7 := { stood := { row := fnPutGetUptoRow, standIns := [], harness := (true, "ad0197d458da48bd30e02851878ccddd86a669f2e9d1c1293ef615e8ece49b18"), looks := true }, kinds := [], alts := [], laidByText := true, laidKinds := [.data, .data, .data], laidTests := true, laidLooks := .later }
def FnPutGetUptoCardSaid : Prop := Claim7.holds Tryz.pinned (.plain (OpenSpec.upto fnPutGetSpec)) fnPutGetUptoCard

/-- THE SECOND FORM's CARD OF 'laws.FnFolds'. -/
def fnFoldsUptoCard : Claim7 := { stood := { row := fnFoldsUptoRow, standIns := [], harness := (true, "ad0197d458da48bd30e02851878ccddd86a669f2e9d1c1293ef615e8ece49b18"), looks := true }, kinds := [], alts := [], laidByText := true, laidKinds := [.data, .data, .data], laidTests := true, laidLooks := .later }
def FnFoldsUptoCardSaid : Prop := Claim7.holds Tryz.pinned (.plain (OpenSpec.upto fnFoldsSpec)) fnFoldsUptoCard
end Rows
end Go.Proofs.YtohpkegbmhmjeaaGreatDoor
