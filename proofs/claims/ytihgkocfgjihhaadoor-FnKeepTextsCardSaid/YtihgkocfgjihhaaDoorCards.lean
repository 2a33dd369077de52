/-
  DERIVED. GIVEN WITH THE SEED: THE CARDS: each row of YtihgkocfgjihhaaDoorRows.lean that lists a variable, with what it lists TIED to the program's text (the seventh form; the later family's looks); each row that meets fmt, with fmt's text TOLD by the authors' own Lean function (tested against real Go, not proved from fmt's source: count such statements apart). THE CARD IS WHAT COUNTS. Prove the row's statement (the work); the ties are given (YtihgkocfgjihhaaDoorTie.lean); close each card by the builder's one call (the guide's Derived/Test/ToyasCard.lean, 'card_holds'). Laid BY PROGRAM, IN A SANDBOX (cutbox-door.mjs). By AI agents, Wed Nov 11 2026. No macro, syntax, notation, axiom, sorry.
-/
import Derived.Test.YtihgkocfgjihhaaDoorRows
import GoSem.ClaimSeven
namespace Go.Proofs.YtihgkocfgjihhaaDoor
namespace Rows

/-- THE TIED CARD OF 'laws.FnKeepTexts'. -/
def fnKeepTextsCard : Claim7 := { stood := { row := fnKeepTextsRow, standIns := [], harness := (true, "66169a76a06cde1de1e3d0a9530631bad1988c1df9e4eb702e4e1ca42b01cd89"), looks := true }, kinds := [], alts := [], laidByText := true, laidKinds := [.sentinel], laidTests := true, laidLooks := .later }
def FnKeepTextsCardSaid : Prop := Claim7.holds Tryd.pinned (.plain (OpenSpec.ofChange fnKeepTextsSpec)) fnKeepTextsCard

/-- THE SECOND FORM's CARD OF 'laws.FnKeepTexts'. -/
def fnKeepTextsUptoCard : Claim7 := { stood := { row := fnKeepTextsUptoRow, standIns := [], harness := (true, "66169a76a06cde1de1e3d0a9530631bad1988c1df9e4eb702e4e1ca42b01cd89"), looks := true }, kinds := [], alts := [], laidByText := true, laidKinds := [.sentinel], laidTests := true, laidLooks := .later }
def FnKeepTextsUptoCardSaid : Prop := Claim7.holds Tryd.pinned (.plain (OpenSpec.upto fnKeepTextsSpec)) fnKeepTextsUptoCard
end Rows
end Go.Proofs.YtihgkocfgjihhaaDoor
