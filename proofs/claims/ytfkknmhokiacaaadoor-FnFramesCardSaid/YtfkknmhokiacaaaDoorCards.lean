/-
  DERIVED. GIVEN WITH THE SEED: THE CARDS: each row of YtfkknmhokiacaaaDoorRows.lean that lists a variable, with what it lists TIED to the program's text (the seventh form; the later family's looks); each row that meets fmt, with fmt's text TOLD by the authors' own Lean function (tested against real Go, not proved from fmt's source: count such statements apart). THE CARD IS WHAT COUNTS. Prove the row's statement (the work); the ties are given (YtfkknmhokiacaaaDoorTie.lean); close each card by the builder's one call (the guide's Derived/Test/ToyasCard.lean, 'card_holds'). Laid BY PROGRAM, IN A SANDBOX (cutbox-door.mjs). By AI agents, Wed Nov 11 2026. No macro, syntax, notation, axiom, sorry.
-/
import Derived.Test.YtfkknmhokiacaaaDoorRows
import GoSem.ClaimSeven
namespace Go.Proofs.YtfkknmhokiacaaaDoor
namespace Rows

/-- THE TIED CARD OF 'laws.FnFrames'. -/
def fnFramesCard : Claim7 := { stood := { row := fnFramesRow, standIns := [], harness := (true, "439bacb3f05faac6da29b58441b02060bafa170b60075b5d4d15c32aeabed99f"), looks := false }, kinds := [], alts := [], laidByText := true, laidKinds := [.data], laidTests := true, laidLooks := .later }
def FnFramesCardSaid : Prop := Claim7.holds Tryd.pinned (.plain (OpenSpec.ofChange fnFramesSpec)) fnFramesCard

/-- THE TIED CARD OF 'laws.FnExactFrame'. -/
def fnExactFrameCard : Claim7 := { stood := { row := fnExactFrameRow, standIns := [], harness := (true, "439bacb3f05faac6da29b58441b02060bafa170b60075b5d4d15c32aeabed99f"), looks := false }, kinds := [], alts := [], laidByText := true, laidKinds := [.data], laidTests := true, laidLooks := .later }
def FnExactFrameCardSaid : Prop := Claim7.holds Tryd.pinned (.plain (OpenSpec.ofChange fnExactFrameSpec)) fnExactFrameCard

/-- THE SECOND FORM's CARD OF 'laws.FnFrames'. -/
def fnFramesUptoCard : Claim7 := { stood := { row := fnFramesUptoRow, standIns := [], harness := (true, "439bacb3f05faac6da29b58441b02060bafa170b60075b5d4d15c32aeabed99f"), looks := false }, kinds := [], alts := [], laidByText := true, laidKinds := [.data], laidTests := true, laidLooks := .later }
def FnFramesUptoCardSaid : Prop := Claim7.holds Tryd.pinned (.plain (OpenSpec.upto fnFramesSpec)) fnFramesUptoCard

/-- THE SECOND FORM's CARD OF 'laws.FnExactFrame'. -/
def fnExactFrameUptoCard : Claim7 := { stood := { row := fnExactFrameUptoRow, standIns := [], harness := (true, "439bacb3f05faac6da29b58441b02060bafa170b60075b5d4d15c32aeabed99f"), looks := false }, kinds := [], alts := [], laidByText := true, laidKinds := [.data], laidTests := true, laidLooks := .later }
def FnExactFrameUptoCardSaid : Prop := Claim7.holds Tryd.pinned (.plain (OpenSpec.upto fnExactFrameSpec)) fnExactFrameUptoCard
end Rows
end Go.Proofs.YtfkknmhokiacaaaDoor
