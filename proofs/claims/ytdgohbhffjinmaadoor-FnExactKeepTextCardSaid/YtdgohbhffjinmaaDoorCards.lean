/-
  DERIVED. GIVEN WITH THE SEED: THE CARDS: each row of YtdgohbhffjinmaaDoorRows.lean that lists a variable, with what it lists TIED to the program's text (the seventh form; the later family's looks); each row that meets fmt, with fmt's text TOLD by the authors' own Lean function (tested against real Go, not proved from fmt's source: count such statements apart). THE CARD IS WHAT COUNTS. Prove the row's statement (the work); the ties are given (YtdgohbhffjinmaaDoorTie.lean); close each card by the builder's one call (the guide's Derived/Test/ToyasCard.lean, 'card_holds'). Laid BY PROGRAM, IN A SANDBOX (cutbox-door.mjs). By AI agents, Wed Nov 11 2026. No macro, syntax, notation, axiom, sorry.
-/
import Derived.Test.YtdgohbhffjinmaaDoorRows
import GoSem.ClaimSeven
namespace Go.Proofs.YtdgohbhffjinmaaDoor
namespace Rows

/-- THE TIED CARD OF 'laws.FnExactCommandText'. -/
def fnExactCommandTextCard : Claim7 := { stood := { row := fnExactCommandTextRow, standIns := [], harness := (true, "1f1a8b8b5d5fb506ada6f687379fec06bfea0999dce5c9f313ec9f19ed83627f"), looks := false }, kinds := [], alts := [], laidByText := true, laidKinds := [.sentinel], laidTests := true, laidLooks := .later }
def FnExactCommandTextCardSaid : Prop := Claim7.holds Tryd.pinned (.plain (OpenSpec.ofChange fnExactCommandTextSpec)) fnExactCommandTextCard

/-- THE TIED CARD OF 'laws.FnExactKeepText'. -/
def fnExactKeepTextCard : Claim7 := { stood := { row := fnExactKeepTextRow, standIns := [], harness := (true, "1f1a8b8b5d5fb506ada6f687379fec06bfea0999dce5c9f313ec9f19ed83627f"), looks := false }, kinds := [], alts := [], laidByText := true, laidKinds := [.sentinel], laidTests := true, laidLooks := .later }
def FnExactKeepTextCardSaid : Prop := Claim7.holds Tryd.pinned (.plain (OpenSpec.ofChange fnExactKeepTextSpec)) fnExactKeepTextCard

/-- THE SECOND FORM's CARD OF 'laws.FnExactCommandText'. -/
def fnExactCommandTextUptoCard : Claim7 := { stood := { row := fnExactCommandTextUptoRow, standIns := [], harness := (true, "1f1a8b8b5d5fb506ada6f687379fec06bfea0999dce5c9f313ec9f19ed83627f"), looks := false }, kinds := [], alts := [], laidByText := true, laidKinds := [.sentinel], laidTests := true, laidLooks := .later }
def FnExactCommandTextUptoCardSaid : Prop := Claim7.holds Tryd.pinned (.plain (OpenSpec.upto fnExactCommandTextSpec)) fnExactCommandTextUptoCard

/-- THE SECOND FORM's CARD OF 'laws.FnExactKeepText'. -/
def fnExactKeepTextUptoCard : Claim7 := { stood := { row := fnExactKeepTextUptoRow, standIns := [], harness := (true, "1f1a8b8b5d5fb506ada6f687379fec06bfea0999dce5c9f313ec9f19ed83627f"), looks := false }, kinds := [], alts := [], laidByText := true, laidKinds := [.sentinel], laidTests := true, laidLooks := .later }
def FnExactKeepTextUptoCardSaid : Prop := Claim7.holds Tryd.pinned (.plain (OpenSpec.upto fnExactKeepTextSpec)) fnExactKeepTextUptoCard
end Rows
end Go.Proofs.YtdgohbhffjinmaaDoor
