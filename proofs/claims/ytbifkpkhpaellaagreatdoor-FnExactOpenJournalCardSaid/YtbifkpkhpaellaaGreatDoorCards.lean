/-
  DERIVED. GIVEN WITH THE SEED: THE CARDS: each row of YtbifkpkhpaellaaGreatDoorRows.lean that lists a variable, with what it lists TIED to the program's text (the seventh form; the later family's looks); each row that meets fmt, with fmt's text TOLD by the authors' own Lean function (tested against real Go, not proved from fmt's source: count such statements apart). THE CARD IS WHAT COUNTS. Prove the row's statement (the work); the ties are given (YtbifkpkhpaellaaGreatDoorTie.lean); close each card by the builder's one call (the guide's Derived/Test/ToyasCard.lean, 'card_holds'). Laid BY PROGRAM, IN A SANDBOX (cutbox-door.mjs). By AI agents, Wed Nov 11 2026. No macro, syntax, notation, axiom, sorry.
-/
import Derived.Test.YtbifkpkhpaellaaGreatDoorRows
import GoSem.ClaimSeven
namespace Go.Proofs.YtbifkpkhpaellaaGreatDoor
namespace Rows

/-- THE TIED CARD OF 'laws.FnExactOpenJournal'. -/
def fnExactOpenJournalCard : Claim7 := { stood := { row := fnExactOpenJournalRow, standIns := [], harness := (true, "ce2b3e190e2acb9f9c9a1b773471885d8e5f1d2f7a6da8d4a25739ff94c8b45c"), looks := true }, kinds := [], alts := [], laidByText := true, laidKinds := [.data, .data, .data, .handle, .data], laidTests := true, laidLooks := .later }
def FnExactOpenJournalCardSaid : Prop := Claim7.holds Tryz.pinned (.plain (OpenSpec.ofChange fnExactOpenJournalSpec)) fnExactOpenJournalCard

/-- THE SECOND FORM's CARD OF 'laws.FnExactOpenJournal'. -/
def fnExactOpenJournalUptoCard : Claim7 := { stood := { row := fnExactOpenJournalUptoRow, standIns := [], harness := (true, "ce2b3e190e2acb9f9c9a1b773471885d8e5f1d2f7a6da8d4a25739ff94c8b45c"), looks := true }, kinds := [], alts := [], laidByText := true, laidKinds := [.data, .data, .data, .handle, .data], laidTests := true, laidLooks := .later }
def FnExactOpenJournalUptoCardSaid : Prop := Claim7.holds Tryz.pinned (.plain (OpenSpec.upto fnExactOpenJournalSpec)) fnExactOpenJournalUptoCard
end Rows
end Go.Proofs.YtbifkpkhpaellaaGreatDoor
