/-
  DERIVED. GIVEN WITH THE SEED: THE CARDS: each row of YtcneaidfhmbdmaaDoorRows.lean that lists a variable, with what it lists TIED to the program's text (the seventh form; the later family's looks); each row that meets fmt, with fmt's text TOLD by the authors' own Lean function (tested against real Go, not proved from fmt's source: count such statements apart). THE CARD IS WHAT COUNTS. Prove the row's statement (the work); the ties are given (YtcneaidfhmbdmaaDoorTie.lean); close each card by the builder's one call (the guide's Derived/Test/ToyasCard.lean, 'card_holds'). Laid BY PROGRAM, IN A SANDBOX (cutbox-door.mjs). By AI agents, Wed Nov 11 2026. No macro, syntax, notation, axiom, sorry.
-/
import Derived.Test.YtcneaidfhmbdmaaDoorRows
import GoSem.ClaimSeven
namespace Go.Proofs.YtcneaidfhmbdmaaDoor
namespace Rows

/-- THE TIED CARD OF 'laws.FnExactSnapName'. -/
def fnExactSnapNameCard : Claim7 := { stood := { row := fnExactSnapNameRow, standIns := [], harness := (true, "598c6e58e2c26f9cd4bc2e0f5c35cc954fc081042c2bc08040a914caba3981cc"), looks := true }, kinds := [], alts := [], laidByText := true, laidKinds := [.data, .data, .data], laidTests := true, laidLooks := .later }
def FnExactSnapNameCardSaid : Prop := Claim7.holds Tryd.pinned (.plain (OpenSpec.ofChange fnExactSnapNameSpec)) fnExactSnapNameCard

/-- THE TIED CARD OF 'laws.FnExactSnapText'. -/
def fnExactSnapTextCard : Claim7 := { stood := { row := fnExactSnapTextRow, standIns := [], harness := (true, "598c6e58e2c26f9cd4bc2e0f5c35cc954fc081042c2bc08040a914caba3981cc"), looks := true }, kinds := [], alts := [], laidByText := true, laidKinds := [.data], laidTests := true, laidLooks := .later }
def FnExactSnapTextCardSaid : Prop := Claim7.holds Tryd.pinned (.plain (OpenSpec.ofChange fnExactSnapTextSpec)) fnExactSnapTextCard

/-- THE TIED CARD OF 'laws.FnExactReadSnap'. -/
def fnExactReadSnapCard : Claim7 := { stood := { row := fnExactReadSnapRow, standIns := [], harness := (true, "598c6e58e2c26f9cd4bc2e0f5c35cc954fc081042c2bc08040a914caba3981cc"), looks := true }, kinds := [], alts := [], laidByText := true, laidKinds := [.data], laidTests := true, laidLooks := .later }
def FnExactReadSnapCardSaid : Prop := Claim7.holds Tryd.pinned (.plain (OpenSpec.ofChange fnExactReadSnapSpec)) fnExactReadSnapCard

/-- THE TIED CARD OF 'laws.FnExactSnapActs'. -/
def fnExactSnapActsCard : Claim7 := { stood := { row := fnExactSnapActsRow, standIns := [], harness := (true, "598c6e58e2c26f9cd4bc2e0f5c35cc954fc081042c2bc08040a914caba3981cc"), looks := true }, kinds := [], alts := [], laidByText := true, laidKinds := [.data, .data, .data, .data], laidTests := true, laidLooks := .later }
def FnExactSnapActsCardSaid : Prop := Claim7.holds Tryd.pinned (.plain (OpenSpec.ofChange fnExactSnapActsSpec)) fnExactSnapActsCard

/-- THE SECOND FORM's CARD OF 'laws.FnExactSnapName'. -/
def fnExactSnapNameUptoCard : Claim7 := { stood := { row := fnExactSnapNameUptoRow, standIns := [], harness := (true, "598c6e58e2c26f9cd4bc2e0f5c35cc954fc081042c2bc08040a914caba3981cc"), looks := true }, kinds := [], alts := [], laidByText := true, laidKinds := [.data, .data, .data], laidTests := true, laidLooks := .later }
def FnExactSnapNameUptoCardSaid : Prop := Claim7.holds Tryd.pinned (.plain (OpenSpec.upto fnExactSnapNameSpec)) fnExactSnapNameUptoCard

/-- THE SECOND FORM's CARD OF 'laws.FnExactSnapText'. -/
def fnExactSnapTextUptoCard : Claim7 := { stood := { row := fnExactSnapTextUptoRow, standIns := [], harness := (true, "598c6e58e2c26f9cd4bc2e0f5c35cc954fc081042c2bc08040a914caba3981cc"), looks := true }, kinds := [], alts := [], laidByText := true, laidKinds := [.data], laidTests := true, laidLooks := .later }
def FnExactSnapTextUptoCardSaid : Prop := Claim7.holds Tryd.pinned (.plain (OpenSpec.upto fnExactSnapTextSpec)) fnExactSnapTextUptoCard

/-- THE SECOND FORM's CARD OF 'laws.FnExactReadSnap'. -/
def fnExactReadSnapUptoCard : Claim7 := { stood := { row := fnExactReadSnapUptoRow, standIns := [], harness := (true, "598c6e58e2c26f9cd4bc2e0f5c35cc954fc081042c2bc08040a914caba3981cc"), looks := true }, kinds := [], alts := [], laidByText := true, laidKinds := [.data], laidTests := true, laidLooks := .later }
def FnExactReadSnapUptoCardSaid : Prop := Claim7.holds Tryd.pinned (.plain (OpenSpec.upto fnExactReadSnapSpec)) fnExactReadSnapUptoCard

/-- THE SECOND FORM's CARD OF 'laws.FnExactSnapActs'. -/
def fnExactSnapActsUptoCard : Claim7 := { stood := { row := fnExactSnapActsUptoRow, standIns := [], harness := (true, "598c6e58e2c26f9cd4bc2e0f5c35cc954fc081042c2bc08040a914caba3981cc"), looks := true }, kinds := [], alts := [], laidByText := true, laidKinds := [.data, .data, .data, .data], laidTests := true, laidLooks := .later }
def FnExactSnapActsUptoCardSaid : Prop := Claim7.holds Tryd.pinned (.plain (OpenSpec.upto fnExactSnapActsSpec)) fnExactSnapActsUptoCard
end Rows
end Go.Proofs.YtcneaidfhmbdmaaDoor
