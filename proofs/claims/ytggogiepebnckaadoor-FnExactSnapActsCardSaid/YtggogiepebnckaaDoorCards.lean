/-
  DERIVED. GIVEN WITH THE SEED: THE CARDS: each row of YtggogiepebnckaaDoorRows.lean that lists a variable, with what it lists TIED to the program's text (the seventh form; the later family's looks); each row that meets fmt, with fmt's text TOLD by the authors' own Lean function (tested against real Go, not proved from fmt's source: count such statements apart). THE CARD IS WHAT COUNTS. Prove the row's statement (the work); the ties are given (YtggogiepebnckaaDoorTie.lean); close each card by the builder's one call (the guide's Derived/Test/ToyasCard.lean, 'card_holds'). Laid BY PROGRAM, IN A SANDBOX (cutbox-door.mjs). By AI agents, Wed Nov 11 2026. No macro, syntax, notation, axiom, sorry.
-/
import Derived.Test.YtggogiepebnckaaDoorRows
import GoSem.ClaimSeven
namespace Go.Proofs.YtggogiepebnckaaDoor
namespace Rows

/-- THE TIED CARD OF 'laws.FnExactReadSnap'. -/
def fnExactReadSnapCard : Claim7 := { stood := { row := fnExactReadSnapRow, standIns := [], harness := (true, "8fa8ca5c5f265ad8b15c59d101d4c7adcc53adef2f5736649e445e0a8c70e376"), looks := true }, kinds := [], alts := [], laidByText := true, laidKinds := [.data], laidTests := true, laidLooks := .later }
def FnExactReadSnapCardSaid : Prop := Claim7.holds Tryd.pinned (.plain (OpenSpec.ofChange fnExactReadSnapSpec)) fnExactReadSnapCard

/-- THE TIED CARD OF 'laws.FnExactNewestSnap'. -/
def fnExactNewestSnapCard : Claim7 := { stood := { row := fnExactNewestSnapRow, standIns := [], harness := (true, "8fa8ca5c5f265ad8b15c59d101d4c7adcc53adef2f5736649e445e0a8c70e376"), looks := true }, kinds := [], alts := [], laidByText := true, laidKinds := [.data], laidTests := true, laidLooks := .later }
def FnExactNewestSnapCardSaid : Prop := Claim7.holds Tryd.pinned (.plain (OpenSpec.ofChange fnExactNewestSnapSpec)) fnExactNewestSnapCard

/-- THE TIED CARD OF 'laws.FnExactShedActs'. -/
def fnExactShedActsCard : Claim7 := { stood := { row := fnExactShedActsRow, standIns := [], harness := (true, "8fa8ca5c5f265ad8b15c59d101d4c7adcc53adef2f5736649e445e0a8c70e376"), looks := true }, kinds := [], alts := [], laidByText := true, laidKinds := [.data], laidTests := true, laidLooks := .later }
def FnExactShedActsCardSaid : Prop := Claim7.holds Tryd.pinned (.plain (OpenSpec.ofChange fnExactShedActsSpec)) fnExactShedActsCard

/-- THE TIED CARD OF 'laws.FnExactSnapActs'. -/
def fnExactSnapActsCard : Claim7 := { stood := { row := fnExactSnapActsRow, standIns := [], harness := (true, "8fa8ca5c5f265ad8b15c59d101d4c7adcc53adef2f5736649e445e0a8c70e376"), looks := true }, kinds := [], alts := [], laidByText := true, laidKinds := [.data, .data, .data, .data], laidTests := true, laidLooks := .later }
def FnExactSnapActsCardSaid : Prop := Claim7.holds Tryd.pinned (.plain (OpenSpec.ofChange fnExactSnapActsSpec)) fnExactSnapActsCard

/-- THE SECOND FORM's CARD OF 'laws.FnExactReadSnap'. -/
def fnExactReadSnapUptoCard : Claim7 := { stood := { row := fnExactReadSnapUptoRow, standIns := [], harness := (true, "8fa8ca5c5f265ad8b15c59d101d4c7adcc53adef2f5736649e445e0a8c70e376"), looks := true }, kinds := [], alts := [], laidByText := true, laidKinds := [.data], laidTests := true, laidLooks := .later }
def FnExactReadSnapUptoCardSaid : Prop := Claim7.holds Tryd.pinned (.plain (OpenSpec.upto fnExactReadSnapSpec)) fnExactReadSnapUptoCard

/-- THE SECOND FORM's CARD OF 'laws.FnExactNewestSnap'. -/
def fnExactNewestSnapUptoCard : Claim7 := { stood := { row := fnExactNewestSnapUptoRow, standIns := [], harness := (true, "8fa8ca5c5f265ad8b15c59d101d4c7adcc53adef2f5736649e445e0a8c70e376"), looks := true }, kinds := [], alts := [], laidByText := true, laidKinds := [.data], laidTests := true, laidLooks := .later }
def FnExactNewestSnapUptoCardSaid : Prop := Claim7.holds Tryd.pinned (.plain (OpenSpec.upto fnExactNewestSnapSpec)) fnExactNewestSnapUptoCard

/-- THE SECOND FORM's CARD OF 'laws.FnExactShedActs'. -/
def fnExactShedActsUptoCard : Claim7 := { stood := { row := fnExactShedActsUptoRow, standIns := [], harness := (true, "8fa8ca5c5f265ad8b15c59d101d4c7adcc53adef2f5736649e445e0a8c70e376"), looks := true }, kinds := [], alts := [], laidByText := true, laidKinds := [.data], laidTests := true, laidLooks := .later }
def FnExactShedActsUptoCardSaid : Prop := Claim7.holds Tryd.pinned (.plain (OpenSpec.upto fnExactShedActsSpec)) fnExactShedActsUptoCard

/-- THE SECOND FORM's CARD OF 'laws.FnExactSnapActs'. -/
def fnExactSnapActsUptoCard : Claim7 := { stood := { row := fnExactSnapActsUptoRow, standIns := [], harness := (true, "8fa8ca5c5f265ad8b15c59d101d4c7adcc53adef2f5736649e445e0a8c70e376"), looks := true }, kinds := [], alts := [], laidByText := true, laidKinds := [.data, .data, .data, .data], laidTests := true, laidLooks := .later }
def FnExactSnapActsUptoCardSaid : Prop := Claim7.holds Tryd.pinned (.plain (OpenSpec.upto fnExactSnapActsSpec)) fnExactSnapActsUptoCard
end Rows
end Go.Proofs.YtggogiepebnckaaDoor
