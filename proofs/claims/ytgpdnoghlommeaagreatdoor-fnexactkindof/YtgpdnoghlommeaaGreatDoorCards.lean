/-
  DERIVED. GIVEN WITH THE SEED: THE CARDS: each row of YtgpdnoghlommeaaGreatDoorRows.lean that lists a variable, with what it lists TIED to the program's text (the seventh form; the later family's looks); each row that meets fmt, with fmt's text TOLD by the authors' own Lean function (tested against real Go, not proved from fmt's source: count such statements apart). THE CARD IS WHAT COUNTS. Prove the row's statement (the work); the ties are given (YtgpdnoghlommeaaGreatDoorTie.lean); close each card by the builder's one call (the guide's Derived/Test/ToyasCard.lean, 'card_holds'). Laid BY PROGRAM, IN A SANDBOX (cutbox-door.mjs). By AI agents, Wed Nov 11 2026. No macro, syntax, notation, axiom, sorry.
-/
import Derived.Test.YtgpdnoghlommeaaGreatDoorRows
import GoSem.ClaimSeven
namespace Go.Proofs.YtgpdnoghlommeaaGreatDoor
namespace Rows

/-- THE TIED CARD OF 'laws.FnExactKindOf'. -/
def fnExactKindOfCard : Claim7 := { stood := { row := fnExactKindOfRow, standIns := [], harness := (true, "c0cf8a248ebf41ad32ee8afcd561b1603c86bc68f297ea99bd8b9917a3a7b3a2"), looks := true }, kinds := [], alts := [], laidByText := true, laidKinds := [.sentinel, .sentinel], laidTests := true, laidLooks := .later }
def FnExactKindOfCardSaid : Prop := Claim7.holds Tryz.pinned (.plain (OpenSpec.ofChange fnExactKindOfSpec)) fnExactKindOfCard

/-- THE TIED CARD OF 'laws.FnExactTidyOf'. -/
def fnExactTidyOfCard : Claim7 := { stood := { row := fnExactTidyOfRow, standIns := [], harness := (true, "c0cf8a248ebf41ad32ee8afcd561b1603c86bc68f297ea99bd8b9917a3a7b3a2"), looks := true }, kinds := [], alts := [], laidByText := true, laidKinds := [.data, .data, .data, .sentinel], laidTests := true, laidLooks := .later }
def FnExactTidyOfCardSaid : Prop := Claim7.holds Tryz.pinned (.plain (OpenSpec.ofChange fnExactTidyOfSpec)) fnExactTidyOfCard

/-- THE SECOND FORM's CARD OF 'laws.FnExactKindOf'. -/
def fnExactKindOfUptoCard : Claim7 := { stood := { row := fnExactKindOfUptoRow, standIns := [], harness := (true, "c0cf8a248ebf41ad32ee8afcd561b1603c86bc68f297ea99bd8b9917a3a7b3a2"), looks := true }, kinds := [], alts := [], laidByText := true, laidKinds := [.sentinel, .sentinel], laidTests := true, laidLooks := .later }
def FnExactKindOfUptoCardSaid : Prop := Claim7.holds Tryz.pinned (.plain (OpenSpec.upto fnExactKindOfSpec)) fnExactKindOfUptoCard

/-- THE SECOND FORM's CARD OF 'laws.FnExactTidyOf'. -/
def fnExactTidyOfUptoCard : Claim7 := { stood := { row := fnExactTidyOfUptoRow, standIns := [], harness := (true, "c0cf8a248ebf41ad32ee8afcd561b1603c86bc68f297ea99bd8b9917a3a7b3a2"), looks := true }, kinds := [], alts := [], laidByText := true, laidKinds := [.data, .data, .data, .sentinel], laidTests := true, laidLooks := .later }
def FnExactTidyOfUptoCardSaid : Prop := Claim7.holds Tryz.pinned (.plain (OpenSpec.upto fnExactTidyOfSpec)) fnExactTidyOfUptoCard
end Rows
end Go.Proofs.YtgpdnoghlommeaaGreatDoor
