/-
  DERIVED. GIVEN WITH THE SEED: THE CARDS: each row of YtgpdnoghlommeaaDoorRows.lean that lists a variable, with what it lists TIED to the program's text (the seventh form; the later family's looks); each row that meets fmt, with fmt's text TOLD by the authors' own Lean function (tested against real Go, not proved from fmt's source: count such statements apart). THE CARD IS WHAT COUNTS. Prove the row's statement (the work); the ties are given (YtgpdnoghlommeaaDoorTie.lean); close each card by the builder's one call (the guide's Derived/Test/ToyasCard.lean, 'card_holds'). Laid BY PROGRAM, IN A SANDBOX (cutbox-door.mjs). By AI agents, Wed Nov 11 2026. No macro, syntax, notation, axiom, sorry.
-/
import Derived.Test.YtgpdnoghlommeaaDoorRows
import GoSem.ClaimSeven
namespace Go.Proofs.YtgpdnoghlommeaaDoor
namespace Rows

/-- THE TIED CARD OF 'laws.FnExactTidySize'. -/
def fnExactTidySizeCard : Claim7 := { stood := { row := fnExactTidySizeRow, standIns := [], harness := (true, "c24c99490b1d73b7911e5815f9740084597e72c2985a0ecfa43891058710b257"), looks := true }, kinds := [], alts := [], laidByText := true, laidKinds := [.sentinel], laidTests := true, laidLooks := .later }
def FnExactTidySizeCardSaid : Prop := Claim7.holds Tryd.pinned (.plain (OpenSpec.ofChange fnExactTidySizeSpec)) fnExactTidySizeCard

/-- THE SECOND FORM's CARD OF 'laws.FnExactTidySize'. -/
def fnExactTidySizeUptoCard : Claim7 := { stood := { row := fnExactTidySizeUptoRow, standIns := [], harness := (true, "c24c99490b1d73b7911e5815f9740084597e72c2985a0ecfa43891058710b257"), looks := true }, kinds := [], alts := [], laidByText := true, laidKinds := [.sentinel], laidTests := true, laidLooks := .later }
def FnExactTidySizeUptoCardSaid : Prop := Claim7.holds Tryd.pinned (.plain (OpenSpec.upto fnExactTidySizeSpec)) fnExactTidySizeUptoCard
end Rows
end Go.Proofs.YtgpdnoghlommeaaDoor
