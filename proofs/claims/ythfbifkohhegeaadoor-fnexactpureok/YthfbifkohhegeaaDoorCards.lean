/-
  DERIVED. GIVEN WITH THE SEED: THE CARDS: each row of YthfbifkohhegeaaDoorRows.lean that lists a variable, with what it lists TIED to the program's text (the seventh form; the later family's looks); each row that meets fmt, with fmt's text TOLD by the authors' own Lean function (tested against real Go, not proved from fmt's source: count such statements apart). THE CARD IS WHAT COUNTS. Prove the row's statement (the work); the ties are given (YthfbifkohhegeaaDoorTie.lean); close each card by the builder's one call (the guide's Derived/Test/ToyasCard.lean, 'card_holds'). Laid BY PROGRAM, IN A SANDBOX (cutbox-door.mjs). By AI agents, Wed Nov 11 2026. No macro, syntax, notation, axiom, sorry.
-/
import Derived.Test.YthfbifkohhegeaaDoorRows
import GoSem.ClaimSeven
namespace Go.Proofs.YthfbifkohhegeaaDoor
namespace Rows

/-- THE TIED CARD OF 'laws.FnExactPureOk'. -/
def fnExactPureOkCard : Claim7 := { stood := { row := fnExactPureOkRow, standIns := [], harness := (true, "fdaa154e0f6d00f0999866145efe917a0da4d10d97b1a73bd0e3d4a0c56d0477"), looks := true }, kinds := [], alts := [], laidByText := true, laidKinds := [.sentinel], laidTests := true, laidLooks := .later }
def FnExactPureOkCardSaid : Prop := Claim7.holds Tryd.pinned (.plain (OpenSpec.ofChange fnExactPureOkSpec)) fnExactPureOkCard

/-- THE SECOND FORM's CARD OF 'laws.FnExactPureOk'. -/
def fnExactPureOkUptoCard : Claim7 := { stood := { row := fnExactPureOkUptoRow, standIns := [], harness := (true, "fdaa154e0f6d00f0999866145efe917a0da4d10d97b1a73bd0e3d4a0c56d0477"), looks := true }, kinds := [], alts := [], laidByText := true, laidKinds := [.sentinel], laidTests := true, laidLooks := .later }
def FnExactPureOkUptoCardSaid : Prop := Claim7.holds Tryd.pinned (.plain (OpenSpec.upto fnExactPureOkSpec)) fnExactPureOkUptoCard
end Rows
end Go.Proofs.YthfbifkohhegeaaDoor
