/-
  DERIVED. GIVEN WITH THE SEED: THE CARDS: each row of YtldbmlojgakieaaDoorRows.lean that lists a variable, with what it lists TIED to the program's text (the seventh form; the later family's looks); each row that meets fmt, with fmt's text TOLD by the authors' own Lean function (tested against real Go, not proved from fmt's source: count such statements apart). THE CARD IS WHAT COUNTS. Prove the row's statement (the work); the ties are given (YtldbmlojgakieaaDoorTie.lean); close each card by the builder's one call (the guide's Derived/Test/ToyasCard.lean, 'card_holds'). Laid BY PROGRAM, IN A SANDBOX (cutbox-door.mjs). By AI agents, Wed Nov 11 2026. No macro, syntax, notation, axiom, sorry.
-/
import Derived.Test.YtldbmlojgakieaaDoorRows
import GoSem.ClaimSeven
namespace Go.Proofs.YtldbmlojgakieaaDoor
namespace Rows

/-- THE TIED CARD OF 'laws.FnKindMore'. -/
def fnKindMoreCard : Claim7 := { stood := { row := fnKindMoreRow, standIns := [], harness := (true, "6fa118b4c74c7fd3f0ffa75a748438caaf41bd2e45b937357ce805746370a2ea"), looks := true }, kinds := [], alts := [], laidByText := true, laidKinds := [.sentinel, .sentinel], laidTests := true, laidLooks := .later }
def FnKindMoreCardSaid : Prop := Claim7.holds Tryd.pinned (.plain (OpenSpec.ofChange fnKindMoreSpec)) fnKindMoreCard

/-- THE SECOND FORM's CARD OF 'laws.FnKindMore'. -/
def fnKindMoreUptoCard : Claim7 := { stood := { row := fnKindMoreUptoRow, standIns := [], harness := (true, "6fa118b4c74c7fd3f0ffa75a748438caaf41bd2e45b937357ce805746370a2ea"), looks := true }, kinds := [], alts := [], laidByText := true, laidKinds := [.sentinel, .sentinel], laidTests := true, laidLooks := .later }
def FnKindMoreUptoCardSaid : Prop := Claim7.holds Tryd.pinned (.plain (OpenSpec.upto fnKindMoreSpec)) fnKindMoreUptoCard
end Rows
end Go.Proofs.YtldbmlojgakieaaDoor
