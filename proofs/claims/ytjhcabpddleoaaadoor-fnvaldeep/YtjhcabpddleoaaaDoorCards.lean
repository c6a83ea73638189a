/-
  DERIVED. GIVEN WITH THE SEED: THE CARDS: each row of YtjhcabpddleoaaaDoorRows.lean that lists a variable, with what it lists TIED to the program's text (the seventh form; the later family's looks); each row that meets fmt, with fmt's text TOLD by the authors' own Lean function (tested against real Go, not proved from fmt's source: count such statements apart). THE CARD IS WHAT COUNTS. Prove the row's statement (the work); the ties are given (YtjhcabpddleoaaaDoorTie.lean); close each card by the builder's one call (the guide's Derived/Test/ToyasCard.lean, 'card_holds'). Laid BY PROGRAM, IN A SANDBOX (cutbox-door.mjs). By AI agents, Wed Nov 11 2026. No macro, syntax, notation, axiom, sorry.
-/
import Derived.Test.YtjhcabpddleoaaaDoorRows
import GoSem.ClaimSeven
namespace Go.Proofs.YtjhcabpddleoaaaDoor
namespace Rows

/-- THE TIED CARD OF 'laws.FnValDeep'. -/
def fnValDeepCard : Claim7 := { stood := { row := fnValDeepRow, standIns := [], harness := (true, "b53331ea9bae4e8ce6dd8da9a7d93925d10f150826bbee6e6ffc865105a89f82"), looks := false }, kinds := [], alts := [], laidByText := true, laidKinds := [.data, .data, .data], laidTests := true, laidLooks := .later }
def FnValDeepCardSaid : Prop := Claim7.holds Tryd.pinned (.plain (OpenSpec.ofChange fnValDeepSpec)) fnValDeepCard

/-- THE SECOND FORM's CARD OF 'laws.FnValDeep'. -/
def fnValDeepUptoCard : Claim7 := { stood := { row := fnValDeepUptoRow, standIns := [], harness := (true, "b53331ea9bae4e8ce6dd8da9a7d93925d10f150826bbee6e6ffc865105a89f82"), looks := false }, kinds := [], alts := [], laidByText := true, laidKinds := [.data, .data, .data], laidTests := true, laidLooks := .later }
def FnValDeepUptoCardSaid : Prop := Claim7.holds Tryd.pinned (.plain (OpenSpec.upto fnValDeepSpec)) fnValDeepUptoCard
end Rows
end Go.Proofs.YtjhcabpddleoaaaDoor
