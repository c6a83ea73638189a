/-
  DERIVED. GIVEN WITH THE SEED: THE CARDS: each row of YtldbmlojgakieaaGreatDoorRows.lean that lists a variable, with what it lists TIED to the program's text (the seventh form; the later family's looks); each row that meets fmt, with fmt's text TOLD by the authors' own Lean function (tested against real Go, not proved from fmt's source: count such statements apart). THE CARD IS WHAT COUNTS. Prove the row's statement (the work); the ties are given (YtldbmlojgakieaaGreatDoorTie.lean); close each card by the builder's one call (the guide's Derived/Test/ToyasCard.lean, 'card_holds'). Laid BY PROGRAM, IN A SANDBOX (cutbox-door.mjs). By AI agents, Wed Nov 11 2026. No macro, syntax, notation, axiom, sorry.
-/
import Derived.Test.YtldbmlojgakieaaGreatDoorRows
import GoSem.ClaimSeven
namespace Go.Proofs.YtldbmlojgakieaaGreatDoor
namespace Rows

/-- THE TIED CARD OF 'laws.FnExactPureRun'. -/
def fnExactPureRunCard : Claim7 := { stood := { row := fnExactPureRunRow, standIns := [], harness := (true, "e5baf4f93752ae62744caaa57404b4000d1f518da8d15ef4905033ddf365b26e"), looks := true }, kinds := [], alts := [], laidByText := true, laidKinds := [.sentinel, .sentinel], laidTests := true, laidLooks := .later }
def FnExactPureRunCardSaid : Prop := Claim7.holds Tryz.pinned (.plain (OpenSpec.ofChange fnExactPureRunSpec)) fnExactPureRunCard

/-- THE TIED CARD OF 'laws.FnExactPureText'. -/
def fnExactPureTextCard : Claim7 := { stood := { row := fnExactPureTextRow, standIns := [], harness := (true, "e5baf4f93752ae62744caaa57404b4000d1f518da8d15ef4905033ddf365b26e"), looks := true }, kinds := [], alts := [], laidByText := true, laidKinds := [.data, .data, .data, .sentinel], laidTests := true, laidLooks := .later }
def FnExactPureTextCardSaid : Prop := Claim7.holds Tryz.pinned (.plain (OpenSpec.ofChange fnExactPureTextSpec)) fnExactPureTextCard

/-- THE SECOND FORM's CARD OF 'laws.FnExactPureRun'. -/
def fnExactPureRunUptoCard : Claim7 := { stood := { row := fnExactPureRunUptoRow, standIns := [], harness := (true, "e5baf4f93752ae62744caaa57404b4000d1f518da8d15ef4905033ddf365b26e"), looks := true }, kinds := [], alts := [], laidByText := true, laidKinds := [.sentinel, .sentinel], laidTests := true, laidLooks := .later }
def FnExactPureRunUptoCardSaid : Prop := Claim7.holds Tryz.pinned (.plain (OpenSpec.upto fnExactPureRunSpec)) fnExactPureRunUptoCard

/-- THE SECOND FORM's CARD OF 'laws.FnExactPureText'. -/
def fnExactPureTextUptoCard : Claim7 := { stood := { row := fnExactPureTextUptoRow, standIns := [], harness := (true, "e5baf4f93752ae62744caaa57404b4000d1f518da8d15ef4905033ddf365b26e"), looks := true }, kinds := [], alts := [], laidByText := true, laidKinds := [.data, .data, .data, .sentinel], laidTests := true, laidLooks := .later }
def FnExactPureTextUptoCardSaid : Prop := Claim7.holds Tryz.pinned (.plain (OpenSpec.upto fnExactPureTextSpec)) fnExactPureTextUptoCard
end Rows
end Go.Proofs.YtldbmlojgakieaaGreatDoor
