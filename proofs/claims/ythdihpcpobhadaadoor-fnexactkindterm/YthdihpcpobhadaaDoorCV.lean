/- A byte as a text. -/
import Derived.Test.YthdihpcpobhadaaDoorW1

import Derived.Laws.Strings

namespace Go.Proofs.YthdihpcpobhadaaDoor

open Go.RowKit Go.Deep

theorem one_at {u : Int} {w : World} {b : Nat} (hc : w.cell? ⟨b, 0, none⟩ = some (.int .u8 u)) (i : Nat) (hi : i < 1) : w.cell? ⟨b, 0 + i, none⟩ = some (.int .u8 ([u].getD i 0)) := by
  have : i = 0 := by omega
  subst this
  exact hc

theorem conv_one (u : Int) (w : World) (b : Nat) (hc : w.cell? ⟨b, 0, none⟩ = some (.int .u8 u)) :
    (convert 22 9 (.slice (some ⟨b, 0, none⟩) 1 1)).run Tryd.prog w = .ok (.string (strOfNums [u])) w :=
  run_convert_bytes_arg w 22 5 Tryd.underlying22 Tryd.underlying5 b 0 1 1 [u] rfl (one_at hc) 9 Tryd.underlying9

end Go.Proofs.YthdihpcpobhadaaDoor
