/- errors.Is where the two are different faults (after the guide's own); which faults say that there is nothing to be told. -/
import Derived.Test.YthdihpcpobhadaaDoorIS1

namespace Go.Proofs.YthdihpcpobhadaaDoor

open Go.RowKit Go.Deep Go.Extern.Stop Go.Stop Go.Extern

attribute [local go_sem ↓] Go.wp_at_zero Go.wp_at_succ

theorem Tryd.noIsE (v : Value) (xT : TypeId) (w : World) : (Instr.typeAssert (.iface 135 v) xT 128 true).run Tryd.prog w = .ok (.tuple #[.nilIface, .bool false]) w := run_typeAssert_lacksB Tryd.underlying128 (by kernel_rfl) (by kernel_rfl) v xT w
theorem Tryd.noUnwrapE (v : Value) (xT : TypeId) (w : World) : (Instr.typeAssert (.iface 135 v) xT 130 true).run Tryd.prog w = .ok (.tuple #[.nilIface, .bool false]) w := run_typeAssert_lacksB Tryd.underlying130 (by kernel_rfl) (by kernel_rfl) v xT w
theorem Tryd.noUnwrapsE (v : Value) (xT : TypeId) (w : World) : (Instr.typeAssert (.iface 135 v) xT 132 true).run Tryd.prog w = .ok (.tuple #[.nilIface, .bool false]) w := run_typeAssert_lacksB Tryd.underlying132 (by kernel_rfl) (by kernel_rfl) v xT w

set_option maxRecDepth 100000 in
/-- errors.Is(x, y), two different pointers to errors.errorString. -/
theorem is_other (a b : Addr) (ca cb : Array Value) (ta tb : TypeId) (w : World) (hne : a ≠ b) (ha : w.heap[a.block]? = some (.cells ca ta (0, 0))) (hb : w.heap[b.block]? = some (.cells cb tb (0, 0))) :
    Calls Tryd.prog 70 #[EV a, EV b] w fun e w' => e = .returned (.bool false) ∧ Ex w w' := by
  obtain ⟨i, hi, hcmp⟩ := Option.map_eq_some_iff.1 Tryd.isComp
  obtain ⟨j, hj, hjs⟩ := Option.map_eq_some_iff.1 Tryd.isSize
  have h8 := @run_callFunc_extern Tryd.prog 78 _ Extern.ReflectliteType.typeOf Tryd.func78 (by kernel_rfl) (by kernel_rfl) (by kernel_rfl) (by kernel_rfl)
  have h32 := @run_callFunc_extern Tryd.prog 103 _ cmpE Tryd.func103 (by kernel_rfl) (by kernel_rfl) (by kernel_rfl) (by kernel_rfl)
  have tT := Tryd.isTypeOf
  have cT := Tryd.isComparable
  have mR := Tryd.isMethodComparable
  have nE := Tryd.noIsE
  have uE := Tryd.noUnwrapE
  have vE := Tryd.noUnwrapsE
  have heq := run_eql_iface_ptr_other (P := Tryd.prog) w Tryd.underlying73 Tryd.underlying135 hi hcmp hj (by rw [hjs]; decide) hne ha hb
  go_enter Tryd.func70, Tryd.ntmps70
  go_wp2
  refine wp_loop_rounds 1 ?_
  rw [rounds_succ]
  go_wp2
  go_ret
  exact ⟨rfl, Ex.refl _⟩

/-- The two faults are there, and are not one. -/
structure Two (ea eb : Addr) (w : World) : Prop where
  one : w.cell? ⟨0, 0, none⟩ = some (EV ea)
  two : w.cell? ⟨1, 0, none⟩ = some (EV eb)
  ne : ea ≠ eb
  at1 : ∃ ca ta, w.heap[ea.block]? = some (.cells ca ta (0, 0))
  at2 : ∃ cb tb, w.heap[eb.block]? = some (.cells cb tb (0, 0))
theorem Two.ex {ea eb : Addr} {w w' : World} (h : Two ea eb w) (hx : Ex w w') : Two ea eb w' := by
  obtain ⟨h1, h2, h3, ⟨ca, ta, h4⟩, cb, tb, h5⟩ := h
  exact ⟨hx.at h1, hx.at h2, h3, ⟨ca, ta, hx.blk h4⟩, cb, tb, hx.blk h5⟩

set_option maxRecDepth 100000 in
set_option maxHeartbeats 2000000 in
theorem noKind_nil (ea eb : Addr) (w : World) (hT : Two ea eb w) : Calls Tryd.prog 41 #[.nilIface] w fun e w' => e = .returned (.bool false) ∧ Ex w w' := by
  have h1 := hT.one
  have TT : Hid _ := hT
  clear hT
  go_enter Tryd.func41, Tryd.ntmps41
  go_wp2_with fail
  refine (is_nil ea _).mono ?_
  rintro e w1 ⟨rfl, hb1⟩
  have h2 := (TT.out.ex hb1).two
  go_wp2_with fail
  refine (is_nil eb _).mono ?_
  rintro e w2 ⟨rfl, hb2⟩
  go_wp2_with fail
  go_ret
  exact ⟨rfl, hb1.trans hb2⟩
set_option maxRecDepth 100000 in
set_option maxHeartbeats 2000000 in
theorem noKind_one (ea eb : Addr) (w : World) (hT : Two ea eb w) : Calls Tryd.prog 41 #[EV ea] w fun e w' => e = .returned (.bool true) ∧ Ex w w' := by
  have h1 := hT.one
  clear hT
  go_enter Tryd.func41, Tryd.ntmps41
  go_wp2_with fail
  refine (is_same ea _).mono ?_
  rintro e w1 ⟨rfl, hb1⟩
  go_wp2_with fail
  go_ret
  exact ⟨rfl, hb1⟩
set_option maxRecDepth 100000 in
set_option maxHeartbeats 2000000 in
theorem noKind_two (ea eb : Addr) (w : World) (hT : Two ea eb w) : Calls Tryd.prog 41 #[EV eb] w fun e w' => e = .returned (.bool true) ∧ Ex w w' := by
  have h1 := hT.one
  have TT : Hid _ := hT
  obtain ⟨ca, ta, ha⟩ := hT.at1
  obtain ⟨cb, tb, hb⟩ := hT.at2
  have IO : Hid (Calls Tryd.prog 70 #[EV eb, EV ea] w fun e w' => e = .returned (.bool false) ∧ Ex w w') := is_other eb ea cb ca tb ta w (fun e => hT.ne e.symm) hb ha
  clear hT ha hb
  go_enter Tryd.func41, Tryd.ntmps41
  go_wp2_with fail
  refine Calls.mono IO.out ?_
  rintro e w1 ⟨rfl, hb1⟩
  have h2 := (TT.out.ex hb1).two
  go_wp2_with fail
  refine (is_same eb _).mono ?_
  rintro e w2 ⟨rfl, hb2⟩
  go_wp2_with fail
  go_ret
  exact ⟨rfl, hb1.trans hb2⟩

end Go.Proofs.YthdihpcpobhadaaDoor
