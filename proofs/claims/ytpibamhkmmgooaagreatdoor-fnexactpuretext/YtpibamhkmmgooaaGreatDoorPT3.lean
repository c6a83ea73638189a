/- Walks: the program's texts of names and bindings. -/
import Derived.Test.YtpibamhkmmgooaaGreatDoorPT2

import Derived.Test.YtpibamhkmmgooaaGreatDoorTX5

namespace Go.Proofs.YtpibamhkmmgooaaGreatDoor

open Go.RowKit Go.Deep

attribute [local go_sem ↓] Go.wp_at_zero Go.wp_at_succ

theorem Bd.drew {B b : Nat} {t : ByteArray} {w : World} (h : Bd B b t w) : Bd B b t w.drew := h
theorem Fx.drew {B b : Nat} {w w' : World} (h : Fx B b w w') : Fx B b w w'.drew := ⟨h.below.drew, h.typed⟩

set_option maxRecDepth 100000 in
set_option maxHeartbeats 1000000 in
theorem namesText_any (p : List ByteArray) (a : Option Addr) (c : Nat) (w : World) (hz : xW p ≤ 1048576) (hT : XA w 0 p a) :
    Calls Tryz.prog 16 #[.slice a p.length c] w fun e w' => e = .returned (.string (namesX p)) ∧ Ex w w' := by
  have T : Hid (∀ w', Ex w w' → XA w' 0 p a) := fun _ h => XA_below hT h
  have SZ : Hid (∀ j, j < p.length → (upX (fun i => ⟨#[32]⟩ ++ p.getD i ⟨#[]⟩) j).size + (p.getD j ⟨#[]⟩).size ≤ 1048576) := fun j hj => by
    have h1 := upX_upto (fun i => ⟨#[32]⟩ ++ p.getD i ⟨#[]⟩) (show j + 1 ≤ p.length by omega)
    have h2 := namesX_size p
    unfold namesX at h2
    rw [upX, ByteArray.size_append, ByteArray.size_append] at h1
    omega
  have hpl : p.length ≤ 1048576 := by unfold xW at hz; omega
  have PX : Hid (namesX p = upX (fun i => ⟨#[32]⟩ ++ p.getD i ⟨#[]⟩) p.length) := rfl
  have BN : Hid _ := Bd.new w
  generalize namesX p = px at PX ⊢
  clear hz hT
  go_enter Tryz.func16, Tryz.ntmps16
  go_wp2_with fail
  go_loopw [5, 8] (fun _ i wr => ∃ (j : Nat), j ≤ p.length ∧ i = .int .i64 j ∧ Bd w.heap.size w.heap.size (upX (fun i => ⟨#[32]⟩ ++ p.getD i ⟨#[]⟩) j) wr ∧ Ex w wr) (fun _ i _ => p.length - (intOf i).toNat)
  case atStart => exact ⟨0, by omega, rfl, BN.out, Ex.new _ _⟩
  case round =>
    obtain ⟨j, hj, rfl, hbd, hx⟩ := hrel
    have X : Hid (Ex w wr) := hx
    have BD : Hid _ := hbd
    clear hx hbd
    by_cases hlt : j < p.length
    · obtain ⟨b, o, rfl, hbs, _, hc⟩ := XA_at (T.out wr X.out) (by omega)
      have ck := hc j hlt
      have st := SZ.out j hlt
      have HU : Hid (upX (fun i => ⟨#[32]⟩ ++ p.getD i ⟨#[]⟩) (j + 1) = upX (fun i => ⟨#[32]⟩ ++ p.getD i ⟨#[]⟩) j ++ (⟨#[32]⟩ ++ p.getD j ⟨#[]⟩)) := rfl
      generalize upX (fun i => ⟨#[32]⟩ ++ p.getD i ⟨#[]⟩) j = t at st HU BD
      generalize p.getD j ⟨#[]⟩ = dd at st ck HU
      have n1 : ¬ 9223372036854775807 < 1 + dd.size := by omega
      have W : Hid _ := write_any w.heap.size w.heap.size t (⟨#[32]⟩ ++ dd) wr BD.out (by rw [ByteArray.size_append]; have e : (⟨#[32]⟩ : ByteArray).size = 1 := rfl; omega)
      clear hc st
      go_wp2_with fail
      refine Calls.mono W.out ?_
      rintro e w1 ⟨rfl, hbd, hfx⟩
      have B1 : Hid (Bd w.heap.size w.heap.size (upX (fun i => ⟨#[32]⟩ ++ p.getD i ⟨#[]⟩) (j + 1)) w1) := by show Bd _ _ _ _; rw [HU.out]; exact hbd
      have X1 : Hid (Ex w w1) := Below.trans X.out hfx.below
      clear hbd hfx W
      go_wp2_with fail
      go_roundw
      case rel => exact ⟨j + 1, by omega, by go_num, B1.out, X1.out⟩
      case measure => simp [intOf]; omega
    · have hje : j = p.length := by omega
      have W : Hid (Calls Tryz.prog 18 #[.pointer (some ⟨w.heap.size, 0, none⟩)] wr fun e w' => e = .returned (.string px) ∧ Below w.heap.size wr w') := by
        have := string_any BD.out
        rw [hje, ← PX.out] at this
        exact this
      clear hje
      go_wp2_with fail
      refine Calls.mono W.out ?_
      rintro e w1 ⟨rfl, hb⟩
      go_wp2_with fail
      go_ret
      exact ⟨rfl, Below.trans X.out hb⟩

end Go.Proofs.YtpibamhkmmgooaaGreatDoor
