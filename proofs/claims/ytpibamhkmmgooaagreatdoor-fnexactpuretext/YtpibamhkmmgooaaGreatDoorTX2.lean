/- Walks: the specification's texts of terms. -/
import Derived.Test.YtpibamhkmmgooaaGreatDoorTX1

namespace Go.Proofs.YtpibamhkmmgooaaGreatDoor

open Go.RowKit Go.Deep

attribute [local go_sem ↓] Go.wp_at_zero Go.wp_at_succ

theorem l6Dec_at (n : Int) (w : World) (h0 : 0 ≤ n) (h1 : n ≤ 9999) : Calls Tryz.prog 54 #[.int .i64 n] w fun e w' => e = .returned (.string (dec n)) ∧ Ex w w' :=
  l6Dec_any 3 n w (by omega) h0 (by omega)

theorem cat3 (a b c : ByteArray) : a ++ b ++ c = a ++ (b ++ c) := ByteArray.append_assoc

set_option maxRecDepth 100000 in
set_option maxHeartbeats 1000000 in
theorem l12Path_any (p : List Int) (a : Option Addr) (c : Nat) (w : World) (hp : pathB p = true) (hl : p.length ≤ 4) (hT : PA w 0 p a) :
    Calls Tryz.prog 55 #[.slice a p.length c] w fun e w' => e = .returned (.string (pathX p)) ∧ Ex w w' := by
  have T : Hid (∀ w', Ex w w' → PA w' 0 p a) := fun _ h => PA_below hT h
  have SZ : Hid (∀ j, j ≤ p.length → (upX (fun i => ⟨#[46]⟩ ++ dec (p.getD i 0)) j).size ≤ 8) := fun j hj => by
    have h1 := upX_upto (fun i => ⟨#[46]⟩ ++ dec (p.getD i 0)) hj
    have h2 := pathX_size hp
    unfold pathX at h2
    omega
  have DC : Hid (∀ j, j < p.length → ∀ w', Calls Tryz.prog 54 #[.int .i64 (p.getD j 0)] w' fun e w'' => e = .returned (.string (dec (p.getD j 0))) ∧ Ex w' w'') := fun j hj w' => by
    obtain ⟨h1, h2⟩ := pathB_at hp hj
    exact l6Dec_at _ w' h1 (by omega)
  have DS : Hid (∀ j, j < p.length → (dec (p.getD j 0)).size ≤ 1) := fun j hj => dec_size1 (by have := (pathB_at hp hj).2; omega)
  have PX : Hid (pathX p = upX (fun i => ⟨#[46]⟩ ++ dec (p.getD i 0)) p.length) := rfl
  generalize pathX p = px at PX ⊢
  clear hp hT
  go_enter Tryz.func55, Tryz.ntmps55
  go_wp2_with fail
  go_loopw [3, 4] (fun ov i wr => ∃ (j : Nat), j ≤ p.length ∧ i = .int .i64 j ∧ ov = .string (upX (fun i => ⟨#[46]⟩ ++ dec (p.getD i 0)) j) ∧ Ex w wr) (fun _ i _ => p.length - (intOf i).toNat)
  case atStart => exact ⟨0, by omega, rfl, rfl, Ex.refl _⟩
  case round =>
    obtain ⟨j, hj, rfl, rfl, hx⟩ := hrel
    have X : Hid (Ex w wr) := hx
    clear hx
    by_cases hlt : j < p.length
    · obtain ⟨b, o, rfl, hbs, _, hc⟩ := PA_at (T.out wr X.out) (by omega)
      have ck := hc j hlt
      have HI : Hid _ := DC.out j hlt wr
      have sd := DS.out j hlt
      have st := SZ.out j hj
      have HU : Hid (upX (fun i => ⟨#[46]⟩ ++ dec (p.getD i 0)) (j + 1) = upX (fun i => ⟨#[46]⟩ ++ dec (p.getD i 0)) j ++ ⟨#[46]⟩ ++ dec (p.getD j 0)) := (cat3 _ _ _).symm
      generalize upX (fun i => ⟨#[46]⟩ ++ dec (p.getD i 0)) j = t at st HU ⊢
      generalize p.getD j 0 = nn at ck sd HI HU ⊢
      generalize dec nn = dd at sd HI HU ⊢
      have n1 : ¬ 9223372036854775807 < t.size + 1 := by omega
      have n2 : ¬ 9223372036854775807 < t.size + 1 + dd.size := by omega
      clear hc sd st
      go_wp2_with fail
      refine Calls.mono HI.out ?_
      rintro e w1 ⟨rfl, hb1⟩
      have X1 : Hid (Ex w w1) := X.out.trans hb1
      clear hb1
      go_wp2_with fail
      go_roundw
      case rel => exact ⟨j + 1, by omega, by go_num, by rw [HU.out], X1.out⟩
      case measure => simp [intOf]; omega
    · have hje : j = p.length := by omega
      have HR : Hid (px = upX (fun i => ⟨#[46]⟩ ++ dec (p.getD i 0)) j) := by show _ = _; rw [hje]; exact PX.out
      clear hje
      go_wp2_with fail
      go_ret
      exact ⟨ret_s HR.out.symm, X.out⟩

set_option maxRecDepth 100000 in
set_option maxHeartbeats 1000000 in
theorem l12Row_any (p : List ByteArray) (a : Option Addr) (c : Nat) (w : World) (hz : xW p ≤ 1048576) (hT : XA w 0 p a) :
    Calls Tryz.prog 11 #[.slice a p.length c] w fun e w' => e = .returned (.string (namesX p)) ∧ Ex w w' := by
  have T : Hid (∀ w', Ex w w' → XA w' 0 p a) := fun _ h => XA_below hT h
  have SZ : Hid (∀ j, j < p.length → (upX (fun i => ⟨#[32]⟩ ++ p.getD i ⟨#[]⟩) j).size + (p.getD j ⟨#[]⟩).size ≤ 1048576) := fun j hj => by
    have h1 := upX_upto (fun i => ⟨#[32]⟩ ++ p.getD i ⟨#[]⟩) (show j + 1 ≤ p.length by omega)
    have h2 := namesX_size p
    unfold namesX at h2
    rw [upX, ByteArray.size_append, ByteArray.size_append] at h1
    omega
  have hpl : p.length ≤ 1048576 := by unfold xW at hz; omega
  have PX : Hid (namesX p = upX (fun i => ⟨#[32]⟩ ++ p.getD i ⟨#[]⟩) p.length) := rfl
  generalize namesX p = px at PX ⊢
  clear hz hT
  go_enter Tryz.func11, Tryz.ntmps11
  go_wp2_with fail
  go_loopw [3, 4] (fun ov i wr => ∃ (j : Nat), j ≤ p.length ∧ i = .int .i64 j ∧ ov = .string (upX (fun i => ⟨#[32]⟩ ++ p.getD i ⟨#[]⟩) j) ∧ Ex w wr) (fun _ i _ => p.length - (intOf i).toNat)
  case atStart => exact ⟨0, by omega, rfl, rfl, Ex.refl _⟩
  case round =>
    obtain ⟨j, hj, rfl, rfl, hx⟩ := hrel
    have X : Hid (Ex w wr) := hx
    clear hx
    by_cases hlt : j < p.length
    · obtain ⟨b, o, rfl, hbs, _, hc⟩ := XA_at (T.out wr X.out) (by omega)
      have ck := hc j hlt
      have st := SZ.out j hlt
      have HU : Hid (upX (fun i => ⟨#[32]⟩ ++ p.getD i ⟨#[]⟩) (j + 1) = upX (fun i => ⟨#[32]⟩ ++ p.getD i ⟨#[]⟩) j ++ ⟨#[32]⟩ ++ p.getD j ⟨#[]⟩) := (cat3 _ _ _).symm
      generalize upX (fun i => ⟨#[32]⟩ ++ p.getD i ⟨#[]⟩) j = t at st HU ⊢
      generalize p.getD j ⟨#[]⟩ = dd at st ck HU ⊢
      have n1 : ¬ 9223372036854775807 < t.size + 1 := by omega
      have n2 : ¬ 9223372036854775807 < t.size + 1 + dd.size := by omega
      clear hc st
      go_wp2_with fail
      go_roundw
      case rel => exact ⟨j + 1, by omega, by go_num, by rw [HU.out], X.out⟩
      case measure => simp [intOf]; omega
    · have hje : j = p.length := by omega
      have HR : Hid (px = upX (fun i => ⟨#[32]⟩ ++ p.getD i ⟨#[]⟩) j) := by show _ = _; rw [hje]; exact PX.out
      clear hje
      go_wp2_with fail
      go_ret
      exact ⟨ret_s HR.out.symm, X.out⟩

end Go.Proofs.YtpibamhkmmgooaaGreatDoor
