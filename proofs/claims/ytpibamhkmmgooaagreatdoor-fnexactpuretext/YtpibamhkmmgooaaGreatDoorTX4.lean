/- Walks: the specification's texts of terms behind a word. -/
import Derived.Test.YtpibamhkmmgooaaGreatDoorTX3

namespace Go.Proofs.YtpibamhkmmgooaaGreatDoor

open Go.RowKit Go.Deep

attribute [local go_sem ↓] Go.wp_at_zero Go.wp_at_succ

theorem tWk_le {f : TM} {i : Nat} (h : i < tlen f) : tWk f i ≤ tW f := by
  have := sumN_upto (tWk f) (show i + 1 ≤ tlen f by omega)
  rw [tW_sum]
  simp only [sumN] at this
  omega
theorem kidX_size {d : Nat} {f : TM} (h : TOk d f) (hz : tW f ≤ 1048576) {i : Nat} (hi : i < tlen f) : (kidX d f i).size ≤ 10000000 := by
  have h1 := termX_size (h i hi)
  have h2 := tWk_le hi
  have e2 : tWk f i = (tname f i).size + (tpath f i).length + tW (tkid f i) := rfl
  unfold kidX
  omega
theorem tW_kid {f : TM} {i : Nat} (h : i < tlen f) : tW (tkid f i) ≤ tW f := by
  have := tWk_le h
  have e2 : tWk f i = (tname f i).size + (tpath f i).length + tW (tkid f i) := rfl
  omega

theorem l12Say_any : ∀ (d : Nat) (k n : Int) (s : ByteArray) (p : List Int) (pa : Option Addr) (pc : Nat) (f : TM) (a : Option Addr) (c : Nat) (w : World), TO d k n s p f → tW f ≤ 1048576 → PA w 0 p pa → MA w 0 f a →
    Calls Tryz.prog 40 #[.agg #[.int .i64 k, .int .i64 n, .string s, .slice pa p.length pc, .slice a (tlen f) c]] w fun e w' => e = .returned (.string (termX d k n s p f)) ∧ Ex w w' := by
  intro d
  induction d with
  | zero => intro k n s p pa pc f a c w h; exact h.elim
  | succ d ih =>
    intro k n s p pa pc f a c w h hz hP hM
    have hK : ∀ j, j < tlen f → ∀ (pa' : Option Addr) (pc' : Nat) (a' : Option Addr) (c' : Nat) (w' : World), Ex w w' → PA w' 0 (tpath f j) pa' → MA w' 0 (tkid f j) a' → Calls Tryz.prog 40 #[.agg #[.int .i64 (tkind f j), .int .i64 (tnum f j), .string (tname f j), .slice pa' (tpath f j).length pc', .slice a' (tlen (tkid f j)) c']] w' fun e w'' => e = .returned (.string (kidX d f j)) ∧ Ex w' w'' := fun j hj pa' pc' a' c' w' _ q1 q2 =>
      ih _ _ _ _ pa' pc' _ a' c' w' (h.2 j hj) (Nat.le_trans (tW_kid hj) hz) q1 q2
    rcases tok_kinds h.1 with ⟨rfl, h0, h1, hl⟩ | ⟨rfl, hl⟩ | ⟨hk, hl⟩ | ⟨rfl, hp, hp4, hl⟩ | ⟨rfl, hp, hp4, hl⟩
    · exact say_leaf 1 n s p pa pc f a c d w (Or.inl ⟨rfl, h0, h1⟩) hl
    · exact say_leaf 2 n s p pa pc f a c d w (Or.inr rfl) hl
    · obtain ⟨q, rfl, h3, h6⟩ : ∃ q : Nat, k = (q : Int) ∧ 3 ≤ q ∧ q ≤ 6 := ⟨k.toNat, by omega, by omega, by omega⟩
      exact say_op q h3 h6 n s p pa pc f a c d w hl (kidX_size h.2 hz (by omega)) (kidX_size h.2 hz (by omega)) hM hK
    · exact say_at n s p pa pc f a c d w hp hp4 hl (kidX_size h.2 hz (by omega)) hP hM hK
    · exact say_put n s p pa pc f a c d w hp hp4 hl (kidX_size h.2 hz (by omega)) (kidX_size h.2 hz (by omega)) hP hM hK

set_option maxRecDepth 100000 in
set_option maxHeartbeats 2000000 in
theorem l12Rows_any (f : TM) (a : Option Addr) (c : Nat) (w : World) (h : TOk 8 f) (hz : tW f ≤ 1048576) (hM : MA w 0 f a) :
    Calls Tryz.prog 26 #[.slice a (tlen f) c] w fun e w' => e = .returned (.string (rowsX f)) ∧ Ex w w' := by
  have M : Hid (∀ w', Ex w w' → MA w' 0 f a) := fun _ h => MA_below hM h
  have SZ : Hid (∀ j, j < tlen f → (upX (rowX f) j).size ≤ 10000000 ∧ (kidX 8 f j).size ≤ 10000000) := fun j hj => by
    have h1 := upX_upto (rowX f) (show j ≤ tlen f by omega)
    have h2 := rowsX_size h
    unfold rowsX at h2
    exact ⟨by omega, kidX_size h hz hj⟩
  have LS : Hid (∀ j, j < tlen f → ∀ (pa' : Option Addr) (pc' : Nat) (a' : Option Addr) (c' : Nat) (w' : World), PA w' 0 (tpath f j) pa' → MA w' 0 (tkid f j) a' → Calls Tryz.prog 40 #[.agg #[.int .i64 (tkind f j), .int .i64 (tnum f j), .string (tname f j), .slice pa' (tpath f j).length pc', .slice a' (tlen (tkid f j)) c']] w' fun e w'' => e = .returned (.string (kidX 8 f j)) ∧ Ex w' w'') := fun j hj pa' pc' a' c' w' q1 q2 =>
    l12Say_any 8 _ _ _ _ pa' pc' _ a' c' w' (h j hj) (Nat.le_trans (tW_kid hj) hz) q1 q2
  have hln : tlen f ≤ 1048576 := by rw [tW_sum] at hz; omega
  have PX : Hid (rowsX f = upX (rowX f) (tlen f)) := rfl
  generalize rowsX f = px at PX ⊢
  clear h hz hM
  go_enter Tryz.func26, Tryz.ntmps26
  go_wp2_with fail
  go_loopw [3, 4] (fun ov i wr => ∃ (j : Nat), j ≤ tlen f ∧ i = .int .i64 j ∧ ov = .string (upX (rowX f) j) ∧ Ex w wr) (fun _ i _ => tlen f - (intOf i).toNat)
  case atStart => exact ⟨0, by omega, rfl, rfl, Ex.refl _⟩
  case round =>
    obtain ⟨j, hj, rfl, rfl, hx⟩ := hrel
    have X : Hid (Ex w wr) := hx
    clear hx
    by_cases hlt : j < tlen f
    · obtain ⟨b, o, rfl, _, hbs, hk⟩ := MA_at (M.out wr X.out) (by omega)
      obtain ⟨e0, e1, e2, ⟨pa', pc', e3, hp'⟩, a', c', e4, hm'⟩ := hk j hlt
      have HI : Hid _ := LS.out j hlt pa' pc' a' c' wr (PS_pa.1 hp') hm'
      obtain ⟨st, sd⟩ := SZ.out j hlt
      have HU : Hid (upX (rowX f) (j + 1) = upX (rowX f) j ++ ((if j = 0 then ⟨#[]⟩ else ⟨#[59]⟩) ++ (⟨#[32]⟩ ++ kidX 8 f j))) := rfl
      generalize upX (rowX f) j = t at st HU ⊢
      generalize kidX 8 f j = dd at sd HI HU
      have n1 : ¬ 9223372036854775807 < t.size + 1 := by omega
      have n2 : ¬ 9223372036854775807 < t.size + 1 + dd.size := by omega
      have n3 : ¬ 9223372036854775807 < t.size + 1 + 1 := by omega
      have n4 : ¬ 9223372036854775807 < t.size + 1 + 1 + dd.size := by omega
      clear hk hp' hm' st sd
      by_cases hj0 : j = 0
      · have HV : Hid (t ++ ⟨#[32]⟩ ++ dd = upX (rowX f) (j + 1)) := by
          show _ = _
          rw [HU.out, if_pos hj0, nil_cat, cat3]
        have g0 : decide ((0 : Int) < (j : Int)) = false := decide_eq_false (by omega)
        have g1 : decide (0 < j) = false := decide_eq_false (by omega)
        have g2 : ¬ 0 < j := by omega
        clear hj0 HU
        go_wp2_with fail
        refine Calls.mono HI.out ?_
        rintro e w1 ⟨rfl, hb1⟩
        have X1 : Hid (Ex w w1) := X.out.trans hb1
        clear hb1
        go_wp2_with fail
        go_roundw
        case rel => exact ⟨j + 1, by omega, by go_num, by rw [HV.out], X1.out⟩
        case measure => simp [intOf]; omega
      · have HV : Hid (t ++ ⟨#[59]⟩ ++ ⟨#[32]⟩ ++ dd = upX (rowX f) (j + 1)) := by
          show _ = _
          rw [HU.out, if_neg hj0, cat3, cat3]
        have g0 : decide ((0 : Int) < (j : Int)) = true := decide_eq_true (by omega)
        have g1 : decide (0 < j) = true := decide_eq_true (by omega)
        have g2 : 0 < j := by omega
        clear hj0 HU
        go_wp2_with fail
        refine Calls.mono HI.out ?_
        rintro e w1 ⟨rfl, hb1⟩
        have X1 : Hid (Ex w w1) := X.out.trans hb1
        clear hb1
        go_wp2_with fail
        go_roundw
        case rel => exact ⟨j + 1, by omega, by go_num, by rw [HV.out], X1.out⟩
        case measure => simp [intOf]; omega
    · have hje : j = tlen f := by omega
      have HR : Hid (px = upX (rowX f) j) := by show _ = _; rw [hje]; exact PX.out
      clear hje
      go_wp2_with fail
      go_ret
      exact ⟨ret_s HR.out.symm, X.out⟩

end Go.Proofs.YtpibamhkmmgooaaGreatDoor
