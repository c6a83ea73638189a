/- Walks: the program's texts of terms and names. -/
import Derived.Test.YtpibamhkmmgooaaGreatDoorTX4

import Derived.Test.YtpibamhkmmgooaaGreatDoorBD5

import Derived.Test.YtpibamhkmmgooaaGreatDoorBW

namespace Go.Proofs.YtpibamhkmmgooaaGreatDoor

open Go.RowKit Go.Deep

attribute [local go_sem ↓] Go.wp_at_zero Go.wp_at_succ

theorem itoa_dec (n : Int) (h0 : 0 ≤ n) (h1 : n ≤ 9999) (w : World) (ht : Tab w) :
    Calls Tryz.prog 75 #[.int .i64 n] w fun e w' => e = .returned (.string (dec n)) ∧ Ex w w' := by
  refine (itoa_any n (by omega) (by omega) w ht).mono ?_
  rintro e w' ⟨rfl, hx⟩
  refine ⟨ret_s ?_, hx⟩
  rw [dec, Lib.itoa, if_neg (by omega)]

set_option maxRecDepth 100000 in
set_option maxHeartbeats 1000000 in
theorem pathText_any (p : List Int) (a : Option Addr) (c : Nat) (w : World) (hp : pathB p = true) (hl : p.length ≤ 4) (hT : PA w 0 p a) (ht : Tab w) :
    Calls Tryz.prog 76 #[.slice a p.length c] w fun e w' => e = .returned (.string (pathX p)) ∧ Ex w w' := by
  have T : Hid (∀ w', Ex w w' → PA w' 0 p a) := fun _ h => PA_below hT h
  have SZ : Hid (∀ j, j ≤ p.length → (upX (fun i => ⟨#[46]⟩ ++ dec (p.getD i 0)) j).size ≤ 8) := fun j hj => by
    have h1 := upX_upto (fun i => ⟨#[46]⟩ ++ dec (p.getD i 0)) hj
    have h2 := pathX_size hp
    unfold pathX at h2
    omega
  have DC : Hid (∀ j, j < p.length → ∀ w', Ex w w' → Calls Tryz.prog 75 #[.int .i64 (p.getD j 0)] w' fun e w'' => e = .returned (.string (dec (p.getD j 0))) ∧ Ex w' w'') := fun j hj w' hx => by
    obtain ⟨h1, h2⟩ := pathB_at hp hj
    exact itoa_dec _ h1 (by omega) w' (ht.ex hx)
  have DS : Hid (∀ j, j < p.length → (dec (p.getD j 0)).size ≤ 1) := fun j hj => dec_size1 (by have := (pathB_at hp hj).2; omega)
  have PX : Hid (pathX p = upX (fun i => ⟨#[46]⟩ ++ dec (p.getD i 0)) p.length) := rfl
  generalize pathX p = px at PX ⊢
  clear hp hT ht
  go_enter Tryz.func76, Tryz.ntmps76
  go_wp2_with fail
  go_loopw [3, 5, 8] (fun ov _ i wr => ∃ (j : Nat), j ≤ p.length ∧ i = .int .i64 j ∧ ov = .string (upX (fun i => ⟨#[46]⟩ ++ dec (p.getD i 0)) j) ∧ Ex w wr) (fun _ _ i _ => p.length - (intOf i).toNat)
  case atStart => exact ⟨0, by omega, rfl, rfl, Ex.refl _⟩
  case round =>
    obtain ⟨j, hj, rfl, rfl, hx⟩ := hrel
    have X : Hid (Ex w wr) := hx
    clear hx
    by_cases hlt : j < p.length
    · obtain ⟨b, o, rfl, hbs, _, hc⟩ := PA_at (T.out wr X.out) (by omega)
      have ck := hc j hlt
      have HI : Hid _ := DC.out j hlt wr X.out
      have sd := DS.out j hlt
      have st := SZ.out j hj
      have HU : Hid (upX (fun i => ⟨#[46]⟩ ++ dec (p.getD i 0)) (j + 1) = upX (fun i => ⟨#[46]⟩ ++ dec (p.getD i 0)) j ++ (⟨#[46]⟩ ++ dec (p.getD j 0))) := rfl
      generalize upX (fun i => ⟨#[46]⟩ ++ dec (p.getD i 0)) j = t at st HU ⊢
      generalize p.getD j 0 = nn at ck sd HI HU ⊢
      generalize dec nn = dd at sd HI HU ⊢
      have n1 : ¬ 9223372036854775807 < 1 + dd.size := by omega
      have n2 : ¬ 9223372036854775807 < t.size + (1 + dd.size) := by omega
      clear hc sd st
      go_wp2_with fail
      refine Calls.mono HI.out ?_
      rintro e w1 ⟨rfl, hb1⟩
      have X1 : Hid (Ex w w1) := X.out.trans hb1
      clear hb1
      go_wp2_with fail
      go_roundw
      case rel => exact ⟨j + 1, by omega, by go_num, by rw [HU.out], X1.out⟩
      case measure => simp [intOf]; omega
    · have hje : j = p.length := by omega
      have HR : Hid (px = upX (fun i => ⟨#[46]⟩ ++ dec (p.getD i 0)) j) := by show _ = _; rw [hje]; exact PX.out
      clear hje
      go_wp2_with fail
      go_ret
      exact ⟨ret_s HR.out.symm, X.out⟩

set_option maxRecDepth 100000 in
set_option maxHeartbeats 2000000 in
theorem termWord_any (k n : Int) (s : ByteArray) (p : List Int) (pa : Option Addr) (pc l : Nat) (a : Option Addr) (c : Nat) (w : World) (h : tokB k n s p l = true) (hT : PA w 0 p pa) (ht : Tab w) :
    Calls Tryz.prog 64 #[.agg #[.int .i64 k, .int .i64 n, .string s, .slice pa p.length pc, .slice a l c]] w fun e w' => e = .returned (.string (wordX k n s p)) ∧ Ex w w' := by
  have N : Hid (∀ k, Ex w (w.alloc (.cells #[.int .i64 k, .int .i64 n, .string s, .slice pa p.length pc, .slice a l c] 83))) := fun _ => Ex.new _ _
  have T : Hid (∀ w', Ex w w' → PA w' 0 p pa) := fun _ h => PA_below hT h
  have TB : Hid (∀ w', Ex w w' → Tab w') := fun _ h => ht.ex h
  clear hT ht
  rcases tok_kinds h with ⟨rfl, h0, h1, hl⟩ | ⟨rfl, hl⟩ | ⟨hk, hl⟩ | ⟨rfl, hp, hp4, hl⟩ | ⟨rfl, hp, hp4, hl⟩
  · have HR : Hid (wordX 1 n s p = dec n) := rfl
    clear h hl
    go_enter Tryz.func64, Tryz.ntmps64
    go_wp2_with fail
    refine Calls.mono (itoa_dec n h0 h1 _ (TB.out _ (N.out _))) ?_
    rintro e w1 ⟨rfl, hb1⟩
    go_wp2_with fail
    go_ret
    exact ⟨ret_s HR.out.symm, (N.out _).trans hb1⟩
  · have HR : Hid (wordX 2 n s p = s) := rfl
    clear h hl
    go_enter Tryz.func64, Tryz.ntmps64
    go_wp2_with fail
    go_ret
    exact ⟨ret_s HR.out.symm, N.out _⟩
  · clear h hl
    rcases hk with rfl | rfl | rfl | rfl
    all_goals
      go_enter Tryz.func64, Tryz.ntmps64
      go_wp2_with fail
      go_ret
      exact ⟨rfl, N.out _⟩
  · have HR : Hid (wordX 7 n s p = ⟨#[97, 116]⟩ ++ pathX p) := rfl
    have PT : Hid (∀ w', Ex w w' → Calls Tryz.prog 76 #[.slice pa p.length pc] w' fun e w'' => e = .returned (.string (pathX p)) ∧ Ex w' w'') := fun w' h => pathText_any p pa pc w' hp hp4 (T.out w' h) (TB.out w' h)
    have zp := pathX_size hp
    generalize pathX p = px at HR PT zp
    have n1 : ¬ 9223372036854775807 < 2 + px.size := by omega
    clear h hl zp hp hp4
    go_enter Tryz.func64, Tryz.ntmps64
    go_wp2_with fail
    refine Calls.mono (PT.out _ (N.out _)) ?_
    rintro e w1 ⟨rfl, hb1⟩
    go_wp2_with fail
    go_ret
    exact ⟨ret_s HR.out.symm, (N.out _).trans hb1⟩
  · have HR : Hid (wordX 8 n s p = ⟨#[112, 117, 116]⟩ ++ pathX p) := rfl
    have PT : Hid (∀ w', Ex w w' → Calls Tryz.prog 76 #[.slice pa p.length pc] w' fun e w'' => e = .returned (.string (pathX p)) ∧ Ex w' w'') := fun w' h => pathText_any p pa pc w' hp hp4 (T.out w' h) (TB.out w' h)
    have zp := pathX_size hp
    generalize pathX p = px at HR PT zp
    have n1 : ¬ 9223372036854775807 < 3 + px.size := by omega
    clear h hl zp hp hp4
    go_enter Tryz.func64, Tryz.ntmps64
    go_wp2_with fail
    refine Calls.mono (PT.out _ (N.out _)) ?_
    rintro e w1 ⟨rfl, hb1⟩
    go_wp2_with fail
    go_ret
    exact ⟨ret_s HR.out.symm, (N.out _).trans hb1⟩

set_option maxRecDepth 100000 in
set_option maxHeartbeats 4000000 in
theorem termText_any : ∀ (d : Nat) (k n : Int) (s : ByteArray) (p : List Int) (pa : Option Addr) (pc : Nat) (f : TM) (a : Option Addr) (c : Nat) (w : World), TO d k n s p f → tW f ≤ 1048576 → s.size + p.length ≤ 1048576 → PA w 0 p pa → MA w 0 f a → Tab w →
    Calls Tryz.prog 47 #[.agg #[.int .i64 k, .int .i64 n, .string s, .slice pa p.length pc, .slice a (tlen f) c]] w fun e w' => e = .returned (.string (termX d k n s p f)) ∧ Ex w w' := by
  intro d
  induction d with
  | zero => intro k n s p pa pc f a c w h; exact h.elim
  | succ d ih =>
    intro k n s p pa pc f a c w h hz hzs hP hM ht
    have N : Hid (Ex w (w.alloc (.cells #[.int .i64 k, .int .i64 n, .string s, .slice pa p.length pc, .slice a (tlen f) c] 83))) := Ex.new _ _
    have M : Hid (∀ w', Ex w w' → MA w' 0 f a) := fun _ h => MA_below hM h
    have WD : Hid (∀ w', Ex w w' → Calls Tryz.prog 64 #[.agg #[.int .i64 k, .int .i64 n, .string s, .slice pa p.length pc, .slice a (tlen f) c]] w' fun e w'' => e = .returned (.string (wordX k n s p)) ∧ Ex w' w'') := fun w' hx => termWord_any k n s p pa pc _ a c w' h.1 (PA_below hP hx) (ht.ex hx)
    have HK : Hid (∀ j, j < tlen f → ∀ (pa' : Option Addr) (pc' : Nat) (a' : Option Addr) (c' : Nat) (w' : World), Ex w w' → PA w' 0 (tpath f j) pa' → MA w' 0 (tkid f j) a' → Calls Tryz.prog 47 #[.agg #[.int .i64 (tkind f j), .int .i64 (tnum f j), .string (tname f j), .slice pa' (tpath f j).length pc', .slice a' (tlen (tkid f j)) c']] w' fun e w'' => e = .returned (.string (kidX d f j)) ∧ Ex w' w'') := fun j hj pa' pc' a' c' w' hx q1 q2 =>
      ih _ _ _ _ pa' pc' _ a' c' w' (h.2 j hj) (Nat.le_trans (tW_kid hj) hz) (by have := tWk_le hj; have e2 : tWk f j = (tname f j).size + (tpath f j).length + tW (tkid f j) := rfl; omega) q1 q2 (ht.ex hx)
    have SZ : Hid (∀ j, j < tlen f → (wordX k n s p ++ upX (fun i => ⟨#[32]⟩ ++ kidX d f i) j).size + (kidX d f j).size ≤ 100000000) := fun j hj => by
      have h1 := upX_upto (fun i => ⟨#[32]⟩ ++ kidX d f i) (show j ≤ tlen f by omega)
      have h2 := termX_size h
      rw [termX_at, ByteArray.size_append] at h2
      have h3 := kidX_size h.2 hz hj
      rw [ByteArray.size_append]
      omega
    have RX : Hid (termX (d + 1) k n s p f = wordX k n s p ++ upX (fun i => ⟨#[32]⟩ ++ kidX d f i) (tlen f)) := rfl
    have HUU : Hid (∀ j, (wordX k n s p ++ upX (fun i => ⟨#[32]⟩ ++ kidX d f i) j) ++ (⟨#[32]⟩ ++ kidX d f j) = wordX k n s p ++ upX (fun i => ⟨#[32]⟩ ++ kidX d f i) (j + 1)) := fun j => by rw [cat3, upX]
    have H0 : Hid (wordX k n s p ++ upX (fun i => ⟨#[32]⟩ ++ kidX d f i) 0 = wordX k n s p) := cat_nil _
    have hln : tlen f ≤ 1048576 := by rw [tW_sum] at hz; omega
    generalize termX (d + 1) k n s p f = R at RX ⊢
    generalize wordX k n s p = wx at WD SZ RX HUU H0
    clear h hz hzs hP hM ht ih
    go_enter Tryz.func47, Tryz.ntmps47
    go_wp2_with fail
    refine Calls.mono (WD.out _ N.out) ?_
    rintro e w1 ⟨rfl, hb1⟩
    have X1 : Hid (Ex (w.alloc (.cells #[.int .i64 k, .int .i64 n, .string s, .slice pa p.length pc, .slice a (tlen f) c] 83)) w1) := hb1
    have c4 : w1.cell? ⟨w.heap.size, 4, none⟩ = some (.slice a (tlen f) c) := hb1.at (by simp)
    clear hb1 WD
    go_wp2_with fail
    clear c4
    go_loopw [3, 5, 11] (fun ov _ i wr => ∃ (j : Nat), j ≤ tlen f ∧ i = .int .i64 j ∧ ov = .string (wx ++ upX (fun i => ⟨#[32]⟩ ++ kidX d f i) j) ∧ Ex (w.alloc (.cells #[.int .i64 k, .int .i64 n, .string s, .slice pa p.length pc, .slice a (tlen f) c] 83)) wr) (fun _ _ i _ => tlen f - (intOf i).toNat)
    case atStart => exact ⟨0, by omega, rfl, by rw [H0.out], X1.out⟩
    case round =>
      obtain ⟨j, hj, rfl, rfl, hx⟩ := hrel
      have E : Hid (Ex (w.alloc (.cells #[.int .i64 k, .int .i64 n, .string s, .slice pa p.length pc, .slice a (tlen f) c] 83)) wr) := hx
      clear hx
      by_cases hlt : j < tlen f
      · obtain ⟨b, o, rfl, _, hbs, hk⟩ := MA_at (M.out wr (N.out.trans E.out)) (by omega)
        obtain ⟨e0, e1, e2, ⟨pa', pc', e3, hp'⟩, a', c', e4, hm'⟩ := hk j hlt
        have HI : Hid _ := HK.out j hlt pa' pc' a' c' (wr.alloc (.cells #[.int .i64 (tkind f j), .int .i64 (tnum f j), .string (tname f j), .slice pa' (tpath f j).length pc', .slice a' (tlen (tkid f j)) c'] 83)) (N.out.trans (E.out.trans (Ex.new _ _))) (PA_below (PS_pa.1 hp') (Ex.new _ _)) (MA_below hm' (Ex.new _ _))
        have hs := SZ.out j hlt
        have HV := HUU.out j
        have HV2 : Hid _ := HV
        clear HV
        generalize wx ++ upX (fun i => ⟨#[32]⟩ ++ kidX d f i) j = t at hs HV2 ⊢
        generalize kidX d f j = x at hs HV2 HI
        have n1 : ¬ 9223372036854775807 < 1 + x.size := by omega
        have n2 : ¬ 9223372036854775807 < t.size + (1 + x.size) := by omega
        clear hk hp' hm' hs
        have zr : w.heap.size < wr.heap.size := by have := E.out.size; rw [World.size_alloc] at this; omega
        go_wp2_with fail
        refine Calls.mono HI.out ?_
        rintro e w2 ⟨rfl, hb2⟩
        have E1 : Hid _ := E.out.trans ((Ex.new _ _).trans hb2)
        clear hb2 HI
        go_wp2_with fail
        go_roundw
        case rel => exact ⟨j + 1, by omega, by go_num, by rw [HV2.out], E1.out⟩
        case measure => simp [intOf]; omega
      · have hje : j = tlen f := by omega
        have HR : Hid (R = wx ++ upX (fun i => ⟨#[32]⟩ ++ kidX d f i) j) := by show _ = _; rw [hje]; exact RX.out
        clear hje
        go_wp2_with fail
        go_ret
        exact ⟨ret_s HR.out.symm, N.out.trans E.out⟩

end Go.Proofs.YtpibamhkmmgooaaGreatDoor
