/- Walks: the specification's text of functions. -/
import Derived.Test.YtpibamhkmmgooaaGreatDoorTX5

namespace Go.Proofs.YtpibamhkmmgooaaGreatDoor

open Go.RowKit Go.Deep

attribute [local go_sem ↓] Go.wp_at_zero Go.wp_at_succ

theorem pW_le {l : List PM} {i : Nat} (h : i < l.length) : pW (l.getD i pm0) ≤ qW l := by
  have := sumN_upto (qWk l) (show i + 1 ≤ l.length by omega)
  rw [qW_sum]
  simp only [sumN] at this
  have e : qWk l i = pW (l.getD i pm0) := rfl
  omega
theorem pW_parts {l : List PM} {i : Nat} (h : i < l.length) : (l.getD i pm0).name.size ≤ qW l ∧ xW (l.getD i pm0).params ≤ qW l ∧ bW (l.getD i pm0).binds + tW (l.getD i pm0).says ≤ qW l := by
  have h1 := pW_le h
  have e : pW (l.getD i pm0) = (l.getD i pm0).name.size + xW (l.getD i pm0).params + (bW (l.getD i pm0).binds + tW (l.getD i pm0).says) := rfl
  omega
theorem fns_upto {l : List PM} (h : pureB l = true) (hz : qW l ≤ 1048576) {j : Nat} (hj : j < l.length) : (upX (fun i => fnX (l.getD i pm0)) j).size + (fnX (l.getD j pm0)).size ≤ 1000000000 := by
  have h1 := fnsX_size (BO_all h)
  unfold fnsX at h1
  have h2 := upX_upto (fun i => fnX (l.getD i pm0)) (show j + 1 ≤ l.length by omega)
  rw [upX, ByteArray.size_append] at h2
  omega

set_option maxRecDepth 100000 in
set_option maxHeartbeats 4000000 in
theorem sPureText_any (l : List PM) (a : Option Addr) (c : Nat) (w : World) (hl : l.length ≤ 1000000000) (hs : ∀ i, i < l.length → PSm (l.getD i pm0)) (hz : qW l ≤ 1048576) (hQ : QA w 0 l a) :
    Calls Tryz.prog 5 #[.slice a l.length c] w fun e w' => e = .returned (.string (textP l)) ∧ Ex w w' := by
  have Q : Hid (∀ w', Ex w w' → QA w' 0 l a) := fun _ h => QA_below hQ h
  have OK : Hid _ := sPureOk_any l a c w hl hs hQ
  have HZ : Hid (qW l ≤ 1048576) := hz
  obtain ⟨r, hr⟩ : ∃ r, pureB l = r := ⟨_, rfl⟩
  rw [hr] at OK
  have HRR : Hid (pureB l = r) := hr
  have hll : l.length ≤ 1048576 := by rw [qW_sum] at hz; omega
  clear hQ hs hz hr
  cases r with
  | false =>
    have HT : Hid (textP l = ⟨#[]⟩) := by show _ = _; rw [textP, HRR.out]; rfl
    go_enter Tryz.func5, Tryz.ntmps5
    go_wp2_with fail
    refine Calls.mono OK.out ?_
    rintro e w1 ⟨rfl, hb1⟩
    go_wp2_with fail
    go_ret
    exact ⟨ret_s HT.out.symm, hb1⟩
  | true =>
    have HT : Hid (textP l = upX (fun i => fnX (l.getD i pm0)) l.length) := by show _ = _; rw [textP, HRR.out]; rfl
    have SZ : Hid (∀ j, j < l.length → (upX (fun i => fnX (l.getD i pm0)) j).size + (fnX (l.getD j pm0)).size ≤ 1000000000) := fun j hj => fns_upto HRR.out HZ.out hj
    have BOK : Hid (∀ i, i < l.length → BO 6 (l.getD i pm0).binds (l.getD i pm0).says) := BO_all HRR.out
    clear HRR
    go_enter Tryz.func5, Tryz.ntmps5
    go_wp2_with fail
    refine Calls.mono OK.out ?_
    rintro e w1 ⟨rfl, hb1⟩
    have X0 : Hid (Ex w w1) := hb1
    clear hb1 OK
    go_wp2_with fail
    go_loopw [3, 4] (fun ov i wr => ∃ (j : Nat), j ≤ l.length ∧ i = .int .i64 j ∧ ov = .string (upX (fun i => fnX (l.getD i pm0)) j) ∧ Ex w wr) (fun _ i _ => l.length - (intOf i).toNat)
    case atStart => exact ⟨0, by omega, rfl, rfl, X0.out⟩
    case round =>
      obtain ⟨j, hj, rfl, rfl, hx⟩ := hrel
      have E : Hid (Ex w wr) := hx
      clear hx
      by_cases hlt : j < l.length
      · obtain ⟨b, o, rfl, _, hbs, hk⟩ := QA_at (Q.out wr E.out) (by omega)
        obtain ⟨b0, ⟨a1, c1, b1, hnc, x1⟩, ⟨a2, c2, b2, x2⟩, ⟨a3, c3, b3, x3⟩⟩ := hk j hlt
        obtain ⟨q1, q2, q3⟩ := pW_parts hlt
        have hq := HZ.out
        have hsz := SZ.out j hlt
        have bo := BOK.out j hlt
        have HU : Hid (upX (fun i => fnX (l.getD i pm0)) (j + 1) = upX (fun i => fnX (l.getD i pm0)) j ++ fnX (l.getD j pm0)) := rfl
        have RWN : Hid (∀ w', Ex wr w' → Calls Tryz.prog 11 #[.slice a1 (l.getD j pm0).params.length c1] w' fun e w'' => e = .returned (.string (namesX (l.getD j pm0).params)) ∧ Ex w' w'') := fun w' hx => l12Row_any _ a1 c1 w' (by omega) (XA_below x1 hx)
        have LN : Hid (∀ w', Ex wr w' → Calls Tryz.prog 12 #[.agg #[.slice a2 (blen (l.getD j pm0).binds) c2, .slice a3 (tlen (l.getD j pm0).says) c3], .string ⟨#[32]⟩] w' fun e w'' => e = .returned (.string (bodyX 6 ⟨#[32]⟩ (l.getD j pm0).binds (l.getD j pm0).says)) ∧ Ex w' w'') := fun w' hx => l12Lines_any 6 ⟨#[32]⟩ _ a2 c2 _ a3 c3 w' (by show 1 + 6 ≤ 10; omega) bo (by omega) (BA_below x2 hx) (MA_below x3 hx)
        rw [fnX] at HU hsz
        clear hk x1 x2 x3 q1 q2 q3 hq bo hnc
        generalize bodyX 6 ⟨#[32]⟩ (l.getD j pm0).binds (l.getD j pm0).says = bx at LN HU hsz
        generalize namesX (l.getD j pm0).params = nx at RWN HU hsz
        generalize (l.getD j pm0).name = nm at b0 HU hsz
        generalize (l.getD j pm0).params.length = l1 at b1 RWN
        generalize blen (l.getD j pm0).binds = l2 at b2 LN
        generalize tlen (l.getD j pm0).says = l3 at b3 LN
        generalize upX (fun i => fnX (l.getD i pm0)) j = t at HU hsz ⊢
        have HV : Hid (t ++ nm ++ nx ++ ⟨#[10]⟩ ++ bx = upX (fun i => fnX (l.getD i pm0)) (j + 1)) := by show _ = _; rw [HU.out]; simp only [cat3]
        simp only [ByteArray.size_append] at hsz
        have e1 : (⟨#[10]⟩ : ByteArray).size = 1 := rfl
        have n1 : ¬ 9223372036854775807 < t.size + nm.size := by omega
        have n2 : ¬ 9223372036854775807 < t.size + nm.size + nx.size := by omega
        have n3 : ¬ 9223372036854775807 < t.size + nm.size + nx.size + 1 := by omega
        have n4 : ¬ 9223372036854775807 < t.size + nm.size + nx.size + 1 + bx.size := by omega
        have d1 : (0 : Int) ≤ (j : Int) := by omega
        have d2 : (j : Int) < (l.length : Int) := by omega
        have KX : Hid (∀ w', Ex wr w' → Ex w w' ∧ w'.cell? ⟨b, o + j * 4, none⟩ = some (.string nm) ∧ w'.cell? ⟨b, o + j * 4 + 1, none⟩ = some (.slice a1 l1 c1) ∧ w'.cell? ⟨b, o + j * 4 + 2, none⟩ = some (.slice a2 l2 c2) ∧ w'.cell? ⟨b, o + j * 4 + 3, none⟩ = some (.slice a3 l3 c3)) := fun w' h => ⟨E.out.trans h, h.at b0, h.at b1, h.at b2, h.at b3⟩
        clear hsz HU e1
        go_wp2_with fail
        go_region_held3 (fun w' => Ex wr w' ∧ w'.cell? ⟨b, o + j * 4, none⟩ = some (.string nm) ∧ w'.cell? ⟨b, o + j * 4 + 1, none⟩ = some (.slice a1 l1 c1) ∧ w'.cell? ⟨b, o + j * 4 + 2, none⟩ = some (.slice a2 l2 c2) ∧ w'.cell? ⟨b, o + j * 4 + 3, none⟩ = some (.slice a3 l3 c3)) ((refine (fun (h : Ex wr _) => ⟨h, (KX.out _ h).2⟩) ?_; first | exact (Ex.refl _).drew | exact (And.left ‹Ex _ _ ∧ _›) | exact Ex.trans (And.left ‹Ex _ _ ∧ _›) ‹Ex _ _›)) (first | (go_at_call 11; refine (RWN.out _ (And.left ‹Ex _ _ ∧ _›)).mono ?_; rintro e w2 ⟨rfl, hb2⟩) | (go_at_call 12; refine (LN.out _ (And.left ‹Ex _ _ ∧ _›)).mono ?_; rintro e w3 ⟨rfl, hb3⟩))
        go_wp2_with fail
        go_roundw
        case rel => exact ⟨j + 1, by omega, by go_num, by rw [HV.out], E.out.trans (And.left ‹Ex _ _ ∧ _›)⟩
        case measure => simp [intOf]; omega
      · have hje : j = l.length := by omega
        have HR : Hid (textP l = upX (fun i => fnX (l.getD i pm0)) j) := by show _ = _; rw [HT.out, hje]
        clear hje
        go_wp2_with fail
        go_ret
        exact ⟨ret_s HR.out.symm, E.out⟩

end Go.Proofs.YtpibamhkmmgooaaGreatDoor
