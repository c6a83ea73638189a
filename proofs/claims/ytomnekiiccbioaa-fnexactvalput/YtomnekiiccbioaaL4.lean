/- The law on parts of parts of types, walked. -/
import Derived.Test.YtomnekiiccbioaaW7
import Derived.Deep.CutRange
namespace Go.Proofs.Ytomnekiiccbioaa
open Go.RowKit Go.Deep
attribute [local go_sem ↓] Go.wp_at_zero Go.wp_at_succ

theorem partF_append : ∀ (p q : List Int) (f : F), partF f (p ++ q) = (partF f p).bind fun g => partF g q
  | [], q, f => rfl
  | i :: p, q, f => by
    simp only [List.cons_append, partF]
    split
    · exact partF_append p q _
    · rfl

theorem fits_mono2 : ∀ (r : Nat) (f : F), fits r f = true → fits (r + 1) f = true
  | 0, f, h => by simp [fits] at h
  | r + 1, f, h => by
    rcases fits_len h with h0 | h2
    · exact fits_nil h0
    · rw [fits_two h2, Bool.and_eq_true] at h
      rw [fits_two h2, fits_mono2 r _ h.1, fits_mono2 r _ h.2]; rfl

theorem fits_mono_le {r s : Nat} {f : F} (h : fits r f = true) (hrs : r ≤ s) : fits s f = true := by
  induction hrs with
  | refl => exact h
  | step _ ih => exact fits_mono2 _ _ ih

theorem fits_part4 : ∀ (p : List Int) (r : Nat) (f g : F), fits r f = true → partF f p = some g → fits r g = true
  | [], r, f, g, h, e => by cases e; exact h
  | i :: p, r, f, g, h, e => by
    simp only [partF] at e
    split at e
    · rename_i hi
      cases r with
      | zero => simp [fits] at h
      | succ r =>
        have h2 : len f = 2 := by have := fits_len h; omega
        rw [fits_two h2, Bool.and_eq_true] at h
        have : i.toNat = 0 ∨ i.toNat = 1 := by omega
        rcases this with hi | hi <;> rw [hi] at e
        · exact fits_mono2 _ _ (fits_part4 p r _ g h.1 e)
        · exact fits_mono2 _ _ (fits_part4 p r _ g h.2 e)
    · cases e

/-- What the law says. -/
theorem typeAt_cut {f : F} {p : List Int} (h : (typeAtR f p).2 = true) (cut : Nat) : (typeAtR f (p.take cut)).2 = true ∧ typeAtR (typeAtR f (p.take cut)).1 (p.drop cut) = typeAtR f p := by
  by_cases hf : fits 4 f = true
  · cases hp : partF f p with
    | none => simp [typeAtR, hf, hp] at h
    | some g =>
      have ha := partF_append (p.take cut) (p.drop cut) f
      rw [List.take_append_drop, hp] at ha
      cases h1 : partF f (p.take cut) with
      | none => rw [h1] at ha; simp at ha
      | some g1 =>
        rw [h1] at ha
        simp at ha
        have hg1 := fits_part4 _ 4 f g1 hf h1
        simp [typeAtR, hf, hp, h1, hg1, ← ha]
  · simp [typeAtR, hf] at h

theorem typeAt_sm {f : F} (p : List Int) : len (typeAtR f p).1 ≤ 1000000000 ∧ Sm (typeAtR f p).1 ∧ dep (typeAtR f p).1 ≤ 4 := by
  by_cases hf : fits 4 f = true
  · cases hp : partF f p with
    | none => simp [typeAtR, hf, hp, len, Sm, dep]
    | some g =>
      have hg := fits_part4 _ 4 f g hf hp
      have h1 := fits_sm _ _ hg
      have h2 := fits_dep _ _ hg
      simp only [typeAtR, hf, hp, if_true]
      exact ⟨by omega, h1.2, by omega⟩
  · simp [typeAtR, hf, len, Sm, dep]

theorem PA_take {w : World} {lo : Nat} {p : List Int} {a : Option Addr} (h : PA w lo p a) (k : Nat) (hk : k ≤ p.length) : PA w lo (p.take k) a := by
  rcases h with h | ⟨b, o, e, hb, hc⟩
  · exact Or.inl (by simp; omega)
  · refine Or.inr ⟨b, o, e, hb, fun i hi => ?_⟩
    have hi' : i < k ∧ i < p.length := by simpa [Nat.lt_min] using hi
    rw [hc i hi'.2]
    simp [List.getD, List.getElem?_take_of_lt hi'.1]

theorem PA_drop {w : World} {lo : Nat} {p : List Int} {b o : Nat} (h : PA w lo p (some ⟨b, o, none⟩)) (k : Nat) (hk : k < p.length) : PA w lo (p.drop k) (some ⟨b, o + k, none⟩) := by
  rcases h with h | ⟨b', o', e, hb, hc⟩
  · omega
  · cases e
    refine Or.inr ⟨b, o + k, rfl, hb, fun i hi => ?_⟩
    have hi' : k + i < p.length := by simp at hi; omega
    have := hc (k + i) hi'
    rw [show o + k + i = o + (k + i) by omega, this]
    simp [List.getD, List.getElem?_drop]

theorem PA_drop' {w : World} {lo : Nat} {p : List Int} {a base : Option Addr} (h : PA w lo p a) (k : Nat) (hb : k < p.length → ∀ b o, a = some ⟨b, o, none⟩ → base = some ⟨b, o + k, none⟩) : PA w lo (p.drop k) base := by
  by_cases hk : k < p.length
  · obtain ⟨b, o, e, _⟩ := PA_at h (by omega)
    subst e
    rw [hb hk b o rfl]
    exact PA_drop h k hk
  · exact Or.inl (by simp; omega)

theorem TA_set {w : World} {lo : Nat} {f : F} {a : Option Addr} (h : TA w lo f a) {p : Addr} (hp : p.block < lo) (v : Value) : TA (w.setCell p v) lo f a :=
  SA_ks h fun b hb _ => Below.heap_setCell _ _ _ _ (by have : lo ≤ b := hb; omega)

set_option maxRecDepth 100000 in
set_option maxHeartbeats 4000000 in
theorem lawTypeAt (n cc m mc : Nat) (ca ma : Option Addr) (w : World) (hn : n ≤ cc) (hc : cc ≤ 9223372036854775807) (hB : By w n ca) :
    Calls Try.prog 3 #[.slice ca n cc, .slice ma m mc] w fun e w' => e = .returned (.bool true) ∧ Ex w w' := by
  have B : Hid (By w n ca) := hB
  clear hB
  by_cases hbig : 1048576 < n
  · have d1 : decide ((1048576 : Int) < (n : Int)) = true := by simp; omega
    go_enter Try.func3, Try.ntmps3
    go_wp2_with fail
    go_ret
    exact ⟨rfl, Ex.refl _⟩
  have d1 : decide ((1048576 : Int) < (n : Int)) = false := by simp; omega
  by_cases hbig2 : 1048576 < m
  · have d2 : decide ((1048576 : Int) < (m : Int)) = true := by simp; omega
    go_enter Try.func3, Try.ntmps3
    go_wp2_with fail
    go_ret
    exact ⟨rfl, Ex.refl _⟩
  have d2 : decide ((1048576 : Int) < (m : Int)) = false := by simp; omega
  go_enter Try.func3, Try.ntmps3
  go_wp2_with fail
  refine (DrawTypeAt_any n cc ca _ hn hc B.out).mono ?_
  rintro e w1 ⟨f, a, c, p, pa, pc, rfl, ht, hsm, hpa, hpl, hpx, hx1⟩
  have T : Hid (∀ w', Ex w1 w' → TA w' w.heap.size f a) := fun _ h => TA_below ht h
  have PP : Hid (∀ w', Ex w1 w' → PA w' 0 p pa) := fun _ h => PA_below (PA_lo hpa (Nat.zero_le _)) h
  have PX : Hid _ := hpx
  clear ht hpa hpx hsm
  go_wp2_with fail
  refine (sTypeAt_any f p a c pa pc w.heap.size _ (by omega) (T.out _ (Ex.new _ _)) (PP.out _ (Ex.new _ _))).mono ?_
  rintro e w2 ⟨a2, c2, rfl, ht2, hb2⟩
  have x2 : Ex w1 w2 := (Ex.new _ _).trans hb2
  have q1 : w2.cell? ⟨w1.heap.size, 0, none⟩ = some (.slice a (len f) c) := hb2.at (World.cell?_alloc_new _ _ _ _)
  have TS : Hid (typeAtR f p = typeAtR f p) := rfl
  have SG : Hid (len (typeAtR f p).1 ≤ 1000000000 ∧ Sm (typeAtR f p).1 ∧ dep (typeAtR f p).1 ≤ 4) := typeAt_sm p
  have CUT : Hid (∀ cut, (typeAtR f p).2 = true → (typeAtR f (p.take cut)).2 = true ∧ typeAtR (typeAtR f (p.take cut)).1 (p.drop cut) = typeAtR f p) := fun cut h => typeAt_cut h cut
  have IT : Hid (∀ w', Ex w1 w' → Calls Try.prog 23 #[.agg #[.slice a (len f) c], .slice pa p.length pc] w' fun e w'' => ∃ a' cap', e = .returned (.tuple #[.agg #[.slice a' (len (typeAtR f p).1) cap'], .bool (typeAtR f p).2]) ∧ TA w'' w'.heap.size (typeAtR f p).1 a' ∧ Ex w' w'') := fun w' h => iTypeAt_any f p a c pa pc w.heap.size w' (by omega) (T.out _ h) (PP.out _ h)
  generalize htr : typeAtR f p = tr at *
  obtain ⟨g, ok⟩ := tr
  have HTR : Hid (typeAtR f p = (g, ok)) := htr
  clear htr
  simp only at ht2
  have z2 : w1.heap.size < w2.heap.size := by have := hb2.size; rw [World.size_alloc] at this; omega
  go_wp2_with fail
  refine (IT.out _ (x2.trans (Ex.new _ _))).mono ?_
  rintro e w3 ⟨a3, c3, rfl, ht3, hb3⟩
  have z3 : w2.heap.size < w3.heap.size := by have := hb3.size; rw [World.size_alloc] at this; omega
  obtain ⟨W, hW⟩ : ∃ W, W = w3.alloc (.cells #[.slice a3 (len g) c3] 25) := ⟨_, rfl⟩
  have XW : Hid (Ex w1 W) := hW ▸ (x2.trans ((Ex.new _ _).trans (hb3.trans (Ex.new _ _))))
  have C5 : Hid (∀ w', Ex W w' → w'.cell? ⟨w1.heap.size, 0, none⟩ = some (.slice a (len f) c)) := fun w' h => h.at (hW ▸ ((Ex.new _ _).at (hb3.at ((Ex.new _ _).at q1))))
  have C7 : Hid (∀ w', Ex W w' → w'.cell? ⟨w2.heap.size, 0, none⟩ = some (.slice a2 (len g) c2)) := fun w' h => h.at (hW ▸ ((Ex.new _ _).at (hb3.at (World.cell?_alloc_new _ _ _ _))))
  have C9 : Hid (∀ w', Ex W w' → w'.cell? ⟨w3.heap.size, 0, none⟩ = some (.slice a3 (len g) c3)) := fun w' h => h.at (hW ▸ (World.cell?_alloc_new _ _ _ _))
  have T2 : Hid (∀ w', Ex W w' → TA w' 0 g a2) := fun w' h => TA_below (TA_lo ht2 (Nat.zero_le _)) ((Ex.new _ _).trans (hb3.trans ((Ex.new _ _).trans (hW ▸ h))))
  have T3 : Hid (∀ w', Ex W w' → TA w' 0 g a3) := fun w' h => TA_below (TA_lo ht3 (Nat.zero_le _)) ((Ex.new _ _).trans (hW ▸ h))
  have zW : w3.heap.size < W.heap.size := by rw [hW, World.size_alloc]; omega
  have q5 : w3.cell? ⟨w1.heap.size, 0, none⟩ = some (.slice a (len f) c) := hb3.at ((Ex.new _ _).at q1)
  have q7 : w3.cell? ⟨w2.heap.size, 0, none⟩ = some (.slice a2 (len g) c2) := hb3.at (World.cell?_alloc_new _ _ _ _)
  have z4 : w1.heap.size < w3.heap.size := by omega
  have LH : Hid (∀ w' a' c', Ex W w' → TA w' 0 g a' → ∀ a'' c'', TA w' 0 g a'' → Calls Try.prog 24 #[.agg #[.slice a' (len g) c'], .agg #[.slice a'' (len g) c'']] w' fun e w'' => e = .returned (.bool true) ∧ Ex w' w'') := fun w' a' c' _ h a'' c'' h' => by
    have := lhType_any (dep g + 1) g g a' a'' c' c'' 0 0 w' (by omega) SG.out.1 SG.out.2.1 h h'
    rw [eqT_refl] at this; exact this
  clear ht2 ht3 q1
  cases ok
  · go_wp2_with fail
    rw [← hW]
    clear hW
    refine (LH.out W a3 c3 (Ex.refl _) (T3.out _ (Ex.refl _)) a2 c2 (T2.out _ (Ex.refl _))).mono ?_
    rintro e w4 ⟨rfl, hb4⟩
    have r7 := C7.out w4 hb4
    have r9 := C9.out w4 hb4
    go_wp2_with fail
    refine (LH.out w4 a3 c3 hb4 (T3.out _ hb4) a2 c2 (T2.out _ hb4)).mono ?_
    rintro e w5 ⟨rfl, hb5⟩
    go_wp2_with fail
    go_ret
    exact ⟨rfl, hx1.trans (XW.out.trans (hb4.trans hb5))⟩
  · go_wp2_with fail
    rw [← hW]
    clear hW
    refine (LH.out W a3 c3 (Ex.refl _) (T3.out _ (Ex.refl _)) a2 c2 (T2.out _ (Ex.refl _))).mono ?_
    rintro e w4 ⟨rfl, hb4⟩
    have r5 := C5.out w4 hb4
    have z5 : w1.heap.size < w4.heap.size := by have := hb4.size; omega
    have hcm : (m : Int).tmod ((p.length : Int) + 1) = (m : Int) % ((p.length : Int) + 1) := Int.tmod_eq_emod_of_nonneg (by omega)
    have PQ : Hid (p.length ≤ pc) := PX.out.1
    go_upto_region 9 with fail
    have h0 : 0 ≤ (m : Int) % ((p.length : Int) + 1) := Int.emod_nonneg _ (by omega)
    have h1 : (m : Int) % ((p.length : Int) + 1) ≤ (p.length : Int) := by have := Int.emod_lt_of_pos (m : Int) (show 0 < (p.length : Int) + 1 by omega); omega
    clear hcm
    generalize (m : Int) % ((p.length : Int) + 1) = h at *
    have h2 : h ≤ (pc : Int) := by have := PQ.out; omega
    have G1 : Hid ((typeAtR f (p.take h.toNat)).2 = true ∧ typeAtR (typeAtR f (p.take h.toNat)).1 (p.drop h.toNat) = (g, true)) := CUT.out _ trivial
    have hpl' : (p.take h.toNat).length = h.toNat := by simp; omega
    have hpd' : (p.drop h.toNat).length = p.length - h.toNat := by simp
    have I1 : Hid (∀ w', Ex w4 w' → Calls Try.prog 23 #[.agg #[.slice a (len f) c], .slice pa h.toNat pc] w' fun e w'' => ∃ a' cap', e = .returned (.tuple #[.agg #[.slice a' (len (typeAtR f (p.take h.toNat)).1) cap'], .bool true]) ∧ TA w'' w'.heap.size (typeAtR f (p.take h.toNat)).1 a' ∧ Ex w' w'') := fun w' hx => by
      have := iTypeAt_any f (p.take h.toNat) a c pa pc w.heap.size w' (by omega) (T.out _ (XW.out.trans (hb4.trans hx))) (PA_take (PP.out _ (XW.out.trans (hb4.trans hx))) _ (by omega))
      rw [hpl', G1.out.1] at this
      exact this
    generalize (typeAtR f (p.take h.toNat)).1 = g1 at *
    clear hpl'
    go_cut [12, 13] from 68 to 75 (fun p12 p13 wx => p13 = .bool true ∧ ∃ b a' c', p12 = .pointer (some ⟨b, 0, none⟩) ∧ wx.cell? ⟨b, 0, none⟩ = some (.slice a' (len g1) c') ∧ Ex w4 wx ∧ TA wx 0 g1 a')
    case first =>
      go_region_with (first | (go_at_call 23; refine (I1.out _ (by first | exact (Ex.refl _).drew | exact (Ex.refl _).drew.trans (Ex.new _ _))).mono ?_; rintro e w5 ⟨a5, c5, rfl, ht5, hb5⟩; have xb : Ex w4 w5 := (by refine Ex.trans ?_ hb5; first | exact (Ex.refl _).drew | exact (Ex.new _ _).drew | exact (Ex.refl _).drew.alloc _); first | (have ob : w5.heap[w4.heap.size]? = some (.cells #[.slice none 0 0] 25) := (by first | exact hb5.blk (heap_alloc_new w4.drew _) | exact hb5.blk (heap_alloc_new w4 _)); have oc := cell_of_one ob; have oz := free_of_one ob) | skip))
      all_goals
        go_wp2_with fail
        go_meet
        first
          | exact ⟨rfl, w4.heap.size, a5, c5, rfl, cell_of_one (one_setCell ob), Ex.set xb (Nat.le_refl _) _, TA_lo (TA_set (TA_lo ht5 (Nat.le_of_eq (World.size_alloc w4 _).symm)) (Nat.lt_succ_self _) _) (Nat.zero_le _)⟩
          | exact ⟨rfl, w5.heap.size, a5, c5, rfl, World.cell?_alloc_new _ _ _ _, xb.alloc _, TA_lo (TA_below ht5 (Ex.new _ _)) (Nat.zero_le _)⟩
    case rest =>
      rename World => w6
      obtain ⟨rfl, b5, a5, c5, rfl, hq5, hx5, ht5⟩ := hcut
      have T5 : Hid (∀ w', Ex w6 w' → TA w' 0 g1 a5) := fun _ hh => TA_below ht5 hh
      have X6 : Hid (Ex w1 w6) := XW.out.trans (hb4.trans hx5)
      have I2 : Hid (∀ w', Ex w6 w' → ∀ base cp, PA w' 0 (p.drop h.toNat) base → Calls Try.prog 23 #[.agg #[.slice a5 (len g1) c5], .slice base (p.length - h.toNat) cp] w' fun e w'' => ∃ a' cap', e = .returned (.tuple #[.agg #[.slice a' (len g) cap'], .bool true]) ∧ TA w'' w'.heap.size g a' ∧ Ex w' w'') := fun w' hx base cp hp => by
        have := iTypeAt_any g1 (p.drop h.toNat) a5 c5 base cp 0 w' (by omega) (T5.out _ hx) hp
        rw [hpd', G1.out.2] at this
        exact this
      clear ht5 I1 hpd'
      have z6 : b5 < w6.heap.size := World.block_lt_of_cell? _ _ hq5
      go_upto_region 10 with fail
      go_cut [14, 15] from 76 to 83 (fun p14 p15 wx => p15 = .bool true ∧ ∃ b a' c', p14 = .pointer (some ⟨b, 0, none⟩) ∧ wx.cell? ⟨b, 0, none⟩ = some (.slice a' (len g) c') ∧ Ex w6 wx ∧ TA wx 0 g a')
      case first =>
        by_cases hpc : pc = h.toNat
        · have PB : Hid (∀ base : Option Addr, h.toNat < p.length → ∀ b o, pa = some ⟨b, o, none⟩ → base = some ⟨b, o + h.toNat, none⟩) := fun base hh => by have := PQ.out; omega
          subst hpc
          go_region_with (first | (go_at_call 23; refine (I2.out _ (by first | exact (Ex.refl _).drew | exact (Ex.refl _).drew.trans (Ex.new _ _)) _ _ (by first | exact PA_drop' (PP.out _ (X6.out.trans (Ex.refl _).drew)) _ (PB.out _) | exact PA_drop' (PP.out _ (X6.out.trans ((Ex.refl _).drew.trans (Ex.new _ _)))) _ (PB.out _))).mono ?_; rintro e w7 ⟨a7, c7, rfl, ht7, hb7⟩; have xb : Ex w6 w7 := (by refine Ex.trans ?_ hb7; first | exact (Ex.refl _).drew | exact (Ex.new _ _).drew | exact (Ex.refl _).drew.alloc _); first | (have ob : w7.heap[w6.heap.size]? = some (.cells #[.slice none 0 0] 25) := (by first | exact hb7.blk (heap_alloc_new w6.drew _) | exact hb7.blk (heap_alloc_new w6 _)); have oc := cell_of_one ob; have oz := free_of_one ob) | skip))
          all_goals
            go_wp2_with fail
            go_meet
            first
              | exact ⟨rfl, w6.heap.size, a7, c7, rfl, cell_of_one (one_setCell ob), Ex.set xb (Nat.le_refl _) _, TA_lo (TA_set (TA_lo ht7 (Nat.le_of_eq (World.size_alloc w6 _).symm)) (Nat.lt_succ_self _) _) (Nat.zero_le _)⟩
              | exact ⟨rfl, w7.heap.size, a7, c7, rfl, World.cell?_alloc_new _ _ _ _, xb.alloc _, TA_lo (TA_below ht7 (Ex.new _ _)) (Nat.zero_le _)⟩
        · have hpc' : ¬ h.toNat = pc := fun e => hpc e.symm
          have PB : Hid (∀ w', Ex w1 w' → PA w' 0 (p.drop h.toNat) (Option.map (fun x => x.add h.toNat) pa)) := fun w' hx => PA_drop' (PP.out _ hx) _ (fun _ b o e => by rw [e]; simp [Addr.add])
          go_region_with (first | (go_at_call 23; refine (I2.out _ (by first | exact (Ex.refl _).drew | exact (Ex.refl _).drew.trans (Ex.new _ _)) _ _ (by first | exact PB.out _ (X6.out.trans (Ex.refl _).drew) | exact PB.out _ (X6.out.trans ((Ex.refl _).drew.trans (Ex.new _ _))))).mono ?_; rintro e w7 ⟨a7, c7, rfl, ht7, hb7⟩; have xb : Ex w6 w7 := (by refine Ex.trans ?_ hb7; first | exact (Ex.refl _).drew | exact (Ex.new _ _).drew | exact (Ex.refl _).drew.alloc _); first | (have ob : w7.heap[w6.heap.size]? = some (.cells #[.slice none 0 0] 25) := (by first | exact hb7.blk (heap_alloc_new w6.drew _) | exact hb7.blk (heap_alloc_new w6 _)); have oc := cell_of_one ob; have oz := free_of_one ob) | skip))
          all_goals
            go_wp2_with fail
            go_meet
            first
              | exact ⟨rfl, w6.heap.size, a7, c7, rfl, cell_of_one (one_setCell ob), Ex.set xb (Nat.le_refl _) _, TA_lo (TA_set (TA_lo ht7 (Nat.le_of_eq (World.size_alloc w6 _).symm)) (Nat.lt_succ_self _) _) (Nat.zero_le _)⟩
              | exact ⟨rfl, w7.heap.size, a7, c7, rfl, World.cell?_alloc_new _ _ _ _, xb.alloc _, TA_lo (TA_below ht7 (Ex.new _ _)) (Nat.zero_le _)⟩
      case rest =>
        obtain ⟨rfl, b7, a7, c7, rfl, hq7, hx7, ht7⟩ := hcut
        have r9 := C9.out wc (hb4.trans (hx5.trans hx7))
        go_wp2_with fail
        refine (LH.out wc a7 c7 (hb4.trans (hx5.trans hx7)) ht7 a3 c3 (T3.out _ (hb4.trans (hx5.trans hx7)))).mono ?_
        rintro e w8 ⟨rfl, hb8⟩
        go_wp2_with fail
        go_ret
        exact ⟨rfl, hx1.trans (XW.out.trans (hb4.trans (hx5.trans (hx7.trans hb8))))⟩

end Go.Proofs.Ytomnekiiccbioaa
