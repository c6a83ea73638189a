/- The law on parts of parts of values, walked. -/
import Derived.Test.YtomnekiiccbioaaM1
import Derived.Test.YtomnekiiccbioaaD8
import Derived.Test.YtomnekiiccbioaaV9
import Derived.Test.YtomnekiiccbioaaL4
namespace Go.Proofs.Ytomnekiiccbioaa
open Go.RowKit Go.Deep
attribute [local go_sem ↓] Go.wp_at_zero Go.wp_at_succ

set_option maxRecDepth 100000 in
set_option maxHeartbeats 4000000 in
theorem lawValAt (n cc m mc : Nat) (ca ma : Option Addr) (w : World) (hn : n ≤ cc) (hc : cc ≤ 9223372036854775807) (hB : By w n ca) :
    Calls Try.prog 8 #[.slice ca n cc, .slice ma m mc] w fun e w' => e = .returned (.bool true) ∧ Ex w w' := by
  have B : Hid (By w n ca) := hB
  clear hB
  by_cases hbig : 1048576 < n
  · have d1 : decide ((1048576 : Int) < (n : Int)) = true := by simp; omega
    go_enter Try.func8, Try.ntmps8
    go_wp2_with fail
    go_ret
    exact ⟨rfl, Ex.refl _⟩
  have d1 : decide ((1048576 : Int) < (n : Int)) = false := by simp; omega
  by_cases hbig2 : 1048576 < m
  · have d2 : decide ((1048576 : Int) < (m : Int)) = true := by simp; omega
    go_enter Try.func8, Try.ntmps8
    go_wp2_with fail
    go_ret
    exact ⟨rfl, Ex.refl _⟩
  have d2 : decide ((1048576 : Int) < (m : Int)) = false := by simp; omega
  go_enter Try.func8, Try.ntmps8
  go_wp2_with fail
  refine (DrawValAt_any n cc ca _ hn hc B.out).mono ?_
  rintro e w1 ⟨k, f, a, c, p, pa, pc, rfl, ht, hsm, hpa, hpl, hpx, hx1⟩
  have T : Hid (∀ w', Ex w1 w' → VA w' w.heap.size f a) := fun _ h => VA_below ht h
  have PP : Hid (∀ w', Ex w1 w' → PA w' 0 p pa) := fun _ h => PA_below (PA_lo hpa (Nat.zero_le _)) h
  have PX : Hid _ := hpx
  have SM : Hid _ := hsm
  clear ht hpa hpx hsm
  go_wp2_with fail
  refine (sValAt_any k f p a c pa pc w.heap.size _ (by omega) SM.out.1 SM.out.2 (T.out _ (Ex.new _ _)) (PP.out _ (Ex.new _ _))).mono ?_
  rintro e w2 ⟨a2, c2, rfl, ht2, hb2⟩
  have x2 : Ex w1 w2 := (Ex.new _ _).trans hb2
  have q0 : w2.cell? ⟨w1.heap.size, 0, none⟩ = some (.int .i64 k) := hb2.at (by simp)
  have q1 : w2.cell? ⟨w1.heap.size, 1, none⟩ = some (.slice a (len f) c) := hb2.at (by simp)
  have SG : Hid (len (valAtR k f p).1.2 ≤ 1000000000 ∧ Sm (valAtR k f p).1.2 ∧ dep (valAtR k f p).1.2 ≤ 4) := valAt_sm k f p
  have CUT : Hid (∀ cut, (valAtR k f p).2 = true → (valAtR k f (p.take cut)).2 = true ∧ valAtR (valAtR k f (p.take cut)).1.1 (valAtR k f (p.take cut)).1.2 (p.drop cut) = valAtR k f p) := fun cut h => valAt_cut h cut
  have IT : Hid (∀ w', Ex w1 w' → Calls Try.prog 34 #[.agg #[.int .i64 k, .slice a (len f) c], .slice pa p.length pc] w' fun e w'' => ∃ a' cap', e = .returned (.tuple #[.agg #[.int .i64 (valAtR k f p).1.1, .slice a' (len (valAtR k f p).1.2) cap'], .bool (valAtR k f p).2]) ∧ VA w'' w'.heap.size (valAtR k f p).1.2 a' ∧ Ex w' w'') := fun w' h => iValAt_any k f p a c pa pc w.heap.size w' (by omega) (T.out _ h) (PP.out _ h)
  generalize htr : valAtR k f p = tr at *
  obtain ⟨⟨j, g⟩, ok⟩ := tr
  have HTR : Hid (valAtR k f p = ((j, g), ok)) := htr
  clear htr
  simp only at ht2
  have z2 : w1.heap.size < w2.heap.size := by have := hb2.size; rw [World.size_alloc] at this; omega
  go_wp2_with fail
  refine (IT.out _ (x2.trans (Ex.new _ _))).mono ?_
  rintro e w3 ⟨a3, c3, rfl, ht3, hb3⟩
  have z3 : w2.heap.size < w3.heap.size := by have := hb3.size; rw [World.size_alloc] at this; omega
  obtain ⟨W, hW⟩ : ∃ W, W = w3.alloc (.cells #[.int .i64 j, .slice a3 (len g) c3] 39) := ⟨_, rfl⟩
  have XW : Hid (Ex w1 W) := hW ▸ (x2.trans ((Ex.new _ _).trans (hb3.trans (Ex.new _ _))))
  have C5 : Hid (∀ w', Ex W w' → w'.cell? ⟨w1.heap.size, 0, none⟩ = some (.int .i64 k) ∧ w'.cell? ⟨w1.heap.size, 1, none⟩ = some (.slice a (len f) c)) := fun w' h => ⟨h.at (hW ▸ ((Ex.new _ _).at (hb3.at ((Ex.new _ _).at q0)))), h.at (hW ▸ ((Ex.new _ _).at (hb3.at ((Ex.new _ _).at q1))))⟩
  have C7 : Hid (∀ w', Ex W w' → w'.cell? ⟨w2.heap.size, 0, none⟩ = some (.int .i64 j) ∧ w'.cell? ⟨w2.heap.size, 1, none⟩ = some (.slice a2 (len g) c2)) := fun w' h => ⟨h.at (hW ▸ ((Ex.new _ _).at (hb3.at (World.cell?_alloc_new _ _ _ _)))), h.at (hW ▸ ((Ex.new _ _).at (hb3.at (World.cell?_alloc_new _ _ _ _))))⟩
  have C9 : Hid (∀ w', Ex W w' → w'.cell? ⟨w3.heap.size, 0, none⟩ = some (.int .i64 j) ∧ w'.cell? ⟨w3.heap.size, 1, none⟩ = some (.slice a3 (len g) c3)) := fun w' h => ⟨h.at (hW ▸ (World.cell?_alloc_new _ _ _ _)), h.at (hW ▸ (World.cell?_alloc_new _ _ _ _))⟩
  have T2 : Hid (∀ w', Ex W w' → VA w' 0 g a2) := fun w' h => VA_below (VA_lo ht2 (Nat.zero_le _)) ((Ex.new _ _).trans (hb3.trans ((Ex.new _ _).trans (hW ▸ h))))
  have T3 : Hid (∀ w', Ex W w' → VA w' 0 g a3) := fun w' h => VA_below (VA_lo ht3 (Nat.zero_le _)) ((Ex.new _ _).trans (hW ▸ h))
  have zW : w3.heap.size < W.heap.size := by rw [hW, World.size_alloc]; omega
  have q5 : w3.cell? ⟨w1.heap.size, 0, none⟩ = some (.int .i64 k) := hb3.at ((Ex.new _ _).at q0)
  have q5' : w3.cell? ⟨w1.heap.size, 1, none⟩ = some (.slice a (len f) c) := hb3.at ((Ex.new _ _).at q1)
  have q7 : w3.cell? ⟨w2.heap.size, 0, none⟩ = some (.int .i64 j) := hb3.at (World.cell?_alloc_new _ _ _ _)
  have q7' : w3.cell? ⟨w2.heap.size, 1, none⟩ = some (.slice a2 (len g) c2) := hb3.at (World.cell?_alloc_new _ _ _ _)
  have z4 : w1.heap.size < w3.heap.size := by omega
  have LH : Hid (∀ w' a' c', Ex W w' → VA w' 0 g a' → ∀ a'' c'', VA w' 0 g a'' → Calls Try.prog 37 #[.agg #[.int .i64 j, .slice a' (len g) c'], .agg #[.int .i64 j, .slice a'' (len g) c'']] w' fun e w'' => e = .returned (.bool true) ∧ Ex w' w'') := fun w' a' c' _ h a'' c'' h' => by
    have := lhVal_any (dep g + 1) j j g g a' a'' c' c'' 0 0 w' (by omega) SG.out.1 SG.out.2.1 h h'
    rw [eqV_refl] at this; simpa using this
  clear ht2 ht3 q1 q0
  cases ok
  · go_wp2_with fail
    rw [← hW]
    clear hW
    refine (LH.out W a3 c3 (Ex.refl _) (T3.out _ (Ex.refl _)) a2 c2 (T2.out _ (Ex.refl _))).mono ?_
    rintro e w4 ⟨rfl, hb4⟩
    obtain ⟨r7, r7'⟩ := C7.out w4 hb4
    obtain ⟨r9, r9'⟩ := C9.out w4 hb4
    go_wp2_with fail
    refine (LH.out w4 a3 c3 hb4 (T3.out _ hb4) a2 c2 (T2.out _ hb4)).mono ?_
    rintro e w5 ⟨rfl, hb5⟩
    go_wp2_with fail
    go_ret
    exact ⟨rfl, hx1.trans (XW.out.trans (hb4.trans hb5))⟩
  · go_wp2_with fail
    rw [← hW]
    clear hW
    refine (LH.out W a3 c3 (Ex.refl _) (T3.out _ (Ex.refl _)) a2 c2 (T2.out _ (Ex.refl _))).mono ?_
    rintro e w4 ⟨rfl, hb4⟩
    obtain ⟨r5, r5'⟩ := C5.out w4 hb4
    have z5 : w1.heap.size < w4.heap.size := by have := hb4.size; omega
    have hcm : (m : Int).tmod ((p.length : Int) + 1) = (m : Int) % ((p.length : Int) + 1) := Int.tmod_eq_emod_of_nonneg (by omega)
    have PQ : Hid (p.length ≤ pc) := PX.out.1
    go_upto_region 9 with fail
    have h0 : 0 ≤ (m : Int) % ((p.length : Int) + 1) := Int.emod_nonneg _ (by omega)
    have h1 : (m : Int) % ((p.length : Int) + 1) ≤ (p.length : Int) := by have := Int.emod_lt_of_pos (m : Int) (show 0 < (p.length : Int) + 1 by omega); omega
    clear hcm
    generalize (m : Int) % ((p.length : Int) + 1) = h at *
    have h2 : h ≤ (pc : Int) := by have := PQ.out; omega
    have G1 : Hid ((valAtR k f (p.take h.toNat)).2 = true ∧ valAtR (valAtR k f (p.take h.toNat)).1.1 (valAtR k f (p.take h.toNat)).1.2 (p.drop h.toNat) = ((j, g), true)) := CUT.out _ trivial
    have hpl' : (p.take h.toNat).length = h.toNat := by simp; omega
    have hpd' : (p.drop h.toNat).length = p.length - h.toNat := by simp
    have I1 : Hid (∀ w', Ex w4 w' → Calls Try.prog 34 #[.agg #[.int .i64 k, .slice a (len f) c], .slice pa h.toNat pc] w' fun e w'' => ∃ a' cap', e = .returned (.tuple #[.agg #[.int .i64 (valAtR k f (p.take h.toNat)).1.1, .slice a' (len (valAtR k f (p.take h.toNat)).1.2) cap'], .bool true]) ∧ VA w'' w'.heap.size (valAtR k f (p.take h.toNat)).1.2 a' ∧ Ex w' w'') := fun w' hx => by
      have := iValAt_any k f (p.take h.toNat) a c pa pc w.heap.size w' (by omega) (T.out _ (XW.out.trans (hb4.trans hx))) (PA_take (PP.out _ (XW.out.trans (hb4.trans hx))) _ (by omega))
      rw [hpl', G1.out.1] at this
      exact this
    generalize (valAtR k f (p.take h.toNat)).1 = mg at *
    obtain ⟨j1, g1⟩ := mg
    clear hpl'
    go_cut [12, 13] from 68 to 75 (fun p12 p13 wx => p13 = .bool true ∧ ∃ b a' c', p12 = .pointer (some ⟨b, 0, none⟩) ∧ wx.cell? ⟨b, 0, none⟩ = some (.int .i64 j1) ∧ wx.cell? ⟨b, 1, none⟩ = some (.slice a' (len g1) c') ∧ Ex w4 wx ∧ VA wx 0 g1 a')
    case first =>
      go_region_with (first | (go_at_call 34; refine (I1.out _ (by first | exact (Ex.refl _).drew | exact (Ex.refl _).drew.trans (Ex.new _ _))).mono ?_; rintro e w5 ⟨a5, c5, rfl, ht5, hb5⟩; have xb : Ex w4 w5 := (by refine Ex.trans ?_ hb5; first | exact (Ex.refl _).drew | exact (Ex.new _ _).drew | exact (Ex.refl _).drew.alloc _); first | (have ob : w5.heap[w4.heap.size]? = some (.cells #[.int .i64 0, .slice none 0 0] 39) := (by first | exact hb5.blk (heap_alloc_new w4.drew _) | exact hb5.blk (heap_alloc_new w4 _)); have oc := two_cell0 ob; have oc1 := two_cell1 ob; have oz := two_free (i := 0) ob; have oz1 := two_free (i := 1) ob) | skip))
      all_goals
        go_wp2_with fail
        go_meet
        first
          | exact ⟨rfl, w4.heap.size, a5, c5, rfl, two_cell0 (two_set ob), two_cell1 (two_set ob), Ex.set (Ex.set xb (Nat.le_refl _) _) (Nat.le_refl _) _, VA_lo (VA_set (VA_set (VA_lo ht5 (Nat.le_of_eq (World.size_alloc w4 _).symm)) (Nat.lt_succ_self _) _) (Nat.lt_succ_self _) _) (Nat.zero_le _)⟩
          | exact ⟨rfl, w5.heap.size, a5, c5, rfl, World.cell?_alloc_new _ _ _ _, World.cell?_alloc_new _ _ _ _, xb.alloc _, VA_lo (VA_below ht5 (Ex.new _ _)) (Nat.zero_le _)⟩
    case rest =>
      rename World => w6
      obtain ⟨rfl, b5, a5, c5, rfl, hq5, hq5', hx5, ht5⟩ := hcut
      have T5 : Hid (∀ w', Ex w6 w' → VA w' 0 g1 a5) := fun _ hh => VA_below ht5 hh
      have X6 : Hid (Ex w1 w6) := XW.out.trans (hb4.trans hx5)
      have I2 : Hid (∀ w', Ex w6 w' → ∀ base cp, PA w' 0 (p.drop h.toNat) base → Calls Try.prog 34 #[.agg #[.int .i64 j1, .slice a5 (len g1) c5], .slice base (p.length - h.toNat) cp] w' fun e w'' => ∃ a' cap', e = .returned (.tuple #[.agg #[.int .i64 j, .slice a' (len g) cap'], .bool true]) ∧ VA w'' w'.heap.size g a' ∧ Ex w' w'') := fun w' hx base cp hp => by
        have := iValAt_any j1 g1 (p.drop h.toNat) a5 c5 base cp 0 w' (by omega) (T5.out _ hx) hp
        rw [hpd', G1.out.2] at this
        exact this
      clear ht5 I1 hpd'
      have z6 : b5 < w6.heap.size := World.block_lt_of_cell? _ _ hq5
      go_upto_region 10 with fail
      go_cut [14, 15] from 76 to 83 (fun p14 p15 wx => p15 = .bool true ∧ ∃ b a' c', p14 = .pointer (some ⟨b, 0, none⟩) ∧ wx.cell? ⟨b, 0, none⟩ = some (.int .i64 j) ∧ wx.cell? ⟨b, 1, none⟩ = some (.slice a' (len g) c') ∧ Ex w6 wx ∧ VA wx 0 g a')
      case first =>
        by_cases hpc : pc = h.toNat
        · have PB : Hid (∀ base : Option Addr, h.toNat < p.length → ∀ b o, pa = some ⟨b, o, none⟩ → base = some ⟨b, o + h.toNat, none⟩) := fun base hh => by have := PQ.out; omega
          subst hpc
          go_region_with (first | (go_at_call 34; refine (I2.out _ (by first | exact (Ex.refl _).drew | exact (Ex.refl _).drew.trans (Ex.new _ _)) _ _ (by first | exact PA_drop' (PP.out _ (X6.out.trans (Ex.refl _).drew)) _ (PB.out _) | exact PA_drop' (PP.out _ (X6.out.trans ((Ex.refl _).drew.trans (Ex.new _ _)))) _ (PB.out _))).mono ?_; rintro e w7 ⟨a7, c7, rfl, ht7, hb7⟩; have xb : Ex w6 w7 := (by refine Ex.trans ?_ hb7; first | exact (Ex.refl _).drew | exact (Ex.new _ _).drew | exact (Ex.refl _).drew.alloc _); first | (have ob : w7.heap[w6.heap.size]? = some (.cells #[.int .i64 0, .slice none 0 0] 39) := (by first | exact hb7.blk (heap_alloc_new w6.drew _) | exact hb7.blk (heap_alloc_new w6 _)); have oc := two_cell0 ob; have oc1 := two_cell1 ob; have oz := two_free (i := 0) ob; have oz1 := two_free (i := 1) ob) | skip))
          all_goals
            go_wp2_with fail
            go_meet
            first
              | exact ⟨rfl, w6.heap.size, a7, c7, rfl, two_cell0 (two_set ob), two_cell1 (two_set ob), Ex.set (Ex.set xb (Nat.le_refl _) _) (Nat.le_refl _) _, VA_lo (VA_set (VA_set (VA_lo ht7 (Nat.le_of_eq (World.size_alloc w6 _).symm)) (Nat.lt_succ_self _) _) (Nat.lt_succ_self _) _) (Nat.zero_le _)⟩
              | exact ⟨rfl, w7.heap.size, a7, c7, rfl, World.cell?_alloc_new _ _ _ _, World.cell?_alloc_new _ _ _ _, xb.alloc _, VA_lo (VA_below ht7 (Ex.new _ _)) (Nat.zero_le _)⟩
        · have hpc' : ¬ h.toNat = pc := fun e => hpc e.symm
          have PB : Hid (∀ w', Ex w1 w' → PA w' 0 (p.drop h.toNat) (Option.map (fun x => x.add h.toNat) pa)) := fun w' hx => PA_drop' (PP.out _ hx) _ (fun _ b o e => by rw [e]; simp [Addr.add])
          go_region_with (first | (go_at_call 34; refine (I2.out _ (by first | exact (Ex.refl _).drew | exact (Ex.refl _).drew.trans (Ex.new _ _)) _ _ (by first | exact PB.out _ (X6.out.trans (Ex.refl _).drew) | exact PB.out _ (X6.out.trans ((Ex.refl _).drew.trans (Ex.new _ _))))).mono ?_; rintro e w7 ⟨a7, c7, rfl, ht7, hb7⟩; have xb : Ex w6 w7 := (by refine Ex.trans ?_ hb7; first | exact (Ex.refl _).drew | exact (Ex.new _ _).drew | exact (Ex.refl _).drew.alloc _); first | (have ob : w7.heap[w6.heap.size]? = some (.cells #[.int .i64 0, .slice none 0 0] 39) := (by first | exact hb7.blk (heap_alloc_new w6.drew _) | exact hb7.blk (heap_alloc_new w6 _)); have oc := two_cell0 ob; have oc1 := two_cell1 ob; have oz := two_free (i := 0) ob; have oz1 := two_free (i := 1) ob) | skip))
          all_goals
            go_wp2_with fail
            go_meet
            first
              | exact ⟨rfl, w6.heap.size, a7, c7, rfl, two_cell0 (two_set ob), two_cell1 (two_set ob), Ex.set (Ex.set xb (Nat.le_refl _) _) (Nat.le_refl _) _, VA_lo (VA_set (VA_set (VA_lo ht7 (Nat.le_of_eq (World.size_alloc w6 _).symm)) (Nat.lt_succ_self _) _) (Nat.lt_succ_self _) _) (Nat.zero_le _)⟩
              | exact ⟨rfl, w7.heap.size, a7, c7, rfl, World.cell?_alloc_new _ _ _ _, World.cell?_alloc_new _ _ _ _, xb.alloc _, VA_lo (VA_below ht7 (Ex.new _ _)) (Nat.zero_le _)⟩
      case rest =>
        obtain ⟨rfl, b7, a7, c7, rfl, hq7, hq7', hx7, ht7⟩ := hcut
        obtain ⟨r9, r9'⟩ := C9.out wc (hb4.trans (hx5.trans hx7))
        go_wp2_with fail
        refine (LH.out wc a7 c7 (hb4.trans (hx5.trans hx7)) ht7 a3 c3 (T3.out _ (hb4.trans (hx5.trans hx7)))).mono ?_
        rintro e w8 ⟨rfl, hb8⟩
        go_wp2_with fail
        go_ret
        exact ⟨rfl, hx1.trans (XW.out.trans (hb4.trans (hx5.trans (hx7.trans hb8))))⟩

end Go.Proofs.Ytomnekiiccbioaa
