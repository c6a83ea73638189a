/- Walks: a value with another part, by the program. -/
import Derived.Test.YtomnekiiccbioaaV13
import Derived.Test.YtomnekiiccbioaaL4
namespace Go.Proofs.Ytomnekiiccbioaa
open Go.RowKit Go.Deep
attribute [local go_sem ↓] Go.wp_at_zero Go.wp_at_succ

theorem VO.up : ∀ {d : Nat} {w : World} {S : Nat → Prop} {f : F} {a : Option Addr}, VO d w S f a → VO (d + 1) w S f a
  | 0, _, _, _, _, h => Or.inl h
  | d + 1, w, S, f, a, h => by
    rcases h with h | ⟨g, cur, K, e, hg, hc, hkk⟩
    · exact Or.inl h
    · refine Or.inr ⟨g, cur, K, e, hg, hc, fun i hi => ?_⟩
      obtain ⟨h0, h1, h2, a', c', h3, h4⟩ := hkk i hi
      exact ⟨h0, h1, h2, a', c', h3, h4.up⟩
theorem VO.upTo {d e : Nat} {w : World} {S : Nat → Prop} {f : F} {a : Option Addr} (h : VO d w S f a) (hle : d ≤ e) : VO e w S f a := by
  obtain ⟨k, rfl⟩ := Nat.exists_eq_add_of_le hle
  clear hle
  induction k with
  | zero => exact h
  | succ k ih => exact ih.up

/-- A value with another part by a path that is there. -/
def putV : List Int → Int → F → Int → F → Int × F
  | [], _, _, m, g => (m, g)
  | i :: p, _, f, m, g => if i = 0 then (0, two (putV p (num f 0) (kid f 0) m g).1 (putV p (num f 0) (kid f 0) m g).2 (num f 1) (kid f 1)) else (0, two (num f 0) (kid f 0) (putV p (num f 1) (kid f 1) m g).1 (putV p (num f 1) (kid f 1) m g).2)

theorem CpPost.upTo {d e : Nat} {n : Int} {f : F} {w : World} {x : Ending} {w' : World} (h : CpPost d n f w x w') (hle : d ≤ e) : CpPost e n f w x w' := by
  obtain ⟨a', c', h1, h2, h3⟩ := h
  exact ⟨a', c', h1, h2.upTo hle, h3⟩

set_option maxRecDepth 100000 in
set_option maxHeartbeats 4000000 in
theorem pair_post {d : Nat} {x0 x1 : Int} {y0 y1 : F} {w w1 w2 : World} {a0' a1' : Option Addr} {c0' c1' : Nat} {vr vs : Value} (h0 : w.heap.size + 3 ≤ w1.heap.size) (hb1 : Ex w1 w2) (ht0 : VO d w1 (fun b => w.heap.size + 3 ≤ b) y0 a0') (ht1 : VO d w2 (fun b => w1.heap.size ≤ b) y1 a1') (hx : Ex w w2)
    (hvr : w2.cell? ⟨w.heap.size + 2, 0, none⟩ = some vr) (hvs : w2.cell? ⟨w.heap.size + 2, 1, none⟩ = some vs) :
    (((w2.setCell ⟨w.heap.size + 1 + 1, 0, none⟩ (.int .i64 0)).setCell ⟨w.heap.size + 1 + 1, 1, none⟩ (.slice (some ⟨w2.heap.size, 0, none⟩) 2 2)).alloc (.cells #[.int .i64 x0, .slice a0' (len y0) c0', .int .i64 x1, .slice a1' (len y1) c1'] 39)).cell? ⟨w.heap.size + 1 + 1, 0, none⟩ = some (.int .i64 0) ∧ (((w2.setCell ⟨w.heap.size + 1 + 1, 0, none⟩ (.int .i64 0)).setCell ⟨w.heap.size + 1 + 1, 1, none⟩ (.slice (some ⟨w2.heap.size, 0, none⟩) 2 2)).alloc (.cells #[.int .i64 x0, .slice a0' (len y0) c0', .int .i64 x1, .slice a1' (len y1) c1'] 39)).cell? ⟨w.heap.size + 1 + 1, 1, none⟩ = some (.slice (some ⟨w2.heap.size, 0, none⟩) 2 2) ∧ CpPost (d + 1) 0 (two x0 y0 x1 y1) w (.returned (.agg #[.int .i64 0, .slice (some ⟨w2.heap.size, 0, none⟩) 2 2])) (((w2.setCell ⟨w.heap.size + 1 + 1, 0, none⟩ (.int .i64 0)).setCell ⟨w.heap.size + 1 + 1, 1, none⟩ (.slice (some ⟨w2.heap.size, 0, none⟩) 2 2)).alloc (.cells #[.int .i64 x0, .slice a0' (len y0) c0', .int .i64 x1, .slice a1' (len y1) c1'] 39)) := by
  have hlr : w.heap.size + 2 < w2.heap.size := World.block_lt_of_cell? _ _ hvr
  have hz2 := hb1.size
  have hsz : ((w2.setCell ⟨w.heap.size + 1 + 1, 0, none⟩ (.int .i64 0)).setCell ⟨w.heap.size + 1 + 1, 1, none⟩ (.slice (some ⟨w2.heap.size, 0, none⟩) 2 2)).heap.size = w2.heap.size := by rw [World.size_setCell, World.size_setCell]
  have k1 : Kp (w.heap.size + 3) w1 (((w2.setCell ⟨w.heap.size + 1 + 1, 0, none⟩ (.int .i64 0)).setCell ⟨w.heap.size + 1 + 1, 1, none⟩ (.slice (some ⟨w2.heap.size, 0, none⟩) 2 2)).alloc (.cells #[.int .i64 x0, .slice a0' (len y0) c0', .int .i64 x1, .slice a1' (len y1) c1'] 39)) := (((Kp.of_below hb1 _).set (Or.inl (by simp)) _).set (Or.inl (by simp)) _).alloc _
  have k2 : Kp (w.heap.size + 3) w2 (((w2.setCell ⟨w.heap.size + 1 + 1, 0, none⟩ (.int .i64 0)).setCell ⟨w.heap.size + 1 + 1, 1, none⟩ (.slice (some ⟨w2.heap.size, 0, none⟩) 2 2)).alloc (.cells #[.int .i64 x0, .slice a0' (len y0) c0', .int .i64 x1, .slice a1' (len y1) c1'] 39)) := (((Kp.refl _ _).set (Or.inl (by simp)) _).set (Or.inl (by simp)) _).alloc _
  have f0 : VO d (((w2.setCell ⟨w.heap.size + 1 + 1, 0, none⟩ (.int .i64 0)).setCell ⟨w.heap.size + 1 + 1, 1, none⟩ (.slice (some ⟨w2.heap.size, 0, none⟩) 2 2)).alloc (.cells #[.int .i64 x0, .slice a0' (len y0) c0', .int .i64 x1, .slice a1' (len y1) c1'] 39)) (fun b => w.heap.size + 3 ≤ b ∧ b < w1.heap.size) y0 a0' := (ht0.mono (S' := fun b => w.heap.size + 3 ≤ b ∧ b < w1.heap.size) fun b hb hs => ⟨hs, hb⟩).ks fun b hb hlt => k1.block b hb.1 hlt
  have f1 : VO d (((w2.setCell ⟨w.heap.size + 1 + 1, 0, none⟩ (.int .i64 0)).setCell ⟨w.heap.size + 1 + 1, 1, none⟩ (.slice (some ⟨w2.heap.size, 0, none⟩) 2 2)).alloc (.cells #[.int .i64 x0, .slice a0' (len y0) c0', .int .i64 x1, .slice a1' (len y1) c1'] 39)) (fun b => w1.heap.size ≤ b ∧ b < w2.heap.size) y1 a1' := (ht1.mono (S' := fun b => w1.heap.size ≤ b ∧ b < w2.heap.size) fun b hb hs => ⟨hs, hb⟩).ks fun b hb hlt => k2.block b (by omega) hlt
  have hcn : (((w2.setCell ⟨w.heap.size + 1 + 1, 0, none⟩ (.int .i64 0)).setCell ⟨w.heap.size + 1 + 1, 1, none⟩ (.slice (some ⟨w2.heap.size, 0, none⟩) 2 2)).alloc (.cells #[.int .i64 x0, .slice a0' (len y0) c0', .int .i64 x1, .slice a1' (len y1) c1'] 39)).heap[w2.heap.size]? = some (.cells #[.int .i64 x0, .slice a0' (len y0) c0', .int .i64 x1, .slice a1' (len y1) c1'] 39 (0, 0)) := heap_alloc_at _ _ hsz.symm
  refine ⟨?_, ?_, _, 2, rfl, VO_two (f := two x0 y0 x1 y1) rfl (by show w.heap.size ≤ w2.heap.size; omega) hcn rfl rfl (fun b hb => ⟨by show w.heap.size ≤ b; omega, by omega, by omega⟩) (fun b hb => ⟨by show w.heap.size ≤ b; omega, by omega⟩) f0 f1, ((hx.set (by show w.heap.size ≤ w.heap.size + 2; omega) _).set (by show w.heap.size ≤ w.heap.size + 2; omega) _).alloc _⟩
  · rw [World.cell?_alloc_lt _ _ _ (by rw [hsz]; exact hlr), World.cell?_setCell_other _ _ _ _ (fun e => absurd (congrArg Addr.off e) (by simp))]
    exact World.cell?_setCell_same _ _ _ hvr
  · rw [World.cell?_alloc_lt _ _ _ (by rw [hsz]; exact hlr)]
    exact World.cell?_setCell_same _ _ _ (by rw [World.cell?_setCell_other _ _ _ _ (fun e => absurd (congrArg Addr.off e) (by simp))]; exact hvs)

theorem partF_cons {u : F} {i : Int} {p : List Int} {v : F} (h : partF u (i :: p) = some v) : (0 ≤ i ∧ i < len u) ∧ partF (kid u i.toNat) p = some v := by
  simp only [partF] at h
  split at h
  · rename_i hi; exact ⟨hi, h⟩
  · cases h

theorem vType_len {r : Nat} {n : Int} {f u : F} (h : vType r n f = some u) : len u = len f := by
  cases r with
  | zero => simp [vType] at h
  | succ r =>
    obtain h0 | ⟨h2, hn, a, b, ha, hb⟩ := vType_some h
    · rw [vType_num h0] at h
      split at h
      · cases h; rw [h0]; rfl
      · cases h
    · rw [vType_two h2 hn, ha, hb] at h; cases h; rw [h2]; rfl

set_option maxRecDepth 100000 in
set_option maxHeartbeats 4000000 in
theorem valWithO_any : ∀ (p : List Int) (r s : Nat) (n : Int) (f u v : F) (m : Int) (g t : F) (a ag pa : Option Addr) (cap cg pc lo lo' : Nat) (w : World), p.length ≤ 1000000000 → p.length ≤ pc → pc ≤ 9223372036854775807 → vType r n f = some u → partF u p = some v → vType s m g = some t → VA w lo f a → VA w lo' g ag → PA w 0 p pa →
    Calls Try.prog 80 #[.agg #[.int .i64 n, .slice a (len f) cap], .slice pa p.length pc, .agg #[.int .i64 m, .slice ag (len g) cg]] w (CpPost (r + s) (putV p n f m g).1 (putV p n f m g).2 w)
  | [], r, s, n, f, u, v, m, g, t, a, ag, pa, cap, cg, pc, lo, lo', w, hp, hpc, hpm, hf, hv, hg, hT, hG, hP => by
    have IC : Hid (∀ w', Ex w w' → Calls Try.prog 74 #[.agg #[.int .i64 m, .slice ag (len g) cg]] w' (CpPost s m g w')) := fun w' h => valCopyO_any s m g t ag cg lo' w' hg (VA_below hG h)
    clear hf hv hg hT hG hP
    go_enter Try.func80, Try.ntmps80
    go_wp2_with fail
    refine (IC.out _ (((Ex.new _ _).alloc _).alloc _)).mono ?_
    rintro e w1 ⟨a1, c1, rfl, ht1, hb1⟩
    have rb : w1.heap[w.heap.size + 2]? = some (.cells #[.int .i64 0, .slice none 0 0] 39 (0, 0)) := hb1.blk (heap_alloc_at _ _ (by simp))
    have d0 := two_cell0 rb
    have d1 := two_cell1 rb
    have d2 := two_free (i := 0) rb
    have d3 := two_free (i := 1) rb
    have x1 : Ex w w1 := (((Ex.new _ _).alloc _).alloc _).trans hb1
    have T1 : Hid _ := ht1
    clear ht1
    go_wp2_with fail
    have hb4 := two_set (u' := .int .i64 m) (v' := .slice a1 (len g) c1) rb
    have hr0 := two_cell0 hb4
    have hr1 := two_cell1 hb4
    refine bodyPost_ret (v := .agg #[.int .i64 m, .slice a1 (len g) c1]) (by simp [results, Try.results80, go_sem, hr0, hr1]) rfl ⟨a1, c1, rfl, ?_, (x1.set (by show w.heap.size ≤ w.heap.size + 2; omega) _).set (by show w.heap.size ≤ w.heap.size + 2; omega) _⟩
    refine ((T1.out.mono (S' := fun b => w.heap.size + 3 ≤ b) fun b _ hb => by simpa using hb).ks fun b hb _ => ?_).mono (fun b _ hb => by show w.heap.size ≤ b; have : w.heap.size + 3 ≤ b := hb; omega) |>.upTo (by omega)
    have : w.heap.size + 3 ≤ b := hb
    rw [Below.heap_setCell _ _ _ _ (by show b ≠ w.heap.size + 2; omega), Below.heap_setCell _ _ _ _ (by show b ≠ w.heap.size + 2; omega)]
  | i :: q, 0, s, n, f, u, v, m, g, t, a, ag, pa, cap, cg, pc, lo, lo', w, hp, hpc, hpm, hf, hv, hg, hT, hG, hP => by simp [vType] at hf
  | i :: q, r + 1, s, n, f, u, v, m, g, t, a, ag, pa, cap, cg, pc, lo, lo', w, hp, hpc, hpm, hf, hv, hg, hT, hG, hP => by
    obtain ⟨hi, hv'⟩ := partF_cons hv
    have hul := vType_len hf
    obtain h0 | ⟨h2, hn, ua, ub, hua, hub⟩ := vType_some hf
    · omega
    rw [vType_two h2 hn, hua, hub] at hf
    cases hf
    subst hn
    obtain ⟨b, o, a0, a1, c0, c1, rfl, hlo, hbs, n0, hc0, n1, hc1, t0, t1⟩ := VA_pair hT h2
    obtain ⟨pb, po, rfl, hpb, _, hpcell⟩ := PA_at hP (by simp)
    have hp0 : w.cell? ⟨pb, po, none⟩ = some (.int .i64 i) := by have := hpcell 0 (by simp); simpa using this
    have PQ : Hid (∀ w', Ex w w' → PA w' 0 q (some ⟨pb, po + 1, none⟩)) := fun w' h => by
      have := PA_drop' (PA_below hP h) 1 (base := some ⟨pb, po + 1, none⟩) (fun _ b o e => by cases e; rfl)
      simpa using this
    have PN : Hid (pc = 1 → ∀ w' base, PA w' 0 q base) := fun h w' base => Or.inl (by simp at hpc; omega)
    have hpl : q.length ≤ 1000000000 := by simp at hp; omega
    have hpl1 : q.length + 1 ≤ pc := by simpa using hpc
    have E0 : Hid (Ex w ((w.alloc (.cells #[.int .i64 0, .slice (some ⟨b, o, none⟩) 2 cap] 39)).alloc (.cells #[.int .i64 m, .slice ag (len g) cg] 39))) := (Ex.new _ _).alloc _
    have KS : Hid (∀ w', Core ((w.alloc (.cells #[.int .i64 0, .slice (some ⟨b, o, none⟩) 2 cap] 39)).alloc (.cells #[.int .i64 m, .slice ag (len g) cg] 39)) (w.heap.size + 2) 2 39 w' → (Core ((w.alloc (.cells #[.int .i64 0, .slice (some ⟨b, o, none⟩) 2 cap] 39)).alloc (.cells #[.int .i64 m, .slice ag (len g) cg] 39)) (w.heap.size + 2) 2 39 w' ∧ w'.cell? ⟨w.heap.size, 1, none⟩ = some (.slice (some ⟨b, o, none⟩) 2 cap) ∧ w'.cell? ⟨w.heap.size + 1, 0, none⟩ = some (.int .i64 m) ∧ w'.cell? ⟨w.heap.size + 1, 1, none⟩ = some (.slice ag (len g) cg) ∧ w'.cell? ⟨b, o, none⟩ = some (.int .i64 (num f 0)) ∧ w'.cell? ⟨b, o + 1, none⟩ = some (.slice a0 (len (kid f 0)) c0) ∧ w'.cell? ⟨b, o + 2, none⟩ = some (.int .i64 (num f 1)) ∧ w'.cell? ⟨b, o + 3, none⟩ = some (.slice a1 (len (kid f 1)) c1))) := fun w' h => ⟨h, Ex.at h.1 (by simp), Ex.at h.1 (by simp), Ex.at h.1 (by simp), Ex.at h.1 (Ex.at E0.out n0), Ex.at h.1 (Ex.at E0.out hc0), Ex.at h.1 (Ex.at E0.out n1), Ex.at h.1 (Ex.at E0.out hc1)⟩
    have C0 : Hid (Core ((w.alloc (.cells #[.int .i64 0, .slice (some ⟨b, o, none⟩) 2 cap] 39)).alloc (.cells #[.int .i64 m, .slice ag (len g) cg] 39)) (w.heap.size + 2) 2 39 (((w.alloc (.cells #[.int .i64 0, .slice (some ⟨b, o, none⟩) 2 cap] 39)).alloc (.cells #[.int .i64 m, .slice ag (len g) cg] 39)).alloc (.cells #[.int .i64 0, .slice none 0 0] 39))) := by
      have := Core.start ((w.alloc (.cells #[.int .i64 0, .slice (some ⟨b, o, none⟩) 2 cap] 39)).alloc (.cells #[.int .i64 m, .slice ag (len g) cg] 39)) #[.int .i64 0, .slice none 0 0] 39
      rw [World.size_alloc, World.size_alloc] at this; exact this
    have j1 : pb < w.heap.size + 1 := by omega
    have j2 : pb < w.heap.size + 1 + 1 := by omega
    have hp0' : (((w.alloc (.cells #[.int .i64 0, .slice (some ⟨b, o, none⟩) 2 cap] 39)).alloc (.cells #[.int .i64 m, .slice ag (len g) cg] 39)).alloc (.cells #[.int .i64 0, .slice none 0 0] 39)).cell? ⟨pb, po, none⟩ = some (.int .i64 i) := ((E0.out.alloc _).at hp0)
    have i1 : (1 : Int) ≤ ((q.length : Int) + 1) := by omega
    have i2 : (1 : Int) ≤ (pc : Int) := by omega
    have i3 : (((q.length : Int) + 1) == 0) = false := by simp; omega
    have i4 : ¬ ((q.length : Int) + 1) = 0 := by omega
    rw [h2]
    by_cases hi0 : i = 0
    · have IW : Hid (∀ w' base cp, q.length ≤ cp → cp ≤ 9223372036854775807 → Ex w w' → PA w' 0 q base → Calls Try.prog 80 #[.agg #[.int .i64 (num f 0), .slice a0 (len (kid f 0)) c0], .slice base q.length cp, .agg #[.int .i64 m, .slice ag (len g) cg]] w' (CpPost (r + s) (putV q (num f 0) (kid f 0) m g).1 (putV q (num f 0) (kid f 0) m g).2 w')) := fun w' base cp h1 h2 h h' => valWithO_any q r s (num f 0) (kid f 0) ua v m g t a0 ag base c0 cg cp lo lo' w' (by omega) h1 h2 hua (by rw [hi0] at hv'; exact hv') hg (VA_below t0 h) (VA_below hG h) h'
      have IC : Hid (∀ w', Ex w w' → Calls Try.prog 74 #[.agg #[.int .i64 (num f 1), .slice a1 (len (kid f 1)) c1]] w' (CpPost (r + s) (num f 1) (kid f 1) w')) := fun w' h => (valCopyO_any r (num f 1) (kid f 1) ub a1 c1 lo w' hub (VA_below t1 h)).mono fun e w'' h => h.upTo (by omega)
      have HQ : Hid (putV (i :: q) 0 f m g = (0, two (putV q (num f 0) (kid f 0) m g).1 (putV q (num f 0) (kid f 0) m g).2 (num f 1) (kid f 1))) := by show _ = _; simp only [putV, if_pos hi0]
      have hi0' : (i == 0) = true := by simp [hi0]
      generalize (putV q (num f 0) (kid f 0) m g).1 = x0 at *
      generalize (putV q (num f 0) (kid f 0) m g).2 = y0 at *
      clear hT t0 t1 hv hv' h2 hua hub n0 n1 hc0 hc1 hP hpcell hG hul hi0 hi
      by_cases hp1 : pc = 1
      · have PR : Hid (∀ w' base, PA w' 0 q base) := PN.out hp1
        go_enter Try.func80, Try.ntmps80
        go_wp2_with fail
        go_region_held3 (fun w' => Core ((w.alloc (.cells #[.int .i64 0, .slice (some ⟨b, o, none⟩) 2 cap] 39)).alloc (.cells #[.int .i64 m, .slice ag (len g) cg] 39)) (w.heap.size + 2) 2 39 w' ∧ w'.cell? ⟨w.heap.size, 1, none⟩ = some (.slice (some ⟨b, o, none⟩) 2 cap) ∧ w'.cell? ⟨w.heap.size + 1, 0, none⟩ = some (.int .i64 m) ∧ w'.cell? ⟨w.heap.size + 1, 1, none⟩ = some (.slice ag (len g) cg) ∧ w'.cell? ⟨b, o, none⟩ = some (.int .i64 (num f 0)) ∧ w'.cell? ⟨b, o + 1, none⟩ = some (.slice a0 (len (kid f 0)) c0) ∧ w'.cell? ⟨b, o + 2, none⟩ = some (.int .i64 (num f 1)) ∧ w'.cell? ⟨b, o + 3, none⟩ = some (.slice a1 (len (kid f 1)) c1)) ((refine KS.out _ ?_; first | exact Core.drew C0.out | exact Core.ex (And.left ‹Core _ _ _ _ _ ∧ _›) ‹Ex _ _› | exact Core.alloc (And.left ‹Core _ _ _ _ _ ∧ _›) _ | exact Core.set (Core.set (And.left ‹Core _ _ _ _ _ ∧ _›) _ _ (by simp) _) _ _ (by simp) _ | exact Core.alloc (Core.set (Core.set (by assumption) _ _ (by simp) _) _ _ (by simp) _) _)) (first | (go_at_call 80; refine (IW.out _ _ _ (by omega) (by omega) (Ex.trans E0.out (And.left ‹Core _ _ _ _ _ ∧ _›).1) (PR.out _ _)).mono ?_; rintro e w1 ⟨a0', c0', rfl, ht0', hb0⟩) | (go_at_call 74; refine (IC.out _ (Ex.trans E0.out (And.left ‹Core _ _ _ _ _ ∧ _›).1)).mono ?_; rintro e w2 ⟨a1', c1', rfl, ht1', hb1⟩; have hcr := Core.ex (And.left ‹Core _ _ _ _ _ ∧ _›) hb1; obtain ⟨vr, hvr⟩ := hcr.cell 0 (by omega); obtain ⟨vs, hvs⟩ := hcr.cell 1 (by omega); have hfr := hcr.frozen 0; have hfs := hcr.frozen 1; have hlr := hcr.lt))
        go_wp2_with fail
        have hz : w.heap.size + 3 ≤ w1.heap.size := by have := hb0.size; simpa using this
        obtain ⟨hr0, hr1, hpost⟩ := pair_post (x0 := x0) (x1 := num f 1) (c0' := c0') (c1' := c1') hz hb1 (ht0'.mono fun b _ hb => by simpa using hb) ht1' (E0.out.trans hcr.1) hvr hvs
        refine bodyPost_ret (v := .agg #[.int .i64 0, .slice (some ⟨w2.heap.size, 0, none⟩) 2 2]) (by simp [results, Try.results80, go_sem, hr0, hr1]) rfl ?_
        rw [HQ.out]
        exact hpost.upTo (by omega)
      · have hp1' : ¬ 1 = pc := fun h => hp1 h.symm
        go_enter Try.func80, Try.ntmps80
        go_wp2_with fail
        go_region_held3 (fun w' => Core ((w.alloc (.cells #[.int .i64 0, .slice (some ⟨b, o, none⟩) 2 cap] 39)).alloc (.cells #[.int .i64 m, .slice ag (len g) cg] 39)) (w.heap.size + 2) 2 39 w' ∧ w'.cell? ⟨w.heap.size, 1, none⟩ = some (.slice (some ⟨b, o, none⟩) 2 cap) ∧ w'.cell? ⟨w.heap.size + 1, 0, none⟩ = some (.int .i64 m) ∧ w'.cell? ⟨w.heap.size + 1, 1, none⟩ = some (.slice ag (len g) cg) ∧ w'.cell? ⟨b, o, none⟩ = some (.int .i64 (num f 0)) ∧ w'.cell? ⟨b, o + 1, none⟩ = some (.slice a0 (len (kid f 0)) c0) ∧ w'.cell? ⟨b, o + 2, none⟩ = some (.int .i64 (num f 1)) ∧ w'.cell? ⟨b, o + 3, none⟩ = some (.slice a1 (len (kid f 1)) c1)) ((refine KS.out _ ?_; first | exact Core.drew C0.out | exact Core.ex (And.left ‹Core _ _ _ _ _ ∧ _›) ‹Ex _ _› | exact Core.alloc (And.left ‹Core _ _ _ _ _ ∧ _›) _ | exact Core.set (Core.set (And.left ‹Core _ _ _ _ _ ∧ _›) _ _ (by simp) _) _ _ (by simp) _ | exact Core.alloc (Core.set (Core.set (by assumption) _ _ (by simp) _) _ _ (by simp) _) _)) (first | (go_at_call 80; refine (IW.out _ _ _ (by omega) (by omega) (Ex.trans E0.out (And.left ‹Core _ _ _ _ _ ∧ _›).1) (PQ.out _ (Ex.trans E0.out (And.left ‹Core _ _ _ _ _ ∧ _›).1))).mono ?_; rintro e w1 ⟨a0', c0', rfl, ht0', hb0⟩) | (go_at_call 74; refine (IC.out _ (Ex.trans E0.out (And.left ‹Core _ _ _ _ _ ∧ _›).1)).mono ?_; rintro e w2 ⟨a1', c1', rfl, ht1', hb1⟩; have hcr := Core.ex (And.left ‹Core _ _ _ _ _ ∧ _›) hb1; obtain ⟨vr, hvr⟩ := hcr.cell 0 (by omega); obtain ⟨vs, hvs⟩ := hcr.cell 1 (by omega); have hfr := hcr.frozen 0; have hfs := hcr.frozen 1; have hlr := hcr.lt))
        go_wp2_with fail
        have hz : w.heap.size + 3 ≤ w1.heap.size := by have := hb0.size; simpa using this
        obtain ⟨hr0, hr1, hpost⟩ := pair_post (x0 := x0) (x1 := num f 1) (c0' := c0') (c1' := c1') hz hb1 (ht0'.mono fun b _ hb => by simpa using hb) ht1' (E0.out.trans hcr.1) hvr hvs
        refine bodyPost_ret (v := .agg #[.int .i64 0, .slice (some ⟨w2.heap.size, 0, none⟩) 2 2]) (by simp [results, Try.results80, go_sem, hr0, hr1]) rfl ?_
        rw [HQ.out]
        exact hpost.upTo (by omega)
    · have hi1 : i.toNat = 1 := by have : len (two 0 ua 0 ub) = 2 := rfl; omega
      have IW : Hid (∀ w' base cp, q.length ≤ cp → cp ≤ 9223372036854775807 → Ex w w' → PA w' 0 q base → Calls Try.prog 80 #[.agg #[.int .i64 (num f 1), .slice a1 (len (kid f 1)) c1], .slice base q.length cp, .agg #[.int .i64 m, .slice ag (len g) cg]] w' (CpPost (r + s) (putV q (num f 1) (kid f 1) m g).1 (putV q (num f 1) (kid f 1) m g).2 w')) := fun w' base cp h1 h2 h h' => valWithO_any q r s (num f 1) (kid f 1) ub v m g t a1 ag base c1 cg cp lo lo' w' (by omega) h1 h2 hub (by rw [hi1] at hv'; exact hv') hg (VA_below t1 h) (VA_below hG h) h'
      have IC : Hid (∀ w', Ex w w' → Calls Try.prog 74 #[.agg #[.int .i64 (num f 0), .slice a0 (len (kid f 0)) c0]] w' (CpPost (r + s) (num f 0) (kid f 0) w')) := fun w' h => (valCopyO_any r (num f 0) (kid f 0) ua a0 c0 lo w' hua (VA_below t0 h)).mono fun e w'' h => h.upTo (by omega)
      have HQ : Hid (putV (i :: q) 0 f m g = (0, two (num f 0) (kid f 0) (putV q (num f 1) (kid f 1) m g).1 (putV q (num f 1) (kid f 1) m g).2)) := by show _ = _; simp only [putV, if_neg hi0]
      have hi0' : (i == 0) = false := by simp [hi0]
      generalize (putV q (num f 1) (kid f 1) m g).1 = x1 at *
      generalize (putV q (num f 1) (kid f 1) m g).2 = y1 at *
      clear hT t0 t1 hv hv' h2 hua hub n0 n1 hc0 hc1 hP hpcell hG hul hi hi1
      by_cases hp1 : pc = 1
      · have PR : Hid (∀ w' base, PA w' 0 q base) := PN.out hp1
        go_enter Try.func80, Try.ntmps80
        go_wp2_with fail
        go_region_held3 (fun w' => Core ((w.alloc (.cells #[.int .i64 0, .slice (some ⟨b, o, none⟩) 2 cap] 39)).alloc (.cells #[.int .i64 m, .slice ag (len g) cg] 39)) (w.heap.size + 2) 2 39 w' ∧ w'.cell? ⟨w.heap.size, 1, none⟩ = some (.slice (some ⟨b, o, none⟩) 2 cap) ∧ w'.cell? ⟨w.heap.size + 1, 0, none⟩ = some (.int .i64 m) ∧ w'.cell? ⟨w.heap.size + 1, 1, none⟩ = some (.slice ag (len g) cg) ∧ w'.cell? ⟨b, o, none⟩ = some (.int .i64 (num f 0)) ∧ w'.cell? ⟨b, o + 1, none⟩ = some (.slice a0 (len (kid f 0)) c0) ∧ w'.cell? ⟨b, o + 2, none⟩ = some (.int .i64 (num f 1)) ∧ w'.cell? ⟨b, o + 3, none⟩ = some (.slice a1 (len (kid f 1)) c1)) ((refine KS.out _ ?_; first | exact Core.drew C0.out | exact Core.ex (And.left ‹Core _ _ _ _ _ ∧ _›) ‹Ex _ _› | exact Core.alloc (And.left ‹Core _ _ _ _ _ ∧ _›) _ | exact Core.set (Core.set (And.left ‹Core _ _ _ _ _ ∧ _›) _ _ (by simp) _) _ _ (by simp) _ | exact Core.alloc (Core.set (Core.set (by assumption) _ _ (by simp) _) _ _ (by simp) _) _)) (first | (go_at_call 74; refine (IC.out _ (Ex.trans E0.out (And.left ‹Core _ _ _ _ _ ∧ _›).1)).mono ?_; rintro e w1 ⟨a0', c0', rfl, ht0', hb0⟩) | (go_at_call 80; refine (IW.out _ _ _ (by omega) (by omega) (Ex.trans E0.out (And.left ‹Core _ _ _ _ _ ∧ _›).1) (PR.out _ _)).mono ?_; rintro e w2 ⟨a1', c1', rfl, ht1', hb1⟩; have hcr := Core.ex (And.left ‹Core _ _ _ _ _ ∧ _›) hb1; obtain ⟨vr, hvr⟩ := hcr.cell 0 (by omega); obtain ⟨vs, hvs⟩ := hcr.cell 1 (by omega); have hfr := hcr.frozen 0; have hfs := hcr.frozen 1; have hlr := hcr.lt))
        go_wp2_with fail
        have hz : w.heap.size + 3 ≤ w1.heap.size := by have := hb0.size; simpa using this
        obtain ⟨hr0, hr1, hpost⟩ := pair_post (x0 := num f 0) (x1 := x1) (c0' := c0') (c1' := c1') hz hb1 (ht0'.mono fun b _ hb => by simpa using hb) ht1' (E0.out.trans hcr.1) hvr hvs
        refine bodyPost_ret (v := .agg #[.int .i64 0, .slice (some ⟨w2.heap.size, 0, none⟩) 2 2]) (by simp [results, Try.results80, go_sem, hr0, hr1]) rfl ?_
        rw [HQ.out]
        exact hpost.upTo (by omega)
      · have hp1' : ¬ 1 = pc := fun h => hp1 h.symm
        go_enter Try.func80, Try.ntmps80
        go_wp2_with fail
        go_region_held3 (fun w' => Core ((w.alloc (.cells #[.int .i64 0, .slice (some ⟨b, o, none⟩) 2 cap] 39)).alloc (.cells #[.int .i64 m, .slice ag (len g) cg] 39)) (w.heap.size + 2) 2 39 w' ∧ w'.cell? ⟨w.heap.size, 1, none⟩ = some (.slice (some ⟨b, o, none⟩) 2 cap) ∧ w'.cell? ⟨w.heap.size + 1, 0, none⟩ = some (.int .i64 m) ∧ w'.cell? ⟨w.heap.size + 1, 1, none⟩ = some (.slice ag (len g) cg) ∧ w'.cell? ⟨b, o, none⟩ = some (.int .i64 (num f 0)) ∧ w'.cell? ⟨b, o + 1, none⟩ = some (.slice a0 (len (kid f 0)) c0) ∧ w'.cell? ⟨b, o + 2, none⟩ = some (.int .i64 (num f 1)) ∧ w'.cell? ⟨b, o + 3, none⟩ = some (.slice a1 (len (kid f 1)) c1)) ((refine KS.out _ ?_; first | exact Core.drew C0.out | exact Core.ex (And.left ‹Core _ _ _ _ _ ∧ _›) ‹Ex _ _› | exact Core.alloc (And.left ‹Core _ _ _ _ _ ∧ _›) _ | exact Core.set (Core.set (And.left ‹Core _ _ _ _ _ ∧ _›) _ _ (by simp) _) _ _ (by simp) _ | exact Core.alloc (Core.set (Core.set (by assumption) _ _ (by simp) _) _ _ (by simp) _) _)) (first | (go_at_call 74; refine (IC.out _ (Ex.trans E0.out (And.left ‹Core _ _ _ _ _ ∧ _›).1)).mono ?_; rintro e w1 ⟨a0', c0', rfl, ht0', hb0⟩) | (go_at_call 80; refine (IW.out _ _ _ (by omega) (by omega) (Ex.trans E0.out (And.left ‹Core _ _ _ _ _ ∧ _›).1) (PQ.out _ (Ex.trans E0.out (And.left ‹Core _ _ _ _ _ ∧ _›).1))).mono ?_; rintro e w2 ⟨a1', c1', rfl, ht1', hb1⟩; have hcr := Core.ex (And.left ‹Core _ _ _ _ _ ∧ _›) hb1; obtain ⟨vr, hvr⟩ := hcr.cell 0 (by omega); obtain ⟨vs, hvs⟩ := hcr.cell 1 (by omega); have hfr := hcr.frozen 0; have hfs := hcr.frozen 1; have hlr := hcr.lt))
        go_wp2_with fail
        have hz : w.heap.size + 3 ≤ w1.heap.size := by have := hb0.size; simpa using this
        obtain ⟨hr0, hr1, hpost⟩ := pair_post (x0 := num f 0) (x1 := x1) (c0' := c0') (c1' := c1') hz hb1 (ht0'.mono fun b _ hb => by simpa using hb) ht1' (E0.out.trans hcr.1) hvr hvs
        refine bodyPost_ret (v := .agg #[.int .i64 0, .slice (some ⟨w2.heap.size, 0, none⟩) 2 2]) (by simp [results, Try.results80, go_sem, hr0, hr1]) rfl ?_
        rw [HQ.out]
        exact hpost.upTo (by omega)

end Go.Proofs.Ytomnekiiccbioaa
