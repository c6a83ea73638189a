/- Walks: a value with another part, by the program. Walks: another part put into a value, by the program. What terms say, without the program; the map of what names stand for. -/
import Derived.Test.YtldbmlojgakieaaGreatDoorGL4
import Derived.Test.YtldbmlojgakieaaGreatDoorGD6
namespace Go.Proofs.YtldbmlojgakieaaGreatDoor

open Go.RowKit Go.Deep

attribute [local go_sem ↓] Go.wp_at_zero Go.wp_at_succ

theorem VO.up : ∀ {d : Nat} {w : World} {S : Nat → Prop} {f : F} {a : Option Addr}, VO d w S f a → VO (d + 1) w S f a
  | 0, _, _, _, _, h => Or.inl h
  | d + 1, w, S, f, a, h => by
    rcases h with h | ⟨g, cur, K, e, hg, hc, hkk⟩
    · exact Or.inl h
    · refine Or.inr ⟨g, cur, K, e, hg, hc, fun i hi => ?_⟩
      obtain ⟨h0, h1, h2, a', c', h3, h4⟩ := hkk i hi
      exact ⟨h0, h1, h2, a', c', h3, h4.up⟩
theorem VO.upTo {d e : Nat} {w : World} {S : Nat → Prop} {f : F} {a : Option Addr} (h : VO d w S f a) (hle : d ≤ e) : VO e w S f a := by
  obtain ⟨k, rfl⟩ := Nat.exists_eq_add_of_le hle
  clear hle
  induction k with
  | zero => exact h
  | succ k ih => exact ih.up

/-- A value with another part by a path that is there. -/
def putV : List Int → Int → F → Int → F → Int × F
  | [], _, _, m, g => (m, g)
  | i :: p, _, f, m, g => if i = 0 then (0, two (putV p (num f 0) (kid f 0) m g).1 (putV p (num f 0) (kid f 0) m g).2 (num f 1) (kid f 1)) else (0, two (num f 0) (kid f 0) (putV p (num f 1) (kid f 1) m g).1 (putV p (num f 1) (kid f 1) m g).2)

theorem CpPost.upTo {d e : Nat} {n : Int} {f : F} {w : World} {x : Ending} {w' : World} (h : CpPost d n f w x w') (hle : d ≤ e) : CpPost e n f w x w' := by
  obtain ⟨a', c', h1, h2, h3⟩ := h
  exact ⟨a', c', h1, h2.upTo hle, h3⟩

set_option maxRecDepth 100000 in
set_option maxHeartbeats 4000000 in
theorem pair_post {d : Nat} {x0 x1 : Int} {y0 y1 : F} {w w1 w2 : World} {a0' a1' : Option Addr} {c0' c1' : Nat} {vr vs : Value} (h0 : w.heap.size + 3 ≤ w1.heap.size) (hb1 : Ex w1 w2) (ht0 : VO d w1 (fun b => w.heap.size + 3 ≤ b) y0 a0') (ht1 : VO d w2 (fun b => w1.heap.size ≤ b) y1 a1') (hx : Ex w w2)
    (hvr : w2.cell? ⟨w.heap.size + 2, 0, none⟩ = some vr) (hvs : w2.cell? ⟨w.heap.size + 2, 1, none⟩ = some vs) :
    (((w2.setCell ⟨w.heap.size + 1 + 1, 0, none⟩ (.int .i64 0)).setCell ⟨w.heap.size + 1 + 1, 1, none⟩ (.slice (some ⟨w2.heap.size, 0, none⟩) 2 2)).alloc (.cells #[.int .i64 x0, .slice a0' (len y0) c0', .int .i64 x1, .slice a1' (len y1) c1'] 55)).cell? ⟨w.heap.size + 1 + 1, 0, none⟩ = some (.int .i64 0) ∧ (((w2.setCell ⟨w.heap.size + 1 + 1, 0, none⟩ (.int .i64 0)).setCell ⟨w.heap.size + 1 + 1, 1, none⟩ (.slice (some ⟨w2.heap.size, 0, none⟩) 2 2)).alloc (.cells #[.int .i64 x0, .slice a0' (len y0) c0', .int .i64 x1, .slice a1' (len y1) c1'] 55)).cell? ⟨w.heap.size + 1 + 1, 1, none⟩ = some (.slice (some ⟨w2.heap.size, 0, none⟩) 2 2) ∧ CpPost (d + 1) 0 (two x0 y0 x1 y1) w (.returned (.agg #[.int .i64 0, .slice (some ⟨w2.heap.size, 0, none⟩) 2 2])) (((w2.setCell ⟨w.heap.size + 1 + 1, 0, none⟩ (.int .i64 0)).setCell ⟨w.heap.size + 1 + 1, 1, none⟩ (.slice (some ⟨w2.heap.size, 0, none⟩) 2 2)).alloc (.cells #[.int .i64 x0, .slice a0' (len y0) c0', .int .i64 x1, .slice a1' (len y1) c1'] 55)) := by
  have hlr : w.heap.size + 2 < w2.heap.size := World.block_lt_of_cell? _ _ hvr
  have hz2 := hb1.size
  have hsz : ((w2.setCell ⟨w.heap.size + 1 + 1, 0, none⟩ (.int .i64 0)).setCell ⟨w.heap.size + 1 + 1, 1, none⟩ (.slice (some ⟨w2.heap.size, 0, none⟩) 2 2)).heap.size = w2.heap.size := by rw [World.size_setCell, World.size_setCell]
  have k1 : Kp (w.heap.size + 3) w1 (((w2.setCell ⟨w.heap.size + 1 + 1, 0, none⟩ (.int .i64 0)).setCell ⟨w.heap.size + 1 + 1, 1, none⟩ (.slice (some ⟨w2.heap.size, 0, none⟩) 2 2)).alloc (.cells #[.int .i64 x0, .slice a0' (len y0) c0', .int .i64 x1, .slice a1' (len y1) c1'] 55)) := (((Kp.of_below hb1 _).set (Or.inl (by simp)) _).set (Or.inl (by simp)) _).alloc _
  have k2 : Kp (w.heap.size + 3) w2 (((w2.setCell ⟨w.heap.size + 1 + 1, 0, none⟩ (.int .i64 0)).setCell ⟨w.heap.size + 1 + 1, 1, none⟩ (.slice (some ⟨w2.heap.size, 0, none⟩) 2 2)).alloc (.cells #[.int .i64 x0, .slice a0' (len y0) c0', .int .i64 x1, .slice a1' (len y1) c1'] 55)) := (((Kp.refl _ _).set (Or.inl (by simp)) _).set (Or.inl (by simp)) _).alloc _
  have f0 : VO d (((w2.setCell ⟨w.heap.size + 1 + 1, 0, none⟩ (.int .i64 0)).setCell ⟨w.heap.size + 1 + 1, 1, none⟩ (.slice (some ⟨w2.heap.size, 0, none⟩) 2 2)).alloc (.cells #[.int .i64 x0, .slice a0' (len y0) c0', .int .i64 x1, .slice a1' (len y1) c1'] 55)) (fun b => w.heap.size + 3 ≤ b ∧ b < w1.heap.size) y0 a0' := (ht0.mono (S' := fun b => w.heap.size + 3 ≤ b ∧ b < w1.heap.size) fun b hb hs => ⟨hs, hb⟩).ks fun b hb hlt => k1.block b hb.1 hlt
  have f1 : VO d (((w2.setCell ⟨w.heap.size + 1 + 1, 0, none⟩ (.int .i64 0)).setCell ⟨w.heap.size + 1 + 1, 1, none⟩ (.slice (some ⟨w2.heap.size, 0, none⟩) 2 2)).alloc (.cells #[.int .i64 x0, .slice a0' (len y0) c0', .int .i64 x1, .slice a1' (len y1) c1'] 55)) (fun b => w1.heap.size ≤ b ∧ b < w2.heap.size) y1 a1' := (ht1.mono (S' := fun b => w1.heap.size ≤ b ∧ b < w2.heap.size) fun b hb hs => ⟨hs, hb⟩).ks fun b hb hlt => k2.block b (by omega) hlt
  have hcn : (((w2.setCell ⟨w.heap.size + 1 + 1, 0, none⟩ (.int .i64 0)).setCell ⟨w.heap.size + 1 + 1, 1, none⟩ (.slice (some ⟨w2.heap.size, 0, none⟩) 2 2)).alloc (.cells #[.int .i64 x0, .slice a0' (len y0) c0', .int .i64 x1, .slice a1' (len y1) c1'] 55)).heap[w2.heap.size]? = some (.cells #[.int .i64 x0, .slice a0' (len y0) c0', .int .i64 x1, .slice a1' (len y1) c1'] 55 (0, 0)) := heap_alloc_at _ _ hsz.symm
  refine ⟨?_, ?_, _, 2, rfl, VO_two (f := two x0 y0 x1 y1) rfl (by show w.heap.size ≤ w2.heap.size; omega) hcn rfl rfl (fun b hb => ⟨by show w.heap.size ≤ b; omega, by omega, by omega⟩) (fun b hb => ⟨by show w.heap.size ≤ b; omega, by omega⟩) f0 f1, ((hx.set (by show w.heap.size ≤ w.heap.size + 2; omega) _).set (by show w.heap.size ≤ w.heap.size + 2; omega) _).alloc _⟩
  · rw [World.cell?_alloc_lt _ _ _ (by rw [hsz]; exact hlr), World.cell?_setCell_other _ _ _ _ (fun e => absurd (congrArg Addr.off e) (by simp))]
    exact World.cell?_setCell_same _ _ _ hvr
  · rw [World.cell?_alloc_lt _ _ _ (by rw [hsz]; exact hlr)]
    exact World.cell?_setCell_same _ _ _ (by rw [World.cell?_setCell_other _ _ _ _ (fun e => absurd (congrArg Addr.off e) (by simp))]; exact hvs)

theorem partF_cons {u : F} {i : Int} {p : List Int} {v : F} (h : partF u (i :: p) = some v) : (0 ≤ i ∧ i < len u) ∧ partF (kid u i.toNat) p = some v := by
  simp only [partF] at h
  split at h
  · rename_i hi; exact ⟨hi, h⟩
  · cases h

theorem vType_len {r : Nat} {n : Int} {f u : F} (h : vType r n f = some u) : len u = len f := by
  cases r with
  | zero => simp [vType] at h
  | succ r =>
    obtain h0 | ⟨h2, hn, a, b, ha, hb⟩ := vType_some h
    · rw [vType_num h0] at h
      split at h
      · cases h; rw [h0]; rfl
      · cases h
    · rw [vType_two h2 hn, ha, hb] at h; cases h; rw [h2]; rfl

set_option maxRecDepth 100000 in
set_option maxHeartbeats 4000000 in
theorem valWithO_any : ∀ (p : List Int) (r s : Nat) (n : Int) (f u v : F) (m : Int) (g t : F) (a ag pa : Option Addr) (cap cg pc lo lo' : Nat) (w : World), p.length ≤ 1000000000 → p.length ≤ pc → pc ≤ 9223372036854775807 → vType r n f = some u → partF u p = some v → vType s m g = some t → VA w lo f a → VA w lo' g ag → PA w 0 p pa →
    Calls Tryz.prog 146 #[.agg #[.int .i64 n, .slice a (len f) cap], .slice pa p.length pc, .agg #[.int .i64 m, .slice ag (len g) cg]] w (CpPost (r + s) (putV p n f m g).1 (putV p n f m g).2 w)
  | [], r, s, n, f, u, v, m, g, t, a, ag, pa, cap, cg, pc, lo, lo', w, hp, hpc, hpm, hf, hv, hg, hT, hG, hP => by
    have IC : Hid (∀ w', Ex w w' → Calls Tryz.prog 30 #[.agg #[.int .i64 m, .slice ag (len g) cg]] w' (CpPost s m g w')) := fun w' h => valCopyO_any s m g t ag cg lo' w' hg (VA_below hG h)
    clear hf hv hg hT hG hP
    go_enter Tryz.func146, Tryz.ntmps146
    go_wp2_with fail
    refine (IC.out _ (((Ex.new _ _).alloc _).alloc _)).mono ?_
    rintro e w1 ⟨a1, c1, rfl, ht1, hb1⟩
    have rb : w1.heap[w.heap.size + 2]? = some (.cells #[.int .i64 0, .slice none 0 0] 55 (0, 0)) := hb1.blk (heap_alloc_at _ _ (by simp))
    have d0 := two_cell0 rb
    have d1 := two_cell1 rb
    have d2 := two_free (i := 0) rb
    have d3 := two_free (i := 1) rb
    have x1 : Ex w w1 := (((Ex.new _ _).alloc _).alloc _).trans hb1
    have T1 : Hid _ := ht1
    clear ht1
    go_wp2_with fail
    have hb4 := two_set (u' := .int .i64 m) (v' := .slice a1 (len g) c1) rb
    have hr0 := two_cell0 hb4
    have hr1 := two_cell1 hb4
    refine bodyPost_ret (v := .agg #[.int .i64 m, .slice a1 (len g) c1]) (by simp [results, Tryz.results146, go_sem, hr0, hr1]) rfl ⟨a1, c1, rfl, ?_, (x1.set (by show w.heap.size ≤ w.heap.size + 2; omega) _).set (by show w.heap.size ≤ w.heap.size + 2; omega) _⟩
    refine ((T1.out.mono (S' := fun b => w.heap.size + 3 ≤ b) fun b _ hb => by simpa using hb).ks fun b hb _ => ?_).mono (fun b _ hb => by show w.heap.size ≤ b; have : w.heap.size + 3 ≤ b := hb; omega) |>.upTo (by omega)
    have : w.heap.size + 3 ≤ b := hb
    rw [Below.heap_setCell _ _ _ _ (by show b ≠ w.heap.size + 2; omega), Below.heap_setCell _ _ _ _ (by show b ≠ w.heap.size + 2; omega)]
  | i :: q, 0, s, n, f, u, v, m, g, t, a, ag, pa, cap, cg, pc, lo, lo', w, hp, hpc, hpm, hf, hv, hg, hT, hG, hP => by simp [vType] at hf
  | i :: q, r + 1, s, n, f, u, v, m, g, t, a, ag, pa, cap, cg, pc, lo, lo', w, hp, hpc, hpm, hf, hv, hg, hT, hG, hP => by
    obtain ⟨hi, hv'⟩ := partF_cons hv
    have hul := vType_len hf
    obtain h0 | ⟨h2, hn, ua, ub, hua, hub⟩ := vType_some hf
    · omega
    rw [vType_two h2 hn, hua, hub] at hf
    cases hf
    subst hn
    obtain ⟨b, o, a0, a1, c0, c1, rfl, hlo, hbs, n0, hc0, n1, hc1, t0, t1⟩ := VA_pair hT h2
    obtain ⟨pb, po, rfl, hpb, _, hpcell⟩ := PA_at hP (by simp)
    have hp0 : w.cell? ⟨pb, po, none⟩ = some (.int .i64 i) := by have := hpcell 0 (by simp); simpa using this
    have PQ : Hid (∀ w', Ex w w' → PA w' 0 q (some ⟨pb, po + 1, none⟩)) := fun w' h => by
      have := PA_drop' (PA_below hP h) 1 (base := some ⟨pb, po + 1, none⟩) (fun _ b o e => by cases e; rfl)
      simpa using this
    have PN : Hid (pc = 1 → ∀ w' base, PA w' 0 q base) := fun h w' base => Or.inl (by simp at hpc; omega)
    have hpl : q.length ≤ 1000000000 := by simp at hp; omega
    have hpl1 : q.length + 1 ≤ pc := by simpa using hpc
    have E0 : Hid (Ex w ((w.alloc (.cells #[.int .i64 0, .slice (some ⟨b, o, none⟩) 2 cap] 55)).alloc (.cells #[.int .i64 m, .slice ag (len g) cg] 55))) := (Ex.new _ _).alloc _
    have KS : Hid (∀ w', Core ((w.alloc (.cells #[.int .i64 0, .slice (some ⟨b, o, none⟩) 2 cap] 55)).alloc (.cells #[.int .i64 m, .slice ag (len g) cg] 55)) (w.heap.size + 2) 2 55 w' → (Core ((w.alloc (.cells #[.int .i64 0, .slice (some ⟨b, o, none⟩) 2 cap] 55)).alloc (.cells #[.int .i64 m, .slice ag (len g) cg] 55)) (w.heap.size + 2) 2 55 w' ∧ w'.cell? ⟨w.heap.size, 1, none⟩ = some (.slice (some ⟨b, o, none⟩) 2 cap) ∧ w'.cell? ⟨w.heap.size + 1, 0, none⟩ = some (.int .i64 m) ∧ w'.cell? ⟨w.heap.size + 1, 1, none⟩ = some (.slice ag (len g) cg) ∧ w'.cell? ⟨b, o, none⟩ = some (.int .i64 (num f 0)) ∧ w'.cell? ⟨b, o + 1, none⟩ = some (.slice a0 (len (kid f 0)) c0) ∧ w'.cell? ⟨b, o + 2, none⟩ = some (.int .i64 (num f 1)) ∧ w'.cell? ⟨b, o + 3, none⟩ = some (.slice a1 (len (kid f 1)) c1))) := fun w' h => ⟨h, Ex.at h.1 (by simp), Ex.at h.1 (by simp), Ex.at h.1 (by simp), Ex.at h.1 (Ex.at E0.out n0), Ex.at h.1 (Ex.at E0.out hc0), Ex.at h.1 (Ex.at E0.out n1), Ex.at h.1 (Ex.at E0.out hc1)⟩
    have C0 : Hid (Core ((w.alloc (.cells #[.int .i64 0, .slice (some ⟨b, o, none⟩) 2 cap] 55)).alloc (.cells #[.int .i64 m, .slice ag (len g) cg] 55)) (w.heap.size + 2) 2 55 (((w.alloc (.cells #[.int .i64 0, .slice (some ⟨b, o, none⟩) 2 cap] 55)).alloc (.cells #[.int .i64 m, .slice ag (len g) cg] 55)).alloc (.cells #[.int .i64 0, .slice none 0 0] 55))) := by
      have := Core.start ((w.alloc (.cells #[.int .i64 0, .slice (some ⟨b, o, none⟩) 2 cap] 55)).alloc (.cells #[.int .i64 m, .slice ag (len g) cg] 55)) #[.int .i64 0, .slice none 0 0] 55
      rw [World.size_alloc, World.size_alloc] at this; exact this
    have j1 : pb < w.heap.size + 1 := by omega
    have j2 : pb < w.heap.size + 1 + 1 := by omega
    have hp0' : (((w.alloc (.cells #[.int .i64 0, .slice (some ⟨b, o, none⟩) 2 cap] 55)).alloc (.cells #[.int .i64 m, .slice ag (len g) cg] 55)).alloc (.cells #[.int .i64 0, .slice none 0 0] 55)).cell? ⟨pb, po, none⟩ = some (.int .i64 i) := ((E0.out.alloc _).at hp0)
    have i1 : (1 : Int) ≤ ((q.length : Int) + 1) := by omega
    have i2 : (1 : Int) ≤ (pc : Int) := by omega
    have i3 : (((q.length : Int) + 1) == 0) = false := by simp; omega
    have i4 : ¬ ((q.length : Int) + 1) = 0 := by omega
    rw [h2]
    by_cases hi0 : i = 0
    · have IW : Hid (∀ w' base cp, q.length ≤ cp → cp ≤ 9223372036854775807 → Ex w w' → PA w' 0 q base → Calls Tryz.prog 146 #[.agg #[.int .i64 (num f 0), .slice a0 (len (kid f 0)) c0], .slice base q.length cp, .agg #[.int .i64 m, .slice ag (len g) cg]] w' (CpPost (r + s) (putV q (num f 0) (kid f 0) m g).1 (putV q (num f 0) (kid f 0) m g).2 w')) := fun w' base cp h1 h2 h h' => valWithO_any q r s (num f 0) (kid f 0) ua v m g t a0 ag base c0 cg cp lo lo' w' (by omega) h1 h2 hua (by rw [hi0] at hv'; exact hv') hg (VA_below t0 h) (VA_below hG h) h'
      have IC : Hid (∀ w', Ex w w' → Calls Tryz.prog 30 #[.agg #[.int .i64 (num f 1), .slice a1 (len (kid f 1)) c1]] w' (CpPost (r + s) (num f 1) (kid f 1) w')) := fun w' h => (valCopyO_any r (num f 1) (kid f 1) ub a1 c1 lo w' hub (VA_below t1 h)).mono fun e w'' h => h.upTo (by omega)
      have HQ : Hid (putV (i :: q) 0 f m g = (0, two (putV q (num f 0) (kid f 0) m g).1 (putV q (num f 0) (kid f 0) m g).2 (num f 1) (kid f 1))) := by show _ = _; simp only [putV, if_pos hi0]
      have hi0' : (i == 0) = true := by simp [hi0]
      generalize (putV q (num f 0) (kid f 0) m g).1 = x0 at *
      generalize (putV q (num f 0) (kid f 0) m g).2 = y0 at *
      clear hT t0 t1 hv hv' h2 hua hub n0 n1 hc0 hc1 hP hpcell hG hul hi0 hi
      by_cases hp1 : pc = 1
      · have PR : Hid (∀ w' base, PA w' 0 q base) := PN.out hp1
        go_enter Tryz.func146, Tryz.ntmps146
        go_wp2_with fail
        go_region_held3 (fun w' => Core ((w.alloc (.cells #[.int .i64 0, .slice (some ⟨b, o, none⟩) 2 cap] 55)).alloc (.cells #[.int .i64 m, .slice ag (len g) cg] 55)) (w.heap.size + 2) 2 55 w' ∧ w'.cell? ⟨w.heap.size, 1, none⟩ = some (.slice (some ⟨b, o, none⟩) 2 cap) ∧ w'.cell? ⟨w.heap.size + 1, 0, none⟩ = some (.int .i64 m) ∧ w'.cell? ⟨w.heap.size + 1, 1, none⟩ = some (.slice ag (len g) cg) ∧ w'.cell? ⟨b, o, none⟩ = some (.int .i64 (num f 0)) ∧ w'.cell? ⟨b, o + 1, none⟩ = some (.slice a0 (len (kid f 0)) c0) ∧ w'.cell? ⟨b, o + 2, none⟩ = some (.int .i64 (num f 1)) ∧ w'.cell? ⟨b, o + 3, none⟩ = some (.slice a1 (len (kid f 1)) c1)) ((refine KS.out _ ?_; first | exact Core.drew C0.out | exact Core.ex (And.left ‹Core _ _ _ _ _ ∧ _›) ‹Ex _ _› | exact Core.alloc (And.left ‹Core _ _ _ _ _ ∧ _›) _ | exact Core.set (Core.set (And.left ‹Core _ _ _ _ _ ∧ _›) _ _ (by simp) _) _ _ (by simp) _ | exact Core.alloc (Core.set (Core.set (by assumption) _ _ (by simp) _) _ _ (by simp) _) _)) (first | (go_at_call 146; refine (IW.out _ _ _ (by omega) (by omega) (Ex.trans E0.out (And.left ‹Core _ _ _ _ _ ∧ _›).1) (PR.out _ _)).mono ?_; rintro e w1 ⟨a0', c0', rfl, ht0', hb0⟩) | (go_at_call 30; refine (IC.out _ (Ex.trans E0.out (And.left ‹Core _ _ _ _ _ ∧ _›).1)).mono ?_; rintro e w2 ⟨a1', c1', rfl, ht1', hb1⟩; have hcr := Core.ex (And.left ‹Core _ _ _ _ _ ∧ _›) hb1; obtain ⟨vr, hvr⟩ := hcr.cell 0 (by omega); obtain ⟨vs, hvs⟩ := hcr.cell 1 (by omega); have hfr := hcr.frozen 0; have hfs := hcr.frozen 1; have hlr := hcr.lt))
        go_wp2_with fail
        have hz : w.heap.size + 3 ≤ w1.heap.size := by have := hb0.size; simpa using this
        obtain ⟨hr0, hr1, hpost⟩ := pair_post (x0 := x0) (x1 := num f 1) (c0' := c0') (c1' := c1') hz hb1 (ht0'.mono fun b _ hb => by simpa using hb) ht1' (E0.out.trans hcr.1) hvr hvs
        refine bodyPost_ret (v := .agg #[.int .i64 0, .slice (some ⟨w2.heap.size, 0, none⟩) 2 2]) (by simp [results, Tryz.results146, go_sem, hr0, hr1]) rfl ?_
        rw [HQ.out]
        exact hpost.upTo (by omega)
      · have hp1' : ¬ 1 = pc := fun h => hp1 h.symm
        go_enter Tryz.func146, Tryz.ntmps146
        go_wp2_with fail
        go_region_held3 (fun w' => Core ((w.alloc (.cells #[.int .i64 0, .slice (some ⟨b, o, none⟩) 2 cap] 55)).alloc (.cells #[.int .i64 m, .slice ag (len g) cg] 55)) (w.heap.size + 2) 2 55 w' ∧ w'.cell? ⟨w.heap.size, 1, none⟩ = some (.slice (some ⟨b, o, none⟩) 2 cap) ∧ w'.cell? ⟨w.heap.size + 1, 0, none⟩ = some (.int .i64 m) ∧ w'.cell? ⟨w.heap.size + 1, 1, none⟩ = some (.slice ag (len g) cg) ∧ w'.cell? ⟨b, o, none⟩ = some (.int .i64 (num f 0)) ∧ w'.cell? ⟨b, o + 1, none⟩ = some (.slice a0 (len (kid f 0)) c0) ∧ w'.cell? ⟨b, o + 2, none⟩ = some (.int .i64 (num f 1)) ∧ w'.cell? ⟨b, o + 3, none⟩ = some (.slice a1 (len (kid f 1)) c1)) ((refine KS.out _ ?_; first | exact Core.drew C0.out | exact Core.ex (And.left ‹Core _ _ _ _ _ ∧ _›) ‹Ex _ _› | exact Core.alloc (And.left ‹Core _ _ _ _ _ ∧ _›) _ | exact Core.set (Core.set (And.left ‹Core _ _ _ _ _ ∧ _›) _ _ (by simp) _) _ _ (by simp) _ | exact Core.alloc (Core.set (Core.set (by assumption) _ _ (by simp) _) _ _ (by simp) _) _)) (first | (go_at_call 146; refine (IW.out _ _ _ (by omega) (by omega) (Ex.trans E0.out (And.left ‹Core _ _ _ _ _ ∧ _›).1) (PQ.out _ (Ex.trans E0.out (And.left ‹Core _ _ _ _ _ ∧ _›).1))).mono ?_; rintro e w1 ⟨a0', c0', rfl, ht0', hb0⟩) | (go_at_call 30; refine (IC.out _ (Ex.trans E0.out (And.left ‹Core _ _ _ _ _ ∧ _›).1)).mono ?_; rintro e w2 ⟨a1', c1', rfl, ht1', hb1⟩; have hcr := Core.ex (And.left ‹Core _ _ _ _ _ ∧ _›) hb1; obtain ⟨vr, hvr⟩ := hcr.cell 0 (by omega); obtain ⟨vs, hvs⟩ := hcr.cell 1 (by omega); have hfr := hcr.frozen 0; have hfs := hcr.frozen 1; have hlr := hcr.lt))
        go_wp2_with fail
        have hz : w.heap.size + 3 ≤ w1.heap.size := by have := hb0.size; simpa using this
        obtain ⟨hr0, hr1, hpost⟩ := pair_post (x0 := x0) (x1 := num f 1) (c0' := c0') (c1' := c1') hz hb1 (ht0'.mono fun b _ hb => by simpa using hb) ht1' (E0.out.trans hcr.1) hvr hvs
        refine bodyPost_ret (v := .agg #[.int .i64 0, .slice (some ⟨w2.heap.size, 0, none⟩) 2 2]) (by simp [results, Tryz.results146, go_sem, hr0, hr1]) rfl ?_
        rw [HQ.out]
        exact hpost.upTo (by omega)
    · have hi1 : i.toNat = 1 := by have : len (two 0 ua 0 ub) = 2 := rfl; omega
      have IW : Hid (∀ w' base cp, q.length ≤ cp → cp ≤ 9223372036854775807 → Ex w w' → PA w' 0 q base → Calls Tryz.prog 146 #[.agg #[.int .i64 (num f 1), .slice a1 (len (kid f 1)) c1], .slice base q.length cp, .agg #[.int .i64 m, .slice ag (len g) cg]] w' (CpPost (r + s) (putV q (num f 1) (kid f 1) m g).1 (putV q (num f 1) (kid f 1) m g).2 w')) := fun w' base cp h1 h2 h h' => valWithO_any q r s (num f 1) (kid f 1) ub v m g t a1 ag base c1 cg cp lo lo' w' (by omega) h1 h2 hub (by rw [hi1] at hv'; exact hv') hg (VA_below t1 h) (VA_below hG h) h'
      have IC : Hid (∀ w', Ex w w' → Calls Tryz.prog 30 #[.agg #[.int .i64 (num f 0), .slice a0 (len (kid f 0)) c0]] w' (CpPost (r + s) (num f 0) (kid f 0) w')) := fun w' h => (valCopyO_any r (num f 0) (kid f 0) ua a0 c0 lo w' hua (VA_below t0 h)).mono fun e w'' h => h.upTo (by omega)
      have HQ : Hid (putV (i :: q) 0 f m g = (0, two (num f 0) (kid f 0) (putV q (num f 1) (kid f 1) m g).1 (putV q (num f 1) (kid f 1) m g).2)) := by show _ = _; simp only [putV, if_neg hi0]
      have hi0' : (i == 0) = false := by simp [hi0]
      generalize (putV q (num f 1) (kid f 1) m g).1 = x1 at *
      generalize (putV q (num f 1) (kid f 1) m g).2 = y1 at *
      clear hT t0 t1 hv hv' h2 hua hub n0 n1 hc0 hc1 hP hpcell hG hul hi hi1
      by_cases hp1 : pc = 1
      · have PR : Hid (∀ w' base, PA w' 0 q base) := PN.out hp1
        go_enter Tryz.func146, Tryz.ntmps146
        go_wp2_with fail
        go_region_held3 (fun w' => Core ((w.alloc (.cells #[.int .i64 0, .slice (some ⟨b, o, none⟩) 2 cap] 55)).alloc (.cells #[.int .i64 m, .slice ag (len g) cg] 55)) (w.heap.size + 2) 2 55 w' ∧ w'.cell? ⟨w.heap.size, 1, none⟩ = some (.slice (some ⟨b, o, none⟩) 2 cap) ∧ w'.cell? ⟨w.heap.size + 1, 0, none⟩ = some (.int .i64 m) ∧ w'.cell? ⟨w.heap.size + 1, 1, none⟩ = some (.slice ag (len g) cg) ∧ w'.cell? ⟨b, o, none⟩ = some (.int .i64 (num f 0)) ∧ w'.cell? ⟨b, o + 1, none⟩ = some (.slice a0 (len (kid f 0)) c0) ∧ w'.cell? ⟨b, o + 2, none⟩ = some (.int .i64 (num f 1)) ∧ w'.cell? ⟨b, o + 3, none⟩ = some (.slice a1 (len (kid f 1)) c1)) ((refine KS.out _ ?_; first | exact Core.drew C0.out | exact Core.ex (And.left ‹Core _ _ _ _ _ ∧ _›) ‹Ex _ _› | exact Core.alloc (And.left ‹Core _ _ _ _ _ ∧ _›) _ | exact Core.set (Core.set (And.left ‹Core _ _ _ _ _ ∧ _›) _ _ (by simp) _) _ _ (by simp) _ | exact Core.alloc (Core.set (Core.set (by assumption) _ _ (by simp) _) _ _ (by simp) _) _)) (first | (go_at_call 30; refine (IC.out _ (Ex.trans E0.out (And.left ‹Core _ _ _ _ _ ∧ _›).1)).mono ?_; rintro e w1 ⟨a0', c0', rfl, ht0', hb0⟩) | (go_at_call 146; refine (IW.out _ _ _ (by omega) (by omega) (Ex.trans E0.out (And.left ‹Core _ _ _ _ _ ∧ _›).1) (PR.out _ _)).mono ?_; rintro e w2 ⟨a1', c1', rfl, ht1', hb1⟩; have hcr := Core.ex (And.left ‹Core _ _ _ _ _ ∧ _›) hb1; obtain ⟨vr, hvr⟩ := hcr.cell 0 (by omega); obtain ⟨vs, hvs⟩ := hcr.cell 1 (by omega); have hfr := hcr.frozen 0; have hfs := hcr.frozen 1; have hlr := hcr.lt))
        go_wp2_with fail
        have hz : w.heap.size + 3 ≤ w1.heap.size := by have := hb0.size; simpa using this
        obtain ⟨hr0, hr1, hpost⟩ := pair_post (x0 := num f 0) (x1 := x1) (c0' := c0') (c1' := c1') hz hb1 (ht0'.mono fun b _ hb => by simpa using hb) ht1' (E0.out.trans hcr.1) hvr hvs
        refine bodyPost_ret (v := .agg #[.int .i64 0, .slice (some ⟨w2.heap.size, 0, none⟩) 2 2]) (by simp [results, Tryz.results146, go_sem, hr0, hr1]) rfl ?_
        rw [HQ.out]
        exact hpost.upTo (by omega)
      · have hp1' : ¬ 1 = pc := fun h => hp1 h.symm
        go_enter Tryz.func146, Tryz.ntmps146
        go_wp2_with fail
        go_region_held3 (fun w' => Core ((w.alloc (.cells #[.int .i64 0, .slice (some ⟨b, o, none⟩) 2 cap] 55)).alloc (.cells #[.int .i64 m, .slice ag (len g) cg] 55)) (w.heap.size + 2) 2 55 w' ∧ w'.cell? ⟨w.heap.size, 1, none⟩ = some (.slice (some ⟨b, o, none⟩) 2 cap) ∧ w'.cell? ⟨w.heap.size + 1, 0, none⟩ = some (.int .i64 m) ∧ w'.cell? ⟨w.heap.size + 1, 1, none⟩ = some (.slice ag (len g) cg) ∧ w'.cell? ⟨b, o, none⟩ = some (.int .i64 (num f 0)) ∧ w'.cell? ⟨b, o + 1, none⟩ = some (.slice a0 (len (kid f 0)) c0) ∧ w'.cell? ⟨b, o + 2, none⟩ = some (.int .i64 (num f 1)) ∧ w'.cell? ⟨b, o + 3, none⟩ = some (.slice a1 (len (kid f 1)) c1)) ((refine KS.out _ ?_; first | exact Core.drew C0.out | exact Core.ex (And.left ‹Core _ _ _ _ _ ∧ _›) ‹Ex _ _› | exact Core.alloc (And.left ‹Core _ _ _ _ _ ∧ _›) _ | exact Core.set (Core.set (And.left ‹Core _ _ _ _ _ ∧ _›) _ _ (by simp) _) _ _ (by simp) _ | exact Core.alloc (Core.set (Core.set (by assumption) _ _ (by simp) _) _ _ (by simp) _) _)) (first | (go_at_call 30; refine (IC.out _ (Ex.trans E0.out (And.left ‹Core _ _ _ _ _ ∧ _›).1)).mono ?_; rintro e w1 ⟨a0', c0', rfl, ht0', hb0⟩) | (go_at_call 146; refine (IW.out _ _ _ (by omega) (by omega) (Ex.trans E0.out (And.left ‹Core _ _ _ _ _ ∧ _›).1) (PQ.out _ (Ex.trans E0.out (And.left ‹Core _ _ _ _ _ ∧ _›).1))).mono ?_; rintro e w2 ⟨a1', c1', rfl, ht1', hb1⟩; have hcr := Core.ex (And.left ‹Core _ _ _ _ _ ∧ _›) hb1; obtain ⟨vr, hvr⟩ := hcr.cell 0 (by omega); obtain ⟨vs, hvs⟩ := hcr.cell 1 (by omega); have hfr := hcr.frozen 0; have hfs := hcr.frozen 1; have hlr := hcr.lt))
        go_wp2_with fail
        have hz : w.heap.size + 3 ≤ w1.heap.size := by have := hb0.size; simpa using this
        obtain ⟨hr0, hr1, hpost⟩ := pair_post (x0 := num f 0) (x1 := x1) (c0' := c0') (c1' := c1') hz hb1 (ht0'.mono fun b _ hb => by simpa using hb) ht1' (E0.out.trans hcr.1) hvr hvs
        refine bodyPost_ret (v := .agg #[.int .i64 0, .slice (some ⟨w2.heap.size, 0, none⟩) 2 2]) (by simp [results, Tryz.results146, go_sem, hr0, hr1]) rfl ?_
        rw [HQ.out]
        exact hpost.upTo (by omega)

end Go.Proofs.YtldbmlojgakieaaGreatDoor

namespace Go.Proofs.YtldbmlojgakieaaGreatDoor

open Go.RowKit Go.Deep

attribute [local go_sem ↓] Go.wp_at_zero Go.wp_at_succ

/-- The part that can be put there: what is there is of one ok type with it. -/
def putOk (n : Int) (f : F) (p : List Int) (m : Int) (g : F) : Bool := match (vType 4 n f).bind fun u => partF u p with
  | some v => valOk v m g
  | none => false
/-- What ValPut tells. -/
def valPutR (n : Int) (f : F) (p : List Int) (m : Int) (g : F) : (Int × F) × Bool := if putOk n f p m g = true then (putV p n f m g, true) else ((0, .nil), false)

def PutPost (R : (Int × F) × Bool) (w : World) (e : Ending) (w' : World) : Prop := ∃ a' c', e = .returned (.tuple #[.agg #[.int .i64 R.1.1, .slice a' (len R.1.2) c'], .bool R.2]) ∧ VO 8 w' (fun b => w.heap.size ≤ b) R.1.2 a' ∧ Ex w w'
theorem PutPost.no {R : (Int × F) × Bool} {w w' : World} (h : R = ((0, .nil), false)) (hx : Ex w w') : PutPost R w (.returned (.tuple #[.agg #[.int .i64 0, .slice none 0 0], .bool false])) w' := by
  subst h
  exact ⟨none, 0, rfl, Or.inl rfl, hx⟩

set_option maxRecDepth 100000 in
set_option maxHeartbeats 4000000 in
theorem iValPut_any (n : Int) (f : F) (p : List Int) (m : Int) (g : F) (a ag pa : Option Addr) (cap cg pc lo lo' : Nat) (w : World) (hp : p.length ≤ 1000000000) (hpc : p.length ≤ pc) (hpm : pc ≤ 9223372036854775807) (hT : VA w lo f a) (hG : VA w lo' g ag) (hP : PA w 0 p pa) :
    Calls Tryz.prog 135 #[.agg #[.int .i64 n, .slice a (len f) cap], .slice pa p.length pc, .agg #[.int .i64 m, .slice ag (len g) cg]] w (PutPost (valPutR n f p m g) w) := by
  have IV : Hid (∀ w', Ex w w' → Calls Tryz.prog 57 #[.agg #[.int .i64 n, .slice a (len f) cap]] w' fun e w'' => ∃ a' c', e = .returned (.tuple #[.agg #[.slice a' (len ((vType 4 n f).getD .nil)) c'], .bool (vType 4 n f).isSome]) ∧ TA w'' w'.heap.size ((vType 4 n f).getD .nil) a' ∧ Ex w' w'') := fun w' h => valType_any n f a cap lo w' (VA_below hT h)
  have IP : Hid (∀ (u : F) (w' : World) (a' : Option Addr) (c' l : Nat), Ex w w' → TA w' l u a' → Calls Tryz.prog 143 #[.agg #[.slice a' (len u) c'], .slice pa p.length pc, .func (.func 144) #[] #[]] w' fun e w'' =>
      ∃ (g : F) (ok : Bool) (a' : Option Addr) (cap' : Nat), (partF u p = some g ∧ ok = true ∨ partF u p = none ∧ g = .nil ∧ ok = false) ∧ e = .returned (.tuple #[.agg #[.slice a' (len g) cap'], .bool ok]) ∧ TA w'' l g a' ∧ Ex w' w'') := fun u w' a' c' l h h' => partAtT_one u p a' c' pa pc l w' hp h' (PA_below hP h)
  have IO : Hid (∀ (v : F) (w' : World) (a' : Option Addr) (c' l : Nat), Ex w w' → TA w' l v a' → Calls Tryz.prog 145 #[.agg #[.slice a' (len v) c'], .agg #[.int .i64 m, .slice ag (len g) cg]] w' fun e w'' => e = .returned (.bool (valOk v m g)) ∧ Ex w' w'') := fun v w' a' c' l h h' => iValOk_any v m g ag a' cg c' _ _ w' (VA_below hG h) h'
  have IW : Hid (∀ (u v : F) (w' : World), vType 4 n f = some u → partF u p = some v → valOk v m g = true → Ex w w' → Calls Tryz.prog 146 #[.agg #[.int .i64 n, .slice a (len f) cap], .slice pa p.length pc, .agg #[.int .i64 m, .slice ag (len g) cg]] w' (CpPost 8 (putV p n f m g).1 (putV p n f m g).2 w')) := fun u v w' h1 h2 h3 h => by
    cases ht : vType 4 m g with
    | none => simp [valOk, ht, ofType] at h3
    | some t => exact valWithO_any p 4 4 n f u v m g t a ag pa cap cg pc lo lo' w' hp hpc hpm h1 h2 ht (VA_below hT h) (VA_below hG h) (PA_below hP h)
  have HR : Hid (valPutR n f p m g = if putOk n f p m g = true then (putV p n f m g, true) else ((0, .nil), false)) := rfl
  have HO : Hid (putOk n f p m g = match (vType 4 n f).bind fun u => partF u p with | some v => valOk v m g | none => false) := rfl
  clear hT hG hP
  obtain ⟨R, hR⟩ : ∃ R, R = valPutR n f p m g := ⟨_, rfl⟩
  rw [← hR] at HR ⊢
  clear hR
  have FI : Hid (∀ W0 W, W0.heap[w.heap.size + 2]? = some (.cells #[.int .i64 0, .slice none 0 0] 55 (0, 0)) → Ex w W0 → W = (W0.setCell ⟨w.heap.size + 1 + 1, 0, none⟩ (.int .i64 0)).setCell ⟨w.heap.size + 1 + 1, 1, none⟩ (.slice none 0 0) → W.heap[w.heap.size + 2]? = some (.cells #[.int .i64 0, .slice none 0 0] 55 (0, 0)) ∧ Ex w W) := fun W0 W h1 h2 h3 => by
    subst h3
    exact ⟨two_set (u' := .int .i64 0) (v' := .slice none 0 0) h1, (h2.set (by show w.heap.size ≤ w.heap.size + 2; omega) _).set (by show w.heap.size ≤ w.heap.size + 2; omega) _⟩
  go_enter Tryz.func135, Tryz.ntmps135
  go_wp2_with fail
  refine (IV.out _ (((Ex.new _ _).alloc _).alloc _)).mono ?_
  rintro e w1 ⟨a1, c1, rfl, ht1, hb1⟩
  have x1 : Ex w w1 := (((Ex.new _ _).alloc _).alloc _).trans hb1
  have rb : w1.heap[w.heap.size + 2]? = some (.cells #[.int .i64 0, .slice none 0 0] 55 (0, 0)) := hb1.blk (heap_alloc_at _ _ (by simp))
  have q0 : w1.cell? ⟨w.heap.size, 0, none⟩ = some (.int .i64 n) := hb1.at (((Ex.new _ _).alloc _).at (World.cell?_alloc_new _ _ _ _))
  have q1 : w1.cell? ⟨w.heap.size, 1, none⟩ = some (.slice a (len f) cap) := hb1.at (((Ex.new _ _).alloc _).at (World.cell?_alloc_new _ _ _ _))
  have q2 : w1.cell? ⟨w.heap.size + 1, 0, none⟩ = some (.int .i64 m) := hb1.at ((Ex.new _ _).at (by simp))
  have q3 : w1.cell? ⟨w.heap.size + 1, 1, none⟩ = some (.slice ag (len g) cg) := hb1.at ((Ex.new _ _).at (by simp))
  have d0 : w1.cell? ⟨w.heap.size + 1 + 1, 0, none⟩ = some (.int .i64 0) := two_cell0 rb
  have d1 : w1.cell? ⟨w.heap.size + 1 + 1, 1, none⟩ = some (.slice none 0 0) := two_cell1 rb
  have d2 : w1.frozen? ⟨w.heap.size + 1 + 1, 0, none⟩ = false := two_free rb
  have d3 : w1.frozen? ⟨w.heap.size + 1 + 1, 1, none⟩ = false := two_free rb
  have z2 : w.heap.size + 1 + 1 < w1.heap.size := lt_of_block rb
  have z1 : w.heap.size + 1 < w1.heap.size := by omega
  have z0 : w.heap.size < w1.heap.size := by omega
  cases hv : vType 4 n f with
  | none =>
    have HN : Hid (R = ((0, .nil), false)) := by show _ = _; rw [HR.out, HO.out, hv]; rfl
    rw [hv] at ht1
    simp only [Option.getD_none, Option.isSome_none, len] at *
    clear ht1 hv
    go_wp2_with fail
    obtain ⟨hb, hxf⟩ := FI.out w1 _ rb x1 rfl
    have hb' := (Ex.new _ (.cells #[.slice a1 0 c1] 97)).blk hb
    have hr0 := two_cell0 hb'
    have hr1 := two_cell1 hb'
    refine bodyPost_ret (v := .tuple #[.agg #[.int .i64 0, .slice none 0 0], .bool false]) (by simp [results, Tryz.results135, go_sem, hr0, hr1]) rfl ?_
    exact PutPost.no HN.out (hxf.alloc _)
  | some u =>
    have HV : Hid (vType 4 n f = some u) := hv
    rw [hv] at ht1
    simp only [Option.getD_some, Option.isSome_some] at *
    have T1 : Hid _ := ht1
    clear ht1 hv
    go_wp2_with fail
    refine (IP.out u _ a1 c1 _ (x1.alloc _) (TA_below T1.out (Ex.new _ _))).mono ?_
    rintro e w2 ⟨v, ok, a2, c2, hpart, rfl, ht2, hb2⟩
    have x2 : Ex w w2 := (x1.alloc _).trans hb2
    have xx : Ex w1 w2 := (Ex.new _ _).trans hb2
    have rb2 := xx.blk rb
    have T2 : Hid _ := ht2
    replace q0 := xx.at q0
    replace q1 := xx.at q1
    replace q2 := xx.at q2
    replace q3 := xx.at q3
    replace d0 : w2.cell? ⟨w.heap.size + 1 + 1, 0, none⟩ = some (.int .i64 0) := two_cell0 rb2
    replace d1 : w2.cell? ⟨w.heap.size + 1 + 1, 1, none⟩ = some (.slice none 0 0) := two_cell1 rb2
    replace d2 : w2.frozen? ⟨w.heap.size + 1 + 1, 0, none⟩ = false := two_free rb2
    replace d3 : w2.frozen? ⟨w.heap.size + 1 + 1, 1, none⟩ = false := two_free rb2
    have y2 : w.heap.size + 1 + 1 < w2.heap.size := lt_of_block rb2
    have y1 : w.heap.size + 1 < w2.heap.size := by omega
    have y0 : w.heap.size < w2.heap.size := by omega
    have y3 : w1.heap.size < w2.heap.size := by have := hb2.size; rw [World.size_alloc] at this; omega
    clear ht2
    rcases hpart with ⟨hpv, rfl⟩ | ⟨hpv, rfl, rfl⟩
    · have HP : Hid (partF u p = some v) := hpv
      have HO2 : Hid (putOk n f p m g = valOk v m g) := by show _ = _; rw [HO.out, HV.out]; simp [hpv]
      clear hpv
      go_wp2_with fail
      refine (IO.out v _ a2 c2 _ (x2.alloc _) (TA_below T2.out (Ex.new _ _))).mono ?_
      rintro e w3 ⟨rfl, hb3⟩
      have x3 : Ex w w3 := (x2.alloc _).trans hb3
      have xy : Ex w2 w3 := (Ex.new _ _).trans hb3
      have rb3 := xy.blk rb2
      replace q0 := xy.at q0
      replace q1 := xy.at q1
      replace q2 := xy.at q2
      replace q3 := xy.at q3
      replace d0 : w3.cell? ⟨w.heap.size + 1 + 1, 0, none⟩ = some (.int .i64 0) := two_cell0 rb3
      replace d1 : w3.cell? ⟨w.heap.size + 1 + 1, 1, none⟩ = some (.slice none 0 0) := two_cell1 rb3
      replace d2 : w3.frozen? ⟨w.heap.size + 1 + 1, 0, none⟩ = false := two_free rb3
      replace d3 : w3.frozen? ⟨w.heap.size + 1 + 1, 1, none⟩ = false := two_free rb3
      cases hk : valOk v m g
      · have HN : Hid (R = ((0, .nil), false)) := by show _ = _; rw [HR.out, HO2.out, hk]; rfl
        clear hk
        go_wp2_with fail
        obtain ⟨hb, hxf⟩ := FI.out w3 _ rb3 x3 rfl
        have hr0 := two_cell0 hb
        have hr1 := two_cell1 hb
        refine bodyPost_ret (v := .tuple #[.agg #[.int .i64 0, .slice none 0 0], .bool false]) (by simp [results, Tryz.results135, go_sem, hr0, hr1]) rfl ?_
        exact PutPost.no HN.out hxf
      · have HN : Hid (R = (putV p n f m g, true)) := by show _ = _; rw [HR.out, HO2.out, hk]; rfl
        have IX : Hid (Calls Tryz.prog 146 #[.agg #[.int .i64 n, .slice a (len f) cap], .slice pa p.length pc, .agg #[.int .i64 m, .slice ag (len g) cg]] w3 (CpPost 8 (putV p n f m g).1 (putV p n f m g).2 w3)) := IW.out u v w3 HV.out HP.out hk x3
        generalize putV p n f m g = pv at *
        obtain ⟨pn, pf⟩ := pv
        clear hk IW
        go_wp2_with fail
        refine Calls.mono IX.out ?_
        rintro e w4 ⟨a4, c4, rfl, ht4, hb4⟩
        have x4 : Ex w w4 := x3.trans hb4
        have rb4 := hb4.blk rb3
        have zz : w.heap.size + 2 < w3.heap.size := lt_of_block rb3
        have T4 : Hid (VO 8 w4 (fun b => w3.heap.size ≤ b) pf a4) := ht4
        clear ht4
        replace d0 : w4.cell? ⟨w.heap.size + 1 + 1, 0, none⟩ = some (.int .i64 0) := two_cell0 rb4
        replace d1 : w4.cell? ⟨w.heap.size + 1 + 1, 1, none⟩ = some (.slice none 0 0) := two_cell1 rb4
        replace d2 : w4.frozen? ⟨w.heap.size + 1 + 1, 0, none⟩ = false := two_free rb4
        replace d3 : w4.frozen? ⟨w.heap.size + 1 + 1, 1, none⟩ = false := two_free rb4
        go_wp2_with fail
        have hb5 := two_set (u' := .int .i64 pn) (v' := .slice a4 (len pf) c4) rb4
        have hr0 := two_cell0 hb5
        have hr1 := two_cell1 hb5
        refine bodyPost_ret (v := .tuple #[.agg #[.int .i64 pn, .slice a4 (len pf) c4], .bool true]) (by simp [results, Tryz.results135, go_sem, hr0, hr1]) rfl ?_
        rw [HN.out]
        refine ⟨a4, c4, rfl, VO.mono (VO.ks T4.out fun b hb _ => ?_) fun b _ hb => ?_, (x4.set (by show w.heap.size ≤ w.heap.size + 2; omega) _).set (by show w.heap.size ≤ w.heap.size + 2; omega) _⟩
        · have : w3.heap.size ≤ b := hb
          rw [Below.heap_setCell _ _ _ _ (by show b ≠ w.heap.size + 2; omega), Below.heap_setCell _ _ _ _ (by show b ≠ w.heap.size + 2; omega)]
        · have : w3.heap.size ≤ b := hb
          show w.heap.size ≤ b; omega
    · have HN : Hid (R = ((0, .nil), false)) := by show _ = _; rw [HR.out, HO.out, HV.out]; simp [hpv]
      clear hpv
      simp only [len] at *
      go_wp2_with fail
      obtain ⟨hb, hxf⟩ := FI.out w2 _ rb2 x2 rfl
      have hb' := (Ex.new _ (.cells #[.slice a2 0 c2] 97)).blk hb
      have hr0 := two_cell0 hb'
      have hr1 := two_cell1 hb'
      refine bodyPost_ret (v := .tuple #[.agg #[.int .i64 0, .slice none 0 0], .bool false]) (by simp [results, Tryz.results135, go_sem, hr0, hr1]) rfl ?_
      exact PutPost.no HN.out (hxf.alloc _)

end Go.Proofs.YtldbmlojgakieaaGreatDoor

namespace Go.Proofs.YtldbmlojgakieaaGreatDoor

open Go.RowKit Go.Deep Go.Maps Go.WideMaps

def mkV (R : (Int × F) × Bool) : Option (Int × F) := if R.2 = true then some R.1 else none

/-- What is made of the values of a term's own list. -/
def opV (k : Int) (p : List Int) (f : F) : Option (Int × F) :=
  if k = 6 then okV 0 f else if k = 7 then mkV (valAtR (num f 0) (kid f 0) p) else if k = 8 then mkV (valPutR (num f 0) (kid f 0) p (num f 1) (kid f 1))
  else numV k (num f 0) (kid f 0) (num f 1) (kid f 1)
/-- What a term says, told what its own list says. -/
def oneV (L : ByteArray → Int × F) (k n : Int) (s : ByteArray) (p : List Int) : Option F → Option (Int × F)
  | none => none
  | some f => if k = 1 then some (n, .nil) else if k = 2 then some (L s) else opV k p f
/-- What terms say. -/
def evL (L : ByteArray → Int × F) : TM → Option F
  | .nil => some .nil
  | .node _ _ (k, n, s, p) f r => (oneV L k n s p (evL L f)).bind fun v => (evL L r).bind fun l => some (.node 0 0 v.1 v.2 l)
/-- What a term of a list says. -/
def evAt (L : ByteArray → Int × F) (f : TM) (i : Nat) : Option (Int × F) := oneV L (tkind f i) (tnum f i) (tname f i) (tpath f i) (evL L (tkid f i))
/-- What the first terms of a list say. -/
def evP (L : ByteArray → Int × F) (f : TM) : Nat → Option F
  | 0 => some .nil
  | j + 1 => (evP L f j).bind fun l => (evAt L f j).bind fun v => some (snoc l v.1 v.2)

theorem evP_node (L : ByteArray → Int × F) (x y : Nat) (d : Int × Int × ByteArray × List Int) (f r : TM) : ∀ j, evP L (.node x y d f r) (j + 1) = (evAt L (.node x y d f r) 0).bind fun v => (evP L r j).bind fun l => some (.node 0 0 v.1 v.2 l)
  | 0 => by
    obtain ⟨k, n, s, p⟩ := d
    simp only [evP, Option.bind_some]
    cases evAt L (.node x y (k, n, s, p) f r) 0 <;> rfl
  | j + 1 => by
    obtain ⟨k, n, s, p⟩ := d
    rw [evP, evP_node L x y (k, n, s, p) f r j, evP]
    have h1 : evAt L (.node x y (k, n, s, p) f r) (j + 1) = evAt L r j := rfl
    rw [h1]
    cases evAt L (.node x y (k, n, s, p) f r) 0 with
    | none => rfl
    | some v =>
      cases evP L r j with
      | none => rfl
      | some l =>
        cases evAt L r j with
        | none => rfl
        | some u => rfl

theorem evP_all (L : ByteArray → Int × F) : ∀ f : TM, evP L f (tlen f) = evL L f
  | .nil => rfl
  | .node x y (k, n, s, p) f r => by
    show evP L (.node x y (k, n, s, p) f r) (tlen r + 1) = _
    rw [evP_node, evP_all L r]; rfl

theorem evP_none {L : ByteArray → Int × F} {f : TM} {j : Nat} (h : evP L f j = none) : ∀ i, j ≤ i → evP L f i = none := by
  intro i hi
  induction i with
  | zero => obtain rfl : j = 0 := by omega
            exact h
  | succ i ih =>
    by_cases e : j = i + 1
    · rw [← e]; exact h
    · rw [evP, ih (by omega)]; rfl
/-- One of them fails: all of them do. -/
theorem evL_none {L : ByteArray → Int × F} {f : TM} {j : Nat} (hj : j < tlen f) (h : evAt L f j = none) : evL L f = none := by
  rw [← evP_all]
  refine evP_none (j := j + 1) ?_ _ (by omega)
  rw [evP, h]
  cases evP L f j <;> rfl
theorem evP_snoc {L : ByteArray → Int × F} {f : TM} {j : Nat} {l : F} {v : Int × F} (h : evP L f j = some l) (hv : evAt L f j = some v) : evP L f (j + 1) = some (snoc l v.1 v.2) := by
  rw [evP, h, hv]; rfl
theorem evL_len {L : ByteArray → Int × F} : ∀ {f : TM} {l : F}, evL L f = some l → len l = tlen f
  | .nil, l, h => by cases h; rfl
  | .node _ _ (k, n, s, p) f r, l, h => by
    simp only [evL] at h
    cases h1 : oneV L k n s p (evL L f) with
    | none => rw [h1] at h; cases h
    | some v =>
      rw [h1] at h
      cases h2 : evL L r with
      | none => rw [h2] at h; cases h
      | some l' =>
        rw [h2] at h; cases h
        show len l' + 1 = tlen r + 1
        rw [evL_len h2]

/-- A value is of some type. -/
def tyV (v : Int × F) : Prop := (vType 4 v.1 v.2).isSome = true
def tyL (f : F) : Prop := ∀ i, i < len f → (vType 4 (num f i) (kid f i)).isSome = true
theorem tyL_nil : tyL .nil := fun _ h => absurd h (Nat.not_lt_zero _)
theorem tyL_snoc {f : F} {n : Int} {k : F} (h : tyL f) (hv : (vType 4 n k).isSome = true) : tyL (snoc f n k) := by
  intro i hi
  rw [len_snoc] at hi
  rw [num_snoc, kid_snoc]
  by_cases e : i < len f
  · rw [if_pos e, if_pos e]; exact h i e
  · rw [if_neg e, if_neg e, if_pos (show i = len f by omega), if_pos (show i = len f by omega)]; exact hv
theorem okV_ty {n : Int} {f : F} {v : Int × F} (h : okV n f = some v) : tyV v := by
  unfold okV at h
  split at h
  · rename_i hs; cases h; exact hs
  · cases h

/-- How an element of the map reads: as itself. -/
def selfR : Value → Option (DataW Value × List MemPlace) := fun v => some (.held v, [])
abbrev zV : Value := .agg #[.int .i64 0, .slice none 0 0]

/-- A block is a map that holds of each name what it stands for. -/
def EM (w : World) (S : Nat → Prop) (mb n : Nat) (L : ByteArray → Int × F) : Prop := ∃ D : DataW Value, w.ownsMap Tryz.prog 9 selfR mb n D ∧
  ∀ s : ByteArray, ∃ a c, D.atKey (.string s.data.toList) (.held zV) = .held (.agg #[.int .i64 (L s).1, .slice a (len (L s).2) c]) ∧ VS w S (L s).2 a
theorem EM_made (w : World) (S : Nat → Prop) : EM (w.alloc (.map #[] 0)) S w.heap.size 0 fun _ => (0, .nil) := ⟨_, World.ownsMap_made w _ _ _, fun _ => ⟨none, 0, rfl, Or.inl rfl⟩⟩
theorem EM.lt {w : World} {S : Nat → Prop} {mb n : Nat} {L : ByteArray → Int × F} (h : EM w S mb n L) : mb < w.heap.size := by
  obtain ⟨D, h1, _⟩ := h
  exact h1.lt
theorem EM.ex {w w' : World} {S : Nat → Prop} {mb n : Nat} {L : ByteArray → Int × F} (h : EM w S mb n L) (hx : Ex w w') : EM w' S mb n L := by
  have hl := h.lt
  obtain ⟨D, ⟨es, cl, h1, h2⟩, h3⟩ := h
  exact ⟨D, ⟨es, cl, (hx.block mb hl).trans h1, h2⟩, fun s => by
    obtain ⟨a, c, e, hV⟩ := h3 s
    exact ⟨a, c, e, VS_ex hV hx⟩⟩
theorem Tryz.zeroVal (w : World) : (zeroValue 55).run Tryz.prog w = .ok zV w := by kernel_rfl
/-- A name asked for. -/
theorem EM.look {w : World} {S : Nat → Prop} {mb n : Nat} {L : ByteArray → Int × F} (h : EM w S mb n L) {s : ByteArray} (hs : s.size ≤ 9223372036854775807) :
    ∃ a c, (Instr.lookup 135 (.map (some mb)) (.string s) false).run Tryz.prog w = .ok (.agg #[.int .i64 (L s).1, .slice a (len (L s).2) c]) w ∧ VS w S (L s).2 a := by
  obtain ⟨D, h1, h2⟩ := h
  obtain ⟨a, c, e, hV⟩ := h2 s
  obtain ⟨v, ps, hr, hv⟩ := h1.lookup Tryz.keyed Tryz.underlying135 (Tryz.zeroVal _) (zd := .held zV) (zp := []) rfl (key_string hs)
  refine ⟨a, c, ?_, hV⟩
  simp only [selfR, Option.some.injEq, Prod.mk.injEq] at hv
  have hh : DataW.held v = .held (.agg #[.int .i64 (L s).1, .slice a (len (L s).2) c]) := hv.1.trans e
  rw [DataW.held.inj hh] at hr; exact hr
/-- What names stand for, one of them bound anew. -/
def setE (L : ByteArray → Int × F) (s : ByteArray) (v : Int × F) : ByteArray → Int × F := fun t => if (s.toList == t.toList) = true then v else L t
theorem EM.mono {w : World} {S S' : Nat → Prop} {mb n : Nat} {L : ByteArray → Int × F} (h : EM w S mb n L) (hs : ∀ b, b < w.heap.size → S b → S' b) : EM w S' mb n L := by
  obtain ⟨D, h1, h2⟩ := h
  exact ⟨D, h1, fun s => by
    obtain ⟨a, c, e, hV⟩ := h2 s
    exact ⟨a, c, e, VS_mono hV hs⟩⟩
theorem EM.put {w w' : World} {S : Nat → Prop} {mb n' : Nat} {L : ByteArray → Int × F} {s : ByteArray} {D : DataW Value} {v : Int × F} {a : Option Addr} {c : Nat} (hD : IsMap D) (hx : Fr mb w w') (hS : ¬ S mb)
    (h2 : ∀ s : ByteArray, ∃ a c, D.atKey (.string s.data.toList) (.held zV) = .held (.agg #[.int .i64 (L s).1, .slice a (len (L s).2) c]) ∧ VS w S (L s).2 a) (hV : VS w S v.2 a)
    (h : w'.ownsMap Tryz.prog 9 selfR mb n' (D.put (.string s.data.toList) (.held (.agg #[.int .i64 v.1, .slice a (len v.2) c])))) : EM w' S mb n' (setE L s v) := by
  have mv : ∀ (f : F) (a : Option Addr), VS w S f a → VS w' S f a := fun f a hf => VS_ks hf fun b hs hlt => hx.block b hlt (fun e => hS (e ▸ hs))
  refine ⟨_, h, fun t => ?_⟩
  by_cases he : (s.toList == t.toList) = true
  · have e := byte_key.2 he
    refine ⟨a, c, ?_, ?_⟩
    · rw [← e, atKey_put_same hD (k := .string s.data.toList) (by simp [WideAt.IsKeyLit]), setE, if_pos he]
    · rw [setE, if_pos he]; exact mv _ _ hV
  · obtain ⟨a', c', h3, h4⟩ := h2 t
    refine ⟨a', c', ?_, ?_⟩
    · rw [atKey_put_other (fun e => by injection e with e; exact he (byte_key.1 e.symm)), h3, setE, if_neg he]
    · rw [setE, if_neg he]; exact mv _ _ h4

set_option maxRecDepth 100000 in
/-- A name bound: an operation of an ordered list. -/
theorem wpList_bindV {w : World} {ops : Array Oper} {rest : List Oper} {o : Oper} {a : Act} {Q : Exit → Act → World → Prop} (hg : o.guard = none) (m x v : Operand) (hop : o.op = Op.mapUpdate 135 m x v)
    (S : Nat → Prop) (mb n : Nat) (L : ByteArray → Int × F) (s : ByteArray) (hs : s.size ≤ 9223372036854775807) (hm : a.eval m = .map (some mb)) (hC : EM w S mb n L) (hS : ¬ S mb) (hn : n < 1000000) (hx : a.eval x = .string s)
    (u : Int) (f : F) (ad : Option Addr) (c : Nat) (hv : a.eval v = .agg #[.int .i64 u, .slice ad (len f) c]) (hV : VS w S f ad)
    (hK : ∀ w', EM w' S mb (n + 1) (setE L s (u, f)) → Fr mb w w' → wpList Tryz.prog ops Q rest (a.put o.dst undef) w') : wpList Tryz.prog ops Q (o :: rest) a w := by
  obtain ⟨D, h1, h2⟩ := hC
  have hn' : n < maxLen := by unfold maxLen; omega
  have hR : selfR (.agg #[.int .i64 u, .slice ad (len f) c]) = some (.held (.agg #[.int .i64 u, .slice ad (len f) c]), []) := rfl
  refine wpList_mapUpdate_own w hg m x v 135 hop 9 55 Tryz.keyed Tryz.underlying135 selfR mb n D hm h1 hn' (.string s) (.agg #[.int .i64 u, .slice ad (len f) c]) (.string s.data.toList) hx hv (key_string hs) _ [] hR ?_
  intro w' hown hgr
  exact hK w' (EM.put (v := (u, f)) h1.isMap (grown_fr hgr) hS h2 hV hown) (grown_fr hgr)

end Go.Proofs.YtldbmlojgakieaaGreatDoor
