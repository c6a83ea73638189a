/- Values in memory of their own; a value copied into such. -/
import Derived.Test.YtomnekiiccbioaaM1
namespace Go.Proofs.Ytomnekiiccbioaa
open Go.RowKit Go.Deep
attribute [local go_sem ↓] Go.wp_at_zero Go.wp_at_succ

/-- A list of values lies in blocks of its own, all in S, that may be written, and no two of its lists share any; at most so deep. -/
def VO : Nat → World → (Nat → Prop) → F → Option Addr → Prop
  | 0, _, _, f, _ => len f = 0
  | d + 1, w, S, f, a => len f = 0 ∨ ∃ (g : Nat) (cur : Array Value) (K : Nat → Nat → Prop), a = some ⟨g, 0, none⟩ ∧ S g ∧ w.heap[g]? = some (.cells cur 39 (0, 0)) ∧
      ∀ i, i < len f → (∀ b, K i b → S b ∧ b ≠ g) ∧ (∀ j, j < len f → j ≠ i → ∀ b, K i b → ¬ K j b) ∧ cur[i * 2]? = some (.int .i64 (num f i)) ∧ ∃ a' c', cur[i * 2 + 1]? = some (.slice a' (len (kid f i)) c') ∧ VO d w (K i) (kid f i) a'

theorem VO.vs : ∀ {d : Nat} {w : World} {S : Nat → Prop} {f : F} {a : Option Addr}, VO d w S f a → VS w S f a
  | 0, _, _, _, _, h => Or.inl h
  | d + 1, w, S, f, a, h => by
    rcases h with h | ⟨g, cur, K, e, hg, hc, hk⟩
    · exact Or.inl h
    · subst e
      refine VS_mk hg fun i hi => ?_
      obtain ⟨h0, _, h1, a', c', h2, h3⟩ := hk i hi
      exact ⟨by rw [Nat.zero_add, cell_cur hc]; exact h1, a', c', by rw [Nat.zero_add, cell_cur hc]; exact h2, VS_mono h3.vs fun b _ hb => (h0 b hb).1⟩

theorem VO.ks : ∀ {d : Nat} {w w' : World} {S : Nat → Prop} {f : F} {a : Option Addr}, VO d w S f a → Ks S w w' → VO d w' S f a
  | 0, _, _, _, _, _, h, _ => h
  | d + 1, w, w', S, f, a, h, hk => by
    rcases h with h | ⟨g, cur, K, e, hg, hc, hkk⟩
    · exact Or.inl h
    · refine Or.inr ⟨g, cur, K, e, hg, (hk g hg (lt_of_block hc)).trans hc, fun i hi => ?_⟩
      obtain ⟨h0, h1, h2, a', c', h3, h4⟩ := hkk i hi
      exact ⟨h0, h1, h2, a', c', h3, h4.ks fun b hb hlt => hk b (h0 b hb).1 hlt⟩

theorem VO.mono : ∀ {d : Nat} {w : World} {S S' : Nat → Prop} {f : F} {a : Option Addr}, VO d w S f a → (∀ b, b < w.heap.size → S b → S' b) → VO d w S' f a
  | 0, _, _, _, _, _, h, _ => h
  | d + 1, w, S, S', f, a, h, hl => by
    rcases h with h | ⟨g, cur, K, e, hg, hc, hkk⟩
    · exact Or.inl h
    · refine Or.inr ⟨g, cur, fun i b => K i b ∧ b < w.heap.size, e, hl g (lt_of_block hc) hg, hc, fun i hi => ?_⟩
      obtain ⟨h0, h1, h2, a', c', h3, h4⟩ := hkk i hi
      exact ⟨fun b hb => ⟨hl b hb.2 (h0 b hb.1).1, (h0 b hb.1).2⟩, fun j hj hne b hb hb' => h1 j hj hne b hb.1 hb'.1, h2, a', c', h3, h4.mono fun b hb hs => ⟨hs, hb⟩⟩

theorem VO.ex {d : Nat} {w w' : World} {S : Nat → Prop} {f : F} {a : Option Addr} (h : VO d w S f a) (hx : Ex w w') : VO d w' S f a := h.ks fun b _ hlt => hx.block b hlt
theorem VO.nil (d : Nat) (w : World) (S : Nat → Prop) (f : F) (a : Option Addr) (h : len f = 0) : VO d w S f a := by cases d; exact h; exact Or.inl h

/-- A pair in a block of its own. -/
theorem VO_two {d : Nat} {w : World} {S K0 K1 : Nat → Prop} {f : F} (h2 : len f = 2) {g : Nat} {a0 a1 : Option Addr} {k0 k1 : Nat} {n0 n1 : Int} (hg : S g)
    (hc : w.heap[g]? = some (.cells #[.int .i64 n0, .slice a0 (len (kid f 0)) k0, .int .i64 n1, .slice a1 (len (kid f 1)) k1] 39 (0, 0))) (e0 : n0 = num f 0) (e1 : n1 = num f 1)
    (hk0 : ∀ b, K0 b → S b ∧ b ≠ g ∧ ¬ K1 b) (hk1 : ∀ b, K1 b → S b ∧ b ≠ g) (t0 : VO d w K0 (kid f 0) a0) (t1 : VO d w K1 (kid f 1) a1) : VO (d + 1) w S f (some ⟨g, 0, none⟩) := by
  subst e0 e1
  refine Or.inr ⟨g, _, fun i => if i = 0 then K0 else K1, rfl, hg, hc, fun i hi => ?_⟩
  have : i = 0 ∨ i = 1 := by omega
  rcases this with rfl | rfl
  · refine ⟨fun b hb => ⟨(hk0 b hb).1, (hk0 b hb).2.1⟩, fun j hj hne b hb => ?_, rfl, a0, k0, rfl, t0⟩
    simp only [if_neg hne]; exact (hk0 b hb).2.2
  · refine ⟨fun b hb => hk1 b hb, fun j hj hne b hb hb' => ?_, rfl, a1, k1, rfl, t1⟩
    have : j = 0 := by omega
    subst this
    exact (hk0 b hb').2.2 hb

/-- What a copy tells. -/
def CpPost (d : Nat) (n : Int) (f : F) (w : World) (e : Ending) (w' : World) : Prop := ∃ a' c', e = .returned (.agg #[.int .i64 n, .slice a' (len f) c']) ∧ VO d w' (fun b => w.heap.size ≤ b) f a' ∧ Ex w w'

set_option maxRecDepth 100000 in
set_option maxHeartbeats 2000000 in
theorem valCopyO_any : ∀ (r : Nat) (n : Int) (f u : F) (a : Option Addr) (cap : Nat) (lo : Nat) (w : World), vType r n f = some u → VA w lo f a →
    Calls Try.prog 74 #[.agg #[.int .i64 n, .slice a (len f) cap]] w (CpPost r n f w)
  | 0, n, f, u, a, cap, lo, w, hf, hT => by simp [vType] at hf
  | r + 1, n, f, u, a, cap, lo, w, hf, hT => by
    by_cases h0 : len f = 0
    · have h0' : ((len f : Int) == 0) = true := by simp [h0]
      have H0 : Hid (len f = 0) := h0
      clear h0 hf hT
      go_enter Try.func74, Try.ntmps74
      go_wp2_with fail
      refine bodyPost_ret (v := .agg #[.int .i64 n, .slice none 0 0]) (by simp [results, Try.results74, go_sem]) rfl ⟨none, 0, by rw [H0.out], Or.inl H0.out, ?_⟩
      exact ((Ex.new _ _).alloc _)
    · obtain h1 | ⟨h2, hn, ua, ub, hua, hub⟩ := vType_some hf
      · exact absurd h1 h0
      subst hn
      obtain ⟨b, o, a0, a1, c0, c1, rfl, hlo, hbs, n0, hc0, n1, hc1, t0, t1⟩ := VA_pair hT h2
      have I0 : Hid (∀ w', Ex w w' → Calls Try.prog 74 #[.agg #[.int .i64 (num f 0), .slice a0 (len (kid f 0)) c0]] w' (CpPost r (num f 0) (kid f 0) w')) := fun w' h => valCopyO_any r (num f 0) (kid f 0) ua a0 c0 lo w' hua (VA_below t0 h)
      have I1 : Hid (∀ w', Ex w w' → Calls Try.prog 74 #[.agg #[.int .i64 (num f 1), .slice a1 (len (kid f 1)) c1]] w' (CpPost r (num f 1) (kid f 1) w')) := fun w' h => valCopyO_any r (num f 1) (kid f 1) ub a1 c1 lo w' hub (VA_below t1 h)
      have H2 : Hid (len f = 2) := h2
      have E0 : Hid (Ex w (w.alloc (.cells #[.int .i64 0, .slice (some ⟨b, o, none⟩) 2 cap] 39))) := Ex.new _ _
      have KS : Hid (∀ w', Core (w.alloc (.cells #[.int .i64 0, .slice (some ⟨b, o, none⟩) 2 cap] 39)) (w.heap.size + 1) 2 39 w' → (Core (w.alloc (.cells #[.int .i64 0, .slice (some ⟨b, o, none⟩) 2 cap] 39)) (w.heap.size + 1) 2 39 w' ∧ w'.cell? ⟨w.heap.size, 1, none⟩ = some (.slice (some ⟨b, o, none⟩) 2 cap) ∧ w'.cell? ⟨b, o, none⟩ = some (.int .i64 (num f 0)) ∧ w'.cell? ⟨b, o + 1, none⟩ = some (.slice a0 (len (kid f 0)) c0) ∧ w'.cell? ⟨b, o + 2, none⟩ = some (.int .i64 (num f 1)) ∧ w'.cell? ⟨b, o + 3, none⟩ = some (.slice a1 (len (kid f 1)) c1))) := fun w' h => ⟨h, Ex.at h.1 (by simp), Ex.at h.1 (Ex.at (Ex.new _ _) n0), Ex.at h.1 (Ex.at (Ex.new _ _) hc0), Ex.at h.1 (Ex.at (Ex.new _ _) n1), Ex.at h.1 (Ex.at (Ex.new _ _) hc1)⟩
      have C0 : Hid (Core (w.alloc (.cells #[.int .i64 0, .slice (some ⟨b, o, none⟩) 2 cap] 39)) (w.heap.size + 1) 2 39 ((w.alloc (.cells #[.int .i64 0, .slice (some ⟨b, o, none⟩) 2 cap] 39)).alloc (.cells #[.int .i64 0, .slice none 0 0] 39))) := by
        have := Core.start (w.alloc (.cells #[.int .i64 0, .slice (some ⟨b, o, none⟩) 2 cap] 39)) #[.int .i64 0, .slice none 0 0] 39
        rw [World.size_alloc] at this; exact this
      rw [h2]
      clear hT t0 t1 hf h2 h0 hua hub n0 n1 hc0 hc1
      go_enter Try.func74, Try.ntmps74
      go_wp2_with fail
      go_region_held3 (fun w' => Core (w.alloc (.cells #[.int .i64 0, .slice (some ⟨b, o, none⟩) 2 cap] 39)) (w.heap.size + 1) 2 39 w' ∧ w'.cell? ⟨w.heap.size, 1, none⟩ = some (.slice (some ⟨b, o, none⟩) 2 cap) ∧ w'.cell? ⟨b, o, none⟩ = some (.int .i64 (num f 0)) ∧ w'.cell? ⟨b, o + 1, none⟩ = some (.slice a0 (len (kid f 0)) c0) ∧ w'.cell? ⟨b, o + 2, none⟩ = some (.int .i64 (num f 1)) ∧ w'.cell? ⟨b, o + 3, none⟩ = some (.slice a1 (len (kid f 1)) c1)) ((refine KS.out _ ?_; first | exact Core.drew C0.out | exact Core.ex (And.left ‹Core _ _ _ _ _ ∧ _›) ‹Ex _ _› | exact Core.alloc (And.left ‹Core _ _ _ _ _ ∧ _›) _ | exact Core.set (Core.set (And.left ‹Core _ _ _ _ _ ∧ _›) _ _ (by simp) _) _ _ (by simp) _ | exact Core.alloc (Core.set (Core.set (by assumption) _ _ (by simp) _) _ _ (by simp) _) _)) (first | (go_at_call_of 74 (Value.slice a0 (len (kid f 0)) c0); refine (I0.out _ (Ex.trans E0.out (And.left ‹Core _ _ _ _ _ ∧ _›).1)).mono ?_; rintro e w1 ⟨a0', c0', rfl, ht0', hb0⟩) | (go_at_call_of 74 (Value.slice a1 (len (kid f 1)) c1); refine (I1.out _ (Ex.trans E0.out (And.left ‹Core _ _ _ _ _ ∧ _›).1)).mono ?_; rintro e w2 ⟨a1', c1', rfl, ht1', hb1⟩; have hcr := Core.ex (And.left ‹Core _ _ _ _ _ ∧ _›) hb1; obtain ⟨vr, hvr⟩ := hcr.cell 0 (by omega); obtain ⟨vs, hvs⟩ := hcr.cell 1 (by omega); have hfr := hcr.frozen 0; have hfs := hcr.frozen 1; have hlr := hcr.lt))
      go_wp2_with fail
      have hz : w.heap.size + 2 ≤ w1.heap.size := by have := hb0.size; simpa using this
      have hz2 := hb1.size
      have hsz : ((w2.setCell ⟨w.heap.size + 1, 0, none⟩ (.int .i64 0)).setCell ⟨w.heap.size + 1, 1, none⟩ (.slice (some ⟨w2.heap.size, 0, none⟩) 2 2)).heap.size = w2.heap.size := by rw [World.size_setCell, World.size_setCell]
      have k1 : Kp (w.heap.size + 2) w1 (((w2.setCell ⟨w.heap.size + 1, 0, none⟩ (.int .i64 0)).setCell ⟨w.heap.size + 1, 1, none⟩ (.slice (some ⟨w2.heap.size, 0, none⟩) 2 2)).alloc (.cells #[.int .i64 (num f 0), .slice a0' (len (kid f 0)) c0', .int .i64 (num f 1), .slice a1' (len (kid f 1)) c1'] 39)) := (((Kp.of_below hb1 _).set (Or.inl (by simp)) _).set (Or.inl (by simp)) _).alloc _
      have k2 : Kp (w.heap.size + 2) w2 (((w2.setCell ⟨w.heap.size + 1, 0, none⟩ (.int .i64 0)).setCell ⟨w.heap.size + 1, 1, none⟩ (.slice (some ⟨w2.heap.size, 0, none⟩) 2 2)).alloc (.cells #[.int .i64 (num f 0), .slice a0' (len (kid f 0)) c0', .int .i64 (num f 1), .slice a1' (len (kid f 1)) c1'] 39)) := (((Kp.refl _ _).set (Or.inl (by simp)) _).set (Or.inl (by simp)) _).alloc _
      have f0 : VO r (((w2.setCell ⟨w.heap.size + 1, 0, none⟩ (.int .i64 0)).setCell ⟨w.heap.size + 1, 1, none⟩ (.slice (some ⟨w2.heap.size, 0, none⟩) 2 2)).alloc (.cells #[.int .i64 (num f 0), .slice a0' (len (kid f 0)) c0', .int .i64 (num f 1), .slice a1' (len (kid f 1)) c1'] 39)) (fun b => w.heap.size + 2 ≤ b ∧ b < w1.heap.size) (kid f 0) a0' := (ht0'.mono (S' := fun b => w.heap.size + 2 ≤ b ∧ b < w1.heap.size) fun b hb hs => ⟨by simpa using hs, hb⟩).ks fun b hb hlt => k1.block b hb.1 hlt
      have f1 : VO r (((w2.setCell ⟨w.heap.size + 1, 0, none⟩ (.int .i64 0)).setCell ⟨w.heap.size + 1, 1, none⟩ (.slice (some ⟨w2.heap.size, 0, none⟩) 2 2)).alloc (.cells #[.int .i64 (num f 0), .slice a0' (len (kid f 0)) c0', .int .i64 (num f 1), .slice a1' (len (kid f 1)) c1'] 39)) (fun b => w1.heap.size ≤ b ∧ b < w2.heap.size) (kid f 1) a1' := (ht1'.mono (S' := fun b => w1.heap.size ≤ b ∧ b < w2.heap.size) fun b hb hs => ⟨by simpa using hs, hb⟩).ks fun b hb hlt => k2.block b (by omega) hlt
      have hcn : (((w2.setCell ⟨w.heap.size + 1, 0, none⟩ (.int .i64 0)).setCell ⟨w.heap.size + 1, 1, none⟩ (.slice (some ⟨w2.heap.size, 0, none⟩) 2 2)).alloc (.cells #[.int .i64 (num f 0), .slice a0' (len (kid f 0)) c0', .int .i64 (num f 1), .slice a1' (len (kid f 1)) c1'] 39)).heap[w2.heap.size]? = some (.cells #[.int .i64 (num f 0), .slice a0' (len (kid f 0)) c0', .int .i64 (num f 1), .slice a1' (len (kid f 1)) c1'] 39 (0, 0)) := heap_alloc_at _ _ hsz.symm
      have hr1 : (((w2.setCell ⟨w.heap.size + 1, 0, none⟩ (.int .i64 0)).setCell ⟨w.heap.size + 1, 1, none⟩ (.slice (some ⟨w2.heap.size, 0, none⟩) 2 2)).alloc (.cells #[.int .i64 (num f 0), .slice a0' (len (kid f 0)) c0', .int .i64 (num f 1), .slice a1' (len (kid f 1)) c1'] 39)).cell? ⟨w.heap.size + 1, 1, none⟩ = some (.slice (some ⟨w2.heap.size, 0, none⟩) 2 2) := by
        rw [World.cell?_alloc_lt _ _ _ (by rw [hsz]; exact hlr)]
        exact World.cell?_setCell_same _ _ _ (by rw [World.cell?_setCell_other _ _ _ _ (fun e => absurd (congrArg Addr.off e) (by simp))]; exact hvs)
      have hr0 : (((w2.setCell ⟨w.heap.size + 1, 0, none⟩ (.int .i64 0)).setCell ⟨w.heap.size + 1, 1, none⟩ (.slice (some ⟨w2.heap.size, 0, none⟩) 2 2)).alloc (.cells #[.int .i64 (num f 0), .slice a0' (len (kid f 0)) c0', .int .i64 (num f 1), .slice a1' (len (kid f 1)) c1'] 39)).cell? ⟨w.heap.size + 1, 0, none⟩ = some (.int .i64 0) := by
        rw [World.cell?_alloc_lt _ _ _ (by rw [hsz]; exact hlr), World.cell?_setCell_other _ _ _ _ (fun e => absurd (congrArg Addr.off e) (by simp))]
        exact World.cell?_setCell_same _ _ _ hvr
      refine bodyPost_ret (v := .agg #[.int .i64 0, .slice (some ⟨w2.heap.size, 0, none⟩) 2 2]) (by simp [results, Try.results74, go_sem, hr0, hr1]) rfl ⟨_, 2, by rw [H2.out], VO_two H2.out (by show w.heap.size ≤ w2.heap.size; omega) hcn rfl rfl (fun b hb => ⟨by show w.heap.size ≤ b; omega, by omega, by omega⟩) (fun b hb => ⟨by show w.heap.size ≤ b; omega, by omega⟩) f0 f1, ?_⟩
      exact (((E0.out.trans hcr.1).set (by simp) _).set (by simp) _).alloc _

end Go.Proofs.Ytomnekiiccbioaa
