/- Walks: whether two types are the same, by the specification. Walks: another part put into a value, by the specification. Walks: another part put into a value, by the specification: the same. Walks: a type's text. -/
import Derived.Test.YtldbmlojgakieaaGreatDoorGW5
import Derived.Test.YtldbmlojgakieaaGreatDoorGPR2
namespace Go.Proofs.YtldbmlojgakieaaGreatDoor

open Go.RowKit Go.Deep

attribute [local go_sem ↓] Go.wp_at_zero Go.wp_at_succ

set_option maxRecDepth 100000 in
set_option maxHeartbeats 2000000 in
theorem l1Same_any : ∀ (d : Nat) (f g : F) (a a' : Option Addr) (c c' lo lo' : Nat) (w : World), dep f < d → len f ≤ 1000000000 → Sm f → TA w lo f a → TA w lo' g a' →
    Calls Tryz.prog 113 #[.agg #[.slice a (len f) c], .agg #[.slice a' (len g) c']] w fun e w' => e = .returned (.bool (eqT f g)) ∧ Ex w w' := by
  intro d
  induction d with
  | zero =>
    intro f g a a' c c' lo lo' w hd hl hs hT hT'
    omega
  | succ d ih =>
    intro f g a a' c c' lo lo' w hd hl hs hT hT'
    have T : Hid (TA w lo f a) := hT
    have T' : Hid (TA w lo' g a') := hT'
    have I : Hid _ := ih
    have SS : Hid (Sm f) := hs
    clear hT hT' ih hs
    by_cases hlen : len f = len g
    · have e0 : ((len f : Int) != (len g : Int)) = false := by simp [hlen]
      have hle : len f ≤ len g := by omega
      have hge : len g ≤ len f := by omega
      have HL : Hid (len f = len g) := hlen
      clear hlen
      go_enter Tryz.func113, Tryz.ntmps113
      go_wp2_with fail
      go_loopw [5] (fun i wr => ∃ k : Nat, k ≤ len f ∧ i = .int .i64 k ∧ Ex ((w.alloc (.cells #[.slice a (len f) c] 97)).alloc (.cells #[.slice a' (len g) c'] 97)) wr ∧ ∀ j, j < k → eqT (kid f j) (kid g j) = true) (fun i _ => len f - (intOf i).toNat)
      case atStart => exact ⟨0, Nat.zero_le _, rfl, Ex.refl _, fun j hj => by omega⟩
      case round =>
        obtain ⟨k, hk, rfl, hx, hfit⟩ := hrel
        have hbx : wr.cell? ⟨w.heap.size, 0, none⟩ = some (.slice a (len f) c) := Ex.at hx (Ex.at (Ex.new _ _) (World.cell?_alloc_new _ _ _ _))
        have hbx' : wr.cell? ⟨w.heap.size + 1, 0, none⟩ = some (.slice a' (len g) c') := Ex.at hx (World.cell?_alloc_at _ _ _ _ (by simp))
        have hw : Ex w wr := ((Ex.new _ _).alloc _).trans hx
        have FT : Hid (∀ j, j < k → eqT (kid f j) (kid g j) = true) := hfit
        clear hfit
        by_cases hlt : k < len f
        · obtain ⟨b, o, rfl, hlo, hbs, hkk⟩ := TA_at (TA_below T.out hw) (by omega)
          obtain ⟨a1, c1, hc1, ht1⟩ := hkk k hlt
          obtain ⟨b', o', rfl, hlo', hbs', hkk'⟩ := TA_at (TA_below T'.out hw) (by omega)
          obtain ⟨a2, c2, hc2, ht2⟩ := hkk' k (by omega)
          have T1 : Hid (∀ w', Ex wr w' → TA w' lo (kid f k) a1) := fun _ h => TA_below ht1 h
          have T2 : Hid (∀ w', Ex wr w' → TA w' lo' (kid g k) a2) := fun _ h => TA_below ht2 h
          have KS : Hid (∀ w', Ex wr w' → (Ex wr w' ∧ w'.cell? ⟨w.heap.size, 0, none⟩ = some (.slice (some ⟨b, o, none⟩) (len f) c) ∧ w'.cell? ⟨w.heap.size + 1, 0, none⟩ = some (.slice (some ⟨b', o', none⟩) (len g) c') ∧ w'.cell? ⟨b, o + k, none⟩ = some (.slice a1 (len (kid f k)) c1) ∧ w'.cell? ⟨b', o' + k, none⟩ = some (.slice a2 (len (kid g k)) c2))) := fun w' h => ⟨h, Ex.at h hbx, Ex.at h hbx', Ex.at h hc1, Ex.at h hc2⟩
          have hI : Hid (∀ w', Ex wr w' → Calls Tryz.prog 113 #[.agg #[.slice a1 (len (kid f k)) c1], .agg #[.slice a2 (len (kid g k)) c2]] w' fun e w'' => e = .returned (.bool (eqT (kid f k) (kid g k))) ∧ Ex w' w'') := fun w' h =>
            I.out (kid f k) (kid g k) a1 a2 c1 c2 lo lo' w' (by have := dep_kid f k hlt; omega) (Sm_kid SS.out k hlt).1 (Sm_kid SS.out k hlt).2 (T1.out w' h) (T2.out w' h)
          have i0 : (0 : Int) ≤ (k : Int) := by omega
          have i1 : (k : Int) < (len f : Int) := by omega
          have i2 : (k : Int) < (len g : Int) := by omega
          clear hkk hkk' ht1 ht2
          go_wp2_with fail
          go_region_held3 (fun w' => Ex wr w' ∧ w'.cell? ⟨w.heap.size, 0, none⟩ = some (.slice (some ⟨b, o, none⟩) (len f) c) ∧ w'.cell? ⟨w.heap.size + 1, 0, none⟩ = some (.slice (some ⟨b', o', none⟩) (len g) c') ∧ w'.cell? ⟨b, o + k, none⟩ = some (.slice a1 (len (kid f k)) c1) ∧ w'.cell? ⟨b', o' + k, none⟩ = some (.slice a2 (len (kid g k)) c2)) ((refine KS.out _ ?_; first | exact (Ex.refl _).drew | exact Ex.trans (And.left ‹Ex _ _ ∧ _›) ‹Ex _ _›)) (first | (go_at_call 113; refine (hI.out _ (And.left ‹Ex _ _ ∧ _›)).mono ?_; rintro e w7 ⟨rfl, hb7⟩))
          have hx7 : Ex wr w7 := And.left ‹Ex wr w7 ∧ _›
          cases hfk : eqT (kid f k) (kid g k)
          · go_wp2_with fail
            go_ret
            exact ⟨ret_b (eqT_bad _ _ k hlt hfk).symm, hw.trans hx7⟩
          · go_wp2_with fail
            go_roundw
            case rel => exact ⟨k + 1, by omega, by go_num, hx.trans hx7, fun j hj => by
              by_cases hj' : j < k
              · exact FT.out j hj'
              · rw [show j = k by omega]; exact hfk⟩
            case measure => simp [intOf]; omega
        · go_wp2_with fail
          go_ret
          exact ⟨ret_b (eqT_good _ _ HL.out fun j hj => FT.out j (by omega)).symm, hw⟩
    · have e0 : ((len f : Int) != (len g : Int)) = true := by simp; omega
      go_enter Tryz.func113, Tryz.ntmps113
      go_wp2_with fail
      go_ret
      exact ⟨ret_b (eqT_len _ _ hlen).symm, (Ex.new _ _).alloc _⟩


end Go.Proofs.YtldbmlojgakieaaGreatDoor

namespace Go.Proofs.YtldbmlojgakieaaGreatDoor

open Go.RowKit Go.Deep

attribute [local go_sem ↓] Go.wp_at_zero Go.wp_at_succ

theorem FC.ex' {n c : Nat} {t : TypeId} {W w w' : World} (h : FC n n c t W w) (hf : Ex w w') : FC n n c t W w' := by
  obtain ⟨⟨h1, h2, h3, h4⟩, h5, vs, h6, h7⟩ := h
  exact ⟨⟨hf.os.trans h1, hf.tape.trans h2, hf.output.trans h3, Nat.le_trans h4 hf.size⟩, fun k hk e1 e2 => (hf.block k (Nat.lt_of_lt_of_le hk h4)).trans (h5 k hk e1 e2), vs, h6, hf.blk h7⟩

theorem set2_0 {cur : Array Value} {i j : Nat} {u v : Value} (h : i < cur.size) (hij : j ≠ i) : ((cur.setIfInBounds i u).setIfInBounds j v)[i]? = some u := by
  rw [Array.getElem?_setIfInBounds_ne hij, Array.getElem?_setIfInBounds_self]; simp [h]
theorem set2_1 {cur : Array Value} {i j : Nat} {u v : Value} (h : j < cur.size) : ((cur.setIfInBounds i u).setIfInBounds j v)[j]? = some v := by
  rw [Array.getElem?_setIfInBounds_self]; simp [h]
theorem set2_far {cur : Array Value} {i j k : Nat} {u v : Value} (hi : i ≠ k) (hj : j ≠ k) : ((cur.setIfInBounds i u).setIfInBounds j v)[k]? = cur[k]? := by
  rw [Array.getElem?_setIfInBounds_ne hj, Array.getElem?_setIfInBounds_ne hi]

/-- What l1Put tells. -/
def PuPost (n : Int) (f : F) (w : World) (e : Ending) (w' : World) : Prop := ∃ a' c', e = .returned (.agg #[.int .i64 n, .slice a' (len f) c']) ∧ VA w' w.heap.size f a' ∧ Ex w w'

theorem four_set0 {w : World} {b : Nat} {cur : Array Value} {t : TypeId} {u v : Value} (h : w.heap[b]? = some (.cells cur t (0, 0))) (i j : Nat) : ((w.setCell ⟨b, i, none⟩ u).setCell ⟨b, j, none⟩ v).heap[b]? = some (.cells ((cur.setIfInBounds i u).setIfInBounds j v) t (0, 0)) := by
  simp [World.setCell, Array.getElem?_modify, h]

set_option maxRecDepth 100000 in
set_option maxHeartbeats 4000000 in
theorem l1Put_any : ∀ (p : List Int) (r : Nat) (n : Int) (f u v : F) (m : Int) (g : F) (a ag pa : Option Addr) (cap cg pc lo lo' : Nat) (w : World), p.length ≤ 1000000000 → p.length ≤ pc → pc ≤ 9223372036854775807 → vType r n f = some u → partF u p = some v → len g ≤ 1000000000 → Sm g → VA w lo f a → VA w lo' g ag → PA w 0 p pa →
    Calls Tryz.prog 114 #[.agg #[.int .i64 n, .slice a (len f) cap], .slice pa p.length pc, .agg #[.int .i64 m, .slice ag (len g) cg]] w (PuPost (putV p n f m g).1 (putV p n f m g).2 w)
  | [], r, n, f, u, v, m, g, a, ag, pa, cap, cg, pc, lo, lo', w, hp, hpc, hpm, hf, hv, hgl, hgs, hT, hG, hP => by
    have IC : Hid (∀ w', Ex w w' → Calls Tryz.prog 24 #[.agg #[.int .i64 m, .slice ag (len g) cg]] w' (AnPost m g w')) := fun w' h => l1Anew_any (dep g + 1) m g ag cg lo' w' (by omega) hgl hgs (VA_below hG h)
    clear hf hv hT hG hP hgs
    go_enter Tryz.func114, Tryz.ntmps114
    go_wp2_with fail
    refine (IC.out _ (((Ex.new _ _).alloc _).alloc _)).mono ?_
    rintro e w1 ⟨a1, c1, rfl, ht1, hb1⟩
    have rb : w1.heap[w.heap.size + 2]? = some (.cells #[.int .i64 0, .slice none 0 0] 55 (0, 0)) := hb1.blk (heap_alloc_at _ _ (by simp))
    have d0 := two_cell0 rb
    have d1 := two_cell1 rb
    have d2 := two_free (i := 0) rb
    have d3 := two_free (i := 1) rb
    have x1 : Ex w w1 := (((Ex.new _ _).alloc _).alloc _).trans hb1
    have T1 : Hid (VA w1 (w.heap.size + 3) g a1) := VA_lo ht1.va (by simp)
    clear ht1
    go_wp2_with fail
    have hb4 := two_set (u' := .int .i64 m) (v' := .slice a1 (len g) c1) rb
    have hr0 := two_cell0 hb4
    have hr1 := two_cell1 hb4
    exact bodyPost_ret (v := .agg #[.int .i64 m, .slice a1 (len g) c1]) (by simp [results, Tryz.results114, go_sem, hr0, hr1]) rfl ⟨a1, c1, rfl, VA_lo (VA_set (VA_set T1.out (by show w.heap.size + 2 < w.heap.size + 3; omega) _) (by show w.heap.size + 2 < w.heap.size + 3; omega) _) (by omega), (x1.set (by show w.heap.size ≤ w.heap.size + 2; omega) _).set (by show w.heap.size ≤ w.heap.size + 2; omega) _⟩
  | i :: q, 0, n, f, u, v, m, g, a, ag, pa, cap, cg, pc, lo, lo', w, hp, hpc, hpm, hf, hv, hgl, hgs, hT, hG, hP => by simp [vType] at hf
  | i :: q, r + 1, n, f, u, v, m, g, a, ag, pa, cap, cg, pc, lo, lo', w, hp, hpc, hpm, hf, hv, hgl, hgs, hT, hG, hP => by
    obtain ⟨hi, hv'⟩ := partF_cons hv
    have hul := vType_len hf
    have hfs := vType_sm _ _ _ _ hf
    obtain h0 | ⟨h2, hn, ua, ub, hua, hub⟩ := vType_some hf
    · omega
    rw [vType_two h2 hn, hua, hub] at hf
    cases hf
    subst hn
    have IA : Hid (∀ w', Ex w w' → Calls Tryz.prog 24 #[.agg #[.int .i64 0, .slice a (len f) cap]] w' (AnPost 0 f w')) := fun w' h => l1Anew_any (dep f + 1) 0 f a cap lo w' (by omega) (by omega) hfs.2.1 (VA_below hT h)
    obtain ⟨b, o, a0, a1', k0, k1, rfl, hlo, hbs, n0, hc0, n1, hc1, t0, t1⟩ := VA_pair hT h2
    obtain ⟨pb, po, rfl, hpb, _, hpcell⟩ := PA_at hP (by simp)
    have hp0 : w.cell? ⟨pb, po, none⟩ = some (.int .i64 i) := by have := hpcell 0 (by simp); simpa using this
    have PQ : Hid (∀ w', Ex w w' → PA w' 0 q (some ⟨pb, po + 1, none⟩)) := fun w' h => by
      have := PA_drop' (PA_below hP h) 1 (base := some ⟨pb, po + 1, none⟩) (fun _ b o e => by cases e; rfl)
      simpa using this
    have PN : Hid (pc = 1 → ∀ w' base, PA w' 0 q base) := fun h w' base => Or.inl (by simp at hpc; omega)
    have hpl : q.length ≤ 1000000000 := by simp at hp; omega
    have hpl1 : q.length + 1 ≤ pc := by simpa using hpc
    have H2 : Hid (len f = 2) := h2
    have i1 : (1 : Int) ≤ ((q.length : Int) + 1) := by omega
    have i2 : (1 : Int) ≤ (pc : Int) := by omega
    have i3 : (((q.length : Int) + 1) == 0) = false := by simp; omega
    have i4 : ¬ ((q.length : Int) + 1) = 0 := by omega
    have IL0 : Hid (i = 0 → ∀ w' base cp, q.length ≤ cp → cp ≤ 9223372036854775807 → Ex w w' → PA w' 0 q base → Calls Tryz.prog 114 #[.agg #[.int .i64 (num f 0), .slice a0 (len (kid f 0)) k0], .slice base q.length cp, .agg #[.int .i64 m, .slice ag (len g) cg]] w' (PuPost (putV q (num f 0) (kid f 0) m g).1 (putV q (num f 0) (kid f 0) m g).2 w')) := fun hi0 w' base cp h1 h2 h h' => l1Put_any q r (num f 0) (kid f 0) ua v m g a0 ag base k0 cg cp lo lo' w' (by omega) h1 h2 hua (by rw [hi0] at hv'; exact hv') hgl hgs (VA_below t0 h) (VA_below hG h) h'
    have IL1 : Hid (i = 1 → ∀ w' base cp, q.length ≤ cp → cp ≤ 9223372036854775807 → Ex w w' → PA w' 0 q base → Calls Tryz.prog 114 #[.agg #[.int .i64 (num f 1), .slice a1' (len (kid f 1)) k1], .slice base q.length cp, .agg #[.int .i64 m, .slice ag (len g) cg]] w' (PuPost (putV q (num f 1) (kid f 1) m g).1 (putV q (num f 1) (kid f 1) m g).2 w')) := fun hi1 w' base cp h1 h2 h h' => l1Put_any q r (num f 1) (kid f 1) ub v m g a1' ag base k1 cg cp lo lo' w' (by omega) h1 h2 hub (by rw [hi1] at hv'; exact hv') hgl hgs (VA_below t1 h) (VA_below hG h) h'
    have HQ0 : Hid (i = 0 → putV (i :: q) 0 f m g = (0, two (putV q (num f 0) (kid f 0) m g).1 (putV q (num f 0) (kid f 0) m g).2 (num f 1) (kid f 1))) := fun hi0 => by simp only [putV, if_pos hi0]
    have HQ1 : Hid (i = 1 → putV (i :: q) 0 f m g = (0, two (num f 0) (kid f 0) (putV q (num f 1) (kid f 1) m g).1 (putV q (num f 1) (kid f 1) m g).2)) := fun hi1 => by simp only [putV, if_neg (show ¬ i = 0 by omega)]
    have hi01 : i = 0 ∨ i = 1 := by have : len (two 0 ua 0 ub) = 2 := rfl; omega
    rw [h2] at IA ⊢
    clear hT t0 t1 hv hv' h2 hua hub hP hpcell hG hul hi hgs hfs
    go_enter Tryz.func114, Tryz.ntmps114
    go_wp2_with fail
    refine (IA.out _ (((Ex.new _ _).alloc _).alloc _)).mono ?_
    rintro e w1 ⟨a1, c1, he, ht1, hb1⟩
    rw [H2.out] at he
    subst he
    rcases ht1 with h | ⟨g1, cur, rfl, hg1, hcur, hkk⟩
    · have := H2.out; omega
    have hg1' : w.heap.size + 3 ≤ g1 := by simpa using hg1
    obtain ⟨e0, b0, l0, e1, s0⟩ := hkk 0 (by have := H2.out; omega)
    obtain ⟨e2, b1, l1, e3, s1⟩ := hkk 1 (by have := H2.out; omega)
    have x1 : Ex w w1 := (((Ex.new _ _).alloc _).alloc _).trans hb1
    obtain ⟨W, hW⟩ : ∃ W, W = w1.alloc (.cells #[.int .i64 0, .slice (some ⟨g1, 0, none⟩) 2 c1] 55) := ⟨_, rfl⟩
    have xW : Ex w1 W := hW ▸ Ex.new _ _
    have XW : Hid (Ex w W) := x1.trans xW
    have zg : g1 < w1.heap.size := lt_of_block hcur
    have zw : w.heap.size + 3 ≤ w1.heap.size := by omega
    have HG : Hid (W.heap[g1]? = some (.cells cur 55 (0, 0))) := xW.blk hcur
    have HB7 : Hid (W.heap[w1.heap.size]? = some (.cells #[.int .i64 0, .slice (some ⟨g1, 0, none⟩) 2 c1] 55 (0, 0))) := hW ▸ heap_alloc_new _ _
    have RB : Hid (W.heap[w.heap.size + 2]? = some (.cells #[.int .i64 0, .slice none 0 0] 55 (0, 0))) := xW.blk (hb1.blk (heap_alloc_at _ _ (by simp)))
    have q1 : W.cell? ⟨w.heap.size, 1, none⟩ = some (.slice (some ⟨b, o, none⟩) 2 cap) := xW.at (hb1.at (((Ex.new _ _).alloc _).at (World.cell?_alloc_new _ _ _ _)))
    have q2 : W.cell? ⟨w.heap.size + 1, 0, none⟩ = some (.int .i64 m) := xW.at (hb1.at ((Ex.new _ _).at (by simp)))
    have q3 : W.cell? ⟨w.heap.size + 1, 1, none⟩ = some (.slice ag (len g) cg) := xW.at (hb1.at ((Ex.new _ _).at (by simp)))
    have C0 : Hid (FC g1 g1 cur.size 55 W W) := FC.start HG.out rfl
    have V0 : Hid (VS W (fun b => w.heap.size + 3 ≤ b ∧ b ≠ g1 ∧ b < w1.heap.size) (kid f 0) b0) := VS_ks (VS_mono (S' := fun b => w.heap.size + 3 ≤ b ∧ b ≠ g1 ∧ b < w1.heap.size) s0 fun b hb hs => ⟨by simpa using hs.1, hs.2, hb⟩) fun b _ hlt => xW.block b hlt
    have V1 : Hid (VS W (fun b => w.heap.size + 3 ≤ b ∧ b ≠ g1 ∧ b < w1.heap.size) (kid f 1) b1) := VS_ks (VS_mono (S' := fun b => w.heap.size + 3 ≤ b ∧ b ≠ g1 ∧ b < w1.heap.size) s1 fun b hb hs => ⟨by simpa using hs.1, hs.2, hb⟩) fun b _ hlt => xW.block b hlt
    have E0 : Hid (cur[0]? = some (.int .i64 (num f 0))) := e0
    have E1 : Hid (cur[1]? = some (.slice b0 (len (kid f 0)) l0)) := e1
    have E2 : Hid (cur[2]? = some (.int .i64 (num f 1))) := e2
    have E3 : Hid (cur[3]? = some (.slice b1 (len (kid f 1)) l1)) := e3
    have hcs : 3 < cur.size := by
      rcases Nat.lt_or_ge 3 cur.size with h | h
      · exact h
      · have := E3.out; rw [Array.getElem?_eq_none h] at this; cases this
    have hpW : W.cell? ⟨pb, po, none⟩ = some (.int .i64 i) := XW.out.at hp0
    have k0W := XW.out.at n0
    have k1W := XW.out.at hc0
    have k2W := XW.out.at n1
    have k3W := XW.out.at hc1
    clear hkk e0 e1 e2 e3 s0 s1 hcur hb1 xW
    rcases hi01 with rfl | rfl
    · have IL : Hid (∀ w' base cp, q.length ≤ cp → cp ≤ 9223372036854775807 → Ex w w' → PA w' 0 q base → Calls Tryz.prog 114 #[.agg #[.int .i64 (num f 0), .slice a0 (len (kid f 0)) k0], .slice base q.length cp, .agg #[.int .i64 m, .slice ag (len g) cg]] w' (PuPost (putV q (num f 0) (kid f 0) m g).1 (putV q (num f 0) (kid f 0) m g).2 w')) := IL0.out rfl
      have HQ : Hid (putV (0 :: q) 0 f m g = (0, two (putV q (num f 0) (kid f 0) m g).1 (putV q (num f 0) (kid f 0) m g).2 (num f 1) (kid f 1))) := HQ0.out rfl
      clear IL0 IL1 HQ0 HQ1
      generalize (putV q (num f 0) (kid f 0) m g).1 = x at *
      generalize (putV q (num f 0) (kid f 0) m g).2 = y at *
      by_cases hp1 : pc = 1
      · have PR : Hid (∀ w' base, PA w' 0 q base) := PN.out hp1
        have KS : Hid (∀ w', FC g1 g1 cur.size 55 W w' → (FC g1 g1 cur.size 55 W w' ∧ w'.cell? ⟨w1.heap.size, 1, none⟩ = some (.slice (some ⟨g1, 0, none⟩) 2 c1) ∧ w'.cell? ⟨w.heap.size, 1, none⟩ = some (.slice (some ⟨b, o, none⟩) 2 cap) ∧ w'.cell? ⟨w.heap.size + 1, 0, none⟩ = some (.int .i64 m) ∧ w'.cell? ⟨w.heap.size + 1, 1, none⟩ = some (.slice ag (len g) cg) ∧ w'.cell? ⟨pb, po, none⟩ = some (.int .i64 0) ∧ w'.cell? ⟨b, o, none⟩ = some (.int .i64 (num f 0)) ∧ w'.cell? ⟨b, o + 1, none⟩ = some (.slice a0 (len (kid f 0)) k0))) := fun w' h => ⟨h, h.at (by show w1.heap.size ≠ g1; omega) (by show w1.heap.size ≠ g1; omega) (two_cell1 HB7.out), h.at (by show w.heap.size ≠ g1; omega) (by show w.heap.size ≠ g1; omega) q1, h.at (by show w.heap.size + 1 ≠ g1; omega) (by show w.heap.size + 1 ≠ g1; omega) q2, h.at (by show w.heap.size + 1 ≠ g1; omega) (by show w.heap.size + 1 ≠ g1; omega) q3, h.at (by show pb ≠ g1; omega) (by show pb ≠ g1; omega) hpW, h.at (by show b ≠ g1; omega) (by show b ≠ g1; omega) k0W, h.at (by show b ≠ g1; omega) (by show b ≠ g1; omega) k1W⟩
        go_wp2_with fail
        rw [← hW]
        clear hW
        go_region_held3 (fun w' => FC g1 g1 cur.size 55 W w' ∧ w'.cell? ⟨w1.heap.size, 1, none⟩ = some (.slice (some ⟨g1, 0, none⟩) 2 c1) ∧ w'.cell? ⟨w.heap.size, 1, none⟩ = some (.slice (some ⟨b, o, none⟩) 2 cap) ∧ w'.cell? ⟨w.heap.size + 1, 0, none⟩ = some (.int .i64 m) ∧ w'.cell? ⟨w.heap.size + 1, 1, none⟩ = some (.slice ag (len g) cg) ∧ w'.cell? ⟨pb, po, none⟩ = some (.int .i64 0) ∧ w'.cell? ⟨b, o, none⟩ = some (.int .i64 (num f 0)) ∧ w'.cell? ⟨b, o + 1, none⟩ = some (.slice a0 (len (kid f 0)) k0)) ((refine KS.out _ ?_; first | exact C0.out.drew | exact FC.ex' (And.left ‹FC _ _ _ _ _ _ ∧ _›) ‹Ex _ _› | exact FC.set (FC.set (And.left ‹FC _ _ _ _ _ _ ∧ _›) _ _) _ _ | exact (And.left ‹FC _ _ _ _ _ _ ∧ _›))) (first | (go_at_call 114; refine (IL.out _ _ _ (by omega) (by omega) XW.out.drew (PR.out _ _)).mono ?_; rintro e w2 ⟨a2, c2, rfl, ht2, hb2⟩; have hg2 : w2.heap[g1]? = some (.cells cur 55 (0, 0)) := Ex.blk hb2 HG.out; have y0 : w2.cell? ⟨g1, 0, none⟩ = _ := (cell_cur hg2 0).trans E0.out; have y1 : w2.cell? ⟨g1, 1, none⟩ = _ := (cell_cur hg2 1).trans E1.out; have y2 := free_cur hg2 0; have y3 := free_cur hg2 1))
        have xb2 : Ex W w2 := (Ex.refl _).drew.trans hb2
        obtain ⟨W4, hW4⟩ : ∃ W4, W4 = (w2.setCell ⟨g1, 0, none⟩ (.int .i64 x)).setCell ⟨g1, 1, none⟩ (.slice a2 (len y) c2) := ⟨_, rfl⟩
        have far : ∀ k, k ≠ g1 → W4.heap[k]? = w2.heap[k]? := fun k hk => by rw [hW4, Below.heap_setCell _ _ _ _ hk, Below.heap_setCell _ _ _ _ hk]
        have hb7 : W4.heap[w1.heap.size]? = some (.cells #[.int .i64 0, .slice (some ⟨g1, 0, none⟩) 2 c1] 55 (0, 0)) := (far _ (by omega)).trans (xb2.blk HB7.out)
        have rb4 : W4.heap[w.heap.size + 2]? = some (.cells #[.int .i64 0, .slice none 0 0] 55 (0, 0)) := (far _ (by omega)).trans (xb2.blk RB.out)
        have g4 : W4.heap[g1]? = some (.cells ((cur.setIfInBounds 0 (.int .i64 x)).setIfInBounds 1 (.slice a2 (len y) c2)) 55 (0, 0)) := hW4 ▸ four_set0 hg2 0 1
        have x4 : Ex w W4 := hW4 ▸ ((XW.out.trans xb2).set (by show w.heap.size ≤ g1; omega) _).set (by show w.heap.size ≤ g1; omega) _
        have zW : w1.heap.size < W.heap.size := lt_of_block HB7.out
        have T4 : VA W4 W.heap.size y a2 := hW4 ▸ VA_set (VA_set ht2 (by show g1 < W.heap.size; omega) _) (by show g1 < W.heap.size; omega) _
        have TK4 : VS W4 (fun b => w.heap.size + 3 ≤ b ∧ b ≠ g1 ∧ b < w1.heap.size) (kid f 1) b1 := VS_ks (VS_ks V1.out fun k _ hlt => xb2.block k hlt) fun k hk _ => far k hk.2.1
        have u0 := two_cell0 hb7
        have u1 := two_cell1 hb7
        have d0 : W4.cell? ⟨w.heap.size + 1 + 1, 0, none⟩ = some (.int .i64 0) := two_cell0 rb4
        have d1 : W4.cell? ⟨w.heap.size + 1 + 1, 1, none⟩ = some (.slice none 0 0) := two_cell1 rb4
        have d2 : W4.frozen? ⟨w.heap.size + 1 + 1, 0, none⟩ = false := two_free rb4
        have d3 : W4.frozen? ⟨w.heap.size + 1 + 1, 1, none⟩ = false := two_free rb4
        rw [← hW4]
        clear hW4 ht2
        go_wp2_with fail
        obtain ⟨W5, hW5⟩ : ∃ W5, W5 = (W4.setCell ⟨w.heap.size + 1 + 1, 0, none⟩ (.int .i64 0)).setCell ⟨w.heap.size + 1 + 1, 1, none⟩ (.slice (some ⟨g1, 0, none⟩) 2 c1) := ⟨_, rfl⟩
        have far5 : ∀ k, k ≠ w.heap.size + 2 → W5.heap[k]? = W4.heap[k]? := fun k hk => by rw [hW5, Below.heap_setCell _ _ _ _ hk, Below.heap_setCell _ _ _ _ hk]
        have g5 := (far5 g1 (by omega)).trans g4
        have hb6 : W5.heap[w.heap.size + 2]? = some (.cells #[.int .i64 0, .slice (some ⟨g1, 0, none⟩) 2 c1] 55 (0, 0)) := hW5 ▸ two_set rb4
        have hr0 : W5.cell? ⟨w.heap.size + 1 + 1, 0, none⟩ = some (.int .i64 0) := two_cell0 hb6
        have hr1 : W5.cell? ⟨w.heap.size + 1 + 1, 1, none⟩ = some (.slice (some ⟨g1, 0, none⟩) 2 c1) := two_cell1 hb6
        have T2 : VS W5 (fun b => w.heap.size ≤ b) y a2 := VS_mono (VS_ks T4 fun k hk _ => far5 k (by have : W.heap.size ≤ k := hk; omega)) fun k _ hk => by have : W.heap.size ≤ k := hk; show w.heap.size ≤ k; omega
        have TK : VS W5 (fun b => w.heap.size ≤ b) (kid f 1) b1 := VS_mono (VS_ks TK4 fun k hk _ => far5 k (by omega)) fun k _ hk => by show w.heap.size ≤ k; omega
        have hxf : Ex w W5 := hW5 ▸ (x4.set (by show w.heap.size ≤ w.heap.size + 2; omega) _).set (by show w.heap.size ≤ w.heap.size + 2; omega) _
        rw [← hW5]
        refine bodyPost_ret (v := .agg #[.int .i64 0, .slice (some ⟨g1, 0, none⟩) 2 c1]) (by simp [results, Tryz.results114, go_sem, hr0, hr1]) rfl ?_
        rw [HQ.out]
        exact ⟨some ⟨g1, 0, none⟩, c1, rfl, VS_two (f := two x y (num f 1) (kid f 1)) (k0 := c2) (k1 := l1) (a1 := b1) rfl (by show w.heap.size ≤ g1; omega) ((cell_cur g5 0).trans (set2_0 (by omega) (by omega))) ((cell_cur g5 1).trans (set2_1 (by omega))) ((cell_cur g5 2).trans ((set2_far (by omega) (by omega)).trans E2.out)) ((cell_cur g5 3).trans ((set2_far (by omega) (by omega)).trans E3.out)) T2 TK, hxf⟩
      · have hp1' : ¬ 1 = pc := fun h => hp1 h.symm
        have KS : Hid (∀ w', FC g1 g1 cur.size 55 W w' → (FC g1 g1 cur.size 55 W w' ∧ w'.cell? ⟨w1.heap.size, 1, none⟩ = some (.slice (some ⟨g1, 0, none⟩) 2 c1) ∧ w'.cell? ⟨w.heap.size, 1, none⟩ = some (.slice (some ⟨b, o, none⟩) 2 cap) ∧ w'.cell? ⟨w.heap.size + 1, 0, none⟩ = some (.int .i64 m) ∧ w'.cell? ⟨w.heap.size + 1, 1, none⟩ = some (.slice ag (len g) cg) ∧ w'.cell? ⟨pb, po, none⟩ = some (.int .i64 0) ∧ w'.cell? ⟨b, o, none⟩ = some (.int .i64 (num f 0)) ∧ w'.cell? ⟨b, o + 1, none⟩ = some (.slice a0 (len (kid f 0)) k0))) := fun w' h => ⟨h, h.at (by show w1.heap.size ≠ g1; omega) (by show w1.heap.size ≠ g1; omega) (two_cell1 HB7.out), h.at (by show w.heap.size ≠ g1; omega) (by show w.heap.size ≠ g1; omega) q1, h.at (by show w.heap.size + 1 ≠ g1; omega) (by show w.heap.size + 1 ≠ g1; omega) q2, h.at (by show w.heap.size + 1 ≠ g1; omega) (by show w.heap.size + 1 ≠ g1; omega) q3, h.at (by show pb ≠ g1; omega) (by show pb ≠ g1; omega) hpW, h.at (by show b ≠ g1; omega) (by show b ≠ g1; omega) k0W, h.at (by show b ≠ g1; omega) (by show b ≠ g1; omega) k1W⟩
        go_wp2_with fail
        rw [← hW]
        clear hW
        go_region_held3 (fun w' => FC g1 g1 cur.size 55 W w' ∧ w'.cell? ⟨w1.heap.size, 1, none⟩ = some (.slice (some ⟨g1, 0, none⟩) 2 c1) ∧ w'.cell? ⟨w.heap.size, 1, none⟩ = some (.slice (some ⟨b, o, none⟩) 2 cap) ∧ w'.cell? ⟨w.heap.size + 1, 0, none⟩ = some (.int .i64 m) ∧ w'.cell? ⟨w.heap.size + 1, 1, none⟩ = some (.slice ag (len g) cg) ∧ w'.cell? ⟨pb, po, none⟩ = some (.int .i64 0) ∧ w'.cell? ⟨b, o, none⟩ = some (.int .i64 (num f 0)) ∧ w'.cell? ⟨b, o + 1, none⟩ = some (.slice a0 (len (kid f 0)) k0)) ((refine KS.out _ ?_; first | exact C0.out.drew | exact FC.ex' (And.left ‹FC _ _ _ _ _ _ ∧ _›) ‹Ex _ _› | exact FC.set (FC.set (And.left ‹FC _ _ _ _ _ _ ∧ _›) _ _) _ _ | exact (And.left ‹FC _ _ _ _ _ _ ∧ _›))) (first | (go_at_call 114; refine (IL.out _ _ _ (by omega) (by omega) XW.out.drew (PQ.out _ XW.out.drew)).mono ?_; rintro e w2 ⟨a2, c2, rfl, ht2, hb2⟩; have hg2 : w2.heap[g1]? = some (.cells cur 55 (0, 0)) := Ex.blk hb2 HG.out; have y0 : w2.cell? ⟨g1, 0, none⟩ = _ := (cell_cur hg2 0).trans E0.out; have y1 : w2.cell? ⟨g1, 1, none⟩ = _ := (cell_cur hg2 1).trans E1.out; have y2 := free_cur hg2 0; have y3 := free_cur hg2 1))
        have xb2 : Ex W w2 := (Ex.refl _).drew.trans hb2
        obtain ⟨W4, hW4⟩ : ∃ W4, W4 = (w2.setCell ⟨g1, 0, none⟩ (.int .i64 x)).setCell ⟨g1, 1, none⟩ (.slice a2 (len y) c2) := ⟨_, rfl⟩
        have far : ∀ k, k ≠ g1 → W4.heap[k]? = w2.heap[k]? := fun k hk => by rw [hW4, Below.heap_setCell _ _ _ _ hk, Below.heap_setCell _ _ _ _ hk]
        have hb7 : W4.heap[w1.heap.size]? = some (.cells #[.int .i64 0, .slice (some ⟨g1, 0, none⟩) 2 c1] 55 (0, 0)) := (far _ (by omega)).trans (xb2.blk HB7.out)
        have rb4 : W4.heap[w.heap.size + 2]? = some (.cells #[.int .i64 0, .slice none 0 0] 55 (0, 0)) := (far _ (by omega)).trans (xb2.blk RB.out)
        have g4 : W4.heap[g1]? = some (.cells ((cur.setIfInBounds 0 (.int .i64 x)).setIfInBounds 1 (.slice a2 (len y) c2)) 55 (0, 0)) := hW4 ▸ four_set0 hg2 0 1
        have x4 : Ex w W4 := hW4 ▸ ((XW.out.trans xb2).set (by show w.heap.size ≤ g1; omega) _).set (by show w.heap.size ≤ g1; omega) _
        have zW : w1.heap.size < W.heap.size := lt_of_block HB7.out
        have T4 : VA W4 W.heap.size y a2 := hW4 ▸ VA_set (VA_set ht2 (by show g1 < W.heap.size; omega) _) (by show g1 < W.heap.size; omega) _
        have TK4 : VS W4 (fun b => w.heap.size + 3 ≤ b ∧ b ≠ g1 ∧ b < w1.heap.size) (kid f 1) b1 := VS_ks (VS_ks V1.out fun k _ hlt => xb2.block k hlt) fun k hk _ => far k hk.2.1
        have u0 := two_cell0 hb7
        have u1 := two_cell1 hb7
        have d0 : W4.cell? ⟨w.heap.size + 1 + 1, 0, none⟩ = some (.int .i64 0) := two_cell0 rb4
        have d1 : W4.cell? ⟨w.heap.size + 1 + 1, 1, none⟩ = some (.slice none 0 0) := two_cell1 rb4
        have d2 : W4.frozen? ⟨w.heap.size + 1 + 1, 0, none⟩ = false := two_free rb4
        have d3 : W4.frozen? ⟨w.heap.size + 1 + 1, 1, none⟩ = false := two_free rb4
        rw [← hW4]
        clear hW4 ht2
        go_wp2_with fail
        obtain ⟨W5, hW5⟩ : ∃ W5, W5 = (W4.setCell ⟨w.heap.size + 1 + 1, 0, none⟩ (.int .i64 0)).setCell ⟨w.heap.size + 1 + 1, 1, none⟩ (.slice (some ⟨g1, 0, none⟩) 2 c1) := ⟨_, rfl⟩
        have far5 : ∀ k, k ≠ w.heap.size + 2 → W5.heap[k]? = W4.heap[k]? := fun k hk => by rw [hW5, Below.heap_setCell _ _ _ _ hk, Below.heap_setCell _ _ _ _ hk]
        have g5 := (far5 g1 (by omega)).trans g4
        have hb6 : W5.heap[w.heap.size + 2]? = some (.cells #[.int .i64 0, .slice (some ⟨g1, 0, none⟩) 2 c1] 55 (0, 0)) := hW5 ▸ two_set rb4
        have hr0 : W5.cell? ⟨w.heap.size + 1 + 1, 0, none⟩ = some (.int .i64 0) := two_cell0 hb6
        have hr1 : W5.cell? ⟨w.heap.size + 1 + 1, 1, none⟩ = some (.slice (some ⟨g1, 0, none⟩) 2 c1) := two_cell1 hb6
        have T2 : VS W5 (fun b => w.heap.size ≤ b) y a2 := VS_mono (VS_ks T4 fun k hk _ => far5 k (by have : W.heap.size ≤ k := hk; omega)) fun k _ hk => by have : W.heap.size ≤ k := hk; show w.heap.size ≤ k; omega
        have TK : VS W5 (fun b => w.heap.size ≤ b) (kid f 1) b1 := VS_mono (VS_ks TK4 fun k hk _ => far5 k (by omega)) fun k _ hk => by show w.heap.size ≤ k; omega
        have hxf : Ex w W5 := hW5 ▸ (x4.set (by show w.heap.size ≤ w.heap.size + 2; omega) _).set (by show w.heap.size ≤ w.heap.size + 2; omega) _
        rw [← hW5]
        refine bodyPost_ret (v := .agg #[.int .i64 0, .slice (some ⟨g1, 0, none⟩) 2 c1]) (by simp [results, Tryz.results114, go_sem, hr0, hr1]) rfl ?_
        rw [HQ.out]
        exact ⟨some ⟨g1, 0, none⟩, c1, rfl, VS_two (f := two x y (num f 1) (kid f 1)) (k0 := c2) (k1 := l1) (a1 := b1) rfl (by show w.heap.size ≤ g1; omega) ((cell_cur g5 0).trans (set2_0 (by omega) (by omega))) ((cell_cur g5 1).trans (set2_1 (by omega))) ((cell_cur g5 2).trans ((set2_far (by omega) (by omega)).trans E2.out)) ((cell_cur g5 3).trans ((set2_far (by omega) (by omega)).trans E3.out)) T2 TK, hxf⟩
    · have IL : Hid (∀ w' base cp, q.length ≤ cp → cp ≤ 9223372036854775807 → Ex w w' → PA w' 0 q base → Calls Tryz.prog 114 #[.agg #[.int .i64 (num f 1), .slice a1' (len (kid f 1)) k1], .slice base q.length cp, .agg #[.int .i64 m, .slice ag (len g) cg]] w' (PuPost (putV q (num f 1) (kid f 1) m g).1 (putV q (num f 1) (kid f 1) m g).2 w')) := IL1.out rfl
      have HQ : Hid (putV (1 :: q) 0 f m g = (0, two (num f 0) (kid f 0) (putV q (num f 1) (kid f 1) m g).1 (putV q (num f 1) (kid f 1) m g).2)) := HQ1.out rfl
      clear IL0 IL1 HQ0 HQ1
      generalize (putV q (num f 1) (kid f 1) m g).1 = x at *
      generalize (putV q (num f 1) (kid f 1) m g).2 = y at *
      by_cases hp1 : pc = 1
      · have PR : Hid (∀ w' base, PA w' 0 q base) := PN.out hp1
        have KS : Hid (∀ w', FC g1 g1 cur.size 55 W w' → (FC g1 g1 cur.size 55 W w' ∧ w'.cell? ⟨w1.heap.size, 1, none⟩ = some (.slice (some ⟨g1, 0, none⟩) 2 c1) ∧ w'.cell? ⟨w.heap.size, 1, none⟩ = some (.slice (some ⟨b, o, none⟩) 2 cap) ∧ w'.cell? ⟨w.heap.size + 1, 0, none⟩ = some (.int .i64 m) ∧ w'.cell? ⟨w.heap.size + 1, 1, none⟩ = some (.slice ag (len g) cg) ∧ w'.cell? ⟨pb, po, none⟩ = some (.int .i64 1) ∧ w'.cell? ⟨b, o + 2, none⟩ = some (.int .i64 (num f 1)) ∧ w'.cell? ⟨b, o + 3, none⟩ = some (.slice a1' (len (kid f 1)) k1))) := fun w' h => ⟨h, h.at (by show w1.heap.size ≠ g1; omega) (by show w1.heap.size ≠ g1; omega) (two_cell1 HB7.out), h.at (by show w.heap.size ≠ g1; omega) (by show w.heap.size ≠ g1; omega) q1, h.at (by show w.heap.size + 1 ≠ g1; omega) (by show w.heap.size + 1 ≠ g1; omega) q2, h.at (by show w.heap.size + 1 ≠ g1; omega) (by show w.heap.size + 1 ≠ g1; omega) q3, h.at (by show pb ≠ g1; omega) (by show pb ≠ g1; omega) hpW, h.at (by show b ≠ g1; omega) (by show b ≠ g1; omega) k2W, h.at (by show b ≠ g1; omega) (by show b ≠ g1; omega) k3W⟩
        go_wp2_with fail
        rw [← hW]
        clear hW
        go_region_held3 (fun w' => FC g1 g1 cur.size 55 W w' ∧ w'.cell? ⟨w1.heap.size, 1, none⟩ = some (.slice (some ⟨g1, 0, none⟩) 2 c1) ∧ w'.cell? ⟨w.heap.size, 1, none⟩ = some (.slice (some ⟨b, o, none⟩) 2 cap) ∧ w'.cell? ⟨w.heap.size + 1, 0, none⟩ = some (.int .i64 m) ∧ w'.cell? ⟨w.heap.size + 1, 1, none⟩ = some (.slice ag (len g) cg) ∧ w'.cell? ⟨pb, po, none⟩ = some (.int .i64 1) ∧ w'.cell? ⟨b, o + 2, none⟩ = some (.int .i64 (num f 1)) ∧ w'.cell? ⟨b, o + 3, none⟩ = some (.slice a1' (len (kid f 1)) k1)) ((refine KS.out _ ?_; first | exact C0.out.drew | exact FC.ex' (And.left ‹FC _ _ _ _ _ _ ∧ _›) ‹Ex _ _› | exact FC.set (FC.set (And.left ‹FC _ _ _ _ _ _ ∧ _›) _ _) _ _ | exact (And.left ‹FC _ _ _ _ _ _ ∧ _›))) (first | (go_at_call 114; refine (IL.out _ _ _ (by omega) (by omega) XW.out.drew (PR.out _ _)).mono ?_; rintro e w2 ⟨a2, c2, rfl, ht2, hb2⟩; have hg2 : w2.heap[g1]? = some (.cells cur 55 (0, 0)) := Ex.blk hb2 HG.out; have y0 : w2.cell? ⟨g1, 2, none⟩ = _ := (cell_cur hg2 2).trans E2.out; have y1 : w2.cell? ⟨g1, 3, none⟩ = _ := (cell_cur hg2 3).trans E3.out; have y2 := free_cur hg2 2; have y3 := free_cur hg2 3))
        have xb2 : Ex W w2 := (Ex.refl _).drew.trans hb2
        obtain ⟨W4, hW4⟩ : ∃ W4, W4 = (w2.setCell ⟨g1, 2, none⟩ (.int .i64 x)).setCell ⟨g1, 3, none⟩ (.slice a2 (len y) c2) := ⟨_, rfl⟩
        have far : ∀ k, k ≠ g1 → W4.heap[k]? = w2.heap[k]? := fun k hk => by rw [hW4, Below.heap_setCell _ _ _ _ hk, Below.heap_setCell _ _ _ _ hk]
        have hb7 : W4.heap[w1.heap.size]? = some (.cells #[.int .i64 0, .slice (some ⟨g1, 0, none⟩) 2 c1] 55 (0, 0)) := (far _ (by omega)).trans (xb2.blk HB7.out)
        have rb4 : W4.heap[w.heap.size + 2]? = some (.cells #[.int .i64 0, .slice none 0 0] 55 (0, 0)) := (far _ (by omega)).trans (xb2.blk RB.out)
        have g4 : W4.heap[g1]? = some (.cells ((cur.setIfInBounds 2 (.int .i64 x)).setIfInBounds 3 (.slice a2 (len y) c2)) 55 (0, 0)) := hW4 ▸ four_set0 hg2 2 3
        have x4 : Ex w W4 := hW4 ▸ ((XW.out.trans xb2).set (by show w.heap.size ≤ g1; omega) _).set (by show w.heap.size ≤ g1; omega) _
        have zW : w1.heap.size < W.heap.size := lt_of_block HB7.out
        have T4 : VA W4 W.heap.size y a2 := hW4 ▸ VA_set (VA_set ht2 (by show g1 < W.heap.size; omega) _) (by show g1 < W.heap.size; omega) _
        have TK4 : VS W4 (fun b => w.heap.size + 3 ≤ b ∧ b ≠ g1 ∧ b < w1.heap.size) (kid f 0) b0 := VS_ks (VS_ks V0.out fun k _ hlt => xb2.block k hlt) fun k hk _ => far k hk.2.1
        have u0 := two_cell0 hb7
        have u1 := two_cell1 hb7
        have d0 : W4.cell? ⟨w.heap.size + 1 + 1, 0, none⟩ = some (.int .i64 0) := two_cell0 rb4
        have d1 : W4.cell? ⟨w.heap.size + 1 + 1, 1, none⟩ = some (.slice none 0 0) := two_cell1 rb4
        have d2 : W4.frozen? ⟨w.heap.size + 1 + 1, 0, none⟩ = false := two_free rb4
        have d3 : W4.frozen? ⟨w.heap.size + 1 + 1, 1, none⟩ = false := two_free rb4
        rw [← hW4]
        clear hW4 ht2
        go_wp2_with fail
        obtain ⟨W5, hW5⟩ : ∃ W5, W5 = (W4.setCell ⟨w.heap.size + 1 + 1, 0, none⟩ (.int .i64 0)).setCell ⟨w.heap.size + 1 + 1, 1, none⟩ (.slice (some ⟨g1, 0, none⟩) 2 c1) := ⟨_, rfl⟩
        have far5 : ∀ k, k ≠ w.heap.size + 2 → W5.heap[k]? = W4.heap[k]? := fun k hk => by rw [hW5, Below.heap_setCell _ _ _ _ hk, Below.heap_setCell _ _ _ _ hk]
        have g5 := (far5 g1 (by omega)).trans g4
        have hb6 : W5.heap[w.heap.size + 2]? = some (.cells #[.int .i64 0, .slice (some ⟨g1, 0, none⟩) 2 c1] 55 (0, 0)) := hW5 ▸ two_set rb4
        have hr0 : W5.cell? ⟨w.heap.size + 1 + 1, 0, none⟩ = some (.int .i64 0) := two_cell0 hb6
        have hr1 : W5.cell? ⟨w.heap.size + 1 + 1, 1, none⟩ = some (.slice (some ⟨g1, 0, none⟩) 2 c1) := two_cell1 hb6
        have T2 : VS W5 (fun b => w.heap.size ≤ b) y a2 := VS_mono (VS_ks T4 fun k hk _ => far5 k (by have : W.heap.size ≤ k := hk; omega)) fun k _ hk => by have : W.heap.size ≤ k := hk; show w.heap.size ≤ k; omega
        have TK : VS W5 (fun b => w.heap.size ≤ b) (kid f 0) b0 := VS_mono (VS_ks TK4 fun k hk _ => far5 k (by omega)) fun k _ hk => by show w.heap.size ≤ k; omega
        have hxf : Ex w W5 := hW5 ▸ (x4.set (by show w.heap.size ≤ w.heap.size + 2; omega) _).set (by show w.heap.size ≤ w.heap.size + 2; omega) _
        rw [← hW5]
        refine bodyPost_ret (v := .agg #[.int .i64 0, .slice (some ⟨g1, 0, none⟩) 2 c1]) (by simp [results, Tryz.results114, go_sem, hr0, hr1]) rfl ?_
        rw [HQ.out]
        exact ⟨some ⟨g1, 0, none⟩, c1, rfl, VS_two (f := two (num f 0) (kid f 0) x y) (k0 := l0) (k1 := c2) (a0 := b0) rfl (by show w.heap.size ≤ g1; omega) ((cell_cur g5 0).trans ((set2_far (by omega) (by omega)).trans E0.out)) ((cell_cur g5 1).trans ((set2_far (by omega) (by omega)).trans E1.out)) ((cell_cur g5 2).trans (set2_0 (by omega) (by omega))) ((cell_cur g5 3).trans (set2_1 (by omega))) TK T2, hxf⟩
      · have hp1' : ¬ 1 = pc := fun h => hp1 h.symm
        have KS : Hid (∀ w', FC g1 g1 cur.size 55 W w' → (FC g1 g1 cur.size 55 W w' ∧ w'.cell? ⟨w1.heap.size, 1, none⟩ = some (.slice (some ⟨g1, 0, none⟩) 2 c1) ∧ w'.cell? ⟨w.heap.size, 1, none⟩ = some (.slice (some ⟨b, o, none⟩) 2 cap) ∧ w'.cell? ⟨w.heap.size + 1, 0, none⟩ = some (.int .i64 m) ∧ w'.cell? ⟨w.heap.size + 1, 1, none⟩ = some (.slice ag (len g) cg) ∧ w'.cell? ⟨pb, po, none⟩ = some (.int .i64 1) ∧ w'.cell? ⟨b, o + 2, none⟩ = some (.int .i64 (num f 1)) ∧ w'.cell? ⟨b, o + 3, none⟩ = some (.slice a1' (len (kid f 1)) k1))) := fun w' h => ⟨h, h.at (by show w1.heap.size ≠ g1; omega) (by show w1.heap.size ≠ g1; omega) (two_cell1 HB7.out), h.at (by show w.heap.size ≠ g1; omega) (by show w.heap.size ≠ g1; omega) q1, h.at (by show w.heap.size + 1 ≠ g1; omega) (by show w.heap.size + 1 ≠ g1; omega) q2, h.at (by show w.heap.size + 1 ≠ g1; omega) (by show w.heap.size + 1 ≠ g1; omega) q3, h.at (by show pb ≠ g1; omega) (by show pb ≠ g1; omega) hpW, h.at (by show b ≠ g1; omega) (by show b ≠ g1; omega) k2W, h.at (by show b ≠ g1; omega) (by show b ≠ g1; omega) k3W⟩
        go_wp2_with fail
        rw [← hW]
        clear hW
        go_region_held3 (fun w' => FC g1 g1 cur.size 55 W w' ∧ w'.cell? ⟨w1.heap.size, 1, none⟩ = some (.slice (some ⟨g1, 0, none⟩) 2 c1) ∧ w'.cell? ⟨w.heap.size, 1, none⟩ = some (.slice (some ⟨b, o, none⟩) 2 cap) ∧ w'.cell? ⟨w.heap.size + 1, 0, none⟩ = some (.int .i64 m) ∧ w'.cell? ⟨w.heap.size + 1, 1, none⟩ = some (.slice ag (len g) cg) ∧ w'.cell? ⟨pb, po, none⟩ = some (.int .i64 1) ∧ w'.cell? ⟨b, o + 2, none⟩ = some (.int .i64 (num f 1)) ∧ w'.cell? ⟨b, o + 3, none⟩ = some (.slice a1' (len (kid f 1)) k1)) ((refine KS.out _ ?_; first | exact C0.out.drew | exact FC.ex' (And.left ‹FC _ _ _ _ _ _ ∧ _›) ‹Ex _ _› | exact FC.set (FC.set (And.left ‹FC _ _ _ _ _ _ ∧ _›) _ _) _ _ | exact (And.left ‹FC _ _ _ _ _ _ ∧ _›))) (first | (go_at_call 114; refine (IL.out _ _ _ (by omega) (by omega) XW.out.drew (PQ.out _ XW.out.drew)).mono ?_; rintro e w2 ⟨a2, c2, rfl, ht2, hb2⟩; have hg2 : w2.heap[g1]? = some (.cells cur 55 (0, 0)) := Ex.blk hb2 HG.out; have y0 : w2.cell? ⟨g1, 2, none⟩ = _ := (cell_cur hg2 2).trans E2.out; have y1 : w2.cell? ⟨g1, 3, none⟩ = _ := (cell_cur hg2 3).trans E3.out; have y2 := free_cur hg2 2; have y3 := free_cur hg2 3))
        have xb2 : Ex W w2 := (Ex.refl _).drew.trans hb2
        obtain ⟨W4, hW4⟩ : ∃ W4, W4 = (w2.setCell ⟨g1, 2, none⟩ (.int .i64 x)).setCell ⟨g1, 3, none⟩ (.slice a2 (len y) c2) := ⟨_, rfl⟩
        have far : ∀ k, k ≠ g1 → W4.heap[k]? = w2.heap[k]? := fun k hk => by rw [hW4, Below.heap_setCell _ _ _ _ hk, Below.heap_setCell _ _ _ _ hk]
        have hb7 : W4.heap[w1.heap.size]? = some (.cells #[.int .i64 0, .slice (some ⟨g1, 0, none⟩) 2 c1] 55 (0, 0)) := (far _ (by omega)).trans (xb2.blk HB7.out)
        have rb4 : W4.heap[w.heap.size + 2]? = some (.cells #[.int .i64 0, .slice none 0 0] 55 (0, 0)) := (far _ (by omega)).trans (xb2.blk RB.out)
        have g4 : W4.heap[g1]? = some (.cells ((cur.setIfInBounds 2 (.int .i64 x)).setIfInBounds 3 (.slice a2 (len y) c2)) 55 (0, 0)) := hW4 ▸ four_set0 hg2 2 3
        have x4 : Ex w W4 := hW4 ▸ ((XW.out.trans xb2).set (by show w.heap.size ≤ g1; omega) _).set (by show w.heap.size ≤ g1; omega) _
        have zW : w1.heap.size < W.heap.size := lt_of_block HB7.out
        have T4 : VA W4 W.heap.size y a2 := hW4 ▸ VA_set (VA_set ht2 (by show g1 < W.heap.size; omega) _) (by show g1 < W.heap.size; omega) _
        have TK4 : VS W4 (fun b => w.heap.size + 3 ≤ b ∧ b ≠ g1 ∧ b < w1.heap.size) (kid f 0) b0 := VS_ks (VS_ks V0.out fun k _ hlt => xb2.block k hlt) fun k hk _ => far k hk.2.1
        have u0 := two_cell0 hb7
        have u1 := two_cell1 hb7
        have d0 : W4.cell? ⟨w.heap.size + 1 + 1, 0, none⟩ = some (.int .i64 0) := two_cell0 rb4
        have d1 : W4.cell? ⟨w.heap.size + 1 + 1, 1, none⟩ = some (.slice none 0 0) := two_cell1 rb4
        have d2 : W4.frozen? ⟨w.heap.size + 1 + 1, 0, none⟩ = false := two_free rb4
        have d3 : W4.frozen? ⟨w.heap.size + 1 + 1, 1, none⟩ = false := two_free rb4
        rw [← hW4]
        clear hW4 ht2
        go_wp2_with fail
        obtain ⟨W5, hW5⟩ : ∃ W5, W5 = (W4.setCell ⟨w.heap.size + 1 + 1, 0, none⟩ (.int .i64 0)).setCell ⟨w.heap.size + 1 + 1, 1, none⟩ (.slice (some ⟨g1, 0, none⟩) 2 c1) := ⟨_, rfl⟩
        have far5 : ∀ k, k ≠ w.heap.size + 2 → W5.heap[k]? = W4.heap[k]? := fun k hk => by rw [hW5, Below.heap_setCell _ _ _ _ hk, Below.heap_setCell _ _ _ _ hk]
        have g5 := (far5 g1 (by omega)).trans g4
        have hb6 : W5.heap[w.heap.size + 2]? = some (.cells #[.int .i64 0, .slice (some ⟨g1, 0, none⟩) 2 c1] 55 (0, 0)) := hW5 ▸ two_set rb4
        have hr0 : W5.cell? ⟨w.heap.size + 1 + 1, 0, none⟩ = some (.int .i64 0) := two_cell0 hb6
        have hr1 : W5.cell? ⟨w.heap.size + 1 + 1, 1, none⟩ = some (.slice (some ⟨g1, 0, none⟩) 2 c1) := two_cell1 hb6
        have T2 : VS W5 (fun b => w.heap.size ≤ b) y a2 := VS_mono (VS_ks T4 fun k hk _ => far5 k (by have : W.heap.size ≤ k := hk; omega)) fun k _ hk => by have : W.heap.size ≤ k := hk; show w.heap.size ≤ k; omega
        have TK : VS W5 (fun b => w.heap.size ≤ b) (kid f 0) b0 := VS_mono (VS_ks TK4 fun k hk _ => far5 k (by omega)) fun k _ hk => by show w.heap.size ≤ k; omega
        have hxf : Ex w W5 := hW5 ▸ (x4.set (by show w.heap.size ≤ w.heap.size + 2; omega) _).set (by show w.heap.size ≤ w.heap.size + 2; omega) _
        rw [← hW5]
        refine bodyPost_ret (v := .agg #[.int .i64 0, .slice (some ⟨g1, 0, none⟩) 2 c1]) (by simp [results, Tryz.results114, go_sem, hr0, hr1]) rfl ?_
        rw [HQ.out]
        exact ⟨some ⟨g1, 0, none⟩, c1, rfl, VS_two (f := two (num f 0) (kid f 0) x y) (k0 := l0) (k1 := c2) (a0 := b0) rfl (by show w.heap.size ≤ g1; omega) ((cell_cur g5 0).trans ((set2_far (by omega) (by omega)).trans E0.out)) ((cell_cur g5 1).trans ((set2_far (by omega) (by omega)).trans E1.out)) ((cell_cur g5 2).trans (set2_0 (by omega) (by omega))) ((cell_cur g5 3).trans (set2_1 (by omega))) TK T2, hxf⟩

end Go.Proofs.YtldbmlojgakieaaGreatDoor

namespace Go.Proofs.YtldbmlojgakieaaGreatDoor

open Go.RowKit Go.Deep

attribute [local go_sem ↓] Go.wp_at_zero Go.wp_at_succ

theorem put_no {n : Int} {f : F} {p : List Int} {m : Int} {g : F} (h : (valAtR n f p).2 = false) : putOk n f p m g = false := by
  unfold putOk
  cases hf : vType 4 n f with
  | none => rfl
  | some u =>
    cases hp : partV n f p with
    | none => simp [(partV_type p 4 n f u hf).2 hp]
    | some mg => obtain ⟨m0, g0⟩ := mg; rw [valAt_of hf hp] at h; cases h

theorem put_yes {n : Int} {f : F} {p : List Int} {m : Int} {g u v : F} (hu : vType 4 n f = some u) (hv : partF u p = some v) : putOk n f p m g = valOk v m g := by
  unfold putOk; rw [hu]; simp [hv]

theorem valOk_eq {v g t : F} {m m0 : Int} {g0 : F} (hv : vType 4 m0 g0 = some v) (ht : vType 4 m g = some t) : valOk v m g = eqT v t := by
  simp [valOk, vType_fits 4 m0 g0 v hv, ht, ofType]

def SPutPost (R : (Int × F) × Bool) (w : World) (e : Ending) (w' : World) : Prop := ∃ a' c', e = .returned (.tuple #[.agg #[.int .i64 R.1.1, .slice a' (len R.1.2) c'], .bool R.2]) ∧ VA w' w.heap.size R.1.2 a' ∧ Ex w w'
theorem SPutPost.no {R : (Int × F) × Bool} {w w' : World} (h : R = ((0, .nil), false)) (hx : Ex w w') : SPutPost R w (.returned (.tuple #[.agg #[.int .i64 0, .slice none 0 0], .bool false])) w' := by
  subst h
  exact ⟨none, 0, rfl, Or.inl rfl, hx⟩

set_option maxRecDepth 100000 in
set_option maxHeartbeats 4000000 in
theorem sValPut_any (n : Int) (f : F) (p : List Int) (m : Int) (g : F) (a ag pa : Option Addr) (cap cg pc lo lo' : Nat) (w : World) (hp : p.length ≤ 1000000000) (hpc : p.length ≤ pc) (hpm : pc ≤ 9223372036854775807) (hl : len f ≤ 1000000000) (hs : Sm f) (hgl : len g ≤ 1000000000) (hgs : Sm g) (hT : VA w lo f a) (hG : VA w lo' g ag) (hP : PA w 0 p pa) :
    Calls Tryz.prog 94 #[.agg #[.int .i64 n, .slice a (len f) cap], .slice pa p.length pc, .agg #[.int .i64 m, .slice ag (len g) cg]] w (SPutPost (valPutR n f p m g) w) := by
  have IV : Hid (∀ w', Ex w w' → Calls Tryz.prog 93 #[.agg #[.int .i64 n, .slice a (len f) cap], .slice pa p.length pc] w' (VAtPost n f p w')) := fun w' h => sValAt_any n f p a cap pa pc lo w' hp hl hs (VA_below hT h) (PA_below hP h)
  have IA : Hid (∀ w', Ex w w' → Calls Tryz.prog 22 #[.agg #[.int .i64 m, .slice ag (len g) cg]] w' fun e w'' => e = .returned (.bool (vType 4 m g).isSome) ∧ Ex w' w'') := fun w' h => l1Any_any m g ag cg lo' w' hgl hgs (VA_below hG h)
  have IO : Hid (∀ w', Ex w w' → Calls Tryz.prog 49 #[.agg #[.int .i64 m, .slice ag (len g) cg], .int .i64 4] w' (OfPost 4 g w')) := fun w' h => l1Of_any 4 4 m g ag cg lo' w' rfl (by omega) (VA_below hG h)
  have IW : Hid (∀ (u v : F) (w' : World), vType 4 n f = some u → partF u p = some v → Ex w w' → Calls Tryz.prog 114 #[.agg #[.int .i64 n, .slice a (len f) cap], .slice pa p.length pc, .agg #[.int .i64 m, .slice ag (len g) cg]] w' (PuPost (putV p n f m g).1 (putV p n f m g).2 w')) := fun u v w' h1 h2 h => l1Put_any p 4 n f u v m g a ag pa cap cg pc lo lo' w' hp hpc hpm h1 h2 hgl hgs (VA_below hT h) (VA_below hG h) (PA_below hP h)
  have HR : Hid (valPutR n f p m g = if putOk n f p m g = true then (putV p n f m g, true) else ((0, .nil), false)) := rfl
  have N0 : Hid ((valAtR n f p).2 = false → putOk n f p m g = false) := put_no
  have Y0 : Hid ((valAtR n f p).2 = true → ∃ u m0 g0 v, vType 4 n f = some u ∧ vType 4 m0 g0 = some v ∧ partF u p = some v ∧ valAtR n f p = ((m0, g0), true)) := fun h => by
    obtain ⟨u, m0, g0, v, h1, _, h3, h4, h5⟩ := valAt_ok h
    exact ⟨u, m0, g0, v, h1, h3, h4, h5⟩
  clear hT hG hP hs hgs
  obtain ⟨R, hR⟩ : ∃ R, R = valPutR n f p m g := ⟨_, rfl⟩
  rw [← hR] at HR ⊢
  clear hR
  have FI : Hid (∀ W0 W, W0.heap[w.heap.size + 2]? = some (.cells #[.int .i64 0, .slice none 0 0] 55 (0, 0)) → Ex w W0 → W = (W0.setCell ⟨w.heap.size + 1 + 1, 0, none⟩ (.int .i64 0)).setCell ⟨w.heap.size + 1 + 1, 1, none⟩ (.slice none 0 0) → W.heap[w.heap.size + 2]? = some (.cells #[.int .i64 0, .slice none 0 0] 55 (0, 0)) ∧ Ex w W) := fun W0 W h1 h2 h3 => by
    subst h3
    exact ⟨two_set (u' := .int .i64 0) (v' := .slice none 0 0) h1, (h2.set (by show w.heap.size ≤ w.heap.size + 2; omega) _).set (by show w.heap.size ≤ w.heap.size + 2; omega) _⟩
  have DF : Hid (∀ W0 : World, W0.heap[w.heap.size + 2]? = some (.cells #[.int .i64 0, .slice none 0 0] 55 (0, 0)) → (W0.cell? ⟨w.heap.size + 1 + 1, 0, none⟩ = some (.int .i64 0) ∧ W0.cell? ⟨w.heap.size + 1 + 1, 1, none⟩ = some (.slice none 0 0) ∧ W0.frozen? ⟨w.heap.size + 1 + 1, 0, none⟩ = false ∧ W0.frozen? ⟨w.heap.size + 1 + 1, 1, none⟩ = false) ∧ w.heap.size + 1 + 1 < W0.heap.size ∧ w.heap.size + 1 < W0.heap.size ∧ w.heap.size < W0.heap.size) := fun W0 h => ⟨⟨two_cell0 h, two_cell1 h, two_free h, two_free h⟩, lt_of_block h, by have := lt_of_block h; omega, by have := lt_of_block h; omega⟩
  go_enter Tryz.func94, Tryz.ntmps94
  go_wp2_with fail
  refine (IV.out _ (((Ex.new _ _).alloc _).alloc _)).mono ?_
  rintro e w1 ⟨a1, c1, rfl, ht1, hb1⟩
  have x1 : Ex w w1 := (((Ex.new _ _).alloc _).alloc _).trans hb1
  have rb : w1.heap[w.heap.size + 2]? = some (.cells #[.int .i64 0, .slice none 0 0] 55 (0, 0)) := hb1.blk (heap_alloc_at _ _ (by simp))
  have q0 : w1.cell? ⟨w.heap.size, 0, none⟩ = some (.int .i64 n) := hb1.at (((Ex.new _ _).alloc _).at (World.cell?_alloc_new _ _ _ _))
  have q1 : w1.cell? ⟨w.heap.size, 1, none⟩ = some (.slice a (len f) cap) := hb1.at (((Ex.new _ _).alloc _).at (World.cell?_alloc_new _ _ _ _))
  have q2 : w1.cell? ⟨w.heap.size + 1, 0, none⟩ = some (.int .i64 m) := hb1.at ((Ex.new _ _).at (by simp))
  have q3 : w1.cell? ⟨w.heap.size + 1, 1, none⟩ = some (.slice ag (len g) cg) := hb1.at ((Ex.new _ _).at (by simp))
  obtain ⟨⟨d0, d1, d2, d3⟩, z2, z1, z0⟩ := DF.out w1 rb
  cases hv : (valAtR n f p).2
  · have HN : Hid (R = ((0, .nil), false)) := by show _ = _; rw [HR.out, N0.out hv]; rfl
    obtain ⟨k0, hk0⟩ : ∃ k0, k0 = (valAtR n f p).1.1 := ⟨_, rfl⟩
    obtain ⟨l0, hl0⟩ : ∃ l0, l0 = (valAtR n f p).1.2 := ⟨_, rfl⟩
    rw [← hk0, ← hl0]
    clear ht1 hk0 hl0 hv
    go_wp2_with fail
    obtain ⟨hb, hxf⟩ := FI.out w1 _ rb x1 rfl
    have hb' := (Ex.new _ (.cells #[.int .i64 k0, .slice a1 (len l0) c1] 55)).blk hb
    have hr0 := two_cell0 hb'
    have hr1 := two_cell1 hb'
    refine bodyPost_ret (v := .tuple #[.agg #[.int .i64 0, .slice none 0 0], .bool false]) (by simp [results, Tryz.results94, go_sem, hr0, hr1]) rfl ?_
    exact SPutPost.no HN.out (hxf.alloc _)
  obtain ⟨u, m0, g0, v, hu, hv0, hpu, he⟩ := Y0.out hv
  have HU : Hid (vType 4 n f = some u) := hu
  have HV : Hid (vType 4 m0 g0 = some v) := hv0
  have HP : Hid (partF u p = some v) := hpu
  have HO : Hid (putOk n f p m g = valOk v m g) := put_yes hu hpu
  rw [he] at ht1 ⊢
  have T1 : Hid (∀ w', Ex w1 w' → VA w' 0 g0 a1) := fun w' h => VA_lo (VA_below ht1 h) (Nat.zero_le _)
  clear hv hu hv0 hpu he ht1 N0 Y0
  go_wp2_with fail
  refine (IA.out _ (x1.alloc _)).mono ?_
  rintro e w2 ⟨rfl, hb2⟩
  have xx : Ex w1 w2 := (Ex.new _ _).trans hb2
  have x2 : Ex w w2 := x1.trans xx
  have rb2 := xx.blk rb
  have y0 : w2.cell? ⟨w1.heap.size, 0, none⟩ = some (.int .i64 m0) := hb2.at (World.cell?_alloc_new _ _ _ _)
  have y1 : w2.cell? ⟨w1.heap.size, 1, none⟩ = some (.slice a1 (len g0) c1) := hb2.at (World.cell?_alloc_new _ _ _ _)
  replace q0 := xx.at q0
  replace q1 := xx.at q1
  replace q2 := xx.at q2
  replace q3 := xx.at q3
  have zz : w1.heap.size < w2.heap.size := World.block_lt_of_cell? _ _ y0
  clear d0 d1 d2 d3
  obtain ⟨⟨d0, d1, d2, d3⟩, z2', z1', z0'⟩ := DF.out w2 rb2
  cases ht : vType 4 m g with
  | none =>
    have HN : Hid (R = ((0, .nil), false)) := by show _ = _; rw [HR.out, HO.out]; simp [valOk, ht, ofType]
    simp only [Option.isSome_none]
    clear ht
    go_wp2_with fail
    obtain ⟨hb, hxf⟩ := FI.out w2 _ rb2 x2 rfl
    have hr0 := two_cell0 hb
    have hr1 := two_cell1 hb
    refine bodyPost_ret (v := .tuple #[.agg #[.int .i64 0, .slice none 0 0], .bool false]) (by simp [results, Tryz.results94, go_sem, hr0, hr1]) rfl ?_
    exact SPutPost.no HN.out hxf
  | some t =>
    have HT : Hid (vType 4 m g = some t) := ht
    have HO2 : Hid (putOk n f p m g = eqT v t) := by show _ = _; rw [HO.out, valOk_eq HV.out ht]
    have SHV : Hid (sh 4 g0 = some v) := vType_sh 4 m0 g0 v HV.out
    have SHT : Hid (sh 4 g = some t) := vType_sh 4 m g t ht
    have SMV : Hid (len v ≤ 2 ∧ Sm v) := fits_sm _ _ (vType_fits 4 m0 g0 v HV.out)
    simp only [Option.isSome_some]
    clear ht
    go_wp2_with fail
    refine (l1Of_any 4 4 m0 g0 a1 c1 0 _ rfl (by omega) (T1.out _ xx)).mono ?_
    rintro e w3 ⟨a3, n3, c3, rfl, hu3, hb3⟩
    obtain ⟨hn3, ht3⟩ := hu3 v SHV.out
    subst hn3
    have sv : (sh 4 g0).isSome = true := by rw [SHV.out]; rfl
    rw [sv]
    have x3 : Ex w w3 := x2.trans hb3
    have rb3 := hb3.blk rb2
    have T3 : Hid (∀ w', Ex w3 w' → TA w' 0 v a3) := fun w' h => TA_lo (TA_below ht3 h) (Nat.zero_le _)
    replace q0 := hb3.at q0
    replace q1 := hb3.at q1
    replace q2 := hb3.at q2
    replace q3 := hb3.at q3
    clear d0 d1 d2 d3 hu3 ht3 y0 y1 sv
    obtain ⟨⟨d0, d1, d2, d3⟩, z2'', z1'', z0''⟩ := DF.out w3 rb3
    go_wp2_with fail
    refine (IO.out _ (x3.alloc _)).mono ?_
    rintro e w4 ⟨a4, n4, c4, rfl, hu4, hb4⟩
    obtain ⟨hn4, ht4⟩ := hu4 t SHT.out
    subst hn4
    have sv : (sh 4 g).isSome = true := by rw [SHT.out]; rfl
    rw [sv]
    have xy : Ex w3 w4 := (Ex.new _ _).trans hb4
    have x4 : Ex w w4 := x3.trans xy
    have rb4 := xy.blk rb3
    have y0 : w4.cell? ⟨w3.heap.size, 0, none⟩ = some (.slice a3 (len v) c3) := hb4.at (World.cell?_alloc_new _ _ _ _)
    have zy : w3.heap.size < w4.heap.size := World.block_lt_of_cell? _ _ y0
    replace q0 := xy.at q0
    replace q1 := xy.at q1
    replace q2 := xy.at q2
    replace q3 := xy.at q3
    have T4 : Hid (∀ w', Ex w4 w' → TA w' 0 t a4) := fun w' h => TA_lo (TA_below ht4 h) (Nat.zero_le _)
    clear d0 d1 d2 d3 hu4 ht4 sv
    obtain ⟨⟨d0, d1, d2, d3⟩, y2'', y1'', y0''⟩ := DF.out w4 rb4
    go_wp2_with fail
    refine (l1Same_any (dep v + 1) v t a3 a4 c3 c4 0 0 _ (by omega) (by have := SMV.out; omega) SMV.out.2 (T3.out _ (xy.trans (Ex.new _ _))) (T4.out _ (Ex.new _ _))).mono ?_
    rintro e w5 ⟨rfl, hb5⟩
    have xz : Ex w4 w5 := (Ex.new _ _).trans hb5
    have x5 : Ex w w5 := x4.trans xz
    have rb5 := xz.blk rb4
    replace q0 := xz.at q0
    replace q1 := xz.at q1
    replace q2 := xz.at q2
    replace q3 := xz.at q3
    clear d0 d1 d2 d3 y0
    obtain ⟨⟨d0, d1, d2, d3⟩, u2'', u1'', u0''⟩ := DF.out w5 rb5
    cases hk : eqT v t
    · have HN : Hid (R = ((0, .nil), false)) := by show _ = _; rw [HR.out, HO2.out, hk]; rfl
      clear hk
      go_wp2_with fail
      obtain ⟨hb, hxf⟩ := FI.out w5 _ rb5 x5 rfl
      have hr0 := two_cell0 hb
      have hr1 := two_cell1 hb
      refine bodyPost_ret (v := .tuple #[.agg #[.int .i64 0, .slice none 0 0], .bool false]) (by simp [results, Tryz.results94, go_sem, hr0, hr1]) rfl ?_
      exact SPutPost.no HN.out hxf
    · have HN : Hid (R = (putV p n f m g, true)) := by show _ = _; rw [HR.out, HO2.out, hk]; rfl
      have IX : Hid (Calls Tryz.prog 114 #[.agg #[.int .i64 n, .slice a (len f) cap], .slice pa p.length pc, .agg #[.int .i64 m, .slice ag (len g) cg]] w5 (PuPost (putV p n f m g).1 (putV p n f m g).2 w5)) := IW.out u v w5 HU.out HP.out x5
      generalize putV p n f m g = pv at *
      obtain ⟨pn, pf⟩ := pv
      clear hk IW
      go_wp2_with fail
      refine Calls.mono IX.out ?_
      rintro e w6 ⟨a6, c6, rfl, ht6, hb6⟩
      have x6 : Ex w w6 := x5.trans hb6
      have rb6 := hb6.blk rb5
      have zz : w.heap.size + 2 < w5.heap.size := lt_of_block rb5
      have T6 : Hid (VA w6 w5.heap.size pf a6) := ht6
      clear ht6 d0 d1 d2 d3
      obtain ⟨⟨d0, d1, d2, d3⟩, v2'', v1'', v0''⟩ := DF.out w6 rb6
      go_wp2_with fail
      have hb7 := two_set (u' := .int .i64 pn) (v' := .slice a6 (len pf) c6) rb6
      have hr0 := two_cell0 hb7
      have hr1 := two_cell1 hb7
      refine bodyPost_ret (v := .tuple #[.agg #[.int .i64 pn, .slice a6 (len pf) c6], .bool true]) (by simp [results, Tryz.results94, go_sem, hr0, hr1]) rfl ?_
      rw [HN.out]
      exact ⟨a6, c6, rfl, VA_lo (VA_set (VA_set T6.out (by show w.heap.size + 2 < w5.heap.size; omega) _) (by show w.heap.size + 2 < w5.heap.size; omega) _) (by omega), (x6.set (by show w.heap.size ≤ w.heap.size + 2; omega) _).set (by show w.heap.size ≤ w.heap.size + 2; omega) _⟩

end Go.Proofs.YtldbmlojgakieaaGreatDoor

namespace Go.Proofs.YtldbmlojgakieaaGreatDoor

open Go.RowKit Go.Deep

attribute [local go_sem ↓] Go.wp_at_zero Go.wp_at_succ

/-- A type's text. -/
def say : Nat → F → ByteArray
  | 0, _ => ⟨#[]⟩
  | r + 1, f => if len f = 0 then ⟨#[105]⟩ else ⟨#[40]⟩ ++ say r (kid f 0) ++ ⟨#[44]⟩ ++ say r (kid f 1) ++ ⟨#[41]⟩

theorem say_len : ∀ (r : Nat) (f : F), (say r f).size ≤ 4 ^ (r + 1)
  | 0, _ => by simp [say, ByteArray.size]
  | r + 1, f => by
    have h1 := say_len r (kid f 0)
    have h2 := say_len r (kid f 1)
    have h3 : 4 ^ (r + 1 + 1) = 4 * 4 ^ (r + 1) := by rw [Nat.pow_succ]; omega
    have h4 : 4 ≤ 4 ^ (r + 1) := by
      have := Nat.pow_le_pow_right (n := 4) (by omega) (show 1 ≤ r + 1 by omega); simpa using this
    simp only [say]
    split
    · simp [ByteArray.size]; omega
    · simp only [ByteArray.size_append]
      have e1 : (⟨#[40]⟩ : ByteArray).size = 1 := rfl
      have e2 : (⟨#[44]⟩ : ByteArray).size = 1 := rfl
      have e3 : (⟨#[41]⟩ : ByteArray).size = 1 := rfl
      omega

/-- What TypeText tells. -/
def textT (f : F) : ByteArray := if fits 4 f = true then say 4 f else ⟨#[]⟩

end Go.Proofs.YtldbmlojgakieaaGreatDoor
