/- Walks: terms drawn. An append onto what is owned, in a region that draws its order. -/
import Derived.Test.YtldbmlojgakieaaDoorGBD2
import Derived.Test.YtldbmlojgakieaaDoorGSZ1
import Derived.Test.YtldbmlojgakieaaDoorGTO0
import Derived.Test.YtldbmlojgakieaaDoorGW7
import Derived.Deep.RegionLaw
namespace Go.Proofs.YtldbmlojgakieaaDoor

open Go.RowKit Go.Deep Go.Maps Go.WideMaps

attribute [local go_sem ↓] Go.wp_at_zero Go.wp_at_succ

/-- How many bytes are read at most. -/
def tq : Nat → Nat
  | 0 => 3
  | d + 1 => 2 * tq d + 8

/-- A term that is small: at most so deep. -/
structure Tg (d : Nat) (s : ByteArray) (x : List Int) (f : TM) : Prop where
  sm : TSm f
  lm : TLm f
  kids : tlen f ≤ 2
  path : x.length ≤ 2
  name : s.size ≤ 1
  deep : tdep f < d
theorem Tg.leaf {d : Nat} {s : ByteArray} (hs : s.size ≤ 1) (hd : 0 < d) : Tg d s [] .nil := ⟨trivial, trivial, by simp [tlen], by simp, hs, hd⟩
theorem Tg.one {d : Nat} {k n : Int} {s s' : ByteArray} {x x' : List Int} {f : TM} (h : Tg d s x f) (hs : s'.size ≤ 1) (hx : x'.length ≤ 2) : Tg (d + 1) s' x' (.node 0 0 (k, n, s, x) f .nil) :=
  ⟨⟨by have := h.path; omega, by have := h.kids; omega, h.sm, trivial⟩, ⟨by have := h.name; omega, by have := h.path; omega, by have := h.kids; omega, h.lm, trivial⟩, by simp [tlen], hx, hs, by have := h.deep; simp only [tdep]; omega⟩
theorem Tg.two {d : Nat} {k n k2 n2 : Int} {s s2 s' : ByteArray} {x x2 x' : List Int} {f f2 : TM} (h : Tg d s x f) (h2 : Tg d s2 x2 f2) (hs : s'.size ≤ 1) (hx : x'.length ≤ 2) : Tg (d + 1) s' x' (.node 0 0 (k, n, s, x) f (.node 0 0 (k2, n2, s2, x2) f2 .nil)) :=
  ⟨⟨by have := h.path; omega, by have := h.kids; omega, h.sm, by have := h2.path; omega, by have := h2.kids; omega, h2.sm, trivial⟩, ⟨by have := h.name; omega, by have := h.path; omega, by have := h.kids; omega, h.lm, by have := h2.name; omega, by have := h2.path; omega, by have := h2.kids; omega, h2.lm, trivial⟩, by simp [tlen], hx, hs, by have := h.deep; have := h2.deep; simp only [tdep]; omega⟩
theorem Tg.up {d d' : Nat} {s : ByteArray} {x : List Int} {f : TM} (h : Tg d s x f) (hd : d ≤ d') : Tg d' s x f := ⟨h.sm, h.lm, h.kids, h.path, h.name, Nat.lt_of_lt_of_le h.deep hd⟩

/-- A drawn term. -/
def TmP (d rb p m : Nat) (w : World) (e : Ending) (w' : World) : Prop :=
  ∃ (k n : Int) (s : ByteArray) (x : List Int) (xa : Option Addr) (xc : Nat) (f : TM) (fa : Option Addr) (fc q : Nat),
    e = .returned (.agg #[.int .i64 k, .int .i64 n, .string s, .slice xa x.length xc, .slice fa (tlen f) fc]) ∧ Own w' w.heap.size (.slice xa x.length xc) x ∧ MS w' (fun b => w.heap.size ≤ b ∧ (Value.slice xa x.length xc).ownBlock ≠ some b) f fa ∧ Tg d s x f ∧ p ≤ q ∧ q ≤ p + m ∧ Rd w' rb q ∧ Fr rb w w'

theorem Own.nothing (w : World) (base : Nat) : Own w base (.slice none 0 0) [] := World.ownsRow_nil _ _ _ _
theorem Own.made (w : World) : Own (w.alloc (.cells #[] 3)) w.heap.size (.slice (some ⟨w.heap.size, 0, none⟩) 0 0) [] :=
  ⟨rfl, Or.inr ⟨w.heap.size, 0, #[], rfl, Nat.le_refl _, heap_alloc_at _ _ rfl, by first | rfl | simp, by first | rfl | simp, by first | rfl | simp, by first | rfl | simp⟩⟩
theorem Own.lt {w : World} {base : Nat} {v : Value} {xs : List Int} (h : Own w base v xs) : ∀ k, v.ownBlock = some k → base ≤ k ∧ k < w.heap.size := fun k hk => World.ownsRow.lt h k hk

/-- Five cells set. -/
theorem five_set {w : World} {b : Nat} {cur : Array Value} {t : TypeId} (h : w.heap[b]? = some (.cells cur t (0, 0))) (hc : cur.size = 5) (v0 v1 v2 v3 v4 : Value) :
    (setL w b 0 [v0, v1, v2, v3, v4]).heap[b]? = some (.cells #[v0, v1, v2, v3, v4] t (0, 0)) := (setL_blk [v0, v1, v2, v3, v4] h).trans (by rw [setA_all [v0, v1, v2, v3, v4] cur (by rw [hc]; rfl)])
/-- A drawn term's own list: one, two. -/
theorem MS_one {w : World} {S : Nat → Prop} {g : Nat} {k n : Int} {s : ByteArray} {x : List Int} {xa : Option Addr} {xc : Nat} {f : TM} {fa : Option Addr} {fc : Nat} {t : TypeId} (hb : w.heap[g]? = some (.cells #[.int .i64 k, .int .i64 n, .string s, .slice xa x.length xc, .slice fa (tlen f) fc] t (0, 0))) (hg : S g)
    (hx : PS w S x xa) (hc : x.length ≤ xc ∧ xc ≤ 9223372036854775807) (hf : MS w S f fa) : MS w S (.node 0 0 (k, n, s, x) f .nil) (some ⟨g, 0, none⟩) := by
  refine MS_mk hg fun i hi => ?_
  have : i = 0 := by simp only [tlen] at hi; omega
  subst this
  exact ⟨blk_cell hb 0, blk_cell hb 1, blk_cell hb 2, ⟨xa, xc, blk_cell hb 3, hx, hc⟩, fa, fc, blk_cell hb 4, hf⟩
theorem MS_two {w : World} {S : Nat → Prop} {g : Nat} {k n k2 n2 : Int} {s s2 : ByteArray} {x x2 : List Int} {xa xa2 : Option Addr} {xc xc2 : Nat} {f f2 : TM} {fa fa2 : Option Addr} {fc fc2 : Nat} {t : TypeId}
    (hb : w.heap[g]? = some (.cells #[.int .i64 k, .int .i64 n, .string s, .slice xa x.length xc, .slice fa (tlen f) fc, .int .i64 k2, .int .i64 n2, .string s2, .slice xa2 x2.length xc2, .slice fa2 (tlen f2) fc2] t (0, 0))) (hg : S g)
    (hx : PS w S x xa) (hc : x.length ≤ xc ∧ xc ≤ 9223372036854775807) (hf : MS w S f fa) (hx2 : PS w S x2 xa2) (hc2 : x2.length ≤ xc2 ∧ xc2 ≤ 9223372036854775807) (hf2 : MS w S f2 fa2) : MS w S (.node 0 0 (k, n, s, x) f (.node 0 0 (k2, n2, s2, x2) f2 .nil)) (some ⟨g, 0, none⟩) := by
  refine MS_mk hg fun i hi => ?_
  have : i = 0 ∨ i = 1 := by simp only [tlen] at hi; omega
  rcases this with rfl | rfl
  · exact ⟨blk_cell hb 0, blk_cell hb 1, blk_cell hb 2, ⟨xa, xc, blk_cell hb 3, hx, hc⟩, fa, fc, blk_cell hb 4, hf⟩
  · exact ⟨blk_cell hb 5, blk_cell hb 6, blk_cell hb 7, ⟨xa2, xc2, blk_cell hb 8, hx2, hc2⟩, fa2, fc2, blk_cell hb 9, hf2⟩

/-- Behind the last world of a draw: its result's cells, and what has stayed. -/
theorem end_leaf {d rb p m q : Nat} {w w2 : World} {k n : Int} {s : ByteArray} (hR : Rd w2 rb q) (hF : Fr rb w w2) (hrb : rb < w.heap.size) (hs : s.size ≤ 1) (hd : 0 < d) (h1 : p ≤ q) (h2 : q ≤ p + m) :
    TmP d rb p m w (.returned (.agg #[.int .i64 k, .int .i64 n, .string s, .slice none 0 0, .slice none 0 0])) (setL w2 w.heap.size 0 [.int .i64 k, .int .i64 n, .string s, .slice none 0 0, .slice none 0 0]) := by
  refine ⟨k, n, s, [], Option.none, 0, .nil, Option.none, 0, q, rfl, Own.nothing _ _, Or.inl rfl, Tg.leaf hs hd, h1, h2, ?_, ?_⟩
  · simp only [setL]
    exact ((((hR.set (by exact hrb) _).set (by exact hrb) _).set (by exact hrb) _).set (by exact hrb) _).set (by exact hrb) _
  · simp only [setL]
    exact ((((hF.set (Or.inr (by exact Nat.le_refl _)) _).set (Or.inr (by exact Nat.le_refl _)) _).set (Or.inr (by exact Nat.le_refl _)) _).set (Or.inr (by exact Nat.le_refl _)) _).set (Or.inr (by exact Nat.le_refl _)) _

theorem kid_mv {w6 Wf : World} {lo m : Nat} {pv : Value} {x : List Int} {xa : Option Addr} {xc : Nat} {f : TM} {fa : Option Addr} (hO : Own w6 lo (.slice xa x.length xc) x) (hM : MS w6 (fun b => lo ≤ b ∧ (Value.slice xa x.length xc).ownBlock ≠ some b) f fa) (hk : Kp lo w6 Wf) (hm : m ≤ lo) (hlt : ∀ k, pv.ownBlock = some k → k < lo) :
    PS Wf (fun b => m ≤ b ∧ pv.ownBlock ≠ some b) x xa ∧ (x.length ≤ xc ∧ xc ≤ 9223372036854775807) ∧ MS Wf (fun b => m ≤ b ∧ pv.ownBlock ≠ some b) f fa := by
  obtain ⟨pa, pc, e, hP, h1, h2, _⟩ := hO.PA
  injection e with e1 e2 e3
  subst e1 e3
  have up : ∀ b, lo ≤ b → m ≤ b ∧ pv.ownBlock ≠ some b := fun b hb => ⟨by omega, fun e => by have := hlt b e; omega⟩
  exact ⟨PS_mono (PS_ks (PS_pa.2 hP) fun b hb hl => hk.block b hb hl) fun b _ hb => up b hb, ⟨h1, h2⟩, MS_mono (MS_ks hM fun b hb hl => hk.block b hb.1 hl) fun b _ hb => up b hb.1⟩

theorem end_in {d rb p m q base : Nat} {w w7 Wf : World} {k n : Int} {xs : List Int} {xa : Option Addr} {xc : Nat} {f : TM} {row : Obj} {fc : Nat} {fa : Option Addr}
    (hWf : Wf = (setL w7 w.heap.size 0 [.int .i64 k, .int .i64 n, .string ⟨#[]⟩, .slice xa xs.length xc, .slice fa (tlen f) fc]).alloc row)
    (hOp : Own w7 base (.slice xa xs.length xc) xs) (hbase : w.heap.size < base) (hMS : MS Wf (fun b => w.heap.size ≤ b ∧ (Value.slice xa xs.length xc).ownBlock ≠ some b) f fa) (hT : Tg d ⟨#[]⟩ xs f) (hR : Rd w7 rb q) (hF : Fr rb w w7) (hrb : rb < w.heap.size) (h1 : p ≤ q) (h2 : q ≤ p + m) :
    TmP d rb p m w (.returned (.agg #[.int .i64 k, .int .i64 n, .string ⟨#[]⟩, .slice xa xs.length xc, .slice fa (tlen f) fc])) Wf := by
  have hk : Kp base w7 Wf := by rw [hWf]; exact (setL_kp _ (Kp.refl _ _) (Or.inl hbase)).alloc _
  refine ⟨k, n, ⟨#[]⟩, xs, xa, xc, f, fa, fc, q, rfl, (hOp.keep hk).lo (by omega), hMS, hT, h1, h2, ?_, ?_⟩
  · rw [hWf]
    simp only [setL]
    exact (((((hR.set (by exact hrb) _).set (by exact hrb) _).set (by exact hrb) _).set (by exact hrb) _).set (by exact hrb) _).ex (Ex.new _ _)
  · rw [hWf]
    simp only [setL]
    exact (((((hF.set (Or.inr (by exact Nat.le_refl _)) _).set (Or.inr (by exact Nat.le_refl _)) _).set (Or.inr (by exact Nat.le_refl _)) _).set (Or.inr (by exact Nat.le_refl _)) _).set (Or.inr (by exact Nat.le_refl _)) _).alloc _

set_option maxRecDepth 100000 in
set_option maxHeartbeats 4000000 in
theorem l71Term_any : ∀ (d : Nat) (D : Int) (rb p : Nat) (w : World), D = ((d + 1 : Nat) : Int) → d ≤ 8 → p + tq d ≤ 100000 → Rd w rb p →
    Calls Tryd.prog 10 #[.pointer (some ⟨rb, 0, none⟩), .int .i64 D] w (TmP (d + 1) rb p (tq d) w)
  | 0, D, rb, p, w, hD, hd, hp, hR => by
    have hrb := hR.blk
    have R0 : Hid (Rd (w.alloc (.cells #[.int .i64 0, .int .i64 0, .string ⟨#[]⟩, .slice none 0 0, .slice none 0 0] 28)) rb p) := hR.ex (Ex.new _ _)
    have F0 : Hid (Fr rb w (w.alloc (.cells #[.int .i64 0, .int .i64 0, .string ⟨#[]⟩, .slice none 0 0, .slice none 0 0] 28))) := (Fr.refl _ _).alloc _
    have B0 : Hid ((w.alloc (.cells #[.int .i64 0, .int .i64 0, .string ⟨#[]⟩, .slice none 0 0, .slice none 0 0] 28)).heap[w.heap.size]? = some (.cells #[.int .i64 0, .int .i64 0, .string ⟨#[]⟩, .slice none 0 0, .slice none 0 0] 28 (0, 0))) := heap_alloc_new _ _
    simp only [tq] at hp
    subst hD
    clear hR
    go_enter Tryd.func10, Tryd.ntmps10
    go_wp2_with fail
    refine (pick_any rb (p) 3 _ (by omega) (by omega) (by omega) R0.out).mono ?_
    rintro e wl ⟨y, rfl, hy0, hy3, hRl, hFl⟩
    have hbl : wl.heap[w.heap.size]? = some (.cells #[.int .i64 0, .int .i64 0, .string ⟨#[]⟩, .slice none 0 0, .slice none 0 0] 28 (0, 0)) := hFl.blk (by omega) B0.out
    have Rl : Hid (Rd wl rb (p + 1)) := hRl
    have Fl : Hid (Fr rb w wl) := F0.out.trans hFl
    have HBL : Hid _ := hbl
    have zl : w.heap.size < wl.heap.size := lt_of_block hbl
    clear hRl hFl hbl
    by_cases hy : y = 0
    · have e3 : (y == 0) = true := by rw [beq_iff_eq]; exact hy
      clear hy
      go_wp2_with fail
      refine (pick_any rb (p + 1) 4 _ (by omega) (by omega) (by omega) Rl.out).mono ?_
      rintro e wm ⟨z, rfl, hz0, hz3, hRm, hFm⟩
      have hbm : wm.heap[w.heap.size]? = some (.cells #[.int .i64 0, .int .i64 0, .string ⟨#[]⟩, .slice none 0 0, .slice none 0 0] 28 (0, 0)) := hFm.blk (by omega) HBL.out
      have Rm : Hid (Rd wm rb (p + 1 + 1)) := hRm
      have Fm : Hid (Fr rb w wm) := Fl.out.trans hFm
      have HBM : Hid _ := hbm
      have c0 := blk_cell hbm 0
      have c1 := blk_cell hbm 1
      have c2 := blk_cell hbm 2
      have c3 := blk_cell hbm 3
      have c4 := blk_cell hbm 4
      have g0 := blk_free hbm 0
      have g1 := blk_free hbm 1
      have g2 := blk_free hbm 2
      have g3 := blk_free hbm 3
      have g4 := blk_free hbm 4
      clear hRm hFm hbm
      go_wp2_with fail
      have q5 := five_set HBM.out rfl (.int .i64 1) (.int .i64 z) (.string ⟨#[]⟩) (.slice none 0 0) (.slice none 0 0)
      have hc0 := blk_cell q5 0
      have hc1 := blk_cell q5 1
      have hc2 := blk_cell q5 2
      have hc3 := blk_cell q5 3
      have hc4 := blk_cell q5 4
      simp only [setL, Nat.zero_add, Nat.reduceAdd] at hc0 hc1 hc2 hc3 hc4
      refine bodyPost_ret (v := .agg #[.int .i64 1, .int .i64 z, .string ⟨#[]⟩, .slice none 0 0, .slice none 0 0]) (by simp [results, Tryd.results10, go_sem, hc0, hc1, hc2, hc3, hc4]) rfl ?_
      exact end_leaf Rm.out Fm.out (by omega) (by decide) (by omega) (by omega) (by simp only [tq]; omega)
    · have e3 : (y == 0) = false := by rw [beq_eq_false_iff_ne]; exact hy
      clear hy
      have XA3 : Hid (Fr rb w (wl.alloc (.cells #[.string ⟨#[97]⟩, .string ⟨#[98]⟩, .string ⟨#[99]⟩] 9))) := Fl.out.alloc _
      go_wp2_with fail
      refine (pick_any rb (p + 1) 3 _ (by omega) (by omega) (by omega) (Rl.out.ex (Ex.new _ _))).mono ?_
      rintro e wm ⟨z, rfl, hz0, hz3, hRm, hFm⟩
      have hbm : wm.heap[w.heap.size]? = some (.cells #[.int .i64 0, .int .i64 0, .string ⟨#[]⟩, .slice none 0 0, .slice none 0 0] 28 (0, 0)) := hFm.blk (by omega) ((Ex.new _ _).blk HBL.out)
      have hbn : wm.heap[wl.heap.size]? = some (.cells #[.string ⟨#[97]⟩, .string ⟨#[98]⟩, .string ⟨#[99]⟩] 9 (0, 0)) := hFm.blk (by omega) (heap_alloc_new _ _)
      obtain ⟨s, hs, hsz⟩ : ∃ s : ByteArray, wm.cell? ⟨wl.heap.size, z.toNat, none⟩ = some (.string s) ∧ s.size ≤ 1 := by
        have : z = 0 ∨ z = 1 ∨ z = 2 := by omega
        rcases this with rfl | rfl | rfl
        · exact ⟨_, blk_cell hbn 0, by decide⟩
        · exact ⟨_, blk_cell hbn 1, by decide⟩
        · exact ⟨_, blk_cell hbn 2, by decide⟩
      have Rm : Hid (Rd wm rb (p + 1 + 1)) := hRm
      have Fm : Hid (Fr rb w wm) := XA3.out.trans hFm
      have HBM : Hid _ := hbm
      have HSZ : Hid (s.size ≤ 1) := hsz
      have c0 := blk_cell hbm 0
      have c1 := blk_cell hbm 1
      have c2 := blk_cell hbm 2
      have c3 := blk_cell hbm 3
      have c4 := blk_cell hbm 4
      have g0 := blk_free hbm 0
      have g1 := blk_free hbm 1
      have g2 := blk_free hbm 2
      have g3 := blk_free hbm 3
      have g4 := blk_free hbm 4
      clear hRm hFm hbm hbn hsz XA3
      go_wp2_with fail
      have q5 := five_set HBM.out rfl (.int .i64 2) (.int .i64 0) (.string s) (.slice none 0 0) (.slice none 0 0)
      have hc0 := blk_cell q5 0
      have hc1 := blk_cell q5 1
      have hc2 := blk_cell q5 2
      have hc3 := blk_cell q5 3
      have hc4 := blk_cell q5 4
      simp only [setL, Nat.zero_add, Nat.reduceAdd] at hc0 hc1 hc2 hc3 hc4
      refine bodyPost_ret (v := .agg #[.int .i64 2, .int .i64 0, .string s, .slice none 0 0, .slice none 0 0]) (by simp [results, Tryd.results10, go_sem, hc0, hc1, hc2, hc3, hc4]) rfl ?_
      exact end_leaf Rm.out Fm.out (by omega) HSZ.out (by omega) (by omega) (by simp only [tq]; omega)
  | d + 1, D, rb, p, w, hD, hd, hp, hR => by
    have hrb := hR.blk
    have R0 : Hid (Rd (w.alloc (.cells #[.int .i64 0, .int .i64 0, .string ⟨#[]⟩, .slice none 0 0, .slice none 0 0] 28)) rb p) := hR.ex (Ex.new _ _)
    have F0 : Hid (Fr rb w (w.alloc (.cells #[.int .i64 0, .int .i64 0, .string ⟨#[]⟩, .slice none 0 0, .slice none 0 0] 28))) := (Fr.refl _ _).alloc _
    have B0 : Hid ((w.alloc (.cells #[.int .i64 0, .int .i64 0, .string ⟨#[]⟩, .slice none 0 0, .slice none 0 0] 28)).heap[w.heap.size]? = some (.cells #[.int .i64 0, .int .i64 0, .string ⟨#[]⟩, .slice none 0 0, .slice none 0 0] 28 (0, 0))) := heap_alloc_new _ _
    have I : Hid _ := l71Term_any d
    have HD : Hid (D = ((d + 1 + 1 : Nat) : Int)) := hD
    have e1 : decide (D < 2) = false := by simp; omega
    have hD1 : 2 ≤ D := by omega
    have hD2 : D ≤ 100 := by omega
    simp only [tq] at hp
    clear hR hD
    go_enter Tryd.func10, Tryd.ntmps10
    go_wp2_with fail
    refine (pick_any rb p 4 _ (by omega) (by omega) (by omega) R0.out).mono ?_
    rintro e w1 ⟨x, rfl, hx0, hx3, hR1, hF1⟩
    have R1 : Hid (Rd w1 rb (p + 1)) := hR1
    have F1 : Hid (Fr rb w w1) := F0.out.trans hF1
    have B1 : Hid (w1.heap[w.heap.size]? = some (.cells #[.int .i64 0, .int .i64 0, .string ⟨#[]⟩, .slice none 0 0, .slice none 0 0] 28 (0, 0))) := hF1.blk (by omega) B0.out
    clear hR1 hF1
    by_cases hx : x = 0
    · have e2 : (x == 0) = true := by rw [beq_iff_eq]; exact hx
      clear hx
      go_wp2_with fail
      refine (pick_any rb (p + 1) 3 _ (by omega) (by omega) (by omega) R1.out).mono ?_
      rintro e wl ⟨y, rfl, hy0, hy3, hRl, hFl⟩
      have hbl : wl.heap[w.heap.size]? = some (.cells #[.int .i64 0, .int .i64 0, .string ⟨#[]⟩, .slice none 0 0, .slice none 0 0] 28 (0, 0)) := hFl.blk (by omega) B1.out
      have Rl : Hid (Rd wl rb (p + 1 + 1)) := hRl
      have Fl : Hid (Fr rb w wl) := F1.out.trans hFl
      have HBL : Hid _ := hbl
      have zl : w.heap.size < wl.heap.size := lt_of_block hbl
      clear hRl hFl hbl
      by_cases hy : y = 0
      · have e3 : (y == 0) = true := by rw [beq_iff_eq]; exact hy
        clear hy
        go_wp2_with fail
        refine (pick_any rb (p + 1 + 1) 4 _ (by omega) (by omega) (by omega) Rl.out).mono ?_
        rintro e wm ⟨z, rfl, hz0, hz3, hRm, hFm⟩
        have hbm : wm.heap[w.heap.size]? = some (.cells #[.int .i64 0, .int .i64 0, .string ⟨#[]⟩, .slice none 0 0, .slice none 0 0] 28 (0, 0)) := hFm.blk (by omega) HBL.out
        have Rm : Hid (Rd wm rb (p + 1 + 1 + 1)) := hRm
        have Fm : Hid (Fr rb w wm) := Fl.out.trans hFm
        have HBM : Hid _ := hbm
        have c0 := blk_cell hbm 0
        have c1 := blk_cell hbm 1
        have c2 := blk_cell hbm 2
        have c3 := blk_cell hbm 3
        have c4 := blk_cell hbm 4
        have g0 := blk_free hbm 0
        have g1 := blk_free hbm 1
        have g2 := blk_free hbm 2
        have g3 := blk_free hbm 3
        have g4 := blk_free hbm 4
        clear hRm hFm hbm
        go_wp2_with fail
        have q5 := five_set HBM.out rfl (.int .i64 1) (.int .i64 z) (.string ⟨#[]⟩) (.slice none 0 0) (.slice none 0 0)
        have hc0 := blk_cell q5 0
        have hc1 := blk_cell q5 1
        have hc2 := blk_cell q5 2
        have hc3 := blk_cell q5 3
        have hc4 := blk_cell q5 4
        simp only [setL, Nat.zero_add, Nat.reduceAdd] at hc0 hc1 hc2 hc3 hc4
        refine bodyPost_ret (v := .agg #[.int .i64 1, .int .i64 z, .string ⟨#[]⟩, .slice none 0 0, .slice none 0 0]) (by simp [results, Tryd.results10, go_sem, hc0, hc1, hc2, hc3, hc4]) rfl ?_
        exact end_leaf Rm.out Fm.out (by omega) (by decide) (by omega) (by omega) (by simp only [tq]; omega)
      · have e3 : (y == 0) = false := by rw [beq_eq_false_iff_ne]; exact hy
        clear hy
        have XA3 : Hid (Fr rb w (wl.alloc (.cells #[.string ⟨#[97]⟩, .string ⟨#[98]⟩, .string ⟨#[99]⟩] 9))) := Fl.out.alloc _
        go_wp2_with fail
        refine (pick_any rb (p + 1 + 1) 3 _ (by omega) (by omega) (by omega) (Rl.out.ex (Ex.new _ _))).mono ?_
        rintro e wm ⟨z, rfl, hz0, hz3, hRm, hFm⟩
        have hbm : wm.heap[w.heap.size]? = some (.cells #[.int .i64 0, .int .i64 0, .string ⟨#[]⟩, .slice none 0 0, .slice none 0 0] 28 (0, 0)) := hFm.blk (by omega) ((Ex.new _ _).blk HBL.out)
        have hbn : wm.heap[wl.heap.size]? = some (.cells #[.string ⟨#[97]⟩, .string ⟨#[98]⟩, .string ⟨#[99]⟩] 9 (0, 0)) := hFm.blk (by omega) (heap_alloc_new _ _)
        obtain ⟨s, hs, hsz⟩ : ∃ s : ByteArray, wm.cell? ⟨wl.heap.size, z.toNat, none⟩ = some (.string s) ∧ s.size ≤ 1 := by
          have : z = 0 ∨ z = 1 ∨ z = 2 := by omega
          rcases this with rfl | rfl | rfl
          · exact ⟨_, blk_cell hbn 0, by decide⟩
          · exact ⟨_, blk_cell hbn 1, by decide⟩
          · exact ⟨_, blk_cell hbn 2, by decide⟩
        have Rm : Hid (Rd wm rb (p + 1 + 1 + 1)) := hRm
        have Fm : Hid (Fr rb w wm) := XA3.out.trans hFm
        have HBM : Hid _ := hbm
        have HSZ : Hid (s.size ≤ 1) := hsz
        have c0 := blk_cell hbm 0
        have c1 := blk_cell hbm 1
        have c2 := blk_cell hbm 2
        have c3 := blk_cell hbm 3
        have c4 := blk_cell hbm 4
        have g0 := blk_free hbm 0
        have g1 := blk_free hbm 1
        have g2 := blk_free hbm 2
        have g3 := blk_free hbm 3
        have g4 := blk_free hbm 4
        clear hRm hFm hbm hbn hsz XA3
        go_wp2_with fail
        have q5 := five_set HBM.out rfl (.int .i64 2) (.int .i64 0) (.string s) (.slice none 0 0) (.slice none 0 0)
        have hc0 := blk_cell q5 0
        have hc1 := blk_cell q5 1
        have hc2 := blk_cell q5 2
        have hc3 := blk_cell q5 3
        have hc4 := blk_cell q5 4
        simp only [setL, Nat.zero_add, Nat.reduceAdd] at hc0 hc1 hc2 hc3 hc4
        refine bodyPost_ret (v := .agg #[.int .i64 2, .int .i64 0, .string s, .slice none 0 0, .slice none 0 0]) (by simp [results, Tryd.results10, go_sem, hc0, hc1, hc2, hc3, hc4]) rfl ?_
        exact end_leaf Rm.out Fm.out (by omega) HSZ.out (by omega) (by omega) (by simp only [tq]; omega)
    · have e2 : (x == 0) = false := by rw [beq_eq_false_iff_ne]; exact hx
      clear hx
      go_wp2_with fail
      obtain ⟨i0, hi, hz0, hz1, hz2⟩ := info_parts Tryd.info3
      refine (pick_any rb (p + 1) 3 _ (by omega) (by omega) (by omega) (R1.out.ex (Ex.new _ _))).mono ?_
      rintro e w2 ⟨y, rfl, hy0, hy3, hR2, hF2⟩
      have z1 : w.heap.size < w1.heap.size := lt_of_block B1.out
      have O2 : Hid (Own w2 w1.heap.size (.slice (some ⟨w1.heap.size, 0, none⟩) 0 0) []) := (Own.made w1).keep (hF2.kp (by omega))
      have R2 : Hid (Rd w2 rb (p + 1 + 1)) := hR2
      have F2 : Hid (Fr rb w w2) := (F1.out.alloc _).trans hF2
      have B2 : Hid (w2.heap[w.heap.size]? = some (.cells #[.int .i64 0, .int .i64 0, .string ⟨#[]⟩, .slice none 0 0, .slice none 0 0] 28 (0, 0))) := hF2.blk (by omega) ((Ex.new _ _).blk B1.out)
      have ZZ2 : Hid (w1.heap.size ≤ w2.heap.size) := by have := hF2.size; rw [World.size_alloc] at this; show _ ≤ _; omega
      clear hR2 hF2 R0 F0 B0
      go_wp2_with fail
      go_loopw [5, 6] (fun pv nv wr => ∃ (m : Nat) (xs : List Int) (q : Nat), nv = .int .i64 m ∧ xs.length + m ≤ 2 ∧ Own wr w1.heap.size pv xs ∧ q + m ≤ p + 4 ∧ p + 2 ≤ q ∧ Rd wr rb q ∧ Fr rb w wr ∧ wr.heap[w.heap.size]? = some (.cells #[.int .i64 0, .int .i64 0, .string ⟨#[]⟩, .slice none 0 0, .slice none 0 0] 28 (0, 0)) ∧ w1.heap.size ≤ wr.heap.size) (fun _ nv _ => (intOf nv).toNat)
      case atStart => exact ⟨y.toNat, [], p + 1 + 1, by rw [Int.toNat_of_nonneg hy0], by simp only [List.length_nil]; omega, O2.out, by omega, by omega, R2.out, F2.out, B2.out, ZZ2.out⟩
      case round =>
        obtain ⟨m, xs, Q0, rfl, hxm, hown, hq1, hq2, hRr, hFr, hBr, hzr⟩ := hrel
        obtain ⟨xa, xc, rfl, _, _, _, _⟩ := hown.PA
        have OR : Hid (Own wr w1.heap.size (.slice xa xs.length xc) xs) := hown
        have RR : Hid (Rd wr rb Q0) := hRr
        have FR : Hid (Fr rb w wr) := hFr
        have BR : Hid (wr.heap[w.heap.size]? = some (.cells #[.int .i64 0, .int .i64 0, .string ⟨#[]⟩, .slice none 0 0, .slice none 0 0] 28 (0, 0))) := hBr
        clear hown hRr hFr hBr
        by_cases hm : 0 < m
        · have d1 : decide ((0 : Int) < (m : Int)) = true := decide_eq_true (by omega)
          have d2 : (0 : Int) < (m : Int) := by omega
          go_wp2_with fail
          refine (pick_any rb Q0 2 _ (by omega) (by omega) (by omega) RR.out).mono ?_
          rintro e w3 ⟨z, rfl, hz0', hz3, hR3, hF3⟩
          have OA : Hid (Own w3 w1.heap.size (.slice xa xs.length xc) xs) := OR.out.keep (hF3.kp (by omega))
          have RA : Hid (Rd w3 rb (Q0 + 1)) := hR3
          have FA : Hid (Fr rb w w3) := FR.out.trans hF3
          have BA' : Hid (w3.heap[w.heap.size]? = some (.cells #[.int .i64 0, .int .i64 0, .string ⟨#[]⟩, .slice none 0 0, .slice none 0 0] 28 (0, 0))) := hF3.blk (by omega) BR.out
          have zA : w1.heap.size ≤ w3.heap.size := by have := hF3.size; omega
          clear hR3 hF3
          go_wp2_with (at_builtin; refine wpList_append_own _ rfl _ _ 25 rfl w1.heap.size 3 i0 (.int .i64 0) 1 8 Tryd.underlying25 hi hz0 hz1 hz2 rfl (by decide) (.slice xa xs.length xc) xs.length (xs.map (Value.int .i64)) rfl (World.ownsRow.alloc OA.out _) ⟨w3.heap.size, 0, none⟩ 1 1 [.int .i64 z] rfl rfl ?c1 ?c2 ?c3 ?c4 ?c5 ?_)
          case c1 => intro j u hj; match j, hj with | 0, hj => simp at hj; subst hj; simp [Addr.add]
          case c2 => intro u hu; simp at hu; subst hu; rfl
          case c3 => unfold maxLen; omega
          case c4 => omega
          case c5 => rw [World.size_alloc]; omega
          intro v' w4 hown4 hgrow _
          have hbl : Below w1.heap.size w3 w4 := ((Below.refl _ w3).alloc (by omega) _).grown hgrow (by rw [World.size_alloc]; omega) OA.out.row
          have O4 : Hid (Own w4 w1.heap.size v' (xs ++ [z])) := by
            show World.ownsRow _ _ _ _ _ _ _
            rw [List.length_append, List.map_append]; exact hown4
          have R4 : Hid (Rd w4 rb (Q0 + 1)) := RA.out.below hbl (by omega)
          have F4 : Hid (Fr rb w w4) := FA.out.below hbl (by omega)
          have B4 : Hid (w4.heap[w.heap.size]? = some (.cells #[.int .i64 0, .int .i64 0, .string ⟨#[]⟩, .slice none 0 0, .slice none 0 0] 28 (0, 0))) := (hbl.block w.heap.size (by omega)).trans BA'.out
          have ZA4 : Hid (w1.heap.size ≤ w4.heap.size) := by have := hbl.size; show _ ≤ _; omega
          clear hown4 hgrow hbl
          go_wp2_with fail
          go_roundw
          case rel => exact ⟨m - 1, xs ++ [z], Q0 + 1, by go_num, by simp only [List.length_append, List.length_cons, List.length_nil]; omega, O4.out, by omega, by omega, R4.out, F4.out, B4.out, ZA4.out⟩
          case measure => simp [intOf]; omega
        · have d1 : decide ((0 : Int) < (m : Int)) = false := decide_eq_false (by omega)
          have d3 : decide (0 < m) = false := decide_eq_false hm
          have XL : Hid (xs.length ≤ 2) := by show _ ≤ _; omega
          obtain ⟨base, hbase⟩ : ∃ base, base = w1.heap.size := ⟨_, rfl⟩
          have zb : w.heap.size < base := by omega
          rw [← hbase] at OR
          clear hbase hxm
          go_wp2_with fail
          refine (pick_any rb Q0 6 _ (by omega) (by omega) (by omega) RR.out).mono ?_
          rintro e u0 ⟨y6, rfl, h60, h66, hRu, hFu⟩
          obtain ⟨Q, hQ⟩ : ∃ Q, Q = Q0 + 1 := ⟨_, rfl⟩
          rw [← hQ] at hRu
          have R0u : Hid (Rd u0 rb Q) := hRu
          have OP : Hid (Own u0 base (.slice xa xs.length xc) xs) := OR.out.keep (hFu.kp (by omega))
          have F0u : Hid (Fr rb w u0) := FR.out.trans hFu
          have B0u : Hid (u0.heap[w.heap.size]? = some (.cells #[.int .i64 0, .int .i64 0, .string ⟨#[]⟩, .slice none 0 0, .slice none 0 0] 28 (0, 0))) := hFu.blk (by omega) BR.out
          have zu : w.heap.size < u0.heap.size := lt_of_block B0u.out
          have tqd : 0 ≤ tq d := Nat.zero_le _
          clear hRu hFu OR RR FR BR R1 F1 B1 R2 F2 B2 O2
          have h6 : y6 = 0 ∨ y6 = 1 ∨ y6 = 2 ∨ y6 = 3 ∨ y6 = 4 ∨ y6 = 5 := by omega
          clear h60 h66
          rcases h6 with rfl | rfl | rfl | rfl | rfl | rfl
          · go_wp2_with fail
            refine (I.out (D - 1) rb Q _ (by have := HD.out; omega) (by omega) (by omega) R0u.out).mono ?_
            rintro e u1 ⟨k0, n0, s0, x0, xa0, xc0, f0, fa0, fc0, q0, rfl, hO, hM, hT, hq0, hq0', hR, hF⟩
            have Ok0 : Hid (Own u1 u0.heap.size (.slice xa0 x0.length xc0) x0) := hO
            have Mk0 : Hid (MS u1 (fun b => u0.heap.size ≤ b ∧ (Value.slice xa0 x0.length xc0).ownBlock ≠ some b) f0 fa0) := hM
            have Tk0 : Hid (Tg (d + 1) s0 x0 f0) := hT
            have Ru1 : Hid (Rd u1 rb q0) := hR
            have Fk0 : Hid (Fr rb u0 u1) := hF
            have zz0 : u0.heap.size ≤ u1.heap.size := hF.size
            clear hO hM hT hR hF
            have FW : Hid (Fr rb w u1) := F0u.out.trans Fk0.out
            have hbu : u1.heap[w.heap.size]? = some (.cells #[.int .i64 0, .int .i64 0, .string ⟨#[]⟩, .slice none 0 0, .slice none 0 0] 28 (0, 0)) := Fk0.out.blk (by omega) B0u.out
            have HBU : Hid _ := hbu
            have OPu : Hid (Own u1 base (.slice xa xs.length xc) xs) := OP.out.keep (Fk0.out.kp (by omega))
            have c0 := blk_cell hbu 0
            have c1 := blk_cell hbu 1
            have c2 := blk_cell hbu 2
            have c3 := blk_cell hbu 3
            have c4 := blk_cell hbu 4
            have g0 := blk_free hbu 0
            have g1 := blk_free hbu 1
            have g2 := blk_free hbu 2
            have g3 := blk_free hbu 3
            have g4 := blk_free hbu 4
            have zf : w.heap.size < u1.heap.size := lt_of_block hbu
            clear hbu
            go_wp2_with fail
            have q5 := five_set HBU.out rfl (.int .i64 7) (.int .i64 0) (.string ⟨#[]⟩) (.slice xa xs.length xc) (.slice (some ⟨u1.heap.size, 0, none⟩) 1 1)
            have q5 := (Ex.new _ ((.cells #[.int .i64 k0, .int .i64 n0, .string s0, .slice xa0 x0.length xc0, .slice fa0 (tlen f0) fc0] 28))).blk q5
            have hc0 := blk_cell q5 0
            have hc1 := blk_cell q5 1
            have hc2 := blk_cell q5 2
            have hc3 := blk_cell q5 3
            have hc4 := blk_cell q5 4
            simp only [setL, Nat.zero_add, Nat.reduceAdd] at hc0 hc1 hc2 hc3 hc4
            refine bodyPost_ret (v := .agg #[.int .i64 7, .int .i64 0, .string ⟨#[]⟩, .slice xa xs.length xc, .slice (some ⟨u1.heap.size, 0, none⟩) 1 1]) (by simp [results, Tryd.results10, go_sem, hc0, hc1, hc2, hc3, hc4]) rfl ?_
            have hsz : (setL u1 w.heap.size 0 [.int .i64 7, .int .i64 0, .string ⟨#[]⟩, .slice xa xs.length xc, .slice (some ⟨u1.heap.size, 0, none⟩) 1 1]).heap.size = u1.heap.size := setL_size _ _ _ _
            have km0 := kid_mv (Wf := ((setL u1 w.heap.size 0 [.int .i64 7, .int .i64 0, .string ⟨#[]⟩, .slice xa xs.length xc, .slice (some ⟨u1.heap.size, 0, none⟩) 1 1]).alloc (.cells #[.int .i64 k0, .int .i64 n0, .string s0, .slice xa0 x0.length xc0, .slice fa0 (tlen f0) fc0] 28))) (m := w.heap.size) (pv := .slice xa xs.length xc) Ok0.out Mk0.out ((setL_kp _ (Kp.refl _ _) (Or.inl (by omega))).alloc _) (by omega) (fun k hk => Nat.lt_of_lt_of_le (OP.out.lt k hk).2 (by omega))
            have hms := MS_one (w := ((setL u1 w.heap.size 0 [.int .i64 7, .int .i64 0, .string ⟨#[]⟩, .slice xa xs.length xc, .slice (some ⟨u1.heap.size, 0, none⟩) 1 1]).alloc (.cells #[.int .i64 k0, .int .i64 n0, .string s0, .slice xa0 x0.length xc0, .slice fa0 (tlen f0) fc0] 28))) (g := u1.heap.size) (heap_alloc_at _ _ hsz.symm) (S := fun b => w.heap.size ≤ b ∧ (Value.slice xa xs.length xc).ownBlock ≠ some b) ⟨by omega, (fun e => by have := (OPu.out.lt _ e).2; omega)⟩ km0.1 km0.2.1 km0.2.2
            exact end_in (xs := xs) (f := (.node 0 0 (k0, n0, s0, x0) f0 .nil)) (by simp only [setL, Nat.zero_add, Nat.reduceAdd]; rfl) OPu.out (by omega) hms (Tk0.out.one (by decide) XL.out) Ru1.out FW.out (by omega) (by omega) (by simp only [tq]; omega)
          · go_wp2_with fail
            refine (I.out (D - 1) rb Q _ (by have := HD.out; omega) (by omega) (by omega) R0u.out).mono ?_
            rintro e u1 ⟨k0, n0, s0, x0, xa0, xc0, f0, fa0, fc0, q0, rfl, hO, hM, hT, hq0, hq0', hR, hF⟩
            have Ok0 : Hid (Own u1 u0.heap.size (.slice xa0 x0.length xc0) x0) := hO
            have Mk0 : Hid (MS u1 (fun b => u0.heap.size ≤ b ∧ (Value.slice xa0 x0.length xc0).ownBlock ≠ some b) f0 fa0) := hM
            have Tk0 : Hid (Tg (d + 1) s0 x0 f0) := hT
            have Ru1 : Hid (Rd u1 rb q0) := hR
            have Fk0 : Hid (Fr rb u0 u1) := hF
            have zz0 : u0.heap.size ≤ u1.heap.size := hF.size
            clear hO hM hT hR hF
            have FW : Hid (Fr rb w u1) := F0u.out.trans Fk0.out
            have hbu : u1.heap[w.heap.size]? = some (.cells #[.int .i64 0, .int .i64 0, .string ⟨#[]⟩, .slice none 0 0, .slice none 0 0] 28 (0, 0)) := Fk0.out.blk (by omega) B0u.out
            have HBU : Hid _ := hbu
            have OPu : Hid (Own u1 base (.slice xa xs.length xc) xs) := OP.out.keep (Fk0.out.kp (by omega))
            have c0 := blk_cell hbu 0
            have c1 := blk_cell hbu 1
            have c2 := blk_cell hbu 2
            have c3 := blk_cell hbu 3
            have c4 := blk_cell hbu 4
            have g0 := blk_free hbu 0
            have g1 := blk_free hbu 1
            have g2 := blk_free hbu 2
            have g3 := blk_free hbu 3
            have g4 := blk_free hbu 4
            have zf : w.heap.size < u1.heap.size := lt_of_block hbu
            clear hbu
            go_wp2_with fail
            have q5 := five_set HBU.out rfl (.int .i64 7) (.int .i64 0) (.string ⟨#[]⟩) (.slice xa xs.length xc) (.slice (some ⟨u1.heap.size, 0, none⟩) 1 1)
            have q5 := (Ex.new _ ((.cells #[.int .i64 k0, .int .i64 n0, .string s0, .slice xa0 x0.length xc0, .slice fa0 (tlen f0) fc0] 28))).blk q5
            have hc0 := blk_cell q5 0
            have hc1 := blk_cell q5 1
            have hc2 := blk_cell q5 2
            have hc3 := blk_cell q5 3
            have hc4 := blk_cell q5 4
            simp only [setL, Nat.zero_add, Nat.reduceAdd] at hc0 hc1 hc2 hc3 hc4
            refine bodyPost_ret (v := .agg #[.int .i64 7, .int .i64 0, .string ⟨#[]⟩, .slice xa xs.length xc, .slice (some ⟨u1.heap.size, 0, none⟩) 1 1]) (by simp [results, Tryd.results10, go_sem, hc0, hc1, hc2, hc3, hc4]) rfl ?_
            have hsz : (setL u1 w.heap.size 0 [.int .i64 7, .int .i64 0, .string ⟨#[]⟩, .slice xa xs.length xc, .slice (some ⟨u1.heap.size, 0, none⟩) 1 1]).heap.size = u1.heap.size := setL_size _ _ _ _
            have km0 := kid_mv (Wf := ((setL u1 w.heap.size 0 [.int .i64 7, .int .i64 0, .string ⟨#[]⟩, .slice xa xs.length xc, .slice (some ⟨u1.heap.size, 0, none⟩) 1 1]).alloc (.cells #[.int .i64 k0, .int .i64 n0, .string s0, .slice xa0 x0.length xc0, .slice fa0 (tlen f0) fc0] 28))) (m := w.heap.size) (pv := .slice xa xs.length xc) Ok0.out Mk0.out ((setL_kp _ (Kp.refl _ _) (Or.inl (by omega))).alloc _) (by omega) (fun k hk => Nat.lt_of_lt_of_le (OP.out.lt k hk).2 (by omega))
            have hms := MS_one (w := ((setL u1 w.heap.size 0 [.int .i64 7, .int .i64 0, .string ⟨#[]⟩, .slice xa xs.length xc, .slice (some ⟨u1.heap.size, 0, none⟩) 1 1]).alloc (.cells #[.int .i64 k0, .int .i64 n0, .string s0, .slice xa0 x0.length xc0, .slice fa0 (tlen f0) fc0] 28))) (g := u1.heap.size) (heap_alloc_at _ _ hsz.symm) (S := fun b => w.heap.size ≤ b ∧ (Value.slice xa xs.length xc).ownBlock ≠ some b) ⟨by omega, (fun e => by have := (OPu.out.lt _ e).2; omega)⟩ km0.1 km0.2.1 km0.2.2
            exact end_in (xs := xs) (f := (.node 0 0 (k0, n0, s0, x0) f0 .nil)) (by simp only [setL, Nat.zero_add, Nat.reduceAdd]; rfl) OPu.out (by omega) hms (Tk0.out.one (by decide) XL.out) Ru1.out FW.out (by omega) (by omega) (by simp only [tq]; omega)
          · go_wp2_with fail
            refine (I.out (D - 1) rb Q _ (by have := HD.out; omega) (by omega) (by omega) R0u.out).mono ?_
            rintro e u1 ⟨k0, n0, s0, x0, xa0, xc0, f0, fa0, fc0, q0, rfl, hO, hM, hT, hq0, hq0', hR, hF⟩
            have Ok0 : Hid (Own u1 u0.heap.size (.slice xa0 x0.length xc0) x0) := hO
            have Mk0 : Hid (MS u1 (fun b => u0.heap.size ≤ b ∧ (Value.slice xa0 x0.length xc0).ownBlock ≠ some b) f0 fa0) := hM
            have Tk0 : Hid (Tg (d + 1) s0 x0 f0) := hT
            have Ru1 : Hid (Rd u1 rb q0) := hR
            have Fk0 : Hid (Fr rb u0 u1) := hF
            have zz0 : u0.heap.size ≤ u1.heap.size := hF.size
            clear hO hM hT hR hF
            go_wp2_with fail
            refine (I.out (D - 1) rb q0 _ (by have := HD.out; omega) (by omega) (by omega) Ru1.out).mono ?_
            rintro e u2 ⟨k1, n1, s1, x1, xa1, xc1, f1, fa1, fc1, q1, rfl, hO, hM, hT, hq1, hq1', hR, hF⟩
            have Ok1 : Hid (Own u2 u1.heap.size (.slice xa1 x1.length xc1) x1) := hO
            have Mk1 : Hid (MS u2 (fun b => u1.heap.size ≤ b ∧ (Value.slice xa1 x1.length xc1).ownBlock ≠ some b) f1 fa1) := hM
            have Tk1 : Hid (Tg (d + 1) s1 x1 f1) := hT
            have Ru2 : Hid (Rd u2 rb q1) := hR
            have Fk1 : Hid (Fr rb u1 u2) := hF
            have zz1 : u1.heap.size ≤ u2.heap.size := hF.size
            clear hO hM hT hR hF
            have FW : Hid (Fr rb w u2) := F0u.out.trans (Fk0.out.trans Fk1.out)
            have hbu : u2.heap[w.heap.size]? = some (.cells #[.int .i64 0, .int .i64 0, .string ⟨#[]⟩, .slice none 0 0, .slice none 0 0] 28 (0, 0)) := (Fk0.out.trans Fk1.out).blk (by omega) B0u.out
            have HBU : Hid _ := hbu
            have OPu : Hid (Own u2 base (.slice xa xs.length xc) xs) := OP.out.keep ((Fk0.out.trans Fk1.out).kp (by omega))
            have c0 := blk_cell hbu 0
            have c1 := blk_cell hbu 1
            have c2 := blk_cell hbu 2
            have c3 := blk_cell hbu 3
            have c4 := blk_cell hbu 4
            have g0 := blk_free hbu 0
            have g1 := blk_free hbu 1
            have g2 := blk_free hbu 2
            have g3 := blk_free hbu 3
            have g4 := blk_free hbu 4
            have zf : w.heap.size < u2.heap.size := lt_of_block hbu
            clear hbu
            go_wp2_with fail
            have q5 := five_set HBU.out rfl (.int .i64 8) (.int .i64 0) (.string ⟨#[]⟩) (.slice xa xs.length xc) (.slice (some ⟨u2.heap.size, 0, none⟩) 2 2)
            have q5 := (Ex.new _ ((.cells #[.int .i64 k0, .int .i64 n0, .string s0, .slice xa0 x0.length xc0, .slice fa0 (tlen f0) fc0, .int .i64 k1, .int .i64 n1, .string s1, .slice xa1 x1.length xc1, .slice fa1 (tlen f1) fc1] 28))).blk q5
            have hc0 := blk_cell q5 0
            have hc1 := blk_cell q5 1
            have hc2 := blk_cell q5 2
            have hc3 := blk_cell q5 3
            have hc4 := blk_cell q5 4
            simp only [setL, Nat.zero_add, Nat.reduceAdd] at hc0 hc1 hc2 hc3 hc4
            refine bodyPost_ret (v := .agg #[.int .i64 8, .int .i64 0, .string ⟨#[]⟩, .slice xa xs.length xc, .slice (some ⟨u2.heap.size, 0, none⟩) 2 2]) (by simp [results, Tryd.results10, go_sem, hc0, hc1, hc2, hc3, hc4]) rfl ?_
            have hsz : (setL u2 w.heap.size 0 [.int .i64 8, .int .i64 0, .string ⟨#[]⟩, .slice xa xs.length xc, .slice (some ⟨u2.heap.size, 0, none⟩) 2 2]).heap.size = u2.heap.size := setL_size _ _ _ _
            have km0 := kid_mv (Wf := ((setL u2 w.heap.size 0 [.int .i64 8, .int .i64 0, .string ⟨#[]⟩, .slice xa xs.length xc, .slice (some ⟨u2.heap.size, 0, none⟩) 2 2]).alloc (.cells #[.int .i64 k0, .int .i64 n0, .string s0, .slice xa0 x0.length xc0, .slice fa0 (tlen f0) fc0, .int .i64 k1, .int .i64 n1, .string s1, .slice xa1 x1.length xc1, .slice fa1 (tlen f1) fc1] 28))) (m := w.heap.size) (pv := .slice xa xs.length xc) Ok0.out Mk0.out ((Fk1.out.kp (by omega)).trans ((setL_kp _ (Kp.refl _ _) (Or.inl (by omega))).alloc _)) (by omega) (fun k hk => Nat.lt_of_lt_of_le (OP.out.lt k hk).2 (by omega))
            have km1 := kid_mv (Wf := ((setL u2 w.heap.size 0 [.int .i64 8, .int .i64 0, .string ⟨#[]⟩, .slice xa xs.length xc, .slice (some ⟨u2.heap.size, 0, none⟩) 2 2]).alloc (.cells #[.int .i64 k0, .int .i64 n0, .string s0, .slice xa0 x0.length xc0, .slice fa0 (tlen f0) fc0, .int .i64 k1, .int .i64 n1, .string s1, .slice xa1 x1.length xc1, .slice fa1 (tlen f1) fc1] 28))) (m := w.heap.size) (pv := .slice xa xs.length xc) Ok1.out Mk1.out ((setL_kp _ (Kp.refl _ _) (Or.inl (by omega))).alloc _) (by omega) (fun k hk => Nat.lt_of_lt_of_le (OP.out.lt k hk).2 (by omega))
            have hms := MS_two (w := ((setL u2 w.heap.size 0 [.int .i64 8, .int .i64 0, .string ⟨#[]⟩, .slice xa xs.length xc, .slice (some ⟨u2.heap.size, 0, none⟩) 2 2]).alloc (.cells #[.int .i64 k0, .int .i64 n0, .string s0, .slice xa0 x0.length xc0, .slice fa0 (tlen f0) fc0, .int .i64 k1, .int .i64 n1, .string s1, .slice xa1 x1.length xc1, .slice fa1 (tlen f1) fc1] 28))) (g := u2.heap.size) (heap_alloc_at _ _ hsz.symm) (S := fun b => w.heap.size ≤ b ∧ (Value.slice xa xs.length xc).ownBlock ≠ some b) ⟨by omega, (fun e => by have := (OPu.out.lt _ e).2; omega)⟩ km0.1 km0.2.1 km0.2.2 km1.1 km1.2.1 km1.2.2
            exact end_in (xs := xs) (f := (.node 0 0 (k0, n0, s0, x0) f0 (.node 0 0 (k1, n1, s1, x1) f1 .nil))) (by simp only [setL, Nat.zero_add, Nat.reduceAdd]; rfl) OPu.out (by omega) hms (Tk0.out.two Tk1.out (by decide) XL.out) Ru2.out FW.out (by omega) (by omega) (by simp only [tq]; omega)
          · go_wp2_with fail
            refine (I.out (D - 1) rb Q _ (by have := HD.out; omega) (by omega) (by omega) R0u.out).mono ?_
            rintro e u1 ⟨k0, n0, s0, x0, xa0, xc0, f0, fa0, fc0, q0, rfl, hO, hM, hT, hq0, hq0', hR, hF⟩
            have Ok0 : Hid (Own u1 u0.heap.size (.slice xa0 x0.length xc0) x0) := hO
            have Mk0 : Hid (MS u1 (fun b => u0.heap.size ≤ b ∧ (Value.slice xa0 x0.length xc0).ownBlock ≠ some b) f0 fa0) := hM
            have Tk0 : Hid (Tg (d + 1) s0 x0 f0) := hT
            have Ru1 : Hid (Rd u1 rb q0) := hR
            have Fk0 : Hid (Fr rb u0 u1) := hF
            have zz0 : u0.heap.size ≤ u1.heap.size := hF.size
            clear hO hM hT hR hF
            go_wp2_with fail
            refine (I.out (D - 1) rb q0 _ (by have := HD.out; omega) (by omega) (by omega) Ru1.out).mono ?_
            rintro e u2 ⟨k1, n1, s1, x1, xa1, xc1, f1, fa1, fc1, q1, rfl, hO, hM, hT, hq1, hq1', hR, hF⟩
            have Ok1 : Hid (Own u2 u1.heap.size (.slice xa1 x1.length xc1) x1) := hO
            have Mk1 : Hid (MS u2 (fun b => u1.heap.size ≤ b ∧ (Value.slice xa1 x1.length xc1).ownBlock ≠ some b) f1 fa1) := hM
            have Tk1 : Hid (Tg (d + 1) s1 x1 f1) := hT
            have Ru2 : Hid (Rd u2 rb q1) := hR
            have Fk1 : Hid (Fr rb u1 u2) := hF
            have zz1 : u1.heap.size ≤ u2.heap.size := hF.size
            clear hO hM hT hR hF
            have FW : Hid (Fr rb w u2) := F0u.out.trans (Fk0.out.trans Fk1.out)
            have hbu : u2.heap[w.heap.size]? = some (.cells #[.int .i64 0, .int .i64 0, .string ⟨#[]⟩, .slice none 0 0, .slice none 0 0] 28 (0, 0)) := (Fk0.out.trans Fk1.out).blk (by omega) B0u.out
            have HBU : Hid _ := hbu
            have OPu : Hid (Own u2 base (.slice xa xs.length xc) xs) := OP.out.keep ((Fk0.out.trans Fk1.out).kp (by omega))
            have c0 := blk_cell hbu 0
            have c1 := blk_cell hbu 1
            have c2 := blk_cell hbu 2
            have c3 := blk_cell hbu 3
            have c4 := blk_cell hbu 4
            have g0 := blk_free hbu 0
            have g1 := blk_free hbu 1
            have g2 := blk_free hbu 2
            have g3 := blk_free hbu 3
            have g4 := blk_free hbu 4
            have zf : w.heap.size < u2.heap.size := lt_of_block hbu
            clear hbu
            go_wp2_with fail
            have q5 := five_set HBU.out rfl (.int .i64 8) (.int .i64 0) (.string ⟨#[]⟩) (.slice xa xs.length xc) (.slice (some ⟨u2.heap.size, 0, none⟩) 2 2)
            have q5 := (Ex.new _ ((.cells #[.int .i64 k0, .int .i64 n0, .string s0, .slice xa0 x0.length xc0, .slice fa0 (tlen f0) fc0, .int .i64 k1, .int .i64 n1, .string s1, .slice xa1 x1.length xc1, .slice fa1 (tlen f1) fc1] 28))).blk q5
            have hc0 := blk_cell q5 0
            have hc1 := blk_cell q5 1
            have hc2 := blk_cell q5 2
            have hc3 := blk_cell q5 3
            have hc4 := blk_cell q5 4
            simp only [setL, Nat.zero_add, Nat.reduceAdd] at hc0 hc1 hc2 hc3 hc4
            refine bodyPost_ret (v := .agg #[.int .i64 8, .int .i64 0, .string ⟨#[]⟩, .slice xa xs.length xc, .slice (some ⟨u2.heap.size, 0, none⟩) 2 2]) (by simp [results, Tryd.results10, go_sem, hc0, hc1, hc2, hc3, hc4]) rfl ?_
            have hsz : (setL u2 w.heap.size 0 [.int .i64 8, .int .i64 0, .string ⟨#[]⟩, .slice xa xs.length xc, .slice (some ⟨u2.heap.size, 0, none⟩) 2 2]).heap.size = u2.heap.size := setL_size _ _ _ _
            have km0 := kid_mv (Wf := ((setL u2 w.heap.size 0 [.int .i64 8, .int .i64 0, .string ⟨#[]⟩, .slice xa xs.length xc, .slice (some ⟨u2.heap.size, 0, none⟩) 2 2]).alloc (.cells #[.int .i64 k0, .int .i64 n0, .string s0, .slice xa0 x0.length xc0, .slice fa0 (tlen f0) fc0, .int .i64 k1, .int .i64 n1, .string s1, .slice xa1 x1.length xc1, .slice fa1 (tlen f1) fc1] 28))) (m := w.heap.size) (pv := .slice xa xs.length xc) Ok0.out Mk0.out ((Fk1.out.kp (by omega)).trans ((setL_kp _ (Kp.refl _ _) (Or.inl (by omega))).alloc _)) (by omega) (fun k hk => Nat.lt_of_lt_of_le (OP.out.lt k hk).2 (by omega))
            have km1 := kid_mv (Wf := ((setL u2 w.heap.size 0 [.int .i64 8, .int .i64 0, .string ⟨#[]⟩, .slice xa xs.length xc, .slice (some ⟨u2.heap.size, 0, none⟩) 2 2]).alloc (.cells #[.int .i64 k0, .int .i64 n0, .string s0, .slice xa0 x0.length xc0, .slice fa0 (tlen f0) fc0, .int .i64 k1, .int .i64 n1, .string s1, .slice xa1 x1.length xc1, .slice fa1 (tlen f1) fc1] 28))) (m := w.heap.size) (pv := .slice xa xs.length xc) Ok1.out Mk1.out ((setL_kp _ (Kp.refl _ _) (Or.inl (by omega))).alloc _) (by omega) (fun k hk => Nat.lt_of_lt_of_le (OP.out.lt k hk).2 (by omega))
            have hms := MS_two (w := ((setL u2 w.heap.size 0 [.int .i64 8, .int .i64 0, .string ⟨#[]⟩, .slice xa xs.length xc, .slice (some ⟨u2.heap.size, 0, none⟩) 2 2]).alloc (.cells #[.int .i64 k0, .int .i64 n0, .string s0, .slice xa0 x0.length xc0, .slice fa0 (tlen f0) fc0, .int .i64 k1, .int .i64 n1, .string s1, .slice xa1 x1.length xc1, .slice fa1 (tlen f1) fc1] 28))) (g := u2.heap.size) (heap_alloc_at _ _ hsz.symm) (S := fun b => w.heap.size ≤ b ∧ (Value.slice xa xs.length xc).ownBlock ≠ some b) ⟨by omega, (fun e => by have := (OPu.out.lt _ e).2; omega)⟩ km0.1 km0.2.1 km0.2.2 km1.1 km1.2.1 km1.2.2
            exact end_in (xs := xs) (f := (.node 0 0 (k0, n0, s0, x0) f0 (.node 0 0 (k1, n1, s1, x1) f1 .nil))) (by simp only [setL, Nat.zero_add, Nat.reduceAdd]; rfl) OPu.out (by omega) hms (Tk0.out.two Tk1.out (by decide) XL.out) Ru2.out FW.out (by omega) (by omega) (by simp only [tq]; omega)
          · go_wp2_with fail
            refine (I.out (D - 1) rb Q _ (by have := HD.out; omega) (by omega) (by omega) R0u.out).mono ?_
            rintro e u1 ⟨k0, n0, s0, x0, xa0, xc0, f0, fa0, fc0, q0, rfl, hO, hM, hT, hq0, hq0', hR, hF⟩
            have Ok0 : Hid (Own u1 u0.heap.size (.slice xa0 x0.length xc0) x0) := hO
            have Mk0 : Hid (MS u1 (fun b => u0.heap.size ≤ b ∧ (Value.slice xa0 x0.length xc0).ownBlock ≠ some b) f0 fa0) := hM
            have Tk0 : Hid (Tg (d + 1) s0 x0 f0) := hT
            have Ru1 : Hid (Rd u1 rb q0) := hR
            have Fk0 : Hid (Fr rb u0 u1) := hF
            have zz0 : u0.heap.size ≤ u1.heap.size := hF.size
            clear hO hM hT hR hF
            go_wp2_with fail
            refine (I.out (D - 1) rb q0 _ (by have := HD.out; omega) (by omega) (by omega) Ru1.out).mono ?_
            rintro e u2 ⟨k1, n1, s1, x1, xa1, xc1, f1, fa1, fc1, q1, rfl, hO, hM, hT, hq1, hq1', hR, hF⟩
            have Ok1 : Hid (Own u2 u1.heap.size (.slice xa1 x1.length xc1) x1) := hO
            have Mk1 : Hid (MS u2 (fun b => u1.heap.size ≤ b ∧ (Value.slice xa1 x1.length xc1).ownBlock ≠ some b) f1 fa1) := hM
            have Tk1 : Hid (Tg (d + 1) s1 x1 f1) := hT
            have Ru2 : Hid (Rd u2 rb q1) := hR
            have Fk1 : Hid (Fr rb u1 u2) := hF
            have zz1 : u1.heap.size ≤ u2.heap.size := hF.size
            clear hO hM hT hR hF
            have FW : Hid (Fr rb w u2) := F0u.out.trans (Fk0.out.trans Fk1.out)
            have hbu : u2.heap[w.heap.size]? = some (.cells #[.int .i64 0, .int .i64 0, .string ⟨#[]⟩, .slice none 0 0, .slice none 0 0] 28 (0, 0)) := (Fk0.out.trans Fk1.out).blk (by omega) B0u.out
            have HBU : Hid _ := hbu
            have c0 := blk_cell hbu 0
            have c1 := blk_cell hbu 1
            have c2 := blk_cell hbu 2
            have c3 := blk_cell hbu 3
            have c4 := blk_cell hbu 4
            have g0 := blk_free hbu 0
            have g1 := blk_free hbu 1
            have g2 := blk_free hbu 2
            have g3 := blk_free hbu 3
            have g4 := blk_free hbu 4
            have zf : w.heap.size < u2.heap.size := lt_of_block hbu
            clear hbu
            go_wp2_with fail
            have q5 := five_set HBU.out rfl (.int .i64 6) (.int .i64 0) (.string ⟨#[]⟩) (.slice none 0 0) (.slice (some ⟨u2.heap.size, 0, none⟩) 2 2)
            have q5 := (Ex.new _ ((.cells #[.int .i64 k0, .int .i64 n0, .string s0, .slice xa0 x0.length xc0, .slice fa0 (tlen f0) fc0, .int .i64 k1, .int .i64 n1, .string s1, .slice xa1 x1.length xc1, .slice fa1 (tlen f1) fc1] 28))).blk q5
            have hc0 := blk_cell q5 0
            have hc1 := blk_cell q5 1
            have hc2 := blk_cell q5 2
            have hc3 := blk_cell q5 3
            have hc4 := blk_cell q5 4
            simp only [setL, Nat.zero_add, Nat.reduceAdd] at hc0 hc1 hc2 hc3 hc4
            refine bodyPost_ret (v := .agg #[.int .i64 6, .int .i64 0, .string ⟨#[]⟩, .slice none 0 0, .slice (some ⟨u2.heap.size, 0, none⟩) 2 2]) (by simp [results, Tryd.results10, go_sem, hc0, hc1, hc2, hc3, hc4]) rfl ?_
            have hsz : (setL u2 w.heap.size 0 [.int .i64 6, .int .i64 0, .string ⟨#[]⟩, .slice none 0 0, .slice (some ⟨u2.heap.size, 0, none⟩) 2 2]).heap.size = u2.heap.size := setL_size _ _ _ _
            have km0 := kid_mv (Wf := ((setL u2 w.heap.size 0 [.int .i64 6, .int .i64 0, .string ⟨#[]⟩, .slice none 0 0, .slice (some ⟨u2.heap.size, 0, none⟩) 2 2]).alloc (.cells #[.int .i64 k0, .int .i64 n0, .string s0, .slice xa0 x0.length xc0, .slice fa0 (tlen f0) fc0, .int .i64 k1, .int .i64 n1, .string s1, .slice xa1 x1.length xc1, .slice fa1 (tlen f1) fc1] 28))) (m := w.heap.size) (pv := .slice none 0 0) Ok0.out Mk0.out ((Fk1.out.kp (by omega)).trans ((setL_kp _ (Kp.refl _ _) (Or.inl (by omega))).alloc _)) (by omega) (fun k hk => (by cases hk))
            have km1 := kid_mv (Wf := ((setL u2 w.heap.size 0 [.int .i64 6, .int .i64 0, .string ⟨#[]⟩, .slice none 0 0, .slice (some ⟨u2.heap.size, 0, none⟩) 2 2]).alloc (.cells #[.int .i64 k0, .int .i64 n0, .string s0, .slice xa0 x0.length xc0, .slice fa0 (tlen f0) fc0, .int .i64 k1, .int .i64 n1, .string s1, .slice xa1 x1.length xc1, .slice fa1 (tlen f1) fc1] 28))) (m := w.heap.size) (pv := .slice none 0 0) Ok1.out Mk1.out ((setL_kp _ (Kp.refl _ _) (Or.inl (by omega))).alloc _) (by omega) (fun k hk => (by cases hk))
            have hms := MS_two (w := ((setL u2 w.heap.size 0 [.int .i64 6, .int .i64 0, .string ⟨#[]⟩, .slice none 0 0, .slice (some ⟨u2.heap.size, 0, none⟩) 2 2]).alloc (.cells #[.int .i64 k0, .int .i64 n0, .string s0, .slice xa0 x0.length xc0, .slice fa0 (tlen f0) fc0, .int .i64 k1, .int .i64 n1, .string s1, .slice xa1 x1.length xc1, .slice fa1 (tlen f1) fc1] 28))) (g := u2.heap.size) (heap_alloc_at _ _ hsz.symm) (S := fun b => w.heap.size ≤ b ∧ (Value.slice none 0 0).ownBlock ≠ some b) ⟨by omega, (fun e => by cases e)⟩ km0.1 km0.2.1 km0.2.2 km1.1 km1.2.1 km1.2.2
            exact end_in (xs := []) (f := (.node 0 0 (k0, n0, s0, x0) f0 (.node 0 0 (k1, n1, s1, x1) f1 .nil))) (by simp only [setL, Nat.zero_add, Nat.reduceAdd]; rfl) (base := w.heap.size + 1) (Own.nothing _ _) (by omega) hms (Tk0.out.two Tk1.out (by decide) (by decide)) Ru2.out FW.out (by omega) (by omega) (by simp only [tq]; omega)
          · go_wp2_with fail
            refine (pick_any rb Q 3 _ (by omega) (by omega) (by omega) R0u.out).mono ?_
            rintro e v0 ⟨zn, rfl, hzn0, hzn3, hRn, hFn⟩
            have hq3 : (3 : Int) + zn ≤ 9 := by omega
            have F0v : Hid (Fr rb w v0) := F0u.out.trans hFn
            have B0v : Hid (v0.heap[w.heap.size]? = some (.cells #[.int .i64 0, .int .i64 0, .string ⟨#[]⟩, .slice none 0 0, .slice none 0 0] 28 (0, 0))) := hFn.blk (by omega) B0u.out
            have R0v : Hid (Rd v0 rb (Q + 1)) := hRn
            have zv : w.heap.size < v0.heap.size := lt_of_block B0v.out
            obtain ⟨Qn, hQn⟩ : ∃ Qn, Qn = Q + 1 := ⟨_, rfl⟩
            rw [← hQn] at R0v
            clear hRn hFn R0u F0u B0u OP
            go_wp2_with fail
            refine (I.out (D - 1) rb Qn _ (by have := HD.out; omega) (by omega) (by omega) R0v.out).mono ?_
            rintro e u1 ⟨k0, n0, s0, x0, xa0, xc0, f0, fa0, fc0, q0, rfl, hO, hM, hT, hq0, hq0', hR, hF⟩
            have Ok0 : Hid (Own u1 v0.heap.size (.slice xa0 x0.length xc0) x0) := hO
            have Mk0 : Hid (MS u1 (fun b => v0.heap.size ≤ b ∧ (Value.slice xa0 x0.length xc0).ownBlock ≠ some b) f0 fa0) := hM
            have Tk0 : Hid (Tg (d + 1) s0 x0 f0) := hT
            have Ru1 : Hid (Rd u1 rb q0) := hR
            have Fk0 : Hid (Fr rb v0 u1) := hF
            have zz0 : v0.heap.size ≤ u1.heap.size := hF.size
            clear hO hM hT hR hF
            go_wp2_with fail
            refine (I.out (D - 1) rb q0 _ (by have := HD.out; omega) (by omega) (by omega) Ru1.out).mono ?_
            rintro e u2 ⟨k1, n1, s1, x1, xa1, xc1, f1, fa1, fc1, q1, rfl, hO, hM, hT, hq1, hq1', hR, hF⟩
            have Ok1 : Hid (Own u2 u1.heap.size (.slice xa1 x1.length xc1) x1) := hO
            have Mk1 : Hid (MS u2 (fun b => u1.heap.size ≤ b ∧ (Value.slice xa1 x1.length xc1).ownBlock ≠ some b) f1 fa1) := hM
            have Tk1 : Hid (Tg (d + 1) s1 x1 f1) := hT
            have Ru2 : Hid (Rd u2 rb q1) := hR
            have Fk1 : Hid (Fr rb u1 u2) := hF
            have zz1 : u1.heap.size ≤ u2.heap.size := hF.size
            clear hO hM hT hR hF
            have FW : Hid (Fr rb w u2) := F0v.out.trans (Fk0.out.trans Fk1.out)
            have hbu : u2.heap[w.heap.size]? = some (.cells #[.int .i64 0, .int .i64 0, .string ⟨#[]⟩, .slice none 0 0, .slice none 0 0] 28 (0, 0)) := (Fk0.out.trans Fk1.out).blk (by omega) B0v.out
            have HBU : Hid _ := hbu
            have c0 := blk_cell hbu 0
            have c1 := blk_cell hbu 1
            have c2 := blk_cell hbu 2
            have c3 := blk_cell hbu 3
            have c4 := blk_cell hbu 4
            have g0 := blk_free hbu 0
            have g1 := blk_free hbu 1
            have g2 := blk_free hbu 2
            have g3 := blk_free hbu 3
            have g4 := blk_free hbu 4
            have zf : w.heap.size < u2.heap.size := lt_of_block hbu
            clear hbu
            go_wp2_with fail
            have q5 := five_set HBU.out rfl (.int .i64 (3 + zn)) (.int .i64 0) (.string ⟨#[]⟩) (.slice none 0 0) (.slice (some ⟨u2.heap.size, 0, none⟩) 2 2)
            have q5 := (Ex.new _ ((.cells #[.int .i64 k0, .int .i64 n0, .string s0, .slice xa0 x0.length xc0, .slice fa0 (tlen f0) fc0, .int .i64 k1, .int .i64 n1, .string s1, .slice xa1 x1.length xc1, .slice fa1 (tlen f1) fc1] 28))).blk q5
            have hc0 := blk_cell q5 0
            have hc1 := blk_cell q5 1
            have hc2 := blk_cell q5 2
            have hc3 := blk_cell q5 3
            have hc4 := blk_cell q5 4
            simp only [setL, Nat.zero_add, Nat.reduceAdd] at hc0 hc1 hc2 hc3 hc4
            refine bodyPost_ret (v := .agg #[.int .i64 (3 + zn), .int .i64 0, .string ⟨#[]⟩, .slice none 0 0, .slice (some ⟨u2.heap.size, 0, none⟩) 2 2]) (by simp [results, Tryd.results10, go_sem, hc0, hc1, hc2, hc3, hc4]) rfl ?_
            have hsz : (setL u2 w.heap.size 0 [.int .i64 (3 + zn), .int .i64 0, .string ⟨#[]⟩, .slice none 0 0, .slice (some ⟨u2.heap.size, 0, none⟩) 2 2]).heap.size = u2.heap.size := setL_size _ _ _ _
            have km0 := kid_mv (Wf := ((setL u2 w.heap.size 0 [.int .i64 (3 + zn), .int .i64 0, .string ⟨#[]⟩, .slice none 0 0, .slice (some ⟨u2.heap.size, 0, none⟩) 2 2]).alloc (.cells #[.int .i64 k0, .int .i64 n0, .string s0, .slice xa0 x0.length xc0, .slice fa0 (tlen f0) fc0, .int .i64 k1, .int .i64 n1, .string s1, .slice xa1 x1.length xc1, .slice fa1 (tlen f1) fc1] 28))) (m := w.heap.size) (pv := .slice none 0 0) Ok0.out Mk0.out ((Fk1.out.kp (by omega)).trans ((setL_kp _ (Kp.refl _ _) (Or.inl (by omega))).alloc _)) (by omega) (fun k hk => (by cases hk))
            have km1 := kid_mv (Wf := ((setL u2 w.heap.size 0 [.int .i64 (3 + zn), .int .i64 0, .string ⟨#[]⟩, .slice none 0 0, .slice (some ⟨u2.heap.size, 0, none⟩) 2 2]).alloc (.cells #[.int .i64 k0, .int .i64 n0, .string s0, .slice xa0 x0.length xc0, .slice fa0 (tlen f0) fc0, .int .i64 k1, .int .i64 n1, .string s1, .slice xa1 x1.length xc1, .slice fa1 (tlen f1) fc1] 28))) (m := w.heap.size) (pv := .slice none 0 0) Ok1.out Mk1.out ((setL_kp _ (Kp.refl _ _) (Or.inl (by omega))).alloc _) (by omega) (fun k hk => (by cases hk))
            have hms := MS_two (w := ((setL u2 w.heap.size 0 [.int .i64 (3 + zn), .int .i64 0, .string ⟨#[]⟩, .slice none 0 0, .slice (some ⟨u2.heap.size, 0, none⟩) 2 2]).alloc (.cells #[.int .i64 k0, .int .i64 n0, .string s0, .slice xa0 x0.length xc0, .slice fa0 (tlen f0) fc0, .int .i64 k1, .int .i64 n1, .string s1, .slice xa1 x1.length xc1, .slice fa1 (tlen f1) fc1] 28))) (g := u2.heap.size) (heap_alloc_at _ _ hsz.symm) (S := fun b => w.heap.size ≤ b ∧ (Value.slice none 0 0).ownBlock ≠ some b) ⟨by omega, (fun e => by cases e)⟩ km0.1 km0.2.1 km0.2.2 km1.1 km1.2.1 km1.2.2
            exact end_in (xs := []) (f := (.node 0 0 (k0, n0, s0, x0) f0 (.node 0 0 (k1, n1, s1, x1) f1 .nil))) (by simp only [setL, Nat.zero_add, Nat.reduceAdd]; rfl) (base := w.heap.size + 1) (Own.nothing _ _) (by omega) hms (Tk0.out.two Tk1.out (by decide) (by decide)) Ru2.out FW.out (by omega) (by omega) (by simp only [tq]; omega)

end Go.Proofs.YtldbmlojgakieaaDoor

namespace Go.Proofs.YtldbmlojgakieaaDoor

open Go.RowKit Go.Deep

theorem step_append_own' {P : Program} {w : World} {ops : Array Oper} {o : Oper} {a : Act} {K : Act → World → Prop} {Q : Exit → Act → World → Prop} {E : Prop} (hgd : o.guard = none) (s x : Operand) (t : TypeId)
    (ho : o.op = .call { callee := .builtin .append, args := #[s, x], argTypes := #[t, t] })
    (base : Nat) (e : TypeId) (i : TypeInfo) (z : Value) (size bytes : Nat) (ht : P.underlying t = some (.slice e)) (hi : P.info? e = some i) (hz : i.zero = some z)
    (hsize : i.size = size) (hby : i.bytes = bytes) (hzs : z.cells.size = size) (hsz : 0 < size)
    (v : Value) (n : Nat) (xs : List Value) (hs : a.eval s = v) (hown : w.ownsRow base e size v n xs)
    (ad : Addr) (m c : Nat) (news : List Value) (hx : a.eval x = .slice (some ad) m c) (hl : news.length = m * size) (hnews : ∀ j u, news[j]? = some u → w.cell? (ad.add j) = some u) (h1 : ∀ u ∈ news, u.oneCell' = true)
    (h63 : n + m ≤ maxLen) (hbytes : (n + m) * bytes ≤ 140737488355328) (hbase : base ≤ w.heap.size)
    (h : ∀ v' w', w'.ownsRow base e size v' (n + m) (xs ++ news) → w.grownBy w' v.ownBlock → K (a.put o.dst v') w') :
    if Region.wanted o (yielded ops a.tmps) = true then Oper.wp P o a w K Q else E := by
  have hw : Region.wanted o (yielded ops a.tmps) = true := by simp [Region.wanted, hgd]
  rw [if_pos hw]
  exact wp_append_own w s x t ho base e i z size bytes ht hi hz hsize hby hzs hsz v n xs hs hown ad m c news hx hl hnews h1 h63 hbytes hbase fun v' w' h2 h3 _ => h v' w' h2 h3

end Go.Proofs.YtldbmlojgakieaaDoor
