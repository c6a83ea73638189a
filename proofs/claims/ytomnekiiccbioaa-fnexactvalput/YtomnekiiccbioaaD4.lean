/- Walks: paths drawn. -/
import Derived.Test.YtomnekiiccbioaaD3
import Derived.Deep.LoopGhost
namespace Go.Proofs.Ytomnekiiccbioaa
open Go.RowKit Go.Deep
attribute [local go_sem ↓] Go.wp_at_zero Go.wp_at_succ

theorem Try.info3 : (Try.prog.info? 3).map (fun i => (i.zero, i.size, i.bytes)) = some (some (.int .i64 0), 1, 8) := by kernel_rfl

theorem heap_alloc_at (w : World) (o : Obj) {n : Nat} (h : n = w.heap.size) : (w.alloc o).heap[n]? = some o := by subst h; exact heap_alloc_new _ _

/-- Numbers in memory that the call itself has made. -/
abbrev Own (w : World) (base : Nat) (v : Value) (xs : List Int) : Prop := w.ownsRow base 3 1 v xs.length (xs.map (Value.int .i64))

theorem Own.PA {w : World} {base : Nat} {v : Value} {xs : List Int} (h : Own w base v xs) : ∃ pa pc, v = .slice pa xs.length pc ∧ PA w base xs pa ∧ xs.length ≤ pc ∧ pc ≤ 9223372036854775807 ∧ ((pa = none ∧ pc = 0) ∨ ∃ g, pa = some ⟨g, 0, none⟩) := by
  obtain ⟨_, ⟨rfl, h0⟩ | ⟨g, cap, cur, rfl, hg, hgc, hcap, hcm, _, ht⟩⟩ := h
  · exact ⟨none, 0, by rw [h0], Or.inl h0, by omega, by omega, Or.inl ⟨rfl, rfl⟩⟩
  · refine ⟨some ⟨g, 0, none⟩, cap, rfl, Or.inr ⟨g, 0, rfl, hg, fun i hi => ?_⟩, hcap, by unfold maxLen at hcm; omega, Or.inr ⟨g, rfl⟩⟩
    have : (cur.toList.take (xs.length * 1))[i]? = (xs.map (Value.int .i64))[i]? := by rw [ht]
    rw [Nat.mul_one, List.getElem?_take_of_lt hi, List.getElem?_map] at this
    simp [World.cell?, hgc]
    simp at this
    rw [this]
    simp [hi]

theorem Own.keep {w w' : World} {base : Nat} {v : Value} {xs : List Int} (h : Own w base v xs) (hk : Kp base w w') : Own w' base v xs := by
  obtain ⟨h1, h2 | ⟨g, cap, cur, rfl, hg, hgc, r⟩⟩ := h
  · exact ⟨h1, Or.inl h2⟩
  · exact ⟨h1, Or.inr ⟨g, cap, cur, rfl, hg, (hk.block g hg (lt_of_block hgc)).trans hgc, r⟩⟩

theorem Own.lo {w : World} {base base' : Nat} {v : Value} {xs : List Int} (h : Own w base v xs) (hb : base' ≤ base) : Own w base' v xs := by
  obtain ⟨h1, h2 | ⟨g, cap, cur, rfl, hg, r⟩⟩ := h
  · exact ⟨h1, Or.inl h2⟩
  · exact ⟨h1, Or.inr ⟨g, cap, cur, rfl, Nat.le_trans hb hg, r⟩⟩
theorem Own.row {w : World} {base : Nat} {v : Value} {xs : List Int} (h : Own w base v xs) : ∀ k, v.ownBlock = some k → base ≤ k := by
  obtain ⟨_, ⟨rfl, _⟩ | ⟨g, cap, cur, rfl, hg, _⟩⟩ := h
  · intro k hk; cases hk
  · intro k hk; cases hk; exact hg
theorem Rd.below {w w' : World} {rb p B : Nat} (h : Rd w rb p) (hb : Below B w w') (hB : rb < B) : Rd w' rb p := by
  obtain ⟨ca, n, cc, h1, h2, h3⟩ := h
  refine ⟨ca, n, cc, (hb.block rb hB).trans h1, h2, ?_⟩
  rcases h3 with h3 | ⟨cb, co, h4, h5, h6⟩
  · exact Or.inl h3
  · exact Or.inr ⟨cb, co, h4, h5, fun i hi => by obtain ⟨x, hc, hx0⟩ := h6 i hi; exact ⟨x, (hb.cell (by show cb < B; omega)).trans hc, hx0⟩⟩
theorem Fr.below {rb B : Nat} {a b c : World} (h : Fr rb a b) (k : Below B b c) (hB : a.heap.size ≤ B) : Fr rb a c :=
  ⟨k.os.trans h.os, k.tape.trans h.tape, k.output.trans h.output, Nat.le_trans h.size k.size, fun i hi hn => (k.block i (by omega)).trans (h.block i hi hn)⟩

set_option maxRecDepth 100000 in
set_option maxHeartbeats 2000000 in
theorem l71Path_any (f : F) (a : Option Addr) (c lo rb p : Nat) (w : World) (hp : p ≤ 60000) (hd : dep f ≤ 1000) (hs : len f ≤ 1000000000) (hsm : Sm f) (hlo : rb < lo) (hT : TA w lo f a) (hR : Rd w rb p) :
    Calls Try.prog 91 #[.pointer (some ⟨rb, 0, none⟩), .agg #[.slice a (len f) c]] w fun e w' => ∃ (v : Value) (xs : List Int) (g : F) (a' : Option Addr) (c' q : Nat), e = .returned (.tuple #[v, .agg #[.slice a' (len g) c']]) ∧ Own w' w.heap.size v xs ∧ xs.length ≤ 1000 ∧ TA w' lo g a' ∧ (len g ≤ 1000000000 ∧ Sm g ∧ dep g ≤ 1000) ∧ p ≤ q ∧ q ≤ p + 2 * dep f + 1 ∧ Rd w' rb q ∧ Fr rb w w' := by
  have hrb := hR.blk
  have T : Hid (TA w lo f a) := hT
  have R : Hid (Rd w rb p) := hR
  have SS : Hid (len f ≤ 1000000000 ∧ Sm f) := ⟨hs, hsm⟩
  clear hT hR hs hsm
  obtain ⟨i0, hi, hz0, hz1, hz2⟩ := info_parts Try.info3
  go_enter Try.func91, Try.ntmps91
  go_wp2_with fail
  go_loopg [6] (dep f) (fun k v wr => ∃ (g : F) (a' : Option Addr) (c' q : Nat) (xs : List Int), dep g ≤ k ∧ k ≤ dep f ∧ Own wr (w.heap.size + 2) v xs ∧ xs.length + k ≤ dep f ∧ TA w lo g a' ∧ (len g ≤ 1000000000 ∧ Sm g) ∧ p ≤ q ∧ q + 2 * k ≤ p + 2 * dep f ∧ Rd wr rb q ∧ Fr rb w wr ∧ wr.heap[w.heap.size]? = some (.cells #[.slice a' (len g) c'] 25 (0, 0)) ∧ wr.heap[w.heap.size + 1]? = some (.cells #[.slice none 0 0] 25 (0, 0)))
  case atStart =>
    refine ⟨f, a, c, p, [], Nat.le_refl _, Nat.le_refl _, ⟨rfl, Or.inr ⟨_, 0, #[], rfl, Nat.le_refl _, ?_, Nat.le_refl _, by unfold maxLen; omega, rfl, rfl⟩⟩, by simp, T.out, SS.out, Nat.le_refl _, by omega, R.out.ex (((Ex.new _ _).alloc _).alloc _), Fr.of_ex (((Ex.new _ _).alloc _).alloc _) _, ?_, ?_⟩
    · exact heap_alloc_at _ _ (by simp)
    · exact (((Ex.new _ _).alloc _)).blk (heap_alloc_new _ _)
    · exact (Ex.new _ _).blk (heap_alloc_at _ _ (by simp))
  case round =>
    obtain ⟨g, a', c', q, xs, hdg, hkd, hown, hxl, hg, hsg, hq1, hq2, hrd, hfr, hbx, hrs⟩ := hrel
    have O : Hid (Own wr (w.heap.size + 2) u6 xs) := hown
    have G : Hid (TA w lo g a') := hg
    have SG : Hid (len g ≤ 1000000000 ∧ Sm g) := hsg
    have R2 : Hid (Rd wr rb q) := hrd
    have F2 : Hid (Fr rb w wr) := hfr
    have hlg := hsg.1
    have c1 := cell_of_one hbx
    have c2 := free_of_one hbx
    have FIN : Hid (∀ (wf : World) (q' : Nat), Own wf (w.heap.size + 2) u6 xs → Rd wf rb q' → Fr rb w wf → q ≤ q' → q' ≤ q + 1 → ∀ W, W = (wf.setCell ⟨w.heap.size + 1, 0, none⟩ (.slice a' (len g) c')).drew →
        Own W w.heap.size u6 xs ∧ xs.length ≤ 1000 ∧ TA W lo g a' ∧ (len g ≤ 1000000000 ∧ Sm g ∧ dep g ≤ 1000) ∧ p ≤ q' ∧ q' ≤ p + 2 * dep f + 1 ∧ Rd W rb q' ∧ Fr rb w W) := by
      intro wf q' h1 h2 h3 h4 h5 W hW
      subst hW
      have hfw : Fr rb w (wf.setCell ⟨w.heap.size + 1, 0, none⟩ (.slice a' (len g) c')).drew := (h3.set (Or.inr (Nat.le_succ _)) _).drew
      refine ⟨?_, by omega, TA_kp G.out (hfw.kp hlo), ⟨SG.out.1, SG.out.2, by omega⟩, by omega, by omega, (h2.set (by show rb < w.heap.size + 1; omega) _).ex (Ex.refl _).drew, hfw⟩
      obtain ⟨o1, o2 | ⟨gb, cap, cur, o3, o4, o5, o6⟩⟩ := h1
      · exact ⟨o1, Or.inl o2⟩
      · exact ⟨o1, Or.inr ⟨gb, cap, cur, o3, by omega, by show (wf.setCell _ _).heap[gb]? = _; rw [Below.heap_setCell _ _ _ _ (by show gb ≠ w.heap.size + 1; omega)]; exact o5, o6⟩⟩
    clear hown hg hsg hrd hfr
    by_cases h0 : len g = 0
    · have e0 : decide ((0 : Int) < (len g : Int)) = false := by simp; omega
      have c3 := cell_of_one hrs
      have c4 := free_of_one hrs
      go_wp2_with fail
      go_region
      go_wp2_with fail
      have hres := World.cell?_setCell_same wr ⟨w.heap.size + 1, 0, none⟩ (.slice a' (len g) c') c3
      have hfin := FIN.out wr q O.out R2.out F2.out (Nat.le_refl _) (Nat.le_succ _) _ rfl
      rw [h0] at hres
      refine bodyPost_ret (v := .tuple #[u6, .agg #[.slice a' 0 c']]) (by simp [results, Try.results91, go_sem, hres]) rfl ?_
      have hfd := hfin
      rw [h0] at hfd
      exact ⟨u6, xs, g, a', c', q, by rw [h0], hfd.1, hfd.2.1, hfd.2.2.1, by rw [h0]; exact hfd.2.2.2.1, hfd.2.2.2.2.1, hfd.2.2.2.2.2.1, hfd.2.2.2.2.2.2.1, hfd.2.2.2.2.2.2.2⟩
    · have e0 : decide ((0 : Int) < (len g : Int)) = true := by simp; omega
      go_wp2_with fail
      refine (pick_any rb q 3 _ (by omega) (by omega) (by omega) R2.out).mono ?_
      rintro e w1 ⟨x, rfl, hx0, hx3, hR1, hF1⟩
      have hbx1 := hF1.blk (by omega) hbx
      have hrs1 := hF1.blk (by omega) hrs
      have O1 : Hid (Own w1 (w.heap.size + 2) u6 xs) := O.out.keep (hF1.kp (by omega))
      have RD1 : Hid (Rd w1 rb (q + 1)) := hR1
      have FF1 : Hid (Fr rb w w1) := F2.out.trans hF1
      clear c1 c2 hbx hrs hR1 hF1
      have c1 := cell_of_one hbx1
      have c2 := free_of_one hbx1
      have c3 := cell_of_one hrs1
      have c4 := free_of_one hrs1
      by_cases hx : 0 < x
      · go_wp2_with fail
        refine (pick_any rb (q + 1) (len g) _ (by omega) (by omega) (by omega) RD1.out).mono ?_
        rintro e w2 ⟨y, rfl, hy0, hy3, hR2', hF2'⟩
        have hbx2 := hF2'.blk (by omega) hbx1
        have hrs2 := hF2'.blk (by omega) hrs1
        have O2 : Hid (Own w2 (w.heap.size + 2) u6 xs) := O1.out.keep (hF2'.kp (by omega))
        have RD2 : Hid (Rd w2 rb (q + 2)) := hR2'
        have FF2 : Hid (Fr rb w w2) := FF1.out.trans hF2'
        have z2 : w.heap.size + 1 < w2.heap.size := lt_of_block hrs2
        clear c1 c2 c3 c4 hbx1 hrs1 hR2' hF2'
        go_wp2_with (at_builtin; refine wpList_append_own _ rfl (.tmp 23) (.tmp 25) 26 rfl (w.heap.size + 2) 3 i0 (.int .i64 0) 1 8 Try.underlying26 hi hz0 hz1 hz2 rfl (by decide) u6 xs.length (xs.map (Value.int .i64)) rfl (World.ownsRow.alloc O2.out _) ⟨w2.heap.size, 0, none⟩ 1 1 [.int .i64 y] rfl rfl ?c1 ?c2 ?c3 ?c4 ?c5 ?_)
        case c1 => intro j u hj; match j, hj with | 0, hj => simp at hj; subst hj; simp [Addr.add]
        case c2 => intro u hu; simp at hu; subst hu; rfl
        case c3 => unfold maxLen; omega
        case c4 => omega
        case c5 => rw [World.size_alloc]; omega
        intro v' w3 hown3 hgrow _
        have hbl : Below (w.heap.size + 2) w2 w3 := ((Below.refl _ w2).alloc (by omega) _).grown hgrow (by rw [World.size_alloc]; omega) O2.out.row
        have O3 : Hid (Own w3 (w.heap.size + 2) v' (xs ++ [y])) := by
          show World.ownsRow _ _ _ _ _ _ _
          rw [List.length_append, List.map_append]; exact hown3
        have hbx3 := (hbl.block w.heap.size (by omega)).trans hbx2
        have hrs3 := (hbl.block (w.heap.size + 1) (by omega)).trans hrs2
        have RD3 : Hid (Rd w3 rb (q + 2)) := RD2.out.below hbl (by omega)
        have FF3 : Hid (Fr rb w w3) := FF2.out.below hbl (by omega)
        clear hown3 hgrow hbl hbx2 hrs2
        have c1 := cell_of_one hbx3
        have c2 := free_of_one hbx3
        obtain ⟨b, o, e', _, hbs, hkk⟩ := TA_at G.out (by omega)
        obtain ⟨a3, k3, hc3, ht3⟩ := hkk y.toNat (by omega)
        have hlob : lo ≤ b := by assumption
        have hc3' : w3.cell? ⟨b, o + y.toNat, none⟩ = some (.slice a3 (len (kid g y.toNat)) k3) := FF3.out.at (by show b ≠ rb; omega) hc3
        subst e'
        have T3 : Hid (TA w lo (kid g y.toNat) a3) := ht3
        clear hkk hc3 ht3
        go_wp2_with fail
        have hdk := dep_kid g y.toNat (by omega)
        go_roundg (gk - 1)
        case measure => omega
        case rel =>
          exact ⟨kid g y.toNat, a3, k3, q + 2, xs ++ [y], by omega, by omega, O3.out.keep ((Kp.refl _ _).set (Or.inl (by show w.heap.size < _; omega)) _), by simp only [List.length_append, List.length_cons, List.length_nil]; omega, T3.out, Sm_kid SG.out.2 _ (by omega), by omega, by omega, RD3.out.set (by show rb < w.heap.size; omega) _, FF3.out.set (Or.inr (Nat.le_refl _)) _, one_setCell hbx3, by rw [Below.heap_setCell _ _ _ _ (by show w.heap.size + 1 ≠ w.heap.size; omega)]; exact hrs3⟩
      · have e1 : decide (0 < x) = false := by simp; omega
        go_wp2_with fail
        go_region
        go_wp2_with fail
        have hres := World.cell?_setCell_same w1 ⟨w.heap.size + 1, 0, none⟩ (.slice a' (len g) c') c3
        have hfd := FIN.out w1 (q + 1) O1.out RD1.out FF1.out (by omega) (by omega) _ rfl
        refine bodyPost_ret (v := .tuple #[u6, .agg #[.slice a' (len g) c']]) (by simp [results, Try.results91, go_sem, hres]) rfl ?_
        exact ⟨u6, xs, g, a', c', q + 1, rfl, hfd.1, hfd.2.1, hfd.2.2.1, hfd.2.2.2.1, hfd.2.2.2.2.1, hfd.2.2.2.2.2.1, hfd.2.2.2.2.2.2.1, hfd.2.2.2.2.2.2.2⟩

set_option maxRecDepth 100000 in
set_option maxHeartbeats 2000000 in
theorem l71Any_any (f : F) (a : Option Addr) (c lo rb p : Nat) (w : World) (hp : p ≤ 60000) (hd : dep f ≤ 1000) (hs : len f ≤ 1000000000) (hsm : Sm f) (hlo : rb < lo) (hT : TA w lo f a) (hR : Rd w rb p) :
    Calls Try.prog 56 #[.pointer (some ⟨rb, 0, none⟩), .agg #[.slice a (len f) c]] w fun e w' => ∃ (v : Value) (xs : List Int) (q : Nat), e = .returned v ∧ Own w' w.heap.size v xs ∧ xs.length ≤ 1001 ∧ p ≤ q ∧ q ≤ p + 2 * dep f + 3 ∧ Rd w' rb q ∧ Fr rb w w' := by
  have hrb := hR.blk
  have T : Hid (TA w lo f a) := hT
  have R : Hid (Rd w rb p) := hR
  clear hT hR
  obtain ⟨i0, hi, hz0, hz1, hz2⟩ := info_parts Try.info3
  go_enter Try.func56, Try.ntmps56
  go_wp2_with fail
  refine (l71Path_any f a c lo rb p _ hp hd hs hsm hlo (TA_below T.out (Ex.new _ _)) (R.out.ex (Ex.new _ _))).mono ?_
  rintro e w1 ⟨v, xs, g, a', c', q, rfl, hown, hxl, _, _, hq1, hq2, hR1, hF1⟩
  have z1 := hF1.size
  rw [World.size_alloc] at z1 hown
  have O1 : Hid (Own w1 (w.heap.size + 1) v xs) := hown
  have F1 : Hid (Fr rb w w1) := Fr.trans (Fr.of_ex (Ex.new _ _) _) hF1
  clear hown hF1
  go_wp2_with fail
  refine (pick_any rb q 6 _ (by omega) (by omega) (by omega) (hR1.ex (Ex.new _ _))).mono ?_
  rintro e w2 ⟨x, rfl, hx0, hx3, hR2, hF2⟩
  have O2 : Hid (Own w2 (w.heap.size + 1) v xs) := (O1.out.keep (Kp.of_below (Ex.new _ _) _)).keep (hF2.kp (by omega))
  have F2 : Hid (Fr rb w w2) := F1.out.trans (Fr.trans (Fr.of_ex (Ex.new _ _) _) hF2)
  have z2 := hF2.size
  rw [World.size_alloc] at z2
  clear hF2 hR1
  by_cases hx : x = 0
  · have e0 : (x == 0) = true := by simp [hx]
    have HX : Hid (x = 0) := hx
    clear hx
    go_wp2_with fail
    refine (pick_any rb (q + 1) 4 _ (by omega) (by omega) (by omega) hR2).mono ?_
    rintro e w3 ⟨y, rfl, hy0, hy3, hR3, hF3⟩
    have O3 : Hid (Own w3 (w.heap.size + 1) v xs) := O2.out.keep (hF3.kp (by omega))
    have F3 : Hid (Fr rb w w3) := F2.out.trans hF3
    have z3 := hF3.size
    have R3 : Hid (Rd w3 rb (q + 1 + 1)) := hR3
    clear hF3 hR2 hR3
    go_wp2_with (at_builtin; refine wpList_append_own _ rfl (.tmp 16) (.tmp 20) 26 rfl (w.heap.size + 1) 3 i0 (.int .i64 0) 1 8 Try.underlying26 hi hz0 hz1 hz2 rfl (by decide) v xs.length (xs.map (Value.int .i64)) rfl (World.ownsRow.alloc O3.out _) ⟨w3.heap.size, 0, none⟩ 1 1 [.int .i64 (y - 1)] rfl rfl ?c1 ?c2 ?c3 ?c4 ?c5 ?_)
    case c1 => intro j u hj; match j, hj with | 0, hj => simp at hj; subst hj; simp [Addr.add]
    case c2 => intro u hu; simp at hu; subst hu; rfl
    case c3 => unfold maxLen; omega
    case c4 => omega
    case c5 => rw [World.size_alloc]; omega
    intro v' w4 hown4 hgrow _
    have hbl : Below (w.heap.size + 1) w3 w4 := ((Below.refl _ w3).alloc (by omega) _).grown hgrow (by rw [World.size_alloc]; omega) O3.out.row
    have O4 : Hid (Own w4 (w.heap.size + 1) v' (xs ++ [y - 1])) := by
      show World.ownsRow _ _ _ _ _ _ _
      rw [List.length_append, List.map_append]; exact hown4
    have R4 : Hid (Rd w4 rb (q + 1 + 1)) := R3.out.below hbl (by omega)
    have F4 : Hid (Fr rb w w4) := F3.out.below hbl (by omega)
    clear hown4 hgrow hbl
    go_wp2_with fail
    go_ret
    exact ⟨v', xs ++ [y - 1], q + 1 + 1, rfl, O4.out.lo (by omega), by simp only [List.length_append, List.length_cons, List.length_nil]; omega, by omega, by omega, R4.out, F4.out⟩
  · have e0 : (x == 0) = false := by simp [hx]
    go_wp2_with fail
    go_ret
    exact ⟨v, xs, q + 1, rfl, O2.out.lo (by omega), by omega, by omega, by omega, hR2, F2.out⟩

/-- While a region goes on: of W only blocks rb and n have turned, and block n has c cells of type t that may be written. -/
def FC (rb n c : Nat) (t : TypeId) (W w : World) : Prop := (w.os = W.os ∧ w.tape = W.tape ∧ w.output = W.output ∧ W.heap.size ≤ w.heap.size) ∧ (∀ k, k < W.heap.size → k ≠ rb → k ≠ n → w.heap[k]? = W.heap[k]?) ∧ ∃ vs : Array Value, vs.size = c ∧ w.heap[n]? = some (.cells vs t (0, 0))
theorem FC.start {rb n c : Nat} {t : TypeId} {W : World} {vs : Array Value} (h : W.heap[n]? = some (.cells vs t (0, 0))) (hc : vs.size = c) : FC rb n c t W W := ⟨⟨rfl, rfl, rfl, Nat.le_refl _⟩, fun _ _ _ _ => rfl, vs, hc, h⟩
theorem FC.drew {rb n c : Nat} {t : TypeId} {W w : World} (h : FC rb n c t W w) : FC rb n c t W w.drew := h
theorem FC.fr {rb n c : Nat} {t : TypeId} {W w w' : World} (h : FC rb n c t W w) (hf : Fr rb w w') (hn : n ≠ rb) : FC rb n c t W w' := by
  obtain ⟨⟨h1, h2, h3, h4⟩, h5, vs, h6, h7⟩ := h
  exact ⟨⟨hf.os.trans h1, hf.tape.trans h2, hf.output.trans h3, Nat.le_trans h4 hf.size⟩, fun k hk e1 e2 => (hf.block k (Nat.lt_of_lt_of_le hk h4) e1).trans (h5 k hk e1 e2), vs, h6, hf.blk hn h7⟩
theorem FC.ex {rb n c : Nat} {t : TypeId} {W w w' : World} (h : FC rb n c t W w) (hf : Ex w w') (hn : n ≠ rb) : FC rb n c t W w' := h.fr (Fr.of_ex hf _) hn
theorem FC.set {rb n c : Nat} {t : TypeId} {W w : World} (h : FC rb n c t W w) (i : Nat) (v : Value) : FC rb n c t W (w.setCell ⟨n, i, none⟩ v) := by
  obtain ⟨⟨h1, h2, h3, h4⟩, h5, vs, h6, h7⟩ := h
  refine ⟨⟨h1, h2, h3, by rw [World.size_setCell]; exact h4⟩, fun k hk e1 e2 => by rw [Below.heap_setCell _ _ _ _ e2]; exact h5 k hk e1 e2, vs.setIfInBounds i v, by simp [h6], ?_⟩
  simp [World.setCell, Array.getElem?_modify, h7]
theorem FC.cell {rb n c : Nat} {t : TypeId} {W w : World} (h : FC rb n c t W w) (i : Nat) (hi : i < c) : ∃ v, w.cell? ⟨n, i, none⟩ = some v := by
  obtain ⟨_, _, vs, h6, h7⟩ := h
  exact ⟨vs[i]'(by omega), by simp [World.cell?, h7, h6, hi]⟩
theorem FC.frozen {rb n c : Nat} {t : TypeId} {W w : World} (h : FC rb n c t W w) (i : Nat) : w.frozen? ⟨n, i, none⟩ = false := by
  obtain ⟨_, _, vs, h6, h7⟩ := h
  simp [World.frozen?, h7]
theorem FC.at {rb n c : Nat} {t : TypeId} {W w : World} (h : FC rb n c t W w) {p : Addr} {v : Value} (h1 : p.block ≠ rb) (h2 : p.block ≠ n) (hc : W.cell? p = some v) : w.cell? p = some v :=
  (World.cell?_of_block (w := W) (h.2.1 _ (World.block_lt_of_cell? _ _ hc) h1 h2)).trans hc
theorem FC.kp {rb n c lo : Nat} {t : TypeId} {W w : World} (h : FC rb n c t W w) (h1 : rb < lo) (h2 : n < lo) : Kp lo W w := ⟨h.1.2.2.2, fun k hk hk2 => h.2.1 k hk2 (by omega) (by omega)⟩
theorem FC.to_ex {rb n c : Nat} {t : TypeId} {w0 W w : World} (h : FC rb n c t W w) (hx : Ex w0 W) (h1 : w0.heap.size ≤ rb) (h2 : w0.heap.size ≤ n) : Ex w0 w :=
  ⟨h.1.1.trans hx.os, h.1.2.1.trans hx.tape, h.1.2.2.1.trans hx.output, Nat.le_trans hx.size h.1.2.2.2, fun k hk => (h.2.1 k (Nat.lt_of_lt_of_le hk hx.size) (by omega) (by omega)).trans (hx.block k hk)⟩

set_option maxRecDepth 100000 in
set_option maxHeartbeats 2000000 in
theorem DrawTypeAt_any (n cc : Nat) (ca : Option Addr) (w : World) (hn : n ≤ cc) (hc : cc ≤ 9223372036854775807) (hB : By w n ca) :
    Calls Try.prog 21 #[.slice ca n cc] w fun e w' => ∃ (f : F) (a : Option Addr) (cap : Nat) (xs : List Int) (pa : Option Addr) (pc : Nat), e = .returned (.tuple #[.agg #[.slice a (len f) cap], .slice pa xs.length pc]) ∧ TA w' w.heap.size f a ∧ (len f ≤ 1000000000 ∧ Sm f) ∧ PA w' w.heap.size xs pa ∧ xs.length ≤ 1001 ∧ (xs.length ≤ pc ∧ pc ≤ 9223372036854775807 ∧ ((pa = none ∧ pc = 0) ∨ ∃ g, pa = some ⟨g, 0, none⟩)) ∧ Ex w w' := by
  have B : Hid (By w n ca) := hB
  clear hB
  go_enter Try.func21, Try.ntmps21
  go_wp2_with fail
  refine (l6Open_any n cc ca _ hn hc (B.out.ex (Ex.new _ _))).mono ?_
  rintro e w1 ⟨rfl, hR1, hx1⟩
  rw [World.size_alloc] at hR1
  go_wp2_with fail
  refine (l71Deep_any _ 0 _ (by omega) hR1).mono ?_
  rintro e w2 ⟨f, a, cap, q, rfl, ht, hsm, hdp, _, hq, hR2, hF2⟩
  have hx2 : Ex (w.alloc (.cells #[.slice none 0 0] 25)) w2 := hF2.to_ex hx1 (by rw [World.size_alloc]; omega)
  have hres2 : w2.heap[w.heap.size]? = some (.cells #[.slice none 0 0] 25 (0, 0)) := hx2.blk (heap_alloc_new _ _)
  have z1 := hx1.size
  have z0 := hR1.blk
  have z2 := hF2.size
  rw [World.size_alloc] at z1
  have T : Hid (TA w2 w1.heap.size f a) := ht
  have SM : Hid (len f ≤ 1000000000 ∧ Sm f) := hsm
  have R2 : Hid (Rd (w2.alloc (.cells #[.slice a (len f) cap] 25)) (w.heap.size + 1) q) := hR2.ex (Ex.new _ _)
  have X2 : Hid (Ex w (w2.alloc (.cells #[.slice a (len f) cap] 25))) := (Ex.new _ _).trans (hx2.trans (Ex.new _ _))
  have C0 : Hid (FC (w.heap.size + 1) w.heap.size 1 25 (w2.alloc (.cells #[.slice a (len f) cap] 25)) (w2.alloc (.cells #[.slice a (len f) cap] 25))) := FC.start ((Ex.new _ _).blk hres2) rfl
  have KS : Hid (∀ w', FC (w.heap.size + 1) w.heap.size 1 25 (w2.alloc (.cells #[.slice a (len f) cap] 25)) w' → (FC (w.heap.size + 1) w.heap.size 1 25 (w2.alloc (.cells #[.slice a (len f) cap] 25)) w' ∧ w'.cell? ⟨w2.heap.size, 0, none⟩ = some (.slice a (len f) cap))) := fun w' h => ⟨h, h.at (by show w2.heap.size ≠ _; omega) (by show w2.heap.size ≠ _; omega) (World.cell?_alloc_new _ _ _ _)⟩
  have IA : Hid _ := fun (w' : World) (h : Ex (w2.alloc (.cells #[.slice a (len f) cap] 25)) w') => l71Any_any f a cap w1.heap.size (w.heap.size + 1) q w' (by omega) (by omega) hsm.1 hsm.2 (by omega) (TA_below T.out ((Ex.new _ _).trans h)) (R2.out.ex h)
  clear ht hsm hR1 hR2 hF2 hres2
  go_wp2_with fail
  go_region_held3 (fun w' => FC (w.heap.size + 1) w.heap.size 1 25 (w2.alloc (.cells #[.slice a (len f) cap] 25)) w' ∧ w'.cell? ⟨w2.heap.size, 0, none⟩ = some (.slice a (len f) cap)) ((refine KS.out _ ?_; first | exact C0.out.drew | exact FC.fr (And.left ‹FC _ _ _ _ _ _ ∧ _›) ‹Fr _ _ _› (by omega) | exact FC.set (by assumption) _ _ | exact FC.set (And.left ‹FC _ _ _ _ _ _ ∧ _›) _ _)) (first | (go_at_call 56; refine (IA.out _ (Ex.refl _).drew).mono ?_; rintro e w3 ⟨v, xs, q3, rfl, ho3, hxl, _, _, hR3, hF3⟩; have hcr := FC.fr (And.left ‹FC _ _ _ _ _ _ ∧ _›) hF3 (by omega); obtain ⟨vr, hvr⟩ := hcr.cell 0 (by omega); have hfr := hcr.frozen 0))
  have hcf : FC (w.heap.size + 1) w.heap.size 1 25 (w2.alloc (.cells #[.slice a (len f) cap] 25)) (w3.setCell ⟨w.heap.size, 0, none⟩ (.slice a (len f) cap)) := And.left ‹FC _ _ _ _ _ (w3.setCell _ _) ∧ _›
  have ho4 : Own (w3.setCell ⟨w.heap.size, 0, none⟩ (.slice a (len f) cap)) (w.heap.size + 1) v xs := (ho3.lo (by show w.heap.size + 1 ≤ (w2.alloc (.cells #[.slice a (len f) cap] 25)).drew.heap.size; rw [World.size_drew, World.size_alloc]; omega)).keep ((Kp.refl _ _).set (Or.inl (by show w.heap.size < _; omega)) _)
  obtain ⟨pa, pc, hv, hpa, hpx⟩ := ho4.PA
  subst hv
  have hres := World.cell?_setCell_same w3 ⟨w.heap.size, 0, none⟩ (.slice a (len f) cap) hvr
  go_wp2_with fail
  refine bodyPost_ret (v := .tuple #[.agg #[.slice a (len f) cap], .slice pa xs.length pc]) (by simp [results, Try.results21, go_sem, hres]) rfl ⟨f, a, cap, xs, pa, pc, rfl, TA_lo (TA_kp (TA_below T.out (Ex.new _ _)) (hcf.kp (by omega) (by omega))) (by omega), SM.out, PA_lo hpa (by omega), hxl, hpx, hcf.to_ex X2.out (by omega) (Nat.le_refl _)⟩

end Go.Proofs.Ytomnekiiccbioaa
