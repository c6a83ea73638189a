/- Walks: a value copied by the specification; whether it is of some type. Walks: a part of a value, by the specification. Parts of values, without the program. Values in memory of their own; a value copied into such. The law on parts of parts of types, walked. -/
import Derived.Test.YtldbmlojgakieaaGreatDoorGD6
import Derived.Test.YtldbmlojgakieaaGreatDoorGV8
import Derived.Test.YtldbmlojgakieaaGreatDoorGTM3
import Derived.Deep.CutRange
namespace Go.Proofs.YtldbmlojgakieaaGreatDoor

open Go.RowKit Go.Deep

attribute [local go_sem ↓] Go.wp_at_zero Go.wp_at_succ

/-- A list of values lies in a block of its own that may be written, and what is behind it lies elsewhere, all from block lo on. -/
def VT (w : World) (lo : Nat) (f : F) (a : Option Addr) : Prop := len f = 0 ∨ ∃ g cur, a = some ⟨g, 0, none⟩ ∧ lo ≤ g ∧ w.heap[g]? = some (.cells cur 55 (0, 0)) ∧
  ∀ i, i < len f → cur[i * 2]? = some (.int .i64 (num f i)) ∧ ∃ a' c', cur[i * 2 + 1]? = some (.slice a' (len (kid f i)) c') ∧ VS w (fun b => lo ≤ b ∧ b ≠ g) (kid f i) a'

theorem cell_cur {w : World} {g : Nat} {cur : Array Value} {t : TypeId} (h : w.heap[g]? = some (.cells cur t (0, 0))) (j : Nat) : w.cell? ⟨g, j, none⟩ = cur[j]? := by simp [World.cell?, h]
theorem free_cur {w : World} {g : Nat} {cur : Array Value} {t : TypeId} (h : w.heap[g]? = some (.cells cur t (0, 0))) (j : Nat) : w.frozen? ⟨g, j, none⟩ = false := by simp [World.frozen?, h]

theorem VT.va {w : World} {lo : Nat} {f : F} {a : Option Addr} (h : VT w lo f a) : VA w lo f a := by
  rcases h with h | ⟨g, cur, e, hg, hc, hk⟩
  · exact Or.inl h
  · subst e
    refine VS_mk hg fun i hi => ?_
    obtain ⟨h1, a', c', h2, h3⟩ := hk i hi
    exact ⟨by rw [Nat.zero_add, cell_cur hc]; exact h1, a', c', by rw [Nat.zero_add, cell_cur hc]; exact h2, VS_mono h3 fun b _ hb => hb.1⟩

theorem VT.kp {w w' : World} {lo : Nat} {f : F} {a : Option Addr} (h : VT w lo f a) (hk : Kp lo w w') : VT w' lo f a := by
  rcases h with h | ⟨g, cur, e, hg, hc, hkk⟩
  · exact Or.inl h
  · refine Or.inr ⟨g, cur, e, hg, (hk.block g hg (lt_of_block hc)).trans hc, fun i hi => ?_⟩
    obtain ⟨h1, a', c', h2, h3⟩ := hkk i hi
    exact ⟨h1, a', c', h2, VS_ks h3 fun b hb hlt => hk.block b hb.1 hlt⟩

theorem VT.lo {w : World} {lo lo' : Nat} {f : F} {a : Option Addr} (h : VT w lo f a) (hl : lo' ≤ lo) : VT w lo' f a := by
  rcases h with h | ⟨g, cur, e, hg, hc, hkk⟩
  · exact Or.inl h
  · refine Or.inr ⟨g, cur, e, by omega, hc, fun i hi => ?_⟩
    obtain ⟨h1, a', c', h2, h3⟩ := hkk i hi
    exact ⟨h1, a', c', h2, VS_mono h3 fun b _ hb => ⟨by omega, hb.2⟩⟩

theorem kidsV_step {wr w1 w2 : World} {base k gg cap k2 out oo : Nat} {e : TypeId} {v u : Value} {cs : List Value} {f : F} {a2 : Option Addr} {o' : Obj}
    (O : wr.ownsRow base e 2 v k cs) (hb2 : Ex wr w1) (hgrow : (w1.alloc o').grownBy w2 v.ownBlock) (hat : v.ownBlock = some gg ∨ gg = w1.heap.size + 1) (hout : out < base)
    (KI : ∀ j, j < k → cs[j * 2]? = some (.int .i64 (num f j)) ∧ ∃ a' c', cs[j * 2 + 1]? = some (.slice a' (len (kid f j)) c') ∧ VS wr (fun b => base ≤ b ∧ v.ownBlock ≠ some b) (kid f j) a')
    (ht2 : VA w1 wr.heap.size (kid f k) a2) (hbase : base ≤ wr.heap.size) :
    ∀ j, j < k + 1 → (cs ++ [Value.int .i64 (num f k), Value.slice a2 (len (kid f k)) k2])[j * 2]? = some (.int .i64 (num f j)) ∧ ∃ a' c', (cs ++ [Value.int .i64 (num f k), Value.slice a2 (len (kid f k)) k2])[j * 2 + 1]? = some (.slice a' (len (kid f j)) c') ∧ VS (w2.setCell ⟨out, oo, none⟩ u) (fun b => base ≤ b ∧ (Value.slice (some ⟨gg, 0, none⟩) (k + 1) cap).ownBlock ≠ some b) (kid f j) a' := by
  have hcs : cs.length = k * 2 := O.1
  have hvb : ∀ g, v.ownBlock = some g → g < wr.heap.size := by
    obtain ⟨_, ⟨rfl, _⟩ | ⟨g, c, cur, rfl, hg, hgc, _⟩⟩ := O
    · intro g hg; cases hg
    · intro g' hg'; cases hg'; exact lt_of_block hgc
  have move : ∀ (g : F) (a' : Option Addr), VS w1 (fun b => base ≤ b ∧ v.ownBlock ≠ some b) g a' → VS (w2.setCell ⟨out, oo, none⟩ u) (fun b => base ≤ b ∧ (Value.slice (some ⟨gg, 0, none⟩) (k + 1) cap).ownBlock ≠ some b) g a' := by
    intro g a' h
    have h1 := VS_mono (S' := fun b => base ≤ b ∧ v.ownBlock ≠ some b ∧ b < w1.heap.size) h fun b hb hs => ⟨hs.1, hs.2, hb⟩
    have h2 : VS w2 (fun b => base ≤ b ∧ v.ownBlock ≠ some b ∧ b < w1.heap.size) g a' := VS_ks h1 fun b hs hlt => (hgrow.block b (by rw [World.size_alloc]; omega) (fun e => hs.2.1 e.symm)).trans ((Ex.new _ _).block b hlt)
    have h3 : VS (w2.setCell ⟨out, oo, none⟩ u) (fun b => base ≤ b ∧ v.ownBlock ≠ some b ∧ b < w1.heap.size) g a' := VS_ks h2 fun b hs _ => Below.heap_setCell _ _ _ _ (by show b ≠ out; omega)
    refine VS_mono h3 fun b _ hs => ⟨hs.1, fun e => ?_⟩
    have e' : gg = b := by simpa [Value.ownBlock] using e
    rcases hat with h | h
    · exact hs.2.1 (by rw [h, e'])
    · have := hs.2.2; omega
  intro j hj
  by_cases h : j < k
  · obtain ⟨h0, a', c', h1, h2⟩ := KI j h
    exact ⟨by rw [List.getElem?_append_left (by omega)]; exact h0, a', c', by rw [List.getElem?_append_left (by omega)]; exact h1, move _ _ (VS_ks h2 fun b _ hlt => hb2.block b hlt)⟩
  · have e : j = k := by omega
    subst e
    refine ⟨by rw [List.getElem?_append_right (by omega)]; simp [hcs], a2, k2, by rw [List.getElem?_append_right (by omega)]; simp [hcs], move _ _ (VS_mono ht2 fun b _ hb => ⟨Nat.le_trans hbase hb, fun e => by have := hvb b e; omega⟩)⟩

/-- What l1Anew tells. -/
def AnPost (n : Int) (f : F) (w : World) (e : Ending) (w' : World) : Prop := ∃ a' c', e = .returned (.agg #[.int .i64 n, .slice a' (len f) c']) ∧ VT w' w.heap.size f a' ∧ Ex w w'

set_option maxRecDepth 100000 in
set_option maxHeartbeats 4000000 in
theorem l1Anew_any : ∀ (d : Nat) (n : Int) (f : F) (a : Option Addr) (c lo : Nat) (w : World), dep f < d → len f ≤ 1000000000 → Sm f → VA w lo f a →
    Calls Tryz.prog 24 #[.agg #[.int .i64 n, .slice a (len f) c]] w (AnPost n f w) := by
  intro d
  induction d with
  | zero => intro n f a c lo w hd; omega
  | succ d ih =>
    intro n f a c lo w hd hl hs hT
    have T : Hid (VA w lo f a) := hT
    have I : Hid _ := ih
    have SS : Hid (Sm f) := hs
    obtain ⟨i0, hi, hz0, hz1, hz2⟩ := info_parts Tryz.info55
    clear hT ih hs
    go_enter Tryz.func24, Tryz.ntmps24
    go_wp2_with fail
    go_loopw [4] (fun i wr => ∃ (k : Nat) (v : Value) (cs : List Value), k ≤ len f ∧ i = .int .i64 k ∧ Ex (w.alloc (.cells #[.int .i64 n, .slice a (len f) c] 55)) wr ∧ wr.heap[w.heap.size + 1]? = some (.cells #[.int .i64 0, .slice none 0 0] 55 (0, 0)) ∧ wr.heap[w.heap.size + 2]? = some (.cells #[.int .i64 n, v] 55 (0, 0)) ∧ wr.ownsRow (w.heap.size + 3) 55 2 v k cs ∧ (∀ j, j < k → cs[j * 2]? = some (.int .i64 (num f j)) ∧ ∃ a' c', cs[j * 2 + 1]? = some (.slice a' (len (kid f j)) c') ∧ VS wr (fun b => w.heap.size + 3 ≤ b ∧ v.ownBlock ≠ some b) (kid f j) a')) (fun i _ => len f - (intOf i).toNat)
    case atStart =>
      refine ⟨0, .slice none 0 0, [], Nat.zero_le _, rfl, (Ex.new _ _).alloc _, ?_, ?_, World.ownsRow_nil _ _ _ _, fun j hj => by omega⟩
      · exact (Ex.new _ _).blk (heap_alloc_at _ _ (by simp))
      · exact heap_alloc_at _ _ (by simp)
    case round =>
      obtain ⟨k, v, cs, hk, rfl, hx, hrb, hob, hown, hkids⟩ := hrel
      have hbx : wr.cell? ⟨w.heap.size, 1, none⟩ = some (.slice a (len f) c) := Ex.at hx (by simp)
      have hw : Ex w wr := (Ex.new _ _).trans hx
      have O : Hid (wr.ownsRow (w.heap.size + 3) 55 2 v k cs) := hown
      have KI : Hid _ := hkids
      have c0 := two_cell0 hob
      have c1 := two_cell1 hob
      have c2 := two_free (i := 1) hob
      have d0 := two_cell0 hrb
      have d1 := two_cell1 hrb
      have d2 := two_free (i := 0) hrb
      have d3 := two_free (i := 1) hrb
      clear hown hkids
      by_cases hlt : k < len f
      · obtain ⟨b, o, rfl, hlo, hbs, hkk⟩ := VA_at (VA_below T.out hw) (by omega)
        obtain ⟨hn1, a1, k1, hc1, ht1⟩ := hkk k hlt
        have IK : Hid (∀ w', Ex wr w' → Calls Tryz.prog 24 #[.agg #[.int .i64 (num f k), .slice a1 (len (kid f k)) k1]] w' (AnPost (num f k) (kid f k) w')) := fun w' h =>
          I.out (num f k) (kid f k) a1 k1 lo w' (by have := dep_kid f k hlt; omega) (Sm_kid SS.out k hlt).1 (Sm_kid SS.out k hlt).2 (VA_below ht1 h)
        have i1 : (0 : Int) ≤ (k : Int) := by omega
        have i2 : (k : Int) < (len f : Int) := by omega
        clear hkk ht1 d0 d1 d2 d3
        have z0 : w.heap.size + 2 < wr.heap.size := lt_of_block hob
        go_wp2_with fail
        go_region_law (first
          | (refine step_append_lies _ (by rfl) _ _ _ (by rfl) (w.heap.size + 3) 55 i0 _ 2 32 Tryz.underlying26 hi hz0 hz1 hz2 rfl (by omega) v k cs (by rfl) (World.ownsRow.alloc O1.out _) ⟨w1.heap.size, 0, none⟩ 1 1 [.int .i64 (num f k), .slice a2 (len (kid f k)) k2] (by rfl) (by rfl) (World.news_of_block (cs := #[.int .i64 (num f k), .slice a2 (len (kid f k)) k2]) (t := 55) (fr := (0, 0)) (heap_alloc_new w1 _)) (by simp [Value.oneCell']) (by omega) (by unfold maxLen; omega) (by omega) (by rw [World.size_alloc]; omega) (w1.heap.size + 1) (by simp) ?_; intro gg cap w2 hown2 hgrow hat hlt2; have p1 := two_cell1 (grown_blk hgrow (owns_row O1.out) (by omega) hob1); have p2 := two_free (i := 1) (grown_blk hgrow (owns_row O1.out) (by omega) hob1))
          | (rw [if_pos (by rfl)]; go_simp; go_at_call 24; refine (IK.out _ (Ex.refl _).drew).mono ?_; rintro e w1 ⟨a2, k2, rfl, ht2, hb2'⟩; have hb2 : Ex wr w1 := Ex.trans (Ex.drew (Ex.refl _)) hb2'; have q1 := Ex.at hb2 hbx; have q2 := Ex.at hb2 c1; have q3 := Ex.at hb2 hc1; have q4 := Ex.at hb2 hn1; have hob1 := hb2.blk hob; have O1 : Hid (w1.ownsRow (w.heap.size + 3) 55 2 v k cs) := owns_ex O.out hb2; have z1 := hb2.size; have z2 : w.heap.size + 2 < w1.heap.size := by omega))
        all_goals
          have KS := kidsV_step (out := w.heap.size + 2) (oo := 1) (u := .slice (some ⟨gg, 0, none⟩) (k + 1) cap) (cap := cap) (k2 := k2) O.out hb2 hgrow hat (by omega) KI.out ht2.va (by omega)
          have KS2 : Hid _ := KS
          have hob2 := grown_blk hgrow (owns_row O1.out) (by omega) hob1
          have hrb2 := grown_blk hgrow (owns_row O1.out) (by omega) (hb2.blk hrb)
          have HX : Hid (Ex (w.alloc (.cells #[.int .i64 n, .slice (some ⟨b, o, none⟩) (len f) c] 55)) w2) := (hx.trans hb2).grown hgrow (owns_row O1.out) (by rw [World.size_alloc]; omega)
          have HO : Hid _ := hown2
          clear KS hgrow hown2
          go_wp2_with fail
          go_roundw
          case rel =>
            refine ⟨k + 1, .slice (some ⟨gg, 0, none⟩) (k + 1) cap, cs ++ [.int .i64 (num f k), .slice a2 (len (kid f k)) k2], by omega, by go_num, HX.out.set ?_ _, ?_, two_set1 hob2, ownsRow_setCell_below HO.out ?_ _, KS2.out⟩
            · rw [World.size_alloc]; show w.heap.size + 1 ≤ w.heap.size + 2; omega
            · rw [Below.heap_setCell _ _ _ _ (by show w.heap.size + 1 ≠ w.heap.size + 2; omega)]; exact hrb2
            · show w.heap.size + 2 < w.heap.size + 3; omega
          case measure => simp [intOf]; omega
      · have hke : k = len f := by omega
        obtain ⟨hcl, ⟨hv, h0⟩ | ⟨g, cap, cur, hv, hg, hgc, _, _, _, htk⟩⟩ := O.out
        · subst hv
          have HK : Hid (len f = 0) := by show _ = _; omega
          clear hke h0
          go_wp2_with fail
          have hb2 := two_set (u' := .int .i64 n) (v' := .slice none 0 0) hrb
          have hr0 := two_cell0 hb2
          have hr1 := two_cell1 hb2
          exact bodyPost_ret (v := .agg #[.int .i64 n, .slice none 0 0]) (by simp [results, Tryz.results24, go_sem, hr0, hr1]) rfl ⟨none, 0, by rw [HK.out], Or.inl HK.out, (hw.set (by show w.heap.size ≤ w.heap.size + 1; omega) _).set (by show w.heap.size ≤ w.heap.size + 1; omega) _⟩
        · subst hv
          have HK : Hid (k = len f) := hke
          have TK : Hid _ := htk
          have HG : Hid _ := hgc
          clear hke htk hgc
          go_wp2_with fail
          have hb2 := two_set (u' := .int .i64 n) (v' := .slice (some ⟨g, 0, none⟩) k cap) hrb
          have hr0 := two_cell0 hb2
          have hr1 := two_cell1 hb2
          refine bodyPost_ret (v := .agg #[.int .i64 n, .slice (some ⟨g, 0, none⟩) k cap]) (by simp [results, Tryz.results24, go_sem, hr0, hr1]) rfl ⟨some ⟨g, 0, none⟩, cap, by rw [HK.out], Or.inr ⟨g, cur, rfl, by omega, ?_, fun i hi => ?_⟩, (hw.set (by show w.heap.size ≤ w.heap.size + 1; omega) _).set (by show w.heap.size ≤ w.heap.size + 1; omega) _⟩
          · rw [Below.heap_setCell _ _ _ _ (by show g ≠ w.heap.size + 1; omega), Below.heap_setCell _ _ _ _ (by show g ≠ w.heap.size + 1; omega)]; exact HG.out
          have hi' : i < k := by have := HK.out; omega
          obtain ⟨h0, a', c', h1, h2⟩ := KI.out i hi'
          have ht := TK.out
          rw [← ht, List.getElem?_take_of_lt (by omega)] at h0 h1
          refine ⟨by simpa using h0, a', c', by simpa using h1, ?_⟩
          refine VS_mono (VS_ks h2 fun b hb _ => by rw [Below.heap_setCell _ _ _ _ (by show b ≠ w.heap.size + 1; omega), Below.heap_setCell _ _ _ _ (by show b ≠ w.heap.size + 1; omega)]) fun b _ hb => ⟨by omega, fun e => hb.2 (by rw [e]; rfl)⟩

theorem any_same (n : Int) (f : F) : ((sh 4 f).isSome = true → ∀ u, sh 4 f = some u → valOk u n f = (vType 4 n f).isSome) ∧ ((sh 4 f).isSome = false → (vType 4 n f).isSome = false) := by
  refine ⟨fun _ u hu => ?_, fun h => ?_⟩
  · unfold valOk
    cases hv : vType 4 n f with
    | none => simp [ofType]
    | some t =>
      have := vType_sh 4 n f t hv
      rw [hu] at this
      cases this
      simp [vType_fits 4 n f u hv, ofType, eqT_refl]
  · cases hv : vType 4 n f with
    | none => rfl
    | some t => rw [vType_sh 4 n f t hv] at h; cases h

set_option maxRecDepth 100000 in
set_option maxHeartbeats 2000000 in
theorem l1Any_any (n : Int) (f : F) (a : Option Addr) (c lo : Nat) (w : World) (hl : len f ≤ 1000000000) (hs : Sm f) (hV : VA w lo f a) :
    Calls Tryz.prog 22 #[.agg #[.int .i64 n, .slice a (len f) c]] w fun e w' => e = .returned (.bool (vType 4 n f).isSome) ∧ Ex w w' := by
  have V : Hid (∀ w', Ex w w' → VA w' lo f a) := fun _ h => VA_below hV h
  have SM : Hid (len f ≤ 1000000000 ∧ Sm f) := ⟨hl, hs⟩
  have Q : Hid _ := any_same n f
  clear hV hs hl
  generalize (vType 4 n f).isSome = z at *
  go_enter Tryz.func22, Tryz.ntmps22
  go_wp2_with fail
  refine (l1Of_any 4 4 n f a c lo _ rfl (by omega) (V.out _ (Ex.new _ _))).mono ?_
  rintro e w1 ⟨a1, m1, c1, rfl, hu, hb1⟩
  have x1 : Ex w w1 := (Ex.new _ _).trans hb1
  have q0 : w1.cell? ⟨w.heap.size, 0, none⟩ = some (.int .i64 n) := hb1.at (by simp)
  have q1 : w1.cell? ⟨w.heap.size, 1, none⟩ = some (.slice a (len f) c) := hb1.at (by simp)
  have z1 : w.heap.size < w1.heap.size := World.block_lt_of_cell? _ _ q0
  cases hsh : sh 4 f with
  | none =>
    have hz := Q.out.2 (by rw [hsh]; rfl)
    subst hz
    simp only [Option.isSome_none]
    clear hu hsh
    go_wp2_with fail
    go_ret
    exact ⟨rfl, x1.alloc _⟩
  | some u =>
    obtain ⟨hm, ht⟩ := hu u hsh
    subst hm
    have HZ : Hid (valOk u n f = z) := Q.out.1 (by rw [hsh]; rfl) u hsh
    have T1 : Hid _ := ht
    simp only [Option.isSome_some]
    clear hu ht hsh
    go_wp2_with fail
    refine (sValOk_any u n f a a1 c c1 lo _ _ SM.out.1 SM.out.2 (V.out _ (x1.alloc _)) (TA_below T1.out (Ex.new _ _))).mono ?_
    rintro e w2 ⟨rfl, hb2⟩
    go_wp2_with fail
    go_ret
    exact ⟨ret_b HZ.out, (x1.alloc _).trans hb2⟩

end Go.Proofs.YtldbmlojgakieaaGreatDoor

namespace Go.Proofs.YtldbmlojgakieaaGreatDoor

open Go.RowKit Go.Deep

attribute [local go_sem ↓] Go.wp_at_zero Go.wp_at_succ

theorem sm_two {f : F} (h2 : len f = 2) (h0 : len (kid f 0) ≤ 2 ∧ Sm (kid f 0)) (h1 : len (kid f 1) ≤ 2 ∧ Sm (kid f 1)) : Sm f := by
  match f, h2 with
  | .node _ _ _ k (.node _ _ _ k' .nil), _ => exact ⟨by have := h0.1; simp only [kid] at this; omega, h0.2, ⟨by have := h1.1; simp only [kid] at this; omega, h1.2, trivial⟩⟩
theorem dep_two {f : F} (h2 : len f = 2) : dep f = max (dep (kid f 0) + 1) (dep (kid f 1) + 1) := by
  match f, h2 with
  | .node _ _ _ k (.node _ _ _ k' .nil), _ => simp [dep, kid]
theorem sm_nil {f : F} (h : len f = 0) : Sm f ∧ dep f = 0 := by
  match f, h with
  | .nil, _ => exact ⟨trivial, rfl⟩

theorem vType_sm : ∀ (r : Nat) (n : Int) (f u : F), vType r n f = some u → len f ≤ 2 ∧ Sm f ∧ dep f < r
  | 0, n, f, u, h => by simp [vType] at h
  | r + 1, n, f, u, h => by
    obtain h0 | ⟨h2, hn, a, b, ha, hb⟩ := vType_some h
    · have := sm_nil h0; exact ⟨by omega, this.1, by omega⟩
    · have i0 := vType_sm r _ _ _ ha
      have i1 := vType_sm r _ _ _ hb
      exact ⟨by omega, sm_two h2 ⟨i0.1, i0.2.1⟩ ⟨i1.1, i1.2.1⟩, by rw [dep_two h2]; omega⟩

theorem vType_kid {r : Nat} {n : Int} {g u : F} (h : vType r n g = some u) (hr : r ≤ 4) (i : Nat) (hi : i < len g) : ∃ r' u', r' ≤ 4 ∧ vType r' (num g i) (kid g i) = some u' := by
  cases r with
  | zero => simp [vType] at h
  | succ r =>
    obtain h0 | ⟨h2, hn, a, b, ha, hb⟩ := vType_some h
    · omega
    · have : i = 0 ∨ i = 1 := by omega
      rcases this with rfl | rfl
      · exact ⟨r, a, by omega, ha⟩
      · exact ⟨r, b, by omega, hb⟩

/-- What ValAt tells. -/
def VAtPost (n : Int) (f : F) (p : List Int) (w : World) (e : Ending) (w' : World) : Prop := ∃ a' cap', e = .returned (.tuple #[.agg #[.int .i64 (valAtR n f p).1.1, .slice a' (len (valAtR n f p).1.2) cap'], .bool (valAtR n f p).2]) ∧ VA w' w.heap.size (valAtR n f p).1.2 a' ∧ Ex w w'

theorem VAtPost.none {n : Int} {f : F} {p : List Int} {w w' : World} (h : valAtR n f p = ((0, .nil), false)) (hx : Ex w w') : VAtPost n f p w (.returned (.tuple #[.agg #[.int .i64 0, .slice Option.none 0 0], .bool false])) w' :=
  ⟨Option.none, 0, by rw [h]; rfl, by rw [h]; exact Or.inl rfl, hx⟩

set_option maxRecDepth 100000 in
set_option maxHeartbeats 4000000 in
theorem sValAt_any (n : Int) (f : F) (p : List Int) (a : Option Addr) (cap : Nat) (pa : Option Addr) (pc : Nat) (lo : Nat) (w : World) (hp : p.length ≤ 1000000000) (hl : len f ≤ 1000000000) (hs : Sm f) (hT : VA w lo f a) (hP : PA w 0 p pa) :
    Calls Tryz.prog 93 #[.agg #[.int .i64 n, .slice a (len f) cap], .slice pa p.length pc] w (VAtPost n f p w) := by
  have T : Hid (VA w lo f a) := hT
  have P : Hid (PA w 0 p pa) := hP
  have IA : Hid (∀ w', Ex w w' → Calls Tryz.prog 22 #[.agg #[.int .i64 n, .slice a (len f) cap]] w' fun e w'' => e = .returned (.bool (vType 4 n f).isSome) ∧ Ex w' w'') := fun w' h => l1Any_any n f a cap lo w' hl hs (VA_below hT h)
  clear hT hP hl hs
  go_enter Tryz.func93, Tryz.ntmps93
  go_wp2_with fail
  refine (IA.out _ ((Ex.new _ _).alloc _)).mono ?_
  rintro e w1 ⟨rfl, hb1⟩
  have hx1 : Ex w w1 := ((Ex.new _ _).alloc _).trans hb1
  have hbx : w1.heap[w.heap.size]? = some (.cells #[.int .i64 n, .slice a (len f) cap] 55 (0, 0)) := hb1.blk ((Ex.new _ _).blk (heap_alloc_new _ _))
  have hrs : w1.heap[w.heap.size + 1]? = some (.cells #[.int .i64 0, .slice none 0 0] 55 (0, 0)) := hb1.blk (heap_alloc_at _ _ (by simp))
  have d0 := two_cell0 hrs
  have d1 := two_cell1 hrs
  have d2 := two_free (i := 0) hrs
  have d3 := two_free (i := 1) hrs
  have FI : Hid (∀ W0 W, W0.heap[w.heap.size + 1]? = some (.cells #[.int .i64 0, .slice none 0 0] 55 (0, 0)) → Ex w W0 → W = (W0.setCell ⟨w.heap.size + 1, 0, none⟩ (.int .i64 0)).setCell ⟨w.heap.size + 1, 1, none⟩ (.slice none 0 0) → W.cell? ⟨w.heap.size + 1, 0, none⟩ = some (.int .i64 0) ∧ W.cell? ⟨w.heap.size + 1, 1, none⟩ = some (.slice none 0 0) ∧ Ex w W) := fun W0 W h1 h2 h3 => by
    subst h3
    have := two_set (u' := .int .i64 0) (v' := .slice none 0 0) h1
    exact ⟨two_cell0 this, two_cell1 this, (h2.set (Nat.le_succ _) _).set (Nat.le_succ _) _⟩
  cases hf : vType 4 n f with
  | none =>
    have HR : Hid (valAtR n f p = ((0, .nil), false)) := by simp [Hid, valAtR, hf]
    simp only [Option.isSome_none]
    clear hf
    go_wp2_with fail
    obtain ⟨hr0, hr1, hxf⟩ := FI.out w1 _ hrs hx1 rfl
    refine bodyPost_ret (v := .tuple #[.agg #[.int .i64 0, .slice none 0 0], .bool false]) (by simp [results, Tryz.results93, go_sem, hr0, hr1]) rfl ?_
    exact VAtPost.none HR.out hxf
  | some u0 =>
  have HF : Hid (vType 4 n f = some u0) := hf
  simp only [Option.isSome_some]
  clear hf
  go_wp2_with fail
  go_loopw [6] (fun i wr => ∃ (k : Nat) (m : Int) (g : F) (a' : Option Addr) (cap' : Nat), k ≤ p.length ∧ i = .int .i64 k ∧ partV m g (p.drop k) = partV n f p ∧ VA w lo g a' ∧ (∃ r u, r ≤ 4 ∧ vType r m g = some u) ∧ Ex w wr ∧ wr.heap[w.heap.size]? = some (.cells #[.int .i64 m, .slice a' (len g) cap'] 55 (0, 0)) ∧ wr.heap[w.heap.size + 1]? = some (.cells #[.int .i64 0, .slice none 0 0] 55 (0, 0))) (fun i _ => p.length - (intOf i).toNat)
  case atStart => exact ⟨0, n, f, a, cap, Nat.zero_le _, rfl, rfl, T.out, ⟨4, u0, Nat.le_refl _, HF.out⟩, hx1, hbx, hrs⟩
  case round =>
    obtain ⟨k, m, g, a', cap', hk, rfl, hpg, hg, ⟨r, u, hr4, hfr⟩, hx, hbx, hrs⟩ := hrel
    have PG : Hid (partV m g (p.drop k) = partV n f p) := hpg
    have TG : Hid (VA w lo g a') := hg
    have FG : Hid (vType r m g = some u) := hfr
    clear hpg hg hfr d0 d1 d2 d3
    have b0 := two_cell0 hbx
    have b1 := two_cell1 hbx
    have b2 := two_free (i := 0) hbx
    have b3 := two_free (i := 1) hbx
    have d0 := two_cell0 hrs
    have d1 := two_cell1 hrs
    have d2 := two_free (i := 0) hrs
    have d3 := two_free (i := 1) hrs
    have SM : Hid (len g ≤ 2 ∧ Sm g ∧ dep g < r) := vType_sm r m g u FG.out
    by_cases hlt : k < p.length
    · obtain ⟨pb, po, rfl, hpb, _, hpc⟩ := PA_at (PA_below P.out hx) (by omega)
      obtain ⟨x, hxe⟩ : ∃ x, x = p.getD k 0 := ⟨_, rfl⟩
      have hck := hpc k hlt
      rw [← hxe] at hck
      have hpd : partV n f p = if 0 ≤ x ∧ x < len g then partV (num g x.toNat) (kid g x.toNat) (p.drop (k + 1)) else none := by
        rw [← PG.out, drop_cons p k hlt, ← hxe]; rfl
      have PD : Hid _ := hpd
      have hsz := SM.out.1
      have KS : Hid (∀ w', Ex wr w' → (Ex wr w' ∧ w'.cell? ⟨w.heap.size, 1, none⟩ = some (.slice a' (len g) cap') ∧ w'.cell? ⟨pb, po + k, none⟩ = some (.int .i64 x))) := fun w' h => ⟨h, Ex.at h b1, Ex.at h hck⟩
      have wr1 : IntKind.i64.wrap ((len g : Int) - 1) = (len g : Int) - 1 := by rw [IntKind.wrap_i64]; omega
      have i0 : (0 : Int) ≤ (k : Int) := by omega
      have i1 : (k : Int) < (p.length : Int) := by omega
      clear hpc hxe hpd
      go_wp2_with fail
      go_region_held3 (fun w' => Ex wr w' ∧ w'.cell? ⟨w.heap.size, 1, none⟩ = some (.slice a' (len g) cap') ∧ w'.cell? ⟨pb, po + k, none⟩ = some (.int .i64 x)) ((refine KS.out _ ?_; first | exact (Ex.refl _).drew | exact Ex.trans (And.left ‹Ex _ _ ∧ _›) ‹Ex _ _›)) (first | (go_at_call 91; refine (l6In_any _ _ _ _).mono ?_; rintro e w2 ⟨rfl, hb2⟩))
      have hx2 : Ex wr w2 := And.left ‹Ex wr w2 ∧ _›
      have hbx2 := hx2.blk hbx
      have hrs2 := hx2.blk hrs
      have hck2 := hx2.at hck
      have hxw : Ex w w2 := hx.trans hx2
      clear b0 b1 b2 b3 d0 d1 d2 d3
      have b0 := two_cell0 hbx2
      have b1 := two_cell1 hbx2
      have b2 := two_free (i := 0) hbx2
      have b3 := two_free (i := 1) hbx2
      have d0 := two_cell0 hrs2
      have d1 := two_cell1 hrs2
      have d2 := two_free (i := 0) hrs2
      have d3 := two_free (i := 1) hrs2
      by_cases hxx : 0 ≤ x ∧ x < len g
      · obtain ⟨hx0, hxl⟩ := hxx
        have e0 : decide (0 ≤ x) = true := by simp; omega
        have e1 : decide (x ≤ (len g : Int) - 1) = true := by simp; omega
        obtain ⟨b, o, rfl, hlo, hbs, hkk⟩ := VA_at TG.out (by omega)
        obtain ⟨hn3, a3, k3, hc3, ht3⟩ := hkk x.toNat (by omega)
        have hc3' := hxw.at hc3
        have hn3' := hxw.at hn3
        have T3 : Hid (VA w lo (kid g x.toNat) a3) := ht3
        clear hkk hc3 ht3 hn3
        rw [e0, e1]
        go_wp2_with fail
        go_region
        go_wp2_with fail
        go_roundw
        case rel =>
          exact ⟨k + 1, num g x.toNat, kid g x.toNat, a3, k3, by omega, by go_num, by rw [PD.out, if_pos ⟨hx0, hxl⟩], T3.out, vType_kid FG.out hr4 _ (by omega), ((hxw.set (Nat.le_refl _) _).set (Nat.le_refl _) _).drew, two_set hbx2, (Below.heap_setCell _ _ _ _ (by show w.heap.size + 1 ≠ w.heap.size; omega)).trans ((Below.heap_setCell _ _ _ _ (by show w.heap.size + 1 ≠ w.heap.size; omega)).trans hrs2)⟩
        case measure => simp [intOf]; omega
      · have HN : Hid (partV n f p = none) := by show _ = _; rw [PD.out, if_neg hxx]
        have HR : Hid (valAtR n f p = ((0, .nil), false)) := by simp [Hid, valAtR, HN.out]
        by_cases hx0 : 0 ≤ x
        · have e0 : decide (0 ≤ x) = true := by simp; omega
          have e1 : decide (x ≤ (len g : Int) - 1) = false := by simp; omega
          rw [e0, e1]
          go_wp2_with fail
          obtain ⟨hr0, hr1, hxf⟩ := FI.out w2 _ hrs2 hxw rfl
          refine bodyPost_ret (v := .tuple #[.agg #[.int .i64 0, .slice none 0 0], .bool false]) (by simp [results, Tryz.results93, go_sem, hr0, hr1]) rfl ?_
          exact VAtPost.none HR.out hxf
        · have e0 : decide (0 ≤ x) = false := by simp; omega
          have e1 : decide (x ≤ (len g : Int) - 1) = true := by simp; omega
          rw [e0, e1]
          go_wp2_with fail
          obtain ⟨hr0, hr1, hxf⟩ := FI.out w2 _ hrs2 hxw rfl
          refine bodyPost_ret (v := .tuple #[.agg #[.int .i64 0, .slice none 0 0], .bool false]) (by simp [results, Tryz.results93, go_sem, hr0, hr1]) rfl ?_
          exact VAtPost.none HR.out hxf
    · have hd : p.drop k = [] := List.drop_eq_nil_of_le (by omega)
      have hs : partV n f p = some (m, g) := by rw [← PG.out, hd]; rfl
      have HR : Hid (valAtR n f p = ((m, g), true)) := by simp [Hid, valAtR, HF.out, hs]
      have hsm := SM.out
      clear hs hd
      go_wp2_with fail
      refine (l1Anew_any (dep g + 1) m g a' cap' lo _ (by omega) (by omega) hsm.2.1 (VA_below TG.out hx)).mono ?_
      rintro e w3 ⟨a3, k3, rfl, ht3, hb3⟩
      have hrs3 := hb3.blk hrs
      have T3 : Hid _ := ht3.va
      have z3 := lt_of_block hrs
      clear ht3 b0 b1 b2 b3 d0 d1 d2 d3
      have d0 := two_cell0 hrs3
      have d1 := two_cell1 hrs3
      have d2 := two_free (i := 0) hrs3
      have d3 := two_free (i := 1) hrs3
      go_wp2_with fail
      have hb4 := two_set (u' := .int .i64 m) (v' := .slice a3 (len g) k3) hrs3
      have hr0 := two_cell0 hb4
      have hr1 := two_cell1 hb4
      refine bodyPost_ret (v := .tuple #[.agg #[.int .i64 m, .slice a3 (len g) k3], .bool true]) (by simp [results, Tryz.results93, go_sem, hr0, hr1]) rfl ⟨a3, k3, by rw [HR.out], ?_, ((hx.trans hb3).set (Nat.le_succ _) _).set (Nat.le_succ _) _⟩
      rw [HR.out]
      exact VA_lo (VA_kp T3.out (((Kp.refl _ _).set (Or.inl (by show w.heap.size + 1 < _; omega)) _).set (Or.inl (by show w.heap.size + 1 < _; omega)) _)) (by omega)

end Go.Proofs.YtldbmlojgakieaaGreatDoor

namespace Go.Proofs.YtldbmlojgakieaaGreatDoor

open Go.RowKit Go.Deep

theorem vType_up : ∀ (r : Nat) (n : Int) (f u : F), vType r n f = some u → vType (r + 1) n f = some u
  | 0, n, f, u, h => by simp [vType] at h
  | r + 1, n, f, u, h => by
    by_cases h0 : len f = 0
    · rw [vType_num h0] at h ⊢; exact h
    · by_cases hb : len f = 2 ∧ n = 0
      · rw [vType_two hb.1 hb.2] at h ⊢
        cases ha : vType r (num f 0) (kid f 0) with
        | none => rw [ha] at h; cases h
        | some a =>
          cases hc : vType r (num f 1) (kid f 1) with
          | none => rw [ha, hc] at h; cases h
          | some b => rw [ha, hc] at h; rw [vType_up r _ _ _ ha, vType_up r _ _ _ hc]; exact h
      · rw [vType_bad h0 hb] at h; cases h

theorem partV_append : ∀ (p q : List Int) (n : Int) (f : F), partV n f (p ++ q) = (partV n f p).bind fun g => partV g.1 g.2 q
  | [], q, n, f => rfl
  | i :: p, q, n, f => by
    simp only [List.cons_append, partV]
    split
    · exact partV_append p q _ _
    · rfl

/-- A part of a value of a type is of that type's part. -/
theorem partV_type : ∀ (p : List Int) (r : Nat) (n : Int) (f u : F), vType r n f = some u →
    (∀ m g, partV n f p = some (m, g) → ∃ v, partF u p = some v ∧ vType r m g = some v) ∧ (partV n f p = none → partF u p = none)
  | [], r, n, f, u, h => ⟨fun m g e => by cases e; exact ⟨u, rfl, h⟩, fun e => by cases e⟩
  | i :: p, 0, n, f, u, h => by simp [vType] at h
  | i :: p, r + 1, n, f, u, h => by
    have hu : len u = len f := by
      obtain h0 | ⟨h2, hn, a, b, ha, hb⟩ := vType_some h
      · rw [vType_num h0] at h
        split at h
        · cases h; rw [h0]; rfl
        · cases h
      · rw [vType_two h2 hn, ha, hb] at h; cases h; rw [h2]; rfl
    by_cases hi : 0 ≤ i ∧ i < len f
    · have hi' : 0 ≤ i ∧ i < len u := by omega
      simp only [partV, partF, if_pos hi, if_pos hi']
      obtain h0 | ⟨h2, hn, a, b, ha, hb⟩ := vType_some h
      · omega
      · rw [vType_two h2 hn, ha, hb] at h
        cases h
        have : i.toNat = 0 ∨ i.toNat = 1 := by omega
        rcases this with e | e <;> rw [e]
        · have := partV_type p r _ _ a ha
          exact ⟨fun m g he => by obtain ⟨v, h1, h2⟩ := this.1 m g he; exact ⟨v, h1, vType_up r _ _ _ h2⟩, this.2⟩
        · have := partV_type p r _ _ b hb
          exact ⟨fun m g he => by obtain ⟨v, h1, h2⟩ := this.1 m g he; exact ⟨v, h1, vType_up r _ _ _ h2⟩, this.2⟩
    · have hi' : ¬ (0 ≤ i ∧ i < len u) := by omega
      simp only [partV, partF, if_neg hi, if_neg hi']
      exact ⟨fun m g e => (by cases e), fun _ => by trivial⟩

theorem valAt_ok {n : Int} {f : F} {p : List Int} (h : (valAtR n f p).2 = true) : ∃ u m g v, vType 4 n f = some u ∧ partV n f p = some (m, g) ∧ vType 4 m g = some v ∧ partF u p = some v ∧ valAtR n f p = ((m, g), true) := by
  cases hf : vType 4 n f with
  | none => simp [valAtR, hf] at h
  | some u =>
    cases hp : partV n f p with
    | none => simp [valAtR, hf, hp] at h
    | some mg =>
      obtain ⟨m, g⟩ := mg
      obtain ⟨v, h1, h2⟩ := (partV_type p 4 n f u hf).1 m g hp
      exact ⟨u, m, g, v, rfl, rfl, h2, h1, by simp [valAtR, hf, hp]⟩

theorem valAt_of {n : Int} {f u : F} {p : List Int} {m : Int} {g : F} (hf : vType 4 n f = some u) (hp : partV n f p = some (m, g)) : valAtR n f p = ((m, g), true) := by simp [valAtR, hf, hp]

theorem valAt_cut {n : Int} {f : F} {p : List Int} (h : (valAtR n f p).2 = true) (cut : Nat) : (valAtR n f (p.take cut)).2 = true ∧ valAtR (valAtR n f (p.take cut)).1.1 (valAtR n f (p.take cut)).1.2 (p.drop cut) = valAtR n f p := by
  obtain ⟨u, m, g, v, hf, hp, hv, _, he⟩ := valAt_ok h
  have ha := partV_append (p.take cut) (p.drop cut) n f
  rw [List.take_append_drop, hp] at ha
  cases h1 : partV n f (p.take cut) with
  | none => rw [h1] at ha; cases ha
  | some mg =>
    obtain ⟨m1, g1⟩ := mg
    rw [h1] at ha
    obtain ⟨v1, _, h2⟩ := (partV_type _ 4 n f u hf).1 m1 g1 h1
    rw [valAt_of hf h1]
    refine ⟨rfl, ?_⟩
    rw [he]
    exact valAt_of h2 ha.symm

theorem valAt_sm (n : Int) (f : F) (p : List Int) : len (valAtR n f p).1.2 ≤ 1000000000 ∧ Sm (valAtR n f p).1.2 ∧ dep (valAtR n f p).1.2 ≤ 4 := by
  cases h : (valAtR n f p).2 with
  | true =>
    obtain ⟨u, m, g, v, hf, hp, hv, _, he⟩ := valAt_ok h
    have := vType_sm 4 m g v hv
    rw [he]
    exact ⟨by show len g ≤ _; omega, this.2.1, by show dep g ≤ _; omega⟩
  | false =>
    have : valAtR n f p = ((0, .nil), false) := by
      unfold valAtR at h ⊢
      split
      · rename_i m g e; rw [e] at h; cases h
      · rfl
    rw [this]
    exact ⟨by show len .nil ≤ _; simp [len], trivial, by show dep .nil ≤ _; simp [dep]⟩

theorem VA_set {w : World} {lo : Nat} {f : F} {a : Option Addr} (h : VA w lo f a) {p : Addr} (hp : p.block < lo) (v : Value) : VA (w.setCell p v) lo f a :=
  VS_ks h fun b hb _ => Below.heap_setCell _ _ _ _ (by have : lo ≤ b := hb; omega)

end Go.Proofs.YtldbmlojgakieaaGreatDoor

namespace Go.Proofs.YtldbmlojgakieaaGreatDoor

open Go.RowKit Go.Deep

attribute [local go_sem ↓] Go.wp_at_zero Go.wp_at_succ

/-- A list of values lies in blocks of its own, all in S, that may be written, and no two of its lists share any; at most so deep. -/
def VO : Nat → World → (Nat → Prop) → F → Option Addr → Prop
  | 0, _, _, f, _ => len f = 0
  | d + 1, w, S, f, a => len f = 0 ∨ ∃ (g : Nat) (cur : Array Value) (K : Nat → Nat → Prop), a = some ⟨g, 0, none⟩ ∧ S g ∧ w.heap[g]? = some (.cells cur 55 (0, 0)) ∧
      ∀ i, i < len f → (∀ b, K i b → S b ∧ b ≠ g) ∧ (∀ j, j < len f → j ≠ i → ∀ b, K i b → ¬ K j b) ∧ cur[i * 2]? = some (.int .i64 (num f i)) ∧ ∃ a' c', cur[i * 2 + 1]? = some (.slice a' (len (kid f i)) c') ∧ VO d w (K i) (kid f i) a'

theorem VO.vs : ∀ {d : Nat} {w : World} {S : Nat → Prop} {f : F} {a : Option Addr}, VO d w S f a → VS w S f a
  | 0, _, _, _, _, h => Or.inl h
  | d + 1, w, S, f, a, h => by
    rcases h with h | ⟨g, cur, K, e, hg, hc, hk⟩
    · exact Or.inl h
    · subst e
      refine VS_mk hg fun i hi => ?_
      obtain ⟨h0, _, h1, a', c', h2, h3⟩ := hk i hi
      exact ⟨by rw [Nat.zero_add, cell_cur hc]; exact h1, a', c', by rw [Nat.zero_add, cell_cur hc]; exact h2, VS_mono h3.vs fun b _ hb => (h0 b hb).1⟩

theorem VO.ks : ∀ {d : Nat} {w w' : World} {S : Nat → Prop} {f : F} {a : Option Addr}, VO d w S f a → Ks S w w' → VO d w' S f a
  | 0, _, _, _, _, _, h, _ => h
  | d + 1, w, w', S, f, a, h, hk => by
    rcases h with h | ⟨g, cur, K, e, hg, hc, hkk⟩
    · exact Or.inl h
    · refine Or.inr ⟨g, cur, K, e, hg, (hk g hg (lt_of_block hc)).trans hc, fun i hi => ?_⟩
      obtain ⟨h0, h1, h2, a', c', h3, h4⟩ := hkk i hi
      exact ⟨h0, h1, h2, a', c', h3, h4.ks fun b hb hlt => hk b (h0 b hb).1 hlt⟩

theorem VO.mono : ∀ {d : Nat} {w : World} {S S' : Nat → Prop} {f : F} {a : Option Addr}, VO d w S f a → (∀ b, b < w.heap.size → S b → S' b) → VO d w S' f a
  | 0, _, _, _, _, _, h, _ => h
  | d + 1, w, S, S', f, a, h, hl => by
    rcases h with h | ⟨g, cur, K, e, hg, hc, hkk⟩
    · exact Or.inl h
    · refine Or.inr ⟨g, cur, fun i b => K i b ∧ b < w.heap.size, e, hl g (lt_of_block hc) hg, hc, fun i hi => ?_⟩
      obtain ⟨h0, h1, h2, a', c', h3, h4⟩ := hkk i hi
      exact ⟨fun b hb => ⟨hl b hb.2 (h0 b hb.1).1, (h0 b hb.1).2⟩, fun j hj hne b hb hb' => h1 j hj hne b hb.1 hb'.1, h2, a', c', h3, h4.mono fun b hb hs => ⟨hs, hb⟩⟩

theorem VO.ex {d : Nat} {w w' : World} {S : Nat → Prop} {f : F} {a : Option Addr} (h : VO d w S f a) (hx : Ex w w') : VO d w' S f a := h.ks fun b _ hlt => hx.block b hlt
theorem VO.nil (d : Nat) (w : World) (S : Nat → Prop) (f : F) (a : Option Addr) (h : len f = 0) : VO d w S f a := by cases d; exact h; exact Or.inl h

/-- A pair in a block of its own. -/
theorem VO_two {d : Nat} {w : World} {S K0 K1 : Nat → Prop} {f : F} (h2 : len f = 2) {g : Nat} {a0 a1 : Option Addr} {k0 k1 : Nat} {n0 n1 : Int} (hg : S g)
    (hc : w.heap[g]? = some (.cells #[.int .i64 n0, .slice a0 (len (kid f 0)) k0, .int .i64 n1, .slice a1 (len (kid f 1)) k1] 55 (0, 0))) (e0 : n0 = num f 0) (e1 : n1 = num f 1)
    (hk0 : ∀ b, K0 b → S b ∧ b ≠ g ∧ ¬ K1 b) (hk1 : ∀ b, K1 b → S b ∧ b ≠ g) (t0 : VO d w K0 (kid f 0) a0) (t1 : VO d w K1 (kid f 1) a1) : VO (d + 1) w S f (some ⟨g, 0, none⟩) := by
  subst e0 e1
  refine Or.inr ⟨g, _, fun i => if i = 0 then K0 else K1, rfl, hg, hc, fun i hi => ?_⟩
  have : i = 0 ∨ i = 1 := by omega
  rcases this with rfl | rfl
  · refine ⟨fun b hb => ⟨(hk0 b hb).1, (hk0 b hb).2.1⟩, fun j hj hne b hb => ?_, rfl, a0, k0, rfl, t0⟩
    simp only [if_neg hne]; exact (hk0 b hb).2.2
  · refine ⟨fun b hb => hk1 b hb, fun j hj hne b hb hb' => ?_, rfl, a1, k1, rfl, t1⟩
    have : j = 0 := by omega
    subst this
    exact (hk0 b hb').2.2 hb

/-- What a copy tells. -/
def CpPost (d : Nat) (n : Int) (f : F) (w : World) (e : Ending) (w' : World) : Prop := ∃ a' c', e = .returned (.agg #[.int .i64 n, .slice a' (len f) c']) ∧ VO d w' (fun b => w.heap.size ≤ b) f a' ∧ Ex w w'

set_option maxRecDepth 100000 in
set_option maxHeartbeats 2000000 in
theorem valCopyO_any : ∀ (r : Nat) (n : Int) (f u : F) (a : Option Addr) (cap : Nat) (lo : Nat) (w : World), vType r n f = some u → VA w lo f a →
    Calls Tryz.prog 30 #[.agg #[.int .i64 n, .slice a (len f) cap]] w (CpPost r n f w)
  | 0, n, f, u, a, cap, lo, w, hf, hT => by simp [vType] at hf
  | r + 1, n, f, u, a, cap, lo, w, hf, hT => by
    by_cases h0 : len f = 0
    · have h0' : ((len f : Int) == 0) = true := by simp [h0]
      have H0 : Hid (len f = 0) := h0
      clear h0 hf hT
      go_enter Tryz.func30, Tryz.ntmps30
      go_wp2_with fail
      refine bodyPost_ret (v := .agg #[.int .i64 n, .slice none 0 0]) (by simp [results, Tryz.results30, go_sem]) rfl ⟨none, 0, by rw [H0.out], Or.inl H0.out, ?_⟩
      exact ((Ex.new _ _).alloc _)
    · obtain h1 | ⟨h2, hn, ua, ub, hua, hub⟩ := vType_some hf
      · exact absurd h1 h0
      subst hn
      obtain ⟨b, o, a0, a1, c0, c1, rfl, hlo, hbs, n0, hc0, n1, hc1, t0, t1⟩ := VA_pair hT h2
      have I0 : Hid (∀ w', Ex w w' → Calls Tryz.prog 30 #[.agg #[.int .i64 (num f 0), .slice a0 (len (kid f 0)) c0]] w' (CpPost r (num f 0) (kid f 0) w')) := fun w' h => valCopyO_any r (num f 0) (kid f 0) ua a0 c0 lo w' hua (VA_below t0 h)
      have I1 : Hid (∀ w', Ex w w' → Calls Tryz.prog 30 #[.agg #[.int .i64 (num f 1), .slice a1 (len (kid f 1)) c1]] w' (CpPost r (num f 1) (kid f 1) w')) := fun w' h => valCopyO_any r (num f 1) (kid f 1) ub a1 c1 lo w' hub (VA_below t1 h)
      have H2 : Hid (len f = 2) := h2
      have E0 : Hid (Ex w (w.alloc (.cells #[.int .i64 0, .slice (some ⟨b, o, none⟩) 2 cap] 55))) := Ex.new _ _
      have KS : Hid (∀ w', Core (w.alloc (.cells #[.int .i64 0, .slice (some ⟨b, o, none⟩) 2 cap] 55)) (w.heap.size + 1) 2 55 w' → (Core (w.alloc (.cells #[.int .i64 0, .slice (some ⟨b, o, none⟩) 2 cap] 55)) (w.heap.size + 1) 2 55 w' ∧ w'.cell? ⟨w.heap.size, 1, none⟩ = some (.slice (some ⟨b, o, none⟩) 2 cap) ∧ w'.cell? ⟨b, o, none⟩ = some (.int .i64 (num f 0)) ∧ w'.cell? ⟨b, o + 1, none⟩ = some (.slice a0 (len (kid f 0)) c0) ∧ w'.cell? ⟨b, o + 2, none⟩ = some (.int .i64 (num f 1)) ∧ w'.cell? ⟨b, o + 3, none⟩ = some (.slice a1 (len (kid f 1)) c1))) := fun w' h => ⟨h, Ex.at h.1 (by simp), Ex.at h.1 (Ex.at (Ex.new _ _) n0), Ex.at h.1 (Ex.at (Ex.new _ _) hc0), Ex.at h.1 (Ex.at (Ex.new _ _) n1), Ex.at h.1 (Ex.at (Ex.new _ _) hc1)⟩
      have C0 : Hid (Core (w.alloc (.cells #[.int .i64 0, .slice (some ⟨b, o, none⟩) 2 cap] 55)) (w.heap.size + 1) 2 55 ((w.alloc (.cells #[.int .i64 0, .slice (some ⟨b, o, none⟩) 2 cap] 55)).alloc (.cells #[.int .i64 0, .slice none 0 0] 55))) := by
        have := Core.start (w.alloc (.cells #[.int .i64 0, .slice (some ⟨b, o, none⟩) 2 cap] 55)) #[.int .i64 0, .slice none 0 0] 55
        rw [World.size_alloc] at this; exact this
      rw [h2]
      clear hT t0 t1 hf h2 h0 hua hub n0 n1 hc0 hc1
      go_enter Tryz.func30, Tryz.ntmps30
      go_wp2_with fail
      go_region_held3 (fun w' => Core (w.alloc (.cells #[.int .i64 0, .slice (some ⟨b, o, none⟩) 2 cap] 55)) (w.heap.size + 1) 2 55 w' ∧ w'.cell? ⟨w.heap.size, 1, none⟩ = some (.slice (some ⟨b, o, none⟩) 2 cap) ∧ w'.cell? ⟨b, o, none⟩ = some (.int .i64 (num f 0)) ∧ w'.cell? ⟨b, o + 1, none⟩ = some (.slice a0 (len (kid f 0)) c0) ∧ w'.cell? ⟨b, o + 2, none⟩ = some (.int .i64 (num f 1)) ∧ w'.cell? ⟨b, o + 3, none⟩ = some (.slice a1 (len (kid f 1)) c1)) ((refine KS.out _ ?_; first | exact Core.drew C0.out | exact Core.ex (And.left ‹Core _ _ _ _ _ ∧ _›) ‹Ex _ _› | exact Core.alloc (And.left ‹Core _ _ _ _ _ ∧ _›) _ | exact Core.set (Core.set (And.left ‹Core _ _ _ _ _ ∧ _›) _ _ (by simp) _) _ _ (by simp) _ | exact Core.alloc (Core.set (Core.set (by assumption) _ _ (by simp) _) _ _ (by simp) _) _)) (first | (go_at_call_of 30 (Value.slice a0 (len (kid f 0)) c0); refine (I0.out _ (Ex.trans E0.out (And.left ‹Core _ _ _ _ _ ∧ _›).1)).mono ?_; rintro e w1 ⟨a0', c0', rfl, ht0', hb0⟩) | (go_at_call_of 30 (Value.slice a1 (len (kid f 1)) c1); refine (I1.out _ (Ex.trans E0.out (And.left ‹Core _ _ _ _ _ ∧ _›).1)).mono ?_; rintro e w2 ⟨a1', c1', rfl, ht1', hb1⟩; have hcr := Core.ex (And.left ‹Core _ _ _ _ _ ∧ _›) hb1; obtain ⟨vr, hvr⟩ := hcr.cell 0 (by omega); obtain ⟨vs, hvs⟩ := hcr.cell 1 (by omega); have hfr := hcr.frozen 0; have hfs := hcr.frozen 1; have hlr := hcr.lt))
      go_wp2_with fail
      have hz : w.heap.size + 2 ≤ w1.heap.size := by have := hb0.size; simpa using this
      have hz2 := hb1.size
      have hsz : ((w2.setCell ⟨w.heap.size + 1, 0, none⟩ (.int .i64 0)).setCell ⟨w.heap.size + 1, 1, none⟩ (.slice (some ⟨w2.heap.size, 0, none⟩) 2 2)).heap.size = w2.heap.size := by rw [World.size_setCell, World.size_setCell]
      have k1 : Kp (w.heap.size + 2) w1 (((w2.setCell ⟨w.heap.size + 1, 0, none⟩ (.int .i64 0)).setCell ⟨w.heap.size + 1, 1, none⟩ (.slice (some ⟨w2.heap.size, 0, none⟩) 2 2)).alloc (.cells #[.int .i64 (num f 0), .slice a0' (len (kid f 0)) c0', .int .i64 (num f 1), .slice a1' (len (kid f 1)) c1'] 55)) := (((Kp.of_below hb1 _).set (Or.inl (by simp)) _).set (Or.inl (by simp)) _).alloc _
      have k2 : Kp (w.heap.size + 2) w2 (((w2.setCell ⟨w.heap.size + 1, 0, none⟩ (.int .i64 0)).setCell ⟨w.heap.size + 1, 1, none⟩ (.slice (some ⟨w2.heap.size, 0, none⟩) 2 2)).alloc (.cells #[.int .i64 (num f 0), .slice a0' (len (kid f 0)) c0', .int .i64 (num f 1), .slice a1' (len (kid f 1)) c1'] 55)) := (((Kp.refl _ _).set (Or.inl (by simp)) _).set (Or.inl (by simp)) _).alloc _
      have f0 : VO r (((w2.setCell ⟨w.heap.size + 1, 0, none⟩ (.int .i64 0)).setCell ⟨w.heap.size + 1, 1, none⟩ (.slice (some ⟨w2.heap.size, 0, none⟩) 2 2)).alloc (.cells #[.int .i64 (num f 0), .slice a0' (len (kid f 0)) c0', .int .i64 (num f 1), .slice a1' (len (kid f 1)) c1'] 55)) (fun b => w.heap.size + 2 ≤ b ∧ b < w1.heap.size) (kid f 0) a0' := (ht0'.mono (S' := fun b => w.heap.size + 2 ≤ b ∧ b < w1.heap.size) fun b hb hs => ⟨by simpa using hs, hb⟩).ks fun b hb hlt => k1.block b hb.1 hlt
      have f1 : VO r (((w2.setCell ⟨w.heap.size + 1, 0, none⟩ (.int .i64 0)).setCell ⟨w.heap.size + 1, 1, none⟩ (.slice (some ⟨w2.heap.size, 0, none⟩) 2 2)).alloc (.cells #[.int .i64 (num f 0), .slice a0' (len (kid f 0)) c0', .int .i64 (num f 1), .slice a1' (len (kid f 1)) c1'] 55)) (fun b => w1.heap.size ≤ b ∧ b < w2.heap.size) (kid f 1) a1' := (ht1'.mono (S' := fun b => w1.heap.size ≤ b ∧ b < w2.heap.size) fun b hb hs => ⟨by simpa using hs, hb⟩).ks fun b hb hlt => k2.block b (by omega) hlt
      have hcn : (((w2.setCell ⟨w.heap.size + 1, 0, none⟩ (.int .i64 0)).setCell ⟨w.heap.size + 1, 1, none⟩ (.slice (some ⟨w2.heap.size, 0, none⟩) 2 2)).alloc (.cells #[.int .i64 (num f 0), .slice a0' (len (kid f 0)) c0', .int .i64 (num f 1), .slice a1' (len (kid f 1)) c1'] 55)).heap[w2.heap.size]? = some (.cells #[.int .i64 (num f 0), .slice a0' (len (kid f 0)) c0', .int .i64 (num f 1), .slice a1' (len (kid f 1)) c1'] 55 (0, 0)) := heap_alloc_at _ _ hsz.symm
      have hr1 : (((w2.setCell ⟨w.heap.size + 1, 0, none⟩ (.int .i64 0)).setCell ⟨w.heap.size + 1, 1, none⟩ (.slice (some ⟨w2.heap.size, 0, none⟩) 2 2)).alloc (.cells #[.int .i64 (num f 0), .slice a0' (len (kid f 0)) c0', .int .i64 (num f 1), .slice a1' (len (kid f 1)) c1'] 55)).cell? ⟨w.heap.size + 1, 1, none⟩ = some (.slice (some ⟨w2.heap.size, 0, none⟩) 2 2) := by
        rw [World.cell?_alloc_lt _ _ _ (by rw [hsz]; exact hlr)]
        exact World.cell?_setCell_same _ _ _ (by rw [World.cell?_setCell_other _ _ _ _ (fun e => absurd (congrArg Addr.off e) (by simp))]; exact hvs)
      have hr0 : (((w2.setCell ⟨w.heap.size + 1, 0, none⟩ (.int .i64 0)).setCell ⟨w.heap.size + 1, 1, none⟩ (.slice (some ⟨w2.heap.size, 0, none⟩) 2 2)).alloc (.cells #[.int .i64 (num f 0), .slice a0' (len (kid f 0)) c0', .int .i64 (num f 1), .slice a1' (len (kid f 1)) c1'] 55)).cell? ⟨w.heap.size + 1, 0, none⟩ = some (.int .i64 0) := by
        rw [World.cell?_alloc_lt _ _ _ (by rw [hsz]; exact hlr), World.cell?_setCell_other _ _ _ _ (fun e => absurd (congrArg Addr.off e) (by simp))]
        exact World.cell?_setCell_same _ _ _ hvr
      refine bodyPost_ret (v := .agg #[.int .i64 0, .slice (some ⟨w2.heap.size, 0, none⟩) 2 2]) (by simp [results, Tryz.results30, go_sem, hr0, hr1]) rfl ⟨_, 2, by rw [H2.out], VO_two H2.out (by show w.heap.size ≤ w2.heap.size; omega) hcn rfl rfl (fun b hb => ⟨by show w.heap.size ≤ b; omega, by omega, by omega⟩) (fun b hb => ⟨by show w.heap.size ≤ b; omega, by omega⟩) f0 f1, ?_⟩
      exact (((E0.out.trans hcr.1).set (by simp) _).set (by simp) _).alloc _

end Go.Proofs.YtldbmlojgakieaaGreatDoor

namespace Go.Proofs.YtldbmlojgakieaaGreatDoor

open Go.RowKit Go.Deep

attribute [local go_sem ↓] Go.wp_at_zero Go.wp_at_succ

theorem partF_append : ∀ (p q : List Int) (f : F), partF f (p ++ q) = (partF f p).bind fun g => partF g q
  | [], q, f => rfl
  | i :: p, q, f => by
    simp only [List.cons_append, partF]
    split
    · exact partF_append p q _
    · rfl

theorem fits_mono2 : ∀ (r : Nat) (f : F), fits r f = true → fits (r + 1) f = true
  | 0, f, h => by simp [fits] at h
  | r + 1, f, h => by
    rcases fits_len h with h0 | h2
    · exact fits_nil h0
    · rw [fits_two h2, Bool.and_eq_true] at h
      rw [fits_two h2, fits_mono2 r _ h.1, fits_mono2 r _ h.2]; rfl

theorem fits_mono_le {r s : Nat} {f : F} (h : fits r f = true) (hrs : r ≤ s) : fits s f = true := by
  induction hrs with
  | refl => exact h
  | step _ ih => exact fits_mono2 _ _ ih

theorem fits_part4 : ∀ (p : List Int) (r : Nat) (f g : F), fits r f = true → partF f p = some g → fits r g = true
  | [], r, f, g, h, e => by cases e; exact h
  | i :: p, r, f, g, h, e => by
    simp only [partF] at e
    split at e
    · rename_i hi
      cases r with
      | zero => simp [fits] at h
      | succ r =>
        have h2 : len f = 2 := by have := fits_len h; omega
        rw [fits_two h2, Bool.and_eq_true] at h
        have : i.toNat = 0 ∨ i.toNat = 1 := by omega
        rcases this with hi | hi <;> rw [hi] at e
        · exact fits_mono2 _ _ (fits_part4 p r _ g h.1 e)
        · exact fits_mono2 _ _ (fits_part4 p r _ g h.2 e)
    · cases e

/-- What the law says. -/
theorem typeAt_cut {f : F} {p : List Int} (h : (typeAtR f p).2 = true) (cut : Nat) : (typeAtR f (p.take cut)).2 = true ∧ typeAtR (typeAtR f (p.take cut)).1 (p.drop cut) = typeAtR f p := by
  by_cases hf : fits 4 f = true
  · cases hp : partF f p with
    | none => simp [typeAtR, hf, hp] at h
    | some g =>
      have ha := partF_append (p.take cut) (p.drop cut) f
      rw [List.take_append_drop, hp] at ha
      cases h1 : partF f (p.take cut) with
      | none => rw [h1] at ha; simp at ha
      | some g1 =>
        rw [h1] at ha
        simp at ha
        have hg1 := fits_part4 _ 4 f g1 hf h1
        simp [typeAtR, hf, hp, h1, hg1, ← ha]
  · simp [typeAtR, hf] at h

theorem typeAt_sm {f : F} (p : List Int) : len (typeAtR f p).1 ≤ 1000000000 ∧ Sm (typeAtR f p).1 ∧ dep (typeAtR f p).1 ≤ 4 := by
  by_cases hf : fits 4 f = true
  · cases hp : partF f p with
    | none => simp [typeAtR, hf, hp, len, Sm, dep]
    | some g =>
      have hg := fits_part4 _ 4 f g hf hp
      have h1 := fits_sm _ _ hg
      have h2 := fits_dep _ _ hg
      simp only [typeAtR, hf, hp, if_true]
      exact ⟨by omega, h1.2, by omega⟩
  · simp [typeAtR, hf, len, Sm, dep]

theorem PA_take {w : World} {lo : Nat} {p : List Int} {a : Option Addr} (h : PA w lo p a) (k : Nat) (hk : k ≤ p.length) : PA w lo (p.take k) a := by
  rcases h with h | ⟨b, o, e, hb, hc⟩
  · exact Or.inl (by simp; omega)
  · refine Or.inr ⟨b, o, e, hb, fun i hi => ?_⟩
    have hi' : i < k ∧ i < p.length := by simpa [Nat.lt_min] using hi
    rw [hc i hi'.2]
    simp [List.getD, List.getElem?_take_of_lt hi'.1]

theorem PA_drop {w : World} {lo : Nat} {p : List Int} {b o : Nat} (h : PA w lo p (some ⟨b, o, none⟩)) (k : Nat) (hk : k < p.length) : PA w lo (p.drop k) (some ⟨b, o + k, none⟩) := by
  rcases h with h | ⟨b', o', e, hb, hc⟩
  · omega
  · cases e
    refine Or.inr ⟨b, o + k, rfl, hb, fun i hi => ?_⟩
    have hi' : k + i < p.length := by simp at hi; omega
    have := hc (k + i) hi'
    rw [show o + k + i = o + (k + i) by omega, this]
    simp [List.getD, List.getElem?_drop]

theorem PA_drop' {w : World} {lo : Nat} {p : List Int} {a base : Option Addr} (h : PA w lo p a) (k : Nat) (hb : k < p.length → ∀ b o, a = some ⟨b, o, none⟩ → base = some ⟨b, o + k, none⟩) : PA w lo (p.drop k) base := by
  by_cases hk : k < p.length
  · obtain ⟨b, o, e, _⟩ := PA_at h (by omega)
    subst e
    rw [hb hk b o rfl]
    exact PA_drop h k hk
  · exact Or.inl (by simp; omega)

theorem TA_set {w : World} {lo : Nat} {f : F} {a : Option Addr} (h : TA w lo f a) {p : Addr} (hp : p.block < lo) (v : Value) : TA (w.setCell p v) lo f a :=
  SA_ks h fun b hb _ => Below.heap_setCell _ _ _ _ (by have : lo ≤ b := hb; omega)

end Go.Proofs.YtldbmlojgakieaaGreatDoor
