/- Walks: values in memory of their own written over, and held against that. Walks: what the exact laws do with values, in memory of their own. Walks: the exact law on runs that are told. A type that comes in, opened. What an argument that is a list of numbers is. A place that comes in, opened. -/
import Derived.Test.YtldbmlojgakieaaGreatDoorGPR2
import Derived.Test.YtldbmlojgakieaaGreatDoorGPRN
import Derived.Test.YtldbmlojgakieaaGreatDoorGTO0
import Derived.Test.YtldbmlojgakieaaGreatDoorGEQ1
import Derived.Test.YtldbmlojgakieaaGreatDoorEQ2
import Derived.Test.YtldbmlojgakieaaGreatDoorMK3
import Derived.Test.YtldbmlojgakieaaGreatDoorTU2
import Derived.Deep.Slices
import Derived.Test.YtldbmlojgakieaaGreatDoorGW5
import Derived.WalkKit
import Derived.ProofKit
import Derived.OpenShut
namespace Go.Proofs.YtldbmlojgakieaaGreatDoor

open Go.RowKit Go.Deep

attribute [local go_sem ↓] Go.wp_at_zero Go.wp_at_succ

/-- How many values there are, those in others counted. -/
def sz : F → Nat
  | .nil => 0
  | .node _ _ _ k r => 1 + sz k + sz r
/-- .. in the first ones. -/
def off : F → Nat → Nat
  | .nil, _ => 0
  | .node _ _ _ _ _, 0 => 0
  | .node _ _ _ k r, i + 1 => 1 + sz k + off r i
theorem off_zero (f : F) : off f 0 = 0 := by cases f <;> rfl
theorem off_len : ∀ f : F, off f (len f) = sz f
  | .nil => rfl
  | .node _ _ _ k r => by simp only [len, off, sz, off_len r]
theorem off_succ : ∀ (f : F) (i : Nat), i < len f → off f (i + 1) = off f i + 1 + sz (kid f i)
  | .nil, i, h => by simp [len] at h
  | .node _ _ _ k r, 0, h => by simp only [off, off_zero, kid]; omega
  | .node _ _ _ k r, i + 1, h => by
    have := off_succ r i (by simp only [len] at h; omega)
    simp only [off, kid, this]; omega
theorem off_le : ∀ (f : F) (i : Nat), i ≤ len f → off f i ≤ sz f
  | .nil, i, h => by simp [off]
  | .node _ _ _ k r, 0, h => by simp [off]
  | .node _ _ _ k r, i + 1, h => by
    have := off_le r i (by simp only [len] at h; omega)
    simp only [off, sz]; omega
theorem sz_nil {f : F} (h : len f = 0) : sz f = 0 := by rw [← off_len, h, off_zero]
theorem len_sz : ∀ f : F, len f ≤ sz f
  | .nil => Nat.le_refl _
  | .node _ _ _ k r => by have := len_sz r; simp only [len, sz]; omega

/-- The same, numbered from n on. -/
def mk : Int → F → F
  | _, .nil => .nil
  | n, .node b o _ k r => .node b o n (mk (n + 1) k) (mk (n + 1 + sz k) r)
theorem len_mk : ∀ (n : Int) (f : F), len (mk n f) = len f
  | _, .nil => rfl
  | n, .node _ _ _ k r => by simp only [mk, len, len_mk _ r]
theorem num_mk : ∀ (n : Int) (f : F) (i : Nat), i < len f → num (mk n f) i = n + off f i
  | n, .nil, i, h => by simp [len] at h
  | n, .node _ _ _ k r, 0, h => by simp [mk, num, off]
  | n, .node _ _ _ k r, i + 1, h => by
    have := num_mk (n + 1 + sz k) r i (by simp only [len] at h; omega)
    simp only [mk, num, off, this]; omega
theorem kid_mk : ∀ (n : Int) (f : F) (i : Nat), i < len f → kid (mk n f) i = mk (n + off f i + 1) (kid f i)
  | n, .nil, i, h => by simp [len] at h
  | n, .node _ _ _ k r, 0, h => by simp [mk, kid, off]
  | n, .node _ _ _ k r, i + 1, h => by
    have := kid_mk (n + 1 + sz k) r i (by simp only [len] at h; omega)
    simp only [mk, kid, off, this]
    congr 1
    omega

def MkPost (d : Nat) (S : Nat → Prop) (f : F) (a : Option Addr) (k0 : Int) (w : World) (e : Ending) (w' : World) : Prop := e = .returned (.int .i64 (k0 + sz f)) ∧ VO d w' S (mk k0 f) a ∧ FrS S w w'

set_option maxRecDepth 100000 in
set_option maxHeartbeats 2000000 in
theorem markValS_any : ∀ (d : Nat) (f : F) (a : Option Addr) (c : Nat) (S : Nat → Prop) (k0 : Int) (w : World), VO d w S f a → len f ≤ 1000000000 → 0 ≤ k0 → k0 + sz f ≤ 1000000000 →
    Calls Tryz.prog 14 #[.slice a (len f) c, .int .i64 k0] w (MkPost d S f a k0 w) := by
  intro d
  induction d with
  | zero =>
    intro f a c S k0 w hV hl h0 hk
    have hz : len f = 0 := hV
    have R : Hid (∀ w', MkPost 0 S f a k0 w' (.returned (.int .i64 k0)) w') := fun w' => ⟨by rw [sz_nil hz]; simp, by show len (mk k0 f) = 0; rw [len_mk]; exact hz, FrS.refl _ _⟩
    rw [hz]
    clear hV hz hk
    go_enter Tryz.func14, Tryz.ntmps14
    go_wp2_with fail
    go_loopw [1, 5] (fun kv i wr => kv = .int .i64 k0 ∧ i = .int .i64 0 ∧ wr = w) (fun _ _ _ => 0)
    case atStart => exact ⟨rfl, rfl, rfl⟩
    case round =>
      obtain ⟨rfl, rfl, rfl⟩ := hrel
      go_wp2_with fail
      go_ret
      exact R.out _
  | succ d ih =>
    intro f a c S k0 w hV hl h0 hk
    have I : Hid _ := ih
    clear ih
    rcases hV with hz | ⟨g, cur0, K, rfl, hSg, hcur, hkk⟩
    · have R : Hid (∀ w', MkPost (d + 1) S f a k0 w' (.returned (.int .i64 k0)) w') := fun w' => ⟨by rw [sz_nil hz]; simp, VO.nil _ _ _ _ _ (by rw [len_mk]; exact hz), FrS.refl _ _⟩
      rw [hz]
      clear hz hk
      go_enter Tryz.func14, Tryz.ntmps14
      go_wp2_with fail
      go_loopw [1, 5] (fun kv i wr => kv = .int .i64 k0 ∧ i = .int .i64 0 ∧ wr = w) (fun _ _ _ => 0)
      case atStart => exact ⟨rfl, rfl, rfl⟩
      case round =>
        obtain ⟨rfl, rfl, rfl⟩ := hrel
        go_wp2_with fail
        go_ret
        exact R.out _
    · have KD : Hid (∀ i, i < len f → (∀ b, K i b → S b ∧ b ≠ g) ∧ (∀ j, j < len f → j ≠ i → ∀ b, K i b → ¬ K j b)) := fun i hi => ⟨(hkk i hi).1, (hkk i hi).2.1⟩
      have KK : Hid (∀ i, i < len f → ∃ a' c', cur0[i * 2 + 1]? = some (.slice a' (len (kid f i)) c') ∧ (i < 0 → cur0[i * 2]? = some (.int .i64 (k0 + off f i)) ∧ VO d w (K i) (mk (k0 + off f i + 1) (kid f i)) a') ∧ (0 ≤ i → cur0[i * 2]? = some (.int .i64 (num f i)) ∧ VO d w (K i) (kid f i) a')) := fun i hi => by
        obtain ⟨_, _, h1, a', c', h2, h3⟩ := hkk i hi
        exact ⟨a', c', h2, fun h => by omega, fun _ => ⟨h1, h3⟩⟩
      clear hkk
      go_enter Tryz.func14, Tryz.ntmps14
      go_wp2_with fail
      go_loopw [1, 5] (fun kv i wr => ∃ (j : Nat) (cur : Array Value), j ≤ len f ∧ i = .int .i64 j ∧ kv = .int .i64 (k0 + off f j) ∧ FrS S w wr ∧ wr.heap[g]? = some (.cells cur 55 (0, 0)) ∧ ∀ i, i < len f → ∃ a' c', cur[i * 2 + 1]? = some (.slice a' (len (kid f i)) c') ∧ (i < j → cur[i * 2]? = some (.int .i64 (k0 + off f i)) ∧ VO d wr (K i) (mk (k0 + off f i + 1) (kid f i)) a') ∧ (j ≤ i → cur[i * 2]? = some (.int .i64 (num f i)) ∧ VO d wr (K i) (kid f i) a')) (fun _ i _ => len f - (intOf i).toNat)
      case atStart => exact ⟨0, cur0, Nat.zero_le _, rfl, by rw [off_zero]; simp, FrS.refl _ _, hcur, KK.out⟩
      case round =>
        obtain ⟨j, cur, hj, rfl, rfl, hF, hob, hall⟩ := hrel
        have KI : Hid _ := hall
        have hoff := off_le f j hj
        obtain ⟨kv, hkv⟩ : ∃ kv, kv = k0 + (off f j : Int) := ⟨_, rfl⟩
        have hkv0 : 0 ≤ kv := by omega
        have hkv1 : kv ≤ 1000000000 := by omega
        rw [← hkv]
        have HKV : Hid (kv = k0 + (off f j : Int)) := hkv
        by_cases hlt : j < len f
        · obtain ⟨a1, c1, h1, _, h3⟩ := hall j hlt
          obtain ⟨h4, h5⟩ := h3 (Nat.le_refl _)
          have hcs : j * 2 + 1 < cur.size := by
            rcases Nat.lt_or_ge (j * 2 + 1) cur.size with h | h
            · exact h
            · rw [Array.getElem?_eq_none h] at h1; cases h1
          have q0 : wr.cell? ⟨g, j * 2, none⟩ = some (.int .i64 (num f j)) := (cell_cur hob _).trans h4
          have q1 : wr.cell? ⟨g, j * 2 + 1, none⟩ = some (.slice a1 (len (kid f j)) c1) := (cell_cur hob _).trans h1
          have q2 := free_cur hob (j * 2)
          obtain ⟨w1, hw1⟩ : ∃ w1, w1 = wr.setCell ⟨g, j * 2, none⟩ (.int .i64 kv) := ⟨_, rfl⟩
          have far1 : ∀ k, k ≠ g → w1.heap[k]? = wr.heap[k]? := fun k hk => by rw [hw1, Below.heap_setCell _ _ _ _ hk]
          have ob1 : w1.heap[g]? = some (.cells (cur.setIfInBounds (j * 2) (.int .i64 kv)) 55 (0, 0)) := by rw [hw1]; simp [World.setCell, Array.getElem?_modify, hob]
          have hF1 : FrS S w w1 := hw1 ▸ hF.set hSg _
          have q3 : w1.cell? ⟨g, j * 2 + 1, none⟩ = some (.slice a1 (len (kid f j)) c1) := by rw [cell_cur ob1, Array.getElem?_setIfInBounds_ne (by omega)]; exact h1
          have V1 : Hid (VO d w1 (K j) (kid f j) a1) := h5.ks fun b hb _ => far1 b ((KD.out j hlt).1 b hb).2
          have hsz := off_succ f j hlt
          have hle := off_le f (j + 1) (by omega)
          have lsz := len_sz (kid f j)
          have hbd : kv + 1 + (sz (kid f j) : Int) ≤ 1000000000 := by omega
          have hlk : len (kid f j) ≤ 1000000000 := by omega
          have FAR : Hid _ := far1
          have OB1 : Hid _ := ob1
          have HF1 : Hid _ := hF1
          have H1 : Hid (cur[j * 2 + 1]? = some (.slice a1 (len (kid f j)) c1)) := h1
          clear h1 h3 h4 h5 hall far1 ob1 hF1 hkv
          go_wp2_with fail
          rw [← hw1]
          clear hw1 q0 q1 q2
          refine Calls.mono (I.out (kid f j) a1 c1 (K j) (kv + 1) w1 V1.out (by omega) (by omega) (by omega)) ?_
          rintro e w2 ⟨rfl, hv2, hf2⟩
          have hg2 : w2.heap[g]? = some (.cells (cur.setIfInBounds (j * 2) (.int .i64 kv)) 55 (0, 0)) := (hf2.block g (lt_of_block OB1.out) fun h => ((KD.out j hlt).1 g h).2 rfl).trans OB1.out
          have V2 : Hid _ := hv2
          have F2 : Hid _ := hf2
          clear hv2 hf2
          go_wp2_with fail
          go_roundw
          case rel =>
            refine ⟨j + 1, cur.setIfInBounds (j * 2) (.int .i64 kv), by omega, by go_num, ?_, HF1.out.trans (F2.out.mono fun b hb => ((KD.out j hlt).1 b hb).1), hg2, fun i hi => ?_⟩
            · have := HKV.out; rw [hsz]; congr 1; push_cast; omega
            · obtain ⟨a', c', h1, h2, h3⟩ := KI.out i hi
              by_cases hij : i = j
              · subst hij
                have ea : a' = a1 ∧ c' = c1 := by have := h1.symm.trans H1.out; injection this with this; injection this with e1 e2 e3; exact ⟨e1, e3⟩
                refine ⟨a', c', by rw [Array.getElem?_setIfInBounds_ne (by omega)]; exact h1, fun _ => ⟨?_, ?_⟩, fun h => by omega⟩
                · rw [Array.getElem?_setIfInBounds_self, if_pos (by omega), HKV.out]
                · rw [ea.1]; have := V2.out; rw [HKV.out] at this; exact this
              · have move : ∀ x, VO d wr (K i) x a' → VO d w2 (K i) x a' := fun x hx => (hx.ks fun b hb _ => FAR.out b ((KD.out i hi).1 b hb).2).ks fun b hb hlt' => F2.out.block b hlt' ((KD.out i hi).2 j hlt (fun e => hij e.symm) b hb)
                refine ⟨a', c', by rw [Array.getElem?_setIfInBounds_ne (by omega)]; exact h1, fun h => ?_, fun h => ?_⟩
                · obtain ⟨h4, h5⟩ := h2 (by omega)
                  exact ⟨by rw [Array.getElem?_setIfInBounds_ne (by omega)]; exact h4, move _ h5⟩
                · obtain ⟨h4, h5⟩ := h3 (by omega)
                  exact ⟨by rw [Array.getElem?_setIfInBounds_ne (by omega)]; exact h4, move _ h5⟩
          case measure => simp [intOf]; omega
        · have hje : j = len f := by omega
          have R : Hid (MkPost (d + 1) S f (some ⟨g, 0, none⟩) k0 w (.returned (.int .i64 kv)) wr) := by
            refine ⟨by rw [HKV.out, hje, off_len], Or.inr ⟨g, cur, K, rfl, hSg, hob, fun i hi => ?_⟩, hF⟩
            rw [len_mk] at hi
            obtain ⟨a', c', h1, h2, _⟩ := KI.out i hi
            obtain ⟨h4, h5⟩ := h2 (by omega)
            refine ⟨(KD.out i hi).1, fun i' hi' => (KD.out i hi).2 i' (by rw [len_mk] at hi'; exact hi'), by rw [num_mk _ _ _ hi]; exact h4, a', c', by rw [kid_mk _ _ _ hi, len_mk]; exact h1, by rw [kid_mk _ _ _ hi]; exact h5⟩
          clear hje hall hkv
          go_wp2_with fail
          go_ret
          exact R.out

set_option maxRecDepth 100000 in
set_option maxHeartbeats 2000000 in
theorem heldValS_any : ∀ (d : Nat) (f : F) (a : Option Addr) (c lo : Nat) (k0 : Int) (w : World), dep f < d → len f ≤ 1000000000 → 0 ≤ k0 → k0 + sz f ≤ 1000000000 → VA w lo (mk k0 f) a →
    Calls Tryz.prog 15 #[.slice a (len f) c, .int .i64 k0] w fun e w' => e = .returned (.int .i64 (k0 + sz f)) ∧ Ex w w' := by
  intro d
  induction d with
  | zero => intro f a c lo k0 w hd; omega
  | succ d ih =>
    intro f a c lo k0 w hd hl h0 hk hV
    have V : Hid (∀ w', Ex w w' → VA w' lo (mk k0 f) a) := fun _ h => VA_below hV h
    have I : Hid _ := ih
    clear hV ih
    go_enter Tryz.func15, Tryz.ntmps15
    go_wp2_with fail
    go_loopw [1, 5] (fun kv i wr => ∃ (j : Nat), j ≤ len f ∧ i = .int .i64 j ∧ kv = .int .i64 (k0 + off f j) ∧ Ex w wr) (fun _ i _ => len f - (intOf i).toNat)
    case atStart => exact ⟨0, Nat.zero_le _, rfl, by rw [off_zero]; simp, Ex.refl _⟩
    case round =>
      obtain ⟨j, hj, rfl, rfl, hx⟩ := hrel
      have hoff := off_le f j hj
      obtain ⟨kv, hkv⟩ : ∃ kv, kv = k0 + (off f j : Int) := ⟨_, rfl⟩
      have hkv0 : 0 ≤ kv := by omega
      have hkv1 : kv ≤ 1000000000 := by omega
      rw [← hkv]
      have HKV : Hid (kv = k0 + (off f j : Int)) := hkv
      by_cases hlt : j < len f
      · obtain ⟨b, o, rfl, hlo, hbs, hkk⟩ := VA_at (V.out _ hx) (by rw [len_mk]; omega)
        obtain ⟨hn, a1, c1, hc1, hv1⟩ := hkk j (by rw [len_mk]; exact hlt)
        rw [num_mk _ _ _ hlt, ← hkv] at hn
        rw [kid_mk _ _ _ hlt, len_mk] at hc1
        rw [kid_mk _ _ _ hlt, ← hkv] at hv1
        have V1 : Hid (VA wr lo (mk (kv + 1) (kid f j)) a1) := hv1
        have hsz := off_succ f j hlt
        have hle := off_le f (j + 1) (by omega)
        have lsz := len_sz (kid f j)
        have hbd : kv + 1 + (sz (kid f j) : Int) ≤ 1000000000 := by omega
        have hlk : len (kid f j) ≤ 1000000000 := by omega
        have hdk := dep_kid f j hlt
        have hne : (kv != kv) = false := by simp
        clear hkk hv1 hkv
        go_wp2_with fail
        refine (I.out (kid f j) a1 c1 lo (kv + 1) _ (by omega) (by omega) (by omega) (by omega) V1.out).mono ?_
        rintro e w1 ⟨rfl, hb1⟩
        have hpos : decide (kv + 1 + (sz (kid f j) : Int) < 0) = false := by simp; omega
        go_wp2_with fail
        go_roundw
        case rel =>
          refine ⟨j + 1, by omega, by go_num, ?_, hx.trans hb1⟩
          have := HKV.out; rw [hsz]; congr 1; push_cast; omega
        case measure => simp [intOf]; omega
      · have hje : j = len f := by omega
        have R : Hid (kv = k0 + sz f) := by show _ = _; rw [HKV.out, hje, off_len]
        clear hje hkv
        go_wp2_with fail
        go_ret
        exact ⟨ret_i R.out, hx⟩

end Go.Proofs.YtldbmlojgakieaaGreatDoor

namespace Go.Proofs.YtldbmlojgakieaaGreatDoor

open Go.RowKit Go.Deep

attribute [local go_sem ↓] Go.wp_at_zero Go.wp_at_succ

set_option maxRecDepth 100000 in
set_option maxHeartbeats 2000000 in
theorem szValN_both : ∀ (d : Nat), (∀ (f : F) (a : Option Addr) (c lo : Nat) (l : Int) (w : World), dep f < d → len f ≤ 9223372036854775807 → Lm f → 0 ≤ l → l ≤ 1048576 → VA w lo f a →
      Calls Tryz.prog 6 #[.slice a (len f) c, .int .i64 l] w fun e w' => ∃ x : Int, e = .returned (.int .i64 x) ∧ -1 ≤ x ∧ x ≤ l ∧ (0 ≤ x → (len f ≤ 1048576 ∧ Sm f) ∧ x + sz f ≤ l) ∧ Ex w w') ∧
    (∀ (n : Int) (f : F) (a : Option Addr) (c lo : Nat) (l : Int) (w : World), dep f < d → len f ≤ 9223372036854775807 → Lm f → 0 ≤ l → l ≤ 1048576 → VA w lo f a →
      Calls Tryz.prog 19 #[.agg #[.int .i64 n, .slice a (len f) c], .int .i64 l] w fun e w' => ∃ x : Int, e = .returned (.int .i64 x) ∧ -1 ≤ x ∧ x ≤ l ∧ (0 ≤ x → (len f ≤ 1048576 ∧ Sm f) ∧ x + sz f ≤ l) ∧ Ex w w') := by
  intro d
  induction d with
  | zero => exact ⟨fun f a c lo l w hd => by omega, fun n f a c lo l w hd => by omega⟩
  | succ d ih =>
    have hS : ∀ (f : F) (a : Option Addr) (c lo : Nat) (l : Int) (w : World), dep f < d + 1 → len f ≤ 9223372036854775807 → Lm f → 0 ≤ l → l ≤ 1048576 → VA w lo f a →
      Calls Tryz.prog 6 #[.slice a (len f) c, .int .i64 l] w fun e w' => ∃ x : Int, e = .returned (.int .i64 x) ∧ -1 ≤ x ∧ x ≤ l ∧ (0 ≤ x → (len f ≤ 1048576 ∧ Sm f) ∧ x + sz f ≤ l) ∧ Ex w w' := by
      intro f a c lo l w hd hlen hlm hl0 hl1 hT
      have T : Hid (VA w lo f a) := hT
      have I : Hid _ := ih.2
      have LM : Hid (Lm f) := hlm
      clear hT hlm
      by_cases hneg : l - len f < 0
      · go_enter Tryz.func6, Tryz.ntmps6
        go_wp2_with fail
        go_ret
        exact ⟨-1, rfl, by omega, by omega, fun h => by omega, Ex.refl _⟩
      · go_enter Tryz.func6, Tryz.ntmps6
        go_wp2_with fail
        go_loopw [1, 5] (fun lv i wr => ∃ (k : Nat) (x : Int), k ≤ len f ∧ i = .int .i64 k ∧ lv = .int .i64 x ∧ 0 ≤ x ∧ x ≤ l ∧ x + len f + off f k ≤ l + k ∧ SmTo f k ∧ Ex w wr) (fun _ i _ => len f - (intOf i).toNat)
        case atStart => exact ⟨0, l - len f, Nat.zero_le _, rfl, rfl, by omega, by omega, by rw [off_zero]; omega, fun j hj => by omega, Ex.refl _⟩
        case round =>
          obtain ⟨k, x, hk, rfl, rfl, hx0, hxl, hxo, hsm, hx⟩ := hrel
          have ST : Hid (SmTo f k) := hsm
          have XO : Hid (x + len f + off f k ≤ l + k) := hxo
          clear hsm hxo
          by_cases hlt : k < len f
          · obtain ⟨b, o, rfl, hlo, hbs, hkk⟩ := VA_at (VA_below T.out hx) (by omega)
            obtain ⟨hn1, a1, k1, hc1, ht1⟩ := hkk k hlt
            have T1 : Hid (VA wr lo (kid f k) a1) := ht1
            clear hkk ht1
            go_wp2_with fail
            refine (I.out (num f k) (kid f k) a1 k1 lo x _ (by have := dep_kid f k hlt; omega) (Lm_kid LM.out k hlt).1 (Lm_kid LM.out k hlt).2 hx0 (by omega) T1.out).mono ?_
            rintro e w1 ⟨y, rfl, hy0, hy1, hysm, hb1⟩
            have YS : Hid (0 ≤ y → (len (kid f k) ≤ 1048576 ∧ Sm (kid f k)) ∧ y + sz (kid f k) ≤ x) := hysm
            clear hysm
            by_cases hy : y < 0
            · go_wp2_with fail
              go_ret
              exact ⟨-1, rfl, by omega, by omega, fun h => by omega, hx.trans hb1⟩
            · go_wp2_with fail
              go_roundw
              case rel => exact ⟨k + 1, y, by omega, by go_num, rfl, by omega, by omega, by have h1 := XO.out; have h2 := (YS.out (by omega)).2; rw [off_succ f k hlt]; push_cast; omega, fun j hj => by
                by_cases hj' : j < k
                · exact ST.out j hj'
                · rw [show j = k by omega]; have := (YS.out (by omega)).1; exact ⟨by omega, this.2⟩, hx.trans hb1⟩
              case measure => simp [intOf]; omega
          · go_wp2_with fail
            go_ret
            exact ⟨x, rfl, by omega, hxl, fun _ => ⟨⟨by omega, Sm_of (by rw [show len f = k by omega]; exact ST.out)⟩, by have h1 := XO.out; rw [show k = len f by omega, off_len] at h1; omega⟩, hx⟩
    refine ⟨hS, ?_⟩
    intro n f a c lo l w hd hlen hlm hl0 hl1 hT
    have HS : Hid _ := hS
    clear hS ih
    go_enter Tryz.func19, Tryz.ntmps19
    go_wp2_with fail
    refine (HS.out f a c lo l _ hd hlen hlm hl0 hl1 (VA_below hT (Ex.new _ _))).mono ?_
    rintro e w1 ⟨y, rfl, hy0, hy1, hysm, hb1⟩
    have YS : Hid (0 ≤ y → (len f ≤ 1048576 ∧ Sm f) ∧ y + sz f ≤ l) := hysm
    clear hysm
    by_cases hy : y < 0
    · go_wp2_with fail
      go_ret
      exact ⟨-1, rfl, by omega, by omega, fun h => by omega, (Ex.new _ _).trans hb1⟩
    · go_wp2_with fail
      go_ret
      exact ⟨y, rfl, by omega, by omega, YS.out, (Ex.new _ _).trans hb1⟩


set_option maxRecDepth 100000 in
set_option maxHeartbeats 2000000 in
theorem toValO_both : ∀ (d : Nat), (∀ (f : F) (a : Option Addr) (c lo : Nat) (w : World), dep f < d → len f ≤ 1000000000 → Sm f → VA w lo f a →
      Calls Tryz.prog 9 #[.slice a (len f) c] w fun e w' => ∃ a' c', e = .returned (.slice a' (len f) c') ∧ VO d w' (fun b => w.heap.size ≤ b) f a' ∧ Ex w w') ∧
    (∀ (n : Int) (f : F) (a : Option Addr) (c lo : Nat) (w : World), dep f < d → len f ≤ 1000000000 → Sm f → VA w lo f a →
      Calls Tryz.prog 26 #[.agg #[.int .i64 n, .slice a (len f) c]] w fun e w' => ∃ a' c', e = .returned (.agg #[.int .i64 n, .slice a' (len f) c']) ∧ VO d w' (fun b => w.heap.size ≤ b) f a' ∧ Ex w w') := by
  intro d
  induction d with
  | zero => exact ⟨fun f a c lo w hd => by omega, fun n f a c lo w hd => by omega⟩
  | succ d ih =>
    have hS : ∀ (f : F) (a : Option Addr) (c lo : Nat) (w : World), dep f < d + 1 → len f ≤ 1000000000 → Sm f → VA w lo f a →
      Calls Tryz.prog 9 #[.slice a (len f) c] w fun e w' => ∃ a' c', e = .returned (.slice a' (len f) c') ∧ VO (d + 1) w' (fun b => w.heap.size ≤ b) f a' ∧ Ex w w' := by
      intro f a c lo w hd hl hs hT
      have T : Hid (VA w lo f a) := hT
      have I : Hid _ := ih.2
      have SS : Hid (Sm f) := hs
      clear hT ih hs
      obtain ⟨i0, hi, hz0, hz1, hz2⟩ := info_parts Tryz.info55
      have hmk : ∀ w : World, (Instr.makeSlice 26 (.int .i64 (len f : Int)) (.int .i64 (len f : Int))).run Tryz.prog w = .ok (.slice (some ⟨w.heap.size, 0, none⟩) (len f) (len f)) (w.alloc (.cells (madeCells #[.int .i64 0, .slice none 0 0] (len f * 2)) 55)) := fun w => by
        have := run_make (P := Tryz.prog) w 26 55 i0 _ Tryz.underlying26 hi hz0 .i64 .i64 (len f : Int) (len f : Int) (by omega) (by omega) (by rw [hz2]; omega) (by omega)
        rw [hz1] at this
        simpa [Value.cells] using this
      clear hz0 hz1 hz2 hi
      go_enter Tryz.func9, Tryz.ntmps9
      go_wp2_with fail
      go_loopw [4] (fun i wr => ∃ (k : Nat) (cur : Array Value), k ≤ len f ∧ i = .int .i64 k ∧ Ex w wr ∧ wr.heap[w.heap.size]? = some (.cells cur 55 (0, 0)) ∧ cur.size = len f * 2 ∧ ∃ B : Nat → Nat, (∀ i j, i ≤ j → j ≤ k → B i ≤ B j) ∧ w.heap.size < B 0 ∧ B k ≤ wr.heap.size ∧ (∀ j, j < k → cur[j * 2]? = some (.int .i64 (num f j)) ∧ ∃ a' c', cur[j * 2 + 1]? = some (.slice a' (len (kid f j)) c') ∧ VO d wr (fun b => B j ≤ b ∧ b < B (j + 1)) (kid f j) a')) (fun i _ => len f - (intOf i).toNat)
      case atStart => exact ⟨0, madeCells #[.int .i64 0, .slice none 0 0] (len f * 2), Nat.zero_le _, rfl, Ex.new _ _, heap_alloc_new _ _, size_madeCells _ _, fun _ => w.heap.size + 1, fun _ _ _ _ => Nat.le_refl _, Nat.lt_succ_self _, by show w.heap.size + 1 ≤ _; rw [World.size_alloc]; exact Nat.le_refl _, fun j hj => by omega⟩
      case round =>
        obtain ⟨k, cur, hk, rfl, hx, hob, hcs, B, hBm, hB0, hBk, hkids⟩ := hrel
        have KI : Hid _ := hkids
        have BM : Hid (∀ i j, i ≤ j → j ≤ k → B i ≤ B j) := hBm
        have BB : Hid (w.heap.size < B 0 ∧ B k ≤ wr.heap.size) := ⟨hB0, hBk⟩
        clear hBm hB0 hBk
        have HCS : Hid (cur.size = len f * 2) := hcs
        clear hkids hcs
        by_cases hlt : k < len f
        · obtain ⟨b, o, rfl, hlo, hbs, hkk⟩ := VA_at (VA_below T.out hx) (by omega)
          obtain ⟨hn1, a1, k1, hc1, ht1⟩ := hkk k hlt
          have T1 : Hid (VA wr lo (kid f k) a1) := ht1
          clear hkk ht1
          go_wp2_with fail
          refine (I.out (num f k) (kid f k) a1 k1 lo _ (by have := dep_kid f k hlt; omega) (Sm_kid SS.out k hlt).1 (Sm_kid SS.out k hlt).2 T1.out).mono ?_
          rintro e w1 ⟨a2, k2, rfl, ht2, hb1⟩
          have hob1 := hb1.blk hob
          have cc : w1.cell? ⟨w.heap.size, k * 2, none⟩ = some (cur[k * 2]'(by have := HCS.out; omega)) := by simp [World.cell?, hob1]
          have cd : w1.cell? ⟨w.heap.size, k * 2 + 1, none⟩ = some (cur[k * 2 + 1]'(by have := HCS.out; omega)) := by simp [World.cell?, hob1]
          have cf : w1.frozen? ⟨w.heap.size, k * 2, none⟩ = false := by simp [World.frozen?, hob1]
          have cg : w1.frozen? ⟨w.heap.size, k * 2 + 1, none⟩ = false := by simp [World.frozen?, hob1]
          have T2 : Hid (VO d w1 (fun b => wr.heap.size ≤ b) (kid f k) a2) := ht2
          have zr : w.heap.size < wr.heap.size := lt_of_block hob
          clear ht2
          go_wp2_with fail
          go_roundw
          case rel =>
            have hs1 := hb1.size
            obtain ⟨B', hL, hR⟩ : ∃ B' : Nat → Nat, (∀ i, i ≤ k → B' i = B i) ∧ (∀ i, ¬ i ≤ k → B' i = w1.heap.size) := ⟨fun i => if i ≤ k then B i else w1.heap.size, fun i hi => if_pos hi, fun i hi => if_neg hi⟩
            refine ⟨k + 1, (cur.setIfInBounds (k * 2) (.int .i64 (num f k))).setIfInBounds (k * 2 + 1) (.slice a2 (len (kid f k)) k2), by omega, by go_num, ((hx.trans hb1).set (Nat.le_refl _) _).set (Nat.le_refl _) _, ?_, by simp [HCS.out], B', fun i j hij hj => ?_, ?_, ?_, fun j hj => ?_⟩
            · simp [World.setCell, Array.getElem?_modify, hob1]
            · by_cases h1 : j ≤ k
              · rw [hL i (by omega), hL j h1]; exact BM.out i j hij h1
              · rw [hR j h1]
                by_cases h2 : i ≤ k
                · rw [hL i h2]; have := BM.out i k h2 (Nat.le_refl _); have := BB.out.2; omega
                · rw [hR i h2]; exact Nat.le_refl _
            · rw [hL 0 (Nat.zero_le _)]; exact BB.out.1
            · rw [hR (k + 1) (by omega), World.size_setCell, World.size_setCell]; exact Nat.le_refl _
            · have hks : Ks (fun b => w.heap.size < b) w1 ((w1.setCell ⟨w.heap.size, k * 2, none⟩ (.int .i64 (num f k))).setCell ⟨w.heap.size, k * 2 + 1, none⟩ (.slice a2 (len (kid f k)) k2)) := fun b hb _ => by
                rw [Below.heap_setCell _ _ _ _ (by show b ≠ w.heap.size; omega), Below.heap_setCell _ _ _ _ (by show b ≠ w.heap.size; omega)]
              by_cases hj' : j < k
              · obtain ⟨h2, a3, k3, h3, h4⟩ := KI.out j hj'
                have hb0 := BM.out 0 j (Nat.zero_le _) (by omega)
                have hB := BB.out.1
                refine ⟨?_, a3, k3, ?_, ?_⟩
                · rw [Array.getElem?_setIfInBounds_ne (by omega), Array.getElem?_setIfInBounds_ne (by omega)]; exact h2
                · rw [Array.getElem?_setIfInBounds_ne (by omega), Array.getElem?_setIfInBounds_ne (by omega)]; exact h3
                · rw [hL j (by omega), hL (j + 1) (by omega)]
                  exact (h4.ex hb1).ks fun b hb hlt' => hks b (by have := hb.1; omega) hlt'
              · have e : j = k := by omega
                subst e
                have hc := HCS.out
                have hB := BB.out
                have hb0 := BM.out 0 j (Nat.zero_le _) (Nat.le_refl _)
                refine ⟨?_, a2, k2, ?_, ?_⟩
                · rw [Array.getElem?_setIfInBounds_ne (by omega), Array.getElem?_setIfInBounds_self, if_pos (by omega)]
                · rw [Array.getElem?_setIfInBounds_self, if_pos (by rw [Array.size_setIfInBounds]; omega)]
                · rw [hL j (Nat.le_refl _), hR (j + 1) (by omega)]
                  refine (T2.out.mono fun b hb hs => ?_).ks fun b hb hlt' => hks b (by have := hb.1; omega) hlt'
                  have : wr.heap.size ≤ b := hs
                  exact ⟨by omega, hb⟩
          case measure => simp [intOf]; omega
        · go_wp2_with fail
          go_ret
          refine ⟨_, _, rfl, Or.inr ⟨w.heap.size, cur, fun i b => B i ≤ b ∧ b < B (i + 1), rfl, Nat.le_refl _, hob, fun i hi => ?_⟩, hx⟩
          have hB := BB.out.1
          have hb0 := BM.out 0 i (Nat.zero_le _) (by omega)
          obtain ⟨h2, a3, k3, h3, h4⟩ := KI.out i (by omega)
          refine ⟨fun b hb => ⟨by show w.heap.size ≤ b; have := hb.1; omega, by have := hb.1; omega⟩, fun j hj hne b hb hb' => ?_, h2, a3, k3, h3, h4⟩
          rcases Nat.lt_or_gt_of_ne hne with h | h
          · have := BM.out (j + 1) i (by omega) (by omega); have := hb.1; have := hb'.2; omega
          · have := BM.out (i + 1) j (by omega) (by omega); have := hb.2; have := hb'.1; omega
    refine ⟨hS, ?_⟩
    intro n f a c lo w hd hl hs hT
    have HS : Hid _ := hS
    clear hS ih
    go_enter Tryz.func26, Tryz.ntmps26
    go_wp2_with fail
    refine (HS.out f a c lo _ hd hl hs (VA_below hT (((Ex.new _ _).alloc _).alloc _))).mono ?_
    rintro e w1 ⟨a1, k1, rfl, ht1, hb1⟩
    have hx1 : Ex w w1 := (((Ex.new _ _).alloc _).alloc _).trans hb1
    have b1 : w1.heap[w.heap.size + 1]? = some (.cells #[.int .i64 0, .slice none 0 0] 55 (0, 0)) := hb1.blk ((Ex.new _ _).blk (heap_alloc_at _ _ (by simp)))
    have b2 : w1.heap[w.heap.size + 1 + 1]? = some (.cells #[.int .i64 n, .slice none 0 0] 55 (0, 0)) := hb1.blk (heap_alloc_at _ _ (by simp))
    have c0 : w1.cell? ⟨w.heap.size + 1, 0, none⟩ = some (.int .i64 0) := by simp [World.cell?, b1]
    have c1 : w1.cell? ⟨w.heap.size + 1, 1, none⟩ = some (.slice none 0 0) := by simp [World.cell?, b1]
    have f0 : w1.frozen? ⟨w.heap.size + 1, 0, none⟩ = false := by simp [World.frozen?, b1]
    have f1 : w1.frozen? ⟨w.heap.size + 1, 1, none⟩ = false := by simp [World.frozen?, b1]
    have d0 : w1.cell? ⟨w.heap.size + 1 + 1, 0, none⟩ = some (.int .i64 n) := by simp [World.cell?, b2]
    have d1 : w1.cell? ⟨w.heap.size + 1 + 1, 1, none⟩ = some (.slice none 0 0) := by simp [World.cell?, b2]
    have g1 : w1.frozen? ⟨w.heap.size + 1 + 1, 1, none⟩ = false := by simp [World.frozen?, b2]
    have T1 : Hid (VO (d + 1) w1 (fun b => (((w.alloc (.cells #[.int .i64 n, .slice a (len f) c] 49)).alloc (.cells #[.int .i64 0, .slice none 0 0] 55)).alloc (.cells #[.int .i64 n, .slice none 0 0] 55)).heap.size ≤ b) f a1) := ht1
    clear ht1
    go_wp2_with fail
    have e0 : (w1.setCell ⟨w.heap.size + 1 + 1, 1, none⟩ (.slice a1 (len f) k1)).cell? ⟨w.heap.size + 1, 0, none⟩ = some (.int .i64 0) := by
      rw [World.cell?_setCell_other _ _ _ _ (fun e => absurd (congrArg Addr.block e) (by show w.heap.size + 1 + 1 ≠ w.heap.size + 1; omega))]; exact c0
    have e1 : ((w1.setCell ⟨w.heap.size + 1 + 1, 1, none⟩ (.slice a1 (len f) k1)).setCell ⟨w.heap.size + 1, 0, none⟩ (.int .i64 n)).cell? ⟨w.heap.size + 1, 1, none⟩ = some (.slice none 0 0) := by
      rw [World.cell?_setCell_other _ _ _ _ (fun e => absurd (congrArg Addr.off e) (by simp)), World.cell?_setCell_other _ _ _ _ (fun e => absurd (congrArg Addr.block e) (by show w.heap.size + 1 + 1 ≠ w.heap.size + 1; omega))]; exact c1
    have hr1 := World.cell?_setCell_same ((w1.setCell ⟨w.heap.size + 1 + 1, 1, none⟩ (.slice a1 (len f) k1)).setCell ⟨w.heap.size + 1, 0, none⟩ (.int .i64 n)) ⟨w.heap.size + 1, 1, none⟩ (.slice a1 (len f) k1) e1
    have hr0 : (((w1.setCell ⟨w.heap.size + 1 + 1, 1, none⟩ (.slice a1 (len f) k1)).setCell ⟨w.heap.size + 1, 0, none⟩ (.int .i64 n)).setCell ⟨w.heap.size + 1, 1, none⟩ (.slice a1 (len f) k1)).cell? ⟨w.heap.size + 1, 0, none⟩ = some (.int .i64 n) := by
      rw [World.cell?_setCell_other _ _ _ _ (fun e => absurd (congrArg Addr.off e) (by simp))]; exact World.cell?_setCell_same _ _ _ e0
    refine bodyPost_ret (v := .agg #[.int .i64 n, .slice a1 (len f) k1]) (by simp [results, Tryz.results26, go_sem, hr0, hr1]) rfl ⟨a1, k1, rfl, VO.mono (VO.ks (VO.mono (S' := fun b => w.heap.size + 3 ≤ b) T1.out fun b _ hb => by simpa using hb) fun b hb _ => ?_) fun b _ hb => ?_, ((hx1.set ?_ _).set ?_ _).set ?_ _⟩
    · have : w.heap.size + 3 ≤ b := hb
      rw [Below.heap_setCell _ _ _ _ (by show b ≠ w.heap.size + 1; omega), Below.heap_setCell _ _ _ _ (by show b ≠ w.heap.size + 1; omega), Below.heap_setCell _ _ _ _ (by show b ≠ w.heap.size + 1 + 1; omega)]
    · have : w.heap.size + 3 ≤ b := hb
      show w.heap.size ≤ b; omega
    · show w.heap.size ≤ w.heap.size + 1 + 1; omega
    · show w.heap.size ≤ w.heap.size + 1; omega
    · show w.heap.size ≤ w.heap.size + 1; omega


end Go.Proofs.YtldbmlojgakieaaGreatDoor

namespace Go.Proofs.YtldbmlojgakieaaGreatDoor

open Go.RowKit Go.Deep

attribute [local go_sem ↓] Go.wp_at_zero Go.wp_at_succ

theorem PSm_all {l : List PM} (h : PSkTo l l.length) : ∀ i, i < l.length → PSm (l.getD i pm0) := fun i hi => by
  obtain ⟨h1, ⟨h2, h3⟩, h4, h5⟩ := h i hi
  exact ⟨by omega, by omega, h3, by omega⟩
theorem sz_two {f : F} (h2 : len f = 2) : sz f = 2 + sz (kid f 0) + sz (kid f 1) := by
  have := off_len f
  rw [h2, off_succ f 1 (by omega), off_succ f 0 (by omega), off_zero] at this
  omega
theorem vType_szs : ∀ (r : Nat) (n : Int) (f u : F), vType r n f = some u → sz f + 2 ≤ 2 ^ (r + 1)
  | 0, n, f, u, h => by simp [vType] at h
  | r + 1, n, f, u, h => by
    have hp : 2 ^ (r + 1 + 1) = 2 ^ (r + 1) * 2 := Nat.pow_succ 2 (r + 1)
    have hq : 2 ≤ 2 ^ (r + 1) := by
      have : 2 ^ (r + 1) = 2 ^ r * 2 := Nat.pow_succ 2 r
      have := Nat.pow_pos (n := r) (show 0 < 2 by omega)
      omega
    obtain h0 | ⟨h2, hn, a, b, ha, hb⟩ := vType_some h
    · rw [sz_nil h0]; omega
    · have i0 := vType_szs r _ _ _ ha
      have i1 := vType_szs r _ _ _ hb
      rw [sz_two h2]; omega
theorem tyL_sizes {r : F} (h : tyL r) (hl : len r ≤ 60) : Sm r ∧ sz r ≤ 2000 := by
  refine ⟨Sm_of fun j hj => ?_, ?_⟩
  · have ht := h j hj
    cases hv : vType 4 (num r j) (kid r j) with
    | none => rw [hv] at ht; cases ht
    | some u =>
      obtain ⟨z1, z2, _⟩ := vType_sm 4 _ _ u hv
      exact ⟨by omega, z2⟩
  · have key : ∀ i, i ≤ len r → off r i ≤ 31 * i := by
      intro i
      induction i with
      | zero => intro _; rw [off_zero]; omega
      | succ i ih =>
        intro hi
        have h1 := ih (by omega)
        rw [off_succ r i (by omega)]
        have ht := h i (by omega)
        cases hv : vType 4 (num r i) (kid r i) with
        | none => rw [hv] at ht; cases ht
        | some u =>
          have := vType_szs 4 _ _ u hv
          omega
    have := key (len r) (Nat.le_refl _)
    rw [off_len] at this
    omega

set_option maxRecDepth 100000 in
set_option maxHeartbeats 4000000 in
theorem lawExactPureRun (ea eb : Addr) (l : List PM) (a : Option Addr) (c : Nat) (s : ByteArray) (v : F) (va : Option Addr) (vc : Nat) (w : World) (hlen : l.length ≤ 9223372036854775807) (hlm : ∀ j, j < l.length → PLm (l.getD j pm0)) (hTwo : Two ea eb w) (hQ : QA w 0 l a) (hvl : len v ≤ 9223372036854775807) (hvm : Lm v) (hV : VA w 0 v va) :
    Calls Tryz.prog 3 #[.slice a l.length c, .string s, .slice va (len v) vc] w fun e w' => e = .returned (.bool true) ∧ Ex w w' := by
  have T : Hid (∀ w', Ex w w' → Two ea eb w') := fun w' h => hTwo.ex h
  have Q : Hid (∀ w', Ex w w' → QA w' 0 l a) := fun _ h => QA_below hQ h
  have V : Hid (∀ w', Ex w w' → VA w' 0 v va) := fun _ h => VA_below hV h
  have LM : Hid _ := hlm
  have VM : Hid (len v ≤ 9223372036854775807 ∧ Lm v) := ⟨hvl, hvm⟩
  have SZ : Hid _ := szPureS_any l a c 1048576 w hlen hlm (by omega) (by omega) hQ
  clear hQ hlm hTwo hV hvl hvm
  by_cases hbig : 1048576 < s.size
  · have d1 : decide ((1048576 : Int) < (s.size : Int)) = true := by simp; omega
    go_enter Tryz.func3, Tryz.ntmps3
    go_wp2_with fail
    go_ret
    exact ⟨rfl, Ex.refl _⟩
  have d1 : decide ((1048576 : Int) < (s.size : Int)) = false := by simp; omega
  go_enter Tryz.func3, Tryz.ntmps3
  go_wp2_with fail
  refine Calls.mono SZ.out ?_
  rintro e w1 ⟨x, rfl, hx0, hx1, hx2, hb1⟩
  have X1 : Hid (Ex w w1) := hb1
  clear hb1 SZ
  by_cases hx : x < 0
  · go_wp2_with fail
    go_ret
    exact ⟨rfl, X1.out⟩
  obtain ⟨⟨h1, hsk⟩, hqw⟩ := hx2 (by omega)
  have SZV : Hid _ := (szValN_both (dep v + 1)).1 v va vc 0 x w1 (by omega) VM.out.1 VM.out.2 (by omega) (by omega) (V.out _ X1.out)
  go_wp2_with fail
  refine Calls.mono SZV.out ?_
  rintro e w2 ⟨y, rfl, hy0, hy1, hy2, hb2⟩
  have X2 : Hid (Ex w w2) := X1.out.trans hb2
  clear hb2 SZV hx2
  by_cases hy : y < 0
  · go_wp2_with fail
    go_ret
    exact ⟨rfl, X2.out⟩
  obtain ⟨⟨g1, g2⟩, g3⟩ := hy2 (by omega)
  have SK : Hid (PSkTo l l.length) := hsk
  have QW : Hid (qW l ≤ 1048576 ∧ sz v ≤ 1048576) := by constructor <;> omega
  have L6 : Hid (l.length ≤ 1048576 ∧ len v ≤ 1048576 ∧ Sm v) := ⟨h1, g1, g2⟩
  have TO : Hid (∀ w', Ex w w' → Calls Tryz.prog 8 #[.slice a l.length c] w' fun e w'' => ∃ a', e = .returned (.slice a' l.length l.length) ∧ QU w'' w'.heap.size l a' ∧ Ex w' w'') := fun w' h => utoPureS_any l a c w' (by omega) SK.out (Q.out w' h)
  have TV : Hid (∀ w', Ex w w' → Calls Tryz.prog 9 #[.slice va (len v) vc] w' fun e w'' => ∃ a' c', e = .returned (.slice a' (len v) c') ∧ VO (dep v + 1) w'' (fun b => w'.heap.size ≤ b) v a' ∧ Ex w' w'') := fun w' h => (toValO_both (dep v + 1)).1 v va vc 0 w' (by omega) (by omega) L6.out.2.2 (V.out w' h)
  obtain ⟨r, hr⟩ : ∃ r, r = (runV l s v).getD .nil := ⟨_, rfl⟩
  obtain ⟨cc, hcc⟩ : ∃ cc, cc = codeV (askV l s v) (runV l s v) := ⟨_, rfl⟩
  have RS : Hid (len r ≤ 60 ∧ Sm r ∧ sz r ≤ 2000) := by
    cases hR : runV l s v with
    | none => rw [hR] at hr; subst hr; exact ⟨by show 0 ≤ 60; omega, trivial, by show 0 ≤ 2000; omega⟩
    | some r' =>
      rw [hR] at hr
      have e : r = r' := hr
      subst e
      obtain ⟨t1, t2⟩ := run_ty hR
      exact ⟨t2, (tyL_sizes t1 t2).1, (tyL_sizes t1 t2).2⟩
  have SP : Hid (∀ w' a' a'' c'', QA w' 0 l a' → VA w' 0 v a'' → Calls Tryz.prog 7 #[.slice a' l.length l.length, .string s, .slice a'' (len v) c''] w' fun e w'' => ∃ a3 c3, e = .returned (.tuple #[.slice a3 (len r) c3, .int .i64 cc]) ∧ VS w'' (fun b => w'.heap.size ≤ b) r a3 ∧ Ex w' w'') := fun w' a' a'' c'' h h' => by
    have h0 := sPureRun_any l a' l.length s v a'' c'' w' (by omega) (PSm_all SK.out) (fun i hi => ⟨(LM.out i hi).2.2.1, (SK.out i hi).2.1.2, (LM.out i hi).2.2.2.2.1, (SK.out i hi).2.2.2, (LM.out i hi).2.2.2.2.2.2⟩) h (by omega) L6.out.2.2 h'
    unfold SprP at h0
    rw [← hr, ← hcc] at h0
    exact h0
  have IP : Hid (∀ w' a' a'' c'', Ex w w' → QA w' 0 l a' → VA w' 0 v a'' → Calls Tryz.prog 10 #[.slice a' l.length l.length, .string s, .slice a'' (len v) c''] w' fun e w'' => ∃ a3 c3, e = .returned (.tuple #[.slice a3 (len r) c3, .int .i64 cc]) ∧ VO 5 w'' (fun b => w'.heap.size ≤ b) r a3 ∧ Ex w' w'') := fun w' a' a'' c'' hx h h' => by
    have h0 := iPureRun_any ea eb (fun b => b < w'.heap.size) l a' l.length s v a'' c'' w' (T.out w' hx) (by omega) (Nat.le_refl _) SK.out LM.out h (by omega) (VS_mono (VS_mono h' (S' := fun _ => True) fun _ _ _ => trivial) fun b hb _ => hb) fun b hb => hb
    unfold PrP at h0
    rw [← hr, ← hcc] at h0
    exact h0
  have EQ : Hid (∀ w' a1 a2, QA w' 0 l a1 → QA w' 0 l a2 → Calls Tryz.prog 12 #[.slice a1 l.length l.length, .slice a2 l.length l.length] w' fun e w'' => e = .returned (.bool true) ∧ Ex w' w'') := fun w' a1 a2 h1 h2 => eqPureS_same l a1 a2 l.length l.length w' (by omega) SK.out h1 h2
  have EV : Hid (∀ w' a1 c1 a2 c2, VA w' 0 r a1 → VA w' 0 r a2 → Calls Tryz.prog 11 #[.slice a1 (len r) c1, .slice a2 (len r) c2] w' fun e w'' => e = .returned (.bool true) ∧ Ex w' w'') := fun w' a1 c1 a2 c2 h h' => by
    have := (eqVal_both (dep r + 1)).1 r r a1 a2 c1 c2 0 0 w' (by omega) (by have := RS.out.1; omega) RS.out.2.1 h h'
    rw [eqV_refl] at this; exact this
  have EW : Hid (∀ w' a1 c1 a2 c2, VA w' 0 v a1 → VA w' 0 v a2 → Calls Tryz.prog 11 #[.slice a1 (len v) c1, .slice a2 (len v) c2] w' fun e w'' => e = .returned (.bool true) ∧ Ex w' w'') := fun w' a1 c1 a2 c2 h h' => by
    have := (eqVal_both (dep v + 1)).1 v v a1 a2 c1 c2 0 0 w' (by omega) (by omega) L6.out.2.2 h h'
    rw [eqV_refl] at this; exact this
  have hnc : (cc != cc) = false := by simp
  clear hy2 hlen hsk hqw h1 g1 g2 g3 hr hcc
  go_wp2_with fail
  refine (TO.out _ X2.out).mono ?_
  rintro e w3 ⟨a3, rfl, hq3, hb3⟩
  have X3 : Hid (Ex w w3) := X2.out.trans hb3
  have Q3 : Hid (∀ w', Ex w3 w' → QA w' 0 l a3) := fun w' h => QA_below (QA_lo hq3.a (Nat.zero_le _)) h
  clear hq3 hb3
  go_wp2_with fail
  refine (TV.out _ X3.out).mono ?_
  rintro e w4 ⟨a4, c4, rfl, hv4, hb4⟩
  have X4 : Hid (Ex w w4) := X3.out.trans hb4
  have Q4 : Hid (QA w4 0 l a3) := Q3.out w4 hb4
  have V4 : Hid (VA w4 0 v a4) := VS_mono hv4.vs fun _ _ _ => Nat.zero_le _
  clear hv4 hb4
  go_wp2_with fail
  refine (SP.out _ _ _ _ Q4.out V4.out).mono ?_
  rintro e w5 ⟨a5, c5, rfl, hv5, hb5⟩
  have X5 : Hid (Ex w w5) := X4.out.trans hb5
  have V5 : Hid (∀ w', Ex w5 w' → VA w' 0 r a5) := fun w' h => VS_mono (VS_ex hv5 h) fun _ _ _ => Nat.zero_le _
  clear hv5 hb5
  go_wp2_with fail
  refine (TO.out _ X5.out).mono ?_
  rintro e w6 ⟨a6, rfl, hq6, hb6⟩
  have X6 : Hid (Ex w w6) := X5.out.trans hb6
  have Q6 : Hid (∀ w', Ex w6 w' → QS w' (fun b => w5.heap.size ≤ b ∧ b < w6.heap.size ∧ Unf w' b) l a6) := fun w' h => QS_mono (QS_ks (QS_mono (S' := fun b => w5.heap.size ≤ b ∧ b < w6.heap.size ∧ Unf w6 b) hq6 fun b hl hb => ⟨hb.1, hl, hb.2⟩) fun k _ hk => h.block k hk) fun b _ hb => ⟨hb.1, hb.2.1, hb.2.2.ex h⟩
  have Y6 : Hid (Ex w5 w6) := hb6
  clear hq6 hb6
  go_wp2_with fail
  refine (TV.out _ X6.out).mono ?_
  rintro e w7 ⟨a7, c7, rfl, hv7, hb7⟩
  have X7 : Hid (Ex w w7) := X6.out.trans hb7
  have Y7 : Hid (Ex w6 w7) := hb7
  have V7 : Hid (∀ w', Ex w7 w' → VO (dep v + 1) w' (fun b => w6.heap.size ≤ b ∧ b < w7.heap.size) v a7) := fun w' h => (hv7.mono (S' := fun b => w6.heap.size ≤ b ∧ b < w7.heap.size) fun b hb hs => ⟨hs, hb⟩).ex h
  clear hv7 hb7
  go_wp2_with fail
  refine (IP.out _ _ _ _ X7.out (QS_mono (Q6.out w7 Y7.out) fun _ _ _ => Nat.zero_le _) (VS_mono (V7.out w7 (Ex.refl _)).vs fun _ _ _ => Nat.zero_le _)).mono ?_
  rintro e w8 ⟨a8, c8, rfl, hv8, hb8⟩
  have X8 : Hid (Ex w w8) := X7.out.trans hb8
  have Y8 : Hid (Ex w7 w8) := hb8
  have V8 : Hid (∀ w', Ex w8 w' → VO 5 w' (fun b => w7.heap.size ≤ b ∧ b < w8.heap.size) r a8) := fun w' h => (hv8.mono (S' := fun b => w7.heap.size ≤ b ∧ b < w8.heap.size) fun b hb hs => ⟨hs, hb⟩).ex h
  have Y58 : Hid (Ex w5 w8) := Y6.out.trans (Y7.out.trans Y8.out)
  clear hv8 hb8
  go_wp2_with fail
  refine (EV.out w8 a8 c8 a5 c5 (VS_mono (V8.out w8 (Ex.refl _)).vs fun _ _ _ => Nat.zero_le _) (V5.out w8 Y58.out)).mono ?_
  rintro e w9 ⟨rfl, hb9⟩
  have Y9 : Hid (Ex w8 w9) := hb9
  have X9 : Hid (Ex w w9) := X8.out.trans hb9
  clear hb9
  go_wp2_with fail
  refine (TO.out _ X9.out).mono ?_
  rintro e w10 ⟨a10, rfl, hq10, hb10⟩
  have Y10 : Hid (Ex w8 w10) := Y9.out.trans hb10
  have Q10 : Hid (QA w10 0 l a10) := QA_lo hq10.a (Nat.zero_le _)
  clear hq10 hb10
  go_wp2_with fail
  refine (EQ.out w10 a6 a10 (QS_mono (Q6.out w10 (Y7.out.trans (Y8.out.trans Y10.out))) fun _ _ _ => Nat.zero_le _) Q10.out).mono ?_
  rintro e w11 ⟨rfl, hb11⟩
  have Y11 : Hid (Ex w8 w11) := Y10.out.trans hb11
  have X11 : Hid (Ex w w11) := X8.out.trans Y11.out
  clear hb11
  go_wp2_with fail
  refine (TV.out _ X11.out).mono ?_
  rintro e w12 ⟨a12, c12, rfl, hv12, hb12⟩
  have Y12 : Hid (Ex w8 w12) := Y11.out.trans hb12
  have V12 : Hid (VA w12 0 v a12) := VS_mono hv12.vs fun _ _ _ => Nat.zero_le _
  clear hv12 hb12
  go_wp2_with fail
  refine (EW.out w12 a7 c7 a12 c12 (VS_mono (V7.out w12 (Y8.out.trans Y12.out)).vs fun _ _ _ => Nat.zero_le _) V12.out).mono ?_
  rintro e w13 ⟨rfl, hb13⟩
  have Y13 : Hid (Ex w8 w13) := Y12.out.trans hb13
  have Y713 : Hid (Ex w7 w13) := Y8.out.trans Y13.out
  have MP : Hid _ := markPureS_u (w0 := w13) (S := fun b => w5.heap.size ≤ b ∧ b < w6.heap.size ∧ Unf w13 b) (fun b hb => hb.2.2) l a6 l.length 1 (Q6.out w13 (Y7.out.trans Y713.out)) (by omega) (by have := QW.out.1; omega) w13 (Rs.refl _)
  clear hb13
  go_wp2_with fail
  refine Calls.mono MP.out ?_
  rintro e w14 ⟨x14, rfl, hx14, hx14', hF14, _⟩
  have F14 : Hid _ := hF14
  have S6 : Hid (w5.heap.size ≤ w6.heap.size ∧ w6.heap.size ≤ w7.heap.size ∧ w7.heap.size ≤ w8.heap.size ∧ w8.heap.size ≤ w13.heap.size) := ⟨Y6.out.size, Y7.out.size, Y8.out.size, Y13.out.size⟩
  have V714 : Hid (VO (dep v + 1) w14 (fun b => w6.heap.size ≤ b ∧ b < w7.heap.size) v a7) := (V7.out w13 Y713.out).ks fun b hb hlt => F14.out.block b hlt fun h => by have := h.2.1; have := hb.1; omega
  have V814 : Hid (VO 5 w14 (fun b => w7.heap.size ≤ b ∧ b < w8.heap.size) r a8) := (V8.out w13 Y13.out).ks fun b hb hlt => F14.out.block b hlt fun h => by have := h.2.1; have := hb.1; have := S6.out; omega
  have Z14 : Hid (Ex w5 w14) := hF14.to_ex (Y58.out.trans Y13.out) fun k hk => hk.1
  have MV : Hid _ := markValS_any (dep v + 1) v a7 c7 (fun b => w6.heap.size ≤ b ∧ b < w7.heap.size) x14 w14 V714.out (by have := L6.out.2.1; omega) (by omega) (by have := QW.out; omega)
  have X14 : Hid (1 ≤ x14) := hx14
  clear MP hF14 hx14 hx14'
  go_wp2_with fail
  refine Calls.mono MV.out ?_
  rintro e w15 ⟨rfl, _, hF15⟩
  have F15 : Hid _ := hF15
  have V815 : Hid (VO 5 w15 (fun b => w7.heap.size ≤ b ∧ b < w8.heap.size) r a8) := V814.out.ks fun b hb hlt => F15.out.block b hlt fun h => by have := h.2; have := hb.1; omega
  have Z15 : Hid (Ex w5 w15) := hF15.to_ex Z14.out fun k hk => by have := S6.out; have := hk.1; omega
  obtain ⟨k2, hk2⟩ : ∃ k2, k2 = x14 + (sz v : Int) := ⟨_, rfl⟩
  rw [← hk2]
  have dk2 : decide (k2 < 0) = false := by simp; have := X14.out; omega
  clear hF15 MV hk2
  go_wp2_with fail
  refine (EV.out w15 a8 c8 a5 c5 (VS_mono V815.out.vs fun _ _ _ => Nat.zero_le _) (V5.out w15 Z15.out)).mono ?_
  rintro e w16 ⟨rfl, hb16⟩
  have Z16 : Hid (Ex w5 w16) := Z15.out.trans hb16
  have V816 : Hid (VO 5 w16 (fun b => w7.heap.size ≤ b ∧ b < w8.heap.size) r a8) := V815.out.ex hb16
  have MG : Hid _ := markValS_any 5 r a8 c8 (fun b => w7.heap.size ≤ b ∧ b < w8.heap.size) 1 w16 V816.out (by have := RS.out.1; omega) (by omega) (by have := RS.out.2.2; omega)
  clear hb16
  go_wp2_with fail
  refine Calls.mono MG.out ?_
  rintro e w17 ⟨rfl, hv17, hF17⟩
  have Z17 : Hid (Ex w5 w17) := hF17.to_ex Z16.out fun k hk => by have := S6.out; have := hk.1; omega
  have V17 : Hid (∀ w', Ex w17 w' → VA w' 0 (mk 1 r) a8) := fun _ h => VA_below (VS_mono hv17.vs fun _ _ hb => Nat.zero_le _) h
  obtain ⟨mm, hmm⟩ : ∃ mm, mm = (1 : Int) + (sz r : Int) := ⟨_, rfl⟩
  have HL : Hid (∀ w', Ex w17 w' → Calls Tryz.prog 15 #[.slice a8 (len r) c8, .int .i64 1] w' fun e w'' => e = .returned (.int .i64 mm) ∧ Ex w' w'') := fun w' h => by
    have := heldValS_any (dep r + 1) r a8 c8 0 1 w' (by omega) (by have := RS.out.1; omega) (by omega) (by have := RS.out.2.2; omega) (V17.out _ h)
    rw [← hmm] at this; exact this
  rw [← hmm]
  have dmm : decide (mm < 0) = false := by simp; omega
  have nmm : (mm != mm) = false := by simp
  clear hv17 hF17 hmm MG
  go_wp2_with fail
  refine (HL.out w17 (Ex.refl _)).mono ?_
  rintro e w18 ⟨rfl, hb18⟩
  have U18 : Hid (Ex w17 w18) := hb18
  have X18 : Hid (Ex w w18) := X5.out.trans (Z17.out.trans hb18)
  clear hb18
  go_wp2_with fail
  refine (TO.out _ X18.out).mono ?_
  rintro e w19 ⟨a19, rfl, hq19, hb19⟩
  have U19 : Hid (Ex w17 w19) := U18.out.trans hb19
  have X19 : Hid (Ex w w19) := X18.out.trans hb19
  have Q19 : Hid (∀ w', Ex w19 w' → QA w' 0 l a19) := fun w' h => QA_below (QA_lo hq19.a (Nat.zero_le _)) h
  clear hq19 hb19
  go_wp2_with fail
  refine (TV.out _ X19.out).mono ?_
  rintro e w20 ⟨a20, c20, rfl, hv20, hb20⟩
  have U20 : Hid (Ex w17 w20) := U19.out.trans hb20
  have X20 : Hid (Ex w w20) := X19.out.trans hb20
  have V20 : Hid (VA w20 0 v a20) := VS_mono hv20.vs fun _ _ _ => Nat.zero_le _
  have Q20 : Hid (QA w20 0 l a19) := Q19.out w20 hb20
  clear hv20 hb20
  go_wp2_with fail
  refine (IP.out _ _ _ _ X20.out Q20.out V20.out).mono ?_
  rintro e w21 ⟨a21, c21, rfl, hv21, hb21⟩
  have U21 : Hid (Ex w17 w21) := U20.out.trans hb21
  have V21 : Hid (VA w21 0 r a21) := VS_mono hv21.vs fun _ _ _ => Nat.zero_le _
  clear hv21 hb21
  go_wp2_with fail
  refine (EV.out w21 a21 c21 a5 c5 V21.out (V5.out w21 (Z17.out.trans U21.out))).mono ?_
  rintro e w22 ⟨rfl, hb22⟩
  have U22 : Hid (Ex w17 w22) := U21.out.trans hb22
  clear hb22
  go_wp2_with fail
  refine (HL.out w22 U22.out).mono ?_
  rintro e w23 ⟨rfl, hb23⟩
  go_wp2_with fail
  go_ret
  exact ⟨rfl, X5.out.trans (Z17.out.trans (U22.out.trans hb23))⟩

end Go.Proofs.YtldbmlojgakieaaGreatDoor

namespace Go.Proofs.YtldbmlojgakieaaGreatDoor

open Go.RowKit Go.Deep Go.ChangeShapes Go.WideShapes

set_option maxRecDepth 100000

/-- So many of a family. -/
def build (g : Nat → Int × F) : Nat → Nat → F
  | _, 0 => .nil
  | i, n + 1 => .node 0 0 (g i).1 (g i).2 (build g (i + 1) n)
theorem len_build (g : Nat → Int × F) : ∀ i n, len (build g i n) = n
  | _, 0 => rfl
  | i, n + 1 => by simp [build, len, len_build g (i + 1) n]
theorem kid_build (g : Nat → Int × F) : ∀ i n j, j < n → kid (build g i n) j = (g (i + j)).2
  | _, 0, j, h => by omega
  | i, n + 1, 0, _ => rfl
  | i, n + 1, j + 1, h => by
    show kid (build g (i + 1) n) j = _
    rw [kid_build g (i + 1) n j (by omega)]; congr 2; omega
theorem num_build (g : Nat → Int × F) : ∀ i n j, j < n → num (build g i n) j = (g (i + j)).1
  | _, 0, j, h => by omega
  | i, n + 1, 0, _ => rfl
  | i, n + 1, j + 1, h => by
    show num (build g (i + 1) n) j = _
    rw [num_build g (i + 1) n j (by omega)]; congr 2; omega
theorem Lm_mk : ∀ {f : F}, (∀ j, j < len f → len (kid f j) ≤ 9223372036854775807 ∧ Lm (kid f j)) → Lm f
  | .nil, _ => trivial
  | .node _ _ _ k r, h => ⟨(h 0 (by simp [len])).1, (h 0 (by simp [len])).2, Lm_mk fun j hj => h (j + 1) (by simp only [len]; omega)⟩

end Go.Proofs.YtldbmlojgakieaaGreatDoor

namespace Go.Proofs.YtldbmlojgakieaaGreatDoor

open Go.ChangeShapes Go.WideShapes Go.ChangeAt Go.RowKit Go.Deep

set_option maxRecDepth 100000

/-- A list of numbers by value. -/
theorem open_intsV {H : Type} {enc : TypeId × Value → H} {W : World} {sp : Nat → Bool} {hd : Bool} {r : Reach} {b0 : Nat} {v : Value} {dd : DataW H} {p : List MemPlace} (hv : Value.okWide Tryz.prog W r b0 119 v) (h : DataW.Trod enc Tryz.prog W 0 sp hd 119 v dd p) :
    ∃ (xs : List Int) (a : Option Addr) (cap : Nat), v = .slice a xs.length cap ∧ PA W 0 xs a ∧ xs.length ≤ 9223372036854775807 := by
  obtain ⟨a, len, cap, rfl⟩ := okWide_slice Tryz.underlying119 hv
  obtain ⟨fuel, hf⟩ := h
  rcases open_ints Tryz.underlying119 Tryz.underlying3 (by kernel_rfl) hf with ⟨hcs, _⟩ | ⟨x, l, c, zs, hcs, _, hl, hm, hz, _, hcell, _⟩
  · simp [Value.cells] at hcs
    obtain ⟨rfl, rfl, rfl⟩ := hcs
    exact ⟨[], none, 0, rfl, Or.inl rfl, by simp⟩
  · simp [Value.cells] at hcs
    obtain ⟨rfl, rfl, rfl⟩ := hcs
    unfold maxLen at hm
    have hle : len ≤ zs.length := by rw [hz]; split <;> omega
    have htl : (zs.take len).length = len := by simp; omega
    refine ⟨zs.take len, some x, cap, by rw [htl], ?_, by omega⟩
    by_cases h0 : len = 0
    · exact Or.inl (by omega)
    · obtain ⟨b, o, s⟩ := x
      have h1 := hcell 0 (by omega)
      have hs : s = none := by simpa [Addr.add] using World.cell?_spot h1
      subst hs
      refine Or.inr ⟨b, o, rfl, Nat.zero_le _, fun i hi => ?_⟩
      have := hcell i (by omega)
      rw [add_plain] at this
      rw [this]
      simp [List.getD, List.getElem?_take_of_lt (show i < len by omega)]

end Go.Proofs.YtldbmlojgakieaaGreatDoor

namespace Go.Proofs.YtldbmlojgakieaaGreatDoor

open Go.RowKit Go.Deep Go.ChangeShapes Go.WideShapes Go.ChangeAt

set_option maxRecDepth 100000
theorem Tryz.cells119 : Tryz.prog.cellsOf 119 = 1 := by kernel_rfl
theorem Tryz.cells9 : Tryz.prog.cellsOf 9 = 1 := by kernel_rfl

/-- Cells that are a list of numbers. -/
theorem open_intsC {H : Type} {enc : TypeId × Value → H} {W : World} {sp : Nat → Bool} {hd : Bool} {fuel : Nat} {cs : List Value} {x : DataW H × List MemPlace} (hf : DataW.trod enc Tryz.prog W 0 sp hd fuel 119 cs = some x) :
    ∃ (xs : List Int) (a : Option Addr) (cap : Nat), cs = [.slice a xs.length cap] ∧ PA W 0 xs a ∧ xs.length ≤ 9223372036854775807 ∧ xs.length ≤ cap ∧ cap ≤ 9223372036854775807 := by
  rcases open_ints Tryz.underlying119 Tryz.underlying3 (by kernel_rfl) hf with ⟨hcs, _⟩ | ⟨x, len, cap, zs, hcs, _, hl, hm, hz, _, hcell, _⟩
  · exact ⟨[], none, 0, hcs, Or.inl rfl, by simp, by simp, by simp⟩
  · unfold maxLen at hm
    have hle : len ≤ zs.length := by rw [hz]; split <;> omega
    have htl : (zs.take len).length = len := by simp; omega
    refine ⟨zs.take len, some x, cap, by rw [htl]; exact hcs, ?_, by omega, by omega, by omega⟩
    by_cases h0 : len = 0
    · exact Or.inl (by omega)
    · obtain ⟨b, o, s⟩ := x
      have h1 := hcell 0 (by omega)
      have hs : s = none := by simpa [Addr.add] using World.cell?_spot h1
      subst hs
      refine Or.inr ⟨b, o, rfl, Nat.zero_le _, fun i hi => ?_⟩
      have := hcell i (by omega)
      rw [add_plain] at this
      rw [this]
      simp [List.getD, List.getElem?_take_of_lt (show i < len by omega)]

end Go.Proofs.YtldbmlojgakieaaGreatDoor
