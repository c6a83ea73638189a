/- Walks: values in memory of their own written over, and held against that. -/
import Derived.Test.YtomnekiiccbioaaV14
import Derived.Test.YtomnekiiccbioaaE4
namespace Go.Proofs.Ytomnekiiccbioaa
open Go.RowKit Go.Deep
attribute [local go_sem ↓] Go.wp_at_zero Go.wp_at_succ

/-- How many values there are, those in others counted. -/
def sz : F → Nat
  | .nil => 0
  | .node _ _ _ k r => 1 + sz k + sz r
/-- .. in the first ones. -/
def off : F → Nat → Nat
  | .nil, _ => 0
  | .node _ _ _ _ _, 0 => 0
  | .node _ _ _ k r, i + 1 => 1 + sz k + off r i
theorem off_zero (f : F) : off f 0 = 0 := by cases f <;> rfl
theorem off_len : ∀ f : F, off f (len f) = sz f
  | .nil => rfl
  | .node _ _ _ k r => by simp only [len, off, sz, off_len r]
theorem off_succ : ∀ (f : F) (i : Nat), i < len f → off f (i + 1) = off f i + 1 + sz (kid f i)
  | .nil, i, h => by simp [len] at h
  | .node _ _ _ k r, 0, h => by simp only [off, off_zero, kid]; omega
  | .node _ _ _ k r, i + 1, h => by
    have := off_succ r i (by simp only [len] at h; omega)
    simp only [off, kid, this]; omega
theorem off_le : ∀ (f : F) (i : Nat), i ≤ len f → off f i ≤ sz f
  | .nil, i, h => by simp [off]
  | .node _ _ _ k r, 0, h => by simp [off]
  | .node _ _ _ k r, i + 1, h => by
    have := off_le r i (by simp only [len] at h; omega)
    simp only [off, sz]; omega
theorem sz_nil {f : F} (h : len f = 0) : sz f = 0 := by rw [← off_len, h, off_zero]
theorem len_sz : ∀ f : F, len f ≤ sz f
  | .nil => Nat.le_refl _
  | .node _ _ _ k r => by have := len_sz r; simp only [len, sz]; omega

/-- The same, numbered from n on. -/
def mk : Int → F → F
  | _, .nil => .nil
  | n, .node b o _ k r => .node b o n (mk (n + 1) k) (mk (n + 1 + sz k) r)
theorem len_mk : ∀ (n : Int) (f : F), len (mk n f) = len f
  | _, .nil => rfl
  | n, .node _ _ _ k r => by simp only [mk, len, len_mk _ r]
theorem num_mk : ∀ (n : Int) (f : F) (i : Nat), i < len f → num (mk n f) i = n + off f i
  | n, .nil, i, h => by simp [len] at h
  | n, .node _ _ _ k r, 0, h => by simp [mk, num, off]
  | n, .node _ _ _ k r, i + 1, h => by
    have := num_mk (n + 1 + sz k) r i (by simp only [len] at h; omega)
    simp only [mk, num, off, this]; omega
theorem kid_mk : ∀ (n : Int) (f : F) (i : Nat), i < len f → kid (mk n f) i = mk (n + off f i + 1) (kid f i)
  | n, .nil, i, h => by simp [len] at h
  | n, .node _ _ _ k r, 0, h => by simp [mk, kid, off]
  | n, .node _ _ _ k r, i + 1, h => by
    have := kid_mk (n + 1 + sz k) r i (by simp only [len] at h; omega)
    simp only [mk, kid, off, this]
    congr 1
    omega

/-- Of what was there only blocks of S have turned. -/
structure FrS (S : Nat → Prop) (w w' : World) : Prop where
  os : w'.os = w.os
  tape : w'.tape = w.tape
  output : w'.output = w.output
  size : w.heap.size ≤ w'.heap.size
  block : ∀ k, k < w.heap.size → ¬ S k → w'.heap[k]? = w.heap[k]?
theorem FrS.refl (S : Nat → Prop) (w : World) : FrS S w w := ⟨rfl, rfl, rfl, Nat.le_refl _, fun _ _ _ => rfl⟩
theorem FrS.trans {S : Nat → Prop} {a b c : World} (h : FrS S a b) (k : FrS S b c) : FrS S a c :=
  ⟨k.os.trans h.os, k.tape.trans h.tape, k.output.trans h.output, Nat.le_trans h.size k.size, fun i hi hn => (k.block i (Nat.lt_of_lt_of_le hi h.size) hn).trans (h.block i hi hn)⟩
theorem FrS.mono {S T : Nat → Prop} {a b : World} (h : FrS S a b) (hs : ∀ k, S k → T k) : FrS T a b := ⟨h.os, h.tape, h.output, h.size, fun k hk hn => h.block k hk fun hh => hn (hs k hh)⟩
theorem FrS.of_ex {S : Nat → Prop} {a b : World} (h : Ex a b) : FrS S a b := ⟨h.os, h.tape, h.output, h.size, fun k hk _ => h.block k hk⟩
theorem FrS.set {S : Nat → Prop} {a b : World} (h : FrS S a b) {p : Addr} (hp : S p.block) (v : Value) : FrS S a (b.setCell p v) :=
  ⟨h.os, h.tape, h.output, by rw [World.size_setCell]; exact h.size, fun k hk hn => by rw [Below.heap_setCell _ _ _ _ (fun e => hn (by rw [e]; exact hp))]; exact h.block k hk hn⟩
theorem FrS.at {S : Nat → Prop} {a b : World} (h : FrS S a b) {p : Addr} {v : Value} (hn : ¬ S p.block) (hc : a.cell? p = some v) : b.cell? p = some v :=
  (World.cell?_of_block (w := a) (h.block _ (World.block_lt_of_cell? _ _ hc) hn)).trans hc

def MkPost (d : Nat) (S : Nat → Prop) (f : F) (a : Option Addr) (k0 : Int) (w : World) (e : Ending) (w' : World) : Prop := e = .returned (.int .i64 (k0 + sz f)) ∧ VO d w' S (mk k0 f) a ∧ FrS S w w'

set_option maxRecDepth 100000 in
set_option maxHeartbeats 2000000 in
theorem markValS_any : ∀ (d : Nat) (f : F) (a : Option Addr) (c : Nat) (S : Nat → Prop) (k0 : Int) (w : World), VO d w S f a → len f ≤ 1000000000 → 0 ≤ k0 → k0 + sz f ≤ 1000000000 →
    Calls Try.prog 89 #[.slice a (len f) c, .int .i64 k0] w (MkPost d S f a k0 w) := by
  intro d
  induction d with
  | zero =>
    intro f a c S k0 w hV hl h0 hk
    have hz : len f = 0 := hV
    have R : Hid (∀ w', MkPost 0 S f a k0 w' (.returned (.int .i64 k0)) w') := fun w' => ⟨by rw [sz_nil hz]; simp, by show len (mk k0 f) = 0; rw [len_mk]; exact hz, FrS.refl _ _⟩
    rw [hz]
    clear hV hz hk
    go_enter Try.func89, Try.ntmps89
    go_wp2_with fail
    go_loopw [1, 5] (fun kv i wr => kv = .int .i64 k0 ∧ i = .int .i64 0 ∧ wr = w) (fun _ _ _ => 0)
    case atStart => exact ⟨rfl, rfl, rfl⟩
    case round =>
      obtain ⟨rfl, rfl, rfl⟩ := hrel
      go_wp2_with fail
      go_ret
      exact R.out _
  | succ d ih =>
    intro f a c S k0 w hV hl h0 hk
    have I : Hid _ := ih
    clear ih
    rcases hV with hz | ⟨g, cur0, K, rfl, hSg, hcur, hkk⟩
    · have R : Hid (∀ w', MkPost (d + 1) S f a k0 w' (.returned (.int .i64 k0)) w') := fun w' => ⟨by rw [sz_nil hz]; simp, VO.nil _ _ _ _ _ (by rw [len_mk]; exact hz), FrS.refl _ _⟩
      rw [hz]
      clear hz hk
      go_enter Try.func89, Try.ntmps89
      go_wp2_with fail
      go_loopw [1, 5] (fun kv i wr => kv = .int .i64 k0 ∧ i = .int .i64 0 ∧ wr = w) (fun _ _ _ => 0)
      case atStart => exact ⟨rfl, rfl, rfl⟩
      case round =>
        obtain ⟨rfl, rfl, rfl⟩ := hrel
        go_wp2_with fail
        go_ret
        exact R.out _
    · have KD : Hid (∀ i, i < len f → (∀ b, K i b → S b ∧ b ≠ g) ∧ (∀ j, j < len f → j ≠ i → ∀ b, K i b → ¬ K j b)) := fun i hi => ⟨(hkk i hi).1, (hkk i hi).2.1⟩
      have KK : Hid (∀ i, i < len f → ∃ a' c', cur0[i * 2 + 1]? = some (.slice a' (len (kid f i)) c') ∧ (i < 0 → cur0[i * 2]? = some (.int .i64 (k0 + off f i)) ∧ VO d w (K i) (mk (k0 + off f i + 1) (kid f i)) a') ∧ (0 ≤ i → cur0[i * 2]? = some (.int .i64 (num f i)) ∧ VO d w (K i) (kid f i) a')) := fun i hi => by
        obtain ⟨_, _, h1, a', c', h2, h3⟩ := hkk i hi
        exact ⟨a', c', h2, fun h => by omega, fun _ => ⟨h1, h3⟩⟩
      clear hkk
      go_enter Try.func89, Try.ntmps89
      go_wp2_with fail
      go_loopw [1, 5] (fun kv i wr => ∃ (j : Nat) (cur : Array Value), j ≤ len f ∧ i = .int .i64 j ∧ kv = .int .i64 (k0 + off f j) ∧ FrS S w wr ∧ wr.heap[g]? = some (.cells cur 39 (0, 0)) ∧ ∀ i, i < len f → ∃ a' c', cur[i * 2 + 1]? = some (.slice a' (len (kid f i)) c') ∧ (i < j → cur[i * 2]? = some (.int .i64 (k0 + off f i)) ∧ VO d wr (K i) (mk (k0 + off f i + 1) (kid f i)) a') ∧ (j ≤ i → cur[i * 2]? = some (.int .i64 (num f i)) ∧ VO d wr (K i) (kid f i) a')) (fun _ i _ => len f - (intOf i).toNat)
      case atStart => exact ⟨0, cur0, Nat.zero_le _, rfl, by rw [off_zero]; simp, FrS.refl _ _, hcur, KK.out⟩
      case round =>
        obtain ⟨j, cur, hj, rfl, rfl, hF, hob, hall⟩ := hrel
        have KI : Hid _ := hall
        have hoff := off_le f j hj
        obtain ⟨kv, hkv⟩ : ∃ kv, kv = k0 + (off f j : Int) := ⟨_, rfl⟩
        have hkv0 : 0 ≤ kv := by omega
        have hkv1 : kv ≤ 1000000000 := by omega
        rw [← hkv]
        have HKV : Hid (kv = k0 + (off f j : Int)) := hkv
        by_cases hlt : j < len f
        · obtain ⟨a1, c1, h1, _, h3⟩ := hall j hlt
          obtain ⟨h4, h5⟩ := h3 (Nat.le_refl _)
          have hcs : j * 2 + 1 < cur.size := by
            rcases Nat.lt_or_ge (j * 2 + 1) cur.size with h | h
            · exact h
            · rw [Array.getElem?_eq_none h] at h1; cases h1
          have q0 : wr.cell? ⟨g, j * 2, none⟩ = some (.int .i64 (num f j)) := (cell_cur hob _).trans h4
          have q1 : wr.cell? ⟨g, j * 2 + 1, none⟩ = some (.slice a1 (len (kid f j)) c1) := (cell_cur hob _).trans h1
          have q2 := free_cur hob (j * 2)
          obtain ⟨w1, hw1⟩ : ∃ w1, w1 = wr.setCell ⟨g, j * 2, none⟩ (.int .i64 kv) := ⟨_, rfl⟩
          have far1 : ∀ k, k ≠ g → w1.heap[k]? = wr.heap[k]? := fun k hk => by rw [hw1, Below.heap_setCell _ _ _ _ hk]
          have ob1 : w1.heap[g]? = some (.cells (cur.setIfInBounds (j * 2) (.int .i64 kv)) 39 (0, 0)) := by rw [hw1]; simp [World.setCell, Array.getElem?_modify, hob]
          have hF1 : FrS S w w1 := hw1 ▸ hF.set hSg _
          have q3 : w1.cell? ⟨g, j * 2 + 1, none⟩ = some (.slice a1 (len (kid f j)) c1) := by rw [cell_cur ob1, Array.getElem?_setIfInBounds_ne (by omega)]; exact h1
          have V1 : Hid (VO d w1 (K j) (kid f j) a1) := h5.ks fun b hb _ => far1 b ((KD.out j hlt).1 b hb).2
          have hsz := off_succ f j hlt
          have hle := off_le f (j + 1) (by omega)
          have lsz := len_sz (kid f j)
          have hbd : kv + 1 + (sz (kid f j) : Int) ≤ 1000000000 := by omega
          have hlk : len (kid f j) ≤ 1000000000 := by omega
          have FAR : Hid _ := far1
          have OB1 : Hid _ := ob1
          have HF1 : Hid _ := hF1
          have H1 : Hid (cur[j * 2 + 1]? = some (.slice a1 (len (kid f j)) c1)) := h1
          clear h1 h3 h4 h5 hall far1 ob1 hF1 hkv
          go_wp2_with fail
          rw [← hw1]
          clear hw1 q0 q1 q2
          refine Calls.mono (I.out (kid f j) a1 c1 (K j) (kv + 1) w1 V1.out (by omega) (by omega) (by omega)) ?_
          rintro e w2 ⟨rfl, hv2, hf2⟩
          have hg2 : w2.heap[g]? = some (.cells (cur.setIfInBounds (j * 2) (.int .i64 kv)) 39 (0, 0)) := (hf2.block g (lt_of_block OB1.out) fun h => ((KD.out j hlt).1 g h).2 rfl).trans OB1.out
          have V2 : Hid _ := hv2
          have F2 : Hid _ := hf2
          clear hv2 hf2
          go_wp2_with fail
          go_roundw
          case rel =>
            refine ⟨j + 1, cur.setIfInBounds (j * 2) (.int .i64 kv), by omega, by go_num, ?_, HF1.out.trans (F2.out.mono fun b hb => ((KD.out j hlt).1 b hb).1), hg2, fun i hi => ?_⟩
            · have := HKV.out; rw [hsz]; congr 1; push_cast; omega
            · obtain ⟨a', c', h1, h2, h3⟩ := KI.out i hi
              by_cases hij : i = j
              · subst hij
                have ea : a' = a1 ∧ c' = c1 := by have := h1.symm.trans H1.out; injection this with this; injection this with e1 e2 e3; exact ⟨e1, e3⟩
                refine ⟨a', c', by rw [Array.getElem?_setIfInBounds_ne (by omega)]; exact h1, fun _ => ⟨?_, ?_⟩, fun h => by omega⟩
                · rw [Array.getElem?_setIfInBounds_self, if_pos (by omega), HKV.out]
                · rw [ea.1]; have := V2.out; rw [HKV.out] at this; exact this
              · have move : ∀ x, VO d wr (K i) x a' → VO d w2 (K i) x a' := fun x hx => (hx.ks fun b hb _ => FAR.out b ((KD.out i hi).1 b hb).2).ks fun b hb hlt' => F2.out.block b hlt' ((KD.out i hi).2 j hlt (fun e => hij e.symm) b hb)
                refine ⟨a', c', by rw [Array.getElem?_setIfInBounds_ne (by omega)]; exact h1, fun h => ?_, fun h => ?_⟩
                · obtain ⟨h4, h5⟩ := h2 (by omega)
                  exact ⟨by rw [Array.getElem?_setIfInBounds_ne (by omega)]; exact h4, move _ h5⟩
                · obtain ⟨h4, h5⟩ := h3 (by omega)
                  exact ⟨by rw [Array.getElem?_setIfInBounds_ne (by omega)]; exact h4, move _ h5⟩
          case measure => simp [intOf]; omega
        · have hje : j = len f := by omega
          have R : Hid (MkPost (d + 1) S f (some ⟨g, 0, none⟩) k0 w (.returned (.int .i64 kv)) wr) := by
            refine ⟨by rw [HKV.out, hje, off_len], Or.inr ⟨g, cur, K, rfl, hSg, hob, fun i hi => ?_⟩, hF⟩
            rw [len_mk] at hi
            obtain ⟨a', c', h1, h2, _⟩ := KI.out i hi
            obtain ⟨h4, h5⟩ := h2 (by omega)
            refine ⟨(KD.out i hi).1, fun i' hi' => (KD.out i hi).2 i' (by rw [len_mk] at hi'; exact hi'), by rw [num_mk _ _ _ hi]; exact h4, a', c', by rw [kid_mk _ _ _ hi, len_mk]; exact h1, by rw [kid_mk _ _ _ hi]; exact h5⟩
          clear hje hall hkv
          go_wp2_with fail
          go_ret
          exact R.out

theorem markVal_any (d : Nat) (n : Int) (f : F) (a : Option Addr) (c : Nat) (S : Nat → Prop) (k0 : Int) (w : World) (hV : VO d w S f a) (hl : len f ≤ 1000000000) (h0 : 0 ≤ k0) (hk : k0 + sz f ≤ 1000000000) :
    Calls Try.prog 52 #[.agg #[.int .i64 n, .slice a (len f) c], .int .i64 k0] w (MkPost d S f a k0 w) := by
  have V : Hid (∀ w', Ex w w' → VO d w' S f a) := fun _ h => hV.ex h
  clear hV
  go_enter Try.func52, Try.ntmps52
  go_wp2_with fail
  refine Calls.mono (markValS_any d f a c S k0 _ (V.out _ (Ex.new _ _)) hl h0 hk) ?_
  rintro e w1 ⟨rfl, hv1, hf1⟩
  have V1 : Hid _ := hv1
  clear hv1
  go_wp2_with fail
  go_ret
  exact ⟨rfl, V1.out, (FrS.of_ex (Ex.new _ _)).trans hf1⟩

set_option maxRecDepth 100000 in
set_option maxHeartbeats 2000000 in
theorem heldValS_any : ∀ (d : Nat) (f : F) (a : Option Addr) (c lo : Nat) (k0 : Int) (w : World), dep f < d → len f ≤ 1000000000 → 0 ≤ k0 → k0 + sz f ≤ 1000000000 → VA w lo (mk k0 f) a →
    Calls Try.prog 90 #[.slice a (len f) c, .int .i64 k0] w fun e w' => e = .returned (.int .i64 (k0 + sz f)) ∧ Ex w w' := by
  intro d
  induction d with
  | zero => intro f a c lo k0 w hd; omega
  | succ d ih =>
    intro f a c lo k0 w hd hl h0 hk hV
    have V : Hid (∀ w', Ex w w' → VA w' lo (mk k0 f) a) := fun _ h => VA_below hV h
    have I : Hid _ := ih
    clear hV ih
    go_enter Try.func90, Try.ntmps90
    go_wp2_with fail
    go_loopw [1, 5] (fun kv i wr => ∃ (j : Nat), j ≤ len f ∧ i = .int .i64 j ∧ kv = .int .i64 (k0 + off f j) ∧ Ex w wr) (fun _ i _ => len f - (intOf i).toNat)
    case atStart => exact ⟨0, Nat.zero_le _, rfl, by rw [off_zero]; simp, Ex.refl _⟩
    case round =>
      obtain ⟨j, hj, rfl, rfl, hx⟩ := hrel
      have hoff := off_le f j hj
      obtain ⟨kv, hkv⟩ : ∃ kv, kv = k0 + (off f j : Int) := ⟨_, rfl⟩
      have hkv0 : 0 ≤ kv := by omega
      have hkv1 : kv ≤ 1000000000 := by omega
      rw [← hkv]
      have HKV : Hid (kv = k0 + (off f j : Int)) := hkv
      by_cases hlt : j < len f
      · obtain ⟨b, o, rfl, hlo, hbs, hkk⟩ := VA_at (V.out _ hx) (by rw [len_mk]; omega)
        obtain ⟨hn, a1, c1, hc1, hv1⟩ := hkk j (by rw [len_mk]; exact hlt)
        rw [num_mk _ _ _ hlt, ← hkv] at hn
        rw [kid_mk _ _ _ hlt, len_mk] at hc1
        rw [kid_mk _ _ _ hlt, ← hkv] at hv1
        have V1 : Hid (VA wr lo (mk (kv + 1) (kid f j)) a1) := hv1
        have hsz := off_succ f j hlt
        have hle := off_le f (j + 1) (by omega)
        have lsz := len_sz (kid f j)
        have hbd : kv + 1 + (sz (kid f j) : Int) ≤ 1000000000 := by omega
        have hlk : len (kid f j) ≤ 1000000000 := by omega
        have hdk := dep_kid f j hlt
        have hne : (kv != kv) = false := by simp
        clear hkk hv1 hkv
        go_wp2_with fail
        refine (I.out (kid f j) a1 c1 lo (kv + 1) _ (by omega) (by omega) (by omega) (by omega) V1.out).mono ?_
        rintro e w1 ⟨rfl, hb1⟩
        have hpos : decide (kv + 1 + (sz (kid f j) : Int) < 0) = false := by simp; omega
        go_wp2_with fail
        go_roundw
        case rel =>
          refine ⟨j + 1, by omega, by go_num, ?_, hx.trans hb1⟩
          have := HKV.out; rw [hsz]; congr 1; push_cast; omega
        case measure => simp [intOf]; omega
      · have hje : j = len f := by omega
        have R : Hid (kv = k0 + sz f) := by show _ = _; rw [HKV.out, hje, off_len]
        clear hje hkv
        go_wp2_with fail
        go_ret
        exact ⟨ret_i R.out, hx⟩

theorem heldVal_any (n : Int) (f : F) (a : Option Addr) (c lo : Nat) (k0 : Int) (w : World) (hl : len f ≤ 1000000000) (h0 : 0 ≤ k0) (hk : k0 + sz f ≤ 1000000000) (hV : VA w lo (mk k0 f) a) :
    Calls Try.prog 53 #[.agg #[.int .i64 n, .slice a (len f) c], .int .i64 k0] w fun e w' => e = .returned (.int .i64 (k0 + sz f)) ∧ Ex w w' := by
  have V : Hid (∀ w', Ex w w' → VA w' lo (mk k0 f) a) := fun _ h => VA_below hV h
  clear hV
  go_enter Try.func53, Try.ntmps53
  go_wp2_with fail
  refine (heldValS_any (dep f + 1) f a c lo k0 _ (by omega) hl h0 hk (V.out _ (Ex.new _ _))).mono ?_
  rintro e w1 ⟨rfl, hb1⟩
  have hpos : decide (k0 + (sz f : Int) < 0) = false := by simp; omega
  go_wp2_with fail
  go_ret
  exact ⟨rfl, (Ex.new _ _).trans hb1⟩

end Go.Proofs.Ytomnekiiccbioaa
