/- Walks: how codes are read and types are drawn. Walks: codes opened, types drawn. Walks: types drawn, some spoilt. Walks: two types held against each other. Walks: paths drawn. -/
import Derived.Test.YthdihpcpobhadaaDoorGTM1
import Derived.Deep.QuietTactic
import Derived.BigQuiet
import Derived.Deep.LoopGhost
namespace Go.Proofs.YthdihpcpobhadaaDoor

open Go.RowKit Go.Deep

/-- Of what was there only block rb has turned. -/
structure Fr (rb : Nat) (w w' : World) : Prop where
  os : w'.os = w.os
  tape : w'.tape = w.tape
  output : w'.output = w.output
  size : w.heap.size ≤ w'.heap.size
  block : ∀ k, k < w.heap.size → k ≠ rb → w'.heap[k]? = w.heap[k]?

theorem Fr.refl (rb : Nat) (w : World) : Fr rb w w := ⟨rfl, rfl, rfl, Nat.le_refl _, fun _ _ _ => rfl⟩
theorem Fr.trans {rb : Nat} {a b c : World} (h : Fr rb a b) (k : Fr rb b c) : Fr rb a c :=
  ⟨k.os.trans h.os, k.tape.trans h.tape, k.output.trans h.output, Nat.le_trans h.size k.size, fun i hi hn => (k.block i (Nat.lt_of_lt_of_le hi h.size) hn).trans (h.block i hi hn)⟩
theorem Fr.of_ex {w w' : World} (h : Ex w w') (rb : Nat) : Fr rb w w' := ⟨h.os, h.tape, h.output, h.size, fun k hk _ => h.block k hk⟩
theorem Fr.ex {rb : Nat} {a b c : World} (h : Fr rb a b) (k : Ex b c) : Fr rb a c := h.trans (Fr.of_ex k rb)
theorem Fr.alloc {rb : Nat} {a b : World} (h : Fr rb a b) (o : Obj) : Fr rb a (b.alloc o) := h.ex (Ex.new _ _)
theorem Fr.drew {rb : Nat} {a b : World} (h : Fr rb a b) : Fr rb a b.drew := ⟨h.os, h.tape, h.output, h.size, h.block⟩
theorem Fr.set {rb : Nat} {a b : World} (h : Fr rb a b) {p : Addr} (hp : p.block = rb ∨ a.heap.size ≤ p.block) (v : Value) : Fr rb a (b.setCell p v) :=
  ⟨h.os, h.tape, h.output, by rw [World.size_setCell]; exact h.size, fun k h1 h2 => by rw [Below.heap_setCell _ _ _ _ (by omega)]; exact h.block k h1 h2⟩
theorem Fr.kp {rb lo : Nat} {a b : World} (h : Fr rb a b) (hl : rb < lo) : Kp lo a b := ⟨h.size, fun k h1 h2 => h.block k h2 (by omega)⟩
theorem Fr.blk {rb : Nat} {a b : World} (h : Fr rb a b) {n : Nat} {o : Obj} (hn : n ≠ rb) (hc : a.heap[n]? = some o) : b.heap[n]? = some o := (h.block n (lt_of_block hc) hn).trans hc
theorem Fr.at {rb : Nat} {a b : World} (h : Fr rb a b) {p : Addr} {v : Value} (hn : p.block ≠ rb) (hc : a.cell? p = some v) : b.cell? p = some v :=
  (World.cell?_of_block (w := a) (h.block _ (World.block_lt_of_cell? _ _ hc) hn)).trans hc
theorem Fr.to_ex {rb : Nat} {w a b : World} (h : Fr rb a b) (hx : Ex w a) (hr : w.heap.size ≤ rb) : Ex w b :=
  ⟨h.os.trans hx.os, h.tape.trans hx.tape, h.output.trans hx.output, Nat.le_trans hx.size h.size, fun k hk => (h.block k (Nat.lt_of_lt_of_le hk hx.size) (by omega)).trans (hx.block k hk)⟩

/-- A code is read, and p bytes of it have been. -/
def Rd (w : World) (rb : Nat) (p : Nat) : Prop := ∃ ca n cc, w.heap[rb]? = some (.cells #[.slice ca n cc, .int .i64 p] 93 (0, 0)) ∧ n ≤ 2000 ∧
  (n = 0 ∨ ∃ cb co, ca = some ⟨cb, co, none⟩ ∧ cb < rb ∧ ∀ i, i < n → ∃ x : Int, w.cell? ⟨cb, co + i, none⟩ = some (.int .u8 x) ∧ 0 ≤ x ∧ x ≤ 255)

theorem Rd.ex {w w' : World} {rb p : Nat} (h : Rd w rb p) (hx : Ex w w') : Rd w' rb p := by
  obtain ⟨ca, n, cc, h1, h2, h3⟩ := h
  refine ⟨ca, n, cc, hx.blk h1, h2, ?_⟩
  rcases h3 with h3 | ⟨cb, co, h4, h5, h6⟩
  · exact Or.inl h3
  · exact Or.inr ⟨cb, co, h4, h5, fun i hi => by obtain ⟨x, hc, hx0⟩ := h6 i hi; exact ⟨x, hx.at hc, hx0⟩⟩

theorem i64_xor_nat (a b : Nat) (ha : a < 4611686018427387904) (hb : b < 4611686018427387904) : bits .xor .i64 (a : Int) (b : Int) = ((a ^^^ b : Nat) : Int) := by
  have hx : a ^^^ b < 2 ^ 62 := Nat.xor_lt_two_pow (by omega) (by omega)
  have h1 : (BitVec.ofInt 64 (a : Int)).toNat = a := by
    rw [BitVec.ofInt_natCast, BitVec.toNat_ofNat]; exact Nat.mod_eq_of_lt (by omega)
  have h2 : (BitVec.ofInt 64 (b : Int)).toNat = b := by
    rw [BitVec.ofInt_natCast, BitVec.toNat_ofNat]; exact Nat.mod_eq_of_lt (by omega)
  show IntKind.i64.wrap ((BitVec.ofInt 64 (a : Int) ^^^ BitVec.ofInt 64 (b : Int)).toNat : Int) = _
  rw [BitVec.toNat_xor, h1, h2]
  simp [IntKind.wrap, IntKind.bits, IntKind.signed]
  omega

theorem pick_val (X n : Int) (h0 : 0 ≤ X) (h1 : X < 4611686018427387904) (hn : 1 ≤ n) : 0 ≤ (bits .xor .i64 X (wrap64 (X.tdiv 64))).tmod n ∧ (bits .xor .i64 X (wrap64 (X.tdiv 64))).tmod n < n := by
  obtain ⟨k, rfl⟩ := Int.eq_ofNat_of_zero_le h0
  have hd : wrap64 ((k : Int).tdiv 64) = ((k / 64 : Nat) : Int) := by
    rw [Int.tdiv_eq_ediv_of_nonneg (by omega)]; unfold wrap64; omega
  rw [hd, i64_xor_nat k (k / 64) (by omega) (by omega), Int.tmod_eq_emod_of_nonneg (by omega)]
  exact ⟨Int.emod_nonneg _ (by omega), Int.emod_lt_of_pos _ (by omega)⟩

theorem pick_x (x y : Int) (p m : Nat) (hx0 : 0 ≤ x) (hx1 : x ≤ 255) (hy0 : 0 ≤ y) (hy1 : y ≤ 255) (hp : p ≤ 1000000) :
    0 ≤ wrap64 (x * 131 + y * 1117 + (p : Int) * 29 + wrap64 (wrap64 ((p : Int) / (m : Int)) * 53)) ∧ wrap64 (x * 131 + y * 1117 + (p : Int) * 29 + wrap64 (wrap64 ((p : Int) / (m : Int)) * 53)) < 4611686018427387904 := by
  obtain ⟨q, hq, hq2⟩ : ∃ q : Nat, (p : Int) / (m : Int) = (q : Int) ∧ q ≤ p := ⟨p / m, rfl, Nat.div_le_self _ _⟩
  rw [hq]
  clear hq
  have w1 : wrap64 (q : Int) = q := by unfold wrap64; omega
  have w2 : wrap64 ((q : Int) * 53) = (q : Int) * 53 := by unfold wrap64; omega
  have w3 : wrap64 (x * 131 + y * 1117 + (p : Int) * 29 + (q : Int) * 53) = x * 131 + y * 1117 + (p : Int) * 29 + (q : Int) * 53 := by unfold wrap64; omega
  rw [w1, w2, w3]
  omega

set_option maxHeartbeats 2000000 in
theorem pick_any (rb p : Nat) (n : Int) (w : World) (hn1 : 1 ≤ n) (hn2 : n ≤ 1000000000) (hp : p ≤ 1000000) (hR : Rd w rb p) :
    Calls Tryd.prog 31 #[.pointer (some ⟨rb, 0, none⟩), .int .i64 n] w fun e w' => ∃ x : Int, e = .returned (.int .i64 x) ∧ 0 ≤ x ∧ x < n ∧ Rd w' rb (p + 1) ∧ Fr rb w w' := by
  obtain ⟨ca, m, cc, hb, hm, hcs⟩ := hR
  have q0 : w.cell? ⟨rb, 0, none⟩ = some (.slice ca m cc) := by simp [World.cell?, hb]
  have q1 : w.cell? ⟨rb, 1, none⟩ = some (.int .i64 p) := by simp [World.cell?, hb]
  have q2 : w.frozen? ⟨rb, 1, none⟩ = false := by simp [World.frozen?, hb]
  have r0 : (w.setCell ⟨rb, 1, none⟩ (.int .i64 ((p : Int) + 1))).cell? ⟨rb, 0, none⟩ = some (.slice ca m cc) := by rw [World.cell?_setCell_other _ _ _ _ (by simp)]; exact q0
  have r1 : (w.setCell ⟨rb, 1, none⟩ (.int .i64 ((p : Int) + 1))).cell? ⟨rb, 1, none⟩ = some (.int .i64 ((p : Int) + 1)) := World.cell?_setCell_same _ _ _ q1
  have hbb : (w.setCell ⟨rb, 1, none⟩ (.int .i64 ((p : Int) + 1))).heap[rb]? = some (.cells #[.slice ca m cc, .int .i64 ((p + 1 : Nat) : Int)] 93 (0, 0)) := by
    simp [World.setCell, Array.getElem?_modify, hb]
  have HB : Hid _ := hbb
  have RW : Hid (Rd (w.setCell ⟨rb, 1, none⟩ (.int .i64 ((p : Int) + 1))) rb (p + 1)) := by
    refine ⟨ca, m, cc, hbb, hm, ?_⟩
    rcases hcs with h | ⟨cb, co, h4, h5, h6⟩
    · exact Or.inl h
    · refine Or.inr ⟨cb, co, h4, h5, fun i hi => ?_⟩
      obtain ⟨x, hc, hx0⟩ := h6 i hi
      exact ⟨x, by rw [World.cell?_setCell_other _ _ _ _ (fun e => Nat.ne_of_gt h5 (congrArg Addr.block e))]; exact hc, hx0⟩
  have FW : Hid (Fr rb w (w.setCell ⟨rb, 1, none⟩ (.int .i64 ((p : Int) + 1)))) := Fr.set (Fr.refl rb w) (Or.inl rfl) _
  clear hb hbb
  have e1 : decide (n < 1) = false := by simp; omega
  by_cases hm0 : m = 0
  · subst hm0
    go_enter Tryd.func31, Tryd.ntmps31
    go_wp2_with fail
    go_ret
    exact ⟨0, rfl, by omega, by omega, RW.out, FW.out⟩
  · have em : ((m : Int) == 0) = false := by simp; omega
    rcases hcs with h | ⟨cb, co, rfl, hne, hcc⟩
    · omega
    have hcw : ∀ i, i < m → ∃ x : Int, (w.setCell ⟨rb, 1, none⟩ (.int .i64 ((p : Int) + 1))).cell? ⟨cb, co + i, none⟩ = some (.int .u8 x) ∧ 0 ≤ x ∧ x ≤ 255 := fun i hi => by
      obtain ⟨x, hc, hx0⟩ := hcc i hi
      exact ⟨x, by rw [World.cell?_setCell_other _ _ _ _ (fun e => Nat.ne_of_gt hne (congrArg Addr.block e))]; exact hc, hx0⟩
    by_cases hpm : p < m
    · obtain ⟨x, hx, hx0, hx1⟩ := hcw p hpm
      clear hcc hcw
      go_enter Tryd.func31, Tryd.ntmps31
      go_wp2_with fail
      go_ret
      exact ⟨x % n, rfl, Int.emod_nonneg _ (by omega), Int.emod_lt_of_pos _ (by omega), RW.out, FW.out⟩
    · obtain ⟨x, hx, hx0, hx1⟩ := hcw (p % m) (Nat.mod_lt _ (by omega))
      obtain ⟨y, hy, hy0, hy1⟩ := hcw ((p * 7 + 3) % m) (Nat.mod_lt _ (by omega))
      have i1 : p % m < m := Nat.mod_lt _ (by omega)
      have i2 : (p * 7 + 3) % m < m := Nat.mod_lt _ (by omega)
      have g1 : (p : Int).tmod m = ((p % m : Nat) : Int) := by rw [Int.tmod_eq_emod_of_nonneg (by omega)]; rfl
      have g4 : ((p : Int) * 7 + 3).tmod m = (((p * 7 + 3) % m : Nat) : Int) := by rw [Int.tmod_eq_emod_of_nonneg (by omega)]; rfl
      generalize p % m = j1 at *
      generalize (p * 7 + 3) % m = j2 at *
      have u1 : (j1 : Int) < m := by omega
      have u2 : (j2 : Int) < m := by omega
      have v1 : (0 : Int) ≤ (j1 : Int) := by omega
      have v2 : (0 : Int) ≤ (j2 : Int) := by omega
      clear hcc hcw
      go_enter Tryd.func31, Tryd.ntmps31
      go_wp2_with fail
      go_quiet (fail)
      go_wp2_with fail
      go_ret
      have hX := pick_x x y p m hx0 hx1 hy0 hy1 hp
      have hV := pick_val _ n hX.1 hX.2 hn1
      refine ⟨_, rfl, hV.1, hV.2, ?_, ?_⟩
      · exact RW.out.ex (Ex.drewN (Ex.refl _) nq)
      · exact FW.out.ex (Ex.drewN (Ex.refl _) nq)

end Go.Proofs.YthdihpcpobhadaaDoor

namespace Go.Proofs.YthdihpcpobhadaaDoor

open Go.RowKit Go.Deep

attribute [local go_sem ↓] Go.wp_at_zero Go.wp_at_succ

/-- Bytes lie behind a slice's address. -/
def By (w : World) (n : Nat) (ca : Option Addr) : Prop := n = 0 ∨ ∃ cb co, ca = some ⟨cb, co, none⟩ ∧ ∀ i, i < n → ∃ x : Int, w.cell? ⟨cb, co + i, none⟩ = some (.int .u8 x) ∧ 0 ≤ x ∧ x ≤ 255

theorem By.ex {w w' : World} {n : Nat} {ca : Option Addr} (h : By w n ca) (hx : Ex w w') : By w' n ca := by
  rcases h with h | ⟨cb, co, e, hc⟩
  · exact Or.inl h
  · exact Or.inr ⟨cb, co, e, fun i hi => by obtain ⟨x, h1, h2⟩ := hc i hi; exact ⟨x, hx.at h1, h2⟩⟩

theorem Rd.start {w : World} {n : Nat} {ca : Option Addr} {cc : Nat} (h : By w n ca) (hn : n ≤ 2000) : Rd (w.alloc (.cells #[.slice ca n cc, .int .i64 0] 93)) w.heap.size 0 := by
  refine ⟨ca, n, cc, heap_alloc_new _ _, hn, ?_⟩
  rcases h with h | ⟨cb, co, e, hc⟩
  · exact Or.inl h
  · by_cases h0 : n = 0
    · exact Or.inl h0
    · refine Or.inr ⟨cb, co, e, ?_, fun i hi => by obtain ⟨x, h1, h2⟩ := hc i hi; exact ⟨x, (Ex.new _ _).at h1, h2⟩⟩
      obtain ⟨x, h1, _⟩ := hc 0 (by omega)
      have : cb < w.heap.size := World.block_lt_of_cell? _ _ h1
      omega

theorem Rd.set {w : World} {rb p : Nat} (h : Rd w rb p) {q : Addr} (hq : rb < q.block) (v : Value) : Rd (w.setCell q v) rb p := by
  obtain ⟨ca, n, cc, h1, h2, h3⟩ := h
  refine ⟨ca, n, cc, by rw [Below.heap_setCell _ _ _ _ (by omega)]; exact h1, h2, ?_⟩
  rcases h3 with h3 | ⟨cb, co, h4, h5, h6⟩
  · exact Or.inl h3
  · refine Or.inr ⟨cb, co, h4, h5, fun i hi => ?_⟩
    obtain ⟨x, hc, hx0⟩ := h6 i hi
    exact ⟨x, by rw [World.cell?_setCell_other _ _ _ _ (fun e => absurd (congrArg Addr.block e) (by show q.block ≠ cb; omega))]; exact hc, hx0⟩

theorem l6Open_any (n cc : Nat) (ca : Option Addr) (w : World) (hn : n ≤ cc) (hc : cc ≤ 9223372036854775807) (hB : By w n ca) :
    Calls Tryd.prog 28 #[.slice ca n cc] w fun e w' => e = .returned (.pointer (some ⟨w.heap.size, 0, none⟩)) ∧ Rd w' w.heap.size 0 ∧ Ex w w' := by
  have B : Hid (By w n ca) := hB
  clear hB
  by_cases h : n ≤ 2000
  · go_enter Tryd.func28, Tryd.ntmps28
    go_wp2_with fail
    go_ret
    exact ⟨rfl, Rd.start B.out h, Ex.new _ _⟩
  · have h0 : (2000 : Int) ≤ (cc : Int) := by omega
    obtain ⟨cb, co, rfl, hcc⟩ : ∃ cb co, ca = some ⟨cb, co, none⟩ ∧ ∀ i, i < n → ∃ x : Int, w.cell? ⟨cb, co + i, none⟩ = some (.int .u8 x) ∧ 0 ≤ x ∧ x ≤ 255 := by
      rcases B.out with h | h
      · omega
      · exact h
    have B2 : Hid (By w 2000 (some ⟨cb, co, none⟩)) := Or.inr ⟨cb, co, rfl, fun i hi => hcc i (by omega)⟩
    clear hcc B
    go_enter Tryd.func28, Tryd.ntmps28
    go_wp2_with fail
    go_ret
    exact ⟨rfl, Rd.start B2.out (Nat.le_refl _), Ex.new _ _⟩

theorem Rd.blk {w : World} {rb p : Nat} (h : Rd w rb p) : rb < w.heap.size := by
  obtain ⟨_, _, _, h1, _⟩ := h
  exact lt_of_block h1

/-- How many bytes are read at most. -/
def tk : Nat → Nat
  | 0 => 0
  | d + 1 => 2 * tk d + 1

set_option maxHeartbeats 1000000 in
theorem l71Type_any : ∀ (d : Nat) (D : Int) (rb p : Nat) (w : World), D = ((d + 1 : Nat) : Int) → d ≤ 8 → p + tk d ≤ 100000 → Rd w rb p →
    Calls Tryd.prog 29 #[.pointer (some ⟨rb, 0, none⟩), .int .i64 D] w fun e w' => ∃ (f : F) (a : Option Addr) (q : Nat), e = .returned (.agg #[.slice a (len f) (len f)]) ∧ TA w' w.heap.size f a ∧ (len f = 0 → a = none) ∧ fits (d + 1) f = true ∧ p ≤ q ∧ q ≤ p + tk d ∧ Rd w' rb q ∧ Fr rb w w'
  | 0, D, rb, p, w, hD, hd, hp, hR => by
    subst hD
    go_enter Tryd.func29, Tryd.ntmps29
    go_wp2_with fail
    exact bodyPost_ret (v := .agg #[.slice none 0 0]) (by simp [results, Tryd.results29, go_sem]) rfl ⟨.nil, none, p, rfl, Or.inl rfl, fun _ => rfl, rfl, Nat.le_refl _, by omega, hR.ex (Ex.new _ _), Fr.of_ex (Ex.new _ _) _⟩
  | d + 1, D, rb, p, w, hD, hd, hp, hR => by
    have R : Hid (Rd w rb p) := hR
    have I : Hid _ := l71Type_any d
    have HD : Hid (D = ((d + 1 + 1 : Nat) : Int)) := hD
    have e1 : decide (D < 2) = false := by simp; omega
    have hD1 : 2 ≤ D := by omega
    have hD2 : D ≤ 100 := by omega
    have hrb := hR.blk
    simp only [tk] at hp
    clear hR hD
    go_enter Tryd.func29, Tryd.ntmps29
    go_wp2_with fail
    refine (pick_any rb p 3 _ (by omega) (by omega) (by omega) (R.out.ex (Ex.new _ _))).mono ?_
    rintro e w1 ⟨x, rfl, hx0, hx3, hR1, hF1⟩
    have hres1 : w1.heap[w.heap.size]? = some (.cells #[.slice none 0 0] 32 (0, 0)) := hF1.blk (by omega) (heap_alloc_new _ _)
    have R1 : Hid (Rd w1 rb (p + 1)) := hR1
    have F1 : Hid (Fr rb w w1) := Fr.trans (Fr.of_ex (Ex.new _ _) _) hF1
    have c1 := cell_of_one hres1
    have c2 := free_of_one hres1
    have c3 := lt_of_block hres1
    clear hR1 hF1
    by_cases hx : 0 < x
    · go_wp2_with fail
      have hres := World.cell?_setCell_same w1 ⟨w.heap.size, 0, none⟩ (.slice none 0 0) c1
      refine bodyPost_ret (v := .agg #[.slice none 0 0]) (by simp [results, Tryd.results29, go_sem, hres]) rfl ⟨.nil, none, p + 1, rfl, Or.inl rfl, fun _ => rfl, rfl, by omega, by simp only [tk]; omega, ?_, Fr.set F1.out (Or.inr (Nat.le_refl _)) _⟩
      exact R1.out.set (by show rb < w.heap.size; omega) _
    · have e3 : decide (0 < x) = false := by simp; omega
      go_wp2_with fail
      refine (I.out (D - 1) rb (p + 1) _ (by have := HD.out; omega) (by omega) (by omega) R1.out).mono ?_
      rintro e w2 ⟨f0, a0, q0, rfl, ht0, hn0, hf0, hq0, hq0', hR2, hF2⟩
      have F2 : Hid (Fr rb w1 w2) := hF2
      have N0 : Hid (len f0 = 0 → a0 = none) := hn0
      have T0 : Hid (TA w2 w1.heap.size f0 a0) := ht0
      have FF0 : Hid (fits (d + 1) f0 = true) := hf0
      clear ht0 hn0 hf0 hF2
      go_wp2_with fail
      refine (I.out (D - 1) rb q0 _ (by have := HD.out; omega) (by omega) (by omega) hR2).mono ?_
      rintro e w3 ⟨f1, a1, q1, rfl, ht1, hn1, hf1, hq1, hq1', hR3, hF3⟩
      have F3 : Hid (Fr rb w2 w3) := hF3
      have T1 : Hid (TA w3 w2.heap.size f1 a1) := ht1
      have FF1 : Hid (fits (d + 1) f1 = true) := hf1
      have R3 : Hid (Rd w3 rb q1) := hR3
      have hres3 := hF3.blk (by omega) (F2.out.blk (by omega) hres1)
      clear ht1 hn1 hf1 hF3 hR2 hR3 c1 c2 c3
      have c1 := cell_of_one hres3
      have c2 := free_of_one hres3
      have c3 := lt_of_block hres3
      go_wp2_with fail
      have hres := res_at c1 (.slice (some ⟨w3.heap.size, 0, none⟩) 2 2) (.cells #[.slice a0 (len f0) (len f0), .slice a1 (len f1) (len f1)] 32)
      have z1 : w.heap.size < w1.heap.size := lt_of_block hres1
      have z2 := F2.out.size
      have t0 : TA ((w3.setCell ⟨w.heap.size, 0, none⟩ (.slice (some ⟨w3.heap.size, 0, none⟩) 2 2)).alloc (.cells #[.slice a0 (len f0) (len f0), .slice a1 (len f1) (len f1)] 32)) w.heap.size f0 a0 := TA_lo (TA_kp T0.out (((F3.out.kp (by omega)).set (Or.inl (by show w.heap.size < _; omega)) _).alloc _)) (by omega)
      have t1 : TA ((w3.setCell ⟨w.heap.size, 0, none⟩ (.slice (some ⟨w3.heap.size, 0, none⟩) 2 2)).alloc (.cells #[.slice a0 (len f0) (len f0), .slice a1 (len f1) (len f1)] 32)) w.heap.size f1 a1 := TA_lo (TA_kp T1.out (((Kp.refl _ _).set (Or.inl (by show w.heap.size < _; omega)) _).alloc _)) (by omega)
      refine bodyPost_ret (v := .agg #[.slice (some ⟨w3.heap.size, 0, none⟩) 2 2]) (by simp [results, Tryd.results29, go_sem, hres]) rfl ⟨two 0 f0 0 f1, _, q1, rfl, TA_two (k0 := len f0) (k1 := len f1) rfl ?_ ?_ ?_ t0 t1, (fun h => by cases h), ?_, by omega, by simp only [tk]; omega, ?_, ?_⟩
      · omega
      · rw [cell_set_new]; rfl
      · rw [cell_set_new]; rfl
      · rw [fits_two rfl]; show (fits (d + 1) f0 && fits (d + 1) f1) = true; rw [FF0.out, FF1.out]; rfl
      · exact (R3.out.set (by show rb < w.heap.size; omega) _).ex (Ex.new _ _)
      · exact ((F1.out.trans (F2.out.trans F3.out)).set (Or.inr (Nat.le_refl _)) _).alloc _

end Go.Proofs.YthdihpcpobhadaaDoor

namespace Go.Proofs.YthdihpcpobhadaaDoor

open Go.RowKit Go.Deep

open Go.WideShapes (add_plain)

attribute [local go_sem ↓] Go.wp_at_zero Go.wp_at_succ

theorem fits_sm : ∀ (r : Nat) (f : F), fits r f = true → len f ≤ 2 ∧ Sm f
  | 0, f, h => by simp [fits] at h
  | r + 1, .nil, _ => ⟨by simp [len], trivial⟩
  | r + 1, .node b o n k (.nil), h => by simp [fits, len] at h
  | r + 1, .node b o n k (.node b' o' n' k' .nil), h => by
    simp [fits, len, kid] at h
    have h1 := fits_sm r k h.1
    have h2 := fits_sm r k' h.2
    exact ⟨by simp [len], ⟨by omega, h1.2, ⟨by omega, h2.2, trivial⟩⟩⟩
  | r + 1, .node b o n k (.node b' o' n' k' (.node _ _ _ _ _)), h => by simp [fits, len] at h

theorem fits_dep : ∀ (r : Nat) (f : F), fits r f = true → dep f < r
  | 0, f, h => by simp [fits] at h
  | r + 1, .nil, _ => by simp [dep]
  | r + 1, .node b o n k (.nil), h => by simp [fits, len] at h
  | r + 1, .node b o n k (.node b' o' n' k' .nil), h => by
    simp [fits, len, kid] at h
    have h1 := fits_dep r k h.1
    have h2 := fits_dep r k' h.2
    simp only [dep]; omega
  | r + 1, .node b o n k (.node b' o' n' k' (.node _ _ _ _ _)), h => by simp [fits, len] at h

theorem Sm_two {a b : F} (n m : Int) (ha : len a ≤ 1000000000 ∧ Sm a) (hb : len b ≤ 1000000000 ∧ Sm b) : len (two n a m b) ≤ 1000000000 ∧ Sm (two n a m b) :=
  ⟨by rw [len_two]; omega, ⟨ha.1, ha.2, ⟨hb.1, hb.2, trivial⟩⟩⟩

/-- One more behind. -/
def snoc : F → Int → F → F
  | .nil, n, k => .node 0 0 n k .nil
  | .node b o m k' r, n, k => .node b o m k' (snoc r n k)
theorem len_snoc : ∀ (f : F) (n : Int) (k : F), len (snoc f n k) = len f + 1
  | .nil, _, _ => rfl
  | .node _ _ _ _ r, n, k => by simp [snoc, len, len_snoc r n k]
theorem kid_snoc : ∀ (f : F) (n : Int) (k : F) (i : Nat), kid (snoc f n k) i = if i < len f then kid f i else if i = len f then k else .nil
  | .nil, n, k, 0 => by simp [snoc, kid, len]
  | .nil, n, k, i + 1 => by simp [snoc, kid, len]
  | .node _ _ _ _ r, n, k, 0 => by simp [snoc, kid, len]
  | .node _ _ _ _ r, n, k, i + 1 => by simp [snoc, kid, len, kid_snoc r n k i]
theorem dep_snoc : ∀ (f : F) (n : Int) (k : F), dep (snoc f n k) = max (dep f) (dep k + 1)
  | .nil, _, _ => by simp [snoc, dep]
  | .node _ _ _ k' r, n, k => by simp only [snoc, dep, dep_snoc r n k]; omega
theorem Sm_snoc : ∀ {f : F} (n : Int) {k : F}, Sm f → len k ≤ 1000000000 ∧ Sm k → Sm (snoc f n k)
  | .nil, _, _, _, hk => ⟨hk.1, hk.2, trivial⟩
  | .node _ _ _ _ _, n, _, hf, hk => ⟨hf.1, hf.2.1, Sm_snoc n hf.2.2 hk⟩

/-- The cells of a list of types. -/
theorem SA_olds {w : World} {S : Nat → Prop} {f : F} {a : Option Addr} (h : SA w S f a) : ∃ olds : List Value, olds.length = len f ∧ (∀ b, a = some b → ∀ j u, olds[j]? = some u → w.cell? (b.add j) = some u) ∧
    ∀ i, i < len f → ∃ a' cap, olds[i]? = some (.slice a' (len (kid f i)) cap) ∧ SA w S (kid f i) a' := by
  by_cases h0 : len f = 0
  · exact ⟨[], by simp [h0], by intro _ _ j u hu; simp at hu, fun i hi => by omega⟩
  · obtain ⟨b, o, rfl, _, _, hk⟩ := SA_at h (by omega)
    refine ⟨(List.range (len f)).map fun i => (w.cell? ⟨b, o + i, none⟩).getD default, by simp, ?_, ?_⟩
    · intro b' hb' j u hu
      cases hb'
      rw [List.getElem?_map] at hu
      by_cases hj : j < len f
      · rw [List.getElem?_range hj] at hu
        obtain ⟨a', cap, hc, _⟩ := hk j hj
        simp [hc] at hu
        subst hu
        rw [add_plain]; exact hc
      · rw [List.getElem?_eq_none (by simpa using hj)] at hu; simp at hu
    · intro i hi
      obtain ⟨a', cap, hc, ht⟩ := hk i hi
      exact ⟨a', cap, by rw [List.getElem?_map, List.getElem?_range hi]; simp [hc], ht⟩

theorem SA_snoc {w : World} {S : Nat → Prop} {f k : F} {n : Int} {olds : List Value} {g : Nat} {cur : Array Value} {e : TypeId} {a0 : Option Addr} {c0 : Nat} (hS : S g) (hg : w.heap[g]? = some (.cells cur e (0, 0)))
    (hcur : cur.toList.take (len f + 1) = olds ++ [.slice a0 (len k) c0]) (hl : olds.length = len f) (hk : ∀ i, i < len f → ∃ a' cap, olds[i]? = some (.slice a' (len (kid f i)) cap) ∧ SA w S (kid f i) a') (h0 : SA w S k a0) :
    SA w S (snoc f n k) (some ⟨g, 0, none⟩) := by
  refine SA_mk hS fun i hi => ?_
  rw [len_snoc] at hi
  have hcell : w.cell? ⟨g, 0 + i, none⟩ = (olds ++ [.slice a0 (len k) c0])[i]? := by
    rw [← hcur, List.getElem?_take_of_lt hi]
    simp [World.cell?, hg]
  rw [hcell, kid_snoc]
  by_cases h : i < len f
  · obtain ⟨a', cap, h1, h2⟩ := hk i h
    exact ⟨a', cap, by rw [List.getElem?_append_left (by omega), h1, if_pos h], by rw [if_pos h]; exact h2⟩
  · have e : i = len f := by omega
    exact ⟨a0, c0, by rw [List.getElem?_append_right (by omega), if_neg h, if_pos e]; simp [hl, e], by rw [if_neg h, if_pos e]; exact h0⟩

theorem Tryd.info32 : (Tryd.prog.info? 32).map (fun i => (i.zero, i.size, i.bytes)) = some (some (.agg #[.slice none 0 0]), 1, 24) := by kernel_rfl

set_option maxRecDepth 100000 in
set_option maxHeartbeats 2000000 in
theorem l71Deep_any (rb p : Nat) (w : World) (hp : p ≤ 50000) (hR : Rd w rb p) :
    Calls Tryd.prog 32 #[.pointer (some ⟨rb, 0, none⟩)] w fun e w' => ∃ (f : F) (a : Option Addr) (cap q : Nat), e = .returned (.agg #[.slice a (len f) cap]) ∧ TA w' w.heap.size f a ∧ (len f ≤ 1000000000 ∧ Sm f) ∧ dep f ≤ 20 ∧ p ≤ q ∧ q ≤ p + 100 ∧ Rd w' rb q ∧ Fr rb w w' := by
  have hrb := hR.blk
  have R : Hid (Rd w rb p) := hR
  clear hR
  obtain ⟨i0, hi, hz0, hz1, hz2⟩ := info_parts Tryd.info32
  go_enter Tryd.func32, Tryd.ntmps32
  go_wp2_with fail
  refine (pick_any rb p 4 _ (by omega) (by omega) (by omega) (R.out.ex (Ex.new _ _))).mono ?_
  rintro e w1 ⟨x, rfl, hx0, hx3, hR1, hF1⟩
  have z1 : w.heap.size < w1.heap.size := by have := hF1.size; rw [World.size_alloc] at this; omega
  have hres1 : w1.heap[w.heap.size]? = some (.cells #[.slice none 0 0] 32 (0, 0)) := hF1.blk (by omega) (heap_alloc_new _ _)
  have F1 : Hid (Fr rb w w1) := Fr.trans (Fr.of_ex (Ex.new _ _) _) hF1
  clear hF1
  go_wp2_with fail
  refine (l71Type_any x.toNat (1 + x) rb (p + 1) _ (by omega) (by omega) (by have : x.toNat = 0 ∨ x.toNat = 1 ∨ x.toNat = 2 ∨ x.toNat = 3 := by omega
                                                                             rcases this with h | h | h | h <;> rw [h] <;> simp only [tk] <;> omega) hR1).mono ?_
  rintro e w2 ⟨f, a, q0, rfl, ht, hnil, hf, hq0, hq1, hR2, hF2⟩
  have hq2 : q0 ≤ p + 8 := by
    have : x.toNat = 0 ∨ x.toNat = 1 ∨ x.toNat = 2 ∨ x.toNat = 3 := by omega
    rcases this with h | h | h | h <;> rw [h] at hq1 <;> simp only [tk] at hq1 <;> omega
  have F2 : Hid (Fr rb w w2) := F1.out.trans hF2
  have hres2 := hF2.blk (by omega) hres1
  have z2 := hF2.size
  have T : Hid (TA w2 w1.heap.size f a) := ht
  have NL : Hid (len f = 0 → a = none) := hnil
  have SM : Hid (len f ≤ 2 ∧ Sm f) := fits_sm _ _ hf
  have DP : Hid (dep f ≤ 3 + 0) := by show _ ≤ _; have := fits_dep _ _ hf; omega
  clear ht hnil hf hq1 hF2 hR1
  go_wp2_with fail
  refine (pick_any rb q0 12 _ (by omega) (by omega) (by omega) (hR2.ex (Ex.new _ _))).mono ?_
  rintro e w3 ⟨y, rfl, hy0, hy3, hR3, hF3⟩
  have z3 : w2.heap.size < w3.heap.size := by have := hF3.size; rw [World.size_alloc] at this; omega
  have F3 : Hid (Fr rb w w3) := F2.out.trans (Fr.trans (Fr.of_ex (Ex.new _ _) _) hF3)
  have hrb2 : rb < w2.heap.size := by omega
  have hb3 : w3.heap[w2.heap.size]? = some (.cells #[.slice a (len f) (len f)] 32 (0, 0)) := hF3.blk (by omega) (heap_alloc_new _ _)
  have hres3 := hF3.blk (n := w.heap.size) (by omega) ((Ex.new _ _).blk hres2)
  have T3 : Hid (SA w3 (fun b => w.heap.size < b ∧ b ≠ w2.heap.size) f a) :=
    SA_ks (SA_ks (SA_mono (S' := fun b => w.heap.size < b ∧ b ≠ w2.heap.size) T.out fun b hb h => ⟨by omega, by omega⟩) (fun k _ hlt => (Ex.new w2 _).block k hlt)) fun k hk hlt => hF3.block k hlt (by omega)
  have R3 : Hid (Rd w3 rb (q0 + 1)) := hR3
  clear hres1 hres2 hR2 hR3 hF3
  generalize ht3 : w2.heap.size = t3 at *
  clear ht3
  have FIN : Hid (∀ (wf : World) (g : F) (a' : Option Addr) (v : Value), SA wf (fun b => w.heap.size < b ∧ b ≠ t3) g a' → Rd wf rb (q0 + 1) → Fr rb w wf →
      TA (wf.setCell ⟨w.heap.size, 0, none⟩ v) w.heap.size g a' ∧ Rd (wf.setCell ⟨w.heap.size, 0, none⟩ v) rb (q0 + 1) ∧ Fr rb w (wf.setCell ⟨w.heap.size, 0, none⟩ v)) := by
    intro wf g a' v h1 h2 h3
    refine ⟨SA_mono (SA_ks h1 fun k hk _ => Below.heap_setCell _ _ _ _ (by show k ≠ w.heap.size; omega)) fun b _ hb => by omega, h2.set (by show rb < w.heap.size; omega) _, h3.set (Or.inr (Nat.le_refl _)) _⟩
  have c1 := cell_of_one hb3
  have c2 := free_of_one hb3
  have c3 := cell_of_one hres3
  have c4 := free_of_one hres3
  by_cases hy : y = 0
  · subst hy
    clear hx3
    go_wp2_with fail
    go_loopw [4] (fun i wr => ∃ (k : Nat) (g : F) (a' : Option Addr) (c' : Nat), k ≤ 5 ∧ i = .int .i64 k ∧ SA wr (fun b => w.heap.size < b ∧ b ≠ t3) g a' ∧ (len g ≤ 1000000000 ∧ Sm g) ∧ dep g ≤ 3 + k ∧ Rd wr rb (q0 + 1) ∧ Fr rb w wr ∧ wr.heap[t3]? = some (.cells #[.slice a' (len g) c'] 32 (0, 0)) ∧ wr.heap[w.heap.size]? = some (.cells #[.slice none 0 0] 32 (0, 0))) (fun i _ => 5 - (intOf i).toNat)
    case atStart => exact ⟨0, f, a, len f, by omega, rfl, T3.out, ⟨by have := SM.out; omega, SM.out.2⟩, DP.out, R3.out, F3.out, hb3, hres3⟩
    case round =>
      obtain ⟨k, g, a', c', hk, rfl, hg, hsm, hdg, hrd, hfr, ht3c, hrsc⟩ := hrel
      have G : Hid (SA wr (fun b => w.heap.size < b ∧ b ≠ t3) g a') := hg
      have SG : Hid (len g ≤ 1000000000 ∧ Sm g) := hsm
      clear hg hsm c1 c2 c3 c4
      have c1 := cell_of_one ht3c
      have c2 := free_of_one ht3c
      have c3 := cell_of_one hrsc
      have c4 := free_of_one hrsc
      have c5 := lt_of_block ht3c
      by_cases hlt : k < 5
      · go_wp2_with fail
        go_roundw
        case rel =>
          have hks : Ks (fun b => w.heap.size < b ∧ b ≠ t3) wr ((wr.setCell ⟨t3, 0, none⟩ (.slice (some ⟨wr.heap.size, 0, none⟩) 2 2)).alloc (.cells #[.slice a' (len g) c', .slice none 0 0] 32)) := fun b hb hlt => by
            rw [Below.heap_alloc _ _ _ (by rw [World.size_setCell]; exact hlt), Below.heap_setCell _ _ _ _ hb.2]
          refine ⟨k + 1, two 0 g 0 .nil, some ⟨wr.heap.size, 0, none⟩, 2, by omega, by go_num, SA_two (k0 := c') (k1 := 0) (a1 := none) rfl ⟨by omega, by omega⟩ ?_ ?_ (SA_ks G.out hks) (Or.inl rfl), Sm_two 0 0 SG.out ⟨by simp [len], trivial⟩, by simp only [two, dep]; omega, (hrd.set (by show rb < t3; omega) _).ex (Ex.new _ _), (hfr.set (Or.inr (by show w.heap.size ≤ t3; omega)) _).alloc _, ?_, ?_⟩
          · rw [cell_set_new]; rfl
          · rw [cell_set_new]; rfl
          · exact (Ex.new _ _).blk (one_setCell ht3c)
          · exact (Ex.new _ _).blk ((Below.heap_setCell _ _ _ _ (by show w.heap.size ≠ t3; omega)).trans hrsc)
        case measure => simp [intOf]; omega
      · go_wp2_with fail
        have hres := World.cell?_setCell_same wr ⟨w.heap.size, 0, none⟩ (.slice a' (len g) c') c3
        have hfin := FIN.out wr g a' (.slice a' (len g) c') G.out hrd hfr
        exact bodyPost_ret (v := .agg #[.slice a' (len g) c']) (by simp [results, Tryd.results32, go_sem, hres]) rfl ⟨g, a', c', q0 + 1, rfl, hfin.1, SG.out, by omega, by omega, by omega, hfin.2.1, hfin.2.2⟩
  · by_cases hy1 : y = 1
    · subst hy1
      obtain ⟨olds, ho1, ho2, ho3⟩ := SA_olds T3.out
      have O3 : Hid _ := ho3
      have hl := SM.out.1
      clear ho3
      go_wp2_with (at_builtin; refine wpList_append_grows _ rfl (.tmp 25) (.tmp 27) 24 rfl 32 i0 (.agg #[.slice none 0 0]) 1 24 Tryd.underlying24 hi hz0 hz1 hz2 rfl (by decide) a (len f) (len f) olds rfl ?hnone ?hlo ?holds ⟨w3.heap.size, 0, none⟩ 1 1 [.slice none 0 0] rfl rfl ?c1 ?c2 (by omega) (by unfold maxLen; omega) (by omega) ?grow)
      case hnone =>
        intro h
        by_cases h0 : len f = 0
        · exact ⟨h0, h0⟩
        · obtain ⟨b, o, e, _⟩ := SA_at T3.out (by omega)
          rw [h] at e; cases e
      case hlo => rw [ho1]; omega
      case holds => intro b hb j u hu; exact (Ex.new _ _).at (ho2 b hb j u hu)
      case c1 => intro j u hj; match j, hj with | 0, hj => simp at hj; subst hj; simp [Addr.add]
      case c2 => intro u hu; simp at hu; subst hu; rfl
      case grow =>
        intro v' w4 hown hgrow
        obtain ⟨_, h | ⟨g, cap, cur, rfl, hg, hgc, hcap, _, hcs, htake⟩⟩ := hown
        · omega
        have hx4 : Ex w3 w4 := (Ex.new _ _).trans ⟨hgrow.os, hgrow.tape, hgrow.output, hgrow.size, fun k hk => hgrow.block k hk (by simp)⟩
        have hb4 := hx4.blk hb3
        have hres4 := hx4.blk hres3
        have G4 : Hid (w4.heap[g]? = some (.cells cur 32 (0, 0))) := hgc
        have TK : Hid _ := htake
        clear hgrow hgc htake c1 c2 c3 c4 hb3 hres3 hcap hcs
        have c1 := cell_of_one hb4
        have c2 := free_of_one hb4
        have c3 := cell_of_one hres4
        have c4 := free_of_one hres4
        go_wp2_with fail
        have c6 : (w4.setCell ⟨t3, 0, none⟩ (.slice (some ⟨g, 0, none⟩) (len f + 1) cap)).cell? ⟨w.heap.size, 0, none⟩ = some (.slice none 0 0) := by
          rw [World.cell?_setCell_other _ _ _ _ (fun e => absurd (congrArg Addr.block e) (by show t3 ≠ w.heap.size; omega))]; exact c3
        have hres := World.cell?_setCell_same (w4.setCell ⟨t3, 0, none⟩ (.slice (some ⟨g, 0, none⟩) (len f + 1) cap)) ⟨w.heap.size, 0, none⟩ (.slice (some ⟨g, 0, none⟩) (len f + 1) cap) c6
        have hks : Ks (fun b => w.heap.size < b ∧ b ≠ t3) w3 (w4.setCell ⟨t3, 0, none⟩ (.slice (some ⟨g, 0, none⟩) (len f + 1) cap)) := fun b hb hlt => by
          rw [Below.heap_setCell _ _ _ _ hb.2]; exact hx4.block b hlt
        have hg4 : SA (w4.setCell ⟨t3, 0, none⟩ (.slice (some ⟨g, 0, none⟩) (len f + 1) cap)) (fun b => w.heap.size < b ∧ b ≠ t3) (snoc f 0 .nil) (some ⟨g, 0, none⟩) := by
          refine SA_snoc (olds := olds) (cur := cur) (e := 32) (a0 := none) (c0 := 0) ⟨by omega, by omega⟩ ?_ ?_ ho1 (fun i hi => ?_) (Or.inl rfl)
          · rw [Below.heap_setCell _ _ _ _ (by show g ≠ t3; omega)]; exact G4.out
          · have := TK.out; rw [Nat.mul_one] at this; exact this
          · obtain ⟨a', k', h1, h2⟩ := O3.out i hi
            exact ⟨a', k', h1, SA_ks h2 hks⟩
        have hfin := FIN.out _ _ _ (.slice (some ⟨g, 0, none⟩) (len f + 1) cap) hg4 ((R3.out.ex hx4).set (by show rb < t3; omega) _) ((F3.out.ex hx4).set (Or.inr (by show w.heap.size ≤ t3; omega)) _)
        refine bodyPost_ret (v := .agg #[.slice (some ⟨g, 0, none⟩) (len f + 1) cap]) (by simp [results, Tryd.results32, go_sem, hres]) rfl ⟨snoc f 0 .nil, _, cap, q0 + 1, by rw [len_snoc], hfin.1, ⟨by rw [len_snoc]; omega, Sm_snoc 0 SM.out.2 ⟨by simp [len], trivial⟩⟩, by have := dep_snoc f 0 .nil; have := DP.out; simp only [dep] at *; omega, by omega, by omega, hfin.2.1, hfin.2.2⟩
    · have e0 : (y == 0) = false := by simp; omega
      have e1 : (y == 1) = false := by simp; omega
      go_wp2_with fail
      have hres := World.cell?_setCell_same w3 ⟨w.heap.size, 0, none⟩ (.slice a (len f) (len f)) c3
      have hfin := FIN.out w3 f a (.slice a (len f) (len f)) T3.out R3.out F3.out
      exact bodyPost_ret (v := .agg #[.slice a (len f) (len f)]) (by simp [results, Tryd.results32, go_sem, hres]) rfl ⟨f, a, len f, q0 + 1, rfl, hfin.1, ⟨by have := SM.out; omega, SM.out.2⟩, by have := DP.out; omega, by omega, by omega, hfin.2.1, hfin.2.2⟩

end Go.Proofs.YthdihpcpobhadaaDoor

namespace Go.Proofs.YthdihpcpobhadaaDoor

open Go.RowKit Go.Deep

attribute [local go_sem ↓] Go.wp_at_zero Go.wp_at_succ

/-- Two types are the same. -/
def eqT : F → F → Bool
  | .nil, .nil => true
  | .node _ _ _ k r, .node _ _ _ k' r' => eqT k k' && eqT r r'
  | .nil, .node _ _ _ _ _ => false
  | .node _ _ _ _ _, .nil => false

theorem eqT_refl : ∀ f : F, eqT f f = true
  | .nil => rfl
  | .node _ _ _ k r => by simp [eqT, eqT_refl k, eqT_refl r]

theorem eqT_len : ∀ (f g : F), len f ≠ len g → eqT f g = false
  | .nil, .nil, h => by simp [len] at h
  | .node _ _ _ k r, .node _ _ _ k' r', h => by
    have : eqT r r' = false := eqT_len r r' (by simp only [len] at h; omega)
    simp [eqT, this]
  | .nil, .node _ _ _ _ _, _ => rfl
  | .node _ _ _ _ _, .nil, _ => rfl

theorem eqT_bad : ∀ (f g : F) (i : Nat), i < len f → eqT (kid f i) (kid g i) = false → eqT f g = false
  | .nil, _, i, h, _ => by simp [len] at h
  | .node _ _ _ k r, .nil, _, _, _ => rfl
  | .node _ _ _ k r, .node _ _ _ k' r', 0, _, h => by simp only [kid] at h; simp [eqT, h]
  | .node _ _ _ k r, .node _ _ _ k' r', i + 1, hi, h => by
    have := eqT_bad r r' i (by simp only [len] at hi; omega) h
    simp [eqT, this]

theorem eqT_good : ∀ (f g : F), len f = len g → (∀ i, i < len f → eqT (kid f i) (kid g i) = true) → eqT f g = true
  | .nil, .nil, _, _ => rfl
  | .node _ _ _ k r, .node _ _ _ k' r', hl, h => by
    have h0 : eqT k k' = true := h 0 (by simp [len])
    have h1 : eqT r r' = true := eqT_good r r' (by simp only [len] at hl; omega) fun i hi => h (i + 1) (by simp only [len]; omega)
    simp [eqT, h0, h1]
  | .nil, .node _ _ _ _ _, hl, _ => by simp [len] at hl
  | .node _ _ _ _ _, .nil, hl, _ => by simp [len] at hl

set_option maxRecDepth 100000 in
set_option maxHeartbeats 2000000 in
theorem lhType_any : ∀ (d : Nat) (f g : F) (a a' : Option Addr) (c c' lo lo' : Nat) (w : World), dep f < d → len f ≤ 1000000000 → Sm f → TA w lo f a → TA w lo' g a' →
    Calls Tryd.prog 10 #[.agg #[.slice a (len f) c], .agg #[.slice a' (len g) c']] w fun e w' => e = .returned (.bool (eqT f g)) ∧ Ex w w' := by
  intro d
  induction d with
  | zero =>
    intro f g a a' c c' lo lo' w hd hl hs hT hT'
    omega
  | succ d ih =>
    intro f g a a' c c' lo lo' w hd hl hs hT hT'
    have T : Hid (TA w lo f a) := hT
    have T' : Hid (TA w lo' g a') := hT'
    have I : Hid _ := ih
    have SS : Hid (Sm f) := hs
    clear hT hT' ih hs
    by_cases hlen : len f = len g
    · have e0 : ((len f : Int) != (len g : Int)) = false := by simp [hlen]
      have hle : len f ≤ len g := by omega
      have hge : len g ≤ len f := by omega
      have HL : Hid (len f = len g) := hlen
      clear hlen
      go_enter Tryd.func10, Tryd.ntmps10
      go_wp2_with fail
      go_loopw [5] (fun i wr => ∃ k : Nat, k ≤ len f ∧ i = .int .i64 k ∧ Ex ((w.alloc (.cells #[.slice a (len f) c] 32)).alloc (.cells #[.slice a' (len g) c'] 32)) wr ∧ ∀ j, j < k → eqT (kid f j) (kid g j) = true) (fun i _ => len f - (intOf i).toNat)
      case atStart => exact ⟨0, Nat.zero_le _, rfl, Ex.refl _, fun j hj => by omega⟩
      case round =>
        obtain ⟨k, hk, rfl, hx, hfit⟩ := hrel
        have hbx : wr.cell? ⟨w.heap.size, 0, none⟩ = some (.slice a (len f) c) := Ex.at hx (Ex.at (Ex.new _ _) (World.cell?_alloc_new _ _ _ _))
        have hbx' : wr.cell? ⟨w.heap.size + 1, 0, none⟩ = some (.slice a' (len g) c') := Ex.at hx (World.cell?_alloc_at _ _ _ _ (by simp))
        have hw : Ex w wr := ((Ex.new _ _).alloc _).trans hx
        have FT : Hid (∀ j, j < k → eqT (kid f j) (kid g j) = true) := hfit
        clear hfit
        by_cases hlt : k < len f
        · obtain ⟨b, o, rfl, hlo, hbs, hkk⟩ := TA_at (TA_below T.out hw) (by omega)
          obtain ⟨a1, c1, hc1, ht1⟩ := hkk k hlt
          obtain ⟨b', o', rfl, hlo', hbs', hkk'⟩ := TA_at (TA_below T'.out hw) (by omega)
          obtain ⟨a2, c2, hc2, ht2⟩ := hkk' k (by omega)
          have T1 : Hid (∀ w', Ex wr w' → TA w' lo (kid f k) a1) := fun _ h => TA_below ht1 h
          have T2 : Hid (∀ w', Ex wr w' → TA w' lo' (kid g k) a2) := fun _ h => TA_below ht2 h
          have KS : Hid (∀ w', Ex wr w' → (Ex wr w' ∧ w'.cell? ⟨w.heap.size, 0, none⟩ = some (.slice (some ⟨b, o, none⟩) (len f) c) ∧ w'.cell? ⟨w.heap.size + 1, 0, none⟩ = some (.slice (some ⟨b', o', none⟩) (len g) c') ∧ w'.cell? ⟨b, o + k, none⟩ = some (.slice a1 (len (kid f k)) c1) ∧ w'.cell? ⟨b', o' + k, none⟩ = some (.slice a2 (len (kid g k)) c2))) := fun w' h => ⟨h, Ex.at h hbx, Ex.at h hbx', Ex.at h hc1, Ex.at h hc2⟩
          have hI : Hid (∀ w', Ex wr w' → Calls Tryd.prog 10 #[.agg #[.slice a1 (len (kid f k)) c1], .agg #[.slice a2 (len (kid g k)) c2]] w' fun e w'' => e = .returned (.bool (eqT (kid f k) (kid g k))) ∧ Ex w' w'') := fun w' h =>
            I.out (kid f k) (kid g k) a1 a2 c1 c2 lo lo' w' (by have := dep_kid f k hlt; omega) (Sm_kid SS.out k hlt).1 (Sm_kid SS.out k hlt).2 (T1.out w' h) (T2.out w' h)
          have i0 : (0 : Int) ≤ (k : Int) := by omega
          have i1 : (k : Int) < (len f : Int) := by omega
          have i2 : (k : Int) < (len g : Int) := by omega
          clear hkk hkk' ht1 ht2
          go_wp2_with fail
          go_region_held3 (fun w' => Ex wr w' ∧ w'.cell? ⟨w.heap.size, 0, none⟩ = some (.slice (some ⟨b, o, none⟩) (len f) c) ∧ w'.cell? ⟨w.heap.size + 1, 0, none⟩ = some (.slice (some ⟨b', o', none⟩) (len g) c') ∧ w'.cell? ⟨b, o + k, none⟩ = some (.slice a1 (len (kid f k)) c1) ∧ w'.cell? ⟨b', o' + k, none⟩ = some (.slice a2 (len (kid g k)) c2)) ((refine KS.out _ ?_; first | exact (Ex.refl _).drew | exact Ex.trans (And.left ‹Ex _ _ ∧ _›) ‹Ex _ _›)) (first | (go_at_call 10; refine (hI.out _ (And.left ‹Ex _ _ ∧ _›)).mono ?_; rintro e w7 ⟨rfl, hb7⟩))
          have hx7 : Ex wr w7 := And.left ‹Ex wr w7 ∧ _›
          cases hfk : eqT (kid f k) (kid g k)
          · go_wp2_with fail
            go_ret
            exact ⟨ret_b (eqT_bad _ _ k hlt hfk).symm, hw.trans hx7⟩
          · go_wp2_with fail
            go_roundw
            case rel => exact ⟨k + 1, by omega, by go_num, hx.trans hx7, fun j hj => by
              by_cases hj' : j < k
              · exact FT.out j hj'
              · rw [show j = k by omega]; exact hfk⟩
            case measure => simp [intOf]; omega
        · go_wp2_with fail
          go_ret
          exact ⟨ret_b (eqT_good _ _ HL.out fun j hj => FT.out j (by omega)).symm, hw⟩
    · have e0 : ((len f : Int) != (len g : Int)) = true := by simp; omega
      go_enter Tryd.func10, Tryd.ntmps10
      go_wp2_with fail
      go_ret
      exact ⟨ret_b (eqT_len _ _ hlen).symm, (Ex.new _ _).alloc _⟩

end Go.Proofs.YthdihpcpobhadaaDoor

namespace Go.Proofs.YthdihpcpobhadaaDoor

open Go.RowKit Go.Deep

attribute [local go_sem ↓] Go.wp_at_zero Go.wp_at_succ

theorem Tryd.info3 : (Tryd.prog.info? 3).map (fun i => (i.zero, i.size, i.bytes)) = some (some (.int .i64 0), 1, 8) := by kernel_rfl

theorem heap_alloc_at (w : World) (o : Obj) {n : Nat} (h : n = w.heap.size) : (w.alloc o).heap[n]? = some o := by subst h; exact heap_alloc_new _ _

/-- Numbers in memory that the call itself has made. -/
abbrev Own (w : World) (base : Nat) (v : Value) (xs : List Int) : Prop := w.ownsRow base 3 1 v xs.length (xs.map (Value.int .i64))

theorem Own.PA {w : World} {base : Nat} {v : Value} {xs : List Int} (h : Own w base v xs) : ∃ pa pc, v = .slice pa xs.length pc ∧ PA w base xs pa ∧ xs.length ≤ pc ∧ pc ≤ 9223372036854775807 ∧ ((pa = none ∧ pc = 0) ∨ ∃ g, pa = some ⟨g, 0, none⟩) := by
  obtain ⟨_, ⟨rfl, h0⟩ | ⟨g, cap, cur, rfl, hg, hgc, hcap, hcm, _, ht⟩⟩ := h
  · exact ⟨none, 0, by rw [h0], Or.inl h0, by omega, by omega, Or.inl ⟨rfl, rfl⟩⟩
  · refine ⟨some ⟨g, 0, none⟩, cap, rfl, Or.inr ⟨g, 0, rfl, hg, fun i hi => ?_⟩, hcap, by unfold maxLen at hcm; omega, Or.inr ⟨g, rfl⟩⟩
    have : (cur.toList.take (xs.length * 1))[i]? = (xs.map (Value.int .i64))[i]? := by rw [ht]
    rw [Nat.mul_one, List.getElem?_take_of_lt hi, List.getElem?_map] at this
    simp [World.cell?, hgc]
    simp at this
    rw [this]
    simp [hi]

theorem Own.keep {w w' : World} {base : Nat} {v : Value} {xs : List Int} (h : Own w base v xs) (hk : Kp base w w') : Own w' base v xs := by
  obtain ⟨h1, h2 | ⟨g, cap, cur, rfl, hg, hgc, r⟩⟩ := h
  · exact ⟨h1, Or.inl h2⟩
  · exact ⟨h1, Or.inr ⟨g, cap, cur, rfl, hg, (hk.block g hg (lt_of_block hgc)).trans hgc, r⟩⟩

theorem Own.lo {w : World} {base base' : Nat} {v : Value} {xs : List Int} (h : Own w base v xs) (hb : base' ≤ base) : Own w base' v xs := by
  obtain ⟨h1, h2 | ⟨g, cap, cur, rfl, hg, r⟩⟩ := h
  · exact ⟨h1, Or.inl h2⟩
  · exact ⟨h1, Or.inr ⟨g, cap, cur, rfl, Nat.le_trans hb hg, r⟩⟩
theorem Own.row {w : World} {base : Nat} {v : Value} {xs : List Int} (h : Own w base v xs) : ∀ k, v.ownBlock = some k → base ≤ k := by
  obtain ⟨_, ⟨rfl, _⟩ | ⟨g, cap, cur, rfl, hg, _⟩⟩ := h
  · intro k hk; cases hk
  · intro k hk; cases hk; exact hg
theorem Rd.below {w w' : World} {rb p B : Nat} (h : Rd w rb p) (hb : Below B w w') (hB : rb < B) : Rd w' rb p := by
  obtain ⟨ca, n, cc, h1, h2, h3⟩ := h
  refine ⟨ca, n, cc, (hb.block rb hB).trans h1, h2, ?_⟩
  rcases h3 with h3 | ⟨cb, co, h4, h5, h6⟩
  · exact Or.inl h3
  · exact Or.inr ⟨cb, co, h4, h5, fun i hi => by obtain ⟨x, hc, hx0⟩ := h6 i hi; exact ⟨x, (hb.cell (by show cb < B; omega)).trans hc, hx0⟩⟩
theorem Fr.below {rb B : Nat} {a b c : World} (h : Fr rb a b) (k : Below B b c) (hB : a.heap.size ≤ B) : Fr rb a c :=
  ⟨k.os.trans h.os, k.tape.trans h.tape, k.output.trans h.output, Nat.le_trans h.size k.size, fun i hi hn => (k.block i (by omega)).trans (h.block i hi hn)⟩

/-- While a region goes on: of W only blocks rb and n have turned, and block n has c cells of type t that may be written. -/
def FC (rb n c : Nat) (t : TypeId) (W w : World) : Prop := (w.os = W.os ∧ w.tape = W.tape ∧ w.output = W.output ∧ W.heap.size ≤ w.heap.size) ∧ (∀ k, k < W.heap.size → k ≠ rb → k ≠ n → w.heap[k]? = W.heap[k]?) ∧ ∃ vs : Array Value, vs.size = c ∧ w.heap[n]? = some (.cells vs t (0, 0))
theorem FC.start {rb n c : Nat} {t : TypeId} {W : World} {vs : Array Value} (h : W.heap[n]? = some (.cells vs t (0, 0))) (hc : vs.size = c) : FC rb n c t W W := ⟨⟨rfl, rfl, rfl, Nat.le_refl _⟩, fun _ _ _ _ => rfl, vs, hc, h⟩
theorem FC.drew {rb n c : Nat} {t : TypeId} {W w : World} (h : FC rb n c t W w) : FC rb n c t W w.drew := h
theorem FC.fr {rb n c : Nat} {t : TypeId} {W w w' : World} (h : FC rb n c t W w) (hf : Fr rb w w') (hn : n ≠ rb) : FC rb n c t W w' := by
  obtain ⟨⟨h1, h2, h3, h4⟩, h5, vs, h6, h7⟩ := h
  exact ⟨⟨hf.os.trans h1, hf.tape.trans h2, hf.output.trans h3, Nat.le_trans h4 hf.size⟩, fun k hk e1 e2 => (hf.block k (Nat.lt_of_lt_of_le hk h4) e1).trans (h5 k hk e1 e2), vs, h6, hf.blk hn h7⟩
theorem FC.ex {rb n c : Nat} {t : TypeId} {W w w' : World} (h : FC rb n c t W w) (hf : Ex w w') (hn : n ≠ rb) : FC rb n c t W w' := h.fr (Fr.of_ex hf _) hn
theorem FC.set {rb n c : Nat} {t : TypeId} {W w : World} (h : FC rb n c t W w) (i : Nat) (v : Value) : FC rb n c t W (w.setCell ⟨n, i, none⟩ v) := by
  obtain ⟨⟨h1, h2, h3, h4⟩, h5, vs, h6, h7⟩ := h
  refine ⟨⟨h1, h2, h3, by rw [World.size_setCell]; exact h4⟩, fun k hk e1 e2 => by rw [Below.heap_setCell _ _ _ _ e2]; exact h5 k hk e1 e2, vs.setIfInBounds i v, by simp [h6], ?_⟩
  simp [World.setCell, Array.getElem?_modify, h7]
theorem FC.cell {rb n c : Nat} {t : TypeId} {W w : World} (h : FC rb n c t W w) (i : Nat) (hi : i < c) : ∃ v, w.cell? ⟨n, i, none⟩ = some v := by
  obtain ⟨_, _, vs, h6, h7⟩ := h
  exact ⟨vs[i]'(by omega), by simp [World.cell?, h7, h6, hi]⟩
theorem FC.frozen {rb n c : Nat} {t : TypeId} {W w : World} (h : FC rb n c t W w) (i : Nat) : w.frozen? ⟨n, i, none⟩ = false := by
  obtain ⟨_, _, vs, h6, h7⟩ := h
  simp [World.frozen?, h7]
theorem FC.at {rb n c : Nat} {t : TypeId} {W w : World} (h : FC rb n c t W w) {p : Addr} {v : Value} (h1 : p.block ≠ rb) (h2 : p.block ≠ n) (hc : W.cell? p = some v) : w.cell? p = some v :=
  (World.cell?_of_block (w := W) (h.2.1 _ (World.block_lt_of_cell? _ _ hc) h1 h2)).trans hc
theorem FC.kp {rb n c lo : Nat} {t : TypeId} {W w : World} (h : FC rb n c t W w) (h1 : rb < lo) (h2 : n < lo) : Kp lo W w := ⟨h.1.2.2.2, fun k hk hk2 => h.2.1 k hk2 (by omega) (by omega)⟩
theorem FC.to_ex {rb n c : Nat} {t : TypeId} {w0 W w : World} (h : FC rb n c t W w) (hx : Ex w0 W) (h1 : w0.heap.size ≤ rb) (h2 : w0.heap.size ≤ n) : Ex w0 w :=
  ⟨h.1.1.trans hx.os, h.1.2.1.trans hx.tape, h.1.2.2.1.trans hx.output, Nat.le_trans hx.size h.1.2.2.2, fun k hk => (h.2.1 k (Nat.lt_of_lt_of_le hk hx.size) (by omega) (by omega)).trans (hx.block k hk)⟩

end Go.Proofs.YthdihpcpobhadaaDoor
