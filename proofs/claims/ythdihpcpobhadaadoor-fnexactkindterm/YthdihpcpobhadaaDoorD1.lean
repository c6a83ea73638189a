/- Walks: how codes are read and types are drawn. -/
import Derived.Test.YthdihpcpobhadaaDoorW4

import Derived.Deep.QuietTactic

import Derived.BigQuiet

namespace Go.Proofs.YthdihpcpobhadaaDoor

open Go.RowKit Go.Deep

/-- Of what was there only block rb has turned. -/
structure Fr (rb : Nat) (w w' : World) : Prop where
  os : w'.os = w.os
  tape : w'.tape = w.tape
  output : w'.output = w.output
  size : w.heap.size ≤ w'.heap.size
  block : ∀ k, k < w.heap.size → k ≠ rb → w'.heap[k]? = w.heap[k]?

theorem Fr.refl (rb : Nat) (w : World) : Fr rb w w := ⟨rfl, rfl, rfl, Nat.le_refl _, fun _ _ _ => rfl⟩
theorem Fr.trans {rb : Nat} {a b c : World} (h : Fr rb a b) (k : Fr rb b c) : Fr rb a c :=
  ⟨k.os.trans h.os, k.tape.trans h.tape, k.output.trans h.output, Nat.le_trans h.size k.size, fun i hi hn => (k.block i (Nat.lt_of_lt_of_le hi h.size) hn).trans (h.block i hi hn)⟩
theorem Fr.of_ex {w w' : World} (h : Ex w w') (rb : Nat) : Fr rb w w' := ⟨h.os, h.tape, h.output, h.size, fun k hk _ => h.block k hk⟩
theorem Fr.ex {rb : Nat} {a b c : World} (h : Fr rb a b) (k : Ex b c) : Fr rb a c := h.trans (Fr.of_ex k rb)
theorem Fr.alloc {rb : Nat} {a b : World} (h : Fr rb a b) (o : Obj) : Fr rb a (b.alloc o) := h.ex (Ex.new _ _)
theorem Fr.drew {rb : Nat} {a b : World} (h : Fr rb a b) : Fr rb a b.drew := ⟨h.os, h.tape, h.output, h.size, h.block⟩
theorem Fr.set {rb : Nat} {a b : World} (h : Fr rb a b) {p : Addr} (hp : p.block = rb ∨ a.heap.size ≤ p.block) (v : Value) : Fr rb a (b.setCell p v) :=
  ⟨h.os, h.tape, h.output, by rw [World.size_setCell]; exact h.size, fun k h1 h2 => by rw [Below.heap_setCell _ _ _ _ (by omega)]; exact h.block k h1 h2⟩
theorem Fr.kp {rb lo : Nat} {a b : World} (h : Fr rb a b) (hl : rb < lo) : Kp lo a b := ⟨h.size, fun k h1 h2 => h.block k h2 (by omega)⟩
theorem Fr.blk {rb : Nat} {a b : World} (h : Fr rb a b) {n : Nat} {o : Obj} (hn : n ≠ rb) (hc : a.heap[n]? = some o) : b.heap[n]? = some o := (h.block n (lt_of_block hc) hn).trans hc
theorem Fr.at {rb : Nat} {a b : World} (h : Fr rb a b) {p : Addr} {v : Value} (hn : p.block ≠ rb) (hc : a.cell? p = some v) : b.cell? p = some v :=
  (World.cell?_of_block (w := a) (h.block _ (World.block_lt_of_cell? _ _ hc) hn)).trans hc
theorem Fr.to_ex {rb : Nat} {w a b : World} (h : Fr rb a b) (hx : Ex w a) (hr : w.heap.size ≤ rb) : Ex w b :=
  ⟨h.os.trans hx.os, h.tape.trans hx.tape, h.output.trans hx.output, Nat.le_trans hx.size h.size, fun k hk => (h.block k (Nat.lt_of_lt_of_le hk hx.size) (by omega)).trans (hx.block k hk)⟩

/-- A code is read, and p bytes of it have been. -/
def Rd (w : World) (rb : Nat) (p : Nat) : Prop := ∃ ca n cc, w.heap[rb]? = some (.cells #[.slice ca n cc, .int .i64 p] 93 (0, 0)) ∧ n ≤ 2000 ∧
  (n = 0 ∨ ∃ cb co, ca = some ⟨cb, co, none⟩ ∧ cb < rb ∧ ∀ i, i < n → ∃ x : Int, w.cell? ⟨cb, co + i, none⟩ = some (.int .u8 x) ∧ 0 ≤ x ∧ x ≤ 255)

theorem Rd.ex {w w' : World} {rb p : Nat} (h : Rd w rb p) (hx : Ex w w') : Rd w' rb p := by
  obtain ⟨ca, n, cc, h1, h2, h3⟩ := h
  refine ⟨ca, n, cc, hx.blk h1, h2, ?_⟩
  rcases h3 with h3 | ⟨cb, co, h4, h5, h6⟩
  · exact Or.inl h3
  · exact Or.inr ⟨cb, co, h4, h5, fun i hi => by obtain ⟨x, hc, hx0⟩ := h6 i hi; exact ⟨x, hx.at hc, hx0⟩⟩

theorem i64_xor_nat (a b : Nat) (ha : a < 4611686018427387904) (hb : b < 4611686018427387904) : bits .xor .i64 (a : Int) (b : Int) = ((a ^^^ b : Nat) : Int) := by
  have hx : a ^^^ b < 2 ^ 62 := Nat.xor_lt_two_pow (by omega) (by omega)
  have h1 : (BitVec.ofInt 64 (a : Int)).toNat = a := by
    rw [BitVec.ofInt_natCast, BitVec.toNat_ofNat]; exact Nat.mod_eq_of_lt (by omega)
  have h2 : (BitVec.ofInt 64 (b : Int)).toNat = b := by
    rw [BitVec.ofInt_natCast, BitVec.toNat_ofNat]; exact Nat.mod_eq_of_lt (by omega)
  show IntKind.i64.wrap ((BitVec.ofInt 64 (a : Int) ^^^ BitVec.ofInt 64 (b : Int)).toNat : Int) = _
  rw [BitVec.toNat_xor, h1, h2]
  simp [IntKind.wrap, IntKind.bits, IntKind.signed]
  omega

theorem pick_val (X n : Int) (h0 : 0 ≤ X) (h1 : X < 4611686018427387904) (hn : 1 ≤ n) : 0 ≤ (bits .xor .i64 X (wrap64 (X.tdiv 64))).tmod n ∧ (bits .xor .i64 X (wrap64 (X.tdiv 64))).tmod n < n := by
  obtain ⟨k, rfl⟩ := Int.eq_ofNat_of_zero_le h0
  have hd : wrap64 ((k : Int).tdiv 64) = ((k / 64 : Nat) : Int) := by
    rw [Int.tdiv_eq_ediv_of_nonneg (by omega)]; unfold wrap64; omega
  rw [hd, i64_xor_nat k (k / 64) (by omega) (by omega), Int.tmod_eq_emod_of_nonneg (by omega)]
  exact ⟨Int.emod_nonneg _ (by omega), Int.emod_lt_of_pos _ (by omega)⟩

theorem pick_x (x y : Int) (p m : Nat) (hx0 : 0 ≤ x) (hx1 : x ≤ 255) (hy0 : 0 ≤ y) (hy1 : y ≤ 255) (hp : p ≤ 1000000) :
    0 ≤ wrap64 (x * 131 + y * 1117 + (p : Int) * 29 + wrap64 (wrap64 ((p : Int) / (m : Int)) * 53)) ∧ wrap64 (x * 131 + y * 1117 + (p : Int) * 29 + wrap64 (wrap64 ((p : Int) / (m : Int)) * 53)) < 4611686018427387904 := by
  obtain ⟨q, hq, hq2⟩ : ∃ q : Nat, (p : Int) / (m : Int) = (q : Int) ∧ q ≤ p := ⟨p / m, rfl, Nat.div_le_self _ _⟩
  rw [hq]
  clear hq
  have w1 : wrap64 (q : Int) = q := by unfold wrap64; omega
  have w2 : wrap64 ((q : Int) * 53) = (q : Int) * 53 := by unfold wrap64; omega
  have w3 : wrap64 (x * 131 + y * 1117 + (p : Int) * 29 + (q : Int) * 53) = x * 131 + y * 1117 + (p : Int) * 29 + (q : Int) * 53 := by unfold wrap64; omega
  rw [w1, w2, w3]
  omega

set_option maxHeartbeats 2000000 in
theorem pick_any (rb p : Nat) (n : Int) (w : World) (hn1 : 1 ≤ n) (hn2 : n ≤ 1000000000) (hp : p ≤ 1000000) (hR : Rd w rb p) :
    Calls Tryd.prog 31 #[.pointer (some ⟨rb, 0, none⟩), .int .i64 n] w fun e w' => ∃ x : Int, e = .returned (.int .i64 x) ∧ 0 ≤ x ∧ x < n ∧ Rd w' rb (p + 1) ∧ Fr rb w w' := by
  obtain ⟨ca, m, cc, hb, hm, hcs⟩ := hR
  have q0 : w.cell? ⟨rb, 0, none⟩ = some (.slice ca m cc) := by simp [World.cell?, hb]
  have q1 : w.cell? ⟨rb, 1, none⟩ = some (.int .i64 p) := by simp [World.cell?, hb]
  have q2 : w.frozen? ⟨rb, 1, none⟩ = false := by simp [World.frozen?, hb]
  have r0 : (w.setCell ⟨rb, 1, none⟩ (.int .i64 ((p : Int) + 1))).cell? ⟨rb, 0, none⟩ = some (.slice ca m cc) := by rw [World.cell?_setCell_other _ _ _ _ (by simp)]; exact q0
  have r1 : (w.setCell ⟨rb, 1, none⟩ (.int .i64 ((p : Int) + 1))).cell? ⟨rb, 1, none⟩ = some (.int .i64 ((p : Int) + 1)) := World.cell?_setCell_same _ _ _ q1
  have hbb : (w.setCell ⟨rb, 1, none⟩ (.int .i64 ((p : Int) + 1))).heap[rb]? = some (.cells #[.slice ca m cc, .int .i64 ((p + 1 : Nat) : Int)] 93 (0, 0)) := by
    simp [World.setCell, Array.getElem?_modify, hb]
  have HB : Hid _ := hbb
  have RW : Hid (Rd (w.setCell ⟨rb, 1, none⟩ (.int .i64 ((p : Int) + 1))) rb (p + 1)) := by
    refine ⟨ca, m, cc, hbb, hm, ?_⟩
    rcases hcs with h | ⟨cb, co, h4, h5, h6⟩
    · exact Or.inl h
    · refine Or.inr ⟨cb, co, h4, h5, fun i hi => ?_⟩
      obtain ⟨x, hc, hx0⟩ := h6 i hi
      exact ⟨x, by rw [World.cell?_setCell_other _ _ _ _ (fun e => Nat.ne_of_gt h5 (congrArg Addr.block e))]; exact hc, hx0⟩
  have FW : Hid (Fr rb w (w.setCell ⟨rb, 1, none⟩ (.int .i64 ((p : Int) + 1)))) := Fr.set (Fr.refl rb w) (Or.inl rfl) _
  clear hb hbb
  have e1 : decide (n < 1) = false := by simp; omega
  by_cases hm0 : m = 0
  · subst hm0
    go_enter Tryd.func31, Tryd.ntmps31
    go_wp2_with fail
    go_ret
    exact ⟨0, rfl, by omega, by omega, RW.out, FW.out⟩
  · have em : ((m : Int) == 0) = false := by simp; omega
    rcases hcs with h | ⟨cb, co, rfl, hne, hcc⟩
    · omega
    have hcw : ∀ i, i < m → ∃ x : Int, (w.setCell ⟨rb, 1, none⟩ (.int .i64 ((p : Int) + 1))).cell? ⟨cb, co + i, none⟩ = some (.int .u8 x) ∧ 0 ≤ x ∧ x ≤ 255 := fun i hi => by
      obtain ⟨x, hc, hx0⟩ := hcc i hi
      exact ⟨x, by rw [World.cell?_setCell_other _ _ _ _ (fun e => Nat.ne_of_gt hne (congrArg Addr.block e))]; exact hc, hx0⟩
    by_cases hpm : p < m
    · obtain ⟨x, hx, hx0, hx1⟩ := hcw p hpm
      clear hcc hcw
      go_enter Tryd.func31, Tryd.ntmps31
      go_wp2_with fail
      go_ret
      exact ⟨x % n, rfl, Int.emod_nonneg _ (by omega), Int.emod_lt_of_pos _ (by omega), RW.out, FW.out⟩
    · obtain ⟨x, hx, hx0, hx1⟩ := hcw (p % m) (Nat.mod_lt _ (by omega))
      obtain ⟨y, hy, hy0, hy1⟩ := hcw ((p * 7 + 3) % m) (Nat.mod_lt _ (by omega))
      have i1 : p % m < m := Nat.mod_lt _ (by omega)
      have i2 : (p * 7 + 3) % m < m := Nat.mod_lt _ (by omega)
      have g1 : (p : Int).tmod m = ((p % m : Nat) : Int) := by rw [Int.tmod_eq_emod_of_nonneg (by omega)]; rfl
      have g4 : ((p : Int) * 7 + 3).tmod m = (((p * 7 + 3) % m : Nat) : Int) := by rw [Int.tmod_eq_emod_of_nonneg (by omega)]; rfl
      generalize p % m = j1 at *
      generalize (p * 7 + 3) % m = j2 at *
      have u1 : (j1 : Int) < m := by omega
      have u2 : (j2 : Int) < m := by omega
      have v1 : (0 : Int) ≤ (j1 : Int) := by omega
      have v2 : (0 : Int) ≤ (j2 : Int) := by omega
      clear hcc hcw
      go_enter Tryd.func31, Tryd.ntmps31
      go_wp2_with fail
      go_quiet (fail)
      go_wp2_with fail
      go_ret
      have hX := pick_x x y p m hx0 hx1 hy0 hy1 hp
      have hV := pick_val _ n hX.1 hX.2 hn1
      refine ⟨_, rfl, hV.1, hV.2, ?_, ?_⟩
      · exact RW.out.ex (Ex.drewN (Ex.refl _) nq)
      · exact FW.out.ex (Ex.drewN (Ex.refl _) nq)

end Go.Proofs.YthdihpcpobhadaaDoor
