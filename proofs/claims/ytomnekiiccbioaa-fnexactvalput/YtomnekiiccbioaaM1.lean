/- Parts of values, without the program. -/
import Derived.Test.YtomnekiiccbioaaV12
namespace Go.Proofs.Ytomnekiiccbioaa
open Go.RowKit Go.Deep

theorem vType_up : ∀ (r : Nat) (n : Int) (f u : F), vType r n f = some u → vType (r + 1) n f = some u
  | 0, n, f, u, h => by simp [vType] at h
  | r + 1, n, f, u, h => by
    by_cases h0 : len f = 0
    · rw [vType_num h0] at h ⊢; exact h
    · by_cases hb : len f = 2 ∧ n = 0
      · rw [vType_two hb.1 hb.2] at h ⊢
        cases ha : vType r (num f 0) (kid f 0) with
        | none => rw [ha] at h; cases h
        | some a =>
          cases hc : vType r (num f 1) (kid f 1) with
          | none => rw [ha, hc] at h; cases h
          | some b => rw [ha, hc] at h; rw [vType_up r _ _ _ ha, vType_up r _ _ _ hc]; exact h
      · rw [vType_bad h0 hb] at h; cases h

theorem partV_append : ∀ (p q : List Int) (n : Int) (f : F), partV n f (p ++ q) = (partV n f p).bind fun g => partV g.1 g.2 q
  | [], q, n, f => rfl
  | i :: p, q, n, f => by
    simp only [List.cons_append, partV]
    split
    · exact partV_append p q _ _
    · rfl

/-- A part of a value of a type is of that type's part. -/
theorem partV_type : ∀ (p : List Int) (r : Nat) (n : Int) (f u : F), vType r n f = some u →
    (∀ m g, partV n f p = some (m, g) → ∃ v, partF u p = some v ∧ vType r m g = some v) ∧ (partV n f p = none → partF u p = none)
  | [], r, n, f, u, h => ⟨fun m g e => by cases e; exact ⟨u, rfl, h⟩, fun e => by cases e⟩
  | i :: p, 0, n, f, u, h => by simp [vType] at h
  | i :: p, r + 1, n, f, u, h => by
    have hu : len u = len f := by
      obtain h0 | ⟨h2, hn, a, b, ha, hb⟩ := vType_some h
      · rw [vType_num h0] at h
        split at h
        · cases h; rw [h0]; rfl
        · cases h
      · rw [vType_two h2 hn, ha, hb] at h; cases h; rw [h2]; rfl
    by_cases hi : 0 ≤ i ∧ i < len f
    · have hi' : 0 ≤ i ∧ i < len u := by omega
      simp only [partV, partF, if_pos hi, if_pos hi']
      obtain h0 | ⟨h2, hn, a, b, ha, hb⟩ := vType_some h
      · omega
      · rw [vType_two h2 hn, ha, hb] at h
        cases h
        have : i.toNat = 0 ∨ i.toNat = 1 := by omega
        rcases this with e | e <;> rw [e]
        · have := partV_type p r _ _ a ha
          exact ⟨fun m g he => by obtain ⟨v, h1, h2⟩ := this.1 m g he; exact ⟨v, h1, vType_up r _ _ _ h2⟩, this.2⟩
        · have := partV_type p r _ _ b hb
          exact ⟨fun m g he => by obtain ⟨v, h1, h2⟩ := this.1 m g he; exact ⟨v, h1, vType_up r _ _ _ h2⟩, this.2⟩
    · have hi' : ¬ (0 ≤ i ∧ i < len u) := by omega
      simp only [partV, partF, if_neg hi, if_neg hi']
      exact ⟨fun m g e => (by cases e), fun _ => by trivial⟩

theorem valAt_ok {n : Int} {f : F} {p : List Int} (h : (valAtR n f p).2 = true) : ∃ u m g v, vType 4 n f = some u ∧ partV n f p = some (m, g) ∧ vType 4 m g = some v ∧ partF u p = some v ∧ valAtR n f p = ((m, g), true) := by
  cases hf : vType 4 n f with
  | none => simp [valAtR, hf] at h
  | some u =>
    cases hp : partV n f p with
    | none => simp [valAtR, hf, hp] at h
    | some mg =>
      obtain ⟨m, g⟩ := mg
      obtain ⟨v, h1, h2⟩ := (partV_type p 4 n f u hf).1 m g hp
      exact ⟨u, m, g, v, rfl, rfl, h2, h1, by simp [valAtR, hf, hp]⟩

theorem valAt_of {n : Int} {f u : F} {p : List Int} {m : Int} {g : F} (hf : vType 4 n f = some u) (hp : partV n f p = some (m, g)) : valAtR n f p = ((m, g), true) := by simp [valAtR, hf, hp]

theorem valAt_cut {n : Int} {f : F} {p : List Int} (h : (valAtR n f p).2 = true) (cut : Nat) : (valAtR n f (p.take cut)).2 = true ∧ valAtR (valAtR n f (p.take cut)).1.1 (valAtR n f (p.take cut)).1.2 (p.drop cut) = valAtR n f p := by
  obtain ⟨u, m, g, v, hf, hp, hv, _, he⟩ := valAt_ok h
  have ha := partV_append (p.take cut) (p.drop cut) n f
  rw [List.take_append_drop, hp] at ha
  cases h1 : partV n f (p.take cut) with
  | none => rw [h1] at ha; cases ha
  | some mg =>
    obtain ⟨m1, g1⟩ := mg
    rw [h1] at ha
    obtain ⟨v1, _, h2⟩ := (partV_type _ 4 n f u hf).1 m1 g1 h1
    rw [valAt_of hf h1]
    refine ⟨rfl, ?_⟩
    rw [he]
    exact valAt_of h2 ha.symm

theorem valAt_sm (n : Int) (f : F) (p : List Int) : len (valAtR n f p).1.2 ≤ 1000000000 ∧ Sm (valAtR n f p).1.2 ∧ dep (valAtR n f p).1.2 ≤ 4 := by
  cases h : (valAtR n f p).2 with
  | true =>
    obtain ⟨u, m, g, v, hf, hp, hv, _, he⟩ := valAt_ok h
    have := vType_sm 4 m g v hv
    rw [he]
    exact ⟨by show len g ≤ _; omega, this.2.1, by show dep g ≤ _; omega⟩
  | false =>
    have : valAtR n f p = ((0, .nil), false) := by
      unfold valAtR at h ⊢
      split
      · rename_i m g e; rw [e] at h; cases h
      · rfl
    rw [this]
    exact ⟨by show len .nil ≤ _; simp [len], trivial, by show dep .nil ≤ _; simp [dep]⟩

theorem VA_set {w : World} {lo : Nat} {f : F} {a : Option Addr} (h : VA w lo f a) {p : Addr} (hp : p.block < lo) (v : Value) : VA (w.setCell p v) lo f a :=
  VS_ks h fun b hb _ => Below.heap_setCell _ _ _ _ (by have : lo ≤ b := hb; omega)

end Go.Proofs.Ytomnekiiccbioaa
