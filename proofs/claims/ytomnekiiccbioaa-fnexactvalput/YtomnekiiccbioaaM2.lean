/- Parts put into values, without the program. -/
import Derived.Test.YtomnekiiccbioaaV17
import Derived.Test.YtomnekiiccbioaaL2
import Derived.Test.YtomnekiiccbioaaE4
namespace Go.Proofs.Ytomnekiiccbioaa
open Go.RowKit Go.Deep

theorem vType_form {r : Nat} {n : Int} {f u : F} (h : vType (r + 1) n f = some u) : (len f = 0 ∧ u = .nil) ∨ (len f = 2 ∧ n = 0 ∧ ∃ a b, u = two 0 a 0 b ∧ vType r (num f 0) (kid f 0) = some a ∧ vType r (num f 1) (kid f 1) = some b) := by
  obtain h0 | ⟨h2, hn, a, b, ha, hb⟩ := vType_some h
  · rw [vType_num h0] at h
    split at h
    · cases h; exact Or.inl ⟨h0, rfl⟩
    · cases h
  · rw [vType_two h2 hn, ha, hb] at h
    cases h
    exact Or.inr ⟨h2, hn, a, b, rfl, ha, hb⟩

theorem vType_canon : ∀ (r s : Nat) (n m : Int) (f g u t : F), vType r n f = some u → vType s m g = some t → eqT u t = true → u = t
  | 0, s, n, m, f, g, u, t, h, _, _ => by simp [vType] at h
  | r + 1, 0, n, m, f, g, u, t, _, h, _ => by simp [vType] at h
  | r + 1, s + 1, n, m, f, g, u, t, h, h', he => by
    obtain ⟨hl, hk⟩ := eqT_kid he
    rcases vType_form h with ⟨_, rfl⟩ | ⟨_, _, a, b, rfl, ha, hb⟩ <;> rcases vType_form h' with ⟨_, rfl⟩ | ⟨_, _, a', b', rfl, ha', hb'⟩
    · rfl
    · simp [len, two] at hl
    · simp [len, two] at hl
    · have e0 := hk 0 (by rw [len_two]; omega)
      have e1 := hk 1 (by rw [len_two]; omega)
      rw [kid_two0, kid_two0] at e0
      rw [kid_two1, kid_two1] at e1
      rw [vType_canon r s _ _ _ _ a a' ha ha' e0, vType_canon r s _ _ _ _ b b' hb hb' e1]

theorem vType_low : ∀ (r s : Nat) (n : Int) (f u : F), vType r n f = some u → fits s u = true → vType s n f = some u
  | 0, s, n, f, u, h, _ => by simp [vType] at h
  | r + 1, 0, n, f, u, _, h => by simp [fits] at h
  | r + 1, s + 1, n, f, u, h, hf => by
    rcases vType_form h with ⟨h0, rfl⟩ | ⟨h2, hn, a, b, rfl, ha, hb⟩
    · rw [vType_num h0] at h ⊢; exact h
    · rw [fits_two rfl, Bool.and_eq_true, kid_two0, kid_two1] at hf
      rw [vType_two h2 hn, vType_low r s _ _ a ha hf.1, vType_low r s _ _ b hb hf.2]; rfl

theorem two_type {r : Nat} {x y : Int} {a b u v : F} (ha : vType r x a = some u) (hb : vType r y b = some v) : vType (r + 1) 0 (two x a y b) = some (two 0 u 0 v) := by
  rw [vType_two rfl rfl, num_two0, num_two1, kid_two0, kid_two1, ha, hb]; rfl

theorem i01 {i : Int} {a b : F} (h : 0 ≤ i ∧ i < len (two 0 a 0 b)) : i = 0 ∨ i = 1 := by rw [len_two] at h; omega

theorem putV_type : ∀ (p : List Int) (r : Nat) (n : Int) (f u v : F) (m : Int) (g : F), vType r n f = some u → partF u p = some v → vType 4 m g = some v → vType r (putV p n f m g).1 (putV p n f m g).2 = some u
  | [], r, n, f, u, v, m, g, h, hv, hg => by cases hv; exact vType_low 4 r m g u hg (vType_fits r n f u h)
  | i :: q, 0, n, f, u, v, m, g, h, _, _ => by simp [vType] at h
  | i :: q, r + 1, n, f, u, v, m, g, h, hv, hg => by
    obtain ⟨hi, hv'⟩ := partF_cons hv
    rcases vType_form h with ⟨_, rfl⟩ | ⟨h2, hn, a, b, rfl, ha, hb⟩
    · simp [len] at hi; omega
    · rcases i01 hi with rfl | rfl
      · simp only [putV, if_true]
        exact two_type (putV_type q r _ _ a v m g ha hv' hg) hb
      · simp only [putV, if_neg (show ¬ (1 : Int) = 0 by omega)]
        exact two_type ha (putV_type q r _ _ b v m g hb hv' hg)

theorem putV_part : ∀ (p : List Int) (r : Nat) (n : Int) (f u v : F) (m : Int) (g : F), vType r n f = some u → partF u p = some v → partV (putV p n f m g).1 (putV p n f m g).2 p = some (m, g)
  | [], r, n, f, u, v, m, g, h, hv => rfl
  | i :: q, 0, n, f, u, v, m, g, h, _ => by simp [vType] at h
  | i :: q, r + 1, n, f, u, v, m, g, h, hv => by
    obtain ⟨hi, hv'⟩ := partF_cons hv
    rcases vType_form h with ⟨_, rfl⟩ | ⟨h2, hn, a, b, rfl, ha, hb⟩
    · simp [len] at hi; omega
    · rcases i01 hi with rfl | rfl
      · have := putV_part q r _ _ a v m g ha hv'
        simp only [putV, if_true, partV, len_two]
        exact this
      · have := putV_part q r _ _ b v m g hb hv'
        simp only [putV, if_neg (show ¬ (1 : Int) = 0 by omega), partV, len_two]
        exact this

theorem putV_twice : ∀ (p : List Int) (n : Int) (f : F) (m m' : Int) (g g' : F), putV p (putV p n f m g).1 (putV p n f m g).2 m' g' = putV p n f m' g'
  | [], n, f, m, m', g, g' => rfl
  | i :: q, n, f, m, m', g, g' => by
    by_cases hi : i = 0
    · have := putV_twice q (num f 0) (kid f 0) m m' g g'
      simp only [putV, if_pos hi, num_two0, num_two1, kid_two0, kid_two1, this]
    · have := putV_twice q (num f 1) (kid f 1) m m' g g'
      simp only [putV, if_neg hi, num_two0, num_two1, kid_two0, kid_two1, this]

theorem eqV_two {x y : Int} {a b f : F} (h2 : len f = 2) (e0 : x = num f 0 ∧ eqV a (kid f 0) = true) (e1 : y = num f 1 ∧ eqV b (kid f 1) = true) : eqV (two x a y b) f = true := by
  refine eqV_good _ _ (by rw [len_two, h2]) fun i hi => ?_
  rw [len_two] at hi
  have : i = 0 ∨ i = 1 := by omega
  rcases this with rfl | rfl
  · rw [num_two0, kid_two0, e0.2, e0.1]; simp
  · rw [num_two1, kid_two1, e1.2, e1.1]; simp

theorem putV_same : ∀ (p : List Int) (r : Nat) (n : Int) (f u : F) (m : Int) (g : F), vType r n f = some u → partV n f p = some (m, g) → (putV p n f m g).1 = n ∧ eqV (putV p n f m g).2 f = true
  | [], r, n, f, u, m, g, h, hv => by cases hv; exact ⟨rfl, eqV_refl _⟩
  | i :: q, 0, n, f, u, m, g, h, _ => by simp [vType] at h
  | i :: q, r + 1, n, f, u, m, g, h, hv => by
    simp only [partV] at hv
    split at hv
    · rename_i hi
      rcases vType_form h with ⟨h0, _⟩ | ⟨h2, hn, a, b, rfl, ha, hb⟩
      · omega
      · have : i = 0 ∨ i = 1 := by omega
        subst hn
        rcases this with rfl | rfl
        · have := putV_same q r _ _ a m g ha hv
          simp only [putV, if_true]
          exact ⟨by trivial, eqV_two h2 this ⟨rfl, eqV_refl _⟩⟩
        · have := putV_same q r _ _ b m g hb hv
          simp only [putV, if_neg (show ¬ (1 : Int) = 0 by omega)]
          exact ⟨by trivial, eqV_two h2 ⟨rfl, eqV_refl _⟩ this⟩
    · cases hv

theorem put_ok {n : Int} {f : F} {p : List Int} {m : Int} {g : F} (h : putOk n f p m g = true) : ∃ u v, vType 4 n f = some u ∧ partF u p = some v ∧ vType 4 m g = some v := by
  cases hf : vType 4 n f with
  | none => simp [putOk, hf] at h
  | some u =>
    cases hp : partF u p with
    | none => simp [putOk, hf, hp] at h
    | some v =>
      rw [put_yes hf hp] at h
      have hv : fits 4 v = true := by
        unfold valOk at h; rw [Bool.and_eq_true] at h; exact h.1
      cases hg : vType 4 m g with
      | none => simp [valOk, hg, ofType] at h
      | some t =>
        have he : eqT v t = true := by
          unfold valOk at h; rw [Bool.and_eq_true, hg] at h; exact h.2
        -- what is there is of that type, too
        have : ∃ m0 g0, partV n f p = some (m0, g0) := by
          cases hq : partV n f p with
          | none => rw [(partV_type p 4 n f u hf).2 hq] at hp; cases hp
          | some mg => exact ⟨mg.1, mg.2, rfl⟩
        obtain ⟨m0, g0, hq⟩ := this
        obtain ⟨v', h1, h2⟩ := (partV_type p 4 n f u hf).1 m0 g0 hq
        rw [hp] at h1
        cases h1
        exact ⟨u, v, rfl, hp, by rw [vType_canon 4 4 m0 m g0 g v t h2 hg he]⟩

theorem put_of {n : Int} {f u v : F} {p : List Int} {m : Int} {g : F} (h : vType 4 n f = some u) (hp : partF u p = some v) (hg : vType 4 m g = some v) : putOk n f p m g = true ∧ valPutR n f p m g = (putV p n f m g, true) := by
  have : putOk n f p m g = true := by
    rw [put_yes h hp]
    simp [valOk, vType_fits 4 m g v hg, hg, ofType, eqT_refl]
  exact ⟨this, by simp [valPutR, this]⟩

theorem put_sm (n : Int) (f : F) (p : List Int) (m : Int) (g : F) : len (valPutR n f p m g).1.2 ≤ 1000000000 ∧ Sm (valPutR n f p m g).1.2 := by
  cases h : putOk n f p m g with
  | false => simp [valPutR, h, len, Sm]
  | true =>
    obtain ⟨u, v, hu, hv, hg⟩ := put_ok h
    have := vType_sm 4 _ _ _ (putV_type p 4 n f u v m g hu hv hg)
    simp only [valPutR, h, if_true]
    exact ⟨by omega, this.2.1⟩

/-- What was put is there. -/
theorem put_there {n : Int} {f : F} {p : List Int} {m : Int} {g : F} (h : putOk n f p m g = true) : valAtR (putV p n f m g).1 (putV p n f m g).2 p = ((m, g), true) := by
  obtain ⟨u, v, hu, hv, hg⟩ := put_ok h
  exact valAt_of (putV_type p 4 n f u v m g hu hv hg) (putV_part p 4 n f u v m g hu hv)

theorem put_at {n : Int} {f : F} {p : List Int} {m : Int} {g : F} (h : putOk n f p m g = true) : ∃ m0 g0, valAtR n f p = ((m0, g0), true) ∧ partV n f p = some (m0, g0) ∧
    valPutR (putV p n f m g).1 (putV p n f m g).2 p m0 g0 = (putV p n f m0 g0, true) ∧ valPutR (putV p n f m0 g0).1 (putV p n f m0 g0).2 p m g = (putV p n f m g, true) ∧ (putV p n f m0 g0).1 = n ∧ eqV (putV p n f m0 g0).2 f = true := by
  obtain ⟨u, v, hu, hv, hg⟩ := put_ok h
  have : ∃ m0 g0, partV n f p = some (m0, g0) := by
    cases hq : partV n f p with
    | none => rw [(partV_type p 4 n f u hu).2 hq] at hv; cases hv
    | some mg => exact ⟨mg.1, mg.2, rfl⟩
  obtain ⟨m0, g0, hq⟩ := this
  obtain ⟨v', h1, h2⟩ := (partV_type p 4 n f u hu).1 m0 g0 hq
  rw [hv] at h1
  cases h1
  have ht := putV_type p 4 n f u v m g hu hv hg
  have ht0 := putV_type p 4 n f u v m0 g0 hu hv h2
  have hs := putV_same p 4 n f u m0 g0 hu hq
  refine ⟨m0, g0, valAt_of hu hq, hq, ?_, ?_, hs.1, hs.2⟩
  · rw [(put_of ht hv h2).2, putV_twice]
  · rw [(put_of ht0 hv hg).2, putV_twice]

/-- To put what was there. -/
theorem put_same {n : Int} {f : F} {p : List Int} (h : (valAtR n f p).2 = true) : ∃ m0 g0, valAtR n f p = ((m0, g0), true) ∧ valPutR n f p m0 g0 = (putV p n f m0 g0, true) ∧ (putV p n f m0 g0).1 = n ∧ eqV (putV p n f m0 g0).2 f = true := by
  obtain ⟨u, m, g, v, hu, hp, hg, hv, he⟩ := valAt_ok h
  have hs := putV_same p 4 n f u m g hu hp
  exact ⟨m, g, he, (put_of hu hv hg).2, hs.1, hs.2⟩

/-- It stays of its type. -/
theorem put_kind {n : Int} {f : F} {p : List Int} {m : Int} {g : F} (h : putOk n f p m g = true) (t : F) : valOk t (putV p n f m g).1 (putV p n f m g).2 = valOk t n f := by
  obtain ⟨u, v, hu, hv, hg⟩ := put_ok h
  unfold valOk
  rw [putV_type p 4 n f u v m g hu hv hg, hu]

theorem partF_len : ∀ (p : List Int) (r : Nat) (u v : F), fits r u = true → partF u p = some v → p.length < r
  | [], 0, u, v, h, _ => by simp [fits] at h
  | [], r + 1, u, v, h, _ => by simp
  | i :: q, 0, u, v, h, _ => by simp [fits] at h
  | i :: q, r + 1, u, v, h, hv => by
    obtain ⟨hi, hv'⟩ := partF_cons hv
    have h2 : len u = 2 := by have := fits_len h; omega
    rw [fits_two h2, Bool.and_eq_true] at h
    have : i.toNat = 0 ∨ i.toNat = 1 := by omega
    rcases this with e | e <;> rw [e] at hv'
    · have := partF_len q r _ v h.1 hv'; simp; omega
    · have := partF_len q r _ v h.2 hv'; simp; omega

/-- By a path that is too long there is nothing. -/
theorem put_none {n : Int} {f : F} {p : List Int} {m : Int} {g : F} (h : 4 ≤ p.length) : valPutR n f p m g = ((0, .nil), false) ∧ valAtR n f p = ((0, .nil), false) := by
  have h1 : (valAtR n f p).2 = false := by
    cases hv : (valAtR n f p).2 with
    | false => rfl
    | true =>
      obtain ⟨u, m, g, v, hu, hp, hg, hv, he⟩ := valAt_ok hv
      have := partF_len p 4 u v (vType_fits 4 n f u hu) hv
      omega
  refine ⟨by simp [valPutR, put_no h1], ?_⟩
  unfold valAtR at h1 ⊢
  split
  · rename_i m g e; rw [e] at h1; cases h1
  · rfl

theorem partV_other : ∀ (p : List Int) (k r : Nat) (n : Int) (f u v : F) (m : Int) (g : F), k < p.length → vType r n f = some u → partF u p = some v → ∃ x y, partV n f (p.take k ++ [1 - p.getD k 0]) = some (x, y) ∧ partV (putV p n f m g).1 (putV p n f m g).2 (p.take k ++ [1 - p.getD k 0]) = some (x, y)
  | [], k, r, n, f, u, v, m, g, hk, _, _ => by simp at hk
  | i :: q, k, 0, n, f, u, v, m, g, _, h, _ => by simp [vType] at h
  | i :: q, 0, r + 1, n, f, u, v, m, g, hk, h, hv => by
    obtain ⟨hi, hv'⟩ := partF_cons hv
    rcases vType_form h with ⟨_, rfl⟩ | ⟨h2, hn, a, b, rfl, ha, hb⟩
    · simp [len] at hi; omega
    · rcases i01 hi with rfl | rfl
      · refine ⟨num f 1, kid f 1, ?_, ?_⟩
        · simp [partV, h2]
        · simp [partV, putV, len_two, num_two1, kid_two1]
      · refine ⟨num f 0, kid f 0, ?_, ?_⟩
        · simp [partV, h2]
        · simp [partV, putV, len_two, num_two0, kid_two0]
  | i :: q, k + 1, r + 1, n, f, u, v, m, g, hk, h, hv => by
    obtain ⟨hi, hv'⟩ := partF_cons hv
    have hk' : k < q.length := by simpa using hk
    rcases vType_form h with ⟨_, rfl⟩ | ⟨h2, hn, a, b, rfl, ha, hb⟩
    · simp [len] at hi; omega
    · rcases i01 hi with rfl | rfl
      · obtain ⟨x, y, h3, h4⟩ := partV_other q k r _ _ a v m g hk' ha hv'
        refine ⟨x, y, ?_, ?_⟩
        · simp only [List.take_succ_cons, List.cons_append, List.getD_cons_succ, partV, h2]
          exact h3
        · simp only [List.take_succ_cons, List.cons_append, List.getD_cons_succ, partV, putV, if_true, len_two]
          exact h4
      · obtain ⟨x, y, h3, h4⟩ := partV_other q k r _ _ b v m g hk' hb hv'
        refine ⟨x, y, ?_, ?_⟩
        · simp only [List.take_succ_cons, List.cons_append, List.getD_cons_succ, partV, h2]
          exact h3
        · simp only [List.take_succ_cons, List.cons_append, List.getD_cons_succ, partV, putV, if_neg (show ¬ (1 : Int) = 0 by omega), len_two]
          exact h4

/-- A part that does not meet it is as it was. -/
theorem put_other {n : Int} {f : F} {p : List Int} {m : Int} {g : F} (h : putOk n f p m g = true) (k : Nat) (hk : k < p.length) : ∃ x y, valAtR n f (p.take k ++ [1 - p.getD k 0]) = ((x, y), true) ∧ valAtR (putV p n f m g).1 (putV p n f m g).2 (p.take k ++ [1 - p.getD k 0]) = ((x, y), true) ∧ len y ≤ 1000000000 ∧ Sm y := by
  obtain ⟨u, v, hu, hv, hg⟩ := put_ok h
  obtain ⟨x, y, h1, h2⟩ := partV_other p k 4 n f u v m g hk hu hv
  have hs := valAt_sm n f (p.take k ++ [1 - p.getD k 0])
  rw [valAt_of hu h1] at hs
  exact ⟨x, y, valAt_of hu h1, valAt_of (putV_type p 4 n f u v m g hu hv hg) h2, hs.1, hs.2.1⟩

end Go.Proofs.Ytomnekiiccbioaa
