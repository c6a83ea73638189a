/- What terms say, without the program; values that are made of others, by the program. Walks: the shape of a value, by the specification. Walks: values drawn. Walks: values drawn, some spoilt. -/
import Derived.Test.YtldbmlojgakieaaGreatDoorGV3
import Derived.Test.YtldbmlojgakieaaGreatDoorGV8
import Derived.Test.YtldbmlojgakieaaGreatDoorGTM3
namespace Go.Proofs.YtldbmlojgakieaaGreatDoor

open Go.RowKit Go.Deep Go.Maps Go.WideMaps

attribute [local go_sem ↓] Go.wp_at_zero Go.wp_at_succ

/-- A value that is of some type, or none. -/
def okV (n : Int) (f : F) : Option (Int × F) := if (vType 4 n f).isSome = true then some (n, f) else none
def v0 (o : Option (Int × F)) : Int × F := o.getD (0, .nil)

/-- What two numbers make. -/
def numV (k : Int) (n : Int) (f : F) (m : Int) (g : F) : Option (Int × F) :=
  if len f = 0 ∧ len g = 0 then (if k = 3 then okV (n + m) .nil else if k = 4 then okV (n - m) .nil else some (if n < m then 1 else 0, .nil)) else none

theorem numV_kids {k n : Int} {f : F} {m : Int} {g : F} (h : ¬ (len f = 0 ∧ len g = 0)) : numV k n f m g = none := by unfold numV; rw [if_neg h]
theorem numV_nums {k n : Int} {f : F} {m : Int} {g : F} (hf : len f = 0) (hg : len g = 0) : numV k n f m g = (if k = 3 then okV (n + m) .nil else if k = 4 then okV (n - m) .nil else some (if n < m then 1 else 0, .nil)) := by unfold numV; rw [if_pos ⟨hf, hg⟩]

theorem VS_ex {w w' : World} {S : Nat → Prop} {f : F} {a : Option Addr} (h : VS w S f a) (hx : Ex w w') : VS w' S f a := VS_ks h fun b _ hlt => hx.block b hlt

/-- A value, or the fault that something fails. What is told lies in blocks of S, or in new ones. -/
def ValP (eb : Addr) (S : Nat → Prop) (R : Option (Int × F)) (w : World) (e : Ending) (w' : World) : Prop :=
  ∃ a' c', e = .returned (.tuple #[.agg #[.int .i64 (v0 R).1, .slice a' (len (v0 R).2) c'], errV eb R.isSome]) ∧ VS w' (fun b => S b ∨ w.heap.size ≤ b) (v0 R).2 a' ∧ Ex w w'

set_option maxRecDepth 100000 in
set_option maxHeartbeats 2000000 in
theorem isNumber_any (n : Int) (f : F) (a : Option Addr) (c : Nat) (z : Bool) (hz : (((len f : Nat) : Int) == 0) = z) (w : World) :
    Calls Tryz.prog 131 #[.agg #[.int .i64 n, .slice a (len f) c]] w fun e w' => e = .returned (.bool z) ∧ Ex w w' := by
  go_enter Tryz.func131, Tryz.ntmps131
  go_wp2_with fail
  go_ret
  exact ⟨rfl, Ex.new _ _⟩

set_option maxRecDepth 100000 in
set_option maxHeartbeats 2000000 in
theorem oneIf_any (b : Bool) (w : World) :
    Calls Tryz.prog 147 #[.bool b] w fun e w' => e = .returned (.agg #[.int .i64 (if b then 1 else 0), .slice none 0 0]) ∧ Ex w w' := by
  cases b with
  | true =>
    go_enter Tryz.func147, Tryz.ntmps147
    go_wp2_with fail
    refine bodyPost_ret (v := .agg #[.int .i64 1, .slice none 0 0]) (by simp [results, Tryz.results147, go_sem]) rfl ⟨rfl, ?_⟩
    exact Ex.new _ _
  | false =>
    go_enter Tryz.func147, Tryz.ntmps147
    go_wp2_with fail
    refine bodyPost_ret (v := .agg #[.int .i64 0, .slice none 0 0]) (by simp [results, Tryz.results147, go_sem]) rfl ⟨rfl, ?_⟩
    exact Ex.new _ _

set_option maxRecDepth 100000 in
set_option maxHeartbeats 2000000 in
theorem thereOrFails_any (eb : Addr) (S : Nat → Prop) (n : Int) (f : F) (a : Option Addr) (c : Nat) (ok : Bool) (w : World) (hG : w.cell? ⟨1, 0, none⟩ = some (EV eb)) (hV : VS w S f a) :
    Calls Tryz.prog 133 #[.agg #[.int .i64 n, .slice a (len f) c], .bool ok] w (ValP eb S (if ok then some (n, f) else none) w) := by
  have V : Hid (∀ w', Ex w w' → VS w' (fun b => S b ∨ w.heap.size ≤ b) f a) := fun _ h => VS_mono (VS_ex hV h) fun _ _ hs => Or.inl hs
  have hlt : 1 < w.heap.size := World.block_lt_of_cell? _ _ hG
  clear hV
  cases ok with
  | true =>
    go_enter Tryz.func133, Tryz.ntmps133
    go_wp2_with fail
    refine bodyPost_ret (v := .tuple #[.agg #[.int .i64 n, .slice a (len f) c], .nilIface]) (by simp [results, Tryz.results133, go_sem]) rfl ⟨a, c, rfl, V.out _ ?_, ?_⟩ <;> exact (Ex.new _ _).alloc _
  | false =>
    have hG2 : ((w.alloc (.cells #[.int .i64 n, .slice a (len f) c] 55)).alloc (.cells #[.int .i64 0, .slice none 0 0] 55)).cell? ⟨1, 0, none⟩ = some (EV eb) := ((Ex.new _ _).alloc _).at hG
    go_enter Tryz.func133, Tryz.ntmps133
    go_wp2_with fail
    go_region
    all_goals
      go_wp2_with fail
      refine bodyPost_ret (v := .tuple #[.agg #[.int .i64 0, .slice none 0 0], EV eb]) (by simp [results, Tryz.results133, go_sem]) rfl ⟨none, 0, rfl, Or.inl rfl, ?_⟩
      exact ((Ex.new _ _).alloc _).drew

set_option maxRecDepth 100000 in
set_option maxHeartbeats 2000000 in
theorem okOrFails_any (eb : Addr) (S : Nat → Prop) (n : Int) (f : F) (a : Option Addr) (c : Nat) (w : World) (hG : w.cell? ⟨1, 0, none⟩ = some (EV eb)) (hV : VS w S f a) :
    Calls Tryz.prog 132 #[.agg #[.int .i64 n, .slice a (len f) c]] w (ValP eb S (okV n f) w) := by
  have V : Hid (∀ w', Ex w w' → VS w' (fun b => S b ∧ b < w.heap.size) f a) := fun _ h => VS_ex (VS_mono hV fun _ hl hs => ⟨hs, hl⟩) h
  have G : Hid (∀ w', Ex w w' → w'.cell? ⟨1, 0, none⟩ = some (EV eb)) := fun w' h => h.at hG
  have TY : Hid (∀ w', Ex w w' → Calls Tryz.prog 57 #[.agg #[.int .i64 n, .slice a (len f) c]] w' fun e w'' => ∃ a' c', e = .returned (.tuple #[.agg #[.slice a' (len ((vType 4 n f).getD .nil)) c'], .bool (vType 4 n f).isSome]) ∧ TA w'' w'.heap.size ((vType 4 n f).getD .nil) a' ∧ Ex w' w'') := fun w' h => valType_any n f a c 0 w' (VS_mono (VS_ex hV h) fun _ _ _ => Nat.zero_le _)
  obtain ⟨z, hz⟩ : ∃ z, (vType 4 n f).isSome = z := ⟨_, rfl⟩
  obtain ⟨t, ht⟩ : ∃ t, (vType 4 n f).getD .nil = t := ⟨_, rfl⟩
  have E : Hid (okV n f = if z then some (n, f) else none) := by subst hz; rfl
  obtain ⟨R, hR⟩ : ∃ R, okV n f = R := ⟨_, rfl⟩
  rw [hR] at E ⊢
  rw [hz, ht] at TY
  clear hV hG hz ht hR
  go_enter Tryz.func132, Tryz.ntmps132
  go_wp2_with fail
  refine (TY.out _ ((Ex.new _ _).alloc _)).mono ?_
  rintro e w1 ⟨a1, c1, rfl, _, hb1⟩
  have X1 : Hid (Ex w w1) := ((Ex.new _ _).alloc _).trans hb1
  have q0 : w1.cell? ⟨w.heap.size, 0, none⟩ = some (.int .i64 n) := hb1.at (by simp)
  have q1 : w1.cell? ⟨w.heap.size, 1, none⟩ = some (.slice a (len f) c) := hb1.at (by simp)
  have hr : w1.heap[w.heap.size + 1]? = some (.cells #[.int .i64 0, .slice none 0 0] 55 (0, 0)) := hb1.blk (heap_alloc_at _ _ (by simp))
  have r0 := two_cell0 hr
  have r1 := two_cell1 hr
  have r2 := two_free (i := 0) hr
  have r3 := two_free (i := 1) hr
  have z1 : w.heap.size + 1 < w1.heap.size := lt_of_block hr
  have z0 : w.heap.size < w1.heap.size := by omega
  clear hb1 TY
  go_wp2_with fail
  refine (thereOrFails_any eb (fun b => S b ∧ b < w.heap.size) n f a c z _ (G.out _ (X1.out.alloc _)) (V.out _ (X1.out.alloc _))).mono ?_
  rintro e w2 ⟨a2, c2, rfl, hV2, hb2⟩
  rw [← E.out] at hV2 ⊢
  have V2 : Hid _ := hV2
  have X2 : Hid (Ex w w2) := (X1.out.alloc _).trans hb2
  have hr2 := hb2.blk ((Ex.new _ _).blk hr)
  have r0 := two_cell0 hr2
  have r1 := two_cell1 hr2
  have r2 := two_free (i := 0) hr2
  have r3 := two_free (i := 1) hr2
  clear hV2 hb2
  go_wp2_with fail
  have hb3 := two_set (u' := .int .i64 (v0 R).1) (v' := .slice a2 (len (v0 R).2) c2) hr2
  have s0 := two_cell0 hb3
  have s1 := two_cell1 hb3
  refine bodyPost_ret (v := .tuple #[.agg #[.int .i64 (v0 R).1, .slice a2 (len (v0 R).2) c2], errV eb R.isSome]) (by simp [results, Tryz.results132, go_sem, s0, s1]) rfl ⟨a2, c2, rfl, ?_, ?_⟩
  · refine VS_mono (VS_ks V2.out fun b hb _ => ?_) (S' := fun b => S b ∨ w.heap.size ≤ b) fun b _ hb => ?_
    · have hne : b ≠ w.heap.size + 1 := by
        have := X1.out.size
        rcases hb with hb | hb
        · omega
        · rw [World.size_alloc] at hb; omega
      rw [Below.heap_setCell _ _ _ _ hne, Below.heap_setCell _ _ _ _ hne]
    · have := X1.out.size
      rcases hb with hb | hb
      · exact Or.inl hb.1
      · right; rw [World.size_alloc] at hb; omega
  · exact (X2.out.set (by exact Nat.le_succ _) _).set (by exact Nat.le_succ _) _

theorem numV_add {n : Int} {f : F} {m : Int} {g : F} (hf : len f = 0) (hg : len g = 0) : numV 3 n f m g = okV (n + m) .nil := by rw [numV_nums hf hg]; rfl
theorem numV_sub {n : Int} {f : F} {m : Int} {g : F} (hf : len f = 0) (hg : len g = 0) : numV 4 n f m g = okV (n - m) .nil := by rw [numV_nums hf hg]; rfl
theorem numV_less {k n : Int} {f : F} {m : Int} {g : F} (h3 : ¬ k = 3) (h4 : ¬ k = 4) (hf : len f = 0) (hg : len g = 0) : numV k n f m g = some (if n < m then 1 else 0, .nil) := by rw [numV_nums hf hg, if_neg h3, if_neg h4]
theorem ret_okV {eb : Addr} {S : Nat → Prop} {R : Option (Int × F)} {w w1 w2 : World} {p q : Addr} {u v : Value} {e : Ending} {a2 : Option Addr} {c2 : Nat} (hX : Ex w w1) (h2 : Ex w1 w2) (hV : VS w2 (fun b => False ∨ w1.heap.size ≤ b) (v0 R).2 a2) (hp : w.heap.size ≤ p.block) (hp1 : p.block < w1.heap.size) (hq : q.block = p.block) (he : e = .returned (.tuple #[.agg #[.int .i64 (v0 R).1, .slice a2 (len (v0 R).2) c2], errV eb R.isSome])) : ValP eb S R w e ((w2.setCell p u).setCell q v) := by
  refine ⟨a2, c2, he, VS_mono (VS_ks hV fun b hb _ => ?_) fun b _ hb => ?_, (((hX.trans h2).set hp _).set (by rw [hq]; exact hp) _)⟩
  · have hb' : w1.heap.size ≤ b := by rcases hb with h | h; exact h.elim; exact h
    rw [Below.heap_setCell _ _ _ _ (by omega), Below.heap_setCell _ _ _ _ (by omega)]
  · rcases hb with h | h
    · exact h.elim
    · have := hX.size
      right; omega

set_option maxRecDepth 100000 in
set_option maxHeartbeats 4000000 in
theorem ofNumbers_any (eb : Addr) (S : Nat → Prop) (k n : Int) (f : F) (a : Option Addr) (c : Nat) (m : Int) (g : F) (a' : Option Addr) (c' : Nat) (w : World) (hG : w.cell? ⟨1, 0, none⟩ = some (EV eb)) (hn : 0 ≤ n ∧ n ≤ 9999) (hm : 0 ≤ m ∧ m ≤ 9999) :
    Calls Tryz.prog 136 #[.int .i64 k, .agg #[.int .i64 n, .slice a (len f) c], .agg #[.int .i64 m, .slice a' (len g) c']] w (ValP eb S (numV k n f m g) w) := by
  have G : Hid (∀ w', Ex w w' → w'.cell? ⟨1, 0, none⟩ = some (EV eb)) := fun w' h => h.at hG
  have N : Hid (Ex w (((w.alloc (.cells #[.int .i64 n, .slice a (len f) c] 55)).alloc (.cells #[.int .i64 m, .slice a' (len g) c'] 55)).alloc (.cells #[.int .i64 0, .slice none 0 0] 55))) := ((Ex.new _ _).alloc _).alloc _
  have C : Hid (∀ w', Ex (((w.alloc (.cells #[.int .i64 n, .slice a (len f) c] 55)).alloc (.cells #[.int .i64 m, .slice a' (len g) c'] 55)).alloc (.cells #[.int .i64 0, .slice none 0 0] 55)) w' → w'.cell? ⟨w.heap.size, 0, none⟩ = some (.int .i64 n) ∧ w'.cell? ⟨w.heap.size, 1, none⟩ = some (.slice a (len f) c) ∧ w'.cell? ⟨w.heap.size + 1, 0, none⟩ = some (.int .i64 m) ∧ w'.cell? ⟨w.heap.size + 1, 1, none⟩ = some (.slice a' (len g) c') ∧ w'.heap[w.heap.size + 2]? = some (.cells #[.int .i64 0, .slice none 0 0] 55 (0, 0))) := fun w' h => ⟨h.at (((Ex.new _ _).alloc _).at (by simp)), h.at (((Ex.new _ _).alloc _).at (by simp)), h.at ((Ex.new _ _).at (by simp)), h.at ((Ex.new _ _).at (by simp)), h.blk (heap_alloc_at _ _ (by simp))⟩
  obtain ⟨z1, h1⟩ : ∃ z, (((len f : Nat) : Int) == 0) = z := ⟨_, rfl⟩
  obtain ⟨z2, h2⟩ : ∃ z, (((len g : Nat) : Int) == 0) = z := ⟨_, rfl⟩
  have F1 : Hid (z1 = true → len f = 0) := fun h => by rw [h] at h1; have := beq_iff_eq.1 h1; omega
  have F2 : Hid (z2 = true → len g = 0) := fun h => by rw [h] at h2; have := beq_iff_eq.1 h2; omega
  have F3 : Hid (z1 = false → ¬ len f = 0) := fun h h0 => by rw [h, h0] at h1; simp at h1
  have F4 : Hid (z2 = false → ¬ len g = 0) := fun h h0 => by rw [h, h0] at h2; simp at h2
  have I1 : Hid (∀ w', Calls Tryz.prog 131 #[.agg #[.int .i64 n, .slice a (len f) c]] w' fun e w'' => e = .returned (.bool z1) ∧ Ex w' w'') := fun w' => isNumber_any n f a c z1 h1 w'
  have I2 : Hid (∀ w', Calls Tryz.prog 131 #[.agg #[.int .i64 m, .slice a' (len g) c']] w' fun e w'' => e = .returned (.bool z2) ∧ Ex w' w'') := fun w' => isNumber_any m g a' c' z2 h2 w'
  have HN : Hid (0 ≤ n ∧ n ≤ 9999) := hn
  have HM : Hid (0 ≤ m ∧ m ≤ 9999) := hm
  clear h1 h2 hG hn hm
  cases z1 with
  | false =>
    have E : Hid (numV k n f m g = none) := numV_kids fun h => F3.out rfl h.1
    rw [E.out]
    clear E F1 F2 F3 F4 I2
    go_enter Tryz.func136, Tryz.ntmps136
    go_wp2_with fail
    refine Calls.mono (I1.out _) ?_
    rintro e w1 ⟨rfl, hb1⟩
    obtain ⟨c0, c1, c2, c3, hr⟩ := C.out w1 hb1
    have r0 := two_cell0 hr
    have r1 := two_cell1 hr
    have r2 := two_free (i := 0) hr
    have r3 := two_free (i := 1) hr
    have g1 := G.out w1 (N.out.trans hb1)
    have X1 : Hid (Ex w w1) := N.out.trans hb1
    clear hb1 I1
    have hge : w.heap.size ≤ w.heap.size + 2 := by omega
    go_wp2_with fail
    go_region
    all_goals
      go_wp2_with fail
      have hb3 := two_set (u' := .int .i64 0) (v' := .slice none 0 0) hr
      have s0 := two_cell0 hb3
      have s1 := two_cell1 hb3
      refine bodyPost_ret (v := .tuple #[.agg #[.int .i64 0, .slice none 0 0], EV eb]) (by simp [results, Tryz.results136, go_sem, s0, s1]) rfl ⟨none, 0, rfl, Or.inl rfl, ?_⟩
      first | exact ((X1.out.drew.set (by exact hge) _).set (by exact hge) _) | exact ((X1.out.set (by exact hge) _).set (by exact hge) _).drew | exact (X1.out.set (by exact hge) _).set (by exact hge) _
  | true =>
    have Lf : Hid (len f = 0) := F1.out rfl
    clear F1 F3
    cases z2 with
    | false =>
      have E : Hid (numV k n f m g = none) := numV_kids fun h => F4.out rfl h.2
      rw [E.out]
      clear E F2 F4 Lf
      go_enter Tryz.func136, Tryz.ntmps136
      go_wp2_with fail
      refine Calls.mono (I1.out _) ?_
      rintro e w1 ⟨rfl, hb1⟩
      have Y1 : Hid (Ex (((w.alloc (.cells #[.int .i64 n, .slice a (len f) c] 55)).alloc (.cells #[.int .i64 m, .slice a' (len g) c'] 55)).alloc (.cells #[.int .i64 0, .slice none 0 0] 55)) w1) := hb1
      obtain ⟨c0, c1, c2, c3, hr⟩ := C.out w1 hb1
      have r0 := two_cell0 hr
      have r1 := two_cell1 hr
      have r2 := two_free (i := 0) hr
      have r3 := two_free (i := 1) hr
      have X1 : Hid (Ex w w1) := N.out.trans hb1
      clear hb1 I1
      go_wp2_with fail
      refine Calls.mono (I2.out _) ?_
      rintro e w2 ⟨rfl, hb2⟩
      have Y2 : Ex (((w.alloc (.cells #[.int .i64 n, .slice a (len f) c] 55)).alloc (.cells #[.int .i64 m, .slice a' (len g) c'] 55)).alloc (.cells #[.int .i64 0, .slice none 0 0] 55)) w2 := Y1.out.trans hb2
      clear c0 c1 c2 c3 hr r0 r1 r2 r3
      obtain ⟨c0, c1, c2, c3, hr⟩ := C.out w2 Y2
      have r0 := two_cell0 hr
      have r1 := two_cell1 hr
      have r2 := two_free (i := 0) hr
      have r3 := two_free (i := 1) hr
      have X2 : Hid (Ex w w2) := N.out.trans Y2
      have g1 := G.out w2 X2.out
      have hge : w.heap.size ≤ w.heap.size + 2 := by omega
      clear hb2 Y2 I2
      go_wp2_with fail
      go_region
      all_goals
        go_wp2_with fail
        have hb3 := two_set (u' := .int .i64 0) (v' := .slice none 0 0) hr
        have s0 := two_cell0 hb3
        have s1 := two_cell1 hb3
        refine bodyPost_ret (v := .tuple #[.agg #[.int .i64 0, .slice none 0 0], EV eb]) (by simp [results, Tryz.results136, go_sem, s0, s1]) rfl ⟨none, 0, rfl, Or.inl rfl, ?_⟩
        first | exact ((X2.out.drew.set (by exact hge) _).set (by exact hge) _) | exact ((X2.out.set (by exact hge) _).set (by exact hge) _).drew | exact (X2.out.set (by exact hge) _).set (by exact hge) _
    | true =>
      have Lg : Hid (len g = 0) := F2.out rfl
      have hn0 := HN.out.1
      have hn1 := HN.out.2
      have hm0 := HM.out.1
      have hm1 := HM.out.2
      clear F2 F4
      by_cases k3 : k = 3
      · subst k3
        have E : Hid (numV 3 n f m g = okV (n + m) .nil) := numV_add Lf.out Lg.out
        rw [E.out]
        clear E Lf Lg
        have OK : Hid (∀ w', Ex w w' → Calls Tryz.prog 132 #[.agg #[.int .i64 (n + m), .slice none 0 0]] w' (ValP eb (fun _ => False) (okV (n + m) .nil) w')) := fun w' h => okOrFails_any eb (fun _ => False) (n + m) .nil none 0 w' (G.out w' h) (Or.inl rfl)
        generalize okV (n + m) .nil = R at *
        go_enter Tryz.func136, Tryz.ntmps136
        go_wp2_with fail
        refine Calls.mono (I1.out _) ?_
        rintro e w1 ⟨rfl, hb1⟩
        have Y1 : Hid (Ex (((w.alloc (.cells #[.int .i64 n, .slice a (len f) c] 55)).alloc (.cells #[.int .i64 m, .slice a' (len g) c'] 55)).alloc (.cells #[.int .i64 0, .slice none 0 0] 55)) w1) := hb1
        obtain ⟨c0, c1, c2, c3, hr⟩ := C.out w1 hb1
        have r0 := two_cell0 hr
        have r1 := two_cell1 hr
        have r2 := two_free (i := 0) hr
        have r3 := two_free (i := 1) hr
        have X1 : Hid (Ex w w1) := N.out.trans hb1
        clear hb1 I1
        go_wp2_with fail
        refine Calls.mono (I2.out _) ?_
        rintro e w2 ⟨rfl, hb2⟩
        have Y2 : Ex (((w.alloc (.cells #[.int .i64 n, .slice a (len f) c] 55)).alloc (.cells #[.int .i64 m, .slice a' (len g) c'] 55)).alloc (.cells #[.int .i64 0, .slice none 0 0] 55)) w2 := Y1.out.trans hb2
        clear c0 c1 c2 c3 hr r0 r1 r2 r3
        obtain ⟨c0, c1, c2, c3, hr⟩ := C.out w2 Y2
        have r0 := two_cell0 hr
        have r1 := two_cell1 hr
        have r2 := two_free (i := 0) hr
        have r3 := two_free (i := 1) hr
        have X2 : Hid (Ex w w2) := N.out.trans Y2
        clear hb2 Y2 I2
        go_wp2_with fail
        refine Calls.mono (OK.out _ X2.out) ?_
        rintro e w3 ⟨a3, c3', rfl, hV3, hb3⟩
        have V3 : Hid _ := hV3
        have B3 : Hid (Ex w2 w3) := hb3
        have HR : Hid _ := hr
        have hr3 := hb3.blk hr
        clear c0 c1 c2 c3 hr r0 r1 r2 r3
        have r0 := two_cell0 hr3
        have r1 := two_cell1 hr3
        have r2 := two_free (i := 0) hr3
        have r3 := two_free (i := 1) hr3
        clear hb3 hV3
        go_wp2_with fail
        have hb4 := two_set (u' := .int .i64 (v0 R).1) (v' := .slice a3 (len (v0 R).2) c3') hr3
        have s0 := two_cell0 hb4
        have s1 := two_cell1 hb4
        refine bodyPost_ret (v := .tuple #[.agg #[.int .i64 (v0 R).1, .slice a3 (len (v0 R).2) c3'], errV eb R.isSome]) (by simp [results, Tryz.results136, go_sem, s0, s1]) rfl ?_
        exact ret_okV X2.out B3.out V3.out (by show w.heap.size ≤ w.heap.size + 2; omega) (lt_of_block HR.out) rfl rfl
      · by_cases k4 : k = 4
        · subst k4
          have E : Hid (numV 4 n f m g = okV (n - m) .nil) := numV_sub Lf.out Lg.out
          rw [E.out]
          clear E Lf Lg
          have OK : Hid (∀ w', Ex w w' → Calls Tryz.prog 132 #[.agg #[.int .i64 (n - m), .slice none 0 0]] w' (ValP eb (fun _ => False) (okV (n - m) .nil) w')) := fun w' h => okOrFails_any eb (fun _ => False) (n - m) .nil none 0 w' (G.out w' h) (Or.inl rfl)
          generalize okV (n - m) .nil = R at *
          go_enter Tryz.func136, Tryz.ntmps136
          go_wp2_with fail
          refine Calls.mono (I1.out _) ?_
          rintro e w1 ⟨rfl, hb1⟩
          have Y1 : Hid (Ex (((w.alloc (.cells #[.int .i64 n, .slice a (len f) c] 55)).alloc (.cells #[.int .i64 m, .slice a' (len g) c'] 55)).alloc (.cells #[.int .i64 0, .slice none 0 0] 55)) w1) := hb1
          obtain ⟨c0, c1, c2, c3, hr⟩ := C.out w1 hb1
          have r0 := two_cell0 hr
          have r1 := two_cell1 hr
          have r2 := two_free (i := 0) hr
          have r3 := two_free (i := 1) hr
          have X1 : Hid (Ex w w1) := N.out.trans hb1
          clear hb1 I1
          go_wp2_with fail
          refine Calls.mono (I2.out _) ?_
          rintro e w2 ⟨rfl, hb2⟩
          have Y2 : Ex (((w.alloc (.cells #[.int .i64 n, .slice a (len f) c] 55)).alloc (.cells #[.int .i64 m, .slice a' (len g) c'] 55)).alloc (.cells #[.int .i64 0, .slice none 0 0] 55)) w2 := Y1.out.trans hb2
          clear c0 c1 c2 c3 hr r0 r1 r2 r3
          obtain ⟨c0, c1, c2, c3, hr⟩ := C.out w2 Y2
          have r0 := two_cell0 hr
          have r1 := two_cell1 hr
          have r2 := two_free (i := 0) hr
          have r3 := two_free (i := 1) hr
          have X2 : Hid (Ex w w2) := N.out.trans Y2
          clear hb2 Y2 I2
          go_wp2_with fail
          refine Calls.mono (OK.out _ X2.out) ?_
          rintro e w3 ⟨a3, c3', rfl, hV3, hb3⟩
          have V3 : Hid _ := hV3
          have B3 : Hid (Ex w2 w3) := hb3
          have HR : Hid _ := hr
          have hr3 := hb3.blk hr
          clear c0 c1 c2 c3 hr r0 r1 r2 r3
          have r0 := two_cell0 hr3
          have r1 := two_cell1 hr3
          have r2 := two_free (i := 0) hr3
          have r3 := two_free (i := 1) hr3
          clear hb3 hV3
          go_wp2_with fail
          have hb4 := two_set (u' := .int .i64 (v0 R).1) (v' := .slice a3 (len (v0 R).2) c3') hr3
          have s0 := two_cell0 hb4
          have s1 := two_cell1 hb4
          refine bodyPost_ret (v := .tuple #[.agg #[.int .i64 (v0 R).1, .slice a3 (len (v0 R).2) c3'], errV eb R.isSome]) (by simp [results, Tryz.results136, go_sem, s0, s1]) rfl ?_
          exact ret_okV X2.out B3.out V3.out (by show w.heap.size ≤ w.heap.size + 2; omega) (lt_of_block HR.out) rfl rfl
        · have E : Hid (numV k n f m g = some (if n < m then 1 else 0, .nil)) := numV_less k3 k4 Lf.out Lg.out
          rw [E.out]
          clear E Lf Lg
          obtain ⟨bb, hbb⟩ : ∃ b : Bool, decide (n < m) = b := ⟨_, rfl⟩
          have EE : (if n < m then 1 else 0 : Int) = if bb then 1 else 0 := by subst hbb; by_cases h : n < m <;> simp [h]
          rw [EE]
          clear EE
          have q3 : (k == 3) = false := by rw [beq_eq_false_iff_ne]; exact k3
          have q4 : (k == 4) = false := by rw [beq_eq_false_iff_ne]; exact k4
          have ON : Hid (∀ w', Calls Tryz.prog 147 #[.bool bb] w' fun e w'' => e = .returned (.agg #[.int .i64 (if bb then 1 else 0), .slice none 0 0]) ∧ Ex w' w'') := fun w' => oneIf_any bb w'
          generalize (if bb then 1 else 0 : Int) = r at *
          go_enter Tryz.func136, Tryz.ntmps136
          go_wp2_with fail
          refine Calls.mono (I1.out _) ?_
          rintro e w1 ⟨rfl, hb1⟩
          have Y1 : Hid (Ex (((w.alloc (.cells #[.int .i64 n, .slice a (len f) c] 55)).alloc (.cells #[.int .i64 m, .slice a' (len g) c'] 55)).alloc (.cells #[.int .i64 0, .slice none 0 0] 55)) w1) := hb1
          obtain ⟨c0, c1, c2, c3, hr⟩ := C.out w1 hb1
          have r0 := two_cell0 hr
          have r1 := two_cell1 hr
          have r2 := two_free (i := 0) hr
          have r3 := two_free (i := 1) hr
          have X1 : Hid (Ex w w1) := N.out.trans hb1
          clear hb1 I1
          go_wp2_with fail
          refine Calls.mono (I2.out _) ?_
          rintro e w2 ⟨rfl, hb2⟩
          have Y2 : Ex (((w.alloc (.cells #[.int .i64 n, .slice a (len f) c] 55)).alloc (.cells #[.int .i64 m, .slice a' (len g) c'] 55)).alloc (.cells #[.int .i64 0, .slice none 0 0] 55)) w2 := Y1.out.trans hb2
          clear c0 c1 c2 c3 hr r0 r1 r2 r3
          obtain ⟨c0, c1, c2, c3, hr⟩ := C.out w2 Y2
          have r0 := two_cell0 hr
          have r1 := two_cell1 hr
          have r2 := two_free (i := 0) hr
          have r3 := two_free (i := 1) hr
          have X2 : Hid (Ex w w2) := N.out.trans Y2
          clear hb2 Y2 I2
          go_wp2_with fail
          refine Calls.mono (ON.out _) ?_
          rintro e w3 ⟨rfl, hb3⟩
          have B3 : Hid (Ex w2 w3) := hb3
          have hr3 := hb3.blk hr
          clear c0 c1 c2 c3 hr r0 r1 r2 r3
          have r0 := two_cell0 hr3
          have r1 := two_cell1 hr3
          have r2 := two_free (i := 0) hr3
          have r3 := two_free (i := 1) hr3
          clear hb3
          go_wp2_with fail
          have hb4 := two_set (u' := .int .i64 r) (v' := .slice none 0 0) hr3
          have s0 := two_cell0 hb4
          have s1 := two_cell1 hb4
          refine bodyPost_ret (v := .tuple #[.agg #[.int .i64 r, .slice none 0 0], .nilIface]) (by simp [results, Tryz.results136, go_sem, s0, s1]) rfl ⟨none, 0, rfl, Or.inl rfl, ?_⟩
          have hge : w.heap.size ≤ w.heap.size + 2 := by omega
          exact (((X2.out.trans B3.out).set (by exact hge) _).set (by exact hge) _)

end Go.Proofs.YtldbmlojgakieaaGreatDoor

namespace Go.Proofs.YtldbmlojgakieaaGreatDoor

open Go.RowKit Go.Deep

attribute [local go_sem ↓] Go.wp_at_zero Go.wp_at_succ

/-- The shape of a value, at most so deep. -/
def sh : Nat → F → Option F
  | 0, _ => none
  | r + 1, f => if len f = 0 then some .nil else if len f = 2 then (sh r (kid f 0)).bind fun a => (sh r (kid f 1)).bind fun b => some (two 0 a 0 b) else none

theorem sh_nil {r : Nat} {f : F} (h : len f = 0) : sh (r + 1) f = some .nil := by simp [sh, h]
theorem sh_two {r : Nat} {f : F} (h : len f = 2) : sh (r + 1) f = (sh r (kid f 0)).bind fun a => (sh r (kid f 1)).bind fun b => some (two 0 a 0 b) := by simp [sh, h]
theorem sh_bad {r : Nat} {f : F} (h : len f ≠ 0) (h2 : len f ≠ 2) : sh r f = none := by cases r <;> simp [sh, h, h2]

theorem vType_sh : ∀ (r : Nat) (n : Int) (f u : F), vType r n f = some u → sh r f = some u
  | 0, n, f, u, h => by simp [vType] at h
  | r + 1, n, f, u, h => by
    by_cases h0 : len f = 0
    · rw [vType_num h0] at h
      split at h
      · rw [sh_nil h0]; exact h
      · cases h
    · by_cases hb : len f = 2 ∧ n = 0
      · rw [vType_two hb.1 hb.2] at h
        rw [sh_two hb.1]
        cases ha : vType r (num f 0) (kid f 0) with
        | none => rw [ha] at h; cases h
        | some a =>
          cases hc : vType r (num f 1) (kid f 1) with
          | none => rw [ha, hc] at h; cases h
          | some b => rw [ha, hc] at h; rw [vType_sh r _ _ _ ha, vType_sh r _ _ _ hc]; exact h
      · rw [vType_bad h0 hb] at h; cases h

/-- What is built so far. -/
def shT (r : Nat) (f : F) : F := two 0 ((sh r (kid f 0)).getD .nil) 0 ((sh r (kid f 1)).getD .nil)

theorem shT_kid (r : Nat) (f : F) (j : Nat) (hj : j < 2) : kid (shT r f) j = (sh r (kid f j)).getD .nil := by
  have : j = 0 ∨ j = 1 := by omega
  rcases this with rfl | rfl <;> rfl

theorem sh_all {r : Nat} {f : F} (h2 : len f = 2) (h : ∀ j, j < 2 → (sh r (kid f j)).isSome = true) : sh (r + 1) f = some (shT r f) := by
  have h0 := h 0 (by omega)
  have h1 := h 1 (by omega)
  rw [sh_two h2]
  unfold shT
  cases ha : sh r (kid f 0) with
  | none => rw [ha] at h0; cases h0
  | some a =>
    cases hb : sh r (kid f 1) with
    | none => rw [hb] at h1; cases h1
    | some b => rfl

theorem sh_some {r : Nat} {f : F} (h2 : len f = 2) {j : Nat} (hj : j < 2) (h : (sh r (kid f j)).isSome = false) : sh (r + 1) f = none := by
  rw [sh_two h2]
  have : j = 0 ∨ j = 1 := by omega
  rcases this with rfl | rfl
  · cases ha : sh r (kid f 0) with
    | none => rfl
    | some a => rw [ha] at h; cases h
  · cases hb : sh r (kid f 1) with
    | none => cases sh r (kid f 0) <;> rfl
    | some a => rw [hb] at h; cases h

/-- What l1Of tells. -/
def OfPost (r : Nat) (f : F) (w : World) (e : Ending) (w' : World) : Prop := ∃ a' m c', e = .returned (.tuple #[.agg #[.slice a' m c'], .bool (sh r f).isSome]) ∧ (∀ u, sh r f = some u → m = len u ∧ TA w' w.heap.size u a') ∧ Ex w w'
theorem OfPost.none {r : Nat} {f : F} {w w' : World} {a' : Option Addr} {m c' : Nat} (h : sh r f = Option.none) (hx : Ex w w') : OfPost r f w (.returned (.tuple #[.agg #[.slice a' m c'], .bool false])) w' := ⟨a', m, c', by rw [h]; rfl, fun u hu => (by rw [h] at hu; cases hu), hx⟩

set_option maxRecDepth 100000 in
set_option maxHeartbeats 4000000 in
theorem l1Of_any : ∀ (r : Nat) (d : Int) (n : Int) (f : F) (a : Option Addr) (c lo : Nat) (w : World), d = r → r ≤ 100 → VA w lo f a →
    Calls Tryz.prog 49 #[.agg #[.int .i64 n, .slice a (len f) c], .int .i64 d] w (OfPost r f w)
  | 0, d, n, f, a, c, lo, w, hd, hr, hT => by
    subst hd
    have V : Hid (sh 0 f = none) := rfl
    go_enter Tryz.func49, Tryz.ntmps49
    go_wp2_with fail
    exact bodyPost_ret (v := .tuple #[.agg #[.slice none 0 0], .bool false]) (by simp [results, Tryz.results49, go_sem]) rfl (OfPost.none V.out (((Ex.new _ _).alloc _).alloc _))
  | r + 1, d, n, f, a, c, lo, w, hd, hr, hT => by
    have T : Hid (VA w lo f a) := hT
    have I : Hid _ := l1Of_any r
    have D : Hid (d = (r + 1 : Nat)) := hd
    have hd1 : 1 ≤ d := by omega
    have hd2 : d ≤ 100 := by omega
    have e1 : decide (d < 1) = false := by simp; omega
    obtain ⟨i0, hi, hz0, hz1, hz2⟩ := info_parts Tryz.info97
    clear hT hd
    by_cases hl : len f = 0
    · have V : Hid (sh (r + 1) f = some .nil) := sh_nil hl
      go_enter Tryz.func49, Tryz.ntmps49
      go_wp2_with fail
      go_loopw [7] (fun i wr => i = .int .i64 0 ∧ Ex w wr ∧ wr.heap[w.heap.size]? = some (.cells #[.int .i64 n, .slice a 0 c] 55 (0, 0)) ∧ wr.heap[w.heap.size + 1]? = some (.cells #[.slice none 0 0] 97 (0, 0)) ∧ wr.heap[w.heap.size + 2]? = some (.cells #[.slice none 0 0] 97 (0, 0))) (fun i _ => 0)
      case atStart => exact ⟨rfl, ((Ex.new _ _).alloc _).alloc _, ((Ex.new _ _).alloc _).blk (heap_alloc_new _ _), (Ex.new _ _).blk (heap_alloc_at _ _ (by simp)), heap_alloc_at _ _ (by simp)⟩
      case round =>
        obtain ⟨rfl, hx, hbx, hrb, hob⟩ := hrel
        have c0 := two_cell1 hbx
        have c1 := cell_of_one hob
        have c2 := free_of_one hrb
        have c3 := cell_of_one hrb
        go_wp2_with fail
        have hres := World.cell?_setCell_same wr ⟨w.heap.size + 1, 0, none⟩ (.slice none 0 0) c3
        exact bodyPost_ret (v := .tuple #[.agg #[.slice none 0 0], .bool true]) (by simp [results, Tryz.results49, go_sem, hres]) rfl ⟨none, 0, 0, by rw [V.out]; rfl, fun u h => (by rw [V.out] at h; cases h; exact ⟨rfl, Or.inl rfl⟩), hx.set (Nat.le_succ _) _⟩
    · have e0 : ((len f : Int) != 0) = true := by simp; omega
      have n0 : ¬ (len f : Int) = 0 := by omega
      by_cases h2 : len f = 2
      · have e2 : ((len f : Int) != 2) = false := by simp [h2]
        have H2 : Hid (len f = 2) := h2
        have hb : len f ≤ 2 := by omega
        have A1 : Hid ((∀ j, j < 2 → (sh r (kid f j)).isSome = true) → sh (r + 1) f = some (shT r f)) := sh_all h2
        have A0 : Hid (∀ j, j < 2 → (sh r (kid f j)).isSome = false → sh (r + 1) f = none) := fun j hj h => sh_some h2 hj h
        clear h2 hl
        go_enter Tryz.func49, Tryz.ntmps49
        go_wp2_with fail
        go_loopw [7] (fun i wr => ∃ (k : Nat) (v : Value) (cs : List Value), k ≤ len f ∧ i = .int .i64 k ∧ Ex (w.alloc (.cells #[.int .i64 n, .slice a (len f) c] 55)) wr ∧ wr.heap[w.heap.size + 1]? = some (.cells #[.slice none 0 0] 97 (0, 0)) ∧ wr.heap[w.heap.size + 2]? = some (.cells #[v] 97 (0, 0)) ∧ wr.ownsRow (w.heap.size + 3) 97 1 v k cs ∧ (∀ j, j < k → ∃ a' c', cs[j]? = some (.slice a' (len (kid (shT r f) j)) c') ∧ SA wr (fun b => w.heap.size + 3 ≤ b ∧ v.ownBlock ≠ some b) (kid (shT r f) j) a') ∧ (∀ j, j < k → (sh r (kid f j)).isSome = true)) (fun i _ => len f - (intOf i).toNat)
        case atStart =>
          refine ⟨0, .slice none 0 0, [], Nat.zero_le _, rfl, (Ex.new _ _).alloc _, ?_, ?_, World.ownsRow_nil _ _ _ _, fun j hj => by omega, fun j hj => by omega⟩
          · exact (Ex.new _ _).blk (heap_alloc_at _ _ (by simp))
          · exact heap_alloc_at _ _ (by simp)
        case round =>
          obtain ⟨k, v, cs, hk, rfl, hx, hrb, hob, hown, hkids, hall⟩ := hrel
          have hbx : wr.cell? ⟨w.heap.size, 1, none⟩ = some (.slice a (len f) c) := Ex.at hx (by simp)
          have hw : Ex w wr := (Ex.new _ _).trans hx
          have O : Hid (wr.ownsRow (w.heap.size + 3) 97 1 v k cs) := hown
          have KI : Hid _ := hkids
          have AL : Hid (∀ j, j < k → (sh r (kid f j)).isSome = true) := hall
          have c1 := cell_of_one hob
          have c2 := free_of_one hob
          have c3 := cell_of_one hrb
          have c4 := free_of_one hrb
          clear hown hkids hall
          by_cases hlt : k < len f
          · obtain ⟨b, o, rfl, hlo, hbs, hkk⟩ := VA_at (VA_below T.out hw) (by omega)
            obtain ⟨hn1, a1, k1, hc1, ht1⟩ := hkk k hlt
            have V1 : Hid (VA wr lo (kid f k) a1) := ht1
            have z0 : w.heap.size + 2 < wr.heap.size := lt_of_block hob
            have KQ : Hid (kid (shT r f) k = (sh r (kid f k)).getD .nil) := shT_kid r f k (by omega)
            clear hkk ht1
            go_wp2_with fail
            refine (I.out (d - 1) (num f k) (kid f k) a1 k1 lo _ (by have := D.out; omega) (by omega) V1.out).mono ?_
            rintro e w1 ⟨a2, m2, k2, rfl, ht2, hb2⟩
            have hob1 := hb2.blk hob
            have hrb1 := hb2.blk hrb
            have q1 := cell_of_one hob1
            have q2 := free_of_one hob1
            have q3 := cell_of_one hrb1
            have q4 := free_of_one hrb1
            have q5 : w1.cell? ⟨w.heap.size, 1, none⟩ = some (.slice (some ⟨b, o, none⟩) (len f) c) := hb2.at hbx
            have z1 := hb2.size
            have z2 : w.heap.size + 2 < w1.heap.size := by omega
            have z3 : w.heap.size + 1 < w1.heap.size := by omega
            clear c1 c2 c3 c4
            cases hs : sh r (kid f k) with
            | none =>
              have V : Hid (sh (r + 1) f = none) := A0.out k (by omega) (by rw [hs]; rfl)
              simp only [Option.isSome_none]
              clear ht2
              obtain ⟨av, cv, hv⟩ : ∃ av cv, v = .slice av k cv := by
                obtain ⟨_, ⟨h1, h2⟩ | ⟨g, cap, _, h1, _⟩⟩ := O.out
                · exact ⟨none, 0, by rw [h1, h2]⟩
                · exact ⟨_, _, h1⟩
              subst hv
              go_wp2_with fail
              have hres := res_at q3 (.slice av k cv) (.cells #[.slice a2 m2 k2] 97)
              have hxf : Ex w ((w1.setCell ⟨w.heap.size + 1, 0, none⟩ (.slice av k cv)).alloc (.cells #[.slice a2 m2 k2] 97)) := ((hw.trans hb2).set (Nat.le_succ _) _).alloc _
              refine bodyPost_ret (v := .tuple #[.agg #[.slice av k cv], .bool false]) (by simp [results, Tryz.results49, go_sem, hres]) rfl ?_
              exact OfPost.none V.out hxf
            | some u =>
              have HS : Hid (sh r (kid f k) = some u) := hs
              obtain ⟨hm2, ht2'⟩ := ht2 u hs
              subst hm2
              have hku : kid (shT r f) k = u := by rw [KQ.out, hs]; rfl
              subst hku
              simp only [Option.isSome_some]
              obtain ⟨w1', hw1'⟩ : ∃ w1', w1' = w1.alloc (.cells #[.slice a2 (len (kid (shT r f) k)) k2] 97) := ⟨_, rfl⟩
              have hb2' : Ex wr w1' := hw1' ▸ (hb2.trans (Ex.new _ _))
              have O1 : Hid (w1'.ownsRow (w.heap.size + 3) 97 1 v k cs) := owns_ex O.out hb2'
              have TT : Hid (TA w1' wr.heap.size (kid (shT r f) k) a2) := hw1' ▸ TA_below ht2' (Ex.new _ _)
              have q1' : w1'.cell? ⟨w.heap.size + 2, 0, none⟩ = some v := hw1' ▸ (Ex.new _ _).at q1
              have hob1' := hb2'.blk hob
              have hrb1' := hb2'.blk hrb
              have z1' : w1'.heap.size = w1.heap.size + 1 := by rw [hw1', World.size_alloc]
              have cN : w1'.cell? ⟨w1.heap.size, 0, none⟩ = some (.slice a2 (len (kid (shT r f) k)) k2) := hw1' ▸ World.cell?_alloc_new _ _ _ _
              clear ht2 ht2' hs
              go_wp2_with (at_builtin; rw [← hw1']; refine wpList_append_lies _ rfl (.tmp 48) (.tmp 50) 95 rfl (w.heap.size + 3) 97 i0 (.agg #[.slice none 0 0]) 1 24 Tryz.underlying95 hi hz0 hz1 hz2 rfl (by decide) v k cs rfl (World.ownsRow.alloc O1.out _) ⟨w1'.heap.size, 0, none⟩ 1 1 [.slice a2 (len (kid (shT r f) k)) k2] ?hx rfl ?c1 ?c2 (by omega) (by unfold maxLen; omega) (by omega) (by rw [World.size_alloc]; omega) (w1'.heap.size + 1) (by simp) ?grow)
              case hx => rw [z1']; rfl
              case c1 => exact World.news_of_block (cs := #[.slice a2 (len (kid (shT r f) k)) k2]) (t := 97) (fr := (0, 0)) (heap_alloc_new w1' _)
              case c2 => intro u hu; simp at hu; subst hu; rfl
              case grow =>
                intro gg cap w2 hown2 hgrow hat hlt2
                rw [← hw1'] at hgrow
                rw [← z1'] at hat
                have KS := kids_step (out := w.heap.size + 2) (u := .slice (some ⟨gg, 0, none⟩) (k + 1) cap) (cap := cap) (k2 := k2) O.out hb2' hgrow hat (by omega) KI.out TT.out (by omega)
                have KS2 : Hid _ := KS
                have hob2 := grown_blk hgrow (owns_row O1.out) (by omega) hob1'
                have hrb2 := grown_blk hgrow (owns_row O1.out) (by omega) hrb1'
                have HX : Hid (Ex (w.alloc (.cells #[.int .i64 n, .slice (some ⟨b, o, none⟩) (len f) c] 55)) w2) := (hx.trans hb2').grown hgrow (owns_row O1.out) (by rw [World.size_alloc]; omega)
                have HO : Hid _ := hown2
                have p1 := cell_of_one hob2
                have p2 := free_of_one hob2
                clear KS hgrow hown2 q1 q2 q3 q4 q5
                go_wp2_with fail
                go_roundw
                case rel =>
                  refine ⟨k + 1, .slice (some ⟨gg, 0, none⟩) (k + 1) cap, cs ++ [.slice a2 (len (kid (shT r f) k)) k2], by omega, by go_num, HX.out.set ?_ _, ?_, one_setCell hob2, ownsRow_setCell_below HO.out ?_ _, KS2.out, fun j hj => ?_⟩
                  · rw [World.size_alloc]; show w.heap.size + 1 ≤ w.heap.size + 2; omega
                  · rw [Below.heap_setCell _ _ _ _ (by show w.heap.size + 1 ≠ w.heap.size + 2; omega)]; exact hrb2
                  · show w.heap.size + 2 < w.heap.size + 3; omega
                  · by_cases hj' : j < k
                    · exact AL.out j hj'
                    · rw [show j = k by omega, HS.out]; rfl
                case measure => simp [intOf]; omega
          · have hke : k = 2 := by have := H2.out; omega
            have V : Hid (sh (r + 1) f = some (shT r f)) := A1.out fun j hj => AL.out j (by omega)
            obtain ⟨hcl, ⟨hv, h0⟩ | ⟨g, cap, cur, hv, hg, hgc, _, _, _, htk⟩⟩ := O.out
            · omega
            · subst hv
              have TK : Hid _ := htk
              have HG : Hid _ := hgc
              have HK : Hid (k = 2) := hke
              clear htk hgc hke
              go_wp2_with fail
              have hres := World.cell?_setCell_same wr ⟨w.heap.size + 1, 0, none⟩ (.slice (some ⟨g, 0, none⟩) k cap) c3
              refine bodyPost_ret (v := .tuple #[.agg #[.slice (some ⟨g, 0, none⟩) k cap], .bool true]) (by simp [results, Tryz.results49, go_sem, hres]) rfl ⟨some ⟨g, 0, none⟩, k, cap, by rw [V.out]; rfl, fun u hu => ?_, hw.set (by show w.heap.size ≤ w.heap.size + 1; omega) _⟩
              rw [V.out] at hu
              cases hu
              refine ⟨HK.out, ?_⟩
              refine SA_mk (by omega) fun i hi => ?_
              have hi2 : i < 2 := hi
              obtain ⟨a', c', h1, h2⟩ := KI.out i (by have := HK.out; omega)
              refine ⟨a', c', ?_, ?_⟩
              · rw [World.cell?_setCell_other _ _ _ _ (fun e => absurd (congrArg Addr.block e) (by show w.heap.size + 1 ≠ g; omega))]
                have ht := TK.out
                rw [Nat.mul_one] at ht
                rw [← ht, List.getElem?_take_of_lt (by have := HK.out; omega)] at h1
                have hgg := HG.out
                simp [World.cell?, hgg] at h1 ⊢
                exact h1
              · exact SA_mono (SA_ks h2 fun b hb _ => Below.heap_setCell _ _ _ _ (by show b ≠ w.heap.size + 1; omega)) fun b _ hb => by omega
      · have e2 : ((len f : Int) != 2) = true := by simp; omega
        have n2 : ¬ (len f : Int) = 2 := by omega
        have V : Hid (sh (r + 1) f = none) := sh_bad hl h2
        clear hl h2
        go_enter Tryz.func49, Tryz.ntmps49
        go_wp2_with fail
        exact bodyPost_ret (v := .tuple #[.agg #[.slice none 0 0], .bool false]) (by simp [results, Tryz.results49, go_sem]) rfl (OfPost.none V.out (((Ex.new _ _).alloc _).alloc _))

end Go.Proofs.YtldbmlojgakieaaGreatDoor

namespace Go.Proofs.YtldbmlojgakieaaGreatDoor

open Go.RowKit Go.Deep

open Go.WideShapes (add_plain)

attribute [local go_sem ↓] Go.wp_at_zero Go.wp_at_succ

theorem FC.ta {rb n c lo : Nat} {t : TypeId} {w0 W w : World} {f : F} {a : Option Addr} (h : FC rb n c t W w) (hT : TA w0 lo f a) (hx : Ex w0 W) (h1 : rb < lo) (h2 : w0.heap.size ≤ n) : TA w lo f a :=
  SA_mono (SA_ks (SA_ks (SA_mono (S' := fun b => lo ≤ b ∧ b < w0.heap.size) hT fun b hb hl => ⟨hl, hb⟩) fun k _ hlt => hx.block k hlt) fun k hk hlt => h.2.1 k hlt (by omega) (by omega)) fun b _ hb => hb.1
theorem FC.to_fr {rb n c : Nat} {t : TypeId} {w0 W w : World} (h : FC rb n c t W w) (hx : Fr rb w0 W) (h2 : w0.heap.size ≤ n) : Fr rb w0 w :=
  ⟨h.1.1.trans hx.os, h.1.2.1.trans hx.tape, h.1.2.2.1.trans hx.output, Nat.le_trans hx.size h.1.2.2.2, fun k hk hn => (h.2.1 k (Nat.lt_of_lt_of_le hk hx.size) hn (by omega)).trans (hx.block k hk hn)⟩
theorem FC.alloc {rb n c : Nat} {t : TypeId} {W w : World} (h : FC rb n c t W w) (hn : n ≠ rb) (o : Obj) : FC rb n c t W (w.alloc o) := h.ex (Ex.new _ _) hn

end Go.Proofs.YtldbmlojgakieaaGreatDoor

namespace Go.Proofs.YtldbmlojgakieaaGreatDoor

open Go.RowKit Go.Deep

open Go.WideShapes (add_plain)

attribute [local go_sem ↓] Go.wp_at_zero Go.wp_at_succ

theorem num_snoc : ∀ (f : F) (n : Int) (k : F) (i : Nat), num (snoc f n k) i = if i < len f then num f i else if i = len f then n else 0
  | .nil, n, k, 0 => by simp [snoc, num, len]
  | .nil, n, k, i + 1 => by simp [snoc, num, len]
  | .node _ _ _ _ r, n, k, 0 => by simp [snoc, num, len]
  | .node _ _ _ _ r, n, k, i + 1 => by simp [snoc, num, len, num_snoc r n k i]

/-- The cells of a list of values. -/
theorem VS_olds {w : World} {S : Nat → Prop} {f : F} {a : Option Addr} (h : VS w S f a) : ∃ olds : List Value, olds.length = len f * 2 ∧ (∀ b, a = some b → ∀ j u, olds[j]? = some u → w.cell? (b.add j) = some u) ∧
    ∀ i, i < len f → olds[i * 2]? = some (.int .i64 (num f i)) ∧ ∃ a' cap, olds[i * 2 + 1]? = some (.slice a' (len (kid f i)) cap) ∧ VS w S (kid f i) a' := by
  by_cases h0 : len f = 0
  · exact ⟨[], by simp [h0], by intro _ _ j u hu; simp at hu, fun i hi => by omega⟩
  · obtain ⟨b, o, rfl, _, _, hk⟩ := VS_at h (by omega)
    refine ⟨(List.range (len f * 2)).map fun i => (w.cell? ⟨b, o + i, none⟩).getD default, by simp, ?_, ?_⟩
    · intro b' hb' j u hu
      cases hb'
      rw [List.getElem?_map] at hu
      by_cases hj : j < len f * 2
      · rw [List.getElem?_range hj] at hu
        obtain ⟨hn, a', cap, hc, _⟩ := hk (j / 2) (by omega)
        rw [add_plain]
        have : j = j / 2 * 2 ∨ j = j / 2 * 2 + 1 := by omega
        rcases this with e | e
        · rw [← e] at hn
          simp [hn] at hu
          subst hu
          exact hn
        · rw [Nat.add_assoc, ← e] at hc
          simp [hc] at hu
          subst hu
          exact hc
      · rw [List.getElem?_eq_none (by simpa using hj)] at hu; simp at hu
    · intro i hi
      obtain ⟨hn, a', cap, hc, ht⟩ := hk i hi
      refine ⟨by rw [List.getElem?_map, List.getElem?_range (by omega)]; simp [hn], a', cap, ?_, ht⟩
      rw [List.getElem?_map, List.getElem?_range (by omega)]
      rw [Nat.add_assoc] at hc
      simp [hc]

theorem VS_snoc {w : World} {S : Nat → Prop} {f k : F} {n : Int} {olds : List Value} {g : Nat} {cur : Array Value} {e : TypeId} {a0 : Option Addr} {c0 : Nat} (hS : S g) (hg : w.heap[g]? = some (.cells cur e (0, 0)))
    (hcur : cur.toList.take ((len f + 1) * 2) = olds ++ [.int .i64 n, .slice a0 (len k) c0]) (hl : olds.length = len f * 2) (hk : ∀ i, i < len f → olds[i * 2]? = some (.int .i64 (num f i)) ∧ ∃ a' cap, olds[i * 2 + 1]? = some (.slice a' (len (kid f i)) cap) ∧ VS w S (kid f i) a') (h0 : VS w S k a0) :
    VS w S (snoc f n k) (some ⟨g, 0, none⟩) := by
  refine VS_mk hS fun i hi => ?_
  rw [len_snoc] at hi
  have hcell : ∀ j, j < (len f + 1) * 2 → w.cell? ⟨g, 0 + j, none⟩ = (olds ++ [.int .i64 n, .slice a0 (len k) c0])[j]? := by
    intro j hj
    rw [← hcur, List.getElem?_take_of_lt hj]
    simp [World.cell?, hg]
  rw [Nat.add_assoc, hcell (i * 2) (by omega), hcell (i * 2 + 1) (by omega), kid_snoc, num_snoc]
  by_cases h : i < len f
  · obtain ⟨h1, a', cap, h2, h3⟩ := hk i h
    exact ⟨by rw [List.getElem?_append_left (by omega), h1, if_pos h], a', cap, by rw [List.getElem?_append_left (by omega), h2, if_pos h], by rw [if_pos h]; exact h3⟩
  · have e : i = len f := by omega
    exact ⟨by rw [List.getElem?_append_right (by omega), if_neg h, if_pos e]; simp [hl, e], a0, c0, by rw [List.getElem?_append_right (by omega), if_neg h, if_pos e]; simp [hl, e], by rw [if_neg h, if_pos e]; exact h0⟩

theorem VS_two {w : World} {S : Nat → Prop} {f : F} (h2 : len f = 2) {g : Nat} (hg : S g) {a0 a1 : Option Addr} {k0 k1 : Nat} (n0 : w.cell? ⟨g, 0, none⟩ = some (.int .i64 (num f 0))) (c0 : w.cell? ⟨g, 1, none⟩ = some (.slice a0 (len (kid f 0)) k0))
    (n1 : w.cell? ⟨g, 2, none⟩ = some (.int .i64 (num f 1))) (c1 : w.cell? ⟨g, 3, none⟩ = some (.slice a1 (len (kid f 1)) k1))
    (t0 : VS w S (kid f 0) a0) (t1 : VS w S (kid f 1) a1) : VS w S f (some ⟨g, 0, none⟩) := by
  refine VS_mk hg fun i hi => ?_
  have : i = 0 ∨ i = 1 := by omega
  rcases this with rfl | rfl
  · exact ⟨n0, a0, k0, c0, t0⟩
  · exact ⟨n1, a1, k1, c1, t1⟩

theorem Tryz.info55 : (Tryz.prog.info? 55).map (fun i => (i.zero, i.size, i.bytes)) = some (some (.agg #[.int .i64 0, .slice none 0 0]), 2, 32) := by kernel_rfl

theorem two_set0 {w : World} {b : Nat} {u v u' : Value} {t : TypeId} (h : w.heap[b]? = some (.cells #[u, v] t (0, 0))) : (w.setCell ⟨b, 0, none⟩ u').heap[b]? = some (.cells #[u', v] t (0, 0)) := by
  simp [World.setCell, Array.getElem?_modify, h]
theorem two_set1 {w : World} {b : Nat} {u v v' : Value} {t : TypeId} (h : w.heap[b]? = some (.cells #[u, v] t (0, 0))) : (w.setCell ⟨b, 1, none⟩ v').heap[b]? = some (.cells #[u, v'] t (0, 0)) := by
  simp [World.setCell, Array.getElem?_modify, h]

end Go.Proofs.YtldbmlojgakieaaGreatDoor
