/- Walks: the type of a term, by the program. Walks: the type of a term with another part, by the program. Terms that are ok: of what shape they are. -/
import Derived.Test.YtgpdnoghlommeaaGreatDoorGVS1
import Derived.Deep.CutRange
import Derived.Test.YtgpdnoghlommeaaGreatDoorGE1
namespace Go.Proofs.YtgpdnoghlommeaaGreatDoor

open Go.RowKit Go.Deep Go.Maps Go.WideMaps

attribute [local go_sem ↓] Go.wp_at_zero Go.wp_at_succ

set_option maxHeartbeats 1000000 in
theorem partAtS_any (f : F) (p : List Int) (a : Option Addr) (cap : Nat) (pa : Option Addr) (pc : Nat) (S : Nat → Prop) (w : World) (hp : p.length ≤ 1000000000) (hT : SA w S f a) (hP : PA w 0 p pa) :
    Calls Tryz.prog 152 #[.agg #[.slice a (len f) cap], .slice pa p.length pc, .func (.func 153) #[] #[]] w fun e w' =>
      (∃ g a' cap', partF f p = some g ∧ e = .returned (.tuple #[.agg #[.slice a' (len g) cap'], .bool true]) ∧ SA w' S g a' ∧ Ex w w') ∨ (partF f p = none ∧ e = .returned (.tuple #[.agg #[.slice none 0 0], .bool false]) ∧ Ex w w') := by
  have T : Hid (SA w S f a) := hT
  have P : Hid (PA w 0 p pa) := hP
  clear hT hP
  go_enter Tryz.func152, Tryz.ntmps152
  go_wp2_with fail
  go_loopw [14] (fun i wr => ∃ (k : Nat) (g : F) (a' : Option Addr) (cap' : Nat), k ≤ p.length ∧ i = .int .i64 k ∧ partF g (p.drop k) = partF f p ∧ SA w S g a' ∧ Ex w wr ∧ wr.heap[w.heap.size]? = some (.cells #[.slice a' (len g) cap'] 55 (0, 0)) ∧ wr.heap[w.heap.size + 1]? = some (.cells #[.slice none 0 0] 55 (0, 0))) (fun i _ => p.length - (intOf i).toNat)
  case atStart => exact ⟨0, f, a, cap, Nat.zero_le _, rfl, rfl, T.out, (Ex.new _ _).alloc _, by rw [Below.heap_alloc _ _ _ (by simp)]; exact heap_alloc_new _ _, by rw [← World.size_alloc w (.cells #[.slice a (len f) cap] 55)]; exact heap_alloc_new _ _⟩
  case round =>
    obtain ⟨k, g, a', cap', hk, rfl, hpg, hg, hx, hbx, hrs⟩ := hrel
    have PG : Hid (partF g (p.drop k) = partF f p) := hpg
    have TG : Hid (SA w S g a') := hg
    have c1 := cell_of_one hbx
    have c2 := free_of_one hbx
    have c3 := cell_of_one hrs
    have c4 := free_of_one hrs
    clear hpg hg
    by_cases hlt : k < p.length
    · obtain ⟨pb, po, rfl, hpb, _, hpc⟩ := PA_at (PA_below P.out hx) (by omega)
      obtain ⟨x, hxe⟩ : ∃ x, x = p.getD k 0 := ⟨_, rfl⟩
      have hck := hpc k hlt
      rw [← hxe] at hck
      have hpd : partF f p = if 0 ≤ x ∧ x < len g then partF (kid g x.toNat) (p.drop (k + 1)) else none := by
        rw [← PG.out, drop_cons p k hlt, ← hxe]; rfl
      have PD : Hid _ := hpd
      clear hpc hxe hpd
      go_wp2_with fail
      refine (typeKids_any _ _ _ _).mono ?_
      rintro e w1 ⟨rfl, hb1⟩
      have hbx1 := hb1.blk hbx
      have hrs1 := hb1.blk hrs
      have d1 := cell_of_one hbx1
      have d2 := free_of_one hbx1
      have d3 := cell_of_one hrs1
      have d4 := free_of_one hrs1
      have d5 := lt_of_block hrs1
      have hx1 : Ex w w1 := hx.trans hb1
      clear c1 c2 c3 c4 hbx hrs
      by_cases hxx : 0 ≤ x ∧ x < len g
      · obtain ⟨hx0, hxl⟩ := hxx
        have e0 : decide (x < 0) = false := by simp; omega
        obtain ⟨b, o, rfl, hlo, hbs, hkk⟩ := SA_at (SA_ex TG.out hx1) (by omega)
        obtain ⟨a2, k2, hc2, ht2⟩ := hkk x.toNat (by omega)
        obtain ⟨b', o', e', _, _, hkk'⟩ := SA_at TG.out (by omega)
        obtain ⟨a3, k3, hc3, ht3⟩ := hkk' x.toNat (by omega)
        cases e'
        have e4 := (hx1.at hc3).symm.trans hc2
        injection e4 with e4
        injection e4 with e5 e6 e7
        subst e5 e7
        have T3 : Hid (SA w S (kid g x.toNat) a3) := ht3
        clear hkk hkk' ht2 ht3 hc3 e6
        go_wp2_with fail
        go_roundw
        case rel =>
          exact ⟨k + 1, kid g x.toNat, a3, k3, by omega, by go_num, by rw [PD.out, if_pos ⟨hx0, hxl⟩], T3.out, hx1.set (Nat.le_refl _) _, one_setCell hbx1, by rw [Below.heap_setCell _ _ _ _ (by simp)]; exact hrs1⟩
        case measure => simp [intOf]; omega
      · have HN : Hid (partF f p = none) := by show _ = _; rw [PD.out, if_neg hxx]
        by_cases hx0 : x < 0
        · have e0 : decide (x < 0) = true := by simp; omega
          go_wp2_with fail
          have hres := res_at d3 (.slice none 0 0) (.cells #[.slice none 0 0] 55)
          exact bodyPost_ret (v := .tuple #[.agg #[.slice none 0 0], .bool false]) (by simp [results, Tryz.results152, go_sem, hres]) rfl (Or.inr ⟨HN.out, rfl, (hx1.set (Nat.le_succ _) _).alloc _⟩)
        · have e0 : decide (x < 0) = false := by simp; omega
          have e1 : (len g : Int) ≤ x := by omega
          go_wp2_with fail
          have hres := res_at d3 (.slice none 0 0) (.cells #[.slice none 0 0] 55)
          exact bodyPost_ret (v := .tuple #[.agg #[.slice none 0 0], .bool false]) (by simp [results, Tryz.results152, go_sem, hres]) rfl (Or.inr ⟨HN.out, rfl, (hx1.set (Nat.le_succ _) _).alloc _⟩)
    · have hd : p.drop k = [] := List.drop_eq_nil_of_le (by omega)
      have hs : partF f p = some g := by rw [← PG.out, hd]; rfl
      have HS : Hid (partF f p = some g) := hs
      clear hs hd
      go_wp2_with fail
      have hres := World.cell?_setCell_same wr ⟨w.heap.size + 1, 0, none⟩ (.slice a' (len g) cap') c3
      have hxf : Ex w (wr.setCell ⟨w.heap.size + 1, 0, none⟩ (.slice a' (len g) cap')) := hx.set (Nat.le_succ _) _
      exact bodyPost_ret (v := .tuple #[.agg #[.slice a' (len g) cap'], .bool true]) (by simp [results, Tryz.results152, go_sem, hres]) rfl (Or.inl ⟨g, a', cap', HS.out, rfl, SA_ex TG.out hxf, hxf⟩)

theorem partAtS_one (f : F) (p : List Int) (a : Option Addr) (cap : Nat) (pa : Option Addr) (pc : Nat) (S : Nat → Prop) (w : World) (hp : p.length ≤ 1000000000) (hT : SA w S f a) (hP : PA w 0 p pa) :
    Calls Tryz.prog 152 #[.agg #[.slice a (len f) cap], .slice pa p.length pc, .func (.func 153) #[] #[]] w fun e w' =>
      ∃ (a' : Option Addr) (cap' : Nat), e = .returned (.tuple #[.agg #[.slice a' (len ((partF f p).getD .nil)) cap'], .bool (partF f p).isSome]) ∧ SA w' S ((partF f p).getD .nil) a' ∧ Ex w w' :=
  (partAtS_any f p a cap pa pc S w hp hT hP).mono fun e w' h => by
    rcases h with ⟨g, a', cap', h1, h2, h3, h4⟩ | ⟨h1, h2, h3⟩
    · rw [h1]; exact ⟨a', cap', h2, h3, h4⟩
    · rw [h1]; exact ⟨none, 0, h2, Or.inl rfl, h3⟩

theorem oneT_1 {L : ByteArray → F} {s : ByteArray} {p : List Int} (l : F) : oneT L 1 s p (some l) = some .nil := rfl
theorem oneT_2 {L : ByteArray → F} {s : ByteArray} {p : List Int} (l : F) : oneT L 2 s p (some l) = some (L s) := rfl
theorem oneT_6 {L : ByteArray → F} {s : ByteArray} {p : List Int} (l : F) : oneT L 6 s p (some l) = ifT (fits 4 l) l := rfl
theorem oneT_7 {L : ByteArray → F} {s : ByteArray} {p : List Int} (l : F) : oneT L 7 s p (some l) = partF (kid l 0) p := rfl
theorem oneT_8n {L : ByteArray → F} {s : ByteArray} {p : List Int} {l : F} (h : partF (kid l 0) p = none) : oneT L 8 s p (some l) = none := by
  show (match partF (kid l 0) p with | some g => if eqT g (kid l 1) = true then some (kid l 0) else none | none => none) = none
  rw [h]
theorem oneT_8s {L : ByteArray → F} {s : ByteArray} {p : List Int} {l g : F} (h : partF (kid l 0) p = some g) : oneT L 8 s p (some l) = ifT (eqT g (kid l 1)) (kid l 0) := by
  show (match partF (kid l 0) p with | some g => if eqT g (kid l 1) = true then some (kid l 0) else none | none => none) = _
  rw [h]; rfl
theorem oneT_o {L : ByteArray → F} {k : Int} {s : ByteArray} {p : List Int} (l : F) (h1 : ¬ k = 1) (h2 : ¬ k = 2) (h6 : ¬ k = 6) (h7 : ¬ k = 7) (h8 : ¬ k = 8) : oneT L k s p (some l) = ifT ((((len (kid l 0) : Nat) : Int) == 0) && (((len (kid l 1) : Nat) : Int) == 0)) .nil := by
  simp only [oneT, opT, ifT]
  rw [if_neg h1, if_neg h2, if_neg h6, if_neg h7, if_neg h8]
  by_cases e0 : len (kid l 0) = 0
  · by_cases e1 : len (kid l 1) = 0
    · rw [if_pos ⟨e0, e1⟩, if_pos (by simp [e0, e1])]
    · rw [if_neg (fun h => e1 h.2), if_neg (by simp [e1])]
  · rw [if_neg (fun h => e0 h.1), if_neg (by simp [e0])]

theorem fits_lift : ∀ (r : Nat) (f : F), fits r f = true → ∀ n, fits (r + n) f = true := by
  have one : ∀ (r : Nat) (f : F), fits r f = true → fits (r + 1) f = true := by
    intro r
    induction r with
    | zero => intro f h; simp [fits] at h
    | succ r ih =>
      intro f h
      rcases fits_len h with h0 | h2
      · exact fits_nil h0
      · rw [fits_two h2, Bool.and_eq_true] at h
        rw [fits_two h2, ih _ h.1, ih _ h.2]; rfl
  intro r f h n
  induction n with
  | zero => exact h
  | succ n ih => exact one _ _ ih
theorem part_fits : ∀ (p : List Int) (f g : F), fits 4 f = true → partF f p = some g → fits 4 g = true
  | [], f, g, h, e => by cases e; exact h
  | i :: p, f, g, h, e => by
    simp only [partF] at e
    split at e
    · rename_i hi
      have h2 : len f = 2 := by have := fits_len h; omega
      rw [fits_two h2, Bool.and_eq_true] at h
      have : i.toNat = 0 ∨ i.toNat = 1 := by omega
      rcases this with hi | hi <;> rw [hi] at e
      · exact part_fits p _ g (fits_lift 3 _ h.1 1) e
      · exact part_fits p _ g (fits_lift 3 _ h.2 1) e
    · cases e

theorem SA_one {w : World} {S : Nat → Prop} {f : F} {a : Option Addr} (h : SA w S f a) (h0 : 0 < len f) : ∃ b o a0 k0, a = some ⟨b, o, none⟩ ∧ w.cell? ⟨b, o, none⟩ = some (.slice a0 (len (kid f 0)) k0) ∧ SA w S (kid f 0) a0 := by
  obtain ⟨b, o, e, _, _, hk⟩ := SA_at h h0
  obtain ⟨a0, k0, h2, h3⟩ := hk 0 h0
  exact ⟨b, o, a0, k0, e, h2, h3⟩
theorem SA_pair {w : World} {S : Nat → Prop} {f : F} {a : Option Addr} (h : SA w S f a) (h0 : len f = 2) : ∃ b o a0 k0 a1 k1, a = some ⟨b, o, none⟩ ∧ w.cell? ⟨b, o, none⟩ = some (.slice a0 (len (kid f 0)) k0) ∧ w.cell? ⟨b, o + 1, none⟩ = some (.slice a1 (len (kid f 1)) k1) ∧ SA w S (kid f 0) a0 ∧ SA w S (kid f 1) a1 := by
  obtain ⟨b, o, e, _, _, hk⟩ := SA_at h (by omega)
  obtain ⟨a0, k0, h2, h3⟩ := hk 0 (by omega)
  obtain ⟨a1, k1, h5, h6⟩ := hk 1 (by omega)
  exact ⟨b, o, a0, k0, a1, k1, e, h2, h5, h3, h6⟩

/-- A type told through a box of the call's own. -/
theorem ret_ty {eb : Addr} {S : Nat → Prop} {R : Option F} {w w2 : World} {b : Nat} {u : Value} {e : Ending} {a2 : Option Addr} {c2 : Nat} (hX : Ex w w2) (hV : SA w2 (fun q => S q ∨ b < q) (R.getD .nil) a2) (hS : ∀ q, S q → q < w.heap.size) (hb : w.heap.size ≤ b) (he : e = .returned (.tuple #[.agg #[.slice a2 (len (R.getD .nil)) c2], errV eb R.isSome])) : TyP eb S R w e (w2.setCell ⟨b, 0, none⟩ u) := by
  refine ⟨a2, c2, he, SA_mono (SA_ks hV fun q hq _ => ?_) fun q _ hq => ?_, hX.set (by exact hb) _⟩
  · have hne : q ≠ b := by
      rcases hq with h | h
      · have := hS q h; omega
      · omega
    rw [Below.heap_setCell _ _ _ _ hne]
  · rcases hq with h | h
    · exact Or.inl h
    · exact Or.inr (by omega)

set_option maxRecDepth 100000 in
set_option maxHeartbeats 4000000 in
theorem kterm_n8 (eb : Addr) (S : Nat → Prop) (L : ByteArray → F) (la : Option Addr) (ll lc : Nat) (tm : Option Nat) (mb mn : Nat) (k n : Int) (s : ByteArray) (p : List Int) (pa : Option Addr) (pc : Nat) (f : TM) (a : Option Addr) (c : Nat) (w : World)
    (hG : w.cell? ⟨1, 0, none⟩ = some (EV eb)) (hE : KM w S mb mn L) (hS : ∀ b, S b → b < w.heap.size) (hs : s.size ≤ 9223372036854775807) (hp : p.length ≤ 1000000000) (hP : PA w 0 p pa)
    (k8 : ¬ k = 8) (hsh : k = 1 ∨ k = 2 ∨ k = 6 ∨ (k = 7 ∧ tlen f = 1) ∨ (k ≠ 7 ∧ tlen f = 2)) (hT : ∀ l, evT L f = some l → ∀ i, i < len l → fits 4 (kid l i) = true)
    (hK : ∀ w', Ex w w' → Calls Tryz.prog 118 #[.agg #[.slice la ll lc, .map tm, .map (some mb)], .slice a (tlen f) c] w' (TysP eb S (evT L f) w')) :
    Calls Tryz.prog 141 #[.agg #[.slice la ll lc, .map tm, .map (some mb)], .agg #[.int .i64 k, .int .i64 n, .string s, .slice pa p.length pc, .slice a (tlen f) c]] w (TyP eb S (oneT L k s p (evT L f)) w) := by
  have G : Hid (∀ w', Ex w w' → w'.cell? ⟨1, 0, none⟩ = some (EV eb)) := fun w' h => h.at hG
  have EE : Hid (∀ w', Ex w w' → KM w' S mb mn L) := fun w' h => hE.ex h
  have HS : Hid (∀ b, S b → b < w.heap.size) := hS
  have SZ : Hid (s.size ≤ 9223372036854775807) := hs
  have PL : Hid (p.length ≤ 1000000000) := hp
  have P : Hid (∀ w', Ex w w' → PA w' 0 p pa) := fun _ h => PA_below hP h
  have SH : Hid (k = 1 ∨ k = 2 ∨ k = 6 ∨ (k = 7 ∧ tlen f = 1) ∨ (k ≠ 7 ∧ tlen f = 2)) := hsh
  have TT : Hid (∀ l, evT L f = some l → ∀ i, i < len l → fits 4 (kid l i) = true) := hT
  have K : Hid (∀ w', Ex w w' → Calls Tryz.prog 118 #[.agg #[.slice la ll lc, .map tm, .map (some mb)], .slice a (tlen f) c] w' (TysP eb S (evT L f) w')) := hK
  have N : Hid (Ex w (((w.alloc (.cells #[.slice la ll lc, .map tm, .map (some mb)] 113)).alloc (.cells #[.int .i64 k, .int .i64 n, .string s, .slice pa p.length pc, .slice a (tlen f) c] 90)).alloc (.cells #[.slice none 0 0] 55))) := ((Ex.new _ _).alloc _).alloc _
  have C : Hid (∀ w', Ex (((w.alloc (.cells #[.slice la ll lc, .map tm, .map (some mb)] 113)).alloc (.cells #[.int .i64 k, .int .i64 n, .string s, .slice pa p.length pc, .slice a (tlen f) c] 90)).alloc (.cells #[.slice none 0 0] 55)) w' → w'.cell? ⟨w.heap.size, 0, none⟩ = some (.slice la ll lc) ∧ w'.cell? ⟨w.heap.size, 1, none⟩ = some (.map tm) ∧ w'.cell? ⟨w.heap.size, 2, none⟩ = some (.map (some mb)) ∧ w'.cell? ⟨w.heap.size + 1, 0, none⟩ = some (.int .i64 k) ∧ w'.cell? ⟨w.heap.size + 1, 1, none⟩ = some (.int .i64 n) ∧ w'.cell? ⟨w.heap.size + 1, 2, none⟩ = some (.string s) ∧ w'.cell? ⟨w.heap.size + 1, 3, none⟩ = some (.slice pa p.length pc) ∧ w'.cell? ⟨w.heap.size + 1, 4, none⟩ = some (.slice a (tlen f) c) ∧ w'.heap[w.heap.size + 2]? = some (.cells #[.slice none 0 0] 55 (0, 0))) := fun w' h => ⟨h.at (((Ex.new _ _).alloc _).at (by simp)), h.at (((Ex.new _ _).alloc _).at (by simp)), h.at (((Ex.new _ _).alloc _).at (by simp)), h.at ((Ex.new _ _).at (by simp)), h.at ((Ex.new _ _).at (by simp)), h.at ((Ex.new _ _).at (by simp)), h.at ((Ex.new _ _).at (by simp)), h.at ((Ex.new _ _).at (by simp)), h.blk (heap_alloc_at _ _ (by simp))⟩
  have LN : Hid (∀ l, evT L f = some l → len l = tlen f) := fun l h => evT_len h
  clear hG hE hS hs hp hP hsh hT hK
  obtain ⟨E, hEv⟩ : ∃ E, E = evT L f := ⟨_, rfl⟩
  rw [← hEv] at TT K LN ⊢
  clear hEv
  obtain ⟨R, hR⟩ : ∃ R, R = oneT L k s p E := ⟨_, rfl⟩
  have RR : Hid (R = oneT L k s p E) := hR
  rw [← hR]
  clear hR
  go_enter Tryz.func141, Tryz.ntmps141
  go_wp2_with fail
  refine Calls.mono (K.out _ N.out) ?_
  rintro e w1 ⟨a1, c1', rfl, hV1, hb1⟩
  obtain ⟨b0, bt, b1, c0, c1, c2, c3, c4, hr⟩ := C.out w1 hb1
  have HR : Hid (w1.heap[w.heap.size + 2]? = some (.cells #[.slice none 0 0] 55 (0, 0))) := hr
  have r0 := cell_of_one hr
  have r2 := free_of_one hr
  have X1 : Hid (Ex w w1) := N.out.trans hb1
  have zW : (((w.alloc (.cells #[.slice la ll lc, .map tm, .map (some mb)] 113)).alloc (.cells #[.int .i64 k, .int .i64 n, .string s, .slice pa p.length pc, .slice a (tlen f) c] 90)).alloc (.cells #[.slice none 0 0] 55)).heap.size = w.heap.size + 3 := by simp only [World.size_alloc]
  rw [zW] at hV1
  have V1 : Hid (SA w1 (fun b => S b ∨ w.heap.size + 3 ≤ b) (E.getD .nil) a1) := hV1
  clear hV1 hb1 K C zW hr
  cases E with
  | none =>
    simp only [Option.getD_none, Option.isSome_none, errV, Bool.false_eq_true, if_false]
    go_wp2_with fail
    have s0 := World.cell?_setCell_same w1 ⟨w.heap.size + 2, 0, none⟩ (.slice none 0 0) r0
    refine bodyPost_ret (v := .tuple #[.agg #[.slice none 0 0], EV eb]) (by simp [results, Tryz.results141, go_sem, s0]) rfl ?_
    have e : R = none := RR.out
    rw [e]
    exact ret_ty (R := none) (a2 := none) (c2 := 0) X1.out (Or.inl rfl) HS.out (by omega) rfl
  | some l =>
    have TY : Hid (∀ i, i < len l → fits 4 (kid l i) = true) := TT.out l rfl
    have LL : Hid (len l = tlen f) := LN.out l rfl
    have V2 : Hid (SA w1 (fun b => S b ∨ w.heap.size + 3 ≤ b) l a1) := V1.out
    simp only [Option.getD_some, Option.isSome_some, errV, if_true]
    clear TT LN V1
    by_cases k1 : k = 1
    · subst k1
      have RV : Hid (R = some .nil) := RR.out
      go_wp2_with fail
      have s0 := World.cell?_setCell_same w1 ⟨w.heap.size + 2, 0, none⟩ (.slice none 0 0) r0
      refine bodyPost_ret (v := .tuple #[.agg #[.slice none 0 0], .nilIface]) (by simp [results, Tryz.results141, go_sem, s0]) rfl ?_
      rw [RV.out]
      exact ret_ty (R := some .nil) (a2 := none) (c2 := 0) X1.out (Or.inl rfl) HS.out (by omega) rfl
    by_cases k2 : k = 2
    · subst k2
      have RV : Hid (R = some (L s)) := RR.out
      obtain ⟨a2, c2', hrun, hVL⟩ := (EE.out w1 X1.out).look SZ.out
      have VL : Hid (SA w1 S (L s) a2) := hVL
      obtain ⟨v, hv⟩ : ∃ v, v = L s := ⟨_, rfl⟩
      rw [← hv] at hrun VL RV
      clear hVL hv
      go_wp2_with fail
      have s0 := World.cell?_setCell_same w1 ⟨w.heap.size + 2, 0, none⟩ (.slice a2 (len v) c2') r0
      refine bodyPost_ret (v := .tuple #[.agg #[.slice a2 (len v) c2'], .nilIface]) (by simp [results, Tryz.results141, go_sem, s0]) rfl ?_
      rw [RV.out]
      exact ret_ty (R := some v) (a2 := a2) (c2 := c2') X1.out (SA_mono VL.out fun b _ hb => Or.inl hb) HS.out (by omega) rfl
    by_cases k6 : k = 6
    · subst k6
      have RV : R = ifT (fits 4 l) l := RR.out
      obtain ⟨z, hz⟩ : ∃ z, fits 4 l = z := ⟨_, rfl⟩
      rw [hz] at RV
      have IA : Hid (∀ w', Ex w1 w' → Calls Tryz.prog 83 #[.agg #[.slice a1 (len l) c1']] w' fun e w'' => e = .returned (.bool z) ∧ Ex w' w'') := fun w' h => by have := iTypeOk_any l a1 c1' 0 w' (SA_mono (SA_ex V2.out h) fun _ _ _ => Nat.zero_le _); rw [hz] at this; exact this
      have IT : Hid (∀ w', Ex w1 w' → Calls Tryz.prog 151 #[.agg #[.slice a1 (len l) c1'], .bool z] w' (TyP eb (fun b => S b ∨ w.heap.size + 3 ≤ b) (ifT z l) w')) := fun w' h => typeIf_any eb _ l a1 c1' z w' (G.out w' (X1.out.trans h)) (SA_ex V2.out h)
      rw [← RV] at IT
      have QA : Hid ((w1.alloc (.cells #[.slice a1 (len l) c1'] 55)).cell? ⟨w1.heap.size, 0, none⟩ = some (.slice a1 (len l) c1')) := by show _ = _; simp
      clear RV hz
      have zr := lt_of_block HR.out
      go_wp2_with fail
      go_region_with (first | (go_at_call 83; refine (IA.out _ (Ex.new _ _).drew).mono ?_; rintro e w5 ⟨rfl, hb5⟩; have xb : Ex w1 w5 := Ex.trans (Ex.new _ _).drew hb5; have q8 := (Ex.trans (Ex.refl (w1.alloc (.cells #[.slice a1 (len l) c1'] 55))).drew hb5).at QA.out; clear r0 r2; have hr5 := xb.blk HR.out; have r0 := cell_of_one hr5; have r2 := free_of_one hr5) | (go_at_call 151; refine (IT.out _ xb).mono ?_; rintro e w6 ⟨a6, k6, rfl, hV6, hb6⟩; have xc : Ex w1 w6 := Ex.trans xb hb6; have hr6 := xc.blk HR.out; have r0 := cell_of_one hr6; have r2 := free_of_one hr6))
      all_goals
        go_wp2_with fail
        have s0 := World.cell?_setCell_same w6 ⟨w.heap.size + 2, 0, none⟩ (.slice a6 (len (R.getD .nil)) k6) (cell_of_one hr6)
        refine bodyPost_ret (v := .tuple #[.agg #[.slice a6 (len (R.getD .nil)) k6], errV eb R.isSome]) (by simp [results, Tryz.results141, go_sem, s0]) rfl ?_
        refine ret_ty (X1.out.trans xc) (SA_mono hV6 fun b _ hb => ?_) HS.out (by omega) rfl
        have := xb.size
        rcases hb with (hb | hb) | hb
        · exact Or.inl hb
        · exact Or.inr (by omega)
        · exact Or.inr (by omega)
    by_cases k7 : k = 7
    · subst k7
      have RV : R = partF (kid l 0) p := RR.out
      have L1 : Hid (len l = 1) := by
        have := LL.out
        have := SH.out
        show _ = _
        omega
      obtain ⟨b, o, a0, k0, rfl, m0, hV0⟩ := SA_one V2.out (by have := L1.out; omega)
      have IA : Hid (∀ w', Ex w1 w' → Calls Tryz.prog 152 #[.agg #[.slice a0 (len (kid l 0)) k0], .slice pa p.length pc, .func (.func 153) #[] #[]] w' fun e w'' => ∃ (a' : Option Addr) (cap' : Nat), e = .returned (.tuple #[.agg #[.slice a' (len (R.getD .nil)) cap'], .bool R.isSome]) ∧ SA w'' (fun b => S b ∨ w.heap.size + 3 ≤ b) (R.getD .nil) a' ∧ Ex w' w'') := fun w' h => by rw [RV]; exact partAtS_one _ p a0 k0 pa pc _ w' PL.out (SA_ex hV0 h) (P.out w' (X1.out.trans h))
      have hl0 : (0 : Int) < (len l : Int) := by have := L1.out; omega
      have RI : Hid (R = ifT R.isSome (R.getD .nil)) := by show _ = _; cases R <;> rfl
      have IT : Hid (∀ w' a' c', Ex w1 w' → SA w' (fun b => S b ∨ w.heap.size + 3 ≤ b) (R.getD .nil) a' → Calls Tryz.prog 151 #[.agg #[.slice a' (len (R.getD .nil)) c'], .bool R.isSome] w' (TyP eb (fun b => S b ∨ w.heap.size + 3 ≤ b) R w')) := fun w' a' c' h hv => by have := typeIf_any eb _ (R.getD .nil) a' c' R.isSome w' (G.out w' (X1.out.trans h)) hv; rw [← RI.out] at this; exact this
      clear RV hV0
      have zr := lt_of_block HR.out
      go_wp2_with fail
      go_region_with (first | (go_at_call 152; refine (IA.out _ (Ex.refl _).drew).mono ?_; rintro e w5 ⟨a5, k5, rfl, hV5, hb5⟩; have xb : Ex w1 w5 := Ex.trans (Ex.refl _).drew hb5; have V5 : Hid (SA w5 (fun b => S b ∨ w.heap.size + 3 ≤ b) (R.getD .nil) a5) := hV5; clear hV5 r0 r2) | (go_at_call 151; refine (IT.out _ _ _ xb V5.out).mono ?_; rintro e w6 ⟨a6, k6, rfl, hV6, hb6⟩; have xc : Ex w1 w6 := Ex.trans xb hb6; have hr6 := xc.blk HR.out; have r0 := cell_of_one hr6; have r2 := free_of_one hr6))
      all_goals
        go_wp2_with fail
        have s0 := World.cell?_setCell_same w6 ⟨w.heap.size + 2, 0, none⟩ (.slice a6 (len (R.getD .nil)) k6) (cell_of_one hr6)
        refine bodyPost_ret (v := .tuple #[.agg #[.slice a6 (len (R.getD .nil)) k6], errV eb R.isSome]) (by simp [results, Tryz.results141, go_sem, s0]) rfl ?_
        refine ret_ty (X1.out.trans xc) (SA_mono hV6 fun b _ hb => ?_) HS.out (by omega) rfl
        have := xb.size
        rcases hb with (hb | hb) | hb
        · exact Or.inl hb
        · exact Or.inr (by omega)
        · exact Or.inr (by omega)
    have L2 : Hid (len l = 2) := by
      have := LL.out
      have := SH.out
      show _ = _
      omega
    obtain ⟨b, o, a0, k0, a1', k1', rfl, m0, m1, hV0, hV1⟩ := SA_pair V2.out L2.out
    have NB : Hid (b ≠ w.heap.size + 2) := by
      obtain ⟨b', o', e', hs, _, _⟩ := SA_at V2.out (by have := L2.out; omega)
      cases e'
      show _ ≠ _
      rcases hs with h | h
      · have := HS.out b h; omega
      · omega
    have hl0 : (0 : Int) < (len l : Int) := by have := L2.out; omega
    have hl1 : (1 : Int) < (len l : Int) := by have := L2.out; omega
    have zr := lt_of_block HR.out
    have q1 : (k == 1) = false := by rw [beq_eq_false_iff_ne]; exact k1
    have q2 : (k == 2) = false := by rw [beq_eq_false_iff_ne]; exact k2
    have q6 : (k == 6) = false := by rw [beq_eq_false_iff_ne]; exact k6
    have q7 : (k == 7) = false := by rw [beq_eq_false_iff_ne]; exact k7
    have q8 : (k == 8) = false := by rw [beq_eq_false_iff_ne]; exact k8
    obtain ⟨z1, h1⟩ : ∃ z, (((len (kid l 0) : Nat) : Int) == 0) = z := ⟨_, rfl⟩
    obtain ⟨z2, h2⟩ : ∃ z, (((len (kid l 1) : Nat) : Int) == 0) = z := ⟨_, rfl⟩
    have RV : R = ifT (z1 && z2) .nil := by rw [← h1, ← h2]; exact RR.out.trans (oneT_o l k1 k2 k6 k7 k8)
    have I1 : Hid (∀ w', Calls Tryz.prog 148 #[.agg #[.slice a0 (len (kid l 0)) k0]] w' fun e w'' => e = .returned (.bool z1) ∧ Ex w' w'') := fun w' => isNumberType_any _ a0 k0 z1 h1 w'
    have I2 : Hid (∀ w', Calls Tryz.prog 148 #[.agg #[.slice a1' (len (kid l 1)) k1']] w' fun e w'' => e = .returned (.bool z2) ∧ Ex w' w'') := fun w' => isNumberType_any _ a1' k1' z2 h2 w'
    have IT : Hid (∀ w', Ex w1 w' → Calls Tryz.prog 151 #[.agg #[.slice none 0 0], .bool (z1 && z2)] w' (TyP eb (fun _ => False) R w')) := fun w' h => by rw [RV]; exact typeIf_any eb _ .nil none 0 (z1 && z2) w' (G.out w' (X1.out.trans h)) (Or.inl rfl)
    clear RV hV0 hV1 h1 h2
    go_wp2_with fail
    refine Calls.mono (I1.out _) ?_
    rintro e w5 ⟨rfl, hb5⟩
    have n1 := hb5.at m1
    clear r0 r2
    cases z1 with
    | false =>
      go_wp2_with fail
      refine Calls.mono (IT.out _ hb5) ?_
      rintro e w6 ⟨a6, k6', rfl, hV6, hb6⟩
      have xc : Ex w1 w6 := hb5.trans hb6
      have hr6 := xc.blk HR.out
      have r0 := cell_of_one hr6
      have r2 := free_of_one hr6
      go_wp2_with fail
      have s0 := World.cell?_setCell_same w6 ⟨w.heap.size + 2, 0, none⟩ (.slice a6 (len (R.getD .nil)) k6') r0
      refine bodyPost_ret (v := .tuple #[.agg #[.slice a6 (len (R.getD .nil)) k6'], errV eb R.isSome]) (by simp [results, Tryz.results141, go_sem, s0]) rfl ?_
      refine ret_ty (X1.out.trans xc) (SA_mono hV6 fun b _ hb => ?_) HS.out (by omega) rfl
      have := hb5.size
      rcases hb with hb | hb
      · exact hb.elim
      · exact Or.inr (by omega)
    | true =>
      go_wp2_with fail
      refine Calls.mono (I2.out _) ?_
      rintro e w7 ⟨rfl, hb7⟩
      go_wp2_with fail
      refine Calls.mono (IT.out _ (hb5.trans hb7)) ?_
      rintro e w6 ⟨a6, k6', rfl, hV6, hb6⟩
      have xc : Ex w1 w6 := (hb5.trans hb7).trans hb6
      have hr6 := xc.blk HR.out
      have r0 := cell_of_one hr6
      have r2 := free_of_one hr6
      go_wp2_with fail
      have s0 := World.cell?_setCell_same w6 ⟨w.heap.size + 2, 0, none⟩ (.slice a6 (len (R.getD .nil)) k6') r0
      refine bodyPost_ret (v := .tuple #[.agg #[.slice a6 (len (R.getD .nil)) k6'], errV eb R.isSome]) (by simp [results, Tryz.results141, go_sem, s0]) rfl ?_
      refine ret_ty (X1.out.trans xc) (SA_mono hV6 fun b _ hb => ?_) HS.out (by omega) rfl
      have := (hb5.trans hb7).size
      rcases hb with hb | hb
      · exact hb.elim
      · exact Or.inr (by omega)

end Go.Proofs.YtgpdnoghlommeaaGreatDoor

namespace Go.Proofs.YtgpdnoghlommeaaGreatDoor

open Go.RowKit Go.Deep Go.Maps Go.WideMaps

attribute [local go_sem ↓] Go.wp_at_zero Go.wp_at_succ

set_option maxRecDepth 100000 in
set_option maxHeartbeats 4000000 in
theorem kterm_8 (eb : Addr) (S : Nat → Prop) (L : ByteArray → F) (la : Option Addr) (ll lc : Nat) (tm : Option Nat) (mb mn : Nat) (n : Int) (s : ByteArray) (p : List Int) (pa : Option Addr) (pc : Nat) (f : TM) (a : Option Addr) (c : Nat) (w : World)
    (hG : w.cell? ⟨1, 0, none⟩ = some (EV eb)) (hE : KM w S mb mn L) (hS : ∀ b, S b → b < w.heap.size) (hs : s.size ≤ 9223372036854775807) (hp : p.length ≤ 1000000000) (hP : PA w 0 p pa)
    (hsh : tlen f = 2) (hT : ∀ l, evT L f = some l → ∀ i, i < len l → fits 4 (kid l i) = true)
    (hK : ∀ w', Ex w w' → Calls Tryz.prog 118 #[.agg #[.slice la ll lc, .map tm, .map (some mb)], .slice a (tlen f) c] w' (TysP eb S (evT L f) w')) :
    Calls Tryz.prog 141 #[.agg #[.slice la ll lc, .map tm, .map (some mb)], .agg #[.int .i64 8, .int .i64 n, .string s, .slice pa p.length pc, .slice a (tlen f) c]] w (TyP eb S (oneT L 8 s p (evT L f)) w) := by
  have G : Hid (∀ w', Ex w w' → w'.cell? ⟨1, 0, none⟩ = some (EV eb)) := fun w' h => h.at hG
  have EE : Hid (∀ w', Ex w w' → KM w' S mb mn L) := fun w' h => hE.ex h
  have HS : Hid (∀ b, S b → b < w.heap.size) := hS
  have SZ : Hid (s.size ≤ 9223372036854775807) := hs
  have PL : Hid (p.length ≤ 1000000000) := hp
  have P : Hid (∀ w', Ex w w' → PA w' 0 p pa) := fun _ h => PA_below hP h
  have SH : Hid (tlen f = 2) := hsh
  have TT : Hid (∀ l, evT L f = some l → ∀ i, i < len l → fits 4 (kid l i) = true) := hT
  have K : Hid (∀ w', Ex w w' → Calls Tryz.prog 118 #[.agg #[.slice la ll lc, .map tm, .map (some mb)], .slice a (tlen f) c] w' (TysP eb S (evT L f) w')) := hK
  have N : Hid (Ex w (((w.alloc (.cells #[.slice la ll lc, .map tm, .map (some mb)] 113)).alloc (.cells #[.int .i64 8, .int .i64 n, .string s, .slice pa p.length pc, .slice a (tlen f) c] 90)).alloc (.cells #[.slice none 0 0] 55))) := ((Ex.new _ _).alloc _).alloc _
  have C : Hid (∀ w', Ex (((w.alloc (.cells #[.slice la ll lc, .map tm, .map (some mb)] 113)).alloc (.cells #[.int .i64 8, .int .i64 n, .string s, .slice pa p.length pc, .slice a (tlen f) c] 90)).alloc (.cells #[.slice none 0 0] 55)) w' → w'.cell? ⟨w.heap.size, 0, none⟩ = some (.slice la ll lc) ∧ w'.cell? ⟨w.heap.size, 1, none⟩ = some (.map tm) ∧ w'.cell? ⟨w.heap.size, 2, none⟩ = some (.map (some mb)) ∧ w'.cell? ⟨w.heap.size + 1, 0, none⟩ = some (.int .i64 8) ∧ w'.cell? ⟨w.heap.size + 1, 1, none⟩ = some (.int .i64 n) ∧ w'.cell? ⟨w.heap.size + 1, 2, none⟩ = some (.string s) ∧ w'.cell? ⟨w.heap.size + 1, 3, none⟩ = some (.slice pa p.length pc) ∧ w'.cell? ⟨w.heap.size + 1, 4, none⟩ = some (.slice a (tlen f) c) ∧ w'.heap[w.heap.size + 2]? = some (.cells #[.slice none 0 0] 55 (0, 0))) := fun w' h => ⟨h.at (((Ex.new _ _).alloc _).at (by simp)), h.at (((Ex.new _ _).alloc _).at (by simp)), h.at (((Ex.new _ _).alloc _).at (by simp)), h.at ((Ex.new _ _).at (by simp)), h.at ((Ex.new _ _).at (by simp)), h.at ((Ex.new _ _).at (by simp)), h.at ((Ex.new _ _).at (by simp)), h.at ((Ex.new _ _).at (by simp)), h.blk (heap_alloc_at _ _ (by simp))⟩
  have LN : Hid (∀ l, evT L f = some l → len l = tlen f) := fun l h => evT_len h
  clear hG hE hS hs hp hP hsh hT hK
  obtain ⟨E, hEv⟩ : ∃ E, E = evT L f := ⟨_, rfl⟩
  rw [← hEv] at TT K LN ⊢
  clear hEv
  obtain ⟨R, hR⟩ : ∃ R, R = oneT L 8 s p E := ⟨_, rfl⟩
  have RR : Hid (R = oneT L 8 s p E) := hR
  rw [← hR]
  clear hR
  go_enter Tryz.func141, Tryz.ntmps141
  go_wp2_with fail
  refine Calls.mono (K.out _ N.out) ?_
  rintro e w1 ⟨a1, c1', rfl, hV1, hb1⟩
  obtain ⟨b0, bt, b1, c0, c1, c2, c3, c4, hr⟩ := C.out w1 hb1
  have HR : Hid (w1.heap[w.heap.size + 2]? = some (.cells #[.slice none 0 0] 55 (0, 0))) := hr
  have r0 := cell_of_one hr
  have r2 := free_of_one hr
  have X1 : Hid (Ex w w1) := N.out.trans hb1
  have zW : (((w.alloc (.cells #[.slice la ll lc, .map tm, .map (some mb)] 113)).alloc (.cells #[.int .i64 8, .int .i64 n, .string s, .slice pa p.length pc, .slice a (tlen f) c] 90)).alloc (.cells #[.slice none 0 0] 55)).heap.size = w.heap.size + 3 := by simp only [World.size_alloc]
  rw [zW] at hV1
  have V1 : Hid (SA w1 (fun b => S b ∨ w.heap.size + 3 ≤ b) (E.getD .nil) a1) := hV1
  clear hV1 hb1 K C zW hr
  cases E with
  | none =>
    simp only [Option.getD_none, Option.isSome_none, errV, Bool.false_eq_true, if_false]
    go_wp2_with fail
    have s0 := World.cell?_setCell_same w1 ⟨w.heap.size + 2, 0, none⟩ (.slice none 0 0) r0
    refine bodyPost_ret (v := .tuple #[.agg #[.slice none 0 0], EV eb]) (by simp [results, Tryz.results141, go_sem, s0]) rfl ?_
    have e : R = none := RR.out
    rw [e]
    exact ret_ty (R := none) (a2 := none) (c2 := 0) X1.out (Or.inl rfl) HS.out (by omega) rfl
  | some l =>
    have TY : Hid (∀ i, i < len l → fits 4 (kid l i) = true) := TT.out l rfl
    have LL : Hid (len l = tlen f) := LN.out l rfl
    have V2 : Hid (SA w1 (fun b => S b ∨ w.heap.size + 3 ≤ b) l a1) := V1.out
    simp only [Option.getD_some, Option.isSome_some, errV, if_true]
    clear TT LN V1
    have L2 : Hid (len l = 2) := by
      have := LL.out
      have := SH.out
      show _ = _
      omega
    obtain ⟨b, o, a0, k0, a1', k1', rfl, m0, m1, hV0, hV1⟩ := SA_pair V2.out L2.out
    have NB : Hid (b ≠ w.heap.size + 2) := by
      obtain ⟨b', o', e', hs, _, _⟩ := SA_at V2.out (by have := L2.out; omega)
      cases e'
      show _ ≠ _
      rcases hs with h | h
      · have := HS.out b h; omega
      · omega
    have hl0 : (0 : Int) < (len l : Int) := by have := L2.out; omega
    have hl1 : (1 : Int) < (len l : Int) := by have := L2.out; omega
    have hN0 : Hid (0 < len l ∧ 1 < len l) := by have := L2.out; exact ⟨by omega, by omega⟩
    have zr := lt_of_block HR.out
    obtain ⟨Q, hQ⟩ : ∃ Q, partF (kid l 0) p = Q := ⟨_, rfl⟩
    have QQ : Hid (partF (kid l 0) p = Q) := hQ
    have V0' : SA w1 (fun b => (S b ∨ w.heap.size + 3 ≤ b) ∧ b < w1.heap.size) (kid l 0) a0 := SA_mono hV0 fun b hb h => ⟨h, hb⟩
    have IA : Hid (∀ w', Ex w1 w' → Calls Tryz.prog 152 #[.agg #[.slice a0 (len (kid l 0)) k0], .slice pa p.length pc, .func (.func 153) #[] #[]] w' fun e w'' => ∃ (a' : Option Addr) (cap' : Nat), e = .returned (.tuple #[.agg #[.slice a' (len (Q.getD .nil)) cap'], .bool Q.isSome]) ∧ SA w'' (fun b => (S b ∨ w.heap.size + 3 ≤ b) ∧ b < w1.heap.size) (Q.getD .nil) a' ∧ Ex w' w'') := fun w' h => by rw [← hQ]; exact partAtS_one _ p a0 k0 pa pc _ w' PL.out (SA_ex V0' h) (P.out w' (X1.out.trans h))
    have V0 : Hid (SA w1 (fun b => S b ∨ w.heap.size + 3 ≤ b) (kid l 0) a0) := hV0
    have VK : Hid (SA w1 (fun b => S b ∨ w.heap.size + 3 ≤ b) (kid l 1) a1') := hV1
    have F0 : Hid (fits 4 (kid l 0) = true) := TY.out 0 (by have := L2.out; omega)
    have F1 : Hid (fits 4 (kid l 1) = true) := TY.out 1 (by have := L2.out; omega)
    have KC : Hid (∀ w', Ex w1 w' → w'.cell? ⟨b, o, none⟩ = some (.slice a0 (len (kid l 0)) k0) ∧ w'.cell? ⟨b, o + 1, none⟩ = some (.slice a1' (len (kid l 1)) k1')) := fun w' h => ⟨h.at m0, h.at m1⟩
    clear hQ hV0 hV1 V0'
    have zr1 : w.heap.size + 1 < w1.heap.size := by omega
    have zr0 : w.heap.size < w1.heap.size := by omega
    have zb : b < w1.heap.size := World.block_lt_of_cell? _ _ m0
    go_upto_region 15 with fail
    go_cut [9, 10] from 60 to 67 (fun p9 p10 wx => p10 = .bool Q.isSome ∧ ∃ q a' c', p9 = .pointer (some ⟨q, 0, none⟩) ∧ wx.cell? ⟨q, 0, none⟩ = some (.slice a' (len (Q.getD .nil)) c') ∧ Ex w1 wx ∧ SA wx (fun b => (S b ∨ w.heap.size + 3 ≤ b) ∧ b < w1.heap.size) (Q.getD .nil) a')
    case first =>
      go_region_with (first | (go_at_call 152; refine (IA.out _ (by first | exact (Ex.refl _).drew | exact (Ex.refl _).drew.trans (Ex.new _ _))).mono ?_; rintro e w5 ⟨a5, c5, rfl, ht5, hb5⟩; have xb : Ex w1 w5 := (by refine Ex.trans ?_ hb5; first | exact (Ex.refl _).drew | exact (Ex.new _ _).drew | exact (Ex.refl _).drew.alloc _); first | (have ob : w5.heap[w1.heap.size]? = some (.cells #[.slice none 0 0] 55) := (by first | exact hb5.blk (heap_alloc_new w1.drew _) | exact hb5.blk (heap_alloc_new w1 _)); have oc := cell_of_one ob; have oz := free_of_one ob) | skip))
      all_goals
        go_wp2_with fail
        go_meet
        first
          | exact ⟨rfl, w1.heap.size, a5, c5, rfl, cell_of_one (one_setCell ob), Ex.set xb (Nat.le_refl _) _, SA_ks ht5 fun b hb _ => Below.heap_setCell _ _ _ _ (by show b ≠ w1.heap.size; have := hb.2; omega)⟩
          | exact ⟨rfl, w5.heap.size, a5, c5, rfl, World.cell?_alloc_new _ _ _ _, xb.alloc _, SA_ex ht5 (Ex.new _ _)⟩
    case rest =>
      rename World => w6
      obtain ⟨rfl, q, a5, c5, rfl, hq5, hx5, ht5⟩ := hcut
      have X6 : Hid (Ex w1 w6) := hx5
      have T5 : Hid (∀ w', Ex w6 w' → SA w' (fun b => (S b ∨ w.heap.size + 3 ≤ b) ∧ b < w1.heap.size) (Q.getD .nil) a5) := fun _ h => SA_ex ht5 h
      obtain ⟨u0, u1⟩ := KC.out w6 hx5
      have hr6 : w6.heap[w.heap.size + 2]? = some (.cells #[.slice none 0 0] 55 (0, 0)) := hx5.blk HR.out
      have HR6 : Hid _ := hr6
      have zq : q < w6.heap.size := World.block_lt_of_cell? _ _ hq5
      have zs := hx5.size
      clear hx5 ht5 r0 r2 m0 m1
      have r0 := cell_of_one hr6
      have r2 := free_of_one hr6
      have hz2 : w.heap.size + 2 < w6.heap.size := by omega
      have hzb : b < w6.heap.size := by omega
      clear zs hr6 IA
      cases Q with
      | none =>
        have RV : R = ifT false (kid l 0) := RR.out.trans (oneT_8n QQ.out)
        have IT : Hid (∀ w', Ex w6 w' → Calls Tryz.prog 151 #[.agg #[.slice a0 (len (kid l 0)) k0], .bool false] w' (TyP eb (fun b => S b ∨ w.heap.size + 3 ≤ b) R w')) := fun w' h => by rw [RV]; exact typeIf_any eb _ _ a0 k0 false w' (G.out w' (X1.out.trans (X6.out.trans h))) (SA_ex V0.out (X6.out.trans h))
        clear RV
        simp only [Option.getD_none, Option.isSome_none] at hq5 ⊢
        go_wp2_with fail
        have HU : Hid (w6.cell? ⟨b, o, none⟩ = some (.slice a0 (len (kid l 0)) k0)) := u0
        obtain ⟨hn0, hn1⟩ := hN0.out
        refine wp_region_held_drew (S := fun w' => Ex w w' ∧ w'.cell? ⟨b, o, none⟩ = some (.slice a0 (len (kid l 0)) k0)) (by kernel_rfl) ⟨(X1.out.trans X6.out).drew, HU.out⟩ (fun hHeld => ?_)
        refine wpAnyH_take (i := 0) (v := ?_) rfl (by kernel_rfl) (by kernel_rfl) (by kernel_rfl) (fun _ _ _ h => h) (Or.inl ⟨by rfl, ?_⟩) (by assumption) ?_
        rotate_left
        · (intro w' hSw; (try dsimp only at hSw); go_simp) <;> with_reducible rfl
        change wpAnyH Tryz.prog _ _ _ _ _ _ (Act.put _ (some 68) _) _
        (try simp only [Act.put, List.setIfInBounds_toArray, List.set_cons_zero, List.set_cons_succ])
        refine wpAnyH_take (i := 1) (v := ?_) rfl (by kernel_rfl) (by kernel_rfl) (by kernel_rfl) (fun _ _ _ h => h) (Or.inl ⟨by rfl, ?_⟩) (by assumption) ?_
        rotate_left
        · (intro w' hSw; (try dsimp only at hSw); go_simp) <;> with_reducible rfl
        change wpAnyH Tryz.prog _ _ _ _ _ _ (Act.put _ (some 69) _) _
        (try simp only [Act.put, List.setIfInBounds_toArray, List.set_cons_zero, List.set_cons_succ])
        refine wpAnyH_take (i := 2) (v := ?_) rfl (by kernel_rfl) (by kernel_rfl) (by kernel_rfl) (fun _ _ _ h => h) (Or.inl ⟨by rfl, ?_⟩) (by assumption) ?_
        rotate_left
        · (intro w' hSw; (try dsimp only at hSw); go_simp) <;> with_reducible rfl
        change wpAnyH Tryz.prog _ _ _ _ _ _ (Act.put _ (some 70) _) _
        (try simp only [Act.put, List.setIfInBounds_toArray, List.set_cons_zero, List.set_cons_succ])
        refine wpAnyH_take (i := 3) (v := ?_) rfl (by kernel_rfl) (by kernel_rfl) (by kernel_rfl) (fun _ _ _ h => h) (Or.inl ⟨by rfl, ?_⟩) (by assumption) ?_
        rotate_left
        · (intro w' hSw; (try dsimp only at hSw); go_simp) <;> with_reducible rfl
        change wpAnyH Tryz.prog _ _ _ _ _ _ (Act.put _ (some 71) _) _
        (try simp only [Act.put, List.setIfInBounds_toArray, List.set_cons_zero, List.set_cons_succ])
        refine wpAnyH_take (i := 4) (v := ?_) rfl (by kernel_rfl) (by kernel_rfl) (by kernel_rfl) (fun _ _ _ h => h) (Or.inl ⟨by rfl, ?_⟩) (by assumption) ?_
        rotate_left
        · (intro w' hSw; (try dsimp only at hSw); go_simp) <;> with_reducible rfl
        change wpAnyH Tryz.prog _ _ _ _ _ _ (Act.put _ (some 72) _) _
        (try simp only [Act.put, List.setIfInBounds_toArray, List.set_cons_zero, List.set_cons_succ])
        refine wpAnyH_take (i := 5) (v := undef) rfl (by kernel_rfl) (by kernel_rfl) (by kernel_rfl) (fun _ _ _ h => h) (Or.inr ⟨by kernel_rfl, rfl⟩) (by assumption) ?_
        change wpAnyH Tryz.prog _ _ _ _ _ _ (Act.put _ (some 73) _) _
        (try simp only [Act.put, List.setIfInBounds_toArray, List.set_cons_zero, List.set_cons_succ])
        refine wpAnyH_take (i := 6) (v := undef) rfl (by kernel_rfl) (by kernel_rfl) (by kernel_rfl) (fun _ _ _ h => h) (Or.inr ⟨by kernel_rfl, rfl⟩) (by assumption) ?_
        change wpAnyH Tryz.prog _ _ _ _ _ _ (Act.put _ (some 74) _) _
        (try simp only [Act.put, List.setIfInBounds_toArray, List.set_cons_zero, List.set_cons_succ])
        refine wpAnyH_take (i := 7) (v := undef) rfl (by kernel_rfl) (by kernel_rfl) (by kernel_rfl) (fun _ _ _ h => h) (Or.inr ⟨by kernel_rfl, rfl⟩) (by assumption) ?_
        change wpAnyH Tryz.prog _ _ _ _ _ _ (Act.put _ (some 75) _) _
        (try simp only [Act.put, List.setIfInBounds_toArray, List.set_cons_zero, List.set_cons_succ])
        refine wpAnyH_take (i := 8) (v := undef) rfl (by kernel_rfl) (by kernel_rfl) (by kernel_rfl) (fun _ _ _ h => h) (Or.inr ⟨by kernel_rfl, rfl⟩) (by assumption) ?_
        change wpAnyH Tryz.prog _ _ _ _ _ _ (Act.put _ (some 76) _) _
        (try simp only [Act.put, List.setIfInBounds_toArray, List.set_cons_zero, List.set_cons_succ])
        refine wpAnyH_take (i := 9) (v := undef) rfl (by kernel_rfl) (by kernel_rfl) (by kernel_rfl) (fun _ _ _ h => h) (Or.inr ⟨by kernel_rfl, rfl⟩) (by assumption) ?_
        change wpAnyH Tryz.prog _ _ _ _ _ _ (Act.put _ (some 77) _) _
        (try simp only [Act.put, List.setIfInBounds_toArray, List.set_cons_zero, List.set_cons_succ])
        refine wpAnyH_take (i := 10) (v := ?_) rfl (by kernel_rfl) (by kernel_rfl) (by kernel_rfl) (fun _ _ _ h => h) (Or.inl ⟨by rfl, ?_⟩) (by assumption) ?_
        rotate_left
        · (intro w' hSw; (try dsimp only at hSw); go_simp) <;> with_reducible rfl
        change wpAnyH Tryz.prog _ _ _ _ _ _ (Act.put _ (some 78) _) _
        (try simp only [Act.put, List.setIfInBounds_toArray, List.set_cons_zero, List.set_cons_succ])
        refine wpAnyH_ready (rs := [11]) (by kernel_rfl) (by simp) ?_
        refine AllReadyH.cons (i := 11) rfl (fun K hK => ?_) AllReadyH.nil
        go_simp
        refine (IT.out _ (Ex.refl _).drew).mono ?_
        rintro e w7 ⟨a7, k7, rfl, hV7, hb7⟩
        have xc : Ex w6 w7 := Ex.trans (Ex.refl _).drew hb7
        have hr7 := xc.blk HR6.out
        have XC : Hid (Ex w6 w7) := xc
        have HR7 : Hid _ := hr7
        have V7 : Hid _ := hV7
        clear r0 r2 hV7 hHeld
        have r0 := cell_of_one hr7
        have r2 := free_of_one hr7
        go_wp2_with fail
        refine hK.out _ _ ?_ (fun hHeld => ?_)
        · exact ⟨X1.out.trans (X6.out.trans XC.out), XC.out.at HU.out⟩
        clear hK
        (try simp only [Act.put, List.setIfInBounds_toArray, List.set_cons_zero, List.set_cons_succ])
        refine wpAnyH_take (i := 12) (v := ?_) rfl (by kernel_rfl) (by kernel_rfl) (by kernel_rfl) (fun _ _ _ h => h) (Or.inl ⟨by rfl, ?_⟩) (by assumption) ?_
        rotate_left
        · (intro w' hSw; (try dsimp only at hSw); go_simp) <;> with_reducible rfl
        change wpAnyH Tryz.prog _ _ _ _ _ _ (Act.put _ (some 80) _) _
        (try simp only [Act.put, List.setIfInBounds_toArray, List.set_cons_zero, List.set_cons_succ])
        refine wpAnyH_take (i := 13) (v := ?_) rfl (by kernel_rfl) (by kernel_rfl) (by kernel_rfl) (fun _ _ _ h => h) (Or.inl ⟨by rfl, ?_⟩) (by assumption) ?_
        rotate_left
        · (intro w' hSw; (try dsimp only at hSw); go_simp) <;> with_reducible rfl
        change wpAnyH Tryz.prog _ _ _ _ _ _ (Act.put _ (some 81) _) _
        (try simp only [Act.put, List.setIfInBounds_toArray, List.set_cons_zero, List.set_cons_succ])
        refine wpAnyH_ready (rs := [14]) (by kernel_rfl) (by simp) ?_
        refine AllReadyH.cons (i := 14) rfl (fun K hK => ?_) AllReadyH.nil
        go_simp
        go_wp2_with fail
        refine hK.out _ _ ?_ (fun hHeld => ?_)
        · exact ⟨(X1.out.trans (X6.out.trans XC.out)).set (by show w.heap.size ≤ w.heap.size + 2; omega) _, (World.cell?_setCell_other _ _ _ _ (fun e => NB.out (congrArg Addr.block e).symm)).trans (XC.out.at HU.out)⟩
        clear hK
        (try simp only [Act.put, List.setIfInBounds_toArray, List.set_cons_zero, List.set_cons_succ])
        refine wpAnyH_take (i := 15) (v := ?_) rfl (by kernel_rfl) (by kernel_rfl) (by kernel_rfl) (fun _ _ _ h => h) (Or.inl ⟨by rfl, ?_⟩) (by assumption) ?_
        rotate_left
        · (intro w' hSw; (try dsimp only at hSw); go_simp) <;> with_reducible rfl
        change wpAnyH Tryz.prog _ _ _ _ _ _ (Act.put _ (some 5) _) _
        (try simp only [Act.put, List.setIfInBounds_toArray, List.set_cons_zero, List.set_cons_succ])
        refine wpAnyH_done (by kernel_rfl) ?_ _
        go_wp2_with fail
        have s0 := World.cell?_setCell_same w7 ⟨w.heap.size + 2, 0, none⟩ (.slice a7 (len (R.getD .nil)) k7) (cell_of_one HR7.out)
        refine bodyPost_ret (v := .tuple #[.agg #[.slice a7 (len (R.getD .nil)) k7], errV eb R.isSome]) (by simp [results, Tryz.results141, go_sem, s0]) rfl ?_
        refine ret_ty (X1.out.trans (X6.out.trans XC.out)) (SA_mono V7.out fun b _ hb => ?_) HS.out (by omega) rfl
        have hz : w6.drew.heap.size = w6.heap.size := rfl
        rcases hb with (hb | hb) | hb
        · exact Or.inl hb
        · exact Or.inr (by omega)
        · rw [hz] at hb; exact Or.inr (by omega)
      | some g =>
        have RV : R = ifT (eqT g (kid l 1)) (kid l 0) := RR.out.trans (oneT_8s QQ.out)
        have FG : fits 4 g = true := part_fits p _ g F0.out QQ.out
        obtain ⟨z, hz⟩ : ∃ z, eqT g (kid l 1) = z := ⟨_, rfl⟩
        rw [hz] at RV
        have IS : Hid (∀ w', Ex w6 w' → Calls Tryz.prog 150 #[.agg #[.slice a5 (len g) c5], .agg #[.slice a1' (len (kid l 1)) k1']] w' fun e w'' => e = .returned (.bool z) ∧ Ex w' w'') := fun w' h => by
          have := typeSame_any 4 g (kid l 1) a5 a1' c5 k1' 0 0 w' FG F1.out (SA_mono (T5.out w' h) fun _ _ _ => Nat.zero_le _) (SA_mono (SA_ex VK.out (X6.out.trans h)) fun _ _ _ => Nat.zero_le _)
          rw [hz] at this; exact this
        have IT : Hid (∀ w', Ex w6 w' → Calls Tryz.prog 151 #[.agg #[.slice a0 (len (kid l 0)) k0], .bool z] w' (TyP eb (fun b => S b ∨ w.heap.size + 3 ≤ b) R w')) := fun w' h => by rw [RV]; exact typeIf_any eb _ _ a0 k0 z w' (G.out w' (X1.out.trans (X6.out.trans h))) (SA_ex V0.out (X6.out.trans h))
        have CC : Hid (∀ w', Ex w6 w' → w'.cell? ⟨b, o, none⟩ = some (.slice a0 (len (kid l 0)) k0) ∧ w'.cell? ⟨w.heap.size + 2, 0, none⟩ = some (.slice none 0 0) ∧ w'.frozen? ⟨w.heap.size + 2, 0, none⟩ = false) := fun w' h => ⟨h.at u0, cell_of_one (h.blk HR6.out), free_of_one (h.blk HR6.out)⟩
        clear RV hz FG
        simp only [Option.getD_some, Option.isSome_some] at hq5 ⊢
        go_wp2_with fail
        go_region_with (first | ((first | (go_at_call 150; refine (IS.out _ (Ex.refl _).drew).mono ?_) | (rw [if_pos (by rfl)]; go_simp; go_at_call 150; refine (IS.out _ (Ex.refl _).drew).mono ?_)); rintro e w5 ⟨rfl, hb5⟩; have xb : Ex w6 w5 := Ex.trans (Ex.refl _).drew hb5; clear u0 r0 r2; obtain ⟨u0, r0, r2⟩ := CC.out w5 xb) | (go_at_call 151; refine (IT.out _ xb).mono ?_; rintro e w7 ⟨a7, k7, rfl, hV7, hb7⟩; have xc : Ex w6 w7 := Ex.trans xb hb7; have hr7 := xc.blk HR6.out; have r0 := cell_of_one hr7; have r2 := free_of_one hr7))
        all_goals
          go_wp2_with fail
          have s0 := World.cell?_setCell_same w7 ⟨w.heap.size + 2, 0, none⟩ (.slice a7 (len (R.getD .nil)) k7) (cell_of_one hr7)
          refine bodyPost_ret (v := .tuple #[.agg #[.slice a7 (len (R.getD .nil)) k7], errV eb R.isSome]) (by simp [results, Tryz.results141, go_sem, s0]) rfl ?_
          refine ret_ty (X1.out.trans (X6.out.trans xc)) (SA_mono hV7 fun b _ hb => ?_) HS.out (by omega) rfl
          have := xb.size
          rcases hb with (hb | hb) | hb
          · exact Or.inl hb
          · exact Or.inr (by omega)
          · exact Or.inr (by omega)

theorem kterm_by (eb : Addr) (S : Nat → Prop) (L : ByteArray → F) (la : Option Addr) (ll lc : Nat) (tm : Option Nat) (mb mn : Nat) (k n : Int) (s : ByteArray) (p : List Int) (pa : Option Addr) (pc : Nat) (f : TM) (a : Option Addr) (c : Nat) (w : World)
    (hG : w.cell? ⟨1, 0, none⟩ = some (EV eb)) (hE : KM w S mb mn L) (hS : ∀ b, S b → b < w.heap.size) (hs : s.size ≤ 9223372036854775807) (hp : p.length ≤ 1000000000) (hP : PA w 0 p pa)
    (hsh : k = 1 ∨ k = 2 ∨ k = 6 ∨ (k = 7 ∧ tlen f = 1) ∨ (k ≠ 7 ∧ tlen f = 2)) (hT : ∀ l, evT L f = some l → ∀ i, i < len l → fits 4 (kid l i) = true)
    (hK : ∀ w', Ex w w' → Calls Tryz.prog 118 #[.agg #[.slice la ll lc, .map tm, .map (some mb)], .slice a (tlen f) c] w' (TysP eb S (evT L f) w')) :
    Calls Tryz.prog 141 #[.agg #[.slice la ll lc, .map tm, .map (some mb)], .agg #[.int .i64 k, .int .i64 n, .string s, .slice pa p.length pc, .slice a (tlen f) c]] w (TyP eb S (oneT L k s p (evT L f)) w) := by
  by_cases k8 : k = 8
  · subst k8
    exact kterm_8 eb S L la ll lc tm mb mn n s p pa pc f a c w hG hE hS hs hp hP (by omega) hT hK
  · exact kterm_n8 eb S L la ll lc tm mb mn k n s p pa pc f a c w hG hE hS hs hp hP k8 hsh hT hK

end Go.Proofs.YtgpdnoghlommeaaGreatDoor

namespace Go.Proofs.YtgpdnoghlommeaaGreatDoor

open Go.RowKit Go.Deep

theorem tok_shape {k n : Int} {s : ByteArray} {p : List Int} {l : Nat} (h : tokB k n s p l = true) : (k = 1 → 0 ≤ n ∧ n ≤ 9999) ∧ l ≤ 2 ∧ (k = 1 ∨ k = 2 ∨ k = 6 ∨ (k = 7 ∧ l = 1) ∨ (k ≠ 7 ∧ l = 2)) := by
  by_cases h1 : k = 1
  · subst h1
    simp only [tokB_1, Bool.and_eq_true, decide_eq_true_eq] at h
    exact ⟨fun _ => ⟨h.2.2.2.1, h.2.2.2.2⟩, by omega, Or.inl rfl⟩
  by_cases h2 : k = 2
  · subst h2
    simp only [tokB_2, Bool.and_eq_true, decide_eq_true_eq] at h
    exact ⟨fun e => absurd e h1, by omega, Or.inr (Or.inl rfl)⟩
  by_cases h3 : k = 3 ∨ k = 4 ∨ k = 5 ∨ k = 6
  · rw [tokB_3 h3] at h
    simp only [Bool.and_eq_true, decide_eq_true_eq] at h
    exact ⟨fun e => absurd e h1, by omega, by omega⟩
  by_cases h7 : k = 7
  · subst h7
    simp only [tokB_7, Bool.and_eq_true, decide_eq_true_eq] at h
    exact ⟨fun e => absurd e h1, by omega, by omega⟩
  by_cases h8 : k = 8
  · subst h8
    simp only [tokB_8, Bool.and_eq_true, decide_eq_true_eq] at h
    exact ⟨fun e => absurd e h1, by omega, by omega⟩
  · rw [tokB_o (by omega)] at h; cases h

theorem kid_tok {ns : List ByteArray} {d : Nat} {f : TM} (h : kidsB ns (d + 1) f = true) {j : Nat} (hj : j < tlen f) : tokB (tkind f j) (tnum f j) (tname f j) (tpath f j) (tlen (tkid f j)) = true ∧ kidsB ns d (tkid f j) = true ∧ (tkind f j = 2 → hasB ns (tname f j) = true) := by
  simp only [kidsB, List.all_eq_true] at h
  have := h j (List.mem_range.2 hj)
  rw [kidB, termB_tok] at this
  simp only [Bool.and_eq_true] at this
  exact ⟨this.1, this.2.2, fun e => by have := this.2.1; rw [decide_eq_true e] at this; simpa using this⟩
theorem kids_zero {ns : List ByteArray} {f : TM} (h : kidsB ns 0 f = true) : tlen f = 0 := by
  simp only [kidsB, List.all_eq_true] at h
  by_cases h0 : tlen f = 0
  · exact h0
  · have := h 0 (List.mem_range.2 (by omega))
    cases this
end Go.Proofs.YtgpdnoghlommeaaGreatDoor
