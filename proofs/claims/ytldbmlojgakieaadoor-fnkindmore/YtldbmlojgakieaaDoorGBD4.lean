/- Walks: KindTerm by the program. Walks: a binding that is ok. -/
import Derived.Test.YtldbmlojgakieaaDoorGKS1
import Derived.Test.YtldbmlojgakieaaDoorGIS2
import Derived.Test.YtldbmlojgakieaaDoorGSZ1
import Derived.Deep.RegionHeld3
namespace Go.Proofs.YtldbmlojgakieaaDoor

open Go.RowKit Go.Deep Go.Maps Go.WideMaps

attribute [local go_sem ↓] Go.wp_at_zero Go.wp_at_succ

/-- Of which type a term is, by names and their types, and whether it is of one. -/
def typeR : Option F → F × Bool
  | some g => (g, true)
  | none => (.nil, false)
def kindR (ns : List ByteArray) (tl : F) (k n : Int) (s : ByteArray) (p : List Int) (f : TM) : F × Bool :=
  if (decide (ns.length = len tl) && (namesB ns && (fitAll tl && termB ns 8 k n s p f))) = true then typeR (oneT (setAll (fun _ => .nil) ns tl ns.length) k s p (evT (setAll (fun _ => .nil) ns tl ns.length) f)) else (.nil, false)
theorem kindR_len {ns : List ByteArray} {tl : F} {k n : Int} {s : ByteArray} {p : List Int} {f : TM} (h : ns.length ≠ len tl) : kindR ns tl k n s p f = (.nil, false) := by
  unfold kindR; rw [decide_eq_false h]; rfl
theorem kindR_names {ns : List ByteArray} {tl : F} {k n : Int} {s : ByteArray} {p : List Int} {f : TM} (h : namesB ns = false) : kindR ns tl k n s p f = (.nil, false) := by
  unfold kindR; rw [h]; simp
theorem kindR_fit {ns : List ByteArray} {tl : F} {k n : Int} {s : ByteArray} {p : List Int} {f : TM} (h : fitAll tl = false) : kindR ns tl k n s p f = (.nil, false) := by
  unfold kindR; rw [h]; simp
theorem kindR_term {ns : List ByteArray} {tl : F} {k n : Int} {s : ByteArray} {p : List Int} {f : TM} (h : termB ns 8 k n s p f = false) : kindR ns tl k n s p f = (.nil, false) := by
  unfold kindR; rw [h]; simp
theorem kindR_ok {ns : List ByteArray} {tl : F} {k n : Int} {s : ByteArray} {p : List Int} {f : TM} (h1 : ns.length = len tl) (h2 : namesB ns = true) (h3 : fitAll tl = true) (h4 : termB ns 8 k n s p f = true) : kindR ns tl k n s p f = typeR (oneT (setAll (fun _ => .nil) ns tl ns.length) k s p (evT (setAll (fun _ => .nil) ns tl ns.length) f)) := by
  unfold kindR; rw [decide_eq_true h1, h2, h3, h4]; rfl
theorem setAll_fit {L : ByteArray → F} (hL : ∀ s, fits 4 (L s) = true) {ns : List ByteArray} {l : F} (hl : fitAll l = true) : ∀ k, k ≤ len l → ∀ s, fits 4 (setAll L ns l k s) = true
  | 0, _, s => hL s
  | k + 1, h, s => by
    rw [setAll, setK]
    split
    · exact fitAll_at hl (by omega)
    · exact setAll_fit hL hl k (by omega) s

/-- A type, or one of the faults. -/
def KoP (ea eb : Addr) (R : F × Bool) (w : World) (e : Ending) (w' : World) : Prop :=
  ∃ er a' c', e = .returned (.tuple #[.agg #[.slice a' (len R.1) c'], er]) ∧ (R.2 = true → er = .nilIface) ∧ (R.2 = false → er = EV ea ∨ er = EV eb) ∧ SA w' (fun _ => True) R.1 a' ∧ Ex w w'

set_option maxRecDepth 100000 in
set_option maxHeartbeats 4000000 in
theorem kindOfTerm_any (ea eb : Addr) (ns : List ByteArray) (na : Option Addr) (nc : Nat) (tl : F) (ta : Option Addr) (tc : Nat) (k n : Int) (s : ByteArray) (p : List Int) (pa : Option Addr) (pc : Nat) (f : TM) (a : Option Addr) (c : Nat) (w : World)
    (hG : Two ea eb w) (hX : XA w 0 ns na) (hz : XLm ns) (hnl : ns.length ≤ 1000000000) (hV : TA w 0 tl ta) (htl : len tl ≤ 1000000000) (hs : s.size ≤ 9223372036854775807) (hp : p.length ≤ 1000000000) (hP : PA w 0 p pa) (hM : MA w 0 f a) (hl : tlen f ≤ 100000000) (hsm : TSm f) (hlm : TLm f) :
    Calls Tryd.prog 20 #[.slice na ns.length nc, .slice ta (len tl) tc, .agg #[.int .i64 k, .int .i64 n, .string s, .slice pa p.length pc, .slice a (tlen f) c]] w (KoP ea eb (kindR ns tl k n s p f) w) := by
  have G : Hid (∀ w', Ex w w' → Two ea eb w') := fun w' h => hG.ex h
  have X : Hid (∀ w', Ex w w' → XA w' 0 ns na) := fun w' h => XA_below hX h
  have V : Hid (∀ w', Ex w w' → TA w' 0 tl ta) := fun w' h => TA_below hV h
  have V0 : Hid (SA w (fun b => b < w.heap.size) tl ta) := SA_mono hV fun b hb _ => hb
  have P : Hid (∀ w', Ex w w' → PA w' 0 p pa) := fun w' h => PA_below hP h
  have M : Hid (∀ w', Ex w w' → MA w' 0 f a) := fun w' h => MA_below hM h
  have N : Hid (Ex w ((w.alloc (.cells #[.int .i64 k, .int .i64 n, .string s, .slice pa p.length pc, .slice a (tlen f) c] 28)).alloc (.cells #[.slice none 0 0] 32))) := (Ex.new _ _).alloc _
  have C : Hid (∀ w', Ex ((w.alloc (.cells #[.int .i64 k, .int .i64 n, .string s, .slice pa p.length pc, .slice a (tlen f) c] 28)).alloc (.cells #[.slice none 0 0] 32)) w' → w'.cell? ⟨w.heap.size, 0, none⟩ = some (.int .i64 k) ∧ w'.cell? ⟨w.heap.size, 1, none⟩ = some (.int .i64 n) ∧ w'.cell? ⟨w.heap.size, 2, none⟩ = some (.string s) ∧ w'.cell? ⟨w.heap.size, 3, none⟩ = some (.slice pa p.length pc) ∧ w'.cell? ⟨w.heap.size, 4, none⟩ = some (.slice a (tlen f) c) ∧ w'.heap[w.heap.size + 1]? = some (.cells #[.slice none 0 0] 32 (0, 0))) := fun w' h => ⟨h.at ((Ex.new _ _).at (by simp)), h.at ((Ex.new _ _).at (by simp)), h.at ((Ex.new _ _).at (by simp)), h.at ((Ex.new _ _).at (by simp)), h.at ((Ex.new _ _).at (by simp)), h.blk (heap_alloc_at _ _ (by simp))⟩
  have Z : Hid (XLm ns) := hz
  have PL : Hid (p.length ≤ 1000000000) := hp
  have SM : Hid (TSm f ∧ TLm f ∧ tlen f ≤ 100000000 ∧ s.size ≤ 9223372036854775807) := ⟨hsm, hlm, hl, hs⟩
  have zg : 1 < w.heap.size := World.block_lt_of_cell? _ _ hG.two
  clear hG hX hz hV hP hM hl hsm hlm hs hp
  obtain ⟨R, hR⟩ : ∃ R, R = kindR ns tl k n s p f := ⟨_, rfl⟩
  have RR : Hid (R = kindR ns tl k n s p f) := hR
  rw [← hR]
  clear hR
  by_cases hlen : ns.length = len tl
  · have e15 : ((ns.length : Int) != (len tl : Int)) = false := by simp [hlen]
    have LE : Hid (ns.length = len tl) := hlen
    clear hlen
    go_enter Tryd.func20, Tryd.ntmps20
    go_wp2_with fail
    refine (namesOk_any ns na nc _ Z.out (X.out _ N.out)).mono ?_
    rintro e w1 ⟨rfl, hb1⟩
    have X1 : Hid (Ex ((w.alloc (.cells #[.int .i64 k, .int .i64 n, .string s, .slice pa p.length pc, .slice a (tlen f) c] 28)).alloc (.cells #[.slice none 0 0] 32)) w1) := hb1
    clear hb1
    cases hn : namesB ns with
    | false =>
      have HR : Hid (R = (.nil, false)) := RR.out.trans (kindR_names hn)
      obtain ⟨_, _, _, _, _, hr⟩ := C.out w1 X1.out
      have g0 := (G.out w1 (N.out.trans X1.out)).one
      have r0 := cell_of_one hr
      have r2 := free_of_one hr
      clear hn
      go_wp2_with fail
      go_region
      all_goals
        go_wp2_with fail
        have s0 := World.cell?_setCell_same w1 ⟨w.heap.size + 1, 0, none⟩ (.slice none 0 0) r0
        refine bodyPost_ret (v := .tuple #[.agg #[.slice none 0 0], EV ea]) (by simp [results, Tryd.results20, go_sem, s0]) rfl ⟨EV ea, none, 0, by rw [HR.out]; rfl, fun h => (by rw [HR.out] at h; cases h), fun _ => Or.inl rfl, by rw [HR.out]; exact Or.inl rfl, ?_⟩
        first | exact ((N.out.trans X1.out).drew.set (by show w.heap.size ≤ w.heap.size + 1; omega) _) | exact ((N.out.trans X1.out).set (by show w.heap.size ≤ w.heap.size + 1; omega) _).drew
    | true =>
      have HN : Hid (namesB ns = true) := hn
      clear hn
      go_wp2_with fail
      refine (typesOk_any tl ta tc _ htl (V.out _ (N.out.trans X1.out))).mono ?_
      rintro e w2 ⟨rfl, hb2⟩
      have X2 : Hid (Ex ((w.alloc (.cells #[.int .i64 k, .int .i64 n, .string s, .slice pa p.length pc, .slice a (tlen f) c] 28)).alloc (.cells #[.slice none 0 0] 32)) w2) := X1.out.trans hb2
      clear hb2
      cases hf : fitAll tl with
      | false =>
        have HR : Hid (R = (.nil, false)) := RR.out.trans (kindR_fit hf)
        obtain ⟨_, _, _, _, _, hr⟩ := C.out w2 X2.out
        have g0 := (G.out w2 (N.out.trans X2.out)).one
        have r0 := cell_of_one hr
        have r2 := free_of_one hr
        clear hf
        go_wp2_with fail
        go_region
        all_goals
          go_wp2_with fail
          have s0 := World.cell?_setCell_same w2 ⟨w.heap.size + 1, 0, none⟩ (.slice none 0 0) r0
          refine bodyPost_ret (v := .tuple #[.agg #[.slice none 0 0], EV ea]) (by simp [results, Tryd.results20, go_sem, s0]) rfl ⟨EV ea, none, 0, by rw [HR.out]; rfl, fun h => (by rw [HR.out] at h; cases h), fun _ => Or.inl rfl, by rw [HR.out]; exact Or.inl rfl, ?_⟩
          first | exact ((N.out.trans X2.out).drew.set (by show w.heap.size ≤ w.heap.size + 1; omega) _) | exact ((N.out.trans X2.out).set (by show w.heap.size ≤ w.heap.size + 1; omega) _).drew
      | true =>
        have HF : Hid (fitAll tl = true) := hf
        clear hf
        have hmm := @run_makeMap Tryd.prog
        obtain ⟨c0, c1, c2, c3, c4, hr⟩ := C.out w2 X2.out
        have HRS : Hid _ := hr
        clear hr
        go_wp2_with fail
        have h60 : ns.length ≤ 60 := by
          have := HN.out
          simp only [namesB, Bool.and_eq_true, decide_eq_true_eq] at this
          exact this.1
        have H60 : Hid (ns.length ≤ 60) := h60
        have XW : Hid (Ex w2 ((w2.alloc (.map #[] 0)).alloc (.cells #[.slice none 0 0, .map (some w2.heap.size)] 70))) := (Ex.new _ _).alloc _
        have XX : Hid (Ex w w2) := N.out.trans X2.out
        have zw : w.heap.size ≤ w2.heap.size := XX.out.size
        have GB : Hid (((w2.alloc (.map #[] 0)).alloc (.cells #[.slice none 0 0, .map (some w2.heap.size)] 70)).cell? ⟨w2.heap.size + 1, 0, none⟩ = some (.slice none 0 0) ∧ ((w2.alloc (.map #[] 0)).alloc (.cells #[.slice none 0 0, .map (some w2.heap.size)] 70)).cell? ⟨w2.heap.size + 1, 1, none⟩ = some (.map (some w2.heap.size))) := ⟨by simp, by simp⟩
        refine (bind_any none 0 0 w2.heap.size 0 [] ns na nc ((w2.alloc (.map #[] 0)).alloc (.cells #[.slice none 0 0, .map (some w2.heap.size)] 70)) ((CM_made w2).ex (Ex.new _ _)) (fun w' h => X.out w' (XX.out.trans (h.to_ex XW.out (Nat.le_refl _)))) Z.out (by omega) (by simpa using (by omega : ns.length ≤ 999999))).mono ?_
        rintro e w4 ⟨rfl, hC4, hF4⟩
        have X4 : Hid (Ex w2 w4) := hF4.to_ex XW.out (Nat.le_refl _)
        have Y4 : Hid (Ex ((w.alloc (.cells #[.int .i64 k, .int .i64 n, .string s, .slice pa p.length pc, .slice a (tlen f) c] 28)).alloc (.cells #[.slice none 0 0] 32)) w4) := X2.out.trans X4.out
        have CM4 : CM w4 w2.heap.size (0 + ns.length) ns := hC4
        have gb0 : w4.cell? ⟨w2.heap.size + 1, 0, none⟩ = some (.slice none 0 0) := hF4.at (by show w2.heap.size + 1 ≠ w2.heap.size; omega) GB.out.1
        have gb1 : w4.cell? ⟨w2.heap.size + 1, 1, none⟩ = some (.map (some w2.heap.size)) := hF4.at (by show w2.heap.size + 1 ≠ w2.heap.size; omega) GB.out.2
        have W4X : Ex w w4 := XX.out.trans X4.out
        have TB : Hid (Calls Tryd.prog 32 #[.agg #[.slice none 0 0, .map (some w2.heap.size)], .agg #[.int .i64 k, .int .i64 n, .string s, .slice pa p.length pc, .slice a (tlen f) c], .int .i64 8] w4 (ErrP ea (termB ns 8 k n s p f) w4)) :=
          term_by ea none 0 0 w2.heap.size (0 + ns.length) ns k n s p pa pc f a c 7 (by omega) w4 (G.out w4 W4X).one CM4 SM.out.2.2.2 (P.out w4 W4X) fun w' h => terms_any ea none 0 0 w2.heap.size (0 + ns.length) ns 7 f a c w' (by omega) (G.out w' (W4X.trans h)).one (CM4.ex h) (M.out w' (W4X.trans h)) (by have := SM.out.2.2.1; omega) SM.out.1 SM.out.2.1
        obtain ⟨tb, htb⟩ : ∃ b, termB ns 8 k n s p f = b := ⟨_, rfl⟩
        have HTB : Hid (termB ns 8 k n s p f = tb) := htb
        rw [htb] at TB
        clear htb hC4 hF4 c0 c1 c2 c3 c4 CM4 W4X GB hmm
        obtain ⟨c0, c1, c2, c3, c4, _⟩ := C.out w4 Y4.out
        go_wp2_with fail
        refine Calls.mono TB.out ?_
        rintro e w5 ⟨rfl, hb5⟩
        have Y5 : Hid (Ex ((w.alloc (.cells #[.int .i64 k, .int .i64 n, .string s, .slice pa p.length pc, .slice a (tlen f) c] 28)).alloc (.cells #[.slice none 0 0] 32)) w5) := Y4.out.trans hb5
        clear gb0 gb1 c0 c1 c2 c3 c4 TB hb5
        obtain ⟨c0, c1, c2, c3, c4, hr5⟩ := C.out w5 Y5.out
        have XX5 : Hid (Ex w w5) := N.out.trans Y5.out
        cases tb with
        | false =>
          have HR : Hid (R = (.nil, false)) := RR.out.trans (kindR_term HTB.out)
          have r0 := cell_of_one hr5
          have r2 := free_of_one hr5
          simp only [errV, Bool.false_eq_true, if_false]
          go_wp2_with fail
          have s0 := World.cell?_setCell_same w5 ⟨w.heap.size + 1, 0, none⟩ (.slice none 0 0) r0
          refine bodyPost_ret (v := .tuple #[.agg #[.slice none 0 0], EV ea]) (by simp [results, Tryd.results20, go_sem, s0]) rfl ⟨EV ea, none, 0, by rw [HR.out]; rfl, fun h => (by rw [HR.out] at h; cases h), fun _ => Or.inl rfl, by rw [HR.out]; exact Or.inl rfl, XX5.out.set (by show w.heap.size ≤ w.heap.size + 1; omega) _⟩
        | true =>
          have HR : Hid (R = typeR (oneT (setAll (fun _ => .nil) ns tl ns.length) k s p (evT (setAll (fun _ => .nil) ns tl ns.length) f))) := RR.out.trans (kindR_ok LE.out HN.out HF.out HTB.out)
          have hmm := @run_makeMap Tryd.prog
          simp only [errV, if_true]
          have XV : Hid (Ex w5 ((w5.alloc (.map #[] 0)).alloc (.cells #[.slice none 0 0, .map none, .map (some w5.heap.size)] 76))) := (Ex.new _ _).alloc _
          have zw5 : w.heap.size ≤ w5.heap.size := XX5.out.size
          have KB : Hid (((w5.alloc (.map #[] 0)).alloc (.cells #[.slice none 0 0, .map none, .map (some w5.heap.size)] 76)).cell? ⟨w5.heap.size + 1, 0, none⟩ = some (.slice none 0 0) ∧ ((w5.alloc (.map #[] 0)).alloc (.cells #[.slice none 0 0, .map none, .map (some w5.heap.size)] 76)).cell? ⟨w5.heap.size + 1, 1, none⟩ = some (.map none) ∧ ((w5.alloc (.map #[] 0)).alloc (.cells #[.slice none 0 0, .map none, .map (some w5.heap.size)] 76)).cell? ⟨w5.heap.size + 1, 2, none⟩ = some (.map (some w5.heap.size))) := ⟨by simp, by simp, by simp⟩
          clear RR hr5
          go_wp2_with fail
          refine (bindEachT_any (fun b => b < w.heap.size) w5.heap.size 0 (fun _ => .nil) ns na nc tl ta tc ((w5.alloc (.map #[] 0)).alloc (.cells #[.slice none 0 0, .map none, .map (some w5.heap.size)] 76)) ((KM_made w5 _).ex (Ex.new _ _)) (fun h => by have : w5.heap.size < w.heap.size := h; omega) (fun w' h => X.out w' (XX5.out.trans (h.to_ex XV.out (Nat.le_refl _)))) Z.out (SA_ex V0.out (XX5.out.trans XV.out)) LE.out (by omega)).mono ?_
          rintro e w7 ⟨rfl, hK7, hF7⟩
          have X7 : Hid (Ex w5 w7) := hF7.to_ex XV.out (Nat.le_refl _)
          have Y7 : Hid (Ex ((w.alloc (.cells #[.int .i64 k, .int .i64 n, .string s, .slice pa p.length pc, .slice a (tlen f) c] 28)).alloc (.cells #[.slice none 0 0] 32)) w7) := Y5.out.trans X7.out
          have XX7 : Hid (Ex w w7) := N.out.trans Y7.out
          have kb0 : w7.cell? ⟨w5.heap.size + 1, 0, none⟩ = some (.slice none 0 0) := hF7.at (by show w5.heap.size + 1 ≠ w5.heap.size; omega) KB.out.1
          have kb1 : w7.cell? ⟨w5.heap.size + 1, 1, none⟩ = some (.map none) := hF7.at (by show w5.heap.size + 1 ≠ w5.heap.size; omega) KB.out.2.1
          have kb2 : w7.cell? ⟨w5.heap.size + 1, 2, none⟩ = some (.map (some w5.heap.size)) := hF7.at (by show w5.heap.size + 1 ≠ w5.heap.size; omega) KB.out.2.2
          have KM7 : Hid (KM w7 (fun b => b < w.heap.size) w5.heap.size (0 + ns.length) (setAll (fun _ => .nil) ns tl ns.length)) := hK7
          have HL : Hid (∀ s, fits 4 (setAll (fun _ => .nil) ns tl ns.length s) = true) := setAll_fit (fun _ => rfl) HF.out ns.length (by have := LE.out; omega)
          have HKT : tokB k n s p (tlen f) = true ∧ kidsB ns 7 f = true := by
            have h := HTB.out
            rw [termB_tok] at h
            simp only [Bool.and_eq_true] at h
            exact ⟨h.1, h.2.2⟩
          obtain ⟨L, hL⟩ : ∃ L : ByteArray → F, L = setAll (fun _ => .nil) ns tl ns.length := ⟨_, rfl⟩
          rw [← hL] at KM7 HL HR
          have hSl : ∀ b, b < w.heap.size → b < w7.heap.size := fun b hb => Nat.lt_of_lt_of_le hb XX7.out.size
          have TK : Hid (Calls Tryd.prog 34 #[.agg #[.slice none 0 0, .map none, .map (some w5.heap.size)], .agg #[.int .i64 k, .int .i64 n, .string s, .slice pa p.length pc, .slice a (tlen f) c]] w7 (TyP eb (fun b => b < w.heap.size) (oneT L k s p (evT L f)) w7)) :=
            kterm_by eb (fun b => b < w.heap.size) L none 0 0 none w5.heap.size (0 + ns.length) k n s p pa pc f a c w7 (G.out w7 XX7.out).two KM7.out hSl SM.out.2.2.2 PL.out (P.out w7 XX7.out) (tok_shape HKT.1).2.2 (evt_fit HL.out ns 7 f HKT.2) fun w' h => kterms_any eb (fun b => b < w.heap.size) L HL.out none 0 0 none w5.heap.size (0 + ns.length) ns 7 f a c w' (G.out w' (XX7.out.trans h)).two (KM7.out.ex h) (fun b hb => Nat.lt_of_lt_of_le (hSl b hb) h.size) (M.out w' (XX7.out.trans h)) (SM.out.2.2.1) SM.out.1 SM.out.2.1 HKT.2
          obtain ⟨Q, hQ⟩ : ∃ Q, Q = oneT L k s p (evT L f) := ⟨_, rfl⟩
          rw [← hQ] at TK HR
          clear hQ hL HKT hK7 hF7 KB KM7 HL hSl c0 c1 c2 c3 c4 hmm
          obtain ⟨c0, c1, c2, c3, c4, _⟩ := C.out w7 Y7.out
          go_wp2_with fail
          refine Calls.mono TK.out ?_
          rintro e w8 ⟨a8, c8, rfl, hV8, hb8⟩
          have V8 : Hid _ := hV8
          have XX8 : Hid (Ex w w8) := XX7.out.trans hb8
          have zw7 : w.heap.size + 1 < w7.heap.size := by have := Y7.out.size; simp only [World.size_alloc] at this; omega
          obtain ⟨_, _, _, _, _, hr8⟩ := C.out w8 (Y7.out.trans hb8)
          clear kb0 kb1 kb2 c0 c1 c2 c3 c4 TK hV8 hb8
          have r0 := cell_of_one hr8
          have r2 := free_of_one hr8
          go_wp2_with fail
          have s0 := World.cell?_setCell_same w8 ⟨w.heap.size + 1, 0, none⟩ (.slice a8 (len (Q.getD .nil)) c8) r0
          have e1 : (typeR Q).1 = Q.getD .nil := by cases Q <;> rfl
          refine bodyPost_ret (v := .tuple #[.agg #[.slice a8 (len (Q.getD .nil)) c8], errV eb Q.isSome]) (by simp [results, Tryd.results20, go_sem, s0]) rfl ⟨errV eb Q.isSome, a8, c8, by rw [HR.out, e1], fun h => ?_, fun h => ?_, ?_, XX8.out.set (by show w.heap.size ≤ w.heap.size + 1; omega) _⟩
          · rw [HR.out] at h
            cases Q with
            | none => cases h
            | some g => rfl
          · rw [HR.out] at h
            cases Q with
            | none => exact Or.inr rfl
            | some g => cases h
          · rw [HR.out, e1]
            refine SA_mono (SA_ks V8.out fun b hb _ => Below.heap_setCell _ _ _ _ ?_) fun _ _ _ => trivial
            show b ≠ w.heap.size + 1
            rcases hb with hb | hb
            · have : b < w.heap.size := hb; omega
            · omega
  · have e15 : ((ns.length : Int) != (len tl : Int)) = true := by simp; omega
    have HR : Hid (R = (.nil, false)) := RR.out.trans (kindR_len hlen)
    have g0 := (G.out _ N.out).one
    clear hlen
    go_enter Tryd.func20, Tryd.ntmps20
    go_wp2_with fail
    go_region
    all_goals
      go_wp2_with fail
      refine bodyPost_ret (v := .tuple #[.agg #[.slice none 0 0], EV ea]) (by simp [results, Tryd.results20, go_sem]) rfl ⟨EV ea, none, 0, by rw [HR.out]; rfl, fun h => (by rw [HR.out] at h; cases h), fun _ => Or.inl rfl, by rw [HR.out]; exact Or.inl rfl, ?_⟩
      first | exact N.out.drew.set (by show w.heap.size ≤ w.heap.size + 1; omega) _ | exact (N.out.set (by show w.heap.size ≤ w.heap.size + 1; omega) _).drew | exact N.out.drew | exact N.out | exact ((Ex.new _ _).drew.alloc _) | exact ((Ex.new _ _).alloc _).drew | exact ((Ex.new _ _).alloc _)

/-- What KindTerm tells. -/
def KtP (R : F × Bool) (w : World) (e : Ending) (w' : World) : Prop := ∃ a' c', e = .returned (.tuple #[.agg #[.slice a' (len R.1) c'], .bool R.2]) ∧ TA w' w.heap.size R.1 a' ∧ Ex w w'
theorem kindR_nil {ns : List ByteArray} {tl : F} {k n : Int} {s : ByteArray} {p : List Int} {f : TM} (h : (kindR ns tl k n s p f).2 = false) : (kindR ns tl k n s p f).1 = .nil := by
  unfold kindR at h ⊢
  split at h
  · rename_i hc
    rw [if_pos hc]
    cases hO : oneT (setAll (fun _ => .nil) ns tl ns.length) k s p (evT (setAll (fun _ => .nil) ns tl ns.length) f) with
    | none => rfl
    | some g => rw [hO] at h; cases h
  · rename_i hc
    rw [if_neg hc]
theorem kindR_fits {ns : List ByteArray} {tl : F} {k n : Int} {s : ByteArray} {p : List Int} {f : TM} : fits 4 (kindR ns tl k n s p f).1 = true := by
  unfold kindR
  split
  · rename_i h
    simp only [Bool.and_eq_true, decide_eq_true_eq] at h
    obtain ⟨h1, h2, h3, h4⟩ := h
    rw [termB_tok] at h4
    simp only [Bool.and_eq_true] at h4
    have HL := setAll_fit (L := fun _ => .nil) (fun _ => rfl) (ns := ns) h3 ns.length (by omega)
    cases hE : evT (setAll (fun _ => .nil) ns tl ns.length) f with
    | none => rfl
    | some l =>
      cases hO : oneT (setAll (fun _ => .nil) ns tl ns.length) k s p (some l) with
      | none => rfl
      | some g => exact one_fit HL (evt_fit HL ns 7 f h4.2.2 l hE) (evT_len hE) (tok_shape h4.1).2.2 hO
  · rfl

set_option maxRecDepth 100000 in
set_option maxHeartbeats 4000000 in
theorem iKindTerm_any (ea eb : Addr) (ns : List ByteArray) (na : Option Addr) (nc : Nat) (tl : F) (ta : Option Addr) (tc : Nat) (k n : Int) (s : ByteArray) (p : List Int) (pa : Option Addr) (pc : Nat) (f : TM) (a : Option Addr) (c : Nat) (w : World)
    (hG : Two ea eb w) (hX : XA w 0 ns na) (hz : XLm ns) (hnl : ns.length ≤ 1000000000) (hV : TA w 0 tl ta) (htl : len tl ≤ 1000000000) (hs : s.size ≤ 9223372036854775807) (hp : p.length ≤ 1000000000) (hP : PA w 0 p pa) (hM : MA w 0 f a) (hl : tlen f ≤ 100000000) (hsm : TSm f) (hlm : TLm f) :
    Calls Tryd.prog 6 #[.slice na ns.length nc, .slice ta (len tl) tc, .agg #[.int .i64 k, .int .i64 n, .string s, .slice pa p.length pc, .slice a (tlen f) c]] w (KtP (kindR ns tl k n s p f) w) := by
  have N : Hid (Ex w ((w.alloc (.cells #[.int .i64 k, .int .i64 n, .string s, .slice pa p.length pc, .slice a (tlen f) c] 28)).alloc (.cells #[.slice none 0 0] 32))) := (Ex.new _ _).alloc _
  have KO : Hid (Calls Tryd.prog 20 #[.slice na ns.length nc, .slice ta (len tl) tc, .agg #[.int .i64 k, .int .i64 n, .string s, .slice pa p.length pc, .slice a (tlen f) c]] ((w.alloc (.cells #[.int .i64 k, .int .i64 n, .string s, .slice pa p.length pc, .slice a (tlen f) c] 28)).alloc (.cells #[.slice none 0 0] 32)) (KoP ea eb (kindR ns tl k n s p f) ((w.alloc (.cells #[.int .i64 k, .int .i64 n, .string s, .slice pa p.length pc, .slice a (tlen f) c] 28)).alloc (.cells #[.slice none 0 0] 32)))) := kindOfTerm_any ea eb ns na nc tl ta tc k n s p pa pc f a c _ (hG.ex N.out) (XA_below hX N.out) hz hnl (TA_below hV N.out) htl hs hp (PA_below hP N.out) (MA_below hM N.out) hl hsm hlm
  have G : Hid (∀ w', Ex w w' → Two ea eb w') := fun w' h => hG.ex h
  have HB : Hid (((w.alloc (.cells #[.int .i64 k, .int .i64 n, .string s, .slice pa p.length pc, .slice a (tlen f) c] 28)).alloc (.cells #[.slice none 0 0] 32)).heap[w.heap.size + 1]? = some (.cells #[.slice none 0 0] 32 (0, 0))) := heap_alloc_at _ _ (by simp)
  have FT : Hid (fits 4 (kindR ns tl k n s p f).1 = true) := kindR_fits
  have FN : Hid ((kindR ns tl k n s p f).2 = false → (kindR ns tl k n s p f).1 = .nil) := kindR_nil
  have c0 : ((w.alloc (.cells #[.int .i64 k, .int .i64 n, .string s, .slice pa p.length pc, .slice a (tlen f) c] 28)).alloc (.cells #[.slice none 0 0] 32)).cell? ⟨w.heap.size, 0, none⟩ = some (.int .i64 k) := (Ex.new _ _).at (by simp)
  have c1 : ((w.alloc (.cells #[.int .i64 k, .int .i64 n, .string s, .slice pa p.length pc, .slice a (tlen f) c] 28)).alloc (.cells #[.slice none 0 0] 32)).cell? ⟨w.heap.size, 1, none⟩ = some (.int .i64 n) := (Ex.new _ _).at (by simp)
  have c2 : ((w.alloc (.cells #[.int .i64 k, .int .i64 n, .string s, .slice pa p.length pc, .slice a (tlen f) c] 28)).alloc (.cells #[.slice none 0 0] 32)).cell? ⟨w.heap.size, 2, none⟩ = some (.string s) := (Ex.new _ _).at (by simp)
  have c3 : ((w.alloc (.cells #[.int .i64 k, .int .i64 n, .string s, .slice pa p.length pc, .slice a (tlen f) c] 28)).alloc (.cells #[.slice none 0 0] 32)).cell? ⟨w.heap.size, 3, none⟩ = some (.slice pa p.length pc) := (Ex.new _ _).at (by simp)
  have c4 : ((w.alloc (.cells #[.int .i64 k, .int .i64 n, .string s, .slice pa p.length pc, .slice a (tlen f) c] 28)).alloc (.cells #[.slice none 0 0] 32)).cell? ⟨w.heap.size, 4, none⟩ = some (.slice a (tlen f) c) := (Ex.new _ _).at (by simp)
  clear hG hX hz hnl hV htl hs hp hP hM hl hsm hlm
  obtain ⟨R, hR⟩ : ∃ R, R = kindR ns tl k n s p f := ⟨_, rfl⟩
  rw [← hR] at KO FT FN ⊢
  clear hR
  obtain ⟨g, ok⟩ := R
  go_enter Tryd.func6, Tryd.ntmps6
  go_wp2_with fail
  refine Calls.mono KO.out ?_
  rintro e w1 ⟨er, a1, c1', rfl, he1, he2, hV1, hb1⟩
  have X1 : Hid (Ex w w1) := N.out.trans hb1
  have V1 : Hid (SA w1 (fun _ => True) g a1) := hV1
  have hr1 := hb1.blk HB.out
  have HR1 : Hid _ := hr1
  have TC : Hid (∀ w', Ex w1 w' → Calls Tryd.prog 22 #[.agg #[.slice a1 (len g) c1']] w' fun e w'' => ∃ a' cap', e = .returned (.agg #[.slice a' (len g) cap']) ∧ TA w'' w'.heap.size g a' ∧ Ex w' w'') := fun w' h => typeCopy_any 4 g a1 c1' 0 w' FT.out (SA_mono (SA_ex V1.out h) fun _ _ _ => Nat.zero_le _)
  clear c0 c1 c2 c3 c4 hV1 KO HB
  cases ok with
  | false =>
    have hg : g = .nil := FN.out rfl
    have E2 : Hid (er = EV ea ∨ er = EV eb) := he2 rfl
    have NK : Hid (∀ w', Ex w1 w' → Calls Tryd.prog 21 #[er] w' fun e w'' => e = .returned (.bool true) ∧ Ex w' w'') := fun w' h => by
      rcases E2.out with e | e
      · rw [e]; exact noKind_one ea eb w' (G.out w' (X1.out.trans h))
      · rw [e]; exact noKind_two ea eb w' (G.out w' (X1.out.trans h))
    subst hg
    clear he1 he2 E2 hr1 hb1 TC V1 FT
    go_wp2_with fail
    refine (NK.out _ (Ex.new _ _)).mono ?_
    rintro e w2 ⟨rfl, hb2⟩
    have xb : Ex w1 w2 := (Ex.new _ _).trans hb2
    have hr2 := xb.blk HR1.out
    have XX : Hid (Ex w w2) := X1.out.trans xb
    have r0 := cell_of_one hr2
    have r2 := free_of_one hr2
    go_wp2_with fail
    have s0 := World.cell?_setCell_same w2 ⟨w.heap.size + 1, 0, none⟩ (.slice none 0 0) r0
    exact bodyPost_ret (v := .tuple #[.agg #[.slice none 0 0], .bool false]) (by simp [results, Tryd.results6, go_sem, s0]) rfl ⟨none, 0, rfl, Or.inl rfl, XX.out.set (by show w.heap.size ≤ w.heap.size + 1; omega) _⟩
  | true =>
    have E1 : er = .nilIface := he1 rfl
    subst E1
    have q8 : Hid ((w1.alloc (.cells #[.slice a1 (len g) c1'] 32)).cell? ⟨w1.heap.size, 0, none⟩ = some (.slice a1 (len g) c1')) := by show _ = _; simp
    clear he1 he2 hr1 hb1 V1 FT
    go_wp2_with fail
    refine (noKind_nil ea eb _ (G.out _ (X1.out.trans (Ex.new _ _)))).mono ?_
    rintro e w2 ⟨rfl, hb2⟩
    have c8 := hb2.at q8.out
    have xb : Ex w1 w2 := (Ex.new _ _).trans hb2
    have XB : Hid (Ex w1 w2) := xb
    clear q8 hb2
    go_wp2_with fail
    refine (TC.out _ XB.out).mono ?_
    rintro e w3 ⟨a3, c3, rfl, hT3, hb3⟩
    have T3 : Hid (TA w3 w2.heap.size g a3) := hT3
    have hr3 := (XB.out.trans hb3).blk HR1.out
    have XX : Hid (Ex w w3) := X1.out.trans (XB.out.trans hb3)
    have zz : w.heap.size + 1 < w2.heap.size := lt_of_block (XB.out.blk HR1.out)
    clear c8 hT3
    have r0 := cell_of_one hr3
    have r2 := free_of_one hr3
    go_wp2_with fail
    have s0 := World.cell?_setCell_same w3 ⟨w.heap.size + 1, 0, none⟩ (.slice a3 (len g) c3) r0
    refine bodyPost_ret (v := .tuple #[.agg #[.slice a3 (len g) c3], .bool true]) (by simp [results, Tryd.results6, go_sem, s0]) rfl ⟨a3, c3, rfl, TA_lo (TA_kp T3.out ((Kp.refl _ _).set (Or.inl (by show w.heap.size + 1 < w2.heap.size; omega)) _)) (by omega), XX.out.set (by show w.heap.size ≤ w.heap.size + 1; omega) _⟩

end Go.Proofs.YtldbmlojgakieaaDoor

namespace Go.Proofs.YtldbmlojgakieaaDoor

open Go.RowKit Go.Deep

attribute [local go_sem ↓] Go.wp_at_zero Go.wp_at_succ

theorem XA_take {w : World} {lo : Nat} {p : List ByteArray} {a : Option Addr} (h : XA w lo p a) (j : Nat) (hj : j ≤ p.length) : XA w lo (p.take j) a ∧ (p.take j).length = j := by
  have hl : (p.take j).length = j := by rw [List.length_take]; omega
  refine ⟨?_, hl⟩
  rcases h with h | ⟨b, o, e, hb, hc⟩
  · exact Or.inl (by omega)
  · refine Or.inr ⟨b, o, e, hb, fun i hi => ?_⟩
    rw [hc i (by omega)]
    simp only [List.getD]
    rw [List.getElem?_take_of_lt (by omega)]

theorem bindB_len {fs : List PM} {rec : List ByteArray → BD → TM → Bool} {ns : List ByteArray} {k : Int} {nm : List ByteArray} {fn : ByteArray} {ts : TM} {tb : BD} {tz : TM} {eb : BD} {ez : TM} (h : 60 < nm.length) : bindB fs rec ns k nm fn ts tb tz eb ez = false := by
  simp [bindB, show ¬ nm.length ≤ 60 by omega]
theorem bindB_terms {fs : List PM} {rec : List ByteArray → BD → TM → Bool} {ns : List ByteArray} {k : Int} {nm : List ByteArray} {fn : ByteArray} {ts : TM} {tb : BD} {tz : TM} {eb : BD} {ez : TM} (h : termsB ns ts = false) : bindB fs rec ns k nm fn ts tb tz eb ez = false := by
  simp [bindB, h]
theorem bindB_uniq {fs : List PM} {rec : List ByteArray → BD → TM → Bool} {ns : List ByteArray} {k : Int} {nm : List ByteArray} {fn : ByteArray} {ts : TM} {tb : BD} {tz : TM} {eb : BD} {ez : TM} (h : uniqB nm = false) : bindB fs rec ns k nm fn ts tb tz eb ez = false := by
  simp [bindB, h]
theorem bindB_kind {fs : List PM} {rec : List ByteArray → BD → TM → Bool} {ns : List ByteArray} {k : Int} {nm : List ByteArray} {fn : ByteArray} {ts : TM} {tb : BD} {tz : TM} {eb : BD} {ez : TM} (h1 : nm.length ≤ 60) (h2 : termsB ns ts = true) (h3 : uniqB nm = true) : bindB fs rec ns k nm fn ts tb tz eb ez = kindB fs rec ns k nm fn ts tb tz eb ez := by
  simp only [bindB, h1, h2, h3, decide_true, Bool.true_and]

theorem kindB_1 {fs : List PM} {rec : List ByteArray → BD → TM → Bool} {ns : List ByteArray} {nm : List ByteArray} {fn : ByteArray} {ts : TM} {tb : BD} {tz : TM} {eb : BD} {ez : TM} : kindB fs rec ns 1 nm fn ts tb tz eb ez = (decide (blen tb + tlen tz + blen eb + tlen ez = 0) && (decide (fn.size = 0) && (decide (nm.length = 1) && decide (tlen ts = 1)))) := rfl
theorem kindB_2 {fs : List PM} {rec : List ByteArray → BD → TM → Bool} {ns : List ByteArray} {nm : List ByteArray} {fn : ByteArray} {ts : TM} {tb : BD} {tz : TM} {eb : BD} {ez : TM} : kindB fs rec ns 2 nm fn ts tb tz eb ez = (decide (blen tb + tlen tz + blen eb + tlen ez = 0) && ((arityR fs fn).2.2 && (decide ((arityR fs fn).1 = tlen ts) && decide ((arityR fs fn).2.1 = nm.length)))) := rfl
theorem kindB_3 {fs : List PM} {rec : List ByteArray → BD → TM → Bool} {ns : List ByteArray} {nm : List ByteArray} {fn : ByteArray} {ts : TM} {tb : BD} {tz : TM} {eb : BD} {ez : TM} : kindB fs rec ns 3 nm fn ts tb tz eb ez = (decide (fn.size = 0) && (decide (tlen ts = 1) && (rec ns tb tz && (rec ns eb ez && (decide (tlen tz = nm.length) && decide (tlen ez = nm.length)))))) := rfl
theorem kindB_o {fs : List PM} {rec : List ByteArray → BD → TM → Bool} {ns : List ByteArray} {nm : List ByteArray} {fn : ByteArray} {ts : TM} {tb : BD} {tz : TM} {eb : BD} {ez : TM} {k : Int} (h1 : ¬ k = 1) (h2 : ¬ k = 2) (h3 : ¬ k = 3) : kindB fs rec ns k nm fn ts tb tz eb ez = false := by
  unfold kindB; rw [if_neg h1, if_neg h2, if_neg h3]

end Go.Proofs.YtldbmlojgakieaaDoor
