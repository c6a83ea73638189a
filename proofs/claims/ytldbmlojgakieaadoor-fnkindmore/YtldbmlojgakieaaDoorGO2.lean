/- The operations of that region keep what holds. That region, whatever order is drawn. The law on one name more, walked. A type that comes in, opened. What an argument that is a list of numbers is. -/
import Derived.Test.YtldbmlojgakieaaDoorGLK7
import Derived.Test.YtldbmlojgakieaaDoorGLK4
import Derived.Test.YtldbmlojgakieaaDoorGKT2
import Derived.Deep.Slices
import Derived.Test.YtldbmlojgakieaaDoorGD1
import Derived.WalkKit
import Derived.ProofKit
import Derived.OpenShut
namespace Go.Proofs.YtldbmlojgakieaaDoor

open Go.RowKit Go.Deep

set_option maxRecDepth 100000 in
set_option maxHeartbeats 1000000 in
theorem op8_0 {pos : String} {A0 : Act} {W0 : World} {Q : Exit → Act → World → Prop} {r : F} {ok : Bool} {V3 V4 T : Value} {nl tl : List Value} {zz : Value} {L : Array Bool} {a : Act} {w : World} (hA : A0.tmps.size = 78) (hI : I8 r ok V3 V4 T nl tl zz A0 W0 L a w) (hi : 0 ∈ Region.ready .any (ops8 pos) L)  :
    wpOp Tryd.prog (ops8 pos) Q 0 (fun a' w' => I8 r ok V3 V4 T nl tl zz A0 W0 (L.setIfInBounds 0 true) a' w') a w := by
  obtain ⟨val, fam, ha, hJ, hL, h0, _, _⟩ := hI.open hA hi
  refine wpOp_step rfl fun K' hK' => ?_
  refine step_run rfl (run_bsS0 _ _ _ _ _) (hK' _ _ ?_)
  exact I8.put 0 hA ha hL (by decide) (by decide) (hJ.turn 0 (q := 0) (Turn.of_ex (Ex.new _ _) (Nat.le_refl _) (by simp)) ⟨fun h => (by omega), fun h => (by omega), fun h => (by omega), fun h => (by omega), fun h => (by omega)⟩ _ (RowAt.new [] (by decide)) (hJ.apart 0 h0 (by decide) ⟨fun h => (by omega), fun h => (by omega), fun h => (by omega), fun h => (by omega), fun h => (by omega)⟩))
set_option maxRecDepth 100000 in
set_option maxHeartbeats 1000000 in
theorem op8_1 {pos : String} {A0 : Act} {W0 : World} {Q : Exit → Act → World → Prop} {r : F} {ok : Bool} {V3 V4 T : Value} {nl tl : List Value} {zz : Value} {L : Array Bool} {a : Act} {w : World} (hA : A0.tmps.size = 78) (hI : I8 r ok V3 V4 T nl tl zz A0 W0 L a w) (hi : 1 ∈ Region.ready .any (ops8 pos) L) (h3 : A0.eval (.tmp 3) = V3) :
    wpOp Tryd.prog (ops8 pos) Q 1 (fun a' w' => I8 r ok V3 V4 T nl tl zz A0 W0 (L.setIfInBounds 1 true) a' w') a w := by
  obtain ⟨val, fam, ha, hJ, hL, _, _, eout⟩ := hI.open hA hi
  refine wpOp_step rfl fun K' hK' => ?_
  refine step_run rfl (run_move _ _ _ _ _ _ _) (hK' _ _ ?_)
  exact I8.put 1 hA ha hL (by decide) (by decide) (hJ.pure 1 (Ex.refl _) ⟨fun h => (by omega), fun h => (by omega), fun h => (by omega), fun h => (by omega), fun h => (by omega)⟩ _ ((eout 3 (by decide) (by decide)).trans h3) (by decide))
set_option maxRecDepth 100000 in
set_option maxHeartbeats 1000000 in
theorem op8_2 {pos : String} {A0 : Act} {W0 : World} {Q : Exit → Act → World → Prop} {r : F} {ok : Bool} {V3 V4 T : Value} {nl tl : List Value} {zz : Value} {L : Array Bool} {a : Act} {w : World} (hA : A0.tmps.size = 78) (hI : I8 r ok V3 V4 T nl tl zz A0 W0 L a w) (hi : 2 ∈ Region.ready .any (ops8 pos) L) {b o n nc : Nat} (hV : V3 = .slice (some ⟨b, o, none⟩) n nc) (nll : nl.length = n) (nlc : ∀ j x, nl[j]? = some x → W0.cell? ⟨b, o + j, none⟩ = some x) (nl1 : ∀ x ∈ nl, x.oneCell' = true) (hn : 0 < n ∧ n ≤ 1000) :
    wpOp Tryd.prog (ops8 pos) Q 2 (fun a' w' => I8 r ok V3 V4 T nl tl zz A0 W0 (L.setIfInBounds 2 true) a' w') a w := by
  obtain ⟨val, fam, ha, hJ, hL, h0, ein, _⟩ := hI.open hA hi
  have hlo := hJ.ex.size
  obtain ⟨is, his, hs0, hs1, hs2⟩ := info_parts infoStr
  have d0 : L.getD 0 false = true := ready_dep hi rfl 0 rfl rfl
  have d1 : L.getD 1 false = true := ready_dep hi rfl 1 rfl rfl
  have p0 : RowAt w fam 0 9 (val 57) [] := hJ.got 0 (by omega) d0 (by show (!L.getD 2 false) = true; rw [h0]; rfl)
  have p1 : val 58 = V3 := hJ.got 1 (by omega) d1 rfl
  obtain ⟨o0, o1⟩ := p0.owns hJ.fm
  refine wpOp_step rfl fun K' hK' => ?_
  refine step_append_lies w rfl (.tmp 57) (.tmp 58) 23 rfl W0.heap.size 9 is _ 1 16 Tryd.underlying23 his hs0 hs1 hs2 rfl (by omega) (val 57) 0 [] (ein 57 (by decide)) o0 ⟨b, o, none⟩ n nc nl (((ein 58 (by decide)).trans p1).trans hV) (by omega) (fun j x hx => hJ.ex.at (by rw [Go.WideShapes.add_plain]; exact nlc j x hx)) nl1 hn.1 (by unfold maxLen; omega) (by omega) hlo w.heap.size rfl ?_
  intro g cap w' h1 h2 h3 h4
  rw [List.nil_append, Nat.zero_add] at h1
  rw [Nat.zero_add]
  refine hK' _ _ (I8.put 2 hA ha hL (by decide) (by decide) (hJ.turn 2 (q := 0) (g := g) (Turn.grown h2 o1 h3 h4) ⟨fun _ => d0, fun h => (by omega), fun h => (by omega), fun h => (by omega), fun h => (by omega)⟩ _ (RowAt.made h1) (hJ.apart 2 h0 (by decide) ⟨fun _ => d0, fun h => (by omega), fun h => (by omega), fun h => (by omega), fun h => (by omega)⟩)))
set_option maxRecDepth 100000 in
set_option maxHeartbeats 1000000 in
theorem op8_3 {pos : String} {A0 : Act} {W0 : World} {Q : Exit → Act → World → Prop} {r : F} {ok : Bool} {V3 V4 T : Value} {nl tl : List Value} {zz : Value} {L : Array Bool} {a : Act} {w : World} (hA : A0.tmps.size = 78) (hI : I8 r ok V3 V4 T nl tl zz A0 W0 L a w) (hi : 3 ∈ Region.ready .any (ops8 pos) L) (hzz : zz = .string ⟨#[122, 122]⟩) :
    wpOp Tryd.prog (ops8 pos) Q 3 (fun a' w' => I8 r ok V3 V4 T nl tl zz A0 W0 (L.setIfInBounds 3 true) a' w') a w := by
  obtain ⟨val, fam, ha, hJ, hL, h0, _, _⟩ := hI.open hA hi
  subst hzz
  refine wpOp_step rfl fun K' hK' => ?_
  refine step_run rfl (run_bsS1 _ _ _ _ _ _ _ rfl) (hK' _ _ ?_)
  exact I8.put 3 hA ha hL (by decide) (by decide) (hJ.turn 3 (q := 1) (Turn.of_ex (Ex.new _ _) (Nat.le_refl _) (by simp)) ⟨fun h => (by omega), fun h => (by omega), fun h => (by omega), fun h => (by omega), fun h => (by omega)⟩ _ (RowAt.new [.string ⟨#[122, 122]⟩] (by decide)) (hJ.apart 3 h0 (by decide) ⟨fun h => (by omega), fun h => (by omega), fun h => (by omega), fun h => (by omega), fun h => (by omega)⟩))
set_option maxRecDepth 100000 in
set_option maxHeartbeats 1000000 in
theorem op8_4 {pos : String} {A0 : Act} {W0 : World} {Q : Exit → Act → World → Prop} {r : F} {ok : Bool} {V3 V4 T : Value} {nl tl : List Value} {zz : Value} {L : Array Bool} {a : Act} {w : World} (hA : A0.tmps.size = 78) (hI : I8 r ok V3 V4 T nl tl zz A0 W0 L a w) (hi : 4 ∈ Region.ready .any (ops8 pos) L) (nll : nl.length ≤ 1000) (hz1 : zz.oneCell' = true) :
    wpOp Tryd.prog (ops8 pos) Q 4 (fun a' w' => I8 r ok V3 V4 T nl tl zz A0 W0 (L.setIfInBounds 4 true) a' w') a w := by
  obtain ⟨val, fam, ha, hJ, hL, h0, ein, _⟩ := hI.open hA hi
  have hlo := hJ.ex.size
  obtain ⟨is, his, hs0, hs1, hs2⟩ := info_parts infoStr
  have d2 : L.getD 2 false = true := ready_dep hi rfl 0 rfl rfl
  have d3 : L.getD 3 false = true := ready_dep hi rfl 1 rfl rfl
  have p2 : RowAt w fam 0 9 (val 59) nl := hJ.got 2 (by omega) d2 (by show (!L.getD 4 false) = true; rw [h0]; rfl)
  have p3 : RowAt w fam 1 9 (val 60) [zz] := hJ.got 3 (by omega) d3 (by show (!L.getD 4 false) = true; rw [h0]; rfl)
  obtain ⟨o0, o1⟩ := p2.owns hJ.fm
  obtain ⟨gz, cz, curz, z1, z2, z3, _, _, _, z4⟩ := p3
  refine wpOp_step rfl fun K' hK' => ?_
  refine step_append_lies w rfl (.tmp 59) (.tmp 60) 23 rfl W0.heap.size 9 is _ 1 16 Tryd.underlying23 his hs0 hs1 hs2 rfl (by omega) (val 59) nl.length nl (ein 59 (by decide)) o0 ⟨gz, 0, none⟩ 1 cz [zz] ((ein 60 (by decide)).trans z2) rfl (fun j x hx => ?_) (by simpa using hz1) (by omega) (by unfold maxLen; omega) (by omega) hlo w.heap.size rfl ?_
  · rw [Go.WideShapes.add_plain, cell_of_row w gz _ _ _ _ z3]
    have := List.getElem?_take_of_lt (l := curz.toList) (j := [zz].length) (i := j) (by have := (List.getElem?_eq_some_iff.1 hx).1; exact this)
    rw [z4, hx] at this
    simpa using this.symm
  intro g cap w' h1 h2 h3 h4
  have dd : (4 = 2 → L.getD 0 false = true) ∧ (4 = 4 → L.getD 2 false = true) ∧ (4 = 7 → L.getD 5 false = true) ∧ (4 = 10 → L.getD 7 false = true) ∧ (4 = 17 → L.getD 16 false = true) := ⟨fun h => (by omega), fun _ => d2, fun h => (by omega), fun h => (by omega), fun h => (by omega)⟩
  exact hK' _ _ (I8.put 4 hA ha hL (by decide) (by decide) (hJ.turn 4 (q := 0) (g := g) (Turn.grown h2 o1 h3 h4) dd _ (RowAt.made h1) (hJ.apart 4 h0 (by decide) dd)))
set_option maxRecDepth 100000 in
set_option maxHeartbeats 1000000 in
theorem op8_5 {pos : String} {A0 : Act} {W0 : World} {Q : Exit → Act → World → Prop} {r : F} {ok : Bool} {V3 V4 T : Value} {nl tl : List Value} {zz : Value} {L : Array Bool} {a : Act} {w : World} (hA : A0.tmps.size = 78) (hI : I8 r ok V3 V4 T nl tl zz A0 W0 L a w) (hi : 5 ∈ Region.ready .any (ops8 pos) L)  :
    wpOp Tryd.prog (ops8 pos) Q 5 (fun a' w' => I8 r ok V3 V4 T nl tl zz A0 W0 (L.setIfInBounds 5 true) a' w') a w := by
  obtain ⟨val, fam, ha, hJ, hL, h0, _, _⟩ := hI.open hA hi
  refine wpOp_step rfl fun K' hK' => ?_
  refine step_run rfl (run_bsT0 _ _ _ _ _) (hK' _ _ ?_)
  exact I8.put 5 hA ha hL (by decide) (by decide) (hJ.turn 5 (q := 2) (Turn.of_ex (Ex.new _ _) (Nat.le_refl _) (by simp)) ⟨fun h => (by omega), fun h => (by omega), fun h => (by omega), fun h => (by omega), fun h => (by omega)⟩ _ (RowAt.new [] (by decide)) (hJ.apart 5 h0 (by decide) ⟨fun h => (by omega), fun h => (by omega), fun h => (by omega), fun h => (by omega), fun h => (by omega)⟩))
set_option maxRecDepth 100000 in
set_option maxHeartbeats 1000000 in
theorem op8_6 {pos : String} {A0 : Act} {W0 : World} {Q : Exit → Act → World → Prop} {r : F} {ok : Bool} {V3 V4 T : Value} {nl tl : List Value} {zz : Value} {L : Array Bool} {a : Act} {w : World} (hA : A0.tmps.size = 78) (hI : I8 r ok V3 V4 T nl tl zz A0 W0 L a w) (hi : 6 ∈ Region.ready .any (ops8 pos) L) (h4 : A0.eval (.tmp 4) = V4) :
    wpOp Tryd.prog (ops8 pos) Q 6 (fun a' w' => I8 r ok V3 V4 T nl tl zz A0 W0 (L.setIfInBounds 6 true) a' w') a w := by
  obtain ⟨val, fam, ha, hJ, hL, _, _, eout⟩ := hI.open hA hi
  refine wpOp_step rfl fun K' hK' => ?_
  refine step_run rfl (run_move _ _ _ _ _ _ _) (hK' _ _ ?_)
  exact I8.put 6 hA ha hL (by decide) (by decide) (hJ.pure 6 (Ex.refl _) ⟨fun h => (by omega), fun h => (by omega), fun h => (by omega), fun h => (by omega), fun h => (by omega)⟩ _ ((eout 4 (by decide) (by decide)).trans h4) (by decide))
set_option maxRecDepth 100000 in
set_option maxHeartbeats 1000000 in
theorem op8_7 {pos : String} {A0 : Act} {W0 : World} {Q : Exit → Act → World → Prop} {r : F} {ok : Bool} {V3 V4 T : Value} {nl tl : List Value} {zz : Value} {L : Array Bool} {a : Act} {w : World} (hA : A0.tmps.size = 78) (hI : I8 r ok V3 V4 T nl tl zz A0 W0 L a w) (hi : 7 ∈ Region.ready .any (ops8 pos) L) {b2 o2 n tc : Nat} (hV : V4 = .slice (some ⟨b2, o2, none⟩) n tc) (htl : tl.length = n) (tlc : ∀ j x, tl[j]? = some x → W0.cell? ⟨b2, o2 + j, none⟩ = some x) (tl1 : ∀ x ∈ tl, x.oneCell' = true) (ht : 0 < n ∧ n ≤ 1000) :
    wpOp Tryd.prog (ops8 pos) Q 7 (fun a' w' => I8 r ok V3 V4 T nl tl zz A0 W0 (L.setIfInBounds 7 true) a' w') a w := by
  obtain ⟨val, fam, ha, hJ, hL, h0, ein, _⟩ := hI.open hA hi
  have hlo := hJ.ex.size
  obtain ⟨it, hit, ht0, ht1, ht2⟩ := info_parts Tryd.info32
  have d5 : L.getD 5 false = true := ready_dep hi rfl 0 rfl rfl
  have d6 : L.getD 6 false = true := ready_dep hi rfl 1 rfl rfl
  have p0 : RowAt w fam 2 32 (val 62) [] := hJ.got 5 (by omega) d5 (by show (!L.getD 7 false) = true; rw [h0]; rfl)
  have p1 : val 63 = V4 := hJ.got 6 (by omega) d6 rfl
  obtain ⟨o0, o1⟩ := p0.owns hJ.fm
  refine wpOp_step rfl fun K' hK' => ?_
  refine step_append_lies w rfl (.tmp 62) (.tmp 63) 24 rfl W0.heap.size 32 it _ 1 24 Tryd.underlying24 hit ht0 ht1 ht2 rfl (by omega) (val 62) 0 [] (ein 62 (by decide)) o0 ⟨b2, o2, none⟩ n tc tl (((ein 63 (by decide)).trans p1).trans hV) (by omega) (fun j x hx => hJ.ex.at (by rw [Go.WideShapes.add_plain]; exact tlc j x hx)) tl1 ht.1 (by unfold maxLen; omega) (by omega) hlo w.heap.size rfl ?_
  intro g cap w' h1 h2 h3 h4
  rw [List.nil_append, Nat.zero_add] at h1
  rw [Nat.zero_add]
  have dd : (7 = 2 → L.getD 0 false = true) ∧ (7 = 4 → L.getD 2 false = true) ∧ (7 = 7 → L.getD 5 false = true) ∧ (7 = 10 → L.getD 7 false = true) ∧ (7 = 17 → L.getD 16 false = true) := ⟨fun h => (by omega), fun h => (by omega), fun _ => d5, fun h => (by omega), fun h => (by omega)⟩
  exact hK' _ _ (I8.put 7 hA ha hL (by decide) (by decide) (hJ.turn 7 (q := 2) (g := g) (Turn.grown h2 o1 h3 h4) dd _ (RowAt.made h1) (hJ.apart 7 h0 (by decide) dd)))
set_option maxRecDepth 100000 in
set_option maxHeartbeats 1000000 in
theorem op8_8 {pos : String} {A0 : Act} {W0 : World} {Q : Exit → Act → World → Prop} {r : F} {ok : Bool} {V3 V4 T : Value} {nl tl : List Value} {zz : Value} {L : Array Bool} {a : Act} {w : World} (hA : A0.tmps.size = 78) (hI : I8 r ok V3 V4 T nl tl zz A0 W0 L a w) (hi : 8 ∈ Region.ready .any (ops8 pos) L)  :
    wpOp Tryd.prog (ops8 pos) Q 8 (fun a' w' => I8 r ok V3 V4 T nl tl zz A0 W0 (L.setIfInBounds 8 true) a' w') a w := by
  obtain ⟨val, fam, ha, hJ, hL, _, _, _⟩ := hI.open hA hi
  refine wpOp_step rfl fun K' hK' => ?_
  refine step_run rfl (run_buildT _ _ _ _ _) (hK' _ _ ?_)
  exact I8.put 8 hA ha hL (by decide) (by decide) (hJ.pure 8 (Ex.refl _) ⟨fun h => (by omega), fun h => (by omega), fun h => (by omega), fun h => (by omega), fun h => (by omega)⟩ _ rfl (by decide))
set_option maxRecDepth 100000 in
set_option maxHeartbeats 1000000 in
theorem op8_9 {pos : String} {A0 : Act} {W0 : World} {Q : Exit → Act → World → Prop} {r : F} {ok : Bool} {V3 V4 T : Value} {nl tl : List Value} {zz : Value} {L : Array Bool} {a : Act} {w : World} (hA : A0.tmps.size = 78) (hI : I8 r ok V3 V4 T nl tl zz A0 W0 L a w) (hi : 9 ∈ Region.ready .any (ops8 pos) L)  :
    wpOp Tryd.prog (ops8 pos) Q 9 (fun a' w' => I8 r ok V3 V4 T nl tl zz A0 W0 (L.setIfInBounds 9 true) a' w') a w := by
  obtain ⟨val, fam, ha, hJ, hL, h0, ein, _⟩ := hI.open hA hi
  have d8 : L.getD 8 false = true := ready_dep hi rfl 0 rfl rfl
  have p8 : val 65 = .agg #[zTy] := hJ.got 8 (by omega) d8 rfl
  refine wpOp_step rfl fun K' hK' => ?_
  refine step_run rfl (run_bsT1 _ _ _ _ _ (.tmp 65) ((ein 65 (by decide)).trans p8)) (hK' _ _ ?_)
  exact I8.put 9 hA ha hL (by decide) (by decide) (hJ.turn 9 (q := 3) (Turn.of_ex (Ex.new _ _) (Nat.le_refl _) (by simp)) ⟨fun h => (by omega), fun h => (by omega), fun h => (by omega), fun h => (by omega), fun h => (by omega)⟩ _ (RowAt.new [zTy] (by decide)) (hJ.apart 9 h0 (by decide) ⟨fun h => (by omega), fun h => (by omega), fun h => (by omega), fun h => (by omega), fun h => (by omega)⟩))
set_option maxRecDepth 100000 in
set_option maxHeartbeats 1000000 in
theorem op8_10 {pos : String} {A0 : Act} {W0 : World} {Q : Exit → Act → World → Prop} {r : F} {ok : Bool} {V3 V4 T : Value} {nl tl : List Value} {zz : Value} {L : Array Bool} {a : Act} {w : World} (hA : A0.tmps.size = 78) (hI : I8 r ok V3 V4 T nl tl zz A0 W0 L a w) (hi : 10 ∈ Region.ready .any (ops8 pos) L) (htl : tl.length ≤ 1000) :
    wpOp Tryd.prog (ops8 pos) Q 10 (fun a' w' => I8 r ok V3 V4 T nl tl zz A0 W0 (L.setIfInBounds 10 true) a' w') a w := by
  obtain ⟨val, fam, ha, hJ, hL, h0, ein, _⟩ := hI.open hA hi
  have hlo := hJ.ex.size
  obtain ⟨it, hit, ht0, ht1, ht2⟩ := info_parts Tryd.info32
  have d7 : L.getD 7 false = true := ready_dep hi rfl 0 rfl rfl
  have d9 : L.getD 9 false = true := ready_dep hi rfl 1 rfl rfl
  have p2 : RowAt w fam 2 32 (val 64) tl := hJ.got 7 (by omega) d7 (by show (!L.getD 10 false) = true; rw [h0]; rfl)
  have p3 : RowAt w fam 3 32 (val 66) [zTy] := hJ.got 9 (by omega) d9 (by show (!L.getD 10 false) = true; rw [h0]; rfl)
  obtain ⟨o0, o1⟩ := p2.owns hJ.fm
  obtain ⟨gz, cz, curz, z1, z2, z3, _, _, _, z4⟩ := p3
  refine wpOp_step rfl fun K' hK' => ?_
  refine step_append_lies w rfl (.tmp 64) (.tmp 66) 24 rfl W0.heap.size 32 it _ 1 24 Tryd.underlying24 hit ht0 ht1 ht2 rfl (by omega) (val 64) tl.length tl (ein 64 (by decide)) o0 ⟨gz, 0, none⟩ 1 cz [zTy] ((ein 66 (by decide)).trans z2) rfl (fun j x hx => ?_) (by simp [Value.oneCell']) (by omega) (by unfold maxLen; omega) (by omega) hlo w.heap.size rfl ?_
  · rw [Go.WideShapes.add_plain, cell_of_row w gz _ _ _ _ z3]
    have := List.getElem?_take_of_lt (l := curz.toList) (j := [zTy].length) (i := j) (by have := (List.getElem?_eq_some_iff.1 hx).1; exact this)
    rw [z4, hx] at this
    simpa using this.symm
  intro g cap w' h1 h2 h3 h4
  have dd : (10 = 2 → L.getD 0 false = true) ∧ (10 = 4 → L.getD 2 false = true) ∧ (10 = 7 → L.getD 5 false = true) ∧ (10 = 10 → L.getD 7 false = true) ∧ (10 = 17 → L.getD 16 false = true) := ⟨fun h => (by omega), fun h => (by omega), fun h => (by omega), fun _ => d7, fun h => (by omega)⟩
  exact hK' _ _ (I8.put 10 hA ha hL (by decide) (by decide) (hJ.turn 10 (q := 2) (g := g) (Turn.grown h2 o1 h3 h4) dd _ (RowAt.made h1) (hJ.apart 10 h0 (by decide) dd)))
set_option maxRecDepth 100000 in
set_option maxHeartbeats 1000000 in
theorem op8_11 {pos : String} {A0 : Act} {W0 : World} {Q : Exit → Act → World → Prop} {r : F} {ok : Bool} {V3 V4 T : Value} {nl tl : List Value} {zz : Value} {L : Array Bool} {a : Act} {w : World} (hA : A0.tmps.size = 78) (hI : I8 r ok V3 V4 T nl tl zz A0 W0 L a w) (hi : 11 ∈ Region.ready .any (ops8 pos) L) {tb : Nat} {k nn : Int} {s : ByteArray} {u v : Value} (hT : T = .agg #[.int .i64 k, .int .i64 nn, .string s, u, v]) (h5 : A0.eval (.tmp 5) = .pointer (some ⟨tb, 0, none⟩)) (hC : W0.cell? ⟨tb, 0, none⟩ = some (.int .i64 k) ∧ W0.cell? ⟨tb, 1, none⟩ = some (.int .i64 nn) ∧ W0.cell? ⟨tb, 2, none⟩ = some (.string s) ∧ W0.cell? ⟨tb, 3, none⟩ = some u ∧ W0.cell? ⟨tb, 4, none⟩ = some v) :
    wpOp Tryd.prog (ops8 pos) Q 11 (fun a' w' => I8 r ok V3 V4 T nl tl zz A0 W0 (L.setIfInBounds 11 true) a' w') a w := by
  obtain ⟨val, fam, ha, hJ, hL, _, _, eout⟩ := hI.open hA hi
  subst hT
  obtain ⟨c0, c1, c2, c3, c4⟩ := hC
  refine wpOp_step rfl fun K' hK' => ?_
  refine step_run rfl (run_loadTerm _ _ _ _ _ (.tmp 5) tb k nn s u v ((eout 5 (by decide) (by decide)).trans h5) (hJ.ex.at c0) (hJ.ex.at c1) (hJ.ex.at c2) (hJ.ex.at c3) (hJ.ex.at c4)) (hK' _ _ ?_)
  exact I8.put 11 hA ha hL (by decide) (by decide) (hJ.pure 11 (Ex.refl _) ⟨fun h => (by omega), fun h => (by omega), fun h => (by omega), fun h => (by omega), fun h => (by omega)⟩ _ rfl (by decide))
set_option maxRecDepth 100000 in
set_option maxHeartbeats 1000000 in
theorem op8_12 {pos : String} {A0 : Act} {W0 : World} {Q : Exit → Act → World → Prop} {r : F} {ok : Bool} {V3 V4 T : Value} {nl tl : List Value} {zz : Value} {L : Array Bool} {a : Act} {w : World} (hA : A0.tmps.size = 78) (hI : I8 r ok V3 V4 T nl tl zz A0 W0 L a w) (hi : 12 ∈ Region.ready .any (ops8 pos) L) {ns : List ByteArray} {tf : F} (hzz : zz = .string ⟨#[122, 122]⟩) (hnl : nl = ns.map Value.string) (htl : tl.length = len tf) (htc : ∀ i, i < len tf → ∃ a c, tl[i]? = some (.slice a (len (kid tf i)) c) ∧ SA W0 (fun q => 0 ≤ q) (kid tf i) a) (hK : ∀ w' a' c' a'' c'', Ex W0 w' → XA w' 0 (ns ++ [⟨#[122, 122]⟩]) a' → TA w' 0 (snoc tf 0 .nil) a'' → Calls Tryd.prog 6 #[.slice a' (ns.length + 1) c', .slice a'' (len tf + 1) c'', T] w' (KtQ r ok w')) :
    wpOp Tryd.prog (ops8 pos) Q 12 (fun a' w' => I8 r ok V3 V4 T nl tl zz A0 W0 (L.setIfInBounds 12 true) a' w') a w := by
  obtain ⟨val, fam, ha, hJ, hL, _, ein, _⟩ := hI.open hA hi
  subst hzz
  have d4 : L.getD 4 false = true := ready_dep hi rfl 0 rfl rfl
  have d10 : L.getD 10 false = true := ready_dep hi rfl 1 rfl rfl
  have d11 : L.getD 11 false = true := ready_dep hi rfl 2 rfl rfl
  have p4 : RowAt w fam 0 9 (val 61) (nl ++ [.string ⟨#[122, 122]⟩]) := hJ.got 4 (by omega) d4 rfl
  have p10 : RowAt w fam 2 32 (val 67) (tl ++ [zTy]) := hJ.got 10 (by omega) d10 rfl
  have p11 : val 68 = T := hJ.got 11 (by omega) d11 rfl
  obtain ⟨gx, cx, curx, x1, x2, x3, _, _, _, x4⟩ := p4
  obtain ⟨gy, cy, cury, y1, y2, y3, _, _, _, y4⟩ := p10
  rw [show (nl ++ [Value.string ⟨#[122, 122]⟩]).length = ns.length + 1 by simp [hnl]] at x2 x4
  rw [show (tl ++ [zTy]).length = len tf + 1 by simp [htl]] at y2 y4
  have hx : XA w 0 (ns ++ [⟨#[122, 122]⟩]) (some ⟨gx, 0, none⟩) := Or.inr ⟨gx, 0, rfl, Nat.zero_le _, fun j hj => by
    rw [List.length_append] at hj
    have hj' : j < ns.length + 1 := hj
    rw [Nat.zero_add, cell_of_row w gx _ _ _ _ x3]
    have := List.getElem?_take_of_lt (l := curx.toList) (j := ns.length + 1) (i := j) hj'
    rw [x4] at this
    rw [← Array.getElem?_toList, ← this, hnl]
    rw [show ns.map Value.string ++ [Value.string ⟨#[122, 122]⟩] = (ns ++ [(⟨#[122, 122]⟩ : ByteArray)]).map Value.string by simp, List.getElem?_map, List.getD_eq_getElem?_getD]
    have hl : j < (ns ++ [(⟨#[122, 122]⟩ : ByteArray)]).length := by rw [List.length_append]; exact hj
    rw [List.getElem?_eq_getElem hl]
    rfl⟩
  have hy : TA w 0 (snoc tf 0 .nil) (some ⟨gy, 0, none⟩) := SA_mk (Nat.zero_le _) fun j hj => by
    rw [len_snoc] at hj
    rw [Nat.zero_add, cell_of_row w gy _ _ _ _ y3]
    have := List.getElem?_take_of_lt (l := cury.toList) (j := len tf + 1) (i := j) hj
    rw [y4] at this
    rw [← Array.getElem?_toList, ← this, kid_snoc]
    by_cases e : j < len tf
    · rw [if_pos e, List.getElem?_append_left (by omega)]
      obtain ⟨a, c, e1, e2⟩ := htc j e
      exact ⟨a, c, e1, TA_below e2 hJ.ex⟩
    · have ej : j = len tf := by omega
      rw [if_neg e, if_pos ej, List.getElem?_append_right (by omega)]
      exact ⟨none, 0, by simp [htl, ej]; rfl, Or.inl rfl⟩
  refine wpOp_step rfl fun K' hK' => ?_
  refine step_call rfl (run_callKind _ _ _ _ _ (.tmp 61) (.tmp 67) (.tmp 68) _ _ _ _ ((ein 61 (by decide)).trans x2) ((ein 67 (by decide)).trans y2) ((ein 68 (by decide)).trans p11) rfl) (hK w _ _ _ _ hJ.ex hx hy) ?_
  rintro e w' ⟨a', c', rfl, hTA, hxx⟩
  refine ⟨_, rfl, hK' _ _ ?_⟩
  refine I8.put 12 hA ha hL (by decide) (by decide) (hJ.pure 12 hxx ⟨fun h => (by omega), fun h => (by omega), fun h => (by omega), fun h => (by omega), fun h => (by omega)⟩ _ ⟨a', c', rfl, SA_mono hTA fun q _ hq t ht => ?_⟩ (by decide))
  have := (hJ.fm.1 t q ht).2
  omega
set_option maxRecDepth 100000 in
set_option maxHeartbeats 1000000 in
theorem op8_13 {pos : String} {A0 : Act} {W0 : World} {Q : Exit → Act → World → Prop} {r : F} {ok : Bool} {V3 V4 T : Value} {nl tl : List Value} {zz : Value} {L : Array Bool} {a : Act} {w : World} (hA : A0.tmps.size = 78) (hI : I8 r ok V3 V4 T nl tl zz A0 W0 L a w) (hi : 13 ∈ Region.ready .any (ops8 pos) L)  :
    wpOp Tryd.prog (ops8 pos) Q 13 (fun a' w' => I8 r ok V3 V4 T nl tl zz A0 W0 (L.setIfInBounds 13 true) a' w') a w := by
  obtain ⟨val, fam, ha, hJ, hL, _, ein, _⟩ := hI.open hA hi
  have d12 : L.getD 12 false = true := ready_dep hi rfl 0 rfl rfl
  have p : TyAt w fam r (fun x => .tuple #[x, .bool ok]) (val 69) := hJ.got 12 (by omega) d12 rfl
  refine wpOp_step rfl fun K' hK' => ?_
  refine step_run rfl (run_move _ _ _ _ _ _ _) (hK' _ _ ?_)
  exact I8.put 13 hA ha hL (by decide) (by decide) (hJ.pure 13 (Ex.refl _) ⟨fun h => (by omega), fun h => (by omega), fun h => (by omega), fun h => (by omega), fun h => (by omega)⟩ _ (by rw [ein 69 (by decide)]; exact p) (by decide))
set_option maxRecDepth 100000 in
set_option maxHeartbeats 1000000 in
theorem op8_14 {pos : String} {A0 : Act} {W0 : World} {Q : Exit → Act → World → Prop} {r : F} {ok : Bool} {V3 V4 T : Value} {nl tl : List Value} {zz : Value} {L : Array Bool} {a : Act} {w : World} (hA : A0.tmps.size = 78) (hI : I8 r ok V3 V4 T nl tl zz A0 W0 L a w) (hi : 14 ∈ Region.ready .any (ops8 pos) L)  :
    wpOp Tryd.prog (ops8 pos) Q 14 (fun a' w' => I8 r ok V3 V4 T nl tl zz A0 W0 (L.setIfInBounds 14 true) a' w') a w := by
  obtain ⟨val, fam, ha, hJ, hL, _, ein, _⟩ := hI.open hA hi
  have d13 : L.getD 13 false = true := ready_dep hi rfl 0 rfl rfl
  obtain ⟨a, c, p, q⟩ : TyAt w fam r (fun x => .tuple #[x, .bool ok]) (val 56) := hJ.got 13 (by omega) d13 rfl
  refine wpOp_step rfl fun K' hK' => ?_
  refine step_run rfl (run_extract _ _ _ _ _ (.tmp 56) _ _ _ 0 _ ((ein 56 (by decide)).trans p) rfl) (hK' _ _ ?_)
  exact I8.put 14 hA ha hL (by decide) (by decide) (hJ.pure 14 (Ex.refl _) ⟨fun h => (by omega), fun h => (by omega), fun h => (by omega), fun h => (by omega), fun h => (by omega)⟩ _ ⟨a, c, rfl, q⟩ (by decide))
set_option maxRecDepth 100000 in
set_option maxHeartbeats 1000000 in
theorem op8_15 {pos : String} {A0 : Act} {W0 : World} {Q : Exit → Act → World → Prop} {r : F} {ok : Bool} {V3 V4 T : Value} {nl tl : List Value} {zz : Value} {L : Array Bool} {a : Act} {w : World} (hA : A0.tmps.size = 78) (hI : I8 r ok V3 V4 T nl tl zz A0 W0 L a w) (hi : 15 ∈ Region.ready .any (ops8 pos) L)  :
    wpOp Tryd.prog (ops8 pos) Q 15 (fun a' w' => I8 r ok V3 V4 T nl tl zz A0 W0 (L.setIfInBounds 15 true) a' w') a w := by
  obtain ⟨val, fam, ha, hJ, hL, _, ein, _⟩ := hI.open hA hi
  have d13 : L.getD 13 false = true := ready_dep hi rfl 0 rfl rfl
  obtain ⟨a, c, p, q⟩ : TyAt w fam r (fun x => .tuple #[x, .bool ok]) (val 56) := hJ.got 13 (by omega) d13 rfl
  refine wpOp_step rfl fun K' hK' => ?_
  refine step_run rfl (run_extract _ _ _ _ _ (.tmp 56) _ _ _ 1 _ ((ein 56 (by decide)).trans p) rfl) (hK' _ _ ?_)
  exact I8.put 15 hA ha hL (by decide) (by decide) (hJ.pure 15 (Ex.refl _) ⟨fun h => (by omega), fun h => (by omega), fun h => (by omega), fun h => (by omega), fun h => (by omega)⟩ _ rfl (by decide))
set_option maxRecDepth 100000 in
set_option maxHeartbeats 1000000 in
theorem op8_16 {pos : String} {A0 : Act} {W0 : World} {Q : Exit → Act → World → Prop} {r : F} {ok : Bool} {V3 V4 T : Value} {nl tl : List Value} {zz : Value} {L : Array Bool} {a : Act} {w : World} (hA : A0.tmps.size = 78) (hI : I8 r ok V3 V4 T nl tl zz A0 W0 L a w) (hi : 16 ∈ Region.ready .any (ops8 pos) L)  :
    wpOp Tryd.prog (ops8 pos) Q 16 (fun a' w' => I8 r ok V3 V4 T nl tl zz A0 W0 (L.setIfInBounds 16 true) a' w') a w := by
  obtain ⟨val, fam, ha, hJ, hL, h0, _, _⟩ := hI.open hA hi
  refine wpOp_step rfl fun K' hK' => ?_
  refine step_run rfl (run_allocT _ _ _ _ _ _) (hK' _ _ ?_)
  exact I8.put 16 hA ha hL (by decide) (by decide) (hJ.turn 16 (q := 4) (Turn.of_ex (Ex.new _ _) (Nat.le_refl _) (by simp)) ⟨fun h => (by omega), fun h => (by omega), fun h => (by omega), fun h => (by omega), fun h => (by omega)⟩ _ ⟨_, upd_at _ _ _, rfl, heap_alloc_new _ _⟩ (hJ.apart 16 h0 (by decide) ⟨fun h => (by omega), fun h => (by omega), fun h => (by omega), fun h => (by omega), fun h => (by omega)⟩))
set_option maxRecDepth 100000 in
set_option maxHeartbeats 1000000 in
theorem op8_17 {pos : String} {A0 : Act} {W0 : World} {Q : Exit → Act → World → Prop} {r : F} {ok : Bool} {V3 V4 T : Value} {nl tl : List Value} {zz : Value} {L : Array Bool} {a : Act} {w : World} (hA : A0.tmps.size = 78) (hI : I8 r ok V3 V4 T nl tl zz A0 W0 L a w) (hi : 17 ∈ Region.ready .any (ops8 pos) L)  :
    wpOp Tryd.prog (ops8 pos) Q 17 (fun a' w' => I8 r ok V3 V4 T nl tl zz A0 W0 (L.setIfInBounds 17 true) a' w') a w := by
  obtain ⟨val, fam, ha, hJ, hL, h0, ein, _⟩ := hI.open hA hi
  have d16 : L.getD 16 false = true := ready_dep hi rfl 0 rfl rfl
  have d14 : L.getD 14 false = true := ready_dep hi rfl 1 rfl rfl
  obtain ⟨g, p1, p2, p3⟩ : PtrAt w fam 4 32 (val 10) zTy := hJ.got 16 (by omega) d16 (by show (!L.getD 17 false) = true; rw [h0]; rfl)
  obtain ⟨a, c, q1, q2⟩ : TyAt w fam r (fun x => x) (val 70) := hJ.got 14 (by omega) d14 rfl
  refine wpOp_step rfl fun K' hK' => ?_
  refine step_skip rfl (run_storeT _ _ _ _ _ (.tmp 10) (.tmp 70) g a (len r) c _ _ ((ein 10 (by decide)).trans p2) ((ein 70 (by decide)).trans q1) p3) (hK' _ _ ?_)
  have dd : (17 = 2 → L.getD 0 false = true) ∧ (17 = 4 → L.getD 2 false = true) ∧ (17 = 7 → L.getD 5 false = true) ∧ (17 = 10 → L.getD 7 false = true) ∧ (17 = 17 → L.getD 16 false = true) := ⟨fun h => (by omega), fun h => (by omega), fun h => (by omega), fun h => (by omega), fun _ => d16⟩
  have tn : Turn 4 g fam w (w.setCell ⟨g, 0, none⟩ (.slice a (len r) c)) := by
    have f := (Fr.refl g w).set (p := ⟨g, 0, none⟩) (Or.inl rfl) (.slice a (len r) c)
    exact ⟨f.os, f.tape, f.output, f.size, fun k hk hne => f.block k hk fun e => hne (by rw [e, p1]), Or.inl p1, Nat.lt_of_lt_of_le (hJ.fm.1 4 g p1).2 f.size⟩
  refine I8.stay ha hL (hJ.turn 17 (q := 4) (g := g) tn dd _ ⟨a, c, ⟨g, upd_at _ _ _, p2, ?_⟩, SA_turn q2 tn⟩ (hJ.apart 17 h0 (by decide) dd))
  exact one_set p3
set_option maxRecDepth 100000 in
set_option maxHeartbeats 1000000 in
theorem op8_18 {pos : String} {A0 : Act} {W0 : World} {Q : Exit → Act → World → Prop} {r : F} {ok : Bool} {V3 V4 T : Value} {nl tl : List Value} {zz : Value} {L : Array Bool} {a : Act} {w : World} (hA : A0.tmps.size = 78) (hI : I8 r ok V3 V4 T nl tl zz A0 W0 L a w) (hi : 18 ∈ Region.ready .any (ops8 pos) L)  :
    wpOp Tryd.prog (ops8 pos) Q 18 (fun a' w' => I8 r ok V3 V4 T nl tl zz A0 W0 (L.setIfInBounds 18 true) a' w') a w := by
  obtain ⟨val, fam, ha, hJ, hL, _, ein, _⟩ := hI.open hA hi
  have d15 : L.getD 15 false = true := ready_dep hi rfl 0 rfl rfl
  have p : val 71 = .bool ok := hJ.got 15 (by omega) d15 rfl
  refine wpOp_step rfl fun K' hK' => ?_
  refine step_run rfl (run_assign _ _ _ _ _ _ _) (hK' _ _ ?_)
  exact I8.put 18 hA ha hL (by decide) (by decide) (hJ.pure 18 (Ex.refl _) ⟨fun h => (by omega), fun h => (by omega), fun h => (by omega), fun h => (by omega), fun h => (by omega)⟩ _ ((ein 71 (by decide)).trans p) (by decide))
end Go.Proofs.YtldbmlojgakieaaDoor

namespace Go.Proofs.YtldbmlojgakieaaDoor

open Go.RowKit Go.Deep

/-- What an operation waits for stands ahead of it. -/
theorem ops8_back (pos : String) (i : Nat) (hi : i < 19) : ((ops8 pos)[i]'(by exact hi)).after.all (fun e => !Region.binds .any e || decide (e.on < i)) = true := by
  have hk : i = 0 ∨ i = 1 ∨ i = 2 ∨ i = 3 ∨ i = 4 ∨ i = 5 ∨ i = 6 ∨ i = 7 ∨ i = 8 ∨ i = 9 ∨ i = 10 ∨ i = 11 ∨ i = 12 ∨ i = 13 ∨ i = 14 ∨ i = 15 ∨ i = 16 ∨ i = 17 ∨ i = 18 := by omega
  rcases hk with rfl | rfl | rfl | rfl | rfl | rfl | rfl | rfl | rfl | rfl | rfl | rfl | rfl | rfl | rfl | rfl | rfl | rfl | rfl <;> simp [Region.binds]

set_option maxRecDepth 100000 in
set_option maxHeartbeats 4000000 in
theorem region8 {id : Nat} {pos : String} {A0 : Act} {W0 : World} {Q : Exit → Act → World → Prop} {r : F} {ok : Bool} {ns : List ByteArray} {na : Option Addr} {nc : Nat} {tl : F} {ta : Option Addr} {tc tb : Nat} {k nn : Int} {s : ByteArray} {u v : Value} (hA : A0.tmps.size = 78)
    (h3 : A0.eval (.tmp 3) = .slice na ns.length nc) (h4 : A0.eval (.tmp 4) = .slice ta (len tl) tc) (h5 : A0.eval (.tmp 5) = .pointer (some ⟨tb, 0, none⟩))
    (hX : XA W0 0 ns na) (hT : TA W0 0 tl ta) (hn : 0 < ns.length ∧ ns.length ≤ 1000) (ht : 0 < len tl ∧ len tl ≤ 1000)
    (hC : W0.cell? ⟨tb, 0, none⟩ = some (.int .i64 k) ∧ W0.cell? ⟨tb, 1, none⟩ = some (.int .i64 nn) ∧ W0.cell? ⟨tb, 2, none⟩ = some (.string s) ∧ W0.cell? ⟨tb, 3, none⟩ = some u ∧ W0.cell? ⟨tb, 4, none⟩ = some v)
    (hK : ∀ w' a' c' a'' c'', Ex W0 w' → XA w' 0 (ns ++ [⟨#[122, 122]⟩]) a' → TA w' 0 (snoc tl 0 .nil) a'' → Calls Tryd.prog 6 #[.slice a' (ns.length + 1) c', .slice a'' (len tl + 1) c'', .agg #[.int .i64 k, .int .i64 nn, .string s, u, v]] w' (KtQ r ok w'))
    (hQ : ∀ val w, Ex W0 w → val 11 = .bool ok → (∃ g a c, val 10 = .pointer (some ⟨g, 0, none⟩) ∧ w.heap[g]? = some (.cells #[.slice a (len r) c] 32 (0, 0)) ∧ TA w 0 r a) → Q .normal (putAll A0 val ss8) w) :
    (Code.region id (ops8 pos) true).wp Tryd.prog Q A0 W0 := by
  obtain ⟨b, o, rfl, _, _, hcn⟩ := XA_at hX hn.1
  obtain ⟨b2, o2, rfl, _, _, hct⟩ := TA_at hT ht.1
  obtain ⟨tcs, htl, htc⟩ := choose_list (fun i x => W0.cell? ⟨b2, o2 + i, none⟩ = some x ∧ x.oneCell' = true ∧ ∃ a c, x = .slice a (len (kid tl i)) c ∧ SA W0 (fun q => 0 ≤ q) (kid tl i) a) (len tl) fun i hi => by
    obtain ⟨a, c, h1, h2⟩ := hct i hi
    exact ⟨_, h1, rfl, a, c, rfl, h2⟩
  obtain ⟨nl, hnl⟩ : ∃ nl, nl = ns.map Value.string := ⟨_, rfl⟩
  have nll : nl.length = ns.length := by rw [hnl, List.length_map]
  have nlc : ∀ j x, nl[j]? = some x → W0.cell? ⟨b, o + j, none⟩ = some x := fun j x hx => by
    rw [hnl, List.getElem?_map] at hx
    cases hj : ns[j]? with
    | none => rw [hj] at hx; simp at hx
    | some t =>
      have hjl : j < ns.length := (List.getElem?_eq_some_iff.1 hj).1
      rw [hcn j hjl]
      rw [hj] at hx
      simp only [List.getD, hj, Option.getD_some]
      exact hx
  have nl1 : ∀ x ∈ nl, x.oneCell' = true := fun x hx => by rw [hnl] at hx; obtain ⟨_, _, rfl⟩ := List.mem_map.mp hx; rfl
  have tlc : ∀ j x, tcs[j]? = some x → W0.cell? ⟨b2, o2 + j, none⟩ = some x := fun j x hx => by
    obtain ⟨y, h1, h2, _⟩ := htc j (by have := (List.getElem?_eq_some_iff.1 hx).1; omega)
    rw [hx] at h1; cases h1; exact h2
  have tl1 : ∀ x ∈ tcs, x.oneCell' = true := fun x hx => by
    obtain ⟨j, hj, e⟩ := List.getElem_of_mem hx
    obtain ⟨y, h1, _, h2, _⟩ := htc j (by omega)
    rw [List.getElem?_eq_getElem hj, e] at h1; cases h1; exact h2
  have htc' : ∀ i, i < len tl → ∃ a c, tcs[i]? = some (.slice a (len (kid tl i)) c) ∧ SA W0 (fun q => 0 ≤ q) (kid tl i) a := fun i hi => by
    obtain ⟨y, h1, _, _, a, c, rfl, h2⟩ := htc i hi
    exact ⟨a, c, h1, h2⟩
  refine wp_region_any rfl (wpAny_inv (I := I8 r ok (.slice (some ⟨b, o, none⟩) ns.length nc) (.slice (some ⟨b2, o2, none⟩) (len tl) tc) (.agg #[.int .i64 k, .int .i64 nn, .string s, u, v]) nl tcs (.string ⟨#[122, 122]⟩) A0 W0) ?step ?fin _ _ _ _ ?begin ?cnt)
  case cnt => exact Nat.le_trans List.count_le_length (by simp)
  case begin =>
    refine ⟨fun t => A0.eval (.tmp t), fun _ => none, ?_, ?_, rfl⟩
    · have key : ∀ ss : List Nat, (∀ t ∈ ss, t < A0.tmps.size) → putAll A0 (fun t => A0.eval (.tmp t)) ss = A0 := by
        intro ss
        induction ss with
        | nil => intro _; rfl
        | cons t ss ih =>
          intro h
          show (putAll A0 _ ss).put (some t) _ = A0
          rw [ih fun t ht => h t (List.mem_cons_of_mem _ ht)]
          have ht := h t (List.mem_cons_self ..)
          have e : A0.tmps.setIfInBounds t (A0.eval (.tmp t)) = A0.tmps := by
            apply Array.ext
            · rw [Array.size_setIfInBounds]
            · intro j h1 h2
              rw [Array.getElem_setIfInBounds]
              split
              · rename_i e; subst e
                show A0.tmps.getD t undef = _
                rw [Array.getD_eq_getD_getElem?, Array.getElem?_eq_getElem ht]; rfl
              · rfl
          show ({ tmps := A0.tmps.setIfInBounds t (A0.eval (.tmp t)), defers := A0.defers } : Act) = A0
          rw [e]
      exact (key ss8 (by rw [hA]; decide)).symm
    · have e : (fun k => (Array.replicate (ops8 pos).size false).getD k false) = fun _ => false := by
        funext k
        rw [Array.getD_eq_getD_getElem?]
        by_cases hk : k < (Array.replicate (ops8 pos).size false).size
        · rw [Array.getElem?_eq_getElem hk, Array.getElem_replicate]; rfl
        · rw [Array.getElem?_eq_none (by omega)]; rfl
      rw [e]
      exact J8.begin _ _ _ (Ex.refl _).drew
  case fin =>
    rintro L a w ⟨val, fam, rfl, hJ, hL⟩ hr
    have no : ∀ i, i ∉ Region.ready .any (ops8 pos) L := fun i hi => by rw [hr] at hi; cases hi
    have all : ∀ i, i < 19 → L.getD i false = true := by
      intro i
      induction i using Nat.strongRecOn with
      | _ i ih =>
        intro hi
        by_cases h0 : L.getD i true = false
        · exfalso
          refine no i (ready_intro (by exact hi) h0 (o := (ops8 pos)[i]'(by exact hi)) (Array.getElem?_eq_getElem _) ?_)
          have hb := ops8_back pos i hi
          rw [Array.all_eq_true] at hb ⊢
          intro j hj
          have h1 := hb j hj
          rw [Bool.or_eq_true] at h1 ⊢
          rcases h1 with h1 | h1
          · exact Or.inl h1
          · have h2 := of_decide_eq_true h1
            exact Or.inr (ih _ h2 (by omega))
        · have hlt : i < L.size := by omega
          rw [Array.getD_eq_getD_getElem?, Array.getElem?_eq_getElem hlt] at h0 ⊢
          simpa using h0
    have g17 := hJ.got 17 (by omega) (all 17 (by omega)) rfl
    have g18 := hJ.got 18 (by omega) (all 18 (by omega)) rfl
    obtain ⟨a, c, ⟨g, h1, h2, h3⟩, h4⟩ := g17
    exact hQ val w hJ.ex g18 ⟨g, a, c, h2, h3, SA_mono h4 fun _ _ _ => Nat.zero_le _⟩
  case step =>
    intro L a w i hI hi
    have hlt : i < 19 := (ready_mem hi).1
    have hk : i = 0 ∨ i = 1 ∨ i = 2 ∨ i = 3 ∨ i = 4 ∨ i = 5 ∨ i = 6 ∨ i = 7 ∨ i = 8 ∨ i = 9 ∨ i = 10 ∨ i = 11 ∨ i = 12 ∨ i = 13 ∨ i = 14 ∨ i = 15 ∨ i = 16 ∨ i = 17 ∨ i = 18 := by omega
    rcases hk with rfl | rfl | rfl | rfl | rfl | rfl | rfl | rfl | rfl | rfl | rfl | rfl | rfl | rfl | rfl | rfl | rfl | rfl | rfl
    · exact op8_0 hA hI hi
    · exact op8_1 hA hI hi h3
    · exact op8_2 hA hI hi rfl nll nlc nl1 hn
    · exact op8_3 hA hI hi rfl
    · exact op8_4 hA hI hi (by omega) rfl
    · exact op8_5 hA hI hi
    · exact op8_6 hA hI hi h4
    · exact op8_7 hA hI hi rfl htl tlc tl1 ht
    · exact op8_8 hA hI hi
    · exact op8_9 hA hI hi
    · exact op8_10 hA hI hi (by omega)
    · exact op8_11 hA hI hi rfl h5 hC
    · exact op8_12 hA hI hi rfl hnl htl htc' hK
    · exact op8_13 hA hI hi
    · exact op8_14 hA hI hi
    · exact op8_15 hA hI hi
    · exact op8_16 hA hI hi
    · exact op8_17 hA hI hi
    · exact op8_18 hA hI hi

end Go.Proofs.YtldbmlojgakieaaDoor

namespace Go.Proofs.YtldbmlojgakieaaDoor

open Go.RowKit Go.Deep

attribute [local go_sem ↓] Go.wp_at_zero Go.wp_at_succ

set_option maxRecDepth 100000 in
set_option maxHeartbeats 4000000 in
theorem lawKindMore (ea eb : Addr) (n cc : Nat) (ca : Option Addr) (w : World) (hG : Two ea eb w) (hn : n ≤ cc) (hc : cc ≤ 9223372036854775807) (hB : By w n ca) :
    Calls Tryd.prog 3 #[.slice ca n cc] w fun e w' => e = .returned (.bool true) ∧ Ex w w' := by
  have B : Hid (By w n ca) := hB
  have G : Hid (∀ w', Ex w w' → Two ea eb w') := fun w' h => hG.ex h
  clear hB hG
  by_cases hbig : 1048576 < n
  · have d1 : decide ((1048576 : Int) < (n : Int)) = true := by simp; omega
    go_enter Tryd.func3, Tryd.ntmps3
    go_wp2_with fail
    go_ret
    exact ⟨rfl, Ex.refl _⟩
  have d1 : decide ((1048576 : Int) < (n : Int)) = false := by simp; omega
  go_enter Tryd.func3, Tryd.ntmps3
  go_wp2_with fail
  refine Calls.mono (DrawKindTerm_any n cc ca _ hn hc B.out) ?_
  rintro e w1 ⟨ns, na, tl, ta, tc, k, nn, s, x, xa, xc, f, fa, fc, rfl, hns, hX, hT, hTl, htc, htc2, hP, hxc, hM, hS, hx1⟩
  have hnl : ns.length = 3 := by rcases hns with rfl | rfl <;> rfl
  have hz : XLm ns := by
    intro i hi
    rcases hns with rfl | rfl
    all_goals
      have h3 : i = 0 ∨ i = 1 ∨ i = 2 := by have : i < 3 := hi; omega
      rcases h3 with rfl | rfl | rfl <;> (show (1 : Nat) ≤ _; omega)
  obtain ⟨W, hW⟩ : ∃ W, W = w1.alloc (.cells #[.int .i64 k, .int .i64 nn, .string s, .slice xa x.length xc, .slice fa (tlen f) fc] 28) := ⟨_, rfl⟩
  have X1 : Hid (Ex w1 W) := hW ▸ Ex.new _ _
  have XW : Hid (Ex w W) := hx1.trans X1.out
  have HW : Hid (w1.alloc (.cells #[.int .i64 k, .int .i64 nn, .string s, .slice xa x.length xc, .slice fa (tlen f) fc] 28) = W) := hW.symm
  have C : Hid (∀ w', Ex W w' → w'.cell? ⟨w1.heap.size, 0, none⟩ = some (.int .i64 k) ∧ w'.cell? ⟨w1.heap.size, 1, none⟩ = some (.int .i64 nn) ∧ w'.cell? ⟨w1.heap.size, 2, none⟩ = some (.string s) ∧ w'.cell? ⟨w1.heap.size, 3, none⟩ = some (.slice xa x.length xc) ∧ w'.cell? ⟨w1.heap.size, 4, none⟩ = some (.slice fa (tlen f) fc)) := fun w' h => ⟨h.at (hW ▸ (by simp)), h.at (hW ▸ (by simp)), h.at (hW ▸ (by simp)), h.at (hW ▸ (by simp)), h.at (hW ▸ (by simp))⟩
  have XN : Hid (∀ w', Ex W w' → XA w' 0 ns na) := fun w' h => XA_lo (XA_below hX (X1.out.trans h)) (Nat.zero_le _)
  have TN : Hid (∀ w', Ex W w' → TA w' 0 tl ta) := fun w' h => TA_lo (TA_below hT (X1.out.trans h)) (Nat.zero_le _)
  have PN : Hid (∀ w', Ex W w' → PA w' 0 x xa) := fun w' h => PA_lo (PA_below hP (X1.out.trans h)) (Nat.zero_le _)
  have MN : Hid (∀ w', Ex W w' → MA w' 0 f fa) := fun w' h => MA_lo (MA_below hM (X1.out.trans h)) (Nat.zero_le _)
  have htl : len tl ≤ 1000000000 := by have := hTl.1; omega
  have SK : Hid (∀ w', Ex W w' → Calls Tryd.prog 5 #[.slice na ns.length 3, .slice ta (len tl) tc, .agg #[.int .i64 k, .int .i64 nn, .string s, .slice xa x.length xc, .slice fa (tlen f) fc]] w' (KtP (kindR ns tl k nn s x f) w')) := fun w' h => by
    have := sKindTerm_any ns na 3 tl ta tc k nn s x xa xc f fa fc w' (XN.out _ h) (by omega) (by omega) (TN.out _ h) (by have := hS.path; omega) (PN.out _ h) (MN.out _ h) (by have := hS.kids; omega) hS.sm
    exact this
  have IK : Hid (∀ w', Ex W w' → Calls Tryd.prog 6 #[.slice na ns.length 3, .slice ta (len tl) tc, .agg #[.int .i64 k, .int .i64 nn, .string s, .slice xa x.length xc, .slice fa (tlen f) fc]] w' (KtP (kindR ns tl k nn s x f) w')) := fun w' h => by
    have := iKindTerm_any ea eb ns na 3 tl ta tc k nn s x xa xc f fa fc w' (G.out _ (XW.out.trans h)) (XN.out _ h) hz (by omega) (TN.out _ h) htl (by have := hS.name; omega) (by have := hS.path; omega) (PN.out _ h) (MN.out _ h) (by have := hS.kids; omega) hS.sm hS.lm
    exact this
  have NZ : Hid (ns = [nmA, nmB, nmC] ∨ ns = [nmA, nmB, nmB]) := hns
  have HZ : Hid (XLm (ns ++ [⟨#[122, 122]⟩])) := fun i hi => by
    rw [List.length_append] at hi
    have hi' : i < ns.length + 1 := hi
    rw [List.getD_eq_getElem?_getD]
    by_cases e : i < ns.length
    · rw [List.getElem?_append_left e, ← List.getD_eq_getElem?_getD]; exact hz i e
    · rw [List.getElem?_append_right (by omega), show i - ns.length = 0 by omega]; show (2 : Nat) ≤ _; omega
  have IM : Hid ((kindR ns tl k nn s x f).2 = true → ∀ w' a' c' a'' c'', Ex W w' → XA w' 0 (ns ++ [⟨#[122, 122]⟩]) a' → TA w' 0 (snoc tl 0 .nil) a'' → Calls Tryd.prog 6 #[.slice a' (ns.length + 1) c', .slice a'' (len tl + 1) c'', .agg #[.int .i64 k, .int .i64 nn, .string s, .slice xa x.length xc, .slice fa (tlen f) fc]] w' (KtQ (kindR ns tl k nn s x f).1 (kindR ns tl k nn s x f).2 w')) := fun hok w' a' c' a'' c'' h hx' ht' => by
    have hN : namesB (ns ++ [⟨#[122, 122]⟩]) = true := by
      obtain ⟨_, h2, _⟩ := kindR_yes hok
      rcases NZ.out with e | e <;> subst e
      · kernel_rfl
      · exfalso
        have h3 : namesB [nmA, nmB, nmB] = false := by kernel_rfl
        rw [h3] at h2; cases h2
    have hzz : hasB ns ⟨#[122, 122]⟩ = false := by
      rcases NZ.out with e | e <;> subst e <;> kernel_rfl
    have hm := kindR_more ⟨#[122, 122]⟩ hok hN hzz
    have := iKindTerm_any ea eb (ns ++ [⟨#[122, 122]⟩]) a' c' (snoc tl 0 .nil) a'' c'' k nn s x xa xc f fa fc w' (G.out _ (XW.out.trans h)) hx' HZ.out (by rw [List.length_append]; show ns.length + 1 ≤ _; omega) ht' (by rw [len_snoc]; have := hTl.1; omega) (by have := hS.name; omega) (by have := hS.path; omega) (PN.out _ h) (MN.out _ h) (by have := hS.kids; omega) hS.sm hS.lm
    rw [hm, List.length_append, len_snoc] at this; exact this
  have FT : Hid (fits 4 (kindR ns tl k nn s x f).1 = true) := kindR_fits
  have LE : Hid ((kindR ns tl k nn s x f).2 = true → ns.length = len tl) := fun h => (kindR_yes h).1
  obtain ⟨R, hR⟩ : ∃ R, R = kindR ns tl k nn s x f := ⟨_, rfl⟩
  rw [← hR] at SK IK IM FT LE
  clear hR
  obtain ⟨r, ok⟩ := R
  simp only at FT IM LE
  have SQ : Hid (∀ w', Ex W w' → Calls Tryd.prog 5 #[.slice na ns.length 3, .slice ta (len tl) tc, .agg #[.int .i64 k, .int .i64 nn, .string s, .slice xa x.length xc, .slice fa (tlen f) fc]] w' (KtQ r ok w')) := fun w' h => SK.out w' h
  have IQ : Hid (∀ w', Ex W w' → Calls Tryd.prog 6 #[.slice na ns.length 3, .slice ta (len tl) tc, .agg #[.int .i64 k, .int .i64 nn, .string s, .slice xa x.length xc, .slice fa (tlen f) fc]] w' (KtQ r ok w')) := fun w' h => IK.out w' h
  clear SK IK
  have EV : Hid (∀ w' a' c' a'' c'', TA w' 0 r a' → TA w' 0 r a'' → Calls Tryd.prog 7 #[.agg #[.slice a' (len r) c'], .agg #[.slice a'' (len r) c'']] w' fun e w'' => e = .returned (.bool true) ∧ Ex w' w'') := fun w' a' c' a'' c'' h h' => by
    have := lhType_any (dep r + 1) r r a' a'' c' c'' 0 0 w' (by omega) (by have := (fits_sm _ _ FT.out).1; omega) (fits_sm _ _ FT.out).2 h h'
    rw [eqT_refl] at this; exact this
  have TLN : Hid (ok = true → 0 < len tl ∧ len tl ≤ 1000) := fun e => by have := hTl.1; have := LE.out e; exact ⟨by omega, by omega⟩
  have NLN : Hid (0 < ns.length ∧ ns.length ≤ 1000) := by constructor <;> omega
  have zW : w1.heap.size < W.heap.size := by rw [hW]; simp
  clear hW hX hT hP hM hS hTl htl hxc hz hnl hns hx1 FT
  go_wp2_with fail
  rw [HW.out]
  refine Calls.mono (SQ.out _ (Ex.refl _)) ?_
  rintro e w2 ⟨a2, c2, rfl, ht2, hb2⟩
  have T2 : Hid (∀ w', Ex w2 w' → TA w' 0 r a2) := fun w' h => TA_lo (TA_below ht2 h) (Nat.zero_le _)
  have x2 : Hid (Ex W w2) := hb2
  obtain ⟨q0, q1, q2, q3, q4⟩ := C.out w2 hb2
  have z2 : w1.heap.size < w2.heap.size := by have := hb2.size; omega
  clear ht2 hb2
  go_wp2_with fail
  refine Calls.mono (IQ.out _ (x2.out.trans (Ex.new _ _))) ?_
  rintro e w3 ⟨a3, c3, rfl, ht3, hb3⟩
  have T3 : Hid (∀ w', Ex w3 w' → TA w' 0 r a3) := fun w' h => TA_lo (TA_below ht3 h) (Nat.zero_le _)
  have X3 : Hid (Ex w2 w3) := (Ex.new _ _).trans hb3
  have Q2 : Hid (∀ w', Ex w3 w' → w'.cell? ⟨w2.heap.size, 0, none⟩ = some (.slice a2 (len r) c2)) := fun w' h => h.at (hb3.at (by simp))
  have z3 : w2.heap.size < w3.heap.size := World.block_lt_of_cell? _ _ (Q2.out _ (Ex.refl _))
  obtain ⟨W3, hW3⟩ : ∃ W3, W3 = w3.alloc (.cells #[.slice a3 (len r) c3] 32) := ⟨_, rfl⟩
  have HW3 : Hid (w3.alloc (.cells #[.slice a3 (len r) c3] 32) = W3) := hW3.symm
  have X4 : Hid (Ex w3 W3) := hW3 ▸ Ex.new _ _
  have Q3 : Hid (∀ w', Ex W3 w' → w'.cell? ⟨w3.heap.size, 0, none⟩ = some (.slice a3 (len r) c3)) := fun w' h => h.at (hW3 ▸ (by simp))
  have XWW : Hid (Ex W W3) := x2.out.trans (X3.out.trans X4.out)
  have u2 := Q2.out w3 (Ex.refl _)
  clear ht3 hb3 hW3 q0 q1 q2 q3 q4
  cases ok
  · go_wp2_with fail
    rw [HW3.out]
    refine Calls.mono (EV.out _ a3 c3 a2 c2 (T3.out _ X4.out) (T2.out _ (X3.out.trans X4.out))) ?_
    rintro e w5 ⟨rfl, hb5⟩
    clear u2
    have u2 := Q2.out w5 (X4.out.trans hb5)
    have u3 := Q3.out w5 hb5
    go_wp2_with fail
    refine Calls.mono (EV.out _ a3 c3 a2 c2 (T3.out _ (X4.out.trans hb5)) (T2.out _ (X3.out.trans (X4.out.trans hb5)))) ?_
    rintro e w6 ⟨rfl, hb6⟩
    go_wp2_with fail
    go_ret
    exact ⟨rfl, XW.out.trans (XWW.out.trans (hb5.trans hb6))⟩
  · go_wp2_with fail
    rw [HW3.out]
    refine Calls.mono (EV.out _ a3 c3 a2 c2 (T3.out _ X4.out) (T2.out _ (X3.out.trans X4.out))) ?_
    rintro e w5 ⟨rfl, hb5⟩
    have X5 : Hid (Ex W3 w5) := hb5
    have XW5 : Hid (Ex W w5) := XWW.out.trans hb5
    obtain ⟨q0, q1, q2, q3, q4⟩ := C.out w5 XW5.out
    have z5 : w1.heap.size < w5.heap.size := World.block_lt_of_cell? _ _ q0
    have u3 := Q3.out w5 X5.out
    have z53 : w3.heap.size < w5.heap.size := World.block_lt_of_cell? _ _ u3
    go_wp2_with fail
    refine region8 (A0 := _) (W0 := w5) (r := r) (ok := true) (ns := ns) (na := na) (nc := 3) (tl := tl) (ta := ta) (tc := tc) (tb := w1.heap.size) (k := k) (nn := nn) (s := s) (u := .slice xa x.length xc) (v := .slice fa (tlen f) fc) rfl rfl rfl rfl (XN.out _ XW5.out) (TN.out _ XW5.out) NLN.out (TLN.out (by first | trivial | rfl)) ⟨q0, q1, q2, q3, q4⟩ (fun w' a' c' a'' c'' h hx' ht' => IM.out (by first | trivial | rfl) w' a' c' a'' c'' (XW5.out.trans h) hx' ht') ?_
    rintro val w8 hx8 hv11 ⟨g, a8, c8, hv10, hb8, ht8⟩
    have X8 : Hid (Ex w5 w8) := hx8
    have T8 : Hid (TA w8 0 r a8) := ht8
    have y8 : w8.cell? ⟨g, 0, none⟩ = some (.slice a8 (len r) c8) := by rw [cell_of_row w8 g 0 _ _ _ hb8]; rfl
    have u8 := Q3.out w8 (X5.out.trans hx8)
    have zg : g < w8.heap.size := World.block_lt_of_cell? _ _ y8
    clear u3 q0 q1 q2 q3 q4 hb8 hx8 ht8
    simp only [putAll, ss8, Act.put, List.setIfInBounds_toArray, List.set_cons_zero, List.set_cons_succ, hv10, hv11]
    go_wp2_with fail
    refine Calls.mono (EV.out _ a8 c8 a3 c3 T8.out (T3.out _ (X4.out.trans (X5.out.trans X8.out)))) ?_
    rintro e w9 ⟨rfl, hb9⟩
    go_wp2_with fail
    go_ret
    exact ⟨rfl, XW.out.trans (XW5.out.trans (X8.out.trans hb9))⟩

end Go.Proofs.YtldbmlojgakieaaDoor

namespace Go.Proofs.YtldbmlojgakieaaDoor

open Go.RowKit Go.Deep Go.ChangeShapes Go.WideShapes

set_option maxRecDepth 100000

/-- So many of a family. -/
def build (g : Nat → Int × F) : Nat → Nat → F
  | _, 0 => .nil
  | i, n + 1 => .node 0 0 (g i).1 (g i).2 (build g (i + 1) n)
theorem len_build (g : Nat → Int × F) : ∀ i n, len (build g i n) = n
  | _, 0 => rfl
  | i, n + 1 => by simp [build, len, len_build g (i + 1) n]
theorem kid_build (g : Nat → Int × F) : ∀ i n j, j < n → kid (build g i n) j = (g (i + j)).2
  | _, 0, j, h => by omega
  | i, n + 1, 0, _ => rfl
  | i, n + 1, j + 1, h => by
    show kid (build g (i + 1) n) j = _
    rw [kid_build g (i + 1) n j (by omega)]; congr 2; omega
theorem num_build (g : Nat → Int × F) : ∀ i n j, j < n → num (build g i n) j = (g (i + j)).1
  | _, 0, j, h => by omega
  | i, n + 1, 0, _ => rfl
  | i, n + 1, j + 1, h => by
    show num (build g (i + 1) n) j = _
    rw [num_build g (i + 1) n j (by omega)]; congr 2; omega
theorem Lm_mk : ∀ {f : F}, (∀ j, j < len f → len (kid f j) ≤ 9223372036854775807 ∧ Lm (kid f j)) → Lm f
  | .nil, _ => trivial
  | .node _ _ _ k r, h => ⟨(h 0 (by simp [len])).1, (h 0 (by simp [len])).2, Lm_mk fun j hj => h (j + 1) (by simp only [len]; omega)⟩

end Go.Proofs.YtldbmlojgakieaaDoor

namespace Go.Proofs.YtldbmlojgakieaaDoor

open Go.ChangeShapes Go.WideShapes Go.ChangeAt Go.RowKit Go.Deep

set_option maxRecDepth 100000

/-- A list of numbers by value. -/
theorem open_intsV {H : Type} {enc : TypeId × Value → H} {W : World} {sp : Nat → Bool} {hd : Bool} {r : Reach} {b0 : Nat} {v : Value} {dd : DataW H} {p : List MemPlace} (hv : Value.okWide Tryd.prog W r b0 25 v) (h : DataW.Trod enc Tryd.prog W 0 sp hd 25 v dd p) :
    ∃ (xs : List Int) (a : Option Addr) (cap : Nat), v = .slice a xs.length cap ∧ PA W 0 xs a ∧ xs.length ≤ 9223372036854775807 := by
  obtain ⟨a, len, cap, rfl⟩ := okWide_slice Tryd.underlying25 hv
  obtain ⟨fuel, hf⟩ := h
  rcases open_ints Tryd.underlying25 Tryd.underlying3 (by kernel_rfl) hf with ⟨hcs, _⟩ | ⟨x, l, c, zs, hcs, _, hl, hm, hz, _, hcell, _⟩
  · simp [Value.cells] at hcs
    obtain ⟨rfl, rfl, rfl⟩ := hcs
    exact ⟨[], none, 0, rfl, Or.inl rfl, by simp⟩
  · simp [Value.cells] at hcs
    obtain ⟨rfl, rfl, rfl⟩ := hcs
    unfold maxLen at hm
    have hle : len ≤ zs.length := by rw [hz]; split <;> omega
    have htl : (zs.take len).length = len := by simp; omega
    refine ⟨zs.take len, some x, cap, by rw [htl], ?_, by omega⟩
    by_cases h0 : len = 0
    · exact Or.inl (by omega)
    · obtain ⟨b, o, s⟩ := x
      have h1 := hcell 0 (by omega)
      have hs : s = none := by simpa [Addr.add] using World.cell?_spot h1
      subst hs
      refine Or.inr ⟨b, o, rfl, Nat.zero_le _, fun i hi => ?_⟩
      have := hcell i (by omega)
      rw [add_plain] at this
      rw [this]
      simp [List.getD, List.getElem?_take_of_lt (show i < len by omega)]

end Go.Proofs.YtldbmlojgakieaaDoor
