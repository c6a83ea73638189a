/- Walks: what a binding gives its names to, by the program. Walks: what a binding gives its names to, by the program. Walks: what a body says, by the program. -/
import Derived.Test.YtldbmlojgakieaaGreatDoorGRN1
namespace Go.Proofs.YtldbmlojgakieaaGreatDoor

open Go.RowKit Go.Deep Go.Maps Go.WideMaps

attribute [local go_sem ↓] Go.wp_at_zero Go.wp_at_succ

theorem RowP.up {eb : Addr} {S S' : Nat → Prop} {R : Option F} {w w1 : World} {e : Ending} {w' : World} (h : RowP eb S' R w1 e w') (hx : Ex w w1) (hS : ∀ b, S' b → S b ∨ w.heap.size ≤ b) : RowP eb S R w e w' := by
  obtain ⟨a', c', he, hV, hb⟩ := h
  refine ⟨a', c', he, VS_mono hV fun b _ hs => ?_, hx.trans hb⟩
  rcases hs with h | h
  · exact hS b h
  · exact Or.inr (Nat.le_trans hx.size h)

set_option maxRecDepth 100000 in
set_option maxHeartbeats 4000000 in
theorem chosen_by (eb : Addr) (S : Nat → Prop) (fs : List PM) (la : Option Addr) (lc mb : Nat) (u : Int) (g : F) (ga : Option Addr) (gc : Nat) (k : Int) (nm : List ByteArray) (nma : Option Addr) (nmc : Nat) (fn : ByteArray) (ts : TM) (tsa : Option Addr) (tsc : Nat) (tb : BD) (tba : Option Addr) (tbc : Nat) (tz : TM) (tza : Option Addr) (tzc : Nat) (bd : BD) (ba : Option Addr) (bc : Nat) (z : TM) (za : Option Addr) (zc : Nat) (R1 R2 : Option F) (w : World) (hG : w.cell? ⟨1, 0, none⟩ = some (EV eb))
    (hT : ∀ w', Ex w w' → Calls Tryz.prog 80 #[.agg #[.slice la fs.length lc, .map (some mb)], .agg #[.slice tba (blen tb) tbc, .slice tza (tlen tz) tzc]] w' (RowP eb S R1 w')) (hE : ∀ w', Ex w w' → Calls Tryz.prog 80 #[.agg #[.slice la fs.length lc, .map (some mb)], .agg #[.slice ba (blen bd) bc, .slice za (tlen z) zc]] w' (RowP eb S R2 w')) :
    Calls Tryz.prog 121 #[.agg #[.slice la fs.length lc, .map (some mb)], .agg #[.int .i64 u, .slice ga (len g) gc], .agg #[.int .i64 k, .slice nma nm.length nmc, .string fn, .slice tsa (tlen ts) tsc, .slice tba (blen tb) tbc, .slice tza (tlen tz) tzc, .slice ba (blen bd) bc, .slice za (tlen z) zc]] w (RowP eb S (if len g = 0 then (if u = 0 then R2 else R1) else none) w) := by
  have HT : Hid _ := hT
  have HE : Hid _ := hE
  have G : Hid (∀ w', Ex w w' → w'.cell? ⟨1, 0, none⟩ = some (EV eb)) := fun w' h => h.at hG
  have N : Hid (Ex w (((w.alloc (.cells #[.slice la fs.length lc, .map (some mb)] 137)).alloc (.cells #[.int .i64 u, .slice ga (len g) gc] 55)).alloc (.cells #[.int .i64 k, .slice nma nm.length nmc, .string fn, .slice tsa (tlen ts) tsc, .slice tba (blen tb) tbc, .slice tza (tlen tz) tzc, .slice ba (blen bd) bc, .slice za (tlen z) zc] 103))) := ((Ex.new _ _).alloc _).alloc _
  have C : Hid (∀ w', Ex (((w.alloc (.cells #[.slice la fs.length lc, .map (some mb)] 137)).alloc (.cells #[.int .i64 u, .slice ga (len g) gc] 55)).alloc (.cells #[.int .i64 k, .slice nma nm.length nmc, .string fn, .slice tsa (tlen ts) tsc, .slice tba (blen tb) tbc, .slice tza (tlen tz) tzc, .slice ba (blen bd) bc, .slice za (tlen z) zc] 103)) w' → w'.cell? ⟨w.heap.size, 0, none⟩ = some (.slice la fs.length lc) ∧ w'.cell? ⟨w.heap.size, 1, none⟩ = some (.map (some mb)) ∧ w'.cell? ⟨w.heap.size + 1, 0, none⟩ = some (.int .i64 u) ∧ w'.cell? ⟨w.heap.size + 1, 1, none⟩ = some (.slice ga (len g) gc) ∧ w'.cell? ⟨w.heap.size + 2, 0, none⟩ = some (.int .i64 k) ∧ w'.cell? ⟨w.heap.size + 2, 1, none⟩ = some (.slice nma nm.length nmc) ∧ w'.cell? ⟨w.heap.size + 2, 2, none⟩ = some (.string fn) ∧ w'.cell? ⟨w.heap.size + 2, 3, none⟩ = some (.slice tsa (tlen ts) tsc) ∧ w'.cell? ⟨w.heap.size + 2, 4, none⟩ = some (.slice tba (blen tb) tbc) ∧ w'.cell? ⟨w.heap.size + 2, 5, none⟩ = some (.slice tza (tlen tz) tzc) ∧ w'.cell? ⟨w.heap.size + 2, 6, none⟩ = some (.slice ba (blen bd) bc) ∧ w'.cell? ⟨w.heap.size + 2, 7, none⟩ = some (.slice za (tlen z) zc)) := fun w' h => by
    have hb := h.blk (show (((w.alloc (.cells #[.slice la fs.length lc, .map (some mb)] 137)).alloc (.cells #[.int .i64 u, .slice ga (len g) gc] 55)).alloc (.cells #[.int .i64 k, .slice nma nm.length nmc, .string fn, .slice tsa (tlen ts) tsc, .slice tba (blen tb) tbc, .slice tza (tlen tz) tzc, .slice ba (blen bd) bc, .slice za (tlen z) zc] 103)).heap[w.heap.size + 2]? = some (.cells #[.int .i64 k, .slice nma nm.length nmc, .string fn, .slice tsa (tlen ts) tsc, .slice tba (blen tb) tbc, .slice tza (tlen tz) tzc, .slice ba (blen bd) bc, .slice za (tlen z) zc] 103 (0, 0)) from heap_alloc_at _ _ (by simp))
    exact ⟨h.at (((Ex.new _ _).alloc _).at (by simp)), h.at (((Ex.new _ _).alloc _).at (by simp)), h.at ((Ex.new _ _).at (by simp)), h.at ((Ex.new _ _).at (by simp)), blk_cell hb 0, blk_cell hb 1, blk_cell hb 2, blk_cell hb 3, blk_cell hb 4, blk_cell hb 5, blk_cell hb 6, blk_cell hb 7⟩
  obtain ⟨zz, hz⟩ : ∃ zz, (((len g : Nat) : Int) == 0) = zz := ⟨_, rfl⟩
  have IN : Hid (∀ w', Calls Tryz.prog 131 #[.agg #[.int .i64 u, .slice ga (len g) gc]] w' fun e w'' => e = .returned (.bool zz) ∧ Ex w' w'') := fun w' => isNumber_any u g ga gc zz hz w'
  obtain ⟨R, hR⟩ : ∃ R, R = if len g = 0 then (if u = 0 then R2 else R1) else none := ⟨_, rfl⟩
  have Z0 : Hid (zz = false → R = none) := fun h => by
    rw [h] at hz
    have : ¬ len g = 0 := fun e => by rw [e] at hz; simp at hz
    rw [hR, if_neg this]
  have Z1 : Hid (zz = true → R = if u = 0 then R2 else R1) := fun h => by
    rw [h] at hz
    have := beq_iff_eq.1 hz
    rw [hR, if_pos (by omega)]
  rw [← hR]
  clear hT hE hG hz hR
  go_enter Tryz.func121, Tryz.ntmps121
  go_wp2_with fail
  refine Calls.mono (IN.out _) ?_
  rintro e w1 ⟨rfl, hb1⟩
  have X1 : Hid (Ex (((w.alloc (.cells #[.slice la fs.length lc, .map (some mb)] 137)).alloc (.cells #[.int .i64 u, .slice ga (len g) gc] 55)).alloc (.cells #[.int .i64 k, .slice nma nm.length nmc, .string fn, .slice tsa (tlen ts) tsc, .slice tba (blen tb) tbc, .slice tza (tlen tz) tzc, .slice ba (blen bd) bc, .slice za (tlen z) zc] 103)) w1) := hb1
  have X0 : Hid (Ex w w1) := N.out.trans hb1
  obtain ⟨c0, c1, c2, c3, d0, d1, d2, d3, d4, d5, d6, d7⟩ := C.out w1 hb1
  have g1 := G.out w1 X0.out
  clear hb1 IN
  cases zz with
  | false =>
    have HR : Hid _ := Z0.out rfl
    go_wp2_with fail
    go_region
    all_goals
      go_wp2_with fail
      refine bodyPost_ret (v := .tuple #[.slice none 0 0, EV eb]) (by simp [results, Tryz.results121, go_sem]) rfl ⟨none, 0, by rw [HR.out]; rfl, by rw [HR.out]; exact Or.inl rfl, ?_⟩
      first | exact X0.out.drew | exact X0.out
  | true =>
    by_cases h0 : u = 0
    · have HR : Hid (R = R2) := (Z1.out rfl).trans (if_pos h0)
      have q0 : (u == 0) = true := by rw [beq_iff_eq]; exact h0
      subst h0
      go_wp2_with fail
      refine Calls.mono (HE.out _ X0.out) ?_
      rintro e w2 h2
      rw [← HR.out] at h2
      obtain ⟨a2, k2, rfl, hV2, hb2⟩ := RowP.up h2 X0.out fun b hb => Or.inl hb
      have V2 : Hid _ := hV2
      have X2 : Hid (Ex w w2) := hb2
      clear h2 hV2 hb2
      go_wp2_with fail
      exact bodyPost_ret (v := .tuple #[.slice a2 (len (R.getD .nil)) k2, errV eb R.isSome]) (by simp [results, Tryz.results121, go_sem]) rfl ⟨a2, k2, rfl, V2.out, X2.out⟩
    · have HR : Hid (R = R1) := (Z1.out rfl).trans (if_neg h0)
      have q0 : (u == 0) = false := by rw [beq_eq_false_iff_ne]; exact h0
      clear h0
      go_wp2_with fail
      refine Calls.mono (HT.out _ X0.out) ?_
      rintro e w2 h2
      rw [← HR.out] at h2
      obtain ⟨a2, k2, rfl, hV2, hb2⟩ := RowP.up h2 X0.out fun b hb => Or.inl hb
      have V2 : Hid _ := hV2
      have X2 : Hid (Ex w w2) := hb2
      clear h2 hV2 hb2
      go_wp2_with fail
      exact bodyPost_ret (v := .tuple #[.slice a2 (len (R.getD .nil)) k2, errV eb R.isSome]) (by simp [results, Tryz.results121, go_sem]) rfl ⟨a2, k2, rfl, V2.out, X2.out⟩

end Go.Proofs.YtldbmlojgakieaaGreatDoor

namespace Go.Proofs.YtldbmlojgakieaaGreatDoor

open Go.RowKit Go.Deep Go.Maps Go.WideMaps

attribute [local go_sem ↓] Go.wp_at_zero Go.wp_at_succ

/-- How a call goes on, told which function it is of. -/
def GoOn (eb : Addr) (S : Nat → Prop) (fs : List PM) (la : Option Addr) (lc : Nat) (w : World) (R : Option F) (f : PM) (l : F) : Prop := ∀ w' a1 k1 a2 k2 a3 k3 a' c', Ex w w' → XA w' 0 f.params a1 → BA w' 0 f.binds a2 → MA w' 0 f.says a3 → VS w' (fun b => S b ∨ w.heap.size ≤ b) l a' → Calls Tryz.prog 58 #[.slice la fs.length lc, .agg #[.string f.name, .slice a1 f.params.length k1, .slice a2 (blen f.binds) k2, .slice a3 (tlen f.says) k3], .slice a' (len l) c'] w' (RowP eb (fun b => S b ∨ w.heap.size ≤ b) R w')
set_option maxRecDepth 100000 in
set_option maxHeartbeats 4000000 in
theorem said_by (eb : Addr) (S : Nat → Prop) (fs : List PM) (la : Option Addr) (lc mb : Nat) (k : Int) (nm : List ByteArray) (nma : Option Addr) (nmc : Nat) (fn : ByteArray) (ts : TM) (tsa : Option Addr) (tsc : Nat) (tb : BD) (tba : Option Addr) (tbc : Nat) (tz : TM) (tza : Option Addr) (tzc : Nat) (bd : BD) (ba : Option Addr) (bc : Nat) (z : TM) (za : Option Addr) (zc : Nat) (RL R : Option F) (w : World) (hQ : QA w 0 fs la) (hl : fs.length ≤ 1000000000)
    (hTm : ∀ w', Ex w w' → Calls Tryz.prog 104 #[.agg #[.slice la fs.length lc, .map (some mb)], .slice tsa (tlen ts) tsc] w' (RowP eb S RL w')) (h0 : RL = none → R = none)
    (h1 : ∀ l, RL = some l → (k = 1 ∧ R = some l) ∨ (k = 2 ∧ ∃ q, q < fs.length ∧ (∀ j, j < q → ((fs.getD j pm0).name.toList == fn.toList) = false) ∧ ((fs.getD q pm0).name.toList == fn.toList) = true ∧ GoOn eb S fs la lc w R (fs.getD q pm0) l) ∨
      (k = 3 ∧ 0 < len l ∧ ∀ w' ga gc, Ex w w' → Calls Tryz.prog 121 #[.agg #[.slice la fs.length lc, .map (some mb)], .agg #[.int .i64 (num l 0), .slice ga (len (kid l 0)) gc], .agg #[.int .i64 k, .slice nma nm.length nmc, .string fn, .slice tsa (tlen ts) tsc, .slice tba (blen tb) tbc, .slice tza (tlen tz) tzc, .slice ba (blen bd) bc, .slice za (tlen z) zc]] w' (RowP eb S R w'))) :
    Calls Tryz.prog 103 #[.agg #[.slice la fs.length lc, .map (some mb)], .agg #[.int .i64 k, .slice nma nm.length nmc, .string fn, .slice tsa (tlen ts) tsc, .slice tba (blen tb) tbc, .slice tza (tlen tz) tzc, .slice ba (blen bd) bc, .slice za (tlen z) zc]] w (RowP eb S R w) := by
  have N : Hid (Ex w ((w.alloc (.cells #[.slice la fs.length lc, .map (some mb)] 137)).alloc (.cells #[.int .i64 k, .slice nma nm.length nmc, .string fn, .slice tsa (tlen ts) tsc, .slice tba (blen tb) tbc, .slice tza (tlen tz) tzc, .slice ba (blen bd) bc, .slice za (tlen z) zc] 103))) := (Ex.new _ _).alloc _
  have C : Hid (∀ w', Ex ((w.alloc (.cells #[.slice la fs.length lc, .map (some mb)] 137)).alloc (.cells #[.int .i64 k, .slice nma nm.length nmc, .string fn, .slice tsa (tlen ts) tsc, .slice tba (blen tb) tbc, .slice tza (tlen tz) tzc, .slice ba (blen bd) bc, .slice za (tlen z) zc] 103)) w' → w'.cell? ⟨w.heap.size, 0, none⟩ = some (.slice la fs.length lc) ∧ w'.cell? ⟨w.heap.size, 1, none⟩ = some (.map (some mb)) ∧ w'.cell? ⟨w.heap.size + 1, 0, none⟩ = some (.int .i64 k) ∧ w'.cell? ⟨w.heap.size + 1, 1, none⟩ = some (.slice nma nm.length nmc) ∧ w'.cell? ⟨w.heap.size + 1, 2, none⟩ = some (.string fn) ∧ w'.cell? ⟨w.heap.size + 1, 3, none⟩ = some (.slice tsa (tlen ts) tsc) ∧ w'.cell? ⟨w.heap.size + 1, 4, none⟩ = some (.slice tba (blen tb) tbc) ∧ w'.cell? ⟨w.heap.size + 1, 5, none⟩ = some (.slice tza (tlen tz) tzc) ∧ w'.cell? ⟨w.heap.size + 1, 6, none⟩ = some (.slice ba (blen bd) bc) ∧ w'.cell? ⟨w.heap.size + 1, 7, none⟩ = some (.slice za (tlen z) zc)) := fun w' h => by
    have hb := h.blk (show ((w.alloc (.cells #[.slice la fs.length lc, .map (some mb)] 137)).alloc (.cells #[.int .i64 k, .slice nma nm.length nmc, .string fn, .slice tsa (tlen ts) tsc, .slice tba (blen tb) tbc, .slice tza (tlen tz) tzc, .slice ba (blen bd) bc, .slice za (tlen z) zc] 103)).heap[w.heap.size + 1]? = some (.cells #[.int .i64 k, .slice nma nm.length nmc, .string fn, .slice tsa (tlen ts) tsc, .slice tba (blen tb) tbc, .slice tza (tlen tz) tzc, .slice ba (blen bd) bc, .slice za (tlen z) zc] 103 (0, 0)) from heap_alloc_at _ _ (by simp))
    exact ⟨h.at ((Ex.new _ _).at (by simp)), h.at ((Ex.new _ _).at (by simp)), blk_cell hb 0, blk_cell hb 1, blk_cell hb 2, blk_cell hb 3, blk_cell hb 4, blk_cell hb 5, blk_cell hb 6, blk_cell hb 7⟩
  have Q : Hid (∀ w', Ex w w' → QA w' 0 fs la) := fun _ h => QA_below hQ h
  have TM0 : Hid _ := hTm
  have H0 : Hid _ := h0
  have H1 : Hid _ := h1
  have HL : Hid (fs.length ≤ 1000000000) := hl
  clear hQ hTm h0 h1 hl
  obtain ⟨c0, c1, d0, d1, d2, d3, d4, d5, d6, d7⟩ := C.out _ (Ex.refl _)
  go_enter Tryz.func103, Tryz.ntmps103
  go_wp2_with fail
  refine Calls.mono (TM0.out _ N.out) ?_
  rintro e w1 ⟨a', c', rfl, hV1, hb1⟩
  have X1 : Hid (Ex ((w.alloc (.cells #[.slice la fs.length lc, .map (some mb)] 137)).alloc (.cells #[.int .i64 k, .slice nma nm.length nmc, .string fn, .slice tsa (tlen ts) tsc, .slice tba (blen tb) tbc, .slice tza (tlen tz) tzc, .slice ba (blen bd) bc, .slice za (tlen z) zc] 103)) w1) := hb1
  have X0 : Hid (Ex w w1) := N.out.trans hb1
  have V1 : Hid (VS w1 (fun b => S b ∨ w.heap.size ≤ b) (RL.getD .nil) a') := VS_mono hV1 fun b _ hs => by
    rcases hs with h | h
    · exact Or.inl h
    · exact Or.inr (Nat.le_trans N.out.size h)
  clear c0 c1 d0 d1 d2 d3 d4 d5 d6 d7 hV1 hb1 TM0
  obtain ⟨c0, c1, d0, d1, d2, d3, d4, d5, d6, d7⟩ := C.out _ X1.out
  cases RL with
  | none =>
    have HR : Hid (R = none) := H0.out rfl
    simp only [Option.getD_none, Option.isSome_none, errV, Bool.false_eq_true, if_false]
    go_wp2_with fail
    exact bodyPost_ret (v := .tuple #[.slice none 0 0, EV eb]) (by simp [results, Tryz.results103, go_sem]) rfl ⟨none, 0, by rw [HR.out]; rfl, by rw [HR.out]; exact Or.inl rfl, X0.out⟩
  | some l =>
    have V2 : Hid (VS w1 (fun b => S b ∨ w.heap.size ≤ b) l a') := V1.out
    simp only [Option.getD_some, Option.isSome_some, errV, if_true]
    clear V1
    rcases H1.out l rfl with ⟨rfl, hR⟩ | ⟨rfl, q, hq, hq1, hq2, hgo⟩ | ⟨rfl, hl0, hch⟩
    · have HR : Hid (R = some l) := hR
      clear hR H0 H1
      go_wp2_with fail
      exact bodyPost_ret (v := .tuple #[.slice a' (len l) c', .nilIface]) (by simp [results, Tryz.results103, go_sem]) rfl ⟨a', c', by rw [HR.out]; rfl, by rw [HR.out]; exact V2.out, X0.out⟩
    · have GO : Hid _ := hgo
      have NM : Hid (∀ w', Ex w w' → Calls Tryz.prog 56 #[.slice la fs.length lc, .string fn] w' (FnP (fs.getD q pm0) w')) := fun w' h => named_fn fs la lc fn q w' HL.out (Q.out w' h) hq hq1 hq2
      obtain ⟨f, hf⟩ : ∃ f, f = fs.getD q pm0 := ⟨_, rfl⟩
      rw [← hf] at GO NM
      clear hf hgo hq1 hq2 H0 H1
      go_wp2_with fail
      refine Calls.mono (NM.out _ X0.out) ?_
      rintro e w2 ⟨a1, k1, a2, k2, a3, k3, rfl, hm1, hm2, hm3, hb2⟩
      have Y2 : Hid (Ex _ w2) := X1.out.trans hb2
      have X2 : Hid (Ex w1 w2) := hb2
      have M1 : Hid _ := hm1
      have M2 : Hid _ := hm2
      have M3 : Hid _ := hm3
      clear c0 c1 d0 d1 d2 d3 d4 d5 d6 d7 hm1 hm2 hm3 hb2 NM
      obtain ⟨c0, c1, d0, d1, d2, d3, d4, d5, d6, d7⟩ := C.out _ Y2.out
      have z2 : w.heap.size < w2.heap.size := World.block_lt_of_cell? _ _ c0
      have z3 : w.heap.size + 1 < w2.heap.size := World.block_lt_of_cell? _ _ d0
      go_wp2_with fail
      refine Calls.mono (GO.out _ a1 k1 a2 k2 a3 k3 a' c' (X0.out.trans (X2.out.trans (Ex.new _ _))) (XA_below M1.out (Ex.new _ _)) (BA_below M2.out (Ex.new _ _)) (MA_below M3.out (Ex.new _ _)) (VS_ex V2.out (X2.out.trans (Ex.new _ _)))) ?_
      rintro e w3 h3
      obtain ⟨a4, k4, rfl, hV4, hb4⟩ := RowP.up h3 (X0.out.trans (X2.out.trans (Ex.new _ _))) fun b hb => hb
      have V4 : Hid _ := hV4
      have X4 : Hid (Ex w w3) := hb4
      clear h3 hV4 hb4
      go_wp2_with fail
      exact bodyPost_ret (v := .tuple #[.slice a4 (len (R.getD .nil)) k4, errV eb R.isSome]) (by simp [results, Tryz.results103, go_sem]) rfl ⟨a4, k4, rfl, V4.out, X4.out⟩
    · have CH : Hid _ := hch
      obtain ⟨b, o, hav, _, hbs, hk⟩ := VS_at V2.out hl0
      obtain ⟨v0, a0, k0, v1, _⟩ := hk 0 hl0
      subst hav
      have i1 : (0 : Int) < (len l : Int) := by omega
      rw [Nat.zero_mul, Nat.add_zero] at v0 v1
      clear hch hk H0 H1
      go_wp2_with fail
      go_region_with (go_at_call 121; refine (CH.out _ a0 k0 (X0.out.trans (by first | exact (Ex.refl _).drew | exact (Ex.refl _)))).mono ?_; rintro e w3 h3; obtain ⟨a4, k4, rfl, hV4, hb4⟩ := RowP.up h3 (X0.out.trans (by first | exact (Ex.refl _).drew | exact (Ex.refl _))) fun b hb => Or.inl hb)
      all_goals
        go_wp2_with fail
        exact bodyPost_ret (v := .tuple #[.slice a4 (len (R.getD .nil)) k4, errV eb R.isSome]) (by simp [results, Tryz.results103, go_sem]) rfl ⟨a4, k4, rfl, hV4, hb4⟩

end Go.Proofs.YtldbmlojgakieaaGreatDoor

namespace Go.Proofs.YtldbmlojgakieaaGreatDoor

open Go.RowKit Go.Deep Go.Maps Go.WideMaps

attribute [local go_sem ↓] Go.wp_at_zero Go.wp_at_succ

theorem VS_fr0 {w w' : World} {B : Nat} {S : Nat → Prop} {f : F} {a : Option Addr} (h : VS w S f a) (hx : Fr B w w') (hS : ¬ S B) : VS w' S f a := VS_ks h fun b hs hlt => hx.block b hlt fun e => hS (e ▸ hs)
theorem EM.ne {w : World} {S : Nat → Prop} {mb n : Nat} {L : Env} (h : EM w S mb n L) {p : Addr} {v : Value} (hc : w.cell? p = some v) : p.block ≠ mb := by
  obtain ⟨D, ⟨es, cl, h1, h2⟩, h3⟩ := h
  intro e
  simp [World.cell?, e, h1] at hc
theorem EM.fr {w w' : World} {S : Nat → Prop} {B mb n : Nat} {L : Env} (h : EM w S mb n L) (hf : Fr B w w') (hB : B ≠ mb) (hS : ¬ S B) : EM w' S mb n L := by
  have hl := h.lt
  obtain ⟨D, ⟨es, cl, h1, h2⟩, h3⟩ := h
  exact ⟨D, ⟨es, cl, (hf.block mb hl (fun e => hB e.symm)).trans h1, h2⟩, fun s => by
    obtain ⟨a, c, e, hV⟩ := h3 s
    exact ⟨a, c, e, VS_fr0 hV hf hS⟩⟩

theorem env_none {call : Call} {rec : Env → BD → TM → Option F} {L : Env} {b : BD} {j : Nat} (h : envV call rec L b j = none) : ∀ i, j ≤ i → envV call rec L b i = none := by
  intro i hi
  induction i with
  | zero => obtain rfl : j = 0 := by omega
            exact h
  | succ i ih =>
    by_cases e : j = i + 1
    · rw [← e]; exact h
    · rw [envV, ih (by omega)]; rfl
theorem body_none {call : Call} {d : Nat} {L L' : Env} {b : BD} {z : TM} {j : Nat} (hj : j < blen b) (h : envV call (bodyV call d) L b j = some L') (hb : bindV call (bodyV call d) L' b j = none) : bodyV call (d + 1) L b z = none := by
  rw [bodyV, env_none (j := j + 1) (by rw [envV, h]; show (bindV call (bodyV call d) L' b j).bind _ = none; rw [hb]; rfl) _ (by omega)]; rfl
theorem env_step {call : Call} {d : Nat} {L L' : Env} {b : BD} {j : Nat} {l : F} (h : envV call (bodyV call d) L b j = some L') (hb : bindV call (bodyV call d) L' b j = some l) : envV call (bodyV call d) L b (j + 1) = some (setAllE L' (bnames b j) l (bnames b j).length) := by
  rw [envV, h]; show (bindV call (bodyV call d) L' b j).bind _ = _; rw [hb]; rfl

/-- Calls of functions ahead go on as they should. -/
def CallsOk (eb : Addr) (l : List PM) (la : Option Addr) (lc m : Nat) (call : Call) : Prop := ∀ q fn v, q < m → ((l.getD q pm0).name.toList == fn.toList) = true → len v = (l.getD q pm0).params.length → tyL v → ∀ (S : Nat → Prop) (w : World), w.cell? ⟨1, 0, none⟩ = some (EV eb) → QA w 0 l la → (∀ b, S b → b < w.heap.size) → GoOn eb S l la lc w (call fn v) (l.getD q pm0) v

set_option maxRecDepth 100000 in
set_option maxHeartbeats 4000000 in
theorem vbody_any (eb : Addr) (l : List PM) (la : Option Addr) (lc m : Nat) (hm : m ≤ l.length) (hl : l.length ≤ 1000000000) (call : Call) (hok : okCall (l.take m) call) (hcs : CallsOk eb l la lc m call) : ∀ (d mb mn : Nat) (S : Nat → Prop) (L : Env) (ns : List ByteArray) (b : BD) (ba : Option Addr) (bc : Nat) (z : TM) (za : Option Addr) (zc : Nat) (w : World), d ≤ 6 → mn + 25000 * d ≤ 200000 → bodyB (l.take m) d ns b z = true → tyE L → BSm b → BLm b → TSm z → TLm z →
    w.cell? ⟨1, 0, none⟩ = some (EV eb) → EM w S mb mn L → (∀ q, S q → q < w.heap.size) → QA w 0 l la → BA w 0 b ba → MA w 0 z za →
    Calls Tryz.prog 80 #[.agg #[.slice la l.length lc, .map (some mb)], .agg #[.slice ba (blen b) bc, .slice za (tlen z) zc]] w (RowP eb S (bodyV call d L b z) w) := by
  intro d
  induction d with
  | zero =>
    intro mb mn S L ns b ba bc z za zc w _ _ h
    cases h
  | succ d ih =>
    intro mb mn S L ns b ba bc z za zc w hd hmn hbok hL hsm hlm hzm hzk hG hC hS hQ hB hM
    obtain ⟨hb4, hba, hzt⟩ := bodyB_yes hbok
    obtain ⟨hz6, hz8⟩ := termsB_kids hzt
    have G : Hid (∀ w', Ex w w' → w'.cell? ⟨1, 0, none⟩ = some (EV eb)) := fun w' h => h.at hG
    have Q : Hid (∀ w', Ex w w' → QA w' 0 l la) := fun _ h => QA_below hQ h
    have B : Hid (∀ w', Ex w w' → BS w' (fun bl => bl < w.heap.size) b ba) := fun _ h => BS_ks (BS_mono hB fun _ h1 _ => h1) fun k hk _ => h.block k hk
    have M : Hid (∀ w', Ex w w' → MA w' 0 z za) := fun _ h => MA_below hM h
    have SM : Hid (BSm b) := hsm
    have LM : Hid (BLm b) := hlm
    have I : Hid _ := ih
    have CS : Hid (CallsOk eb l la lc m call) := hcs
    have OK : Hid (okCall (l.take m) call) := hok
    have BA0 : Hid (∀ i, i < blen b → bindAt (l.take m) (bodyB (l.take m) d) ns b i = true) := hba
    have ET : Hid (∀ j, j ≤ blen b → ∀ L', envV call (bodyV call d) L b j = some L' → tyE L') := env_ty hok (body_ty hok d) hba hL
    have HS : Hid (∀ q, S q → q < w.heap.size) := hS
    have N : Hid (Ex w ((w.alloc (.cells #[.slice la l.length lc, .map (some mb)] 137)).alloc (.cells #[.slice ba (blen b) bc, .slice za (tlen z) zc] 59))) := (Ex.new _ _).alloc _
    have C : Hid (∀ w', Ex ((w.alloc (.cells #[.slice la l.length lc, .map (some mb)] 137)).alloc (.cells #[.slice ba (blen b) bc, .slice za (tlen z) zc] 59)) w' → w'.cell? ⟨w.heap.size, 0, none⟩ = some (.slice la l.length lc) ∧ w'.cell? ⟨w.heap.size, 1, none⟩ = some (.map (some mb)) ∧ w'.cell? ⟨w.heap.size + 1, 0, none⟩ = some (.slice ba (blen b) bc) ∧ w'.cell? ⟨w.heap.size + 1, 1, none⟩ = some (.slice za (tlen z) zc)) := fun w' h => ⟨h.at (by simp), h.at (by simp), h.at (by simp), h.at (by simp)⟩
    obtain ⟨R, hR⟩ : ∃ R, R = bodyV call (d + 1) L b z := ⟨_, rfl⟩
    have RR : Hid (R = bodyV call (d + 1) L b z) := hR
    rw [← hR]
    have CL : Hid (∀ w', Ex w w' → Calls Tryz.prog 102 #[.map (some mb)] w' fun e w'' => ∃ mb', e = .returned (.map (some mb')) ∧ EM w'' S mb' mn L ∧ w'.heap.size ≤ mb' ∧ Ex w' w'') := fun w' h => cloneV_any w' S mb mn L (hC.ex h)
    have ZK : Hid (TSm z ∧ TLm z ∧ kidsB (nsAt ns b (blen b)) 8 z = true) := ⟨hzm, hzk, hz8⟩
    clear hG hC hQ hB hM hR hsm hlm ih hzm hzk hbok hL hcs hok hba hzt hz8 hS
    obtain ⟨V, hV⟩ : ∃ V, V = (w.alloc (.cells #[.slice la l.length lc, .map (some mb)] 137)).alloc (.cells #[.slice ba (blen b) bc, .slice za (tlen z) zc] 59) := ⟨_, rfl⟩
    have HV : Hid (V = (w.alloc (.cells #[.slice la l.length lc, .map (some mb)] 137)).alloc (.cells #[.slice ba (blen b) bc, .slice za (tlen z) zc] 59)) := hV
    rw [← hV] at N C
    have zV : V.heap.size = w.heap.size + 2 := by rw [hV]; simp only [World.size_alloc]
    have ZV : Hid (V.heap.size = w.heap.size + 2) := zV
    obtain ⟨c0, c1, c2, c3⟩ := C.out V (Ex.refl _)
    clear hV zV
    go_enter Tryz.func80, Tryz.ntmps80
    go_upto_region 1 with fail
    rw [← HV.out]
    clear HV
    have y0 : w.heap.size < V.heap.size := by have := ZV.out; omega
    go_cut [6] from 11 to 16 (fun p7 wx => ∃ ib mi, p7 = .pointer (some ⟨ib, 0, none⟩) ∧ wx.cell? ⟨ib, 0, none⟩ = some (.slice la l.length lc) ∧ wx.cell? ⟨ib, 1, none⟩ = some (.map (some mi)) ∧ EM wx S mi mn L ∧ V.heap.size ≤ mi ∧ Ex V wx)
    case first =>
      have NS : ¬ S V.heap.size := fun h => by have := HS.out _ h; have := ZV.out; omega
      go_region_with (first | (go_at_call 102; refine (CL.out _ (N.out.trans (by first | exact (Ex.refl _).drew | exact (Ex.refl _).drew.alloc _))).mono ?_; rintro e w5 ⟨m5, rfl, hC5, hm5, hb5⟩; have xb : Ex V w5 := (by refine Ex.trans ?_ hb5; first | exact (Ex.refl _).drew | exact (Ex.refl _).drew.alloc _); have q0 := xb.at c0; have q1 := xb.at c1; have z5 : w.heap.size < w5.heap.size := (World.block_lt_of_cell? _ _ q0); have hm6 : V.heap.size ≤ m5 := (by refine Nat.le_trans ?_ hm5; first | exact Nat.le_refl _ | exact Below.size (Ex.alloc (Ex.drew (Ex.refl V)) _) | exact Below.size (Ex.drew (Ex.alloc (Ex.refl V) _))); first | (have ob : w5.heap[V.heap.size]? = some (.cells #[.slice none 0 0, .map none] 137 (0, 0)) := hb5.blk (heap_alloc_at _ _ rfl); have oc0 : w5.cell? ⟨V.heap.size, 0, none⟩ = some (.slice none 0 0) := blk_cell ob 0; have oc1 : w5.cell? ⟨V.heap.size, 1, none⟩ = some (.map none) := blk_cell ob 1; have of0 := blk_free ob 0; have of1 := blk_free ob 1) | skip))
      all_goals
        go_wp2_with fail
        go_meet
        first
          | exact ⟨V.heap.size, m5, rfl, blk_cell (blk_set (blk_set ob (.slice la l.length lc)) (.map (some m5))) 0, blk_cell (blk_set (blk_set ob (.slice la l.length lc)) (.map (some m5))) 1, (hC5.fr (Fr.set (Fr.refl V.heap.size _) (Or.inl rfl) _) (hC5.ne oc0) NS).fr (Fr.set (Fr.refl V.heap.size _) (Or.inl rfl) _) (hC5.ne oc0) NS, hm6, (xb.set (Nat.le_refl _) _).set (Nat.le_refl _) _⟩
          | exact ⟨w5.heap.size, m5, rfl, World.cell?_alloc_new _ _ _ _, World.cell?_alloc_new _ _ _ _, hC5.ex (Ex.new _ _), hm6, xb.alloc _⟩
    case rest =>
      rename World => W2
      obtain ⟨ib, mi, rfl, i0, i1, hCi, hmi, hxi⟩ := hcut
      have X2 : Hid (Ex V W2) := hxi
      have CI : Hid (∀ w', Fr mi W2 w' → w'.cell? ⟨ib, 0, none⟩ = some (.slice la l.length lc) ∧ w'.cell? ⟨ib, 1, none⟩ = some (.map (some mi))) := fun w' h => ⟨h.at (hCi.ne i0) i0, h.at (hCi.ne i1) i1⟩
      have EX : Hid (∀ w', Fr mi W2 w' → Ex V w') := fun w' h => h.to_ex hxi hmi
      have C2 : Hid (EM W2 (fun q => (S q ∨ w.heap.size ≤ q) ∧ q ≠ mi) mi mn L) := hCi.mono fun q _ hq => ⟨Or.inl hq, fun e => by have := HS.out q hq; have := ZV.out; omega⟩
      have ZM : Hid (V.heap.size ≤ mi) := hmi
      clear c0 c1 c2 c3 hxi i0 i1
      obtain ⟨c0, c1, c2, c3⟩ := C.out W2 X2.out
      clear hCi hmi CL
      go_wp2_with fail
      clear c0 c1 c2 c3
      go_loopw [8, 9, 10, 20] (fun _ _ _ i wr => ∃ (j nn : Nat) (L' : Env), j ≤ blen b ∧ i = .int .i64 j ∧ envV call (bodyV call d) L b j = some L' ∧ EM wr (fun q => (S q ∨ w.heap.size ≤ q) ∧ q ≠ mi) mi nn L' ∧ nn ≤ mn + 60 * j ∧ Fr mi W2 wr) (fun _ _ _ i _ => blen b - (intOf i).toNat)
      case atStart => exact ⟨0, mn, L, by omega, rfl, rfl, C2.out, by omega, Fr.refl _ _⟩
      case round =>
        obtain ⟨j, nn, L', hj, rfl, hev, hem, hnn, hf⟩ := hrel
        have EVJ : Hid (envV call (bodyV call d) L b j = some L') := hev
        have F : Hid (Fr mi W2 wr) := hf
        have E : Hid (Ex V wr) := EX.out wr hf
        have CJ : Hid (EM wr (fun q => (S q ∨ w.heap.size ≤ q) ∧ q ≠ mi) mi nn L') := hem
        have TL : Hid (tyE L') := ET.out j hj L' hev
        obtain ⟨i0, i1⟩ := CI.out wr hf
        obtain ⟨c0, c1, c2, c3⟩ := C.out wr E.out
        have zi : ib < wr.heap.size := World.block_lt_of_cell? _ _ i0
        have zm : mi < wr.heap.size := hem.lt
        have CR : Hid (EM wr (fun q => ((S q ∨ w.heap.size ≤ q) ∧ q ≠ mi) ∧ q < wr.heap.size) mi nn L') := hem.mono fun q h1 h2 => ⟨h2, h1⟩
        have XW : Hid (Ex w wr) := N.out.trans E.out
        clear hem hf hev
        by_cases hlt : j < blen b
        · obtain ⟨bb, o, rfl, _, hbs, hk⟩ := BS_at (B.out wr XW.out) (by omega)
          obtain ⟨b0, ⟨a1, k1, b1, hnc, x1⟩, b2, ⟨a3, k3, b3, x3⟩, ⟨a4, k4, b4, x4⟩, ⟨a5, k5, b5, x5⟩, ⟨a6, k6, b6, x6⟩, ⟨a7, k7, b7, x7⟩⟩ := hk j hlt
          obtain ⟨s1, s2, s3, s4, s5, s6, s7, s8⟩ := BSm_at SM.out j hlt
          obtain ⟨t1, t2, t3⟩ := BSm_terms SM.out j hlt
          obtain ⟨l1, l2, l3, l4, l5, l6, l7, l8, l9, la', lb', lc', ld'⟩ := BLm_at LM.out j hlt
          obtain ⟨hn60, htt, _, hkind⟩ := bindB_yes (BA0.out j hlt)
          obtain ⟨ht60, hk8⟩ := termsB_kids htt
          have BTY : Hid (∀ lv, bindV call (bodyV call d) L' b j = some lv → tyL lv ∧ len lv = (bnames b j).length) := fun lv h => bind_ty OK.out (body_ty OK.out d) (BA0.out j hlt) TL.out h
          have HI : Hid (∀ w', Ex wr w' → Calls Tryz.prog 103 #[.agg #[.slice la l.length lc, .map (some mi)], .agg #[.int .i64 (bkind b j), .slice a1 (bnames b j).length k1, .string (bfn b j), .slice a3 (tlen (bterms b j)) k3, .slice a4 (blen (bthen b j)) k4, .slice a5 (tlen (btsay b j)) k5, .slice a6 (blen (belse b j)) k6, .slice a7 (tlen (besay b j)) k7]] w' (RowP eb (fun q => ((S q ∨ w.heap.size ≤ q) ∧ q ≠ mi) ∧ q < wr.heap.size) (bindV call (bodyV call d) L' b j) w')) := fun w' h => by
            have e1 : Ex w w' := XW.out.trans h
            have ks : ∀ w2, Ex wr w2 → Ks (fun bl => bl < w.heap.size) wr w2 := fun w2 h2 k hk hk2 => h2.block k hk2
            have hS2 : ∀ w2, Ex wr w2 → ∀ q, (fun q => ((S q ∨ w.heap.size ≤ q) ∧ q ≠ mi) ∧ q < wr.heap.size) q → q < w2.heap.size := fun w2 h2 q hq => Nat.lt_of_lt_of_le hq.2 h2.size
            refine said_by eb (fun q => ((S q ∨ w.heap.size ≤ q) ∧ q ≠ mi) ∧ q < wr.heap.size) l la lc mi _ _ a1 k1 _ _ a3 k3 _ a4 k4 _ a5 k5 _ a6 k6 _ a7 k7 (evL L' (bterms b j)) _ w' (Q.out w' e1) hl
              (fun w2 h2 => nterms_any eb (fun q => ((S q ∨ w.heap.size ≤ q) ∧ q ≠ mi) ∧ q < wr.heap.size) L' TL.out la l.length lc mi nn (nsAt ns b j) 8 _ a3 k3 w2 (G.out w2 (e1.trans h2)) (CR.out.ex (h.trans h2)) (hS2 w2 (h.trans h2)) (MS_mono (MS_ks x3 (ks w2 (h.trans h2))) fun _ _ _ => Nat.zero_le _) (by omega) t1 l5 hk8) (fun h0 => by unfold bindV; rw [h0]; rfl) ?_
            intro lv hlv
            have hR : bindV call (bodyV call d) L' b j = kindV call (bodyV call d) L' (bkind b j) (bfn b j) (bthen b j) (btsay b j) (belse b j) (besay b j) lv := by unfold bindV; rw [hlv]; rfl
            have hlen := evL_len hlv
            have htyl := ev_ty TL.out _ 8 _ hk8 lv hlv
            rcases hkind with ⟨hk1, _, _⟩ | ⟨hk2, ha1, ha2, _⟩ | ⟨hk3, ht1, hr1, hr2, _, _⟩
            · exact Or.inl ⟨hk1, by rw [hR, hk1]; rfl⟩
            · obtain ⟨q, hq1, hq2, hq3, hq4⟩ := arity_find hm ha1
              rw [hq4] at ha2
              refine Or.inr (Or.inl ⟨hk2, q, by omega, hq3, hq2, ?_⟩)
              rw [hR, show kindV call (bodyV call d) L' (bkind b j) (bfn b j) (bthen b j) (btsay b j) (belse b j) (besay b j) lv = call (bfn b j) lv by unfold kindV; rw [if_pos hk2]]
              exact CS.out q (bfn b j) lv hq1 hq2 (hlen.trans ha2.symm) htyl (fun q => ((S q ∨ w.heap.size ≤ q) ∧ q ≠ mi) ∧ q < wr.heap.size) w' (G.out w' e1) (Q.out w' e1) (hS2 w' h)
            · refine Or.inr (Or.inr ⟨hk3, by omega, fun w2 ga gc h2 => ?_⟩)
              rw [hR, show kindV call (bodyV call d) L' (bkind b j) (bfn b j) (bthen b j) (btsay b j) (belse b j) (besay b j) lv = (if len (kid lv 0) = 0 then (if num lv 0 = 0 then bodyV call d L' (belse b j) (besay b j) else bodyV call d L' (bthen b j) (btsay b j)) else none) by unfold kindV; rw [if_neg (by omega), if_pos hk3]]
              have h3 := h.trans h2
              have e3 := e1.trans h2
              exact chosen_by eb (fun q => ((S q ∨ w.heap.size ≤ q) ∧ q ≠ mi) ∧ q < wr.heap.size) l la lc mi (num lv 0) (kid lv 0) ga gc _ _ a1 k1 _ _ a3 k3 _ a4 k4 _ a5 k5 _ a6 k6 _ a7 k7 _ _ w2 (G.out w2 e3)
                (fun w4 h4 => I.out mi nn (fun q => ((S q ∨ w.heap.size ≤ q) ∧ q ≠ mi) ∧ q < wr.heap.size) L' _ _ _ _ _ _ _ w4 (by omega) (by omega) hr1 TL.out s4 l7 t2 l9 (G.out w4 (e3.trans h4)) (CR.out.ex (h3.trans h4)) (hS2 w4 (h3.trans h4)) (Q.out w4 (e3.trans h4)) (BS_mono (BS_ks x4 (ks w4 (h3.trans h4))) fun _ _ _ => Nat.zero_le _) (MS_mono (MS_ks x5 (ks w4 (h3.trans h4))) fun _ _ _ => Nat.zero_le _))
                (fun w4 h4 => I.out mi nn (fun q => ((S q ∨ w.heap.size ≤ q) ∧ q ≠ mi) ∧ q < wr.heap.size) L' _ _ _ _ _ _ _ w4 (by omega) (by omega) hr2 TL.out s7 lb' t3 ld' (G.out w4 (e3.trans h4)) (CR.out.ex (h3.trans h4)) (hS2 w4 (h3.trans h4)) (Q.out w4 (e3.trans h4)) (BS_mono (BS_ks x6 (ks w4 (h3.trans h4))) fun _ _ _ => Nat.zero_le _) (MS_mono (MS_ks x7 (ks w4 (h3.trans h4))) fun _ _ _ => Nat.zero_le _))
          have BN : Hid (bindV call (bodyV call d) L' b j = none → R = none) := fun h => RR.out.trans (body_none hlt EVJ.out h)
          have XN : Hid (∀ w', Ex wr w' → XS w' (fun bl => bl < w.heap.size) (bnames b j) a1) := fun w' h => XS_ks x1 fun k hk hk2 => h.block k hk2
          have ZN : Hid (XLm (bnames b j) ∧ (bnames b j).length ≤ 60) := ⟨l2, hn60⟩
          have NJ : Hid (nn + 60 ≤ 999999) := by
            show _ ≤ _
            omega
          clear hk x1 x3 x4 x5 x6 x7 s1 s2 s3 s4 s5 s6 s7 s8 t1 t2 t3 l1 l2 l3 l4 l5 l6 l7 l8 l9 la' lb' lc' ld' c0 c1 c2 c3 hn60 htt hkind ht60 hk8 hnc
          go_wp2_with fail
          refine Calls.mono (HI.out _ (Ex.new _ _)) ?_
          rintro e w3 ⟨a9, k9, rfl, hV3, hb3⟩
          have X3 : Hid (Ex wr w3) := (Ex.new _ _).trans hb3
          have F3 : Hid (Fr mi W2 w3) := F.out.trans (Fr.of_ex X3.out _)
          have V3 : Hid (VS w3 (fun q => (S q ∨ w.heap.size ≤ q) ∧ q ≠ mi) ((bindV call (bodyV call d) L' b j).getD .nil) a9) := VS_mono hV3 fun q _ hq => by
            rcases hq with h | h
            · exact h.1
            · rw [World.size_alloc] at h
              exact ⟨Or.inr (by have := XW.out.size; omega), by omega⟩
          have b1' : w3.cell? ⟨wr.heap.size, 1, none⟩ = some (.slice a1 (bnames b j).length k1) := hb3.at (by simp)
          have zb3 : wr.heap.size < w3.heap.size := World.block_lt_of_cell? _ _ b1'
          clear hV3 HI b0 b1 b2 b3 b4 b5 b6 b7
          obtain ⟨r, hr⟩ : ∃ r, bindV call (bodyV call d) L' b j = r := ⟨_, rfl⟩
          rw [hr] at BN BTY V3 ⊢
          have HRJ : Hid (bindV call (bodyV call d) L' b j = r) := hr
          clear hr
          cases r with
          | none =>
            have HR : Hid (R = none) := BN.out rfl
            simp only [Option.getD_none, Option.isSome_none, errV, Bool.false_eq_true, if_false]
            go_wp2_with fail
            exact bodyPost_ret (v := .tuple #[.slice none 0 0, EV eb]) (by simp [results, Tryz.results80, go_sem]) rfl ⟨none, 0, by rw [HR.out]; rfl, by rw [HR.out]; exact Or.inl rfl, N.out.trans (EX.out _ F3.out)⟩
          | some lv =>
            obtain ⟨tlv, nlv⟩ := BTY.out lv rfl
            have NLV : Hid ((bnames b j).length = len lv) := nlv.symm
            have V4 : Hid (VS w3 (fun q => (S q ∨ w.heap.size ≤ q) ∧ q ≠ mi) lv a9) := V3.out
            have EVN : Hid (envV call (bodyV call d) L b (j + 1) = some (setAllE L' (bnames b j) lv (bnames b j).length)) := env_step EVJ.out HRJ.out
            have BE : Hid (Calls Tryz.prog 79 #[.map (some mi), .slice a1 (bnames b j).length k1, .slice a9 (len lv) k9] w3 (BdV (fun q => (S q ∨ w.heap.size ≤ q) ∧ q ≠ mi) mi nn L' (bnames b j) lv w3)) := bindEachV_any (fun q => (S q ∨ w.heap.size ≤ q) ∧ q ≠ mi) mi nn L' (bnames b j) a1 k1 lv a9 k9 w3 (CJ.out.ex X3.out) (fun h => h.2 rfl) (fun w' h => XS_mono (XS_ks (XN.out w3 X3.out) fun k hk hk2 => h.block k hk2 (fun e => by have := ZM.out; have := ZV.out; have : k < w.heap.size := hk; omega)) fun _ _ _ => Nat.zero_le _) ZN.out.1 V4.out NLV.out (by have := ZN.out.2; have := NJ.out; omega)
            clear BN V3 tlv nlv BTY
            simp only [Option.getD_some, Option.isSome_some, errV, if_true]
            obtain ⟨i0', i1'⟩ := CI.out w3 F3.out
            have zi3 : ib < w3.heap.size := World.block_lt_of_cell? _ _ i0'
            clear i0 i1
            go_wp2_with fail
            refine Calls.mono BE.out ?_
            rintro e w4 ⟨rfl, hm4, hf4⟩
            have F4 : Hid (Fr mi W2 w4) := F3.out.trans hf4
            have M4 : Hid _ := hm4
            clear hm4 hf4 BE
            go_wp2_with fail
            go_roundw
            case rel => exact ⟨j + 1, nn + (bnames b j).length, _, by omega, by go_num, EVN.out, M4.out, by have := ZN.out.2; omega, F4.out⟩
            case measure => simp [intOf]; omega
        · have hje : j = blen b := by omega
          have HR : Hid (R = evL L' z) := by
            show R = _
            rw [RR.out, bodyV, ← hje, EVJ.out]; rfl
          have LT : Hid (Calls Tryz.prog 104 #[.agg #[.slice la l.length lc, .map (some mi)], .slice za (tlen z) zc] wr (RowP eb (fun q => ((S q ∨ w.heap.size ≤ q) ∧ q ≠ mi) ∧ q < wr.heap.size) R wr)) := by
            rw [HR.out]
            exact nterms_any eb (fun q => ((S q ∨ w.heap.size ≤ q) ∧ q ≠ mi) ∧ q < wr.heap.size) L' TL.out la l.length lc mi nn (nsAt ns b (blen b)) 8 z za zc wr (G.out wr XW.out) CR.out (fun q hq => hq.2) (M.out wr XW.out) (by omega) ZK.out.1 ZK.out.2.1 ZK.out.2.2
          clear hje
          go_wp2_with fail
          refine Calls.mono LT.out ?_
          rintro e w3 h3
          obtain ⟨a4, k4, rfl, hV4, hb4⟩ := RowP.up h3 XW.out fun q hq => hq.1.1
          have V4 : Hid _ := hV4
          have X4 : Hid (Ex w w3) := hb4
          clear h3 hV4 hb4
          go_wp2_with fail
          exact bodyPost_ret (v := .tuple #[.slice a4 (len (R.getD .nil)) k4, errV eb R.isSome]) (by simp [results, Tryz.results80, go_sem]) rfl ⟨a4, k4, rfl, V4.out, X4.out⟩

end Go.Proofs.YtldbmlojgakieaaGreatDoor
