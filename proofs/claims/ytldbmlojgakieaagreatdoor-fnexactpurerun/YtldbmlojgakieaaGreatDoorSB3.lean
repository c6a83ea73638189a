/- Walks: what a binding gives its names to, by the specification: the environment laid anew. -/
import Derived.Test.YtldbmlojgakieaaGreatDoorGTO0


import Derived.Deep.RegionHeld3

import Derived.Deep.CutRange

namespace Go.Proofs.YtldbmlojgakieaaGreatDoor

open Go.RowKit Go.Deep Go.Maps Go.WideMaps

attribute [local go_sem ↓] Go.wp_at_zero Go.wp_at_succ

set_option linter.unusedSimpArgs false

theorem RV.ex {w w' : World} {base : Nat} {S : Nat → Prop} {v : Value} {l : F} (h : RV w base S v l) (hx : Ex w w') : RV w' base S v l := by
  obtain ⟨cs, hr, hv⟩ := id h
  exact h.keep (fun g hg => hx.block g (hr.lt g hg).2) fun b hl _ => hx.block b hl
theorem RV.own {w : World} {base : Nat} {S : Nat → Prop} {v : Value} {l : F} (h : RV w base S v l) : ∀ g, v.ownBlock = some g → base ≤ g ∧ g < w.heap.size := by
  obtain ⟨cs, hr, _⟩ := h
  exact fun g hg => hr.lt g hg
theorem RV.empty (w : World) (base : Nat) (S : Nat → Prop) (hb : base ≤ w.heap.size) : RV (w.alloc (.cells #[] 55)) base S (.slice (some ⟨w.heap.size, 0, none⟩) 0 0) .nil :=
  ⟨[], ⟨rfl, Or.inr ⟨w.heap.size, 0, #[], rfl, hb, heap_alloc_at _ _ rfl, by first | rfl | simp [len], by first | rfl | simp, by first | rfl | simp, by first | rfl | simp⟩⟩, fun _ hj => absurd hj (Nat.not_lt_zero _)⟩
theorem RV.congr {w : World} {base : Nat} {S : Nat → Prop} {v : Value} {l : F} (h : RV w base S v l) (l' : F) (hl : len l = len l') (hk : ∀ i, i < len l → num l i = num l' i ∧ kid l i = kid l' i) : RV w base S v l' := by
  obtain ⟨cs, hr, hv⟩ := h
  refine ⟨cs, hl ▸ hr, fun j hj => ?_⟩
  obtain ⟨e, a', c', e2, hV⟩ := hv j (by omega)
  obtain ⟨k1, k2⟩ := hk j (by omega)
  exact ⟨k1 ▸ e, a', c', k2 ▸ e2, k2 ▸ hV⟩
theorem XS_own {w : World} {base : Nat} {v : Value} {p : List ByteArray} (h : w.ownsRow base 9 1 v p.length (p.map Value.string)) : ∃ a c, v = .slice a p.length c ∧ XS w (fun b => v.ownBlock = some b) p a := by
  obtain ⟨a, c, rfl, hX⟩ := own_texts h rfl
  refine ⟨a, c, rfl, ?_⟩
  rcases hX with hX | ⟨b, o, e, _, hc⟩
  · exact Or.inl hX
  · subst e; exact Or.inr ⟨b, o, rfl, rfl, hc⟩
theorem VTop_mono {w : World} {T T' S S' : Nat → Prop} {f : F} {a : Option Addr} (h : VTop w T S f a) (hT : ∀ b, b < w.heap.size → T b → T' b) (hS : ∀ b, b < w.heap.size → S b → S' b) : VTop w T' S' f a := by
  rcases h with h | ⟨b, o, e, hTb, hb, hk⟩
  · exact Or.inl h
  · refine Or.inr ⟨b, o, e, hT b hb hTb, hb, fun i hi => ?_⟩
    obtain ⟨h1, a', c', h2, h3⟩ := hk i hi
    exact ⟨h1, a', c', h2, VS_mono h3 hS⟩
theorem tyE_of {ns : List ByteArray} {vs : F} (h : tyL vs) (hl : len vs = ns.length) : tyE (envOf ns vs) := by
  rw [envOf_all]
  exact tyE_all tyE_no h _ (by omega)

/-- What a binding gives its names to. -/
def SbdP (base B : Nat) (X : Nat → Prop) (lv : Value) (ns : List ByteArray) (vs : F) (nv vv : Value) (R : Option F) (w : World) (e : Ending) (w' : World) : Prop :=
  ∃ (r : F) (a' : Option Addr) (c' : Nat), e = .returned (.slice a' (len r) c') ∧ (∀ v, R = some v → v = r) ∧ VTop w' (fun b => w.heap.size ≤ b) (Out3 X B nv vv) r a' ∧ EnvAt w' base B X lv ns vs R.isNone nv vv ∧ Fr B w w'

theorem SbdP.stay {base B : Nat} {X : Nat → Prop} {lv : Value} {ns : List ByteArray} {vs : F} {nv vv : Value} {R : Option F} {w W1 W' : World} {r : F} {a' : Option Addr} {c' : Nat} (hE : EnvAt W1 base B X lv ns vs false nv vv) (hF : Fr B w W1) (hx : Ex W1 W') (hR : R = some r) (hV : VTop W' (fun b => w.heap.size ≤ b) (Out3 X B nv vv) r a') : SbdP base B X lv ns vs nv vv R w (.returned (.slice a' (len r) c')) W' := by
  subst hR
  exact ⟨r, a', c', rfl, fun v hv => (by cases hv; rfl), hV, hE.fr (Fr.of_ex hx B) (hE.cells.ex hx), hF.trans (Fr.of_ex hx B)⟩
theorem SbdP.flag {base B : Nat} {X : Nat → Prop} {lv : Value} {ns : List ByteArray} {vs : F} {nv vv : Value} {R : Option F} {w W1 W' : World} {r : F} {a' : Option Addr} {c' : Nat} (hB : B < w.heap.size) (hE : EnvAt W1 base B X lv ns vs false nv vv) (hF : Fr B w W1) (hx : Ex W1 W') (hR : ∀ v, R = some v → v = r) (hV : VTop W' (fun b => w.heap.size ≤ b) (Out3 X B nv vv) r a') (z : Bool) (hz : z = R.isNone) : SbdP base B X lv ns vs nv vv R w (.returned (.slice a' (len r) c')) (W'.setCell ⟨B, 3, none⟩ (.bool z)) := by
  subst hz
  have f : Fr B W' (W'.setCell ⟨B, 3, none⟩ (.bool R.isNone)) := (Fr.refl B W').set (Or.inl rfl) _
  exact ⟨r, a', c', rfl, hR, VTop_fr hV f (by omega) fun h => h.2 (Or.inl rfl), hE.fr ((Fr.of_ex hx B).trans f) (hE.cells.ex hx).turn, (hF.trans (Fr.of_ex hx B)).trans f⟩

theorem SbdP.gen {base B : Nat} {X : Nat → Prop} {lv : Value} {ns : List ByteArray} {vs : F} {nv vv : Value} {R : Option F} {w W1 W' : World} {r : F} {a' : Option Addr} {c' : Nat} (hE : EnvAt W1 base B X lv ns vs false nv vv) (hF : Fr B w W1) (f : Fr B W1 W') (hEB : EB W' B lv nv vv R.isNone) (hR : ∀ v, R = some v → v = r) (hV : VTop W' (fun b => w.heap.size ≤ b) (Out3 X B nv vv) r a') : SbdP base B X lv ns vs nv vv R w (.returned (.slice a' (len r) c')) W' :=
  ⟨r, a', c', rfl, hR, hV, hE.fr f hEB, hF.trans f⟩

theorem FrS.below {S : Nat → Prop} {n : Nat} {W a b : World} (h : FrS S a b) (hx : Below n W a) (hn : n ≤ a.heap.size) (hS : ∀ k, S k → n ≤ k) : Below n W b :=
  ⟨h.os.trans hx.os, h.tape.trans hx.tape, h.output.trans hx.output, Nat.le_trans hx.size h.size, fun k hk => (h.block k (by omega) fun hs => by have := hS k hs; omega).trans (hx.block k hk)⟩
theorem EB.two {w : World} {B : Nat} {lv nv vv x y : Value} {bad : Bool} (h : EB w B lv nv vv bad) : EB ((w.setCell ⟨B, 1, none⟩ x).setCell ⟨B, 2, none⟩ y) B lv x y bad := by
  unfold EB at *
  simp [World.setCell, Array.getElem?_modify, h]
theorem QS_top {w : World} {S : Nat → Prop} {l : List PM} {a : Option Addr} (h : QS w S l a) (h0 : 0 < l.length) : ∃ b o, a = some ⟨b, o, none⟩ ∧ S b ∧ b < w.heap.size ∧ ∀ i, i < l.length → PT w S (l.getD i pm0) b (o + i * 4) := by
  rcases h with h | ⟨b, o, e, hb, ht⟩
  · omega
  · exact ⟨b, o, e, hb, World.block_lt_of_cell? _ _ (ht 0 h0).1, ht⟩

/-- Where a body is run, and what it says then. -/
def SbP (B : Nat) (X : Nat → Prop) (lv nv vv : Value) (R : Option F) (w : World) (e : Ending) (w' : World) : Prop :=
  ∃ (r : F) (a' : Option Addr) (c' : Nat) (nv' vv' : Value), e = .returned (.slice a' (len r) c') ∧ (∀ v, R = some v → v = r) ∧ VTop w' (fun b => w.heap.size ≤ b) (fun b => ¬ X b) r a' ∧ EB w' B lv nv' vv' R.isNone ∧ FrS (Own3 B nv vv) w w'
def BodyAt (w : World) (base : Nat) (X : Nat → Prop) (lv : Value) (ns : List ByteArray) (vs : F) (arg : Value) (R : Option F) : Prop := ∀ (base' B : Nat) (nv vv : Value) (w' : World), base ≤ base' → base' ≤ w'.heap.size → (∀ q, X q → q < base') → EnvAt w' base' B X lv ns vs false nv vv → (∀ k, k < base → w'.heap[k]? = w.heap[k]?) → w.heap.size ≤ w'.heap.size →
  Calls Tryz.prog 23 #[.pointer (some ⟨B, 0, none⟩), arg] w' (SbP B X lv nv vv R w')

set_option maxRecDepth 100000 in
set_option maxHeartbeats 8000000 in
theorem sbind_by (base B : Nat) (X : Nat → Prop) (lv : Value) (la : Option Addr) (lfs : List PM) (lc : Nat) (hlv : lv = .slice la lfs.length lc) (ns : List ByteArray) (vs : F) (nv vv : Value) (k : Int) (nm : List ByteArray) (nma : Option Addr) (nmc : Nat) (fn : ByteArray) (ts : TM) (tsa : Option Addr) (tsc : Nat) (tb : BD) (tba : Option Addr) (tbc : Nat) (tz : TM) (tza : Option Addr) (tzc : Nat) (bd : BD) (ba : Option Addr) (bc : Nat) (z : TM) (za : Option Addr) (zc : Nat) (ms : List ByteArray) (RR : F → Option F) (w : World) (hE : EnvAt w base B X lv ns vs false nv vv) (hbw : base ≤ w.heap.size) (hty : tyL vs) (hlen : len vs = ns.length) (hl : ns.length ≤ 1000000)
    (hk : kidsB ms 8 ts = true) (hsm : TSm ts) (hlm : TLm ts) (htl : tlen ts ≤ 100000000) (hM : MS w (fun b => b < base) ts tsa) (hXb : ∀ b, X b → b < base) (hll : lfs.length ≤ 1000000000) (hpl : ∀ j, j < lfs.length → (lfs.getD j pm0).params.length ≤ 1000000) (hQ : QS w (fun b => b < base) lfs la)
    (h1 : ∀ l, evL (envOf ns vs) ts = some l → (k = 1 ∧ RR l = some l) ∨ (k = 2 ∧ ∃ q, q < lfs.length ∧ (∀ j, j < lfs.length → j ≠ q → ((lfs.getD j pm0).name.toList == fn.toList) = false) ∧ ((lfs.getD q pm0).name.toList == fn.toList) = true ∧
        ∀ a2 k2 a3 k3, BS w (fun b => b < base) (lfs.getD q pm0).binds a2 → MS w (fun b => b < base) (lfs.getD q pm0).says a3 → BodyAt w base (fun b => X b ∨ Own3 B nv vv b) lv (lfs.getD q pm0).params l (.agg #[.slice a2 (blen (lfs.getD q pm0).binds) k2, .slice a3 (tlen (lfs.getD q pm0).says) k3]) (RR l)) ∨
      (k = 3 ∧ 0 < len l ∧ ∃ R1 R2, RR l = (if len (kid l 0) = 0 then (if num l 0 = 0 then R2 else R1) else none) ∧ BodyAt w base (fun b => X b ∨ Own3 B nv vv b) lv ns vs (.agg #[.slice tba (blen tb) tbc, .slice tza (tlen tz) tzc]) R1 ∧ BodyAt w base (fun b => X b ∨ Own3 B nv vv b) lv ns vs (.agg #[.slice ba (blen bd) bc, .slice za (tlen z) zc]) R2)) :
    Calls Tryz.prog 51 #[.pointer (some ⟨B, 0, none⟩), .agg #[.int .i64 k, .slice nma nm.length nmc, .string fn, .slice tsa (tlen ts) tsc, .slice tba (blen tb) tbc, .slice tza (tlen tz) tzc, .slice ba (blen bd) bc, .slice za (tlen z) zc]] w (SbdP base B X lv ns vs nv vv ((evL (envOf ns vs) ts).bind RR) w) := by
  obtain ⟨na, nc, rfl, hXN⟩ := XS_own hE.names
  obtain ⟨va, vc, rfl, hVT⟩ := hE.vals.top
  have N : Hid (Ex w (w.alloc (.cells #[.int .i64 k, .slice nma nm.length nmc, .string fn, .slice tsa (tlen ts) tsc, .slice tba (blen tb) tbc, .slice tza (tlen tz) tzc, .slice ba (blen bd) bc, .slice za (tlen z) zc] 103))) := Ex.new _ _
  have zB : B < w.heap.size := lt_of_block hE.cells
  obtain ⟨nv, hnv⟩ : ∃ nv, nv = Value.slice na ns.length nc := ⟨_, rfl⟩
  obtain ⟨vv, hvv⟩ : ∃ vv, vv = Value.slice va (len vs) vc := ⟨_, rfl⟩
  have E0 : Hid (EnvAt w base B X lv ns vs false nv vv) := by subst hnv hvv; exact hE
  rw [← hnv, ← hvv]
  have ST : Hid (∀ w', Fr B w w' → EB w' B lv (.slice na ns.length nc) (.slice va (len vs) vc) false → Calls Tryz.prog 52 #[.pointer (some ⟨B, 0, none⟩), .slice tsa (tlen ts) tsc] w' (SpR B (fun b => Out3 X B nv vv b ∧ b < w.heap.size) lv (.slice na ns.length nc) (.slice va (len vs) vc) (tlen ts) (if false = true then none else evL (envOf ns vs) ts) w')) := fun w' h he => by
    have h1 := sterms_any B (fun b => vv.ownBlock = some b) (fun b => Out3 X B nv vv b ∧ b < w.heap.size) (by subst hnv hvv; exact hE.vB) lv ns vs na va nc vc (by omega) hlen (tyE_of hty hlen) ms 8 ts hk hsm hlm htl tsa tsc false w' he
      (XS_fr (XS_mono hXN fun b _ hb e => by subst e; exact hE.nB hb) h)
      (VTop_fr (by subst hnv hvv; exact VTop_mono hVT (fun _ _ h => h) fun b hl hs => ⟨hs, hl⟩) h (by subst hnv hvv; exact hE.vB) fun hh => hh.1.2 (Or.inl rfl))
      (fun b hb => ⟨Nat.lt_of_lt_of_le hb.2 h.size, fun e => hb.1.2 (Or.inl e)⟩)
      (MS_mono (MS_ks hM fun b hb hl => h.block b hl fun e => by have := hE.lo; have : b < base := hb; omega) fun b _ hb e => by have := hE.lo; have : b < base := hb; omega)
    exact h1
  have C : Hid (∀ w', Fr B (w.alloc (.cells #[.int .i64 k, .slice nma nm.length nmc, .string fn, .slice tsa (tlen ts) tsc, .slice tba (blen tb) tbc, .slice tza (tlen tz) tzc, .slice ba (blen bd) bc, .slice za (tlen z) zc] 103)) w' → w'.cell? ⟨w.heap.size, 0, none⟩ = some (.int .i64 k) ∧ w'.cell? ⟨w.heap.size, 2, none⟩ = some (.string fn) ∧ w'.cell? ⟨w.heap.size, 4, none⟩ = some (.slice tba (blen tb) tbc) ∧ w'.cell? ⟨w.heap.size, 5, none⟩ = some (.slice tza (tlen tz) tzc) ∧ w'.cell? ⟨w.heap.size, 6, none⟩ = some (.slice ba (blen bd) bc) ∧ w'.cell? ⟨w.heap.size, 7, none⟩ = some (.slice za (tlen z) zc)) := fun w' h => by
    have hb := h.blk (by show w.heap.size ≠ B; omega) (show (w.alloc (.cells #[.int .i64 k, .slice nma nm.length nmc, .string fn, .slice tsa (tlen ts) tsc, .slice tba (blen tb) tbc, .slice tza (tlen tz) tzc, .slice ba (blen bd) bc, .slice za (tlen z) zc] 103)).heap[w.heap.size]? = some (.cells #[.int .i64 k, .slice nma nm.length nmc, .string fn, .slice tsa (tlen ts) tsc, .slice tba (blen tb) tbc, .slice tza (tlen tz) tzc, .slice ba (blen bd) bc, .slice za (tlen z) zc] 103 (0, 0)) from heap_alloc_new _ _)
    exact ⟨blk_cell hb 0, blk_cell hb 2, blk_cell hb 4, blk_cell hb 5, blk_cell hb 6, blk_cell hb 7⟩
  have d3 : (w.alloc (.cells #[.int .i64 k, .slice nma nm.length nmc, .string fn, .slice tsa (tlen ts) tsc, .slice tba (blen tb) tbc, .slice tza (tlen tz) tzc, .slice ba (blen bd) bc, .slice za (tlen z) zc] 103)).cell? ⟨w.heap.size, 3, none⟩ = some (.slice tsa (tlen ts) tsc) := blk_cell (show (w.alloc (.cells #[.int .i64 k, .slice nma nm.length nmc, .string fn, .slice tsa (tlen ts) tsc, .slice tba (blen tb) tbc, .slice tza (tlen tz) tzc, .slice ba (blen bd) bc, .slice za (tlen z) zc] 103)).heap[w.heap.size]? = some (.cells #[.int .i64 k, .slice nma nm.length nmc, .string fn, .slice tsa (tlen ts) tsc, .slice tba (blen tb) tbc, .slice tza (tlen tz) tzc, .slice ba (blen bd) bc, .slice za (tlen z) zc] 103 (0, 0)) from heap_alloc_new _ _) 3
  have EBN : EB (w.alloc (.cells #[.int .i64 k, .slice nma nm.length nmc, .string fn, .slice tsa (tlen ts) tsc, .slice tba (blen tb) tbc, .slice tza (tlen tz) tzc, .slice ba (blen bd) bc, .slice za (tlen z) zc] 103)) B lv (.slice na ns.length nc) (.slice va (len vs) vc) false := by subst hnv hvv; exact E0.out.cells.ex N.out
  have F0 : Hid (Fr B w (w.alloc (.cells #[.int .i64 k, .slice nma nm.length nmc, .string fn, .slice tsa (tlen ts) tsc, .slice tba (blen tb) tbc, .slice tza (tlen tz) tzc, .slice ba (blen bd) bc, .slice za (tlen z) zc] 103))) := Fr.of_ex N.out B
  have ZB : Hid (B < w.heap.size) := zB
  have OWN : Hid (∀ b, w.heap.size ≤ b → Out3 X B nv vv b) := fun b hb => by
    refine ⟨fun h => by have := hXb b h; omega, fun h => ?_⟩
    rcases h with h | h | h
    · omega
    · have := (E0.out.names.lt b h).2; omega
    · obtain ⟨cs, hr, _⟩ := E0.out.vals
      have := (hr.lt b h).2; omega
  have BW : Hid (base ≤ w.heap.size) := hbw
  have XB : Hid (∀ b, X b → b < base) := hXb
  have HQ : Hid (QS w (fun b => b < base) lfs la) := hQ
  have LO : Hid (base ≤ B) := E0.out.lo
  obtain ⟨R0, hR0⟩ : ∃ R0, R0 = evL (envOf ns vs) ts := ⟨_, rfl⟩
  rw [← hR0] at ST h1 ⊢
  rw [← hnv, ← hvv] at h1
  have H1 : Hid _ := h1
  have PLM : Hid (∀ j, j < lfs.length → (lfs.getD j pm0).params.length ≤ 1000000) := hpl
  clear h1 hXb hQ hbw hpl
  have STT : Hid _ := ST.out _ F0.out EBN
  have HLEN : Hid (len vs = ns.length) := hlen
  have TYVS : Hid (tyL vs) := hty
  have h63v' : len vs ≤ 1000000 := by omega
  have H63V : Hid (len vs ≤ 1000000) := h63v'
  clear hE hXN hVT hR0 hM hk hsm hlm EBN ST hlen hty h63v'
  go_enter Tryz.func51, Tryz.ntmps51
  go_wp2_with fail
  refine Calls.mono STT.out ?_
  rintro e w1 ⟨l, a', c', rfl, hln, hev, htyl, hVR, hF1, hB1⟩
  have HEV : Hid (∀ v, R0 = some v → v = l) := hev
  have TYL : Hid (tyL l) := htyl
  have LLN : Hid (len l = tlen ts) := hln
  have VR1 : Hid _ := hVR
  have F1 : Hid (Fr B (w.alloc (.cells #[.int .i64 k, .slice nma nm.length nmc, .string fn, .slice tsa (tlen ts) tsc, .slice tba (blen tb) tbc, .slice tza (tlen tz) tzc, .slice ba (blen bd) bc, .slice za (tlen z) zc] 103)) w1) := hF1
  have FW : Hid (Fr B w w1) := F0.out.trans hF1
  have zw : (w.alloc (.cells #[.int .i64 k, .slice nma nm.length nmc, .string fn, .slice tsa (tlen ts) tsc, .slice tba (blen tb) tbc, .slice tza (tlen tz) tzc, .slice ba (blen bd) bc, .slice za (tlen z) zc] 103)).heap.size = w.heap.size + 1 := World.size_alloc _ _
  clear hev htyl hln hVR hF1 STT d3
  cases R0 with
  | none =>
    have E1 : Hid (EnvAt w1 base B X lv ns vs true nv vv) := E0.out.fr FW.out (by subst hnv hvv; exact hB1)
    obtain ⟨x0, x1, x2, x3⟩ := hB1.cell
    simp only [Bool.false_eq_true, if_false, Option.isNone_none] at x3
    clear hB1
    go_wp2_with fail
    refine bodyPost_ret (v := .slice (some ⟨w1.heap.size, 0, none⟩) 0 0) (by simp [results, Tryz.results51, go_sem]) rfl ⟨.nil, _, _, rfl, fun v hv => (by cases hv), Or.inl rfl, ?_, ?_⟩
    · exact E1.out.fr (Fr.of_ex (Ex.new _ _) B) (E1.out.cells.ex (Ex.new _ _))
    · exact FW.out.alloc _
  | some l0 =>
    have e0 : l0 = l := HEV.out l0 rfl
    subst e0
    have E1 : Hid (EnvAt w1 base B X lv ns vs false nv vv) := E0.out.fr FW.out (by subst hnv hvv; exact hB1)
    obtain ⟨x0, x1, x2, x3⟩ := hB1.cell
    simp only [Bool.false_eq_true, if_false, Option.isNone_some] at x3
    obtain ⟨d0, d2, d4, d5, d6, d7⟩ := C.out w1 F1.out
    clear hB1
    obtain ⟨W1, hW1⟩ : ∃ W1, W1 = w1 := ⟨_, rfl⟩
    rw [← hW1] at x0 x1 x2 x3 d0 d2 d4 d5 d6 d7 E1 F1 FW VR1 ⊢
    clear hW1
    have hXN : XA W1 0 ns na := by
      obtain ⟨a, c, e, hX⟩ := XS_own E1.out.names
      rw [hnv] at e; cases e
      exact XS_mono hX fun _ _ _ => Nat.zero_le _
    have hVV : VTop W1 (fun b => vv.ownBlock = some b) (fun b => Out3 X B nv vv b ∧ b < W1.heap.size) vs va := by
      obtain ⟨a, c, e, hV⟩ := E1.out.vals.top
      rw [hvv] at e; cases e
      exact VTop_mono hV (fun _ _ h => h) fun b hl hs => ⟨hs, hl⟩
    obtain ⟨SV, hSVe⟩ : ∃ SV : Nat → Prop, SV = fun b => Out3 X B nv vv b ∧ b < W1.heap.size := ⟨_, rfl⟩
    obtain ⟨TV, hTVe⟩ : ∃ TV : Nat → Prop, TV = fun b => vv.ownBlock = some b := ⟨_, rfl⟩
    rw [← hSVe, ← hTVe] at hVV
    have hSVo : ∀ b, SV b → Out3 X B nv vv b := fun b hb => by rw [hSVe] at hb; exact hb.1
    have hSV : ∀ b, SV b → b < W1.heap.size := fun b hb => by rw [hSVe] at hb; exact hb.2
    have h63 : ([] : List ByteArray).length + ns.length ≤ 1000000 := by show 0 + ns.length ≤ _; omega
    have h63v : len (.nil : F) + len vs ≤ 1000000 := by have := H63V.out; show 0 + len vs ≤ _; omega
    have KS : Hid (∀ w', Ex W1 w' → Ex W1 w' ∧ w'.cell? ⟨B, 0, none⟩ = some lv ∧ w'.cell? ⟨B, 1, none⟩ = some (.slice na ns.length nc) ∧ w'.cell? ⟨B, 2, none⟩ = some (.slice va (len vs) vc)) := fun w' h => ⟨h, h.at x0, h.at x1, h.at x2⟩
    subst hlv
    go_upto_region 4 with fail
    go_cut [6] from 18 to 35 (fun p6 wx => ∃ IB vN vV, p6 = .pointer (some ⟨IB, 0, none⟩) ∧ EnvAt wx W1.heap.size IB (fun b => X b ∨ Own3 B nv vv b) (.slice la lfs.length lc) ns vs false vN vV ∧ Ex W1 wx)
    case first =>
      refine wp_region_held_drew (S := fun w' => Ex W1 w' ∧ w'.cell? ⟨B, 0, none⟩ = some (.slice la lfs.length lc) ∧ w'.cell? ⟨B, 1, none⟩ = some (.slice na ns.length nc) ∧ w'.cell? ⟨B, 2, none⟩ = some (.slice va (len vs) vc)) (by kernel_rfl) (KS.out _ (Ex.refl _).drew) (fun hHeld => ?_)
      obtain ⟨y0, hy0⟩ : ∃ y0, y0 = W1.drew := ⟨_, rfl⟩
      rw [← hy0] at hHeld ⊢
      have xy0 : Ex W1 y0 := hy0 ▸ (Ex.refl _).drew
      clear hy0
      refine wpAnyH_take (i := 0) (v := ?_) rfl (by kernel_rfl) (by kernel_rfl) (by kernel_rfl) (fun _ _ _ h => h) (Or.inl ⟨by rfl, ?_⟩) (by assumption) ?_
      rotate_left
      · (intro w' hSw; (try dsimp only at hSw); go_simp) <;> with_reducible rfl
      change wpAnyH Tryz.prog _ _ _ _ _ _ (Act.put _ (some 18) _) _
      (try simp only [Act.put, List.setIfInBounds_toArray, List.set_cons_zero, List.set_cons_succ])
      refine wpAnyH_take (i := 1) (v := ?_) rfl (by kernel_rfl) (by kernel_rfl) (by kernel_rfl) (fun _ _ _ h => h) (Or.inl ⟨by rfl, ?_⟩) (by assumption) ?_
      rotate_left
      · (intro w' hSw; (try dsimp only at hSw); go_simp) <;> with_reducible rfl
      change wpAnyH Tryz.prog _ _ _ _ _ _ (Act.put _ (some 19) _) _
      (try simp only [Act.put, List.setIfInBounds_toArray, List.set_cons_zero, List.set_cons_succ])
      refine wpAnyH_take (i := 2) (v := ?_) rfl (by kernel_rfl) (by kernel_rfl) (by kernel_rfl) (fun _ _ _ h => h) (Or.inl ⟨by rfl, ?_⟩) (by assumption) ?_
      rotate_left
      · (intro w' hSw; (try dsimp only at hSw); go_simp) <;> with_reducible rfl
      change wpAnyH Tryz.prog _ _ _ _ _ _ (Act.put _ (some 20) _) _
      (try simp only [Act.put, List.setIfInBounds_toArray, List.set_cons_zero, List.set_cons_succ])
      refine wpAnyH_take (i := 3) (v := ?_) rfl (by kernel_rfl) (by kernel_rfl) (by kernel_rfl) (fun _ _ _ h => h) (Or.inl ⟨by rfl, ?_⟩) (by assumption) ?_
      rotate_left
      · (intro w' hSw; (try dsimp only at hSw); go_simp) <;> with_reducible rfl
      change wpAnyH Tryz.prog _ _ _ _ _ _ (Act.put _ (some 21) _) _
      (try simp only [Act.put, List.setIfInBounds_toArray, List.set_cons_zero, List.set_cons_succ])
      refine wpAnyH_take (i := 5) (v := ?_) rfl (by kernel_rfl) (by kernel_rfl) (by kernel_rfl) (fun _ _ _ h => h) (Or.inl ⟨by rfl, ?_⟩) (by assumption) ?_
      rotate_left
      · (intro w' hSw; (try dsimp only at hSw); go_simp) <;> with_reducible rfl
      change wpAnyH Tryz.prog _ _ _ _ _ _ (Act.put _ (some 23) _) _
      (try simp only [Act.put, List.setIfInBounds_toArray, List.set_cons_zero, List.set_cons_succ])
      refine wpAnyH_take (i := 6) (v := ?_) rfl (by kernel_rfl) (by kernel_rfl) (by kernel_rfl) (fun _ _ _ h => h) (Or.inl ⟨by rfl, ?_⟩) (by assumption) ?_
      rotate_left
      · (intro w' hSw; (try dsimp only at hSw); go_simp) <;> with_reducible rfl
      change wpAnyH Tryz.prog _ _ _ _ _ _ (Act.put _ (some 24) _) _
      (try simp only [Act.put, List.setIfInBounds_toArray, List.set_cons_zero, List.set_cons_succ])
      refine wpAnyH_take (i := 7) (v := ?_) rfl (by kernel_rfl) (by kernel_rfl) (by kernel_rfl) (fun _ _ _ h => h) (Or.inl ⟨by rfl, ?_⟩) (by assumption) ?_
      rotate_left
      · (intro w' hSw; (try dsimp only at hSw); go_simp) <;> with_reducible rfl
      change wpAnyH Tryz.prog _ _ _ _ _ _ (Act.put _ (some 25) _) _
      (try simp only [Act.put, List.setIfInBounds_toArray, List.set_cons_zero, List.set_cons_succ])
      refine wpAnyH_take (i := 8) (v := ?_) rfl (by kernel_rfl) (by kernel_rfl) (by kernel_rfl) (fun _ _ _ h => h) (Or.inl ⟨by rfl, ?_⟩) (by assumption) ?_
      rotate_left
      · (intro w' hSw; (try dsimp only at hSw); go_simp) <;> with_reducible rfl
      change wpAnyH Tryz.prog _ _ _ _ _ _ (Act.put _ (some 26) _) _
      (try simp only [Act.put, List.setIfInBounds_toArray, List.set_cons_zero, List.set_cons_succ])
      refine wpAnyH_take (i := 11) (v := ?_) rfl (by kernel_rfl) (by kernel_rfl) (by kernel_rfl) (fun _ _ _ h => h) (Or.inl ⟨by rfl, ?_⟩) (by assumption) ?_
      rotate_left
      · (intro w' hSw; (try dsimp only at hSw); go_simp) <;> with_reducible rfl
      change wpAnyH Tryz.prog _ _ _ _ _ _ (Act.put _ (some 29) _) _
      (try simp only [Act.put, List.setIfInBounds_toArray, List.set_cons_zero, List.set_cons_succ])
      refine wpAnyH_take (i := 12) (v := ?_) rfl (by kernel_rfl) (by kernel_rfl) (by kernel_rfl) (fun _ _ _ h => h) (Or.inl ⟨by rfl, ?_⟩) (by assumption) ?_
      rotate_left
      · (intro w' hSw; (try dsimp only at hSw); go_simp) <;> with_reducible rfl
      change wpAnyH Tryz.prog _ _ _ _ _ _ (Act.put _ (some 30) _) _
      (try simp only [Act.put, List.setIfInBounds_toArray, List.set_cons_zero, List.set_cons_succ])
      refine wpAnyH_take (i := 13) (v := ?_) rfl (by kernel_rfl) (by kernel_rfl) (by kernel_rfl) (fun _ _ _ h => h) (Or.inl ⟨by rfl, ?_⟩) (by assumption) ?_
      rotate_left
      · (intro w' hSw; (try dsimp only at hSw); go_simp) <;> with_reducible rfl
      change wpAnyH Tryz.prog _ _ _ _ _ _ (Act.put _ (some 31) _) _
      (try simp only [Act.put, List.setIfInBounds_toArray, List.set_cons_zero, List.set_cons_succ])
      refine wpAnyH_take (i := 14) (v := ?_) rfl (by kernel_rfl) (by kernel_rfl) (by kernel_rfl) (fun _ _ _ h => h) (Or.inl ⟨by rfl, ?_⟩) (by assumption) ?_
      rotate_left
      · (intro w' hSw; (try dsimp only at hSw); go_simp) <;> with_reducible rfl
      change wpAnyH Tryz.prog _ _ _ _ _ _ (Act.put _ (some 32) _) _
      (try simp only [Act.put, List.setIfInBounds_toArray, List.set_cons_zero, List.set_cons_succ])
      refine wpAnyH_ready (rs := [4, 10]) (by kernel_rfl) (by simp) ?_
      refine (AllReadyH.cons (i := 4) rfl (fun K hK => ?_) (AllReadyH.cons (i := 10) rfl (fun K hK => ?_) AllReadyH.nil))
      · go_simp
        obtain ⟨y1, hy1⟩ : ∃ z, z = y0.alloc (.cells #[] 9) := ⟨_, rfl⟩
        rw [← hy1]
        have ey1 : Ex y0 y1 := hy1 ▸ Ex.new _ _
        have xy1 : Ex W1 y1 := xy0.trans ey1
        have rNy1 : y1.ownsRow W1.heap.size 9 1 (.slice (some ⟨y0.heap.size, 0, none⟩) 0 0) 0 [] := hy1 ▸ own_none_texts _ xy0.size
        clear hy1
        refine hK.out _ _ ?_ (fun hHeld => ?_)
        · exact KS.out _ xy1
        clear hK
        (try simp only [Act.put, List.setIfInBounds_toArray, List.set_cons_zero, List.set_cons_succ])
        refine wpAnyH_ready (rs := [9, 10]) (by kernel_rfl) (by simp) ?_
        refine (AllReadyH.cons (i := 9) rfl (fun K hK => ?_) (AllReadyH.cons (i := 10) rfl (fun K hK => ?_) AllReadyH.nil))
        · refine step_of_wp rfl (wp_names (.tmp 22) (.tmp 26) rfl W1.heap.size xy1.size (.slice (some ⟨y0.heap.size, 0, none⟩) 0 0) [] rfl rNy1 ns na nc rfl (XA_below hXN xy1) h63 ?_)
          intro vN0 y2 g1 g2 g3
          rw [List.nil_append] at g1
          obtain ⟨na', nc', rfl, _⟩ := XS_own g1
          have xy2 : Ex W1 y2 := ex_grow xy1 g2 fun k hk => (rNy1.lt k hk).1
          refine hK.out _ _ ?_ (fun hHeld => ?_)
          · exact KS.out _ xy2
          clear hK
          (try simp only [Act.put, List.setIfInBounds_toArray, List.set_cons_zero, List.set_cons_succ])
          refine wpAnyH_ready (rs := [10]) (by kernel_rfl) (by simp) ?_
          refine (AllReadyH.cons (i := 10) rfl (fun K hK => ?_) AllReadyH.nil)
          go_simp
          obtain ⟨y3, hy3⟩ : ∃ z, z = y2.alloc (.cells #[] 55) := ⟨_, rfl⟩
          rw [← hy3]
          have ey3 : Ex y2 y3 := hy3 ▸ Ex.new _ _
          have xy3 : Ex W1 y3 := xy2.trans ey3
          have rVy3 : RV y3 W1.heap.size SV (.slice (some ⟨y2.heap.size, 0, none⟩) 0 0) .nil := hy3 ▸ RV.empty _ _ _ xy2.size
          have rNy3 := row_ex g1 ey3
          have dy3 : ∀ g, (Value.ownBlock (Value.slice na' ns.length nc')) = some g → (Value.slice (some ⟨y2.heap.size, 0, none⟩) 0 0).ownBlock ≠ some g := fun g hg hg' => by have := (g1.lt g hg).2; simp [Value.ownBlock] at hg'; omega
          clear hy3
          refine hK.out _ _ ?_ (fun hHeld => ?_)
          · exact KS.out _ xy3
          clear hK
          (try simp only [Act.put, List.setIfInBounds_toArray, List.set_cons_zero, List.set_cons_succ])
          refine wpAnyH_ready (rs := [15]) (by kernel_rfl) (by simp) ?_
          refine (AllReadyH.cons (i := 15) rfl (fun K hK => ?_) AllReadyH.nil)
          refine step_of_wp rfl (wp_vals (.tmp 28) (.tmp 32) rfl W1.heap.size xy3.size (.slice (some ⟨y2.heap.size, 0, none⟩) 0 0) .nil SV rfl rVy3 (fun b hb e => by have := (RV.own rVy3 b e).1; have := hSV b hb; omega) vs va vc TV rfl (VTop_ex hVV xy3) h63v ?_)
          intro vV0 y4 j1 j2 j3
          obtain ⟨va', vc', rfl, _⟩ := RV.top j1
          have xy4 : Ex W1 y4 := ex_grow xy3 j2 fun k hk => (RV.own rVy3 k hk).1
          have rNy4 := row_fr rNy3 (w' := y4) fun g hg => j2.block g (rNy3.lt g hg).2 fun e => dy3 g hg e.symm
          have dy4 : ∀ g, (Value.slice na' ns.length nc').ownBlock = some g → (Value.slice va' (len (catF .nil vs (len vs))) vc').ownBlock ≠ some g := fun g hg hg' => by
            rcases j3 with j3 | ⟨k, hk, hor, _⟩
            · exact dy3 g hg (j3 ▸ hg')
            · rw [hk] at hg'; cases hg'; rcases hor with h | h
              · exact dy3 _ hg h
              · have := (rNy3.lt _ hg).2; omega
          refine hK.out _ _ ?_ (fun hHeld => ?_)
          · exact KS.out _ xy4
          clear hK
          (try simp only [Act.put, List.setIfInBounds_toArray, List.set_cons_zero, List.set_cons_succ])
          refine wpAnyH_take (i := 16) (v := ?_) rfl (by kernel_rfl) (by kernel_rfl) (by kernel_rfl) (fun _ _ _ h => h) (Or.inl ⟨by rfl, ?_⟩) (by assumption) ?_
          rotate_left
          · (intro w' hSw; (try dsimp only at hSw); go_simp) <;> with_reducible rfl
          change wpAnyH Tryz.prog _ _ _ _ _ _ (Act.put _ (some 34) _) _
          (try simp only [Act.put, List.setIfInBounds_toArray, List.set_cons_zero, List.set_cons_succ])
          refine wpAnyH_ready (rs := [17]) (by kernel_rfl) (by simp) ?_
          refine (AllReadyH.cons (i := 17) rfl (fun K hK => ?_) AllReadyH.nil)
          go_simp
          obtain ⟨y5, hy5⟩ : ∃ z, z = y4.alloc (.cells #[.slice la lfs.length lc, (Value.slice na' ns.length nc'), (Value.slice va' (len (catF .nil vs (len vs))) vc'), .bool false] 64) := ⟨_, rfl⟩
          rw [← hy5]
          have xy5 : Ex W1 y5 := xy4.trans (hy5 ▸ Ex.new _ _)
          have Hy5 : Hid (y5 = y4.alloc (.cells #[.slice la lfs.length lc, (Value.slice na' ns.length nc'), (Value.slice va' (len (catF .nil vs (len vs))) vc'), .bool false] 64)) := hy5
          clear hy5
          refine hK.out _ _ ?_ (fun hHeld => ?_)
          · exact KS.out _ xy5
          clear hK
          (try simp only [Act.put, List.setIfInBounds_toArray, List.set_cons_zero, List.set_cons_succ])
          refine wpAnyH_take (i := 18) (v := ?_) rfl (by kernel_rfl) (by kernel_rfl) (by kernel_rfl) (fun _ _ _ h => h) (Or.inl ⟨by rfl, ?_⟩) (by assumption) ?_
          rotate_left
          · (intro w' hSw; (try dsimp only at hSw); go_simp) <;> with_reducible rfl
          change wpAnyH Tryz.prog _ _ _ _ _ _ (Act.put _ (some 6) _) _
          (try simp only [Act.put, List.setIfInBounds_toArray, List.set_cons_zero, List.set_cons_succ])
          refine wpAnyH_done (by kernel_rfl) ?_ _
          go_wp2_with fail
          go_meet
          refine ⟨y4.heap.size, (Value.slice na' ns.length nc'), (Value.slice va' (len (catF .nil vs (len vs))) vc'), rfl, ⟨?_, xy4.size, ?_, ?_, ?_, ?_, ?_⟩, xy5⟩
          · rw [Hy5.out]; exact heap_alloc_new _ _
          · exact row_ex rNy4 (Hy5.out ▸ Ex.new _ _)
          · refine ((RV.congr j1 vs (by rw [catF_len]; show 0 + len vs = _; omega) fun i hi => ?_).mono fun b hl hs => ?_).ex (Hy5.out ▸ Ex.new _ _)
            · have h := catF_at .nil vs (len vs) i (by rw [catF_len] at hi; exact hi)
              rw [if_neg (by show ¬ i < 0; omega), if_neg (by show ¬ i < 0; omega)] at h
              exact h
            · have hb := hSV b hs.1
              refine ⟨fun h => ?_, fun h => ?_⟩
              · rcases h with h | h
                · exact (hSVo b hs.1).1 h
                · exact (hSVo b hs.1).2 h
              · rcases h with h | h | h
                · have := xy4.size; omega
                · have := (rNy4.lt b h).1; omega
                · exact hs.2 h
          · intro h; have := (rNy4.lt _ h).2; omega
          · intro h; have := (RV.own j1 _ h).2; omega
          · exact dy4
        · go_simp
          obtain ⟨y2, hy2⟩ : ∃ z, z = y1.alloc (.cells #[] 55) := ⟨_, rfl⟩
          rw [← hy2]
          have ey2 : Ex y1 y2 := hy2 ▸ Ex.new _ _
          have xy2 : Ex W1 y2 := xy1.trans ey2
          have rVy2 : RV y2 W1.heap.size SV (.slice (some ⟨y1.heap.size, 0, none⟩) 0 0) .nil := hy2 ▸ RV.empty _ _ _ xy1.size
          have rNy2 := row_ex rNy1 ey2
          have dy2 : ∀ g, (Value.ownBlock (.slice (some ⟨y0.heap.size, 0, none⟩) 0 0)) = some g → (Value.slice (some ⟨y1.heap.size, 0, none⟩) 0 0).ownBlock ≠ some g := fun g hg hg' => by have := (rNy1.lt g hg).2; simp [Value.ownBlock] at hg'; omega
          clear hy2
          refine hK.out _ _ ?_ (fun hHeld => ?_)
          · exact KS.out _ xy2
          clear hK
          (try simp only [Act.put, List.setIfInBounds_toArray, List.set_cons_zero, List.set_cons_succ])
          refine wpAnyH_ready (rs := [9]) (by kernel_rfl) (by simp) ?_
          refine (AllReadyH.cons (i := 9) rfl (fun K hK => ?_) AllReadyH.nil)
          refine step_of_wp rfl (wp_names (.tmp 22) (.tmp 26) rfl W1.heap.size xy2.size (.slice (some ⟨y0.heap.size, 0, none⟩) 0 0) [] rfl rNy2 ns na nc rfl (XA_below hXN xy2) h63 ?_)
          intro vN0 y3 g1 g2 g3
          rw [List.nil_append] at g1
          obtain ⟨na', nc', rfl, _⟩ := XS_own g1
          have xy3 : Ex W1 y3 := ex_grow xy2 g2 fun k hk => (rNy2.lt k hk).1
          have rVy3 := RV.keep rVy2 (fun g hg => g2.block g (RV.own rVy2 g hg).2 fun e => dy2 g e.symm hg) (fun b hl hs => g2.block b hl fun e => by have := (rNy2.lt b e.symm).1; have := hSV b hs; omega)
          have dy3 : ∀ g, (Value.slice na' ns.length nc').ownBlock = some g → (Value.slice (some ⟨y1.heap.size, 0, none⟩) 0 0).ownBlock ≠ some g := fun g hg hg' => by
            rcases g3 with g3 | ⟨k, hk, hor, _⟩
            · exact dy2 g (g3 ▸ hg) hg'
            · rw [hk] at hg; cases hg; rcases hor with h | h
              · exact dy2 _ h hg'
              · have := (RV.own rVy2 _ hg').2; omega
          refine hK.out _ _ ?_ (fun hHeld => ?_)
          · exact KS.out _ xy3
          clear hK
          (try simp only [Act.put, List.setIfInBounds_toArray, List.set_cons_zero, List.set_cons_succ])
          refine wpAnyH_ready (rs := [15]) (by kernel_rfl) (by simp) ?_
          refine (AllReadyH.cons (i := 15) rfl (fun K hK => ?_) AllReadyH.nil)
          refine step_of_wp rfl (wp_vals (.tmp 28) (.tmp 32) rfl W1.heap.size xy3.size (.slice (some ⟨y1.heap.size, 0, none⟩) 0 0) .nil SV rfl rVy3 (fun b hb e => by have := (RV.own rVy3 b e).1; have := hSV b hb; omega) vs va vc TV rfl (VTop_ex hVV xy3) h63v ?_)
          intro vV0 y4 j1 j2 j3
          obtain ⟨va', vc', rfl, _⟩ := RV.top j1
          have xy4 : Ex W1 y4 := ex_grow xy3 j2 fun k hk => (RV.own rVy3 k hk).1
          have rNy4 := row_fr g1 (w' := y4) fun g hg => j2.block g (g1.lt g hg).2 fun e => dy3 g hg e.symm
          have dy4 : ∀ g, (Value.slice na' ns.length nc').ownBlock = some g → (Value.slice va' (len (catF .nil vs (len vs))) vc').ownBlock ≠ some g := fun g hg hg' => by
            rcases j3 with j3 | ⟨k, hk, hor, _⟩
            · exact dy3 g hg (j3 ▸ hg')
            · rw [hk] at hg'; cases hg'; rcases hor with h | h
              · exact dy3 _ hg h
              · have := (g1.lt _ hg).2; omega
          refine hK.out _ _ ?_ (fun hHeld => ?_)
          · exact KS.out _ xy4
          clear hK
          (try simp only [Act.put, List.setIfInBounds_toArray, List.set_cons_zero, List.set_cons_succ])
          refine wpAnyH_take (i := 16) (v := ?_) rfl (by kernel_rfl) (by kernel_rfl) (by kernel_rfl) (fun _ _ _ h => h) (Or.inl ⟨by rfl, ?_⟩) (by assumption) ?_
          rotate_left
          · (intro w' hSw; (try dsimp only at hSw); go_simp) <;> with_reducible rfl
          change wpAnyH Tryz.prog _ _ _ _ _ _ (Act.put _ (some 34) _) _
          (try simp only [Act.put, List.setIfInBounds_toArray, List.set_cons_zero, List.set_cons_succ])
          refine wpAnyH_ready (rs := [17]) (by kernel_rfl) (by simp) ?_
          refine (AllReadyH.cons (i := 17) rfl (fun K hK => ?_) AllReadyH.nil)
          go_simp
          obtain ⟨y5, hy5⟩ : ∃ z, z = y4.alloc (.cells #[.slice la lfs.length lc, (Value.slice na' ns.length nc'), (Value.slice va' (len (catF .nil vs (len vs))) vc'), .bool false] 64) := ⟨_, rfl⟩
          rw [← hy5]
          have xy5 : Ex W1 y5 := xy4.trans (hy5 ▸ Ex.new _ _)
          have Hy5 : Hid (y5 = y4.alloc (.cells #[.slice la lfs.length lc, (Value.slice na' ns.length nc'), (Value.slice va' (len (catF .nil vs (len vs))) vc'), .bool false] 64)) := hy5
          clear hy5
          refine hK.out _ _ ?_ (fun hHeld => ?_)
          · exact KS.out _ xy5
          clear hK
          (try simp only [Act.put, List.setIfInBounds_toArray, List.set_cons_zero, List.set_cons_succ])
          refine wpAnyH_take (i := 18) (v := ?_) rfl (by kernel_rfl) (by kernel_rfl) (by kernel_rfl) (fun _ _ _ h => h) (Or.inl ⟨by rfl, ?_⟩) (by assumption) ?_
          rotate_left
          · (intro w' hSw; (try dsimp only at hSw); go_simp) <;> with_reducible rfl
          change wpAnyH Tryz.prog _ _ _ _ _ _ (Act.put _ (some 6) _) _
          (try simp only [Act.put, List.setIfInBounds_toArray, List.set_cons_zero, List.set_cons_succ])
          refine wpAnyH_done (by kernel_rfl) ?_ _
          go_wp2_with fail
          go_meet
          refine ⟨y4.heap.size, (Value.slice na' ns.length nc'), (Value.slice va' (len (catF .nil vs (len vs))) vc'), rfl, ⟨?_, xy4.size, ?_, ?_, ?_, ?_, ?_⟩, xy5⟩
          · rw [Hy5.out]; exact heap_alloc_new _ _
          · exact row_ex rNy4 (Hy5.out ▸ Ex.new _ _)
          · refine ((RV.congr j1 vs (by rw [catF_len]; show 0 + len vs = _; omega) fun i hi => ?_).mono fun b hl hs => ?_).ex (Hy5.out ▸ Ex.new _ _)
            · have h := catF_at .nil vs (len vs) i (by rw [catF_len] at hi; exact hi)
              rw [if_neg (by show ¬ i < 0; omega), if_neg (by show ¬ i < 0; omega)] at h
              exact h
            · have hb := hSV b hs.1
              refine ⟨fun h => ?_, fun h => ?_⟩
              · rcases h with h | h
                · exact (hSVo b hs.1).1 h
                · exact (hSVo b hs.1).2 h
              · rcases h with h | h | h
                · have := xy4.size; omega
                · have := (rNy4.lt b h).1; omega
                · exact hs.2 h
          · intro h; have := (rNy4.lt _ h).2; omega
          · intro h; have := (RV.own j1 _ h).2; omega
          · exact dy4
      · go_simp
        obtain ⟨y1, hy1⟩ : ∃ z, z = y0.alloc (.cells #[] 55) := ⟨_, rfl⟩
        rw [← hy1]
        have ey1 : Ex y0 y1 := hy1 ▸ Ex.new _ _
        have xy1 : Ex W1 y1 := xy0.trans ey1
        have rVy1 : RV y1 W1.heap.size SV (.slice (some ⟨y0.heap.size, 0, none⟩) 0 0) .nil := hy1 ▸ RV.empty _ _ _ xy0.size
        clear hy1
        refine hK.out _ _ ?_ (fun hHeld => ?_)
        · exact KS.out _ xy1
        clear hK
        (try simp only [Act.put, List.setIfInBounds_toArray, List.set_cons_zero, List.set_cons_succ])
        refine wpAnyH_ready (rs := [4]) (by kernel_rfl) (by simp) ?_
        refine (AllReadyH.cons (i := 4) rfl (fun K hK => ?_) AllReadyH.nil)
        go_simp
        obtain ⟨y2, hy2⟩ : ∃ z, z = y1.alloc (.cells #[] 9) := ⟨_, rfl⟩
        rw [← hy2]
        have ey2 : Ex y1 y2 := hy2 ▸ Ex.new _ _
        have xy2 : Ex W1 y2 := xy1.trans ey2
        have rNy2 : y2.ownsRow W1.heap.size 9 1 (.slice (some ⟨y1.heap.size, 0, none⟩) 0 0) 0 [] := hy2 ▸ own_none_texts _ xy1.size
        have rVy2 := RV.ex rVy1 ey2
        have dy2 : ∀ g, (Value.slice (some ⟨y1.heap.size, 0, none⟩) 0 0).ownBlock = some g → (Value.slice (some ⟨y0.heap.size, 0, none⟩) 0 0).ownBlock ≠ some g := fun g hg hg' => by have := RV.own rVy1 g hg'; simp [Value.ownBlock] at hg; omega
        clear hy2
        refine hK.out _ _ ?_ (fun hHeld => ?_)
        · exact KS.out _ xy2
        clear hK
        (try simp only [Act.put, List.setIfInBounds_toArray, List.set_cons_zero, List.set_cons_succ])
        refine wpAnyH_ready (rs := [9]) (by kernel_rfl) (by simp) ?_
        refine (AllReadyH.cons (i := 9) rfl (fun K hK => ?_) AllReadyH.nil)
        refine step_of_wp rfl (wp_names (.tmp 22) (.tmp 26) rfl W1.heap.size xy2.size (.slice (some ⟨y1.heap.size, 0, none⟩) 0 0) [] rfl rNy2 ns na nc rfl (XA_below hXN xy2) h63 ?_)
        intro vN0 y3 g1 g2 g3
        rw [List.nil_append] at g1
        obtain ⟨na', nc', rfl, _⟩ := XS_own g1
        have xy3 : Ex W1 y3 := ex_grow xy2 g2 fun k hk => (rNy2.lt k hk).1
        have rVy3 := RV.keep rVy2 (fun g hg => g2.block g (RV.own rVy2 g hg).2 fun e => dy2 g e.symm hg) (fun b hl hs => g2.block b hl fun e => by have := (rNy2.lt b e.symm).1; have := hSV b hs; omega)
        have dy3 : ∀ g, (Value.slice na' ns.length nc').ownBlock = some g → (Value.slice (some ⟨y0.heap.size, 0, none⟩) 0 0).ownBlock ≠ some g := fun g hg hg' => by
          rcases g3 with g3 | ⟨k, hk, hor, _⟩
          · exact dy2 g (g3 ▸ hg) hg'
          · rw [hk] at hg; cases hg; rcases hor with h | h
            · exact dy2 _ h hg'
            · have := (RV.own rVy2 _ hg').2; omega
        refine hK.out _ _ ?_ (fun hHeld => ?_)
        · exact KS.out _ xy3
        clear hK
        (try simp only [Act.put, List.setIfInBounds_toArray, List.set_cons_zero, List.set_cons_succ])
        refine wpAnyH_ready (rs := [15]) (by kernel_rfl) (by simp) ?_
        refine (AllReadyH.cons (i := 15) rfl (fun K hK => ?_) AllReadyH.nil)
        refine step_of_wp rfl (wp_vals (.tmp 28) (.tmp 32) rfl W1.heap.size xy3.size (.slice (some ⟨y0.heap.size, 0, none⟩) 0 0) .nil SV rfl rVy3 (fun b hb e => by have := (RV.own rVy3 b e).1; have := hSV b hb; omega) vs va vc TV rfl (VTop_ex hVV xy3) h63v ?_)
        intro vV0 y4 j1 j2 j3
        obtain ⟨va', vc', rfl, _⟩ := RV.top j1
        have xy4 : Ex W1 y4 := ex_grow xy3 j2 fun k hk => (RV.own rVy3 k hk).1
        have rNy4 := row_fr g1 (w' := y4) fun g hg => j2.block g (g1.lt g hg).2 fun e => dy3 g hg e.symm
        have dy4 : ∀ g, (Value.slice na' ns.length nc').ownBlock = some g → (Value.slice va' (len (catF .nil vs (len vs))) vc').ownBlock ≠ some g := fun g hg hg' => by
          rcases j3 with j3 | ⟨k, hk, hor, _⟩
          · exact dy3 g hg (j3 ▸ hg')
          · rw [hk] at hg'; cases hg'; rcases hor with h | h
            · exact dy3 _ hg h
            · have := (g1.lt _ hg).2; omega
        refine hK.out _ _ ?_ (fun hHeld => ?_)
        · exact KS.out _ xy4
        clear hK
        (try simp only [Act.put, List.setIfInBounds_toArray, List.set_cons_zero, List.set_cons_succ])
        refine wpAnyH_take (i := 16) (v := ?_) rfl (by kernel_rfl) (by kernel_rfl) (by kernel_rfl) (fun _ _ _ h => h) (Or.inl ⟨by rfl, ?_⟩) (by assumption) ?_
        rotate_left
        · (intro w' hSw; (try dsimp only at hSw); go_simp) <;> with_reducible rfl
        change wpAnyH Tryz.prog _ _ _ _ _ _ (Act.put _ (some 34) _) _
        (try simp only [Act.put, List.setIfInBounds_toArray, List.set_cons_zero, List.set_cons_succ])
        refine wpAnyH_ready (rs := [17]) (by kernel_rfl) (by simp) ?_
        refine (AllReadyH.cons (i := 17) rfl (fun K hK => ?_) AllReadyH.nil)
        go_simp
        obtain ⟨y5, hy5⟩ : ∃ z, z = y4.alloc (.cells #[.slice la lfs.length lc, (Value.slice na' ns.length nc'), (Value.slice va' (len (catF .nil vs (len vs))) vc'), .bool false] 64) := ⟨_, rfl⟩
        rw [← hy5]
        have xy5 : Ex W1 y5 := xy4.trans (hy5 ▸ Ex.new _ _)
        have Hy5 : Hid (y5 = y4.alloc (.cells #[.slice la lfs.length lc, (Value.slice na' ns.length nc'), (Value.slice va' (len (catF .nil vs (len vs))) vc'), .bool false] 64)) := hy5
        clear hy5
        refine hK.out _ _ ?_ (fun hHeld => ?_)
        · exact KS.out _ xy5
        clear hK
        (try simp only [Act.put, List.setIfInBounds_toArray, List.set_cons_zero, List.set_cons_succ])
        refine wpAnyH_take (i := 18) (v := ?_) rfl (by kernel_rfl) (by kernel_rfl) (by kernel_rfl) (fun _ _ _ h => h) (Or.inl ⟨by rfl, ?_⟩) (by assumption) ?_
        rotate_left
        · (intro w' hSw; (try dsimp only at hSw); go_simp) <;> with_reducible rfl
        change wpAnyH Tryz.prog _ _ _ _ _ _ (Act.put _ (some 6) _) _
        (try simp only [Act.put, List.setIfInBounds_toArray, List.set_cons_zero, List.set_cons_succ])
        refine wpAnyH_done (by kernel_rfl) ?_ _
        go_wp2_with fail
        go_meet
        refine ⟨y4.heap.size, (Value.slice na' ns.length nc'), (Value.slice va' (len (catF .nil vs (len vs))) vc'), rfl, ⟨?_, xy4.size, ?_, ?_, ?_, ?_, ?_⟩, xy5⟩
        · rw [Hy5.out]; exact heap_alloc_new _ _
        · exact row_ex rNy4 (Hy5.out ▸ Ex.new _ _)
        · refine ((RV.congr j1 vs (by rw [catF_len]; show 0 + len vs = _; omega) fun i hi => ?_).mono fun b hl hs => ?_).ex (Hy5.out ▸ Ex.new _ _)
          · have h := catF_at .nil vs (len vs) i (by rw [catF_len] at hi; exact hi)
            rw [if_neg (by show ¬ i < 0; omega), if_neg (by show ¬ i < 0; omega)] at h
            exact h
          · have hb := hSV b hs.1
            refine ⟨fun h => ?_, fun h => ?_⟩
            · rcases h with h | h
              · exact (hSVo b hs.1).1 h
              · exact (hSVo b hs.1).2 h
            · rcases h with h | h | h
              · have := xy4.size; omega
              · have := (rNy4.lt b h).1; omega
              · exact hs.2 h
        · intro h; have := (rNy4.lt _ h).2; omega
        · intro h; have := (RV.own j1 _ h).2; omega
        · exact dy4
    case rest =>
      rename World => W2
      clear hnv hvv
      obtain ⟨IB, vN, vV, rfl, hEI, hX2⟩ := hcut
      have EI : Hid (EnvAt W2 W1.heap.size IB (fun b => X b ∨ Own3 B nv vv b) (.slice la lfs.length lc) ns vs false vN vV) := hEI
      have X2 : Hid (Ex W1 W2) := hX2
      have zW1 : w.heap.size < W1.heap.size := by have := F1.out.size; omega
      have ZW1 : Hid (w.heap.size < W1.heap.size) := zW1
      have HD : Hid (∀ w', Ex W1 w' → w'.cell? ⟨w.heap.size, 0, none⟩ = some (.int .i64 k) ∧ w'.cell? ⟨w.heap.size, 2, none⟩ = some (.string fn) ∧ w'.cell? ⟨w.heap.size, 4, none⟩ = some (.slice tba (blen tb) tbc) ∧ w'.cell? ⟨w.heap.size, 5, none⟩ = some (.slice tza (tlen tz) tzc) ∧ w'.cell? ⟨w.heap.size, 6, none⟩ = some (.slice ba (blen bd) bc) ∧ w'.cell? ⟨w.heap.size, 7, none⟩ = some (.slice za (tlen z) zc)) := fun w' h => ⟨h.at d0, h.at d2, h.at d4, h.at d5, h.at d6, h.at d7⟩
      have HB : Hid (∀ w', Ex W1 w' → EB w' B (.slice la lfs.length lc) nv vv false) := fun w' h => E1.out.cells.ex h
      have VT1 : Hid (∀ w', Ex W1 w' → VTop w' (fun b => w.heap.size ≤ b) (Out3 X B nv vv) l0 a') := fun w' h => by
        have hr : RV W1 (w.alloc (.cells #[.int .i64 k, .slice nma nm.length nmc, .string fn, .slice tsa (tlen ts) tsc, .slice tba (blen tb) tbc, .slice tza (tlen tz) tzc, .slice ba (blen bd) bc, .slice za (tlen z) zc] 103)).heap.size (fun b => Out3 X B nv vv b) (.slice a' (len l0) c') l0 := VR.rv VR1.out (Nat.le_refl _) fun b hl hs _ => by
          rcases hs with hs | hs
          · exact hs.1
          · exact OWN.out b (by omega)
        obtain ⟨a2, c2, e2, hV⟩ := hr.top
        cases e2
        exact VTop_mono (VTop_ex hV h) (fun b hl hb => by have := (RV.own hr b hb).1; omega) fun b _ hs => hs
      have KB : Hid (∀ w', Ex W1 w' → (∀ k, k < base → w'.heap[k]? = w.heap[k]?) ∧ w.heap.size ≤ w'.heap.size) := fun w' h => ⟨fun k hk => (h.block k (by have := BW.out; omega)).trans (FW.out.block k (by have := BW.out; omega) fun e => by have := LO.out; omega), by have := h.size; omega⟩
      have XL : Hid (∀ q, (X q ∨ Own3 B nv vv q) → q < W1.heap.size) := fun q hq => by
        rcases hq with h | h
        · have := XB.out q h; have := BW.out; omega
        · by_cases hlt : q < w.heap.size
          · omega
          · exact absurd h (OWN.out q (by omega)).2
      have IL : Hid (∀ q, Own3 IB vN vV q → W1.heap.size ≤ q) := fun q hq => by
        rcases hq with h | h | h
        · rw [h]; exact EI.out.lo
        · exact (EI.out.names.lt q h).1
        · exact (RV.own EI.out.vals q h).1
      clear hEI hX2 x0 x1 x2 x3 d0 d2 d4 d5 d6 d7 hXN hVV hSV hSVo hSVe hTVe h63 h63v KS C F0
      obtain ⟨d0, d2, d4, d5, d6, d7⟩ := HD.out W2 X2.out
      obtain ⟨x0, x1, x2, x3⟩ := (HB.out W2 X2.out).cell
      have zB2 : B < W2.heap.size := by have := ZB.out; have := X2.out.size; omega
      have zw2 : w.heap.size < W2.heap.size := by have := X2.out.size; omega
      rcases H1.out l0 rfl with ⟨rfl, hR⟩ | ⟨rfl, q, hq, hq1, hq2, hbd⟩ | ⟨rfl, hl0, R1, R2, hR, hb1, hb2⟩
      · have HR : Hid (RR l0 = some l0) := hR
        clear hR H1
        go_wp2_with fail
        refine bodyPost_ret (v := .slice a' (len l0) c') (by simp [results, Tryz.results51, go_sem]) rfl ?_
        exact SbdP.stay E1.out FW.out (X2.out.trans (Ex.new _ _)) HR.out (VT1.out _ (X2.out.trans (Ex.new _ _)))
      · obtain ⟨lb, lo, rfl, hlb, hls, hpt⟩ := QS_top HQ.out (by omega)
        have NB1 : Hid (w.heap.size + 1 ≤ W1.heap.size) := zW1
        have TB : Hid (∀ w', Ex W1 w' → Below (w.heap.size + 1) W1 w') := fun w' h => h.mono NB1.out
        have BD : Hid (∀ w', Below (w.heap.size + 1) W1 w' → w'.cell? ⟨w.heap.size, 2, none⟩ = some (.string fn)) := fun w' h => (h.cell (by show w.heap.size < _; omega)).trans (HD.out W1 (Ex.refl _)).2.1
        have BB : Hid (∀ w', Below (w.heap.size + 1) W1 w' → EB w' B (.slice (some ⟨lb, lo, none⟩) lfs.length lc) nv vv false) := fun w' h => (h.block B (by have := ZB.out; omega)).trans (HB.out W1 (Ex.refl _))
        have BP : Hid (∀ w', Below (w.heap.size + 1) W1 w' → ∀ j, j < lfs.length → PT w' (fun b => b < base) (lfs.getD j pm0) lb (lo + j * 4)) := fun w' h j hj => PT_ks (fun k hk _ => (h.block k (by have : k < base := hk; have := BW.out; omega)).trans ((KB.out W1 (Ex.refl _)).1 k hk)) hlb (hpt j hj)
        have BK : Hid (∀ w', Below (w.heap.size + 1) W1 w' → ∀ k, k < base → w'.heap[k]? = w.heap[k]?) := fun w' h k hk => (h.block k (by have := BW.out; omega)).trans ((KB.out W1 (Ex.refl _)).1 k hk)
        have RL : Hid (RV W1 (w.heap.size + 1) (fun b => Out3 X B nv vv b ∧ (Value.slice a' (len l0) c').ownBlock ≠ some b ∧ b < W1.heap.size) (.slice a' (len l0) c') l0) := VR.rv VR1.out (by omega) fun b hl hs hne => ⟨by
          rcases hs with hs | hs
          · exact hs.1
          · exact OWN.out b (by omega), hne, hl⟩
        have HBD : Hid _ := hbd
        have HQ1 : Hid _ := hq1
        have HQ2 : Hid _ := hq2
        have HQL : Hid (q < lfs.length) := hq
        have LOI : Hid (W1.heap.size ≤ IB) := EI.out.lo
        have HRQ : Hid (lfs.length ≤ 1000000000) := hll
        have ZL : Hid (lb < w.heap.size) := hls
        obtain ⟨R9, hR9⟩ : ∃ R9, R9 = RR l0 := ⟨_, rfl⟩
        rw [← hR9] at HBD
        have H9 : Hid (R9 = RR l0) := hR9
        clear hR9 hpt hlb hbd hq1 hq2 hq hll hls H1 HQ
        go_wp2_with fail
        clear x0 x1 x2 x3 zB2 zw2 d0 d2 d4 d5 d6 d7
        go_loopw [7, 8] (fun ov i wr => ∃ j : Nat, j ≤ lfs.length ∧ i = .int .i64 j ∧ Below (w.heap.size + 1) W1 wr ∧ ((j ≤ q ∧ ov = .slice (some ⟨W2.heap.size, 0, none⟩) 0 0 ∧ Ex W2 wr) ∨ (q < j ∧ ∃ r a5 c5 nv5 vv5, ov = .slice a5 (len r) c5 ∧ (∀ v, R9 = some v → v = r) ∧ VTop wr (fun b => w.heap.size ≤ b) (Out3 X B nv vv) r a5 ∧ EB wr IB (.slice (some ⟨lb, lo, none⟩) lfs.length lc) nv5 vv5 R9.isNone))) (fun _ i _ => lfs.length - (intOf i).toNat)
        case atStart => exact ⟨0, by omega, rfl, TB.out _ (X2.out.trans (Ex.new _ _)), Or.inl ⟨by omega, rfl, Ex.new _ _⟩⟩
        case round =>
          obtain ⟨j, hj, rfl, hbl, hor⟩ := hrel
          have BL : Hid (Below (w.heap.size + 1) W1 wr) := hbl
          obtain ⟨x0, x1, x2, x3⟩ := (BB.out wr hbl).cell
          have d2 := BD.out wr hbl
          have zB : B < wr.heap.size := World.block_lt_of_cell? _ _ x0
          have zw : w.heap.size < wr.heap.size := World.block_lt_of_cell? _ _ d2
          have HOR : Hid _ := hor
          clear hbl hor
          by_cases hlt : j < lfs.length
          · obtain ⟨f0, ⟨a1, k1, f1, hh1⟩, ⟨a2, k2, f2, hh2⟩, ⟨a3, k3, f3, hh3⟩⟩ := BP.out wr BL.out j hlt
            have zl : lb < wr.heap.size := World.block_lt_of_cell? _ _ f0
            have i1 : (j : Int) < (lfs.length : Int) := by omega
            have i0 : (0 : Int) ≤ (j : Int) := by omega
            have JL : Hid (j < lfs.length) := hlt
            have jb : lfs.length ≤ 1000000000 := HRQ.out
            cases he : (lfs.getD j pm0).name.toList == fn.toList with
            | false =>
              have JQ : Hid (j ≠ q) := fun e => by have := HQ2.out; rw [← e, he] at this; cases this
              obtain ⟨gn, hgn⟩ : ∃ g, g = (lfs.getD j pm0).name := ⟨_, rfl⟩
              rw [← hgn] at f0 he
              clear hh1 hh2 hh3 f1 f2 f3 hgn
              rcases HOR.out with ⟨hjq, rfl, hex⟩ | ⟨hjq, r, a5, c5, nv5, vv5, rfl, hr5, hV5, hE5⟩
              · have X5 : Hid (Ex W2 wr) := hex
                clear hex HOR
                go_wp2_with fail
                go_region
                all_goals
                  go_wp2_with fail
                  go_roundw
                  case rel => exact ⟨j + 1, by have := JL.out; omega, by go_num, by first | exact BL.out.drew | exact BL.out, Or.inl ⟨by have := JQ.out; omega, rfl, by first | exact X5.out.drew | exact X5.out⟩⟩
                  case measure => have := JL.out; simp [intOf]; omega
              · have V5 : Hid _ := hV5
                have E5 : Hid _ := hE5
                have R5 : Hid _ := hr5
                clear hV5 hE5 hr5 HOR
                go_wp2_with fail
                go_region
                all_goals
                  go_wp2_with fail
                  go_roundw
                  case rel => exact ⟨j + 1, by have := JL.out; omega, by go_num, by first | exact BL.out.drew | exact BL.out, Or.inr ⟨by omega, r, a5, c5, nv5, vv5, rfl, R5.out, by first | exact VTop_ex V5.out (Ex.refl _).drew | exact V5.out, by first | exact E5.out.ex (Ex.refl _).drew | exact E5.out⟩⟩
                  case measure => have := JL.out; simp [intOf]; omega
            | true =>
              have hjq : j = q := by
                by_cases e : j = q
                · exact e
                · have := HQ1.out j hlt e; rw [he] at this; cases this
              subst hjq
              rcases HOR.out with ⟨_, rfl, hex⟩ | ⟨hbad, _⟩
              · have X5 : Hid (Ex W2 wr) := hex
                have ER : Hid (∀ w', Ex wr w' → EnvAt w' W1.heap.size IB (fun b => X b ∨ Own3 B nv vv b) (.slice (some ⟨lb, lo, none⟩) lfs.length lc) ns vs false vN vV) := fun w' h => EI.out.fr (Fr.of_ex (X5.out.trans h) IB) (EI.out.cells.ex (X5.out.trans h))
                obtain ⟨f, hf⟩ : ∃ f, f = lfs.getD j pm0 := ⟨_, rfl⟩
                rw [← hf] at f0 f1 f2 f3 hh1 hh2 hh3 he HBD
                have HX1 : Hid _ := hh1.2
                have HB2 : Hid (BS w (fun b => b < base) f.binds a2) := BS_ks hh2 fun k hk _ => (BK.out wr BL.out k hk).symm
                have HB3 : Hid (MS w (fun b => b < base) f.says a3) := MS_ks hh3 fun k hk _ => (BK.out wr BL.out k hk).symm
                have HPL : Hid (f.params.length ≤ 1000000) := by have := PLM.out j hlt; rw [← hf] at this; exact this
                have HF : Hid (∀ w', Below (w.heap.size + 1) wr w' → w'.cell? ⟨lb, lo + j * 4 + 1, none⟩ = some (.slice a1 f.params.length k1) ∧ w'.cell? ⟨lb, lo + j * 4 + 2, none⟩ = some (.slice a2 (blen f.binds) k2) ∧ w'.cell? ⟨lb, lo + j * 4 + 3, none⟩ = some (.slice a3 (tlen f.says) k3)) := fun w' h => ⟨(h.cell (by show lb < _; have := ZL.out; omega)).trans f1, (h.cell (by show lb < _; have := ZL.out; omega)).trans f2, (h.cell (by show lb < _; have := ZL.out; omega)).trans f3⟩
                obtain ⟨gn, hgn⟩ : ∃ g, g = f.name := ⟨_, rfl⟩
                rw [← hgn] at f0 he
                clear hex HOR hh1 hh2 hh3 hgn hf
                go_wp2_with fail
                go_region
                all_goals
                  obtain ⟨wd, hwd⟩ : ∃ wd, wd = wr.drew := ⟨_, rfl⟩
                  rw [← hwd]
                  have XD : Hid (Ex wr wd) := hwd ▸ (Ex.refl _).drew
                  have BLD : Hid (Below (w.heap.size + 1) W1 wd) := hwd ▸ BL.out.drew
                  clear hwd x0 x1 x2 x3 d2 f0 f1 f2 f3
                  have zrd : wr.heap.size ≤ wd.heap.size := XD.out.size
                  obtain ⟨x0, x1, x2, x3⟩ := (BB.out wd BLD.out).cell
                  obtain ⟨f1, f2, f3⟩ := HF.out wd (XD.out.mono (by omega))
                  have zI : IB < wr.heap.size := lt_of_block (ER.out wr (Ex.refl _)).cells
                  have zw1 : W1.heap.size ≤ wr.heap.size := (X2.out.trans X5.out).size
                  have zBd : B < wd.heap.size := World.block_lt_of_cell? _ _ x0
                  have zld : lb < wd.heap.size := World.block_lt_of_cell? _ _ f1
                  go_wp2_with (at_builtin; refine wpList_plain rfl fun K hK => ?_; refine wp_names (.tmp 87) (.tmp 95) rfl (w.heap.size + 1) (by rw [World.size_alloc]; omega) (.slice (some ⟨wd.heap.size, 0, none⟩) 0 0) [] rfl (own_none_texts _ (by omega)) f.params a1 k1 rfl (XS_mono (XS_ks HX1.out fun k hk hlt2 => (XD.out.trans (Ex.new _ _)).block k hlt2) fun _ _ _ => Nat.zero_le _) (by have := HPL.out; show 0 + _ ≤ _; omega) ?_)
                  intro v' wn g1 g2 g3
                  obtain ⟨na2, nc2, rfl, _⟩ := XS_own g1
                  refine hK _ _ ?_
                  have zal : (wd.alloc (.cells #[] 9)).heap.size = wd.heap.size + 1 := World.size_alloc _ _
                  have ZN : Hid (wd.heap.size + 1 ≤ wn.heap.size) := by have := g2.size; show _ ≤ _; omega
                  have OWNN : Hid (∀ g, (Value.slice na2 f.params.length nc2).ownBlock = some g → wd.heap.size ≤ g ∧ g < wn.heap.size) := fun g hg => ⟨by
                    rcases g3 with e | ⟨k, hk, hor, _⟩
                    · rw [e] at hg; simp [Value.ownBlock] at hg; omega
                    · rw [hk] at hg; cases hg
                      rcases hor with h | h
                      · simp [Value.ownBlock] at h; omega
                      · omega, (g1.lt g hg).2⟩
                  have XN : Hid (∀ k, k < wd.heap.size → wn.heap[k]? = wd.heap[k]?) := fun k hk => (g2.block k (by omega) (fun e => by simp [Value.ownBlock] at e; omega)).trans (Below.heap_alloc _ _ _ hk)
                  have BN : Hid (Below (w.heap.size + 1) W1 wn) := (BLD.out.alloc (by omega) _).grown g2 (by omega) fun k hk => by simp [Value.ownBlock] at hk; omega
                  have EIN : Hid (EB wn IB (.slice (some ⟨lb, lo, none⟩) lfs.length lc) vN vV false) := (XN.out IB (by omega)).trans (ER.out wd XD.out).cells
                  have G1 : Hid _ := g1
                  clear x0 x1 x2 x3 f1 f2 f3
                  obtain ⟨x0, x1, x2, x3⟩ := (BB.out wn BN.out).cell
                  obtain ⟨f1, f2, f3⟩ := HF.out wn ⟨BN.out.os.trans BL.out.os.symm, BN.out.tape.trans BL.out.tape.symm, BN.out.output.trans BL.out.output.symm, by have := ZN.out; omega, fun k hk => (BN.out.block k hk).trans (BL.out.block k hk).symm⟩
                  obtain ⟨y0, y1, y2, y3⟩ := EIN.out.cell
                  have fr1 : wn.frozen? ⟨IB, 1, none⟩ = false := by have h := EIN.out; unfold EB at h; simp [World.frozen?, h]
                  have fr2 : wn.frozen? ⟨IB, 2, none⟩ = false := by have h := EIN.out; unfold EB at h; simp [World.frozen?, h]
                  have n1 : ¬ IB = B := by have := LOI.out; have := ZB.out; omega
                  have n2 : ¬ B = IB := fun e => n1 e.symm
                  have n3 : ¬ IB = lb := by have := LOI.out; have := ZL.out; omega
                  have n4 : ¬ lb = IB := fun e => n3 e.symm
                  have zIn : IB < wn.heap.size := by have := ZN.out; omega
                  have ZIW : Hid (IB < wd.heap.size ∧ W1.heap.size ≤ wd.heap.size) := by constructor <;> omega
                  clear g1 g2 g3 zal zI zw1 zrd zBd zld
                  have W6 : Hid (∀ W6, W6 = ((wn.setCell ⟨IB, 1, none⟩ (.slice na2 f.params.length nc2)).setCell ⟨IB, 2, none⟩ (.slice a' (len l0) c')) → EnvAt W6 (w.heap.size + 1) IB (fun b => X b ∨ Own3 B nv vv b) (.slice (some ⟨lb, lo, none⟩) lfs.length lc) f.params l0 false (.slice na2 f.params.length nc2) (.slice a' (len l0) c') ∧ Below (w.heap.size + 1) W1 W6 ∧ W6.heap.size = wn.heap.size) := fun W6 e => by
                    subst e
                    have hb6 : ∀ k, k ≠ IB → ((wn.setCell ⟨IB, 1, none⟩ (.slice na2 f.params.length nc2)).setCell ⟨IB, 2, none⟩ (.slice a' (len l0) c')).heap[k]? = wn.heap[k]? := fun k hk => (Below.heap_setCell _ _ _ _ hk).trans (Below.heap_setCell _ _ _ _ hk)
                    have hw : ∀ k, k < W1.heap.size → ((wn.setCell ⟨IB, 1, none⟩ (.slice na2 f.params.length nc2)).setCell ⟨IB, 2, none⟩ (.slice a' (len l0) c')).heap[k]? = W1.heap[k]? := fun k hk => (hb6 k (by have := LOI.out; omega)).trans ((XN.out k (by have := ZIW.out.2; omega)).trans ((X2.out.trans (X5.out.trans XD.out)).block k hk))
                    have ol : ∀ g, (Value.slice a' (len l0) c').ownBlock = some g → w.heap.size + 1 ≤ g ∧ g < W1.heap.size := fun g hg => RV.own RL.out g hg
                    refine ⟨⟨EIN.out.two, by have := LOI.out; have := NB1.out; omega, row_fr G1.out fun g hg => hb6 g (fun e => by have := (OWNN.out g hg).1; have := ZIW.out.1; omega), (RV.keep RL.out (fun g hg => hw g (ol g hg).2) fun b hl _ => hw b hl).mono fun b _ hs => ⟨fun h => ?_, fun h => ?_⟩, fun e => ?_, fun e => ?_, fun g hg e => ?_⟩, (BN.out.setCell (by show _ ≤ IB; have := LOI.out; have := NB1.out; omega) _).setCell (by show _ ≤ IB; have := LOI.out; have := NB1.out; omega) _, by simp [World.setCell]⟩
                    · rcases h with h | h
                      · exact hs.1.1 h
                      · exact hs.1.2 h
                    · rcases h with h | h | h
                      · have := hs.2.2; have := LOI.out; omega
                      · have := (OWNN.out b h).1; have := hs.2.2; have := ZIW.out.2; omega
                      · exact hs.2.1 h
                    · have := (OWNN.out _ e).1; have := ZIW.out.1; omega
                    · have := (ol _ e).2; have := LOI.out; omega
                    · have := (OWNN.out g hg).1; have := (ol g e).2; have := ZIW.out.2; omega
                  go_wp2_with fail
                  obtain ⟨hE6, hB6, hz6⟩ := W6.out _ rfl
                  have HE6 : Hid _ := hE6
                  have HB6 : Hid _ := hB6
                  have HZ6 : Hid _ := hz6
                  clear hE6 hB6 hz6
                  refine Calls.mono (HBD.out a2 k2 a3 k3 HB2.out HB3.out (w.heap.size + 1) IB _ _ _ (by have := BW.out; omega) (by have := HZ6.out; have := ZN.out; have := ZIW.out.2; have := NB1.out; omega) (fun q hq => by
                    rcases hq with h | h
                    · have := XB.out q h; have := BW.out; omega
                    · by_cases hlt2 : q < w.heap.size
                      · omega
                      · exact absurd h (OWN.out q (by omega)).2) HE6.out (BK.out _ HB6.out) (by have := HZ6.out; have := ZN.out; have := ZIW.out.2; have := NB1.out; omega)) ?_
                  rintro e w7 ⟨r, a5, c5, nv5, vv5, rfl, hev5, hV5, hB5, hF5⟩
                  have B7 : Hid (Below (w.heap.size + 1) W1 w7) := hF5.below HB6.out (by have := HZ6.out; have := ZN.out; have := ZIW.out.2; have := NB1.out; omega) fun k hk => by
                    rcases hk with h | h | h
                    · have := LOI.out; have := NB1.out; omega
                    · have := (OWNN.out k h).1; have := ZIW.out.2; have := NB1.out; omega
                    · exact (RV.own RL.out k h).1
                  have V7 : Hid (VTop w7 (fun b => w.heap.size ≤ b) (Out3 X B nv vv) r a5) := VTop_mono hV5 (fun b _ hb => by have := HZ6.out; have := ZN.out; have := ZIW.out.2; have := ZW1.out; omega) fun b _ hb => ⟨fun h => hb (Or.inl h), fun h => hb (Or.inr h)⟩
                  have E7 : Hid _ := hB5
                  have EV7 : Hid _ := hev5
                  clear hev5 hV5 hB5 hF5 HE6 HB6 HZ6 W6 x0 x1 x2 x3 y0 y1 y2 y3 fr1 fr2 f1 f2 f3
                  go_wp2_with fail
                  go_roundw
                  case rel => exact ⟨j + 1, by have := JL.out; omega, by go_num, B7.out, Or.inr ⟨by omega, r, a5, c5, nv5, vv5, rfl, EV7.out, V7.out, E7.out⟩⟩
                  case measure => have := JL.out; simp [intOf]; omega
              · exfalso; omega
          · have hje : j = lfs.length := by omega
            rcases HOR.out with ⟨hjq, _, _⟩ | ⟨hjq, r, a5, c5, nv5, vv5, rfl, hr5, hV5, hE5⟩
            · exfalso; have := HQL.out; omega
            · obtain ⟨y0, y1, y2, y3⟩ := hE5.cell
              have zI : IB < wr.heap.size := World.block_lt_of_cell? _ _ y3
              have fr3 : wr.frozen? ⟨B, 3, none⟩ = false := by have h := BB.out wr BL.out; unfold EB at h; simp [World.frozen?, h]
              obtain ⟨zf, hzf⟩ : ∃ zf, zf = R9.isNone := ⟨_, rfl⟩
              rw [← hzf] at y3
              have HZ : Hid (zf = R9.isNone) := hzf
              have V5 : Hid _ := hV5
              have R5 : Hid _ := hr5
              clear hV5 hE5 hr5 hzf HOR hje
              go_wp2_with fail
              refine bodyPost_ret (v := .slice a5 (len r) c5) (by simp [results, Tryz.results51, go_sem]) rfl ?_
              first
                | rw [show ((some l0).bind RR) = R9 from H9.out.symm]
                | rw [show RR l0 = R9 from H9.out.symm]
              have f2 : Fr B wr (wr.setCell ⟨B, 3, none⟩ (.bool zf)) := (Fr.refl B wr).set (Or.inl rfl) _
              have fw : Fr B w wr := ⟨BL.out.os.trans FW.out.os, BL.out.tape.trans FW.out.tape, BL.out.output.trans FW.out.output, by omega, fun k hk hne => (BL.out.block k (by omega)).trans (FW.out.block k hk hne)⟩
              exact SbdP.gen E0.out (Fr.refl B w) (fw.trans f2) (HZ.out ▸ (BB.out wr BL.out).turn) R5.out (VTop_fr V5.out f2 (by have := ZB.out; omega) fun h => h.2 (Or.inl rfl))
      · obtain ⟨b, o, hav, hbT, hbs, hk⟩ := VTop_at (VT1.out W2 X2.out) hl0
        obtain ⟨w00, a0, k0, w01, _⟩ := hk 0 hl0
        rw [Nat.zero_mul, Nat.add_zero] at w00 w01
        subst hav
        have i1 : (0 : Int) < (len l0 : Int) := by omega
        clear hk
        by_cases hk0 : len (kid l0 0) = 0
        · have e1 : decide (0 < len (kid l0 0)) = false := decide_eq_false (by omega)
          by_cases hn : num l0 0 = 0
          · have q0 : (num l0 0 == 0) = true := by rw [beq_iff_eq]; exact hn
            have HR : Hid (RR l0 = R2) := hR.trans (by rw [if_pos hk0, if_pos hn])
            have HB2 : Hid _ := hb2
            clear hR H1 hb1 hb2 hk0 hn
            have zW3 : W1.heap.size ≤ (W2.alloc (.cells #[] 55)).heap.size := (X2.out.trans (Ex.new _ _)).size
            go_wp2_with fail
            refine Calls.mono (HB2.out W1.heap.size IB vN vV _ (by have := BW.out; have := ZW1.out; omega) zW3 XL.out (EI.out.fr (Fr.of_ex (Ex.new _ _) IB) (EI.out.cells.ex (Ex.new _ _))) (KB.out _ (X2.out.trans (Ex.new _ _))).1 (KB.out _ (X2.out.trans (Ex.new _ _))).2) ?_
            rintro e w5 ⟨r, a5, c5, nv5, vv5, rfl, hev5, hV5, hB5, hF5⟩
            have X5 : Hid (Ex W1 w5) := hF5.to_ex (X2.out.trans (Ex.new _ _)) IL.out
            have V5 : Hid (VTop w5 (fun b => w.heap.size ≤ b) (Out3 X B nv vv) r a5) := VTop_mono hV5 (fun b _ hb => by have := ZW1.out; omega) fun b _ hb => ⟨fun h => hb (Or.inl h), fun h => hb (Or.inr h)⟩
            have EV5 : Hid _ := hev5
            clear x0 x1 x2 x3 zB2 zw2 d0 d2 d4 d5 d6 d7 w00 w01
            obtain ⟨x0, x1, x2, x3⟩ := (HB.out w5 X5.out).cell
            obtain ⟨y0, y1, y2, y3⟩ := hB5.cell
            have zB5 : B < w5.heap.size := World.block_lt_of_cell? _ _ x3
            have fr3 : w5.frozen? ⟨B, 3, none⟩ = false := by have h := HB.out w5 X5.out; unfold EB at h; simp [World.frozen?, h]
            obtain ⟨zf, hzf⟩ : ∃ zf, zf = R2.isNone := ⟨_, rfl⟩
            rw [← hzf] at y3
            have HZ : Hid (zf = R2.isNone) := hzf
            clear hev5 hV5 hB5 hF5 HB2 hzf
            go_wp2_with fail
            refine bodyPost_ret (v := .slice a5 (len r) c5) (by simp [results, Tryz.results51, go_sem]) rfl ?_
            rw [show ((some l0).bind RR) = R2 from HR.out]
            exact SbdP.flag ZB.out E1.out FW.out X5.out EV5.out V5.out zf HZ.out
          · have q0 : (num l0 0 == 0) = false := by rw [beq_eq_false_iff_ne]; exact hn
            have HR : Hid (RR l0 = R1) := hR.trans (by rw [if_pos hk0, if_neg hn])
            have HB2 : Hid _ := hb1
            clear hR H1 hb1 hb2 hk0 hn
            have zW3 : W1.heap.size ≤ (W2.alloc (.cells #[] 55)).heap.size := (X2.out.trans (Ex.new _ _)).size
            go_wp2_with fail
            refine Calls.mono (HB2.out W1.heap.size IB vN vV _ (by have := BW.out; have := ZW1.out; omega) zW3 XL.out (EI.out.fr (Fr.of_ex (Ex.new _ _) IB) (EI.out.cells.ex (Ex.new _ _))) (KB.out _ (X2.out.trans (Ex.new _ _))).1 (KB.out _ (X2.out.trans (Ex.new _ _))).2) ?_
            rintro e w5 ⟨r, a5, c5, nv5, vv5, rfl, hev5, hV5, hB5, hF5⟩
            have X5 : Hid (Ex W1 w5) := hF5.to_ex (X2.out.trans (Ex.new _ _)) IL.out
            have V5 : Hid (VTop w5 (fun b => w.heap.size ≤ b) (Out3 X B nv vv) r a5) := VTop_mono hV5 (fun b _ hb => by have := ZW1.out; omega) fun b _ hb => ⟨fun h => hb (Or.inl h), fun h => hb (Or.inr h)⟩
            have EV5 : Hid _ := hev5
            clear x0 x1 x2 x3 zB2 zw2 d0 d2 d4 d5 d6 d7 w00 w01
            obtain ⟨x0, x1, x2, x3⟩ := (HB.out w5 X5.out).cell
            obtain ⟨y0, y1, y2, y3⟩ := hB5.cell
            have zB5 : B < w5.heap.size := World.block_lt_of_cell? _ _ x3
            have fr3 : w5.frozen? ⟨B, 3, none⟩ = false := by have h := HB.out w5 X5.out; unfold EB at h; simp [World.frozen?, h]
            obtain ⟨zf, hzf⟩ : ∃ zf, zf = R1.isNone := ⟨_, rfl⟩
            rw [← hzf] at y3
            have HZ : Hid (zf = R1.isNone) := hzf
            clear hev5 hV5 hB5 hF5 HB2 hzf
            go_wp2_with fail
            refine bodyPost_ret (v := .slice a5 (len r) c5) (by simp [results, Tryz.results51, go_sem]) rfl ?_
            rw [show ((some l0).bind RR) = R1 from HR.out]
            exact SbdP.flag ZB.out E1.out FW.out X5.out EV5.out V5.out zf HZ.out
        · have e1 : decide (0 < len (kid l0 0)) = true := decide_eq_true (by omega)
          have HR : Hid (RR l0 = none) := hR.trans (if_neg hk0)
          have fr3 : W2.frozen? ⟨B, 3, none⟩ = false := by have h := HB.out W2 X2.out; unfold EB at h; simp [World.frozen?, h]
          clear hR H1 hb1 hb2 hk0
          go_wp2_with fail
          refine bodyPost_ret (v := .slice (some ⟨W2.heap.size, 0, none⟩) 0 0) (by simp [results, Tryz.results51, go_sem]) rfl ?_
          rw [show ((some l0).bind RR) = none from HR.out]
          exact SbdP.gen (r := .nil) E1.out FW.out ((((Fr.of_ex X2.out B).set (p := ⟨B, 3, none⟩) (Or.inl rfl) _).set (p := ⟨B, 3, none⟩) (Or.inl rfl) _).alloc _) ((HB.out _ X2.out).turn.turn.ex (Ex.new _ _)) (fun v hv => by cases hv) (Or.inl rfl)

end Go.Proofs.YtldbmlojgakieaaGreatDoor
