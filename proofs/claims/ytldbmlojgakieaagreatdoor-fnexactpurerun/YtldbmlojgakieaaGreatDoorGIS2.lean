/- Walks: what a body says, by the specification. Walks: what a call says, by the program. Walks: what a call says, by the specification. errors.Is where the two are different faults (after the guide's own); which faults say that there is nothing to be told. -/
import Derived.Test.YtldbmlojgakieaaGreatDoorSB3
import Derived.Test.YtldbmlojgakieaaGreatDoorGRN4
import Derived.Deep.RegionLaw
import Derived.Test.YtldbmlojgakieaaGreatDoorGRN1
namespace Go.Proofs.YtldbmlojgakieaaGreatDoor

open Go.RowKit Go.Deep Go.Maps Go.WideMaps

attribute [local go_sem ↓] Go.wp_at_zero Go.wp_at_succ

/-- Calls of functions ahead are run as they should, by the specification. -/
def SCalls (l : List PM) (la : Option Addr) (lc m : Nat) (call : Call) : Prop := ∀ q fn v, q < m → ((l.getD q pm0).name.toList == fn.toList) = true → len v = (l.getD q pm0).params.length → tyL v → ∀ (w : World) (base : Nat) (X : Nat → Prop) (a2 : Option Addr) (k2 : Nat) (a3 : Option Addr) (k3 : Nat), base ≤ w.heap.size → QS w (fun b => b < base) l la → BS w (fun b => b < base) (l.getD q pm0).binds a2 → MS w (fun b => b < base) (l.getD q pm0).says a3 →
  BodyAt w base X (.slice la l.length lc) (l.getD q pm0).params v (.agg #[.slice a2 (blen (l.getD q pm0).binds) k2, .slice a3 (tlen (l.getD q pm0).says) k3]) (call fn v)

theorem VTop_keep {w w' : World} {T S : Nat → Prop} {f : F} {a : Option Addr} (h : VTop w T S f a) (hz : w.heap.size ≤ w'.heap.size) (hk : ∀ b, b < w.heap.size → T b ∨ S b → w'.heap[b]? = w.heap[b]?) : VTop w' T S f a := by
  rcases h with h | ⟨b, o, e, hT, hb, hc⟩
  · exact Or.inl h
  · have hbb := hk b hb (Or.inl hT)
    refine Or.inr ⟨b, o, e, hT, by omega, fun i hi => ?_⟩
    obtain ⟨h1, a', c', h2, h3⟩ := hc i hi
    exact ⟨(World.cell?_of_block (w := w) hbb).trans h1, a', c', (World.cell?_of_block (w := w) hbb).trans h2, VS_ks h3 fun q hq hl => hk q hl (Or.inr hq)⟩
theorem EB.nm {w : World} {B : Nat} {lv nv vv x : Value} {bad : Bool} (h : EB w B lv nv vv bad) : EB (w.setCell ⟨B, 1, none⟩ x) B lv x vv bad := by
  unfold EB at *
  simp [World.setCell, Array.getElem?_modify, h]
theorem EB.vl {w : World} {B : Nat} {lv nv vv x : Value} {bad : Bool} (h : EB w B lv nv vv bad) : EB (w.setCell ⟨B, 2, none⟩ x) B lv nv x bad := by
  unfold EB at *
  simp [World.setCell, Array.getElem?_modify, h]
theorem Moved.own {w w' : World} {v v' : Value} (h : Moved w w' v v') {k : Nat} (hk : v'.ownBlock = some k) : v.ownBlock = some k ∨ k = w.heap.size := by
  rcases h with h | ⟨g, hg, hor, _⟩
  · exact Or.inl (h ▸ hk)
  · rw [hg] at hk; cases hk; exact hor

theorem FrS.out {S T : Nat → Prop} {a b c : World} (h : FrS S a b) (k : FrS T b c) (hT : ∀ i, i < a.heap.size → T i → S i) : FrS S a c :=
  ⟨k.os.trans h.os, k.tape.trans h.tape, k.output.trans h.output, Nat.le_trans h.size k.size, fun i hi hn => (k.block i (Nat.lt_of_lt_of_le hi h.size) fun ht => hn (hT i hi ht)).trans (h.block i hi hn)⟩
/-- How far the blocks of an environment have gone. -/
def Gone (w : World) (B : Nat) (nv vv nv' vv' : Value) : Prop := ∀ k, Own3 B nv' vv' k → Own3 B nv vv k ∨ w.heap.size < k

theorem envV_names {call : Call} {d : Nat} {ns : List ByteArray} {vs : F} {b : BD} {j : Nat} {vj lv : F} (h : envV call (bodyV call d) (envOf ns vs) b j = some (envOf (nsAt ns b j) vj)) (hb : bindV call (bodyV call d) (envOf (nsAt ns b j) vj) b j = some lv) (hl : len vj = (nsAt ns b j).length) (hn : len lv = (bnames b j).length) : envV call (bodyV call d) (envOf ns vs) b (j + 1) = some (envOf (nsAt ns b (j + 1)) (catF vj lv (len lv))) := by
  rw [env_step h hb]
  show _ = some (envOf (nsAt ns b j ++ bnames b j) _)
  rw [envOf_cat hl hn]

theorem EnvAt.terms {w : World} {base B : Nat} {X : Nat → Prop} {lv : Value} {ns : List ByteArray} {vs : F} {bad : Bool} {nv vv : Value} (hE : EnvAt w base B X lv ns vs bad nv vv) (hty : tyL vs) (hlen : len vs = ns.length) (hl : ns.length ≤ 1000000000) (ms : List ByteArray) (f : TM) (hk : kidsB ms 8 f = true) (hsm : TSm f) (hlm : TLm f) (hfl : tlen f ≤ 100000000) (a : Option Addr) (c : Nat) (hM : MS w (fun b => b < base) f a) :
    Calls Tryz.prog 52 #[.pointer (some ⟨B, 0, none⟩), .slice a (tlen f) c] w (SpR B (fun b => Out3 X B nv vv b ∧ b < w.heap.size) lv nv vv (tlen f) (if bad = true then none else evL (envOf ns vs) f) w) := by
  obtain ⟨na, nc, hnv, hXN⟩ := XS_own hE.names
  obtain ⟨va, vc, hvv, hVT⟩ := hE.vals.top
  have hc := hE.cells
  rw [hnv, hvv] at hc
  have h1 := sterms_any B (fun b => vv.ownBlock = some b) (fun b => Out3 X B nv vv b ∧ b < w.heap.size) hE.vB lv ns vs na va nc vc hl hlen (tyE_of hty hlen) ms 8 f hk hsm hlm hfl a c bad w hc (XS_mono hXN fun b _ hb e => by subst e; exact hE.nB hb) (VTop_mono hVT (fun _ _ h => h) fun b hl hs => ⟨hs, hl⟩) (fun b hb => ⟨hb.2, fun e => hb.1.2 (Or.inl e)⟩) (MS_mono hM fun b _ hb e => by have := hE.lo; have : b < base := hb; omega)
  rw [← hnv, ← hvv] at h1
  exact h1
/-- What is said behind all bindings. -/
theorem SbP.mk {w wr w' : World} {B : Nat} {X : Nat → Prop} {lv nv vv nvj vvj : Value} {n : Nat} {R : Option F} {e : Ending} {o : Obj} (hX : ∀ b, X b → b < w.heap.size) (hfr : FrS (Own3 B nv vv) (w.alloc o) wr) (h : SpR B (fun b => Out3 X B nvj vvj b ∧ b < wr.heap.size) lv nvj vvj n R wr e w') : SbP B X lv nv vv R w e w' := by
  obtain ⟨r, a', c', he, _, hev, _, hVR, hF, hEB⟩ := h
  have hz := hfr.size
  rw [World.size_alloc] at hz
  have hr : RV w' wr.heap.size (fun b => ¬ X b) (.slice a' (len r) c') r := VR.rv hVR (Nat.le_refl _) fun b _ hs _ => by
    rcases hs with hs | hs
    · exact hs.1.1
    · intro h; have := hX b h; omega
  obtain ⟨a2, c2, e2, hV⟩ := hr.top
  cases e2
  refine ⟨r, a', c', nvj, vvj, he, hev, VTop_mono hV (fun b hl hb => by have := (RV.own hr b hb).1; omega) (fun _ _ h => h), hEB, ((FrS.of_ex (Ex.new _ _)).trans hfr).trans ⟨hF.os, hF.tape, hF.output, hF.size, fun k hk hn => hF.block k hk fun e => hn (Or.inl e)⟩⟩

set_option maxRecDepth 100000 in
set_option maxHeartbeats 8000000 in
theorem sbody_any (l : List PM) (la : Option Addr) (lc m : Nat) (hm : m ≤ l.length) (hl : l.length ≤ 1000000000) (hpl : ∀ j, j < l.length → (l.getD j pm0).params.length ≤ 1000000) (huq : ∀ q j fn, q < m → j < l.length → j ≠ q → ((l.getD q pm0).name.toList == fn) = true → ((l.getD j pm0).name.toList == fn) = false) (call : Call) (hok : okCall (l.take m) call) (hcs : SCalls l la lc m call) : ∀ (d base B : Nat) (X : Nat → Prop) (ns : List ByteArray) (vs : F) (nv vv : Value) (b : BD) (ba : Option Addr) (bc : Nat) (z : TM) (za : Option Addr) (zc : Nat) (w : World), d ≤ 6 → base ≤ w.heap.size → (∀ q, X q → q < base) → EnvAt w base B X (.slice la l.length lc) ns vs false nv vv → QS w (fun b => b < base) l la → bodyB (l.take m) d ns b z = true → tyL vs → len vs = ns.length → ns.length + 25000 * d ≤ 200000 → BSm b → BLm b → TSm z → TLm z → BS w (fun b => b < base) b ba → MS w (fun b => b < base) z za →
    Calls Tryz.prog 23 #[.pointer (some ⟨B, 0, none⟩), .agg #[.slice ba (blen b) bc, .slice za (tlen z) zc]] w (SbP B X (.slice la l.length lc) nv vv (bodyV call d (envOf ns vs) b z) w) := by
  intro d
  induction d with
  | zero =>
    intro base B X ns vs nv vv b ba bc z za zc w _ _ _ _ _ h
    cases h
  | succ d ih =>
    intro base B X ns vs nv vv b ba bc z za zc w hd hbw hXb hE hQ hbok hty hlen hns hsm hlm hzm hzk hB hM
    obtain ⟨hb4, hba, hzt⟩ := bodyB_yes hbok
    obtain ⟨hz6, hz8⟩ := termsB_kids hzt
    have N : Hid (Ex w (w.alloc (.cells #[.slice ba (blen b) bc, .slice za (tlen z) zc] 59))) := Ex.new _ _
    have zB : B < w.heap.size := lt_of_block hE.cells
    have zl : base ≤ B := hE.lo
    have W0z : (w.alloc (.cells #[.slice ba (blen b) bc, .slice za (tlen z) zc] 59)).heap.size = w.heap.size + 1 := World.size_alloc _ _
    -- blocks below the base stay
    have LOW : Hid (∀ w', FrS (Own3 B nv vv) (w.alloc (.cells #[.slice ba (blen b) bc, .slice za (tlen z) zc] 59)) w' → ∀ k, k < base → w'.heap[k]? = w.heap[k]?) := fun w' h k hk => (h.block k (by omega) fun ho => by
      rcases ho with ho | ho | ho
      · omega
      · have := (hE.names.lt k ho).1; omega
      · have := (RV.own hE.vals k ho).1; omega).trans (N.out.block k (by omega))
    have Q : Hid (∀ w', FrS (Own3 B nv vv) (w.alloc (.cells #[.slice ba (blen b) bc, .slice za (tlen z) zc] 59)) w' → QS w' (fun b => b < base) l la) := fun w' h => QS_ks hQ fun k hk _ => LOW.out w' h k hk
    have BB : Hid (∀ w', FrS (Own3 B nv vv) (w.alloc (.cells #[.slice ba (blen b) bc, .slice za (tlen z) zc] 59)) w' → BS w' (fun b => b < base) b ba) := fun w' h => BS_ks hB fun k hk _ => LOW.out w' h k hk
    have MM : Hid (∀ w', FrS (Own3 B nv vv) (w.alloc (.cells #[.slice ba (blen b) bc, .slice za (tlen z) zc] 59)) w' → MS w' (fun b => b < base) z za) := fun w' h => MS_ks hM fun k hk _ => LOW.out w' h k hk
    have OWB : Hid (∀ k, Own3 B nv vv k → k < w.heap.size) := fun k hk => by
      rcases hk with h | h | h
      · omega
      · exact (hE.names.lt k h).2
      · exact (RV.own hE.vals k h).2
    have BX : Hid (∀ w', FrS (Own3 B nv vv) (w.alloc (.cells #[.slice ba (blen b) bc, .slice za (tlen z) zc] 59)) w' → w'.cell? ⟨w.heap.size, 0, none⟩ = some (.slice ba (blen b) bc) ∧ w'.cell? ⟨w.heap.size, 1, none⟩ = some (.slice za (tlen z) zc)) := fun w' h => ⟨h.at (fun hk => by have := OWB.out _ hk; exact absurd this (Nat.lt_irrefl _)) (by simp), h.at (fun hk => by have := OWB.out _ hk; exact absurd this (Nat.lt_irrefl _)) (by simp)⟩
    obtain ⟨R, hR⟩ : ∃ R, R = bodyV call (d + 1) (envOf ns vs) b z := ⟨_, rfl⟩
    have RR : Hid (R = bodyV call (d + 1) (envOf ns vs) b z) := hR
    rw [← hR]
    have E0 : Hid _ := hE
    have I : Hid _ := ih
    have SM : Hid (BSm b ∧ BLm b) := ⟨hsm, hlm⟩
    have ZK : Hid (TSm z ∧ TLm z ∧ kidsB (nsAt ns b (blen b)) 8 z = true) := ⟨hzm, hzk, hz8⟩
    have BA0 : Hid (∀ i, i < blen b → bindAt (l.take m) (bodyB (l.take m) d) ns b i = true) := hba
    have OK : Hid (okCall (l.take m) call) := hok
    have CS : Hid (SCalls l la lc m call) := hcs
    have UQ : Hid _ := huq
    have PL : Hid _ := hpl
    have BW : Hid (base ≤ w.heap.size ∧ B < w.heap.size ∧ base ≤ B) := ⟨hbw, zB, zl⟩
    have XB : Hid (∀ q, X q → q < base) := hXb
    have TY0 : Hid (tyL vs ∧ len vs = ns.length) := ⟨hty, hlen⟩
    have x0 := (hE.cells.ex N.out).cell
    clear hR hE ih hsm hlm hzm hzk hz8 hba hok hcs huq hpl hXb hty hlen hQ hB hM hbok hzt
    obtain ⟨x0, x1, x2, x3⟩ := x0
    go_enter Tryz.func23, Tryz.ntmps23
    go_wp2_with fail
    clear x0 x1 x2 x3
    go_loopw [5, 6] (fun i _ wr => ∃ (j : Nat) (nj : List ByteArray) (vj : F) (nvj vvj : Value) (bad : Bool), j ≤ blen b ∧ i = .int .i64 j ∧ EnvAt wr base B X (.slice la l.length lc) nj vj bad nvj vvj ∧ tyL vj ∧ len vj = nj.length ∧ nj.length ≤ ns.length + 60 * j ∧ (bad = true → R = none) ∧ (bad = false → nj = nsAt ns b j ∧ envV call (bodyV call d) (envOf ns vs) b j = some (envOf nj vj)) ∧ Gone w B nv vv nvj vvj ∧ FrS (Own3 B nv vv) (w.alloc (.cells #[.slice ba (blen b) bc, .slice za (tlen z) zc] 59)) wr) (fun i _ _ => blen b - (intOf i).toNat)
    case atStart => exact ⟨0, ns, vs, nv, vv, false, by omega, rfl, E0.out.fr (Fr.of_ex N.out B) (E0.out.cells.ex N.out), TY0.out.1, TY0.out.2, by omega, fun h => (by cases h), fun _ => ⟨rfl, rfl⟩, fun k hk => Or.inl hk, FrS.refl _ _⟩
    case round =>
      obtain ⟨j, nj, vj, nvj, vvj, bad, hj, rfl, hEj, htj, hlj, hnl, hbd, hgd, hgo, hfr⟩ := hrel
      have EJ : Hid (EnvAt wr base B X (.slice la l.length lc) nj vj bad nvj vvj) := hEj
      have FR : Hid (FrS (Own3 B nv vv) (w.alloc (.cells #[.slice ba (blen b) bc, .slice za (tlen z) zc] 59)) wr) := hfr
      have TYJ : Hid (tyL vj ∧ len vj = nj.length) := ⟨htj, hlj⟩
      have GOJ : Hid (Gone w B nv vv nvj vvj) := hgo
      have NLJ : Hid (nj.length ≤ ns.length + 60 * j) := hnl
      have n6 : nj.length ≤ 1000000 := by omega
      obtain ⟨bx0, bx1⟩ := BX.out wr hfr
      obtain ⟨x0, x1, x2, x3⟩ := hEj.cells.cell
      have zB : B < wr.heap.size := World.block_lt_of_cell? _ _ x0
      have zw : w.heap.size < wr.heap.size := World.block_lt_of_cell? _ _ bx0
      have TT : Hid (Calls Tryz.prog 52 #[.pointer (some ⟨B, 0, none⟩), .slice za (tlen z) zc] wr (SpR B (fun b => Out3 X B nvj vvj b ∧ b < wr.heap.size) (.slice la l.length lc) nvj vvj (tlen z) (if bad = true then none else evL (envOf nj vj) z) wr)) := hEj.terms htj hlj (by omega) (nsAt ns b (blen b)) z ZK.out.2.2 ZK.out.1 ZK.out.2.1 (by omega) za zc (MM.out wr hfr)
      have XW : Hid (∀ b, X b → b < w.heap.size) := fun q hq => by have := XB.out q hq; have := BW.out.1; omega
      have HBD : Hid _ := hbd
      have HGD : Hid _ := hgd
      clear hEj hfr htj hlj hgo hnl hbd hgd
      cases bad with
      | true =>
        have HRn : Hid (R = none) := HBD.out rfl
        have FIN : Hid (∀ e w', SpR B (fun b => Out3 X B nvj vvj b ∧ b < wr.heap.size) (.slice la l.length lc) nvj vvj (tlen z) (if true = true then none else evL (envOf nj vj) z) wr e w' → SbP B X (.slice la l.length lc) nv vv R w e w') := fun e w' h => by rw [HRn.out]; exact SbP.mk XW.out FR.out h
        by_cases hlt : j < blen b
        · have e1 : decide ((j : Int) < (blen b : Int)) = true := decide_eq_true (by omega)
          go_wp2_with fail
          refine Calls.mono TT.out ?_
          rintro e w3 h3
          have h4 := FIN.out e w3 h3
          obtain ⟨r, a3, c3, nv3, vv3, rfl, h5⟩ := h4
          have H5 : Hid _ := h5
          clear h3 h5
          go_wp2_with fail
          exact bodyPost_ret (v := .slice a3 (len r) c3) (by simp [results, Tryz.results23, go_sem]) rfl ⟨r, a3, c3, nv3, vv3, rfl, H5.out⟩
        · have e1 : decide ((j : Int) < (blen b : Int)) = false := decide_eq_false (by omega)
          go_wp2_with fail
          refine Calls.mono TT.out ?_
          rintro e w3 h3
          have h4 := FIN.out e w3 h3
          obtain ⟨r, a3, c3, nv3, vv3, rfl, h5⟩ := h4
          have H5 : Hid _ := h5
          clear h3 h5
          go_wp2_with fail
          exact bodyPost_ret (v := .slice a3 (len r) c3) (by simp [results, Tryz.results23, go_sem]) rfl ⟨r, a3, c3, nv3, vv3, rfl, H5.out⟩
      | false =>
        by_cases hlt : j < blen b
        · have e1 : decide ((j : Int) < (blen b : Int)) = true := decide_eq_true (by omega)
          obtain ⟨bb, o, rfl, hbS, hbs, hk⟩ := BS_at (BB.out wr FR.out) (by omega)
          obtain ⟨b0, ⟨a1, k1, b1, hnc, q1⟩, b2, ⟨a3, k3, b3, q3⟩, ⟨a4, k4, b4, q4⟩, ⟨a5, k5, b5, q5⟩, ⟨a6, k6, b6, q6⟩, ⟨a7, k7, b7, q7⟩⟩ := hk j hlt
          obtain ⟨s1, s2, s3, s4, s5, s6, s7, s8⟩ := BSm_at SM.out.1 j hlt
          obtain ⟨t1, t2, t3⟩ := BSm_terms SM.out.1 j hlt
          obtain ⟨l1, l2, l3, l4, l5, l6, l7, l8, l9, la', lb', lc', ld'⟩ := BLm_at SM.out.2 j hlt
          obtain ⟨hn60, htt, _, hkind⟩ := bindB_yes (BA0.out j hlt)
          obtain ⟨ht60, hk8⟩ := termsB_kids htt
          obtain ⟨hnj, hev⟩ := HGD.out rfl
          have tyJ : tyE (envOf nj vj) := tyE_of TYJ.out.1 TYJ.out.2
          have BTY : Hid (∀ lv, bindV call (bodyV call d) (envOf nj vj) b j = some lv → tyL lv ∧ len lv = (bnames b j).length) := fun lv h => bind_ty OK.out (body_ty OK.out d) (BA0.out j hlt) tyJ h
          have NJ : Hid (nj = nsAt ns b j ∧ envV call (bodyV call d) (envOf ns vs) b j = some (envOf nj vj)) := ⟨hnj, hev⟩
          have BN : Hid (bindV call (bodyV call d) (envOf nj vj) b j = none → R = none) := fun h => RR.out.trans (body_none hlt hev h)
          have z8 : base ≤ wr.heap.size := by have := BW.out.1; omega
          have SB : Hid (Calls Tryz.prog 51 #[.pointer (some ⟨B, 0, none⟩), .agg #[.int .i64 (bkind b j), .slice a1 (bnames b j).length k1, .string (bfn b j), .slice a3 (tlen (bterms b j)) k3, .slice a4 (blen (bthen b j)) k4, .slice a5 (tlen (btsay b j)) k5, .slice a6 (blen (belse b j)) k6, .slice a7 (tlen (besay b j)) k7]] wr (SbdP base B X (.slice la l.length lc) nj vj nvj vvj (bindV call (bodyV call d) (envOf nj vj) b j) wr)) := by
            have LOWR : ∀ (base' : Nat) (w' : World), base ≤ base' → (∀ k, k < base → w'.heap[k]? = wr.heap[k]?) → QS w' (fun b => b < base') l la ∧ BS w' (fun b => b < base') (bthen b j) a4 ∧ MS w' (fun b => b < base') (btsay b j) a5 ∧ BS w' (fun b => b < base') (belse b j) a6 ∧ MS w' (fun b => b < base') (besay b j) a7 := fun base' w' hb' hk' => by
              have ks : Ks (fun b => b < base) wr w' := fun k hk1 _ => hk' k hk1
              have up : ∀ q, q < w'.heap.size → q < base → q < base' := fun q _ h => Nat.lt_of_lt_of_le h hb'
              exact ⟨QS_mono (QS_ks (Q.out wr FR.out) ks) up, BS_mono (BS_ks q4 ks) up, MS_mono (MS_ks q5 ks) up, BS_mono (BS_ks q6 ks) up, MS_mono (MS_ks q7 ks) up⟩
            refine sbind_by base B X (.slice la l.length lc) la l lc rfl nj vj nvj vvj _ _ a1 k1 _ _ a3 k3 _ a4 k4 _ a5 k5 _ a6 k6 _ a7 k7 (nsAt ns b j) (fun lv => kindV call (bodyV call d) (envOf nj vj) (bkind b j) (bfn b j) (bthen b j) (btsay b j) (belse b j) (besay b j) lv) wr EJ.out z8 TYJ.out.1 TYJ.out.2 n6 hk8 t1 l5 (by omega) q3 XB.out hl PL.out (Q.out wr FR.out) ?_
            intro lv hlv
            have hlen := evL_len hlv
            have htyl := ev_ty tyJ _ 8 _ hk8 lv hlv
            rcases hkind with ⟨hk1, _, _⟩ | ⟨hk2, ha1, ha2, _⟩ | ⟨hk3, ht1, hr1, hr2, _, _⟩
            · exact Or.inl ⟨hk1, by show kindV _ _ _ _ _ _ _ _ _ _ = _; rw [hk1]; rfl⟩
            · obtain ⟨q, hq1, hq2, hq3, hq4⟩ := arity_find hm ha1
              rw [hq4] at ha2
              refine Or.inr (Or.inl ⟨hk2, q, by omega, fun i hi hne => UQ.out q i (bfn b j).toList hq1 hi hne hq2, hq2, fun a2 c2 a9 c9 hb9 hm9 => ?_⟩)
              have e9 : kindV call (bodyV call d) (envOf nj vj) (bkind b j) (bfn b j) (bthen b j) (btsay b j) (belse b j) (besay b j) lv = call (bfn b j) lv := by unfold kindV; rw [if_pos hk2]
              show BodyAt _ _ _ _ _ _ _ (kindV _ _ _ _ _ _ _ _ _ _)
              rw [e9]
              exact CS.out q (bfn b j) lv hq1 hq2 (hlen.trans ha2.symm) htyl wr base _ a2 c2 a9 c9 z8 (Q.out wr FR.out) hb9 hm9
            · have e3 : kindV call (bodyV call d) (envOf nj vj) (bkind b j) (bfn b j) (bthen b j) (btsay b j) (belse b j) (besay b j) lv = (if len (kid lv 0) = 0 then (if num lv 0 = 0 then bodyV call d (envOf nj vj) (belse b j) (besay b j) else bodyV call d (envOf nj vj) (bthen b j) (btsay b j)) else none) := by
                unfold kindV; rw [if_neg (by omega), if_pos hk3]
              refine Or.inr (Or.inr ⟨hk3, by omega, bodyV call d (envOf nj vj) (bthen b j) (btsay b j), bodyV call d (envOf nj vj) (belse b j) (besay b j), e3, ?_, ?_⟩)
              · intro base' B' nv' vv' w' hbb hbw' hX' hE' hk' hsz
                obtain ⟨r1, r2, r3, _, _⟩ := LOWR base' w' hbb hk'
                exact I.out base' B' _ nj vj nv' vv' _ a4 k4 _ a5 k5 w' (by omega) hbw' hX' hE' r1 (by rw [hnj]; exact hr1) TYJ.out.1 TYJ.out.2 (by have := NLJ.out; omega) s4 l7 t2 l9 r2 r3
              · intro base' B' nv' vv' w' hbb hbw' hX' hE' hk' hsz
                obtain ⟨r1, _, _, r2, r3⟩ := LOWR base' w' hbb hk'
                exact I.out base' B' _ nj vj nv' vv' _ a6 k6 _ a7 k7 w' (by omega) hbw' hX' hE' r1 (by rw [hnj]; exact hr2) TYJ.out.1 TYJ.out.2 (by have := NLJ.out; omega) s7 lb' t3 ld' r2 r3
          have HX1 : Hid (XS wr (fun b => b < base) (bnames b j) a1 ∧ (bnames b j).length ≤ 60) := ⟨q1, hn60⟩
          have HBB : Hid (bb < base) := hbS
          have B1 : Hid (wr.cell? ⟨bb, o + j * 8 + 1, none⟩ = some (.slice a1 (bnames b j).length k1)) := b1
          have JL : Hid (j < blen b ∧ blen b ≤ 400) := ⟨hlt, hb4⟩
          clear hk q1 q3 q4 q5 q6 q7 s1 s2 s3 s4 s5 s6 s7 s8 t1 t2 t3 l1 l2 l3 l4 l5 l6 l7 l8 l9 la' lb' lc' ld' hn60 htt hkind ht60 hk8 hnj hev tyJ hnc hbS TT
          go_wp2_with fail
          refine Calls.mono SB.out ?_
          rintro e w3 ⟨r, a9, k9, rfl, hrv, hV9, hE3, hF3⟩
          have E3 : Hid _ := hE3
          have F3 : Hid (Fr B wr w3) := hF3
          have V9 : Hid _ := hV9
          have RV9 : Hid _ := hrv
          have FR3 : Hid (FrS (Own3 B nv vv) _ w3) := FR.out.trans ⟨hF3.os, hF3.tape, hF3.output, hF3.size, fun k hk hn => hF3.block k hk fun e => hn (Or.inl e)⟩
          clear x0 x1 x2 x3 bx0 bx1 b0 b1 b2 b3 b4 b5 b6 b7
          obtain ⟨bx0, bx1⟩ := BX.out w3 FR3.out
          have b1 := hF3.at (by show bb ≠ B; have := HBB.out; have := BW.out.2.2; omega) B1.out
          obtain ⟨rr, hrr⟩ : ∃ rr, rr = bindV call (bodyV call d) (envOf nj vj) b j := ⟨_, rfl⟩
          have HRR : Hid (bindV call (bodyV call d) (envOf nj vj) b j = rr) := hrr.symm
          rw [← hrr] at E3 RV9 BTY BN hE3
          clear hrv hV9 hrr
          obtain ⟨x0, x1, x2, x3⟩ := hE3.cells.cell
          clear hE3 hF3
          have zB3 : B < w3.heap.size := World.block_lt_of_cell? _ _ x0
          have zw3 : w.heap.size < w3.heap.size := World.block_lt_of_cell? _ _ bx0
          have zb3 : bb < w3.heap.size := World.block_lt_of_cell? _ _ b1
          cases rr with
          | none =>
            simp only [Option.isNone_none] at x3
            have HRn : Hid (R = none) := BN.out rfl
            go_wp2_with fail
            go_roundw
            case rel => exact ⟨j + 1, nj, vj, nvj, vvj, true, by have := JL.out.1; omega, by go_num, E3.out, TYJ.out.1, TYJ.out.2, by have := NLJ.out; omega, fun _ => HRn.out, fun h => (by cases h), GOJ.out, FR3.out⟩
            case measure => have := JL.out.1; simp [intOf]; omega
          | some lv =>
            simp only [Option.isNone_some] at x3
            obtain ⟨tlv, nlv⟩ := BTY.out lv rfl
            have elv : lv = r := RV9.out lv rfl
            subst elv
            obtain ⟨na, nc, rfl, _⟩ := XS_own E3.out.names
            obtain ⟨va, vc, rfl, _⟩ := E3.out.vals.top
            have HN : Hid (∀ w', Ex w3 w' → w'.ownsRow base 9 1 (.slice na nj.length nc) nj.length (nj.map Value.string)) := fun w' h => row_ex E3.out.names h
            have HXB : Hid (∀ w', Ex w3 w' → XA w' 0 (bnames b j) a1) := fun w' h => XS_mono (XS_ks HX1.out.1 fun k hk hk2 => (h.block k (Nat.lt_of_lt_of_le hk2 F3.out.size)).trans (F3.out.block k hk2 fun e => by have : k < base := hk; have := BW.out.2.2; omega)) fun _ _ _ => Nat.zero_le _
            have h63 : nj.length + (bnames b j).length ≤ 1000000 := by have := HX1.out.2; have := NLJ.out; have := JL.out; omega
            have h63v : len vj + len lv ≤ 1000000 := by have := HX1.out.2; have := NLJ.out; have := JL.out; have := TYJ.out.2; omega
            have TLV : Hid (tyL lv ∧ len lv = (bnames b j).length) := ⟨tlv, nlv⟩
            have hb3 : base ≤ w3.heap.size := by have := BW.out.2.2; omega
            have E3C : Hid (EB w3 B (.slice la l.length lc) (.slice na nj.length nc) (.slice va (len vj) vc) false) := E3.out.cells
            clear tlv nlv
            go_wp2_with fail
            go_region_law (refine step_of_wp rfl (wp_names (.tmp 37) (.tmp 43) rfl base hb3 (.slice na nj.length nc) nj rfl (HN.out _ (Ex.refl _).drew) (bnames b j) a1 k1 rfl (HXB.out _ (Ex.refl _).drew) h63 ?_); intro v' wn g1 g2 g3; generalize hNL : nj ++ bnames b j = NL at g1; obtain ⟨na2, nc2, rfl, _⟩ := XS_own g1; have HNL : Hid (NL = nj ++ bnames b j) := hNL.symm; clear hNL; have hbn : EB wn B (.slice la l.length lc) (.slice na nj.length nc) (.slice va (len vj) vc) false := (g2.block B zB3 (fun e => E3.out.nB e.symm)).trans E3C.out; have y1 := hbn.cell.2.1; have fr1 : wn.frozen? ⟨B, 1, none⟩ = false := (by have h := hbn; unfold EB at h; simp [World.frozen?, h]); have zBn : B < wn.heap.size := lt_of_block hbn)
            all_goals
              obtain ⟨w4, hw4⟩ : ∃ w4, w4 = wn.setCell ⟨B, 1, none⟩ (.slice na2 NL.length nc2) := ⟨_, rfl⟩
              rw [← hw4]
              have EB4 : EB w4 B (.slice la l.length lc) (.slice na2 NL.length nc2) (.slice va (len vj) vc) false := hw4 ▸ hbn.nm
              have z4 : w4.heap.size = wn.heap.size := hw4 ▸ (by simp [World.setCell])
              have z3n : w3.heap.size ≤ wn.heap.size := g2.size
              -- what stays from the binding on
              have h4 : ∀ q, q < w3.heap.size → q ≠ B → (Value.slice na nj.length nc).ownBlock ≠ some q → w4.heap[q]? = w3.heap[q]? := fun q hq hne ho => hw4 ▸ ((Below.heap_setCell _ _ _ _ hne).trans (g2.block q hq fun e => ho e.symm))
              have N4 : w4.ownsRow base 9 1 (.slice na2 NL.length nc2) NL.length (NL.map Value.string) := row_fr g1 fun g hg => hw4 ▸ Below.heap_setCell _ _ _ _ fun e => by
                have e2 : g = B := e
                rcases g3.own hg with h | h
                · exact E3.out.nB (e2 ▸ h)
                · have : w3.drew.heap.size = w3.heap.size := rfl
                  omega
              have V4 : RV w4 base (fun q => Out3 X B (.slice na nj.length nc) (.slice va (len vj) vc) q ∧ q < w3.heap.size) (.slice va (len vj) vc) vj := (E3.out.vals.mono fun q hl hs => ⟨hs, hl⟩).keep (fun g hg => h4 g (RV.own E3.out.vals g hg).2 (fun e => E3.out.vB (e ▸ hg)) fun e => E3.out.nv g e hg) fun q _ hs => h4 q hs.2 (fun e => hs.1.2 (Or.inl e)) fun e => hs.1.2 (Or.inr (Or.inl e))
              have V94 : VTop w4 (fun q => wr.heap.size ≤ q) (fun q => Out3 X B (.slice na nj.length nc) (.slice va (len vj) vc) q ∧ q < w3.heap.size) lv a9 := VTop_keep (VTop_mono V9.out (fun _ _ h => h) fun q hl hs => ⟨hs, hl⟩) (by omega) fun q hl hq => h4 q hl (fun e => by
                rcases hq with h | h
                · have := BW.out.2.1; subst e; have h2 : wr.heap.size ≤ q := h; omega
                · exact h.1.2 (Or.inl e)) fun e => by
                rcases hq with h | h
                · have := (EJ.out.names.lt q e).2; have h2 : wr.heap.size ≤ q := h; omega
                · exact h.1.2 (Or.inr (Or.inl e))
              have FR4 : Hid (FrS (Own3 B (.slice na nj.length nc) (.slice va (len vj) vc)) w3 w4) := by
                refine ⟨?_, ?_, ?_, by omega, fun q hq hn => h4 q hq (fun e => hn (Or.inl e)) fun e => hn (Or.inr (Or.inl e))⟩
                · rw [hw4]; exact g2.os
                · rw [hw4]; exact g2.tape
                · rw [hw4]; exact g2.output
              have G3 : Hid _ := g3
              clear hbn y1 fr1 zBn hw4 g1 g2 g3 x0 x1 x2 x3
              obtain ⟨x0, x1, x2, x3⟩ := EB4.cell
              have zB4 : B < w4.heap.size := World.block_lt_of_cell? _ _ x0
              have HEB4 : Hid _ := EB4
              have HN4 : Hid _ := N4
              have H4 : Hid _ := h4
              have HZ4 : Hid (w3.heap.size ≤ w4.heap.size) := by show _ ≤ _; omega
              clear EB4 N4 h4
              go_wp2_with (at_builtin; refine wpList_plain rfl fun K hK => ?_; refine wp_vals (.tmp 51) (.tmp 52) rfl base (by have := HZ4.out; omega) (.slice va (len vj) vc) vj _ rfl V4 (fun q hs e => hs.1.2 (Or.inr (Or.inr e))) lv a9 k9 _ rfl V94 h63v ?_)
              intro v'' wv j1 j2 j3
              obtain ⟨va2, vc2, rfl, _⟩ := RV.top j1
              refine hK _ _ ?_
              have own4 : ∀ g, (Value.slice va (len vj) vc).ownBlock = some g → g < w4.heap.size ∧ g < w3.heap.size := fun g hg => ⟨(RV.own V4 g hg).2, (RV.own E3.out.vals g hg).2⟩
              have hbv : EB wv B (.slice la l.length lc) (.slice na2 NL.length nc2) (.slice va (len vj) vc) false := (j2.block B zB4 (fun e => E3.out.vB e.symm)).trans HEB4.out
              have fr2 : wv.frozen? ⟨B, 2, none⟩ = false := by have h := hbv; unfold EB at h; simp [World.frozen?, h]
              clear x0 x1 x2 x3
              obtain ⟨x0, x1, x2, x3⟩ := hbv.cell
              have zBv : B < wv.heap.size := World.block_lt_of_cell? _ _ x0
              have HBV : Hid _ := hbv
              have J1 : Hid _ := j1
              have J2 : Hid _ := j2
              have J3 : Hid _ := j3
              have O4 : Hid _ := own4
              clear hbv j1 j2 j3 own4 V4 V94
              go_wp2_with fail
              go_roundw
              case rel =>
                have hset : ∀ q, q ≠ B → (wv.setCell ⟨B, 2, none⟩ (.slice va2 (len (catF vj lv (len lv))) vc2)).heap[q]? = wv.heap[q]? := fun q hne => Below.heap_setCell _ _ _ _ hne
                have gB : (Value.slice na2 NL.length nc2).ownBlock ≠ some B := fun e => by
                  rcases Moved.own G3.out e with h | h
                  · exact E3.out.nB h
                  · have : w3.drew.heap.size = w3.heap.size := rfl
                    omega
                have vB : (Value.slice va2 (len (catF vj lv (len lv))) vc2).ownBlock ≠ some B := fun e => by
                  rcases Moved.own J3.out e with h | h
                  · exact E3.out.vB h
                  · omega
                have nvne : ∀ g, (Value.slice na2 NL.length nc2).ownBlock = some g → (Value.slice va2 (len (catF vj lv (len lv))) vc2).ownBlock ≠ some g := fun g hg e => by
                  have hgl := (World.ownsRow.lt HN4.out g hg).2
                  rcases Moved.own J3.out e with h | h
                  · rcases Moved.own G3.out hg with h2 | h2
                    · exact E3.out.nv g h2 h
                    · have : w3.drew.heap.size = w3.heap.size := rfl
                      have := (O4.out g h).2
                      omega
                  · omega
                refine ⟨j + 1, NL, catF vj lv (len lv), _, _, false, by have := JL.out.1; omega, by go_num, ⟨EB.vl HBV.out, E3.out.lo, ?_, ?_, gB, vB, nvne⟩, tyL_cat TYJ.out.1 TLV.out.1 _ (Nat.le_refl _), by rw [catF_len, HNL.out, List.length_append]; have := TYJ.out.2; have := TLV.out.2; omega, by rw [HNL.out, List.length_append]; have := NLJ.out; have := HX1.out.2; omega, fun h => (by cases h), fun _ => ⟨?_, ?_⟩, ?_, ?_⟩
                · exact row_fr HN4.out fun g hg => (hset g fun e => gB (e ▸ hg)).trans (J2.out.block g (World.ownsRow.lt HN4.out g hg).2 fun e => by
                    have h := e.symm
                    rcases Moved.own G3.out hg with h2 | h2
                    · exact E3.out.nv g h2 h
                    · have : w3.drew.heap.size = w3.heap.size := rfl
                      have := (O4.out g h).2
                      omega)
                · refine RV.keep (RV.mono J1.out fun q hl hs => ?_) (fun g hg => hset g fun e => vB (e ▸ hg)) fun q _ hs => hset q fun e => hs.2 (Or.inl e)
                  refine ⟨hs.1.1.1, fun h => ?_⟩
                  rcases h with h | h | h
                  · exact hs.1.1.2 (Or.inl h)
                  · rcases Moved.own G3.out h with h2 | h2
                    · exact hs.1.1.2 (Or.inr (Or.inl h2))
                    · have : w3.drew.heap.size = w3.heap.size := rfl
                      have := hs.1.2
                      omega
                  · exact hs.2 h
                · rw [HNL.out, NJ.out.1]; rfl
                · have e1 := NJ.out.2
                  have e2 := HRR.out
                  have hnj := NJ.out.1
                  rw [hnj] at e1 e2
                  have h5 := envV_names e1 e2 (by rw [TYJ.out.2, hnj]) TLV.out.2
                  rw [h5, HNL.out, hnj]; rfl
                · intro k hk
                  rcases hk with h | h | h
                  · exact Or.inl (Or.inl h)
                  · rcases Moved.own G3.out h with h2 | h2
                    · exact GOJ.out k (Or.inr (Or.inl h2))
                    · have : w3.drew.heap.size = w3.heap.size := rfl
                      exact Or.inr (by omega)
                  · rcases Moved.own J3.out h with h2 | h2
                    · exact GOJ.out k (Or.inr (Or.inr h2))
                    · have := HZ4.out; exact Or.inr (by omega)
                · refine FR3.out.out (T := Own3 B (.slice na nj.length nc) (.slice va (len vj) vc)) ⟨J2.out.os.trans FR4.out.os, J2.out.tape.trans FR4.out.tape, J2.out.output.trans FR4.out.output, ?_, fun k hk hn => ?_⟩ fun k hk ho => ?_
                  · have h1 := J2.out.size
                    have h2 := HZ4.out
                    have h3 : (wv.setCell ⟨B, 2, none⟩ (.slice va2 (len (catF vj lv (len lv))) vc2)).heap.size = wv.heap.size := by simp [World.setCell]
                    omega
                  · exact (hset k fun e => hn (Or.inl e)).trans ((J2.out.block k (Nat.lt_of_lt_of_le hk HZ4.out) fun e => hn (Or.inr (Or.inr e.symm))).trans (FR4.out.block k hk hn))
                  · rcases GOJ.out k ho with h | h
                    · exact h
                    · rw [World.size_alloc] at hk
                      omega
              case measure => have := JL.out.1; simp [intOf]; omega
        · have e1 : decide ((j : Int) < (blen b : Int)) = false := decide_eq_false (by omega)
          obtain ⟨hnj, hev⟩ := HGD.out rfl
          have hje : j = blen b := by omega
          have HR : Hid (R = evL (envOf nj vj) z) := by
            show _ = _
            rw [RR.out, bodyV, ← hje, hev]; rfl
          have FIN : Hid (∀ e w', SpR B (fun b => Out3 X B nvj vvj b ∧ b < wr.heap.size) (.slice la l.length lc) nvj vvj (tlen z) (if false = true then none else evL (envOf nj vj) z) wr e w' → SbP B X (.slice la l.length lc) nv vv R w e w') := fun e w' h => by rw [HR.out]; exact SbP.mk XW.out FR.out h
          clear hje hev hnj
          go_wp2_with fail
          refine Calls.mono TT.out ?_
          rintro e w3 h3
          have h4 := FIN.out e w3 h3
          obtain ⟨r, a3, c3, nv3, vv3, rfl, h5⟩ := h4
          have H5 : Hid _ := h5
          clear h3 h5
          go_wp2_with fail
          exact bodyPost_ret (v := .slice a3 (len r) c3) (by simp [results, Tryz.results23, go_sem]) rfl ⟨r, a3, c3, nv3, vv3, rfl, H5.out⟩

end Go.Proofs.YtldbmlojgakieaaGreatDoor

namespace Go.Proofs.YtldbmlojgakieaaGreatDoor

open Go.RowKit Go.Deep Go.Maps Go.WideMaps

attribute [local go_sem ↓] Go.wp_at_zero Go.wp_at_succ

/-- All of a function is of a size that can be counted. -/
def FSz (f : PM) : Prop := XLm f.params ∧ BSm f.binds ∧ BLm f.binds ∧ TSm f.says ∧ TLm f.says

set_option maxRecDepth 100000 in
set_option maxHeartbeats 4000000 in
theorem callPure_by (eb : Addr) (l : List PM) (la : Option Addr) (lc i : Nat) (hi : i < l.length) (hl : l.length ≤ 1000000000) (call : Call) (hok : okCall (l.take i) call) (hcs : CallsOk eb l la lc i call) (hp : pureAt l i = true) (hz : FSz (l.getD i pm0)) (v : F) (hv : len v = (l.getD i pm0).params.length) (ht : tyL v) (S : Nat → Prop) (w : World) (hG : w.cell? ⟨1, 0, none⟩ = some (EV eb)) (hQ : QA w 0 l la) :
    GoOn eb S l la lc w (fnV l call i v) (l.getD i pm0) v := by
  intro w1 a1 k1 a2 k2 a3 k3 a' c' hx hX hB hM hV
  obtain ⟨_, _, h60, hbok, _⟩ := pureAt_yes hp
  obtain ⟨z1, z2, z3, z4, z5⟩ := hz
  have BO : Hid (∀ mn' w', mn' + 150000 ≤ 200000 → EM w' (fun q => (S q ∨ w.heap.size ≤ q) ∧ q < w1.heap.size) (w1.heap.size + 1) mn' (setAllE noE (l.getD i pm0).params v (l.getD i pm0).params.length) → Ex w1 w' → Calls Tryz.prog 80 #[.agg #[.slice la l.length lc, .map (some (w1.heap.size + 1))], .agg #[.slice a2 (blen (l.getD i pm0).binds) k2, .slice a3 (tlen (l.getD i pm0).says) k3]] w' (RowP eb (fun q => (S q ∨ w.heap.size ≤ q) ∧ q < w1.heap.size) (fnV l call i v) w')) := fun mn' w' hmn hE h => vbody_any eb l la lc i (by omega) hl call hok hcs 6 _ mn' (fun q => (S q ∨ w.heap.size ≤ q) ∧ q < w1.heap.size) _ _ _ a2 k2 _ a3 k3 w' (by omega) (by omega) hbok (tyE_all tyE_no ht _ (by omega)) z2 z3 z4 z5 ((hx.trans h).at hG) hE (fun q hq => Nat.lt_of_lt_of_le hq.2 h.size) (QA_below hQ (hx.trans h)) (BA_below hB h) (MA_below hM h)
  obtain ⟨R, hR⟩ : ∃ R, R = fnV l call i v := ⟨_, rfl⟩
  rw [← hR] at BO ⊢
  obtain ⟨f, hf⟩ : ∃ f, f = l.getD i pm0 := ⟨_, rfl⟩
  rw [← hf] at BO hv z1 h60 hX hB hM ⊢
  have NV0 : Hid (Ex w1 (((w1.alloc (.cells #[.string f.name, .slice a1 f.params.length k1, .slice a2 (blen f.binds) k2, .slice a3 (tlen f.says) k3] 61)).alloc (.map #[] 0)).alloc (.cells #[.slice la l.length lc, .map (some (w1.heap.size + 1))] 137))) := ((Ex.new _ _).alloc _).alloc _
  have ZV : Hid ((((w1.alloc (.cells #[.string f.name, .slice a1 f.params.length k1, .slice a2 (blen f.binds) k2, .slice a3 (tlen f.says) k3] 61)).alloc (.map #[] 0)).alloc (.cells #[.slice la l.length lc, .map (some (w1.heap.size + 1))] 137)).heap.size = w1.heap.size + 3) := by
    show _ = _
    simp only [World.size_alloc]
  have XN : Hid (∀ w', Fr (w1.heap.size + 1) (((w1.alloc (.cells #[.string f.name, .slice a1 f.params.length k1, .slice a2 (blen f.binds) k2, .slice a3 (tlen f.says) k3] 61)).alloc (.map #[] 0)).alloc (.cells #[.slice la l.length lc, .map (some (w1.heap.size + 1))] 137)) w' → XA w' 0 f.params a1) := fun w' h => XS_mono (XS_ks (XS_mono (S' := fun b => b < w1.heap.size) hX fun b hb _ => hb) fun b hb _ => (h.block b (by have := ZV.out; have : b < w1.heap.size := hb; omega) (by have : b < w1.heap.size := hb; omega)).trans (NV0.out.block b hb)) fun _ _ _ => Nat.zero_le _
  have VN : Hid (∀ w', Ex w1 w' → VS w' (fun q => (S q ∨ w.heap.size ≤ q) ∧ q < w1.heap.size) v a') := fun w' h => VS_ex (VS_mono hV fun b hb hs => ⟨hs, hb⟩) h
  have E0 : Hid (EM (((w1.alloc (.cells #[.string f.name, .slice a1 f.params.length k1, .slice a2 (blen f.binds) k2, .slice a3 (tlen f.says) k3] 61)).alloc (.map #[] 0)).alloc (.cells #[.slice la l.length lc, .map (some (w1.heap.size + 1))] 137)) (fun q => (S q ∨ w.heap.size ≤ q) ∧ q < w1.heap.size) (w1.heap.size + 1) 0 noE) := by
    have h := (EM_made (w1.alloc (.cells #[.string f.name, .slice a1 f.params.length k1, .slice a2 (blen f.binds) k2, .slice a3 (tlen f.says) k3] 61)) (fun q => (S q ∨ w.heap.size ≤ q) ∧ q < w1.heap.size)).ex (Ex.new _ (.cells #[.slice la l.length lc, .map (some (w1.heap.size + 1))] 137))
    rw [World.size_alloc] at h; exact h
  have BE : Hid (Calls Tryz.prog 79 #[.map (some (w1.heap.size + 1)), .slice a1 f.params.length k1, .slice a' (len v) c'] (((w1.alloc (.cells #[.string f.name, .slice a1 f.params.length k1, .slice a2 (blen f.binds) k2, .slice a3 (tlen f.says) k3] 61)).alloc (.map #[] 0)).alloc (.cells #[.slice la l.length lc, .map (some (w1.heap.size + 1))] 137)) (BdV (fun q => (S q ∨ w.heap.size ≤ q) ∧ q < w1.heap.size) (w1.heap.size + 1) 0 noE f.params v (((w1.alloc (.cells #[.string f.name, .slice a1 f.params.length k1, .slice a2 (blen f.binds) k2, .slice a3 (tlen f.says) k3] 61)).alloc (.map #[] 0)).alloc (.cells #[.slice la l.length lc, .map (some (w1.heap.size + 1))] 137)))) := bindEachV_any (fun q => (S q ∨ w.heap.size ≤ q) ∧ q < w1.heap.size) (w1.heap.size + 1) 0 noE f.params a1 k1 v a' c' _ E0.out (fun h => by have := h.2; omega) XN.out z1 (VN.out _ NV0.out) hv.symm (by omega)
  have LP : Hid (f.params.length ≤ 60) := h60
  have C : Hid (∀ w', Fr (w1.heap.size + 1) (((w1.alloc (.cells #[.string f.name, .slice a1 f.params.length k1, .slice a2 (blen f.binds) k2, .slice a3 (tlen f.says) k3] 61)).alloc (.map #[] 0)).alloc (.cells #[.slice la l.length lc, .map (some (w1.heap.size + 1))] 137)) w' → w'.cell? ⟨w1.heap.size, 0, none⟩ = some (.string f.name) ∧ w'.cell? ⟨w1.heap.size, 1, none⟩ = some (.slice a1 f.params.length k1) ∧ w'.cell? ⟨w1.heap.size, 2, none⟩ = some (.slice a2 (blen f.binds) k2) ∧ w'.cell? ⟨w1.heap.size, 3, none⟩ = some (.slice a3 (tlen f.says) k3) ∧ w'.cell? ⟨w1.heap.size + 2, 0, none⟩ = some (.slice la l.length lc) ∧ w'.cell? ⟨w1.heap.size + 2, 1, none⟩ = some (.map (some (w1.heap.size + 1)))) := fun w' h => ⟨h.at (by show w1.heap.size ≠ _; omega) (((Ex.new _ _).alloc _).at (by simp)), h.at (by show w1.heap.size ≠ _; omega) (((Ex.new _ _).alloc _).at (by simp)), h.at (by show w1.heap.size ≠ _; omega) (((Ex.new _ _).alloc _).at (by simp)), h.at (by show w1.heap.size ≠ _; omega) (((Ex.new _ _).alloc _).at (by simp)), h.at (by show w1.heap.size + 2 ≠ _; omega) (blk_cell (heap_alloc_at _ _ (by simp only [World.size_alloc])) 0), h.at (by show w1.heap.size + 2 ≠ _; omega) (blk_cell (heap_alloc_at _ _ (by simp only [World.size_alloc])) 1)⟩
  have XW : Hid (Ex w w1) := hx
  have TE : Hid (∀ w', Fr (w1.heap.size + 1) (((w1.alloc (.cells #[.string f.name, .slice a1 f.params.length k1, .slice a2 (blen f.binds) k2, .slice a3 (tlen f.says) k3] 61)).alloc (.map #[] 0)).alloc (.cells #[.slice la l.length lc, .map (some (w1.heap.size + 1))] 137)) w' → Ex w1 w') := fun w' h => h.to_ex NV0.out (by omega)
  clear hR hf hX hB hM hV hx hG hQ hok hcs hp hbok z2 z3 z4 z5 ht hv h60 E0 VN XN z1
  obtain ⟨c0, c1, c2, c3, c4, c5⟩ := C.out _ (Fr.refl _ _)
  have hmm := @run_makeMap Tryz.prog
  go_enter Tryz.func58, Tryz.ntmps58
  go_wp2_with fail
  refine Calls.mono BE.out ?_
  rintro e w2 ⟨rfl, hm2, hf2⟩
  have F2 : Hid (Fr (w1.heap.size + 1) (((w1.alloc (.cells #[.string f.name, .slice a1 f.params.length k1, .slice a2 (blen f.binds) k2, .slice a3 (tlen f.says) k3] 61)).alloc (.map #[] 0)).alloc (.cells #[.slice la l.length lc, .map (some (w1.heap.size + 1))] 137)) w2) := hf2
  have M2 : Hid _ := hm2
  have X2 : Hid (Ex w1 w2) := TE.out w2 hf2
  clear c0 c1 c2 c3 c4 c5
  obtain ⟨c0, c1, c2, c3, c4, c5⟩ := C.out w2 hf2
  clear hm2 hf2 BE
  go_wp2_with fail
  refine Calls.mono (BO.out _ _ (by have := LP.out; omega) M2.out X2.out) ?_
  rintro e w3 h3
  have h4 : RowP eb (fun b => S b ∨ w.heap.size ≤ b) R w1 e w3 := RowP.up h3 X2.out fun q hq => Or.inl hq.1
  obtain ⟨a9, k9, rfl, hV9, hb9⟩ := h4
  have V9 : Hid _ := hV9
  have X9 : Hid (Ex w1 w3) := hb9
  clear h3 hV9 hb9
  go_wp2_with fail
  exact bodyPost_ret (v := .tuple #[.slice a9 (len (R.getD .nil)) k9, errV eb R.isSome]) (by simp [results, Tryz.results58, go_sem]) rfl ⟨a9, k9, rfl, V9.out, X9.out⟩

/-- Calls of functions that are ok go on as they should. -/
theorem calls_ok (eb : Addr) (l : List PM) (la : Option Addr) (lc : Nat) (hl : l.length ≤ 1000000000) (hz : ∀ i, i < l.length → FSz (l.getD i pm0)) : ∀ m, m ≤ l.length → (∀ j, j < m → pureAt l j = true) → CallsOk eb l la lc m (callV l m) := by
  intro m
  induction m using Nat.strongRecOn with
  | _ m ih =>
    intro hm hp q fn v hq hn hv ht S w hG hQ _
    have hp' : ∀ j, j < q → pureAt l j = true := fun j hj => hp j (by omega)
    rw [callV_at hn m hm hp hq]
    exact callPure_by eb l la lc q (by omega) hl (callV l q) (okCall_at q (by omega) hp') (ih q hq (by omega) hp') (hp q hq) (hz q (by omega)) v hv ht S w hG hQ

end Go.Proofs.YtldbmlojgakieaaGreatDoor

namespace Go.Proofs.YtldbmlojgakieaaGreatDoor

open Go.RowKit Go.Deep Go.Maps Go.WideMaps

theorem names_two {l : List PM} (hp : ∀ j, j < l.length → pureAt l j = true) {q j : Nat} (hq : q < l.length) (hj : j < l.length) (hne : j ≠ q) {s : ByteArray} (hs : ((l.getD q pm0).name.toList == s.toList) = true) : ((l.getD j pm0).name.toList == s.toList) = false := by
  by_cases h : q < j
  · exact names_apart hj (hp j hj) h hs
  · cases e : (l.getD j pm0).name.toList == s.toList with
    | false => rfl
    | true =>
      have := names_apart (s := s) hq (hp q hq) (show j < q by omega) e
      rw [hs] at this; cases this
theorem toList_self (s : ByteArray) (l : List UInt8) (h : (s.toList == l) = true) : s.toList = l := by simpa using h

/-- Calls of functions that are ok are run as they should, by the specification. -/
theorem scalls_ok (l : List PM) (la : Option Addr) (lc : Nat) (hl : l.length ≤ 1000000000) (hz : ∀ i, i < l.length → FSz (l.getD i pm0)) (hp : ∀ j, j < l.length → pureAt l j = true) : ∀ m, m ≤ l.length → SCalls l la lc m (callV l m) := by
  intro m
  induction m using Nat.strongRecOn with
  | _ m ih =>
    intro hm q fn v hq hn hv ht w base X a2 k2 a3 k3 hbw hQ hB hM base' B nv vv w' hbb hbw' hX hE hk hsz
    obtain ⟨_, _, h60, hbok, _⟩ := pureAt_yes (hp q (by omega))
    obtain ⟨z1, z2, z3, z4, z5⟩ := hz q (by omega)
    rw [callV_at hn m hm (fun j hj => hp j (by omega)) hq]
    unfold fnV
    rw [← envOf_all]
    exact sbody_any l la lc q (by omega) hl (fun j hj => by have := (pureAt_yes (hp j hj)).2.2.1; omega) (fun q' j fn' hq' hj hne h => by rw [← toList_self _ _ h]; exact names_two hp (by omega) hj hne (by simp)) (callV l q) (okCall_at q (by omega) fun j hj => hp j (by omega)) (ih q hq (by omega)) 6 base' B X _ v nv vv _ a2 k2 _ a3 k3 w' (by omega) hbw' hX hE (QS_mono (QS_ks hQ fun k hk2 _ => hk k hk2) fun b _ hb => by have h : b < base := hb; show b < base'; omega) hbok ht hv (by omega) z2 z3 z4 z5 (BS_mono (BS_ks hB fun k hk2 _ => hk k hk2) fun b _ hb => by have h : b < base := hb; show b < base'; omega) (MS_mono (MS_ks hM fun k hk2 _ => hk k hk2) fun b _ hb => by have h : b < base := hb; show b < base'; omega)

end Go.Proofs.YtldbmlojgakieaaGreatDoor

namespace Go.Proofs.YtldbmlojgakieaaGreatDoor

open Go.RowKit Go.Deep Go.Extern.Stop Go.Stop Go.Extern

attribute [local go_sem ↓] Go.wp_at_zero Go.wp_at_succ

theorem Tryz.noIsE (v : Value) (xT : TypeId) (w : World) : (Instr.typeAssert (.iface 233 v) xT 143 true).run Tryz.prog w = .ok (.tuple #[.nilIface, .bool false]) w := run_typeAssert_lacksB Tryz.underlying143 (by kernel_rfl) (by kernel_rfl) v xT w
theorem Tryz.noUnwrapE (v : Value) (xT : TypeId) (w : World) : (Instr.typeAssert (.iface 233 v) xT 146 true).run Tryz.prog w = .ok (.tuple #[.nilIface, .bool false]) w := run_typeAssert_lacksB Tryz.underlying146 (by kernel_rfl) (by kernel_rfl) v xT w
theorem Tryz.noUnwrapsE (v : Value) (xT : TypeId) (w : World) : (Instr.typeAssert (.iface 233 v) xT 148 true).run Tryz.prog w = .ok (.tuple #[.nilIface, .bool false]) w := run_typeAssert_lacksB Tryz.underlying148 (by kernel_rfl) (by kernel_rfl) v xT w

set_option maxRecDepth 100000 in
/-- errors.Is(x, y), two different pointers to errors.errorString. -/
theorem is_other (a b : Addr) (ca cb : Array Value) (ta tb : TypeId) (w : World) (hne : a ≠ b) (ha : w.heap[a.block]? = some (.cells ca ta (0, 0))) (hb : w.heap[b.block]? = some (.cells cb tb (0, 0))) :
    Calls Tryz.prog 28 #[EV a, EV b] w fun e w' => e = .returned (.bool false) ∧ Ex w w' := by
  obtain ⟨i, hi, hcmp⟩ := Option.map_eq_some_iff.1 Tryz.isComp
  obtain ⟨j, hj, hjs⟩ := Option.map_eq_some_iff.1 Tryz.isSize
  have h8 := @run_callFunc_extern Tryz.prog 59 _ Extern.ReflectliteType.typeOf Tryz.func59 (by kernel_rfl) (by kernel_rfl) (by kernel_rfl) (by kernel_rfl)
  have h32 := @run_callFunc_extern Tryz.prog 183 _ cmpE Tryz.func183 (by kernel_rfl) (by kernel_rfl) (by kernel_rfl) (by kernel_rfl)
  have tT := Tryz.isTypeOf
  have cT := Tryz.isComparable
  have mR := Tryz.isMethodComparable
  have nE := Tryz.noIsE
  have uE := Tryz.noUnwrapE
  have vE := Tryz.noUnwrapsE
  have heq := run_eql_iface_ptr_other (P := Tryz.prog) w Tryz.underlying70 Tryz.underlying233 hi hcmp hj (by rw [hjs]; decide) hne ha hb
  go_enter Tryz.func28, Tryz.ntmps28
  go_wp2
  refine wp_loop_rounds 1 ?_
  rw [rounds_succ]
  go_wp2
  go_ret
  exact ⟨rfl, Ex.refl _⟩

/-- The two faults are there, and are not one. -/
structure Two (ea eb : Addr) (w : World) : Prop where
  one : w.cell? ⟨0, 0, none⟩ = some (EV ea)
  two : w.cell? ⟨1, 0, none⟩ = some (EV eb)
  ne : ea ≠ eb
  at1 : ∃ ca ta, w.heap[ea.block]? = some (.cells ca ta (0, 0))
  at2 : ∃ cb tb, w.heap[eb.block]? = some (.cells cb tb (0, 0))
theorem Two.ex {ea eb : Addr} {w w' : World} (h : Two ea eb w) (hx : Ex w w') : Two ea eb w' := by
  obtain ⟨h1, h2, h3, ⟨ca, ta, h4⟩, cb, tb, h5⟩ := h
  exact ⟨hx.at h1, hx.at h2, h3, ⟨ca, ta, hx.blk h4⟩, cb, tb, hx.blk h5⟩

end Go.Proofs.YtldbmlojgakieaaGreatDoor
