/- Walks: of which types a call says what it says, by the program. Walks: KindOf by the program. -/
import Derived.Test.YtgpdnoghlommeaaGreatDoorGTK3
import Derived.Test.YtgpdnoghlommeaaGreatDoorGKO7
import Derived.Test.YtgpdnoghlommeaaGreatDoorGNF
import Derived.Test.YtgpdnoghlommeaaGreatDoorGD3
namespace Go.Proofs.YtgpdnoghlommeaaGreatDoor

open Go.RowKit Go.Deep Go.Maps Go.WideMaps

attribute [local go_sem ↓] Go.wp_at_zero Go.wp_at_succ

/-- All of a function is of a size that can be counted. -/
def FSz (f : PM) : Prop := XLm f.params ∧ BSm f.binds ∧ BLm f.binds ∧ TSm f.says ∧ TLm f.says

theorem names_two {l : List PM} (hp : ∀ j, j < l.length → pureAt l j = true) {q j : Nat} (hq : q < l.length) (hj : j < l.length) (hne : j ≠ q) {s : ByteArray} (hs : ((l.getD q pm0).name.toList == s.toList) = true) : ((l.getD j pm0).name.toList == s.toList) = false := by
  by_cases h : q < j
  · exact names_apart hj (hp j hj) h hs
  · cases e : (l.getD j pm0).name.toList == s.toList with
    | false => rfl
    | true =>
      have := names_apart (s := s) hq (hp q hq) (show j < q by omega) e
      rw [hs] at this; cases this
theorem word_blank {s : ByteArray} (h : wordB s = true) : (32 : UInt8) ∉ s.data.toList ∧ s.size ≤ 12 := by
  simp only [wordB, Bool.and_eq_true, decide_eq_true_eq, List.all_eq_true, List.mem_range] at h
  refine ⟨fun hm => ?_, h.1.2⟩
  obtain ⟨i, hi, e⟩ := List.getElem_of_mem hm
  have h1 := h.2 i (by simpa using hi)
  have e2 : wbt s i = 32 := by
    unfold wbt
    rw [List.getD_eq_getElem?_getD, List.getElem?_eq_getElem hi, Option.getD_some, e]; rfl
  rw [e2] at h1
  exact absurd h1 (by decide)

/-- What is good for a call's text: what the function says of just these types. -/
def GoodK (l : List PM) (t : List UInt8) (r : F) : Prop := ∃ q v, q < l.length ∧ len v = (l.getD q pm0).params.length ∧ fitL v ∧ nf v = v ∧ t = (l.getD q pm0).name.data.toList ++ rowL v 0 (len v) ∧ fnK l (callK l q) q v = some r
theorem GoodK.same {l : List PM} (hp : ∀ j, j < l.length → pureAt l j = true) {q : Nat} (hq : q < l.length) {fn : ByteArray} (hn : ((l.getD q pm0).name.toList == fn.toList) = true) {v r : F} (hf : fitL v) (hc : nf v = v) {t : List UInt8} (ht : t = fn.data.toList ++ rowL v 0 (len v)) (h : GoodK l t r) : fnK l (callK l q) q v = some r := by
  obtain ⟨q', v', h1, _, h3, h4, h5, h6⟩ := h
  have en := byte_key.2 hn
  rw [ht, ← en] at h5
  obtain ⟨e1, e2, e3⟩ := call_same (word_blank (pureAt_yes (hp q hq)).2.1).1 (word_blank (pureAt_yes (hp q' h1)).2.1).1 hf h3 h5
  have ev := same_types hc h4 e2 e3
  subst ev
  by_cases eq : q' = q
  · rw [← eq]; exact h6
  · have := names_two hp hq h1 eq (s := (l.getD q pm0).name) (by simp)
    rw [byte_key.1 e1.symm] at this; cases this

set_option maxRecDepth 100000 in
set_option maxHeartbeats 8000000 in
theorem kcall_by (eb : Addr) (l : List PM) (la : Option Addr) (lc tb : Nat) (hl : l.length ≤ 1000000000) (hp : ∀ j, j < l.length → pureAt l j = true) (hz : ∀ i, i < l.length → FSz (l.getD i pm0)) (q : Nat) (hq : q < l.length) (hcs : CallsK eb l la lc tb (GoodK l) q (callK l q)) (h1t : 1 ≠ tb)
    (fn : ByteArray) (v : F) (hn : ((l.getD q pm0).name.toList == fn.toList) = true) (hv : len v = (l.getD q pm0).params.length) (hf : fitL v) (hnf : nf v = v) (S : Nat → Prop) (w : World) (mb : Option Nat) (a : Option Addr) (c : Nat) (hG : w.cell? ⟨1, 0, none⟩ = some (EV eb)) (hM : MM w S tb (GoodK l)) (hS : ∀ b, S b → b < w.heap.size) (hSt : ¬ S tb) (htw : tb < w.heap.size) (hQ : QS w (fun b => b < tb) l la) (hV : SA w S v a) :
    Calls Tryz.prog 60 #[.agg #[.slice la l.length lc, .map (some tb), .map mb], .string fn, .slice a (len v) c] w (TakP eb tb S (GoodK l) (fnK l (callK l q) q v) w) := by
  have hpa := hp q hq
  obtain ⟨_, hw, h60, hbok, _⟩ := pureAt_yes hpa
  have hno : ∀ j, j < q → ((l.getD j pm0).name.toList == fn.toList) = false := fun j hj => names_two hp hq (by omega) (by omega) hn
  have hfs : fn.size ≤ 12 := by
    have e := byte_key.2 hn
    have h := (word_blank hw).2
    have e2 : fn.size = (l.getD q pm0).name.size := by
      show fn.data.size = (l.getD q pm0).name.data.size
      rw [← Array.length_toList, ← Array.length_toList, e]
    omega
  have hlv : len v ≤ 60 := by omega
  have N : Hid (Ex w (w.alloc (.cells #[.slice la l.length lc, .map (some tb), .map mb] 113))) := Ex.new _ _
  have G : Hid (∀ w', Fr tb w w' → w'.cell? ⟨1, 0, none⟩ = some (EV eb)) := fun w' h => h.at h1t hG
  have Q : Hid (∀ w', Fr tb w w' → QS w' (fun b => b < tb) l la) := fun _ h => QS_ks hQ fun k hk hk2 => h.block k hk2 (by have : k < tb := hk; omega)
  have V : Hid (∀ w', Ex w w' → SA w' S v a) := fun _ h => SA_ex hV h
  have ME : Hid (∀ w', Ex w w' → MM w' S tb (GoodK l)) := fun _ h => hM.ex h
  have CN : Hid (∀ w', Ex (w.alloc (.cells #[.slice la l.length lc, .map (some tb), .map mb] 113)) w' → w'.cell? ⟨w.heap.size, 0, none⟩ = some (.slice la l.length lc) ∧ w'.cell? ⟨w.heap.size, 1, none⟩ = some (.map (some tb)) ∧ w'.cell? ⟨w.heap.size, 2, none⟩ = some (.map mb)) := fun w' h => ⟨h.at (by simp), h.at (by simp), h.at (by simp)⟩
  have CT : Hid (∀ w', Ex w w' → Calls Tryz.prog 84 #[.string fn, .slice a (len v) c] w' fun e w'' => e = .returned (.string (textK fn v (len v))) ∧ Ex w' w'') := fun w' h => callText_any fn v a c w' S (by omega) (by omega) hf (SA_ex hV h)
  have NM : Hid (∀ w', Ex w w' → Calls Tryz.prog 58 #[.slice la l.length lc, .string fn] w' (FnP (l.getD q pm0) (fun b => b < tb) w')) := fun w' h => named_fn l la lc fn q w' _ hl (QS_ks hQ fun k _ hk2 => h.block k hk2) hq hno hn
  have HT : Hid (¬ S tb ∧ tb < w.heap.size ∧ 1 < w.heap.size) := ⟨hSt, htw, World.block_lt_of_cell? _ _ hG⟩
  have HS : Hid (∀ b, S b → b < w.heap.size) := hS
  have TS : Hid ((textK fn v (len v)).size ≤ 9223372036854775807) := by
    have h := textK_size fn v (len v)
    have h2 : len v * 1025 ≤ 60 * 1025 := Nat.mul_le_mul hlv (Nat.le_refl _)
    show _ ≤ _
    omega
  obtain ⟨z1, z2, z3, z4, z5⟩ := hz q hq
  have BO : Hid (∀ (S' : Nat → Prop) (m' mn' : Nat) w' a2 k2 a3 k3, mn' + 150000 ≤ 200000 → KM w' S' m' mn' (setAll noK (l.getD q pm0).params v (l.getD q pm0).params.length) → MM w' S' tb (GoodK l) → (∀ b, S' b → b < w'.heap.size) → ¬ S' tb → Ex w w' → BS w' (fun b => b < tb) (l.getD q pm0).binds a2 → MS w' (fun b => b < tb) (l.getD q pm0).says a3 → Calls Tryz.prog 86 #[.agg #[.slice la l.length lc, .map (some tb), .map (some m')], .agg #[.slice a2 (blen (l.getD q pm0).binds) k2, .slice a3 (tlen (l.getD q pm0).says) k3]] w' (TakP eb tb S' (GoodK l) (fnK l (callK l q) q v) w')) := fun S' m' mn' w' a2 k2 a3 k3 hmn hK hM' hS' ht' hx hb hm => kbody_any eb l la lc tb (GoodK l) q (by omega) (callK l q) (okCallK_at q (by omega) fun j hj => hp j (by omega)) (can_call l q) hcs 6 m' mn' S' _ _ _ a2 k2 _ a3 k3 w' (by omega) (by omega) hbok (fitE_all fitE_no hf _ (by omega)) (canE_all (fun _ => rfl) hnf _) z2 z3 z4 z5 (hx.at hG) h1t hK hM' hS' ht' (Nat.lt_of_lt_of_le htw hx.size) (QS_ks hQ fun k _ hk2 => hx.block k hk2) hb hm
  have GL : Hid (∀ r, GoodK l (textK fn v (len v)).data.toList r → fnK l (callK l q) q v = some r) := fun r h => GoodK.same hp hq hn hf hnf (textK_list fn v (len v)) h
  have GM : Hid (∀ r, fnK l (callK l q) q v = some r → GoodK l (textK fn v (len v)).data.toList r) := fun r h => ⟨q, v, hq, hv, hf, hnf, by rw [byte_key.2 hn]; exact textK_list fn v (len v), h⟩
  obtain ⟨t, ht⟩ : ∃ t, textK fn v (len v) = t := ⟨_, rfl⟩
  rw [ht] at CT TS GL GM
  obtain ⟨R, hR⟩ : ∃ R, fnK l (callK l q) q v = R := ⟨_, rfl⟩
  rw [hR] at GL GM BO ⊢
  obtain ⟨f, hfe⟩ : ∃ f, l.getD q pm0 = f := ⟨_, rfl⟩
  rw [hfe] at BO NM hv h60 z1
  have HV : Hid (f.params.length = len v ∧ f.params.length ≤ 60 ∧ XLm f.params) := ⟨hv.symm, h60, z1⟩
  clear hpa hw hbok hno hfs hV hM hS hSt htw hG hQ hf hnf hn hz hp hcs z1 z2 z3 z4 z5 ht hR hfe hl hv h60 hlv
  obtain ⟨c0, c1, c2⟩ := CN.out _ (Ex.refl _)
  go_enter Tryz.func60, Tryz.ntmps60
  go_wp2_with fail
  refine (CT.out _ N.out).mono ?_
  rintro e w1 ⟨rfl, hb1⟩
  have X1 : Hid (Ex (w.alloc (.cells #[.slice la l.length lc, .map (some tb), .map mb] 113)) w1) := hb1
  have Y1 : Hid (Ex w w1) := N.out.trans hb1
  obtain ⟨vt, ok, hlook, hok⟩ := (ME.out w1 Y1.out).look TS.out
  have HOK : Hid (ok = true → ∃ r a c, vt = .slice a (len r) c ∧ SA w1 S r a ∧ GoodK l t.data.toList r) := hok
  clear c0 c1 c2 hb1 hok CT
  obtain ⟨c0, c1, c2⟩ := CN.out w1 X1.out
  cases ok with
  | true =>
    obtain ⟨r, a', c', hvt, hV', hG'⟩ := HOK.out rfl
    subst hvt
    have HR : Hid (R = some r) := GL.out r hG'
    have V1 : Hid (SA w1 S r a') := hV'
    clear hV' hG' HOK
    go_wp2_with fail
    exact bodyPost_ret (v := .tuple #[.slice a' (len r) c', .nilIface]) (by simp [results, Tryz.results60, go_sem]) rfl ⟨a', c', by rw [HR.out]; rfl, by rw [HR.out]; exact SA_mono V1.out fun _ _ h => Or.inl h, (ME.out w1 Y1.out).mono fun _ _ h => Or.inl h, Fr.of_ex Y1.out _⟩
  | false =>
    clear HOK
    go_wp2_with fail
    refine Calls.mono (NM.out _ Y1.out) ?_
    rintro e w2 ⟨a1, k1, a2, k2, a3, k3, rfl, hx1, hx2, hx3, hb2⟩
    have X2 : Hid (Ex (w.alloc (.cells #[.slice la l.length lc, .map (some tb), .map mb] 113)) w2) := X1.out.trans hb2
    have Y2 : Hid (Ex w w2) := Y1.out.trans hb2
    have M1 : Hid (∀ w', Ex w2 w' → XS w' (fun b => b < tb) f.params a1 ∧ BS w' (fun b => b < tb) f.binds a2 ∧ MS w' (fun b => b < tb) f.says a3) := fun w' h => ⟨XS_ks hx1 fun k _ hk => h.block k hk, BS_ks hx2 fun k _ hk => h.block k hk, MS_ks hx3 fun k _ hk => h.block k hk⟩
    have NV0 : Hid (Ex w2 (((w2.alloc (.cells #[.string f.name, .slice a1 f.params.length k1, .slice a2 (blen f.binds) k2, .slice a3 (tlen f.says) k3] 61)).alloc (.map #[] 0)).alloc (.cells #[.slice la l.length lc, .map (some tb), .map (some (w2.heap.size + 1))] 113))) := ((Ex.new _ _).alloc _).alloc _
    have ZV : Hid ((((w2.alloc (.cells #[.string f.name, .slice a1 f.params.length k1, .slice a2 (blen f.binds) k2, .slice a3 (tlen f.says) k3] 61)).alloc (.map #[] 0)).alloc (.cells #[.slice la l.length lc, .map (some tb), .map (some (w2.heap.size + 1))] 113)).heap.size = w2.heap.size + 3) := by
      show _ = _
      simp only [World.size_alloc]
    have XN : Hid (∀ w', Fr (w2.heap.size + 1) (((w2.alloc (.cells #[.string f.name, .slice a1 f.params.length k1, .slice a2 (blen f.binds) k2, .slice a3 (tlen f.says) k3] 61)).alloc (.map #[] 0)).alloc (.cells #[.slice la l.length lc, .map (some tb), .map (some (w2.heap.size + 1))] 113)) w' → XA w' 0 f.params a1) := fun w' h => XS_mono (XS_ks (M1.out _ NV0.out).1 fun b hb hl => h.block b hl (by have : b < tb := hb; have := HT.out.2.1; have := Y2.out.size; omega)) fun _ _ _ => Nat.zero_le _
    have E0 : Hid (KM (((w2.alloc (.cells #[.string f.name, .slice a1 f.params.length k1, .slice a2 (blen f.binds) k2, .slice a3 (tlen f.says) k3] 61)).alloc (.map #[] 0)).alloc (.cells #[.slice la l.length lc, .map (some tb), .map (some (w2.heap.size + 1))] 113)) (fun p => (S p ∨ w.heap.size ≤ p) ∧ p < w2.heap.size) (w2.heap.size + 1) 0 noK) := by
      have h := (KM_made (w2.alloc (.cells #[.string f.name, .slice a1 f.params.length k1, .slice a2 (blen f.binds) k2, .slice a3 (tlen f.says) k3] 61)) (fun p => (S p ∨ w.heap.size ≤ p) ∧ p < w2.heap.size)).ex (Ex.new _ (.cells #[.slice la l.length lc, .map (some tb), .map (some (w2.heap.size + 1))] 113))
      rw [World.size_alloc] at h; exact h
    have VN : Hid (SA (((w2.alloc (.cells #[.string f.name, .slice a1 f.params.length k1, .slice a2 (blen f.binds) k2, .slice a3 (tlen f.says) k3] 61)).alloc (.map #[] 0)).alloc (.cells #[.slice la l.length lc, .map (some tb), .map (some (w2.heap.size + 1))] 113)) (fun p => (S p ∨ w.heap.size ≤ p) ∧ p < w2.heap.size) v a) := SA_mono (V.out _ (Y2.out.trans NV0.out)) fun b _ h => ⟨Or.inl h, by have := HS.out b h; have := Y2.out.size; omega⟩
    have BE : Hid (Calls Tryz.prog 85 #[.map (some (w2.heap.size + 1)), .slice a1 f.params.length k1, .slice a (len v) c] (((w2.alloc (.cells #[.string f.name, .slice a1 f.params.length k1, .slice a2 (blen f.binds) k2, .slice a3 (tlen f.says) k3] 61)).alloc (.map #[] 0)).alloc (.cells #[.slice la l.length lc, .map (some tb), .map (some (w2.heap.size + 1))] 113)) (BdP (fun p => (S p ∨ w.heap.size ≤ p) ∧ p < w2.heap.size) (w2.heap.size + 1) 0 noK f.params v (((w2.alloc (.cells #[.string f.name, .slice a1 f.params.length k1, .slice a2 (blen f.binds) k2, .slice a3 (tlen f.says) k3] 61)).alloc (.map #[] 0)).alloc (.cells #[.slice la l.length lc, .map (some tb), .map (some (w2.heap.size + 1))] 113)))) := bindEachT_any (fun p => (S p ∨ w.heap.size ≤ p) ∧ p < w2.heap.size) (w2.heap.size + 1) 0 noK f.params a1 k1 v a c _ E0.out (fun h => by have := h.2; omega) XN.out HV.out.2.2 VN.out HV.out.1 (by have := HV.out.2.1; omega)
    have C : Hid (∀ w', Fr (w2.heap.size + 1) (((w2.alloc (.cells #[.string f.name, .slice a1 f.params.length k1, .slice a2 (blen f.binds) k2, .slice a3 (tlen f.says) k3] 61)).alloc (.map #[] 0)).alloc (.cells #[.slice la l.length lc, .map (some tb), .map (some (w2.heap.size + 1))] 113)) w' → w'.cell? ⟨w2.heap.size, 0, none⟩ = some (.string f.name) ∧ w'.cell? ⟨w2.heap.size, 1, none⟩ = some (.slice a1 f.params.length k1) ∧ w'.cell? ⟨w2.heap.size, 2, none⟩ = some (.slice a2 (blen f.binds) k2) ∧ w'.cell? ⟨w2.heap.size, 3, none⟩ = some (.slice a3 (tlen f.says) k3) ∧ w'.cell? ⟨w2.heap.size + 2, 0, none⟩ = some (.slice la l.length lc) ∧ w'.cell? ⟨w2.heap.size + 2, 1, none⟩ = some (.map (some tb)) ∧ w'.cell? ⟨w2.heap.size + 2, 2, none⟩ = some (.map (some (w2.heap.size + 1)))) := fun w' h => ⟨h.at (by show w2.heap.size ≠ _; omega) (((Ex.new _ _).alloc _).at (by simp)), h.at (by show w2.heap.size ≠ _; omega) (((Ex.new _ _).alloc _).at (by simp)), h.at (by show w2.heap.size ≠ _; omega) (((Ex.new _ _).alloc _).at (by simp)), h.at (by show w2.heap.size ≠ _; omega) (((Ex.new _ _).alloc _).at (by simp)), h.at (by show w2.heap.size + 2 ≠ _; omega) (blk_cell (heap_alloc_at _ _ (by simp only [World.size_alloc])) 0), h.at (by show w2.heap.size + 2 ≠ _; omega) (blk_cell (heap_alloc_at _ _ (by simp only [World.size_alloc])) 1), h.at (by show w2.heap.size + 2 ≠ _; omega) (blk_cell (heap_alloc_at _ _ (by simp only [World.size_alloc])) 2)⟩
    have TE : Hid (∀ w', Fr (w2.heap.size + 1) (((w2.alloc (.cells #[.string f.name, .slice a1 f.params.length k1, .slice a2 (blen f.binds) k2, .slice a3 (tlen f.says) k3] 61)).alloc (.map #[] 0)).alloc (.cells #[.slice la l.length lc, .map (some tb), .map (some (w2.heap.size + 1))] 113)) w' → Ex w2 w') := fun w' h => h.to_ex NV0.out (by omega)
    clear c0 c1 c2 hx1 hx2 hx3 hb2 NM
    obtain ⟨d0, d1, d2, d3, d4, d5, d6⟩ := C.out _ (Fr.refl _ _)
    obtain ⟨c0, c1, c2⟩ := CN.out w2 X2.out
    have zc : w.heap.size < w2.heap.size := World.block_lt_of_cell? _ _ c0
    have hmm := @run_makeMap Tryz.prog
    go_wp2_with fail
    refine Calls.mono BE.out ?_
    rintro e w3 ⟨rfl, hm3, hf3⟩
    have F3 : Hid (Fr (w2.heap.size + 1) (((w2.alloc (.cells #[.string f.name, .slice a1 f.params.length k1, .slice a2 (blen f.binds) k2, .slice a3 (tlen f.says) k3] 61)).alloc (.map #[] 0)).alloc (.cells #[.slice la l.length lc, .map (some tb), .map (some (w2.heap.size + 1))] 113)) w3) := hf3
    have K3 : Hid _ := hm3
    have X3 : Hid (Ex w2 w3) := TE.out w3 hf3
    have NS2 : Hid (¬ ((fun p => (S p ∨ w.heap.size ≤ p) ∧ p < w2.heap.size)) tb) := fun h => by
      rcases h.1 with h | h
      · exact HT.out.1 h
      · have := HT.out.2.1; omega
    have M3 : Hid (MM w3 (fun p => (S p ∨ w.heap.size ≤ p) ∧ p < w2.heap.size) tb (GoodK l)) := ((ME.out _ (Y2.out.trans X3.out))).mono fun b _ h => ⟨Or.inl h, by have := HS.out b h; have := Y2.out.size; omega⟩
    clear c0 c1 c2 d0 d1 d2 d3 d4 d5 d6 zc
    obtain ⟨d0, d1, d2, d3, d4, d5, d6⟩ := C.out w3 hf3
    clear hm3 hf3 BE
    go_wp2_with fail
    refine Calls.mono (BO.out _ _ _ w3 a2 k2 a3 k3 (by have := HV.out.2.1; omega) K3.out M3.out (fun b hb => Nat.lt_of_lt_of_le hb.2 X3.out.size) NS2.out (Y2.out.trans X3.out) (M1.out w3 X3.out).2.1 (M1.out w3 X3.out).2.2) ?_
    rintro e w4 h4
    have hf4 : Fr tb w3 w4 := by
      obtain ⟨_, _, _, _, _, h⟩ := h4
      exact h
    have C4 : Hid (w4.cell? ⟨w.heap.size, 0, none⟩ = some (.slice la l.length lc) ∧ w4.cell? ⟨w.heap.size, 1, none⟩ = some (.map (some tb)) ∧ w4.cell? ⟨w.heap.size, 2, none⟩ = some (.map mb)) := by
      have nB : w.heap.size ≠ tb := by have := HT.out.2.1; omega
      obtain ⟨c0, c1, c2⟩ := CN.out w3 (X2.out.trans X3.out)
      exact ⟨hf4.at nB c0, hf4.at nB c1, hf4.at nB c2⟩
    obtain ⟨a9, k9, rfl, hV9, hM9, hb9⟩ := TakP.up (S := S) (w := w) h4 (Fr.of_ex (Y2.out.trans X3.out) tb) fun b hb => hb.1
    have V9 : Hid _ := hV9
    have M9 : Hid _ := hM9
    have X9 : Hid (Fr tb w w4) := hb9
    clear h4 hV9 hM9 hb9 hf4 d0 d1 d2 d3 d4 d5 d6 BO
    cases R with
    | none =>
      simp only [Option.getD_none, Option.isSome_none, errV, Bool.false_eq_true, if_false]
      go_wp2_with fail
      exact bodyPost_ret (v := .tuple #[.slice none 0 0, EV eb]) (by simp [results, Tryz.results60, go_sem]) rfl (TakP.no X9.out M9.out)
    | some r =>
      have V10 : Hid (SA w4 (fun p => S p ∨ w.heap.size ≤ p) r a9) := V9.out
      have GR : Hid (GoodK l t.data.toList r) := GM.out r rfl
      have NU : Hid (¬ ((fun p => S p ∨ w.heap.size ≤ p)) tb) := fun h => by
        rcases h with h | h
        · exact HT.out.1 h
        · have := HT.out.2.1; omega
      simp only [Option.getD_some, Option.isSome_some, errV, if_true]
      clear V9
      obtain ⟨c0, c1, c2⟩ := C4.out
      have zc4 : w.heap.size < w4.heap.size := World.block_lt_of_cell? _ _ c0
      go_wp2_with (at_mapUpdate; refine wpList_tell rfl _ _ _ rfl (fun p => S p ∨ w.heap.size ≤ p) tb (GoodK l) t TS.out rfl M9.out NU.out rfl r a9 k9 rfl V10.out GR.out ?_)
      intro w5 hm5 hf5
      have M5 : Hid _ := hm5
      have X5 : Hid (Fr tb w w5) := X9.out.trans hf5
      have V5 : Hid (SA w5 (fun p => S p ∨ w.heap.size ≤ p) r a9) := SA_ks V10.out fun b hs hl => hf5.block b hl fun e => NU.out (e ▸ hs)
      clear hm5 hf5 c0 c1 c2 zc4
      go_wp2_with fail
      exact bodyPost_ret (v := .tuple #[.slice a9 (len r) k9, .nilIface]) (by simp [results, Tryz.results60, go_sem]) rfl ⟨a9, k9, rfl, V5.out, M5.out, X5.out⟩

/-- Calls of functions that are ok go on as they should. -/
theorem kcalls_ok (eb : Addr) (l : List PM) (la : Option Addr) (lc tb : Nat) (hl : l.length ≤ 1000000000) (h1t : 1 ≠ tb) (hz : ∀ i, i < l.length → FSz (l.getD i pm0)) (hp : ∀ j, j < l.length → pureAt l j = true) : ∀ m, m ≤ l.length → CallsK eb l la lc tb (GoodK l) m (callK l m) := by
  intro m
  induction m using Nat.strongRecOn with
  | _ m ih =>
    intro hm q fn v hq hn hv hf hnf S w mb a c hG hM hS hSt htw hQ hV
    rw [callK_at hn m hm (fun j hj => hp j (by omega)) hq]
    exact kcall_by eb l la lc tb hl hp hz q (by omega) (ih q hq (by omega)) h1t fn v hn hv hf hnf S w mb a c hG hM hS hSt htw hQ hV

end Go.Proofs.YtgpdnoghlommeaaGreatDoor

namespace Go.Proofs.YtgpdnoghlommeaaGreatDoor

open Go.RowKit Go.Deep Go.Maps Go.WideMaps

attribute [local go_sem ↓] Go.wp_at_zero Go.wp_at_succ

/-- What is asked for. -/
def askK (l : List PM) (s : ByteArray) (v : F) : Bool := pureB l && ((arityR l s).2.2 && (decide ((arityR l s).1 = len v) && fitAll v))
/-- What is told. -/
def runK (l : List PM) (s : ByteArray) (v : F) : Option F := if askK l s v = true then callK l l.length s v else none
def errK (ea eb : Addr) (asked : Bool) (R : Option F) : Value := if asked = true then errV eb R.isSome else EV ea
def SaidP (ea eb : Addr) (asked : Bool) (R : Option F) (w : World) (e : Ending) (w' : World) : Prop :=
  ∃ a' c', e = .returned (.tuple #[.slice a' (len (R.getD .nil)) c', errK ea eb asked R]) ∧ SA w' (fun _ => True) (R.getD .nil) a' ∧ Ex w w'
theorem SaidP.no {ea eb : Addr} {w w' : World} (h : Ex w w') : SaidP ea eb false none w (.returned (.tuple #[.slice none 0 0, EV ea])) w' := ⟨none, 0, rfl, Or.inl rfl, h⟩
theorem pureB_at {l : List PM} (h : pureB l = true) : l.length ≤ 10 ∧ ∀ j, j < l.length → pureAt l j = true := by
  simp only [pureB, Bool.and_eq_true, List.all_eq_true, List.mem_range, decide_eq_true_eq] at h
  exact h
theorem fitAll_fitL {v : F} (h : fitAll v = true) : fitL v := fun _ hi => fitAll_at h hi
/-- What is said is of types, and not too much. -/
theorem runK_fit {l : List PM} {s : ByteArray} {v r : F} (h : runK l s v = some r) : fitL r ∧ len r ≤ 60 := by
  unfold runK at h
  split at h
  · rename_i ha
    simp only [askK, Bool.and_eq_true, decide_eq_true_eq] at ha
    obtain ⟨h1, h2, h3, h4⟩ := ha
    obtain ⟨hp1, hp2⟩ := pureB_at h1
    have e0 : l.take l.length = l := List.take_length
    obtain ⟨q, hq, hq2, hq3, hq4⟩ := arity_find (Nat.le_refl l.length) (s := s) (by rw [e0]; exact h2)
    have hk := okCallK_at l.length (Nat.le_refl _) hp2 s v r (by rw [e0]; exact h2) (by rw [e0]; exact h3.symm) (fitAll_fitL h4) h
    rw [hq4] at hk
    refine ⟨hk.1, ?_⟩
    have hb := (pureAt_yes (hp2 q hq)).2.2.2.1
    have := (termsB_kids (bodyB_yes hb).2.2).1
    rw [hk.2]
    exact this
  · cases h

set_option maxRecDepth 100000 in
set_option maxHeartbeats 4000000 in
theorem kindsSaid_any (ea eb : Addr) (l : List PM) (la : Option Addr) (lc : Nat) (s : ByteArray) (v : F) (a : Option Addr) (c : Nat) (w : World) (hT : Two ea eb w) (hl : l.length ≤ 1000000000) (hcap : l.length ≤ lc) (hs : PSkTo l l.length) (hlm : ∀ j, j < l.length → PLm (l.getD j pm0)) (hQ : QA w 0 l la)
    (hv : len v ≤ 1000000000) (hnf : nf v = v) (hV : TA w 0 v a) :
    Calls Tryz.prog 28 #[.slice la l.length lc, .string s, .slice a (len v) c] w (SaidP ea eb (askK l s v) (runK l s v) w) := by
  have T : Hid (∀ w', Ex w w' → Two ea eb w') := fun w' h => hT.ex h
  have Q : Hid (∀ w', Ex w w' → QA w' 0 l la) := fun _ h => QA_below hQ h
  have QB : Hid (∀ w' (tb : Nat), Ex w w' → w.heap.size ≤ tb → QS w' (fun b => b < tb) l la) := fun w' tb h ht => QS_mono (QS_ks (QS_mono (S' := fun b => b < w.heap.size) hQ fun b hb _ => hb) fun k _ hk => h.block k hk) fun b _ hb => by have : b < w.heap.size := hb; show b < tb; omega
  have V : Hid (∀ w', Ex w w' → SA w' (fun b => b < w.heap.size) v a) := fun _ h => SA_ex (SA_mono hV fun b hb _ => hb) h
  have TOK : Hid (∀ w', Ex w w' → Calls Tryz.prog 59 #[.slice a (len v) c] w' fun e w'' => e = .returned (.bool (fitAll v)) ∧ Ex w' w'') := fun w' h => typesOk_any v a c w' hv (TA_below hV h)
  have CP : Hid (∀ w', Ex w w' → Calls Tryz.prog 57 #[.slice la l.length lc] w' (ErrP ea (pureB l) w')) := fun w' h => checkPures_any ea l la lc w' hl hcap hs hlm (h.at hT.one) (QA_below hQ h)
  have FZ : Hid (∀ i, i < l.length → FSz (l.getD i pm0)) := fun i hi => ⟨(hlm i hi).2.2.1, (hs i hi).2.1.2, (hlm i hi).2.2.2.2.1, (hs i hi).2.2.2, (hlm i hi).2.2.2.2.2.2⟩
  have HL : Hid (l.length ≤ 1000000000) := hl
  have NF : Hid (nf v = v) := hnf
  have HV : Hid (len v ≤ 1000000000) := hv
  have Z1 : Hid (1 < w.heap.size) := World.block_lt_of_cell? _ _ hT.two
  obtain ⟨A, hA⟩ : ∃ A, A = askK l s v := ⟨_, rfl⟩
  obtain ⟨R, hR⟩ : ∃ R, R = runK l s v := ⟨_, rfl⟩
  have AA : Hid (A = (pureB l && ((arityR l s).2.2 && (decide ((arityR l s).1 = len v) && fitAll v)))) := hA
  have RR : Hid (A = false → R = none) := fun h => by rw [hR, runK, if_neg (by rw [← hA, h]; simp)]
  have RY : Hid (A = true → R = callK l l.length s v) := fun h => by rw [hR, runK, if_pos (by rw [← hA, h])]
  rw [← hA, ← hR]
  have NO : Hid (∀ w', Ex w w' → A = false → SaidP ea eb A R w (.returned (.tuple #[.slice none 0 0, EV ea])) w') := fun w' h ha => by rw [RR.out ha, ha]; exact SaidP.no h
  clear hA hR hT hQ hV hs hlm hcap hl hnf
  go_enter Tryz.func28, Tryz.ntmps28
  go_wp2_with fail
  refine (CP.out _ (Ex.refl _)).mono ?_
  rintro e w1 ⟨rfl, hb1⟩
  have X1 : Hid (Ex w w1) := hb1
  clear hb1 CP
  obtain ⟨bp, hbp⟩ : ∃ b, pureB l = b := ⟨_, rfl⟩
  rw [hbp] at AA ⊢
  cases bp with
  | false =>
    have AF : Hid (A = false) := AA.out
    simp only [errV, Bool.false_eq_true, if_false]
    go_wp2_with fail
    exact bodyPost_ret (v := .tuple #[.slice none 0 0, EV ea]) (by simp [results, Tryz.results28, go_sem]) rfl (NO.out _ X1.out AF.out)
  | true =>
    have PB : Hid _ := (pureB_at hbp).2
    simp only [errV, if_true]
    clear hbp
    obtain ⟨bq, hbq⟩ : ∃ b, (arityR l s).2.2 = b := ⟨_, rfl⟩
    cases bq with
    | false =>
      have AF : Hid (A = false) := by
        show _ = _
        rw [AA.out, hbq]; rfl
      have NM : Hid (∀ w', Ex w w' → Calls Tryz.prog 58 #[.slice la l.length lc, .string s] w' (NamedP l s w')) := fun w' h => named_any l la lc s w' HL.out (Q.out w' h)
      have BQ : Hid ((arityR l s).2.2 = false) := hbq
      clear hbq
      go_wp2_with fail
      refine (NM.out _ X1.out).mono ?_
      rintro e w2 ⟨gn, a1, np, k1, a2, nb, k2, a3, nz, k3, ok, rfl, har, hb2⟩
      have hok : ok = false := by have := BQ.out; rw [har] at this; exact this
      subst hok
      have X2 : Hid (Ex w w2) := X1.out.trans hb2
      have g0 := (T.out w2 X2.out).one
      have z0 : 0 < w2.heap.size := World.block_lt_of_cell? _ _ g0
      clear har hb2 NM
      go_wp2_with fail
      go_region
      all_goals
        go_wp2_with fail
        refine bodyPost_ret (v := .tuple #[.slice none 0 0, EV ea]) (by simp [results, Tryz.results28, go_sem]) rfl (NO.out _ ?_ AF.out)
        first | exact (X2.out.alloc _).drew | exact X2.out.alloc _
    | true =>
      obtain ⟨q, hq, hq2, hq3, hq4⟩ := arity_find (Nat.le_refl l.length) (s := s) (by rw [List.take_length]; exact hbq)
      rw [List.take_length] at hq4
      have AV : Hid (A = (decide ((l.getD q pm0).params.length = len v) && fitAll v)) := by
        show _ = _
        rw [AA.out, hbq, hq4]; rfl
      have NM : Hid (∀ w', Ex w w' → Calls Tryz.prog 58 #[.slice la l.length lc, .string s] w' (FnP (l.getD q pm0) (fun b => 0 ≤ b) w')) := fun w' h => named_fn l la lc s q w' _ HL.out (Q.out w' h) hq hq3 hq2
      have GO : Hid (∀ tb w' a c mb, 1 ≠ tb → w.heap.size ≤ tb → Ex w w' → MM w' (fun b => b < w.heap.size) tb (GoodK l) → tb < w'.heap.size → len v = (l.getD q pm0).params.length → fitL v → SA w' (fun b => b < w.heap.size) v a → Calls Tryz.prog 60 #[.agg #[.slice la l.length lc, .map (some tb), .map mb], .string (l.getD q pm0).name, .slice a (len v) c] w' (TakP eb tb (fun b => b < w.heap.size) (GoodK l) (callK l l.length s v) w')) := fun tb w' a c mb h1t htb hx hm htw hvl hfl hsa => by
        rw [callK_at hq2 l.length (Nat.le_refl _) PB.out hq]
        exact kcall_by eb l la lc tb HL.out PB.out FZ.out q hq (kcalls_ok eb l la lc tb HL.out h1t FZ.out PB.out q (by omega)) h1t (l.getD q pm0).name v (by simp) hvl hfl NF.out (fun b => b < w.heap.size) w' mb a c (T.out w' hx).two hm (fun b hb => Nat.lt_of_lt_of_le hb hx.size) (fun h => by have : tb < w.heap.size := h; omega) htw (QB.out w' tb hx htb) hsa
      obtain ⟨f, hf⟩ : ∃ f, f = l.getD q pm0 := ⟨_, rfl⟩
      rw [← hf] at AV NM GO
      clear hf hq2 hq3 hq4 hbq AA PB
      go_wp2_with fail
      refine (NM.out _ X1.out).mono ?_
      rintro e w2 ⟨a1, k1, a2, k2, a3, k3, rfl, hm1, hm2, hm3, hb2⟩
      have X2 : Hid (Ex w w2) := X1.out.trans hb2
      obtain ⟨W3, hW3⟩ : ∃ W3, W3 = w2.alloc (.cells #[.string f.name, .slice a1 f.params.length k1, .slice a2 (blen f.binds) k2, .slice a3 (tlen f.says) k3] 61) := ⟨_, rfl⟩
      have N3 : Hid (Ex w2 W3) := hW3 ▸ Ex.new _ _
      have C3 : Hid (∀ w', Ex W3 w' → w'.cell? ⟨w2.heap.size, 0, none⟩ = some (.string f.name) ∧ w'.cell? ⟨w2.heap.size, 1, none⟩ = some (.slice a1 f.params.length k1) ∧ w'.cell? ⟨w2.heap.size, 2, none⟩ = some (.slice a2 (blen f.binds) k2) ∧ w'.cell? ⟨w2.heap.size, 3, none⟩ = some (.slice a3 (tlen f.says) k3)) := fun w' h => ⟨h.at (hW3 ▸ (by simp)), h.at (hW3 ▸ (by simp)), h.at (hW3 ▸ (by simp)), h.at (hW3 ▸ (by simp))⟩
      have X3 : Hid (Ex w W3) := X2.out.trans N3.out
      have HW3 : Hid (w2.alloc (.cells #[.string f.name, .slice a1 f.params.length k1, .slice a2 (blen f.binds) k2, .slice a3 (tlen f.says) k3] 61) = W3) := hW3.symm
      obtain ⟨c0, c1, c2, c3⟩ := C3.out _ (Ex.refl _)
      have g0 := (T.out _ X3.out).one
      clear hm1 hm2 hm3 hb2 NM hW3
      by_cases hpl : f.params.length = len v
      · have e1 : (((len v : Nat) : Int) == ((f.params.length : Nat) : Int)) = true := by rw [hpl]; simp
        have e2 : (((len v : Nat) : Int) != ((f.params.length : Nat) : Int)) = false := by rw [bne, e1]; rfl
        have A1 : Hid (A = fitAll v) := by
          show _ = _
          rw [AV.out, decide_eq_true hpl]; rfl
        have PL : Hid (f.params.length = len v) := hpl
        obtain ⟨z, hz⟩ : ∃ z, fitAll v = z := ⟨_, rfl⟩
        have HZ : Hid (fitAll v = z) := hz
        rw [hz] at A1 TOK
        clear hpl AV hz
        go_wp2_with fail
        rw [HW3.out]
        refine (TOK.out _ X3.out).mono ?_
        rintro e w4 ⟨rfl, hb4⟩
        have E4 : Hid (Ex W3 w4) := hb4
        have X4 : Hid (Ex w w4) := X3.out.trans hb4
        clear hb4 TOK c0 c1 c2 c3 g0
        obtain ⟨c0, c1, c2, c3⟩ := C3.out _ E4.out
        have g0 := (T.out _ X4.out).one
        cases z with
        | false =>
          have AF : Hid (A = false) := A1.out
          go_wp2_with fail
          go_region
          all_goals
            go_wp2_with fail
            refine bodyPost_ret (v := .tuple #[.slice none 0 0, EV ea]) (by simp [results, Tryz.results28, go_sem]) rfl (NO.out _ ?_ AF.out)
            first | exact X4.out.drew | exact X4.out
        | true =>
          have AT : Hid (A = true) := A1.out
          obtain ⟨W5, hW5⟩ : ∃ W5, W5 = (w4.alloc (.map #[] 0)).alloc (.cells #[.slice la l.length lc, .map (some w4.heap.size), .map none] 113) := ⟨_, rfl⟩
          have N5 : Hid (Ex w4 W5) := hW5 ▸ (Ex.new _ _).alloc _
          have X5 : Hid (Ex w W5) := X4.out.trans N5.out
          have MM5 : Hid (MM W5 (fun b => b < w.heap.size) w4.heap.size (GoodK l)) := hW5 ▸ (MM_made w4 (fun b => b < w.heap.size) (GoodK l)).ex (Ex.new _ _)
          have n5 : W5.heap.size = w4.heap.size + 2 := by rw [hW5]; simp only [World.size_alloc]
          have HW5 : Hid ((w4.alloc (.map #[] 0)).alloc (.cells #[.slice la l.length lc, .map (some w4.heap.size), .map none] 113) = W5) := hW5.symm
          have CA : Hid (Calls Tryz.prog 60 #[.agg #[.slice la l.length lc, .map (some w4.heap.size), .map none], .string f.name, .slice a (len v) c] W5 (TakP eb w4.heap.size (fun b => b < w.heap.size) (GoodK l) R W5)) := by
            rw [RY.out AT.out]
            exact GO.out w4.heap.size W5 a c none (by have := Z1.out; have := X4.out.size; omega) X4.out.size X5.out MM5.out (by omega) PL.out.symm (fitAll_fitL HZ.out) (V.out _ X5.out)
          have f0 := (C3.out W5 (E4.out.trans N5.out)).1
          have n0 : W5.cell? ⟨w4.heap.size + 1, 0, none⟩ = some (.slice la l.length lc) := by rw [hW5]; exact blk_cell (heap_alloc_at _ _ (by simp only [World.size_alloc])) 0
          have n1 : W5.cell? ⟨w4.heap.size + 1, 1, none⟩ = some (.map (some w4.heap.size)) := by rw [hW5]; exact blk_cell (heap_alloc_at _ _ (by simp only [World.size_alloc])) 1
          have n2 : W5.cell? ⟨w4.heap.size + 1, 2, none⟩ = some (.map none) := by rw [hW5]; exact blk_cell (heap_alloc_at _ _ (by simp only [World.size_alloc])) 2
          have F0 : Hid _ := f0
          have N0 : Hid _ := n0
          have N1 : Hid _ := n1
          have N2 : Hid _ := n2
          have hmm := @run_makeMap Tryz.prog
          clear hW5 n5 f0 n0 n1 n2
          go_upto_region 8 with fail
          rw [HW5.out]
          have f0 := F0.out
          have n0 := N0.out
          have n1 := N1.out
          have n2 := N2.out
          clear c0 c1 c2 c3 g0 hmm
          go_wp2_with fail
          refine Calls.mono CA.out ?_
          rintro e w6 ⟨a9, k9, rfl, hV9, _, hb9⟩
          have V9 : Hid (SA w6 (fun _ => True) (R.getD .nil) a9) := SA_mono hV9 fun _ _ _ => trivial
          have X9 : Hid (Ex w w6) := hb9.to_ex X5.out X4.out.size
          clear hV9 hb9
          go_wp2_with fail
          exact bodyPost_ret (v := .tuple #[.slice a9 (len (R.getD .nil)) k9, errV eb R.isSome]) (by simp [results, Tryz.results28, go_sem]) rfl ⟨a9, k9, by rw [AT.out]; rfl, V9.out, X9.out⟩
      · have e1 : (((len v : Nat) : Int) == ((f.params.length : Nat) : Int)) = false := by rw [beq_eq_false_iff_ne]; omega
        have e2 : (((len v : Nat) : Int) != ((f.params.length : Nat) : Int)) = true := by rw [bne, e1]; rfl
        have AF : Hid (A = false) := by
          show _ = _
          rw [AV.out, decide_eq_false hpl]; rfl
        clear hpl AV
        go_wp2_with fail
        rw [HW3.out]
        go_region
        all_goals
          go_wp2_with fail
          refine bodyPost_ret (v := .tuple #[.slice none 0 0, EV ea]) (by simp [results, Tryz.results28, go_sem]) rfl (NO.out _ ?_ AF.out)
          first | exact X3.out.drew | exact X3.out

theorem SA_congr {w : World} {S : Nat → Prop} {f g : F} {a : Option Addr} (h : SA w S f a) (hl : len f = len g) (hk : ∀ i, i < len f → kid f i = kid g i) : SA w S g a := by
  by_cases h0 : len f = 0
  · exact Or.inl (by omega)
  · obtain ⟨b, o, rfl, h1, h2, h3⟩ := SA_at h (by omega)
    exact SA_mk h1 fun i hi => by
      obtain ⟨a', c', e, hV⟩ := h3 i (by omega)
      rw [hk i (by omega)] at e hV
      exact ⟨a', c', e, hV⟩

set_option maxRecDepth 100000 in
set_option maxHeartbeats 4000000 in
theorem copiesT_any (v : F) (a : Option Addr) (c : Nat) (w : World) (hl : len v ≤ 100000000) (ht : fitL v) (hV : SA w (fun _ => True) v a) :
    Calls Tryz.prog 30 #[.slice a (len v) c, .func (.func 31) #[] #[]] w fun e w' => ∃ a' c', e = .returned (.slice a' (len v) c') ∧ SA w' (fun b => w.heap.size ≤ b) v a' ∧ Ex w w' := by
  have V : Hid (∀ w', Ex w w' → SA w' (fun _ => True) v a) := fun _ h => SA_ex hV h
  have T : Hid (fitL v) := ht
  have HL : Hid (len v ≤ 100000000) := hl
  clear hV ht
  go_enter Tryz.func30, Tryz.ntmps30
  go_wp2_with fail
  go_loopw [5, 7, 10] (fun ov _ i wr => ∃ (j : Nat) (l : F), j ≤ len v ∧ i = .int .i64 j ∧ len l = j ∧ (∀ k, k < j → kid l k = kid v k) ∧ KR wr w.heap.size (fun _ => False) ov l ∧ Ex w wr) (fun _ _ i _ => len v - (intOf i).toNat)
  case atStart => exact ⟨0, .nil, by omega, rfl, rfl, fun k hk => by omega, KR.nil _ _ _, Ex.refl _⟩
  case round =>
    obtain ⟨j, l, hj, rfl, hlen, hall, hor, hx⟩ := hrel
    have LJ : Hid (len l = j) := hlen
    have AL : Hid (∀ k, k < j → kid l k = kid v k) := hall
    have E : Hid (Ex w wr) := hx
    obtain ⟨av, ac, rfl, hvo⟩ := hor.vs
    have O : Hid (KR wr w.heap.size (fun _ => False) (.slice av (len l) ac) l) := hor
    have VV : Hid (SA wr (fun b => False ∨ w.heap.size ≤ b) l av) := hvo
    clear hx hor hvo hlen hall
    by_cases hlt : j < len v
    · obtain ⟨b, o, rfl, _, hbs, hk⟩ := SA_at (V.out wr E.out) (by omega)
      obtain ⟨a0, k0, v1, hV0⟩ := hk j hlt
      have CO : Hid (∀ w', Ex wr w' → Calls Tryz.prog 31 #[.agg #[.slice a0 (len (kid v j)) k0]] w' fun e w'' => ∃ a' cap', e = .returned (.agg #[.slice a' (len (kid v j)) cap']) ∧ TA w'' w'.heap.size (kid v j) a' ∧ Ex w' w'') := fun w' h => typeCopy_any 4 (kid v j) a0 k0 0 w' (T.out j hlt) (SA_mono (SA_ex hV0 h) fun _ _ _ => Nat.zero_le _)
      have NX : Hid (∀ k, k < j + 1 → kid (snoc l 0 (kid v j)) k = kid v k) := fun k hk => by
        rw [kid_snoc, LJ.out]
        by_cases e : k < j
        · rw [if_pos e]; exact AL.out k e
        · have ek : k = j := by omega
          rw [if_neg e, if_pos ek, ek]
      obtain ⟨g, hg⟩ : ∃ g, g = kid v j := ⟨_, rfl⟩
      rw [← hg] at CO NX v1
      clear hk hV0 hg
      go_wp2_with fail
      refine Calls.mono (CO.out _ (Ex.new _ _)) ?_
      rintro e w1 ⟨a1, c1', rfl, hV1, hb1⟩
      have E1 : Hid (Ex wr w1) := (Ex.new _ _).trans hb1
      have E2 : Hid (Ex w ((w1.alloc (.cells #[.slice a1 (len g) c1'] 55)))) := (E.out.trans E1.out).alloc _
      have O3 : Hid (KR ((w1.alloc (.cells #[.slice a1 (len g) c1'] 55))) w.heap.size (fun _ => False) (.slice av (len l) ac) l) := KR.ex O.out (E1.out.alloc _)
      have V3 : Hid (SA ((w1.alloc (.cells #[.slice a1 (len g) c1'] 55))) (fun b => (False ∨ w.heap.size ≤ b) ∧ (Value.slice av (len l) ac).ownBlock ≠ some b) g a1) := SA_mono (SA_ex hV1 (Ex.new _ _)) fun b _ hb => by
        have hb2 : (wr.alloc (.cells #[.slice a0 (len g) k0] 55)).heap.size ≤ b := hb
        rw [World.size_alloc] at hb2
        exact ⟨Or.inr (by have := E.out.size; omega), fun e => by have := (KR.own O.out b e).2; omega⟩
      have C20 : Hid (((w1.alloc (.cells #[.slice a1 (len g) c1'] 55))).cell? ⟨w1.heap.size, 0, none⟩ = some (.slice a1 (len g) c1')) := by show _ = _; simp
      have j6 : len l ≤ 100000000 := by have := LJ.out; have := HL.out; omega
      clear hV1 hb1 CO O VV v1 E
      go_wp2_with (at_builtin; refine wpList_append_type rfl _ _ rfl w E2.out (fun _ => False) w.heap.size (Nat.le_refl _) E2.out.size (.slice av (len l) ac) l rfl O3.out w1.heap.size 1 g a1 c1' rfl C20.out V3.out j6 ?_)
      intro av3 ac3 w3 hor3 hx3 _
      have O4 : Hid (KR w3 w.heap.size (fun _ => False) (.slice av3 (len l + 1) ac3) (snoc l 0 g)) := hor3
      have E3 : Hid (Ex w w3) := hx3
      clear hor3 hx3 O3 E2 V3 C20
      go_wp2_with fail
      go_roundw
      case rel => exact ⟨j + 1, _, by omega, by go_num, by rw [len_snoc, LJ.out], NX.out, O4.out, E3.out⟩
      case measure => simp [intOf]; omega
    · have hje : j = len v := by omega
      have LF : Hid (len l = len v) := LJ.out.trans hje
      have VF : Hid (SA wr (fun b => w.heap.size ≤ b) v av) := SA_congr (SA_mono VV.out fun b _ hb => hb.resolve_left id) LF.out fun i hi => AL.out i (by have := LJ.out; omega)
      clear hje
      go_wp2_with fail
      exact bodyPost_ret (v := .slice av (len l) ac) (by simp [results, Tryz.results30, go_sem]) rfl ⟨av, ac, by rw [LF.out], VF.out, E.out⟩

/-- Types that are told, or that there are none. -/
def KofP (R : Option F) (w : World) (e : Ending) (w' : World) : Prop := ∃ a' c', e = .returned (.tuple #[.slice a' (len (R.getD .nil)) c', .bool R.isSome]) ∧ SA w' (fun b => w.heap.size ≤ b) (R.getD .nil) a' ∧ Ex w w'
set_option maxRecDepth 100000 in
set_option maxHeartbeats 4000000 in
theorem iKindOf_any (ea eb : Addr) (l : List PM) (la : Option Addr) (lc : Nat) (s : ByteArray) (v : F) (a : Option Addr) (c : Nat) (w : World) (hT : Two ea eb w) (hl : l.length ≤ 1000000000) (hcap : l.length ≤ lc) (hs : PSkTo l l.length) (hlm : ∀ j, j < l.length → PLm (l.getD j pm0)) (hQ : QA w 0 l la)
    (hv : len v ≤ 1000000000) (hnf : nf v = v) (hV : TA w 0 v a) :
    Calls Tryz.prog 10 #[.slice la l.length lc, .string s, .slice a (len v) c] w (KofP (runK l s v) w) := by
  have T : Hid (∀ w', Ex w w' → Two ea eb w') := fun w' h => hT.ex h
  have KS : Hid (Calls Tryz.prog 28 #[.slice la l.length lc, .string s, .slice a (len v) c] w (SaidP ea eb (askK l s v) (runK l s v) w)) := kindsSaid_any ea eb l la lc s v a c w hT hl hcap hs hlm hQ hv hnf hV
  have FT : Hid (∀ r, runK l s v = some r → fitL r ∧ len r ≤ 60) := fun r h => runK_fit h
  have NA : Hid (askK l s v = false → runK l s v = none) := fun h => by unfold runK; rw [if_neg (by rw [h]; simp)]
  obtain ⟨A, hA⟩ : ∃ A, A = askK l s v := ⟨_, rfl⟩
  obtain ⟨R, hR⟩ : ∃ R, R = runK l s v := ⟨_, rfl⟩
  rw [← hA, ← hR] at KS NA
  rw [← hR] at FT
  rw [← hR]
  clear hA hR hT hs hlm hQ hV hnf
  go_enter Tryz.func10, Tryz.ntmps10
  go_wp2_with fail
  refine Calls.mono KS.out ?_
  rintro e w1 ⟨a1, c1, rfl, hV1, hb1⟩
  have X1 : Hid (Ex w w1) := hb1
  have V1 : Hid (SA w1 (fun _ => True) (R.getD .nil) a1) := hV1
  have T1 : Hid (Two ea eb w1) := T.out w1 hb1
  clear hV1 hb1 KS
  have NK : Hid (R = none → Calls Tryz.prog 29 #[errK ea eb A R] w1 fun e w'' => e = .returned (.bool true) ∧ Ex w1 w'') := fun h => by
    cases A with
    | false => exact noKind_one ea eb w1 T1.out
    | true => rw [h]; exact noKind_two ea eb w1 T1.out
  have NY : Hid (∀ r, R = some r → Calls Tryz.prog 29 #[errK ea eb A R] w1 fun e w'' => e = .returned (.bool false) ∧ Ex w1 w'') := fun r h => by
    cases A with
    | false => rw [NA.out rfl] at h; cases h
    | true => rw [h]; exact noKind_nil ea eb w1 T1.out
  obtain ⟨ee, hee⟩ : ∃ ee, ee = errK ea eb A R := ⟨_, rfl⟩
  rw [← hee] at NK NY ⊢
  clear hee
  cases R with
  | none =>
    simp only [Option.getD_none]
    go_wp2_with fail
    refine Calls.mono (NK.out (by first | rfl | trivial)) ?_
    rintro e w2 ⟨rfl, hb2⟩
    have X2 : Hid (Ex w w2) := X1.out.trans hb2
    go_wp2_with fail
    exact bodyPost_ret (v := .tuple #[.slice none 0 0, .bool false]) (by simp [results, Tryz.results10, go_sem]) rfl ⟨none, 0, rfl, Or.inl rfl, X2.out⟩
  | some r =>
    obtain ⟨hty, hln⟩ := FT.out r rfl
    have TYR : Hid (fitL r ∧ len r ≤ 60) := ⟨hty, hln⟩
    have V2 : Hid (SA w1 (fun _ => True) r a1) := V1.out
    simp only [Option.getD_some]
    clear V1 hty hln
    go_wp2_with fail
    refine Calls.mono (NY.out r (by first | rfl | trivial)) ?_
    rintro e w2 ⟨rfl, hb2⟩
    have X2 : Hid (Ex w w2) := X1.out.trans hb2
    have CO : Hid _ := copiesT_any r a1 c1 w2 (by have := TYR.out.2; omega) TYR.out.1 (SA_ex V2.out hb2)
    clear hb2
    go_wp2_with fail
    refine Calls.mono CO.out ?_
    rintro e w4 ⟨a4, c4, rfl, hV4, hb4⟩
    have V4 : Hid (SA w4 (fun b => w.heap.size ≤ b) r a4) := SA_mono hV4 fun b _ h => Nat.le_trans X2.out.size h
    have X4 : Hid (Ex w w4) := X2.out.trans hb4
    clear hV4 hb4 CO
    go_wp2_with fail
    exact bodyPost_ret (v := .tuple #[.slice a4 (len r) c4, .bool true]) (by simp [results, Tryz.results10, go_sem]) rfl ⟨a4, c4, rfl, V4.out, X4.out⟩

end Go.Proofs.YtgpdnoghlommeaaGreatDoor
