/- The law that what is put changes no other part, walked. -/
import Derived.Test.YtomnekiiccbioaaM2
import Derived.Test.YtomnekiiccbioaaD9
import Derived.Test.YtomnekiiccbioaaV9
import Derived.Deep.RegionLaw
import Derived.Deep.CutRange
import Derived.Test.YtomnekiiccbioaaL4
namespace Go.Proofs.Ytomnekiiccbioaa
open Go.RowKit Go.Deep
attribute [local go_sem ↓] Go.wp_at_zero Go.wp_at_succ

theorem partF_get : ∀ (p : List Int) (r k : Nat) (u v : F), fits r u = true → partF u p = some v → k < p.length → p.getD k 0 = 0 ∨ p.getD k 0 = 1
  | [], r, k, u, v, _, _, hk => by simp at hk
  | i :: q, 0, k, u, v, h, _, _ => by simp [fits] at h
  | i :: q, r + 1, 0, u, v, h, hv, _ => by
    obtain ⟨hi, _⟩ := partF_cons hv
    have h2 : len u = 2 := by have := fits_len h; omega
    show i = 0 ∨ i = 1
    omega
  | i :: q, r + 1, k + 1, u, v, h, hv, hk => by
    obtain ⟨hi, hv'⟩ := partF_cons hv
    have h2 : len u = 2 := by have := fits_len h; omega
    rw [fits_two h2, Bool.and_eq_true] at h
    have : i.toNat = 0 ∨ i.toNat = 1 := by omega
    rw [List.getD_cons_succ]
    rcases this with e | e <;> rw [e] at hv'
    · exact partF_get q r k _ v h.1 hv' (by simpa using hk)
    · exact partF_get q r k _ v h.2 hv' (by simpa using hk)

theorem step_append_own' {P : Program} {w : World} {ops : Array Oper} {o : Oper} {a : Act} {K : Act → World → Prop} {Q : Exit → Act → World → Prop} {E : Prop} (hgd : o.guard = none) (s x : Operand) (t : TypeId)
    (ho : o.op = .call { callee := .builtin .append, args := #[s, x], argTypes := #[t, t] })
    (base : Nat) (e : TypeId) (i : TypeInfo) (z : Value) (size bytes : Nat) (ht : P.underlying t = some (.slice e)) (hi : P.info? e = some i) (hz : i.zero = some z)
    (hsize : i.size = size) (hby : i.bytes = bytes) (hzs : z.cells.size = size) (hsz : 0 < size)
    (v : Value) (n : Nat) (xs : List Value) (hs : a.eval s = v) (hown : w.ownsRow base e size v n xs)
    (ad : Addr) (m c : Nat) (news : List Value) (hx : a.eval x = .slice (some ad) m c) (hl : news.length = m * size) (hnews : ∀ j u, news[j]? = some u → w.cell? (ad.add j) = some u) (h1 : ∀ u ∈ news, u.oneCell' = true)
    (h63 : n + m ≤ maxLen) (hbytes : (n + m) * bytes ≤ 140737488355328) (hbase : base ≤ w.heap.size)
    (h : ∀ v' w', w'.ownsRow base e size v' (n + m) (xs ++ news) → w.grownBy w' v.ownBlock → K (a.put o.dst v') w') :
    if Region.wanted o (yielded ops a.tmps) = true then Oper.wp P o a w K Q else E := by
  have hw : Region.wanted o (yielded ops a.tmps) = true := by simp [Region.wanted, hgd]
  rw [if_pos hw]
  exact wp_append_own w s x t ho base e i z size bytes ht hi hz hsize hby hzs hsz v n xs hs hown ad m c news hx hl hnews h1 h63 hbytes hbase fun v' w' h2 h3 _ => h v' w' h2 h3

theorem own_empty {w : World} {B base : Nat} (h : w.heap[B]? = some (.cells #[] 3 (0, 0))) (hb : base ≤ B) : w.ownsRow base 3 1 (.slice (some ⟨B, 0, none⟩) 0 0) 0 [] :=
  ⟨rfl, Or.inr ⟨B, 0, #[], rfl, hb, h, Nat.le_refl _, by unfold maxLen; omega, rfl, rfl⟩⟩

theorem ex_grown {a b c : World} {v : Value} (h : Ex a b) (hg : b.grownBy c v.ownBlock) (hr : ∀ k, v.ownBlock = some k → a.heap.size ≤ k) : Ex a c :=
  ⟨hg.os.trans h.os, hg.tape.trans h.tape, hg.output.trans h.output, Nat.le_trans h.size hg.size, fun k hk => (hg.block k (Nat.lt_of_lt_of_le hk h.size) (fun e => by have := hr k e.symm; omega)).trans (h.block k hk)⟩

set_option maxRecDepth 100000 in
set_option maxHeartbeats 4000000 in
theorem lawValOther (n cc m' mc : Nat) (ca ma : Option Addr) (w : World) (hn : n ≤ cc) (hc : cc ≤ 9223372036854775807) (hB : By w n ca) :
    Calls Try.prog 10 #[.slice ca n cc, .slice ma m' mc] w fun e w' => e = .returned (.bool true) ∧ Ex w w' := by
  have B : Hid (By w n ca) := hB
  clear hB
  by_cases hbig : 1048576 < n
  · have d1 : decide ((1048576 : Int) < (n : Int)) = true := by simp; omega
    go_enter Try.func10, Try.ntmps10
    go_wp2_with fail
    go_ret
    exact ⟨rfl, Ex.refl _⟩
  have d1 : decide ((1048576 : Int) < (n : Int)) = false := by simp; omega
  by_cases hbig2 : 1048576 < m'
  · have d2 : decide ((1048576 : Int) < (m' : Int)) = true := by simp; omega
    go_enter Try.func10, Try.ntmps10
    go_wp2_with fail
    go_ret
    exact ⟨rfl, Ex.refl _⟩
  have d2 : decide ((1048576 : Int) < (m' : Int)) = false := by simp; omega
  go_enter Try.func10, Try.ntmps10
  go_wp2_with fail
  refine (DrawValPut_any n cc ca _ hn hc B.out).mono ?_
  rintro e w1 ⟨k, f, a, c, p, pa, pc, m, g, ag, cg, rfl, ⟨hv, hvl, hvs⟩, ⟨hpa, hpl, hpc, hpm, hpx⟩, ⟨hg, hgl, hgs⟩, hx1⟩
  obtain ⟨W1, hW1⟩ : ∃ W1, W1 = (w1.alloc (.cells #[.int .i64 k, .slice a (len f) c] 39)).alloc (.cells #[.int .i64 m, .slice ag (len g) cg] 39) := ⟨_, rfl⟩
  have X1 : Hid (Ex w1 W1) := hW1 ▸ ((Ex.new _ _).alloc _)
  have XW : Hid (Ex w W1) := hx1.trans X1.out
  have VV : Hid (∀ w', Ex W1 w' → VA w' 0 f a) := fun _ h => VA_lo (VA_below hv (X1.out.trans h)) (Nat.zero_le _)
  have VG : Hid (∀ w', Ex W1 w' → VA w' 0 g ag) := fun _ h => VA_lo (VA_below hg (X1.out.trans h)) (Nat.zero_le _)
  have PP : Hid (∀ w', Ex W1 w' → PA w' 0 p pa) := fun _ h => PA_below (PA_lo hpa (Nat.zero_le _)) (X1.out.trans h)
  have SF : Hid (len f ≤ 1000000000 ∧ Sm f) := ⟨hvl, hvs⟩
  have SG : Hid (len g ≤ 1000000000 ∧ Sm g) := ⟨hgl, hgs⟩
  have PX : Hid _ := hpx
  have CA : Hid (∀ w', Ex W1 w' → w'.cell? ⟨w1.heap.size, 0, none⟩ = some (.int .i64 k) ∧ w'.cell? ⟨w1.heap.size, 1, none⟩ = some (.slice a (len f) c) ∧ w'.cell? ⟨w1.heap.size + 1, 0, none⟩ = some (.int .i64 m) ∧ w'.cell? ⟨w1.heap.size + 1, 1, none⟩ = some (.slice ag (len g) cg)) := fun w' h => ⟨h.at (hW1 ▸ (by simp)), h.at (hW1 ▸ (by simp)), h.at (hW1 ▸ (by simp)), h.at (hW1 ▸ (by simp))⟩
  have IS : Hid (∀ w', Ex W1 w' → Calls Try.prog 39 #[.agg #[.int .i64 k, .slice a (len f) c], .slice pa p.length pc, .agg #[.int .i64 m, .slice ag (len g) cg]] w' (SPutPost (valPutR k f p m g) w')) := fun w' h => sValPut_any k f p m g a ag pa c cg pc 0 0 w' (by omega) hpc hpm hvl hvs hgl hgs (VV.out _ h) (VG.out _ h) (PP.out _ h)
  have II : Hid (∀ w', Ex W1 w' → Calls Try.prog 40 #[.agg #[.int .i64 k, .slice a (len f) c], .slice pa p.length pc, .agg #[.int .i64 m, .slice ag (len g) cg]] w' (PutPost (valPutR k f p m g) w')) := fun w' h => iValPut_any k f p m g a ag pa c cg pc 0 0 w' (by omega) hpc hpm (VV.out _ h) (VG.out _ h) (PP.out _ h)
  have SR : Hid (len (valPutR k f p m g).1.2 ≤ 1000000000 ∧ Sm (valPutR k f p m g).1.2) := put_sm k f p m g
  have z1 : w1.heap.size + 1 < W1.heap.size := by rw [hW1]; simp
  clear hv hg hvs hgs hpa hpx hx1
  have HR : Hid ((valPutR k f p m g).2 = true → putOk k f p m g = true ∧ valPutR k f p m g = (putV p k f m g, true)) := fun h => by
    cases hp : putOk k f p m g with
    | false => simp [valPutR, hp] at h
    | true => exact ⟨rfl, by simp [valPutR, hp]⟩
  obtain ⟨R, hR⟩ : ∃ R, R = valPutR k f p m g := ⟨_, rfl⟩
  rw [← hR] at IS II SR HR
  clear hR
  obtain ⟨⟨r1, r2⟩, ok⟩ := R
  simp only at SR HR
  have LR : Hid (∀ w' a' c' a'' c'', VA w' 0 r2 a' → VA w' 0 r2 a'' → Calls Try.prog 37 #[.agg #[.int .i64 r1, .slice a' (len r2) c'], .agg #[.int .i64 r1, .slice a'' (len r2) c'']] w' fun e w'' => e = .returned (.bool true) ∧ Ex w' w'') := fun w' a' c' a'' c'' h h' => by
    have := lhVal_any (dep r2 + 1) r1 r1 r2 r2 a' a'' c' c'' 0 0 w' (by omega) SR.out.1 SR.out.2 h h'
    rw [eqV_refl] at this; simpa using this
  go_wp2_with fail
  rw [← hW1]
  clear hW1
  refine Calls.mono (IS.out _ (Ex.refl _)) ?_
  rintro e w2 ⟨a2, c2, rfl, hv2, hb2⟩
  obtain ⟨qa, qb, qc, qd⟩ := CA.out w2 hb2
  have za : w1.heap.size < w2.heap.size := World.block_lt_of_cell? _ _ qa
  have zb : w1.heap.size + 1 < w2.heap.size := World.block_lt_of_cell? _ _ qc
  obtain ⟨W2, hW2⟩ : ∃ W2, W2 = w2.alloc (.cells #[.int .i64 r1, .slice a2 (len r2) c2] 39) := ⟨_, rfl⟩
  have X2 : Hid (Ex W1 W2) := hW2 ▸ hb2.trans (Ex.new _ _)
  have V2 : Hid (∀ w', Ex W2 w' → VA w' 0 r2 a2) := fun _ h => VA_lo (VA_below hv2 ((hW2 ▸ (Ex.new _ _ : Ex w2 (w2.alloc _)) : Ex w2 W2).trans h)) (Nat.zero_le _)
  have CB : Hid (∀ w', Ex W2 w' → w'.cell? ⟨w2.heap.size, 0, none⟩ = some (.int .i64 r1) ∧ w'.cell? ⟨w2.heap.size, 1, none⟩ = some (.slice a2 (len r2) c2)) := fun w' h => ⟨h.at (hW2 ▸ World.cell?_alloc_new _ _ _ _), h.at (hW2 ▸ World.cell?_alloc_new _ _ _ _)⟩
  clear hv2
  go_wp2_with fail
  rw [← hW2]
  clear hW2 qa qb qc qd
  refine Calls.mono (II.out _ X2.out) ?_
  rintro e w3 ⟨a3, c3, rfl, hv3, hb3⟩
  obtain ⟨qe, qf⟩ := CB.out w3 hb3
  have zc : w2.heap.size < w3.heap.size := World.block_lt_of_cell? _ _ qe
  obtain ⟨W3, hW3⟩ : ∃ W3, W3 = w3.alloc (.cells #[.int .i64 r1, .slice a3 (len r2) c3] 39) := ⟨_, rfl⟩
  have Y3 : Hid (Ex W2 W3) := hW3 ▸ hb3.trans (Ex.new _ _)
  have X3 : Hid (Ex W1 W3) := X2.out.trans Y3.out
  have V3 : Hid (∀ w', Ex W3 w' → VA w' 0 r2 a3) := fun _ h => VA_lo (VA_below (VS_mono hv3.vs fun _ _ hb => hb) ((hW3 ▸ (Ex.new _ _ : Ex w3 (w3.alloc _)) : Ex w3 W3).trans h)) (Nat.zero_le _)
  have CC : Hid (∀ w', Ex W3 w' → w'.cell? ⟨w3.heap.size, 0, none⟩ = some (.int .i64 r1) ∧ w'.cell? ⟨w3.heap.size, 1, none⟩ = some (.slice a3 (len r2) c3)) := fun w' h => ⟨h.at (hW3 ▸ World.cell?_alloc_new _ _ _ _), h.at (hW3 ▸ World.cell?_alloc_new _ _ _ _)⟩
  clear hv3
  cases ok
  · go_wp2_with fail
    rw [← hW3]
    clear hW3 qe qf
    refine (LR.out W3 a3 c3 a2 c2 (V3.out _ (Ex.refl _)) (V2.out _ Y3.out)).mono ?_
    rintro e w4 ⟨rfl, hb4⟩
    obtain ⟨qe, qf⟩ := CB.out w4 (Y3.out.trans hb4)
    obtain ⟨qg, qh⟩ := CC.out w4 hb4
    go_wp2_with fail
    refine (LR.out w4 a3 c3 a2 c2 (V3.out _ hb4) (V2.out _ (Y3.out.trans hb4))).mono ?_
    rintro e w5 ⟨rfl, hb5⟩
    go_wp2_with fail
    go_ret
    exact ⟨rfl, XW.out.trans (X3.out.trans (hb4.trans hb5))⟩
  obtain ⟨hok, hRR⟩ := HR.out rfl
  have OK : Hid (putOk k f p m g = true) := hok
  have e1 : (putV p k f m g) = (r1, r2) := (Prod.mk.inj hRR).1.symm
  have PV : Hid (putV p k f m g = (r1, r2)) := e1
  clear hok hRR e1 HR
  by_cases hp0 : p.length = 0
  · have e0 : ((p.length : Int) == 0) = true := by simp [hp0]
    have HP0 : Hid (p.length = 0) := hp0
    clear hp0
    go_wp2_with fail
    rw [← hW3]
    clear hW3 qe qf
    refine (LR.out W3 a3 c3 a2 c2 (V3.out _ (Ex.refl _)) (V2.out _ Y3.out)).mono ?_
    rintro e w4 ⟨rfl, hb4⟩
    obtain ⟨qe, qf⟩ := CB.out w4 (Y3.out.trans hb4)
    obtain ⟨qg, qh⟩ := CC.out w4 hb4
    go_wp2_with fail
    refine (LR.out w4 a3 c3 a2 c2 (V3.out _ hb4) (V2.out _ (Y3.out.trans hb4))).mono ?_
    rintro e w5 ⟨rfl, hb5⟩
    go_wp2_with fail
    go_ret
    exact ⟨rfl, XW.out.trans (X3.out.trans (hb4.trans hb5))⟩
  have e0 : ((p.length : Int) == 0) = false := by simp [hp0]
  have e0' : ¬ (p.length : Int) = 0 := by omega
  obtain ⟨i0, hi, hz0, hz1, hz2⟩ := info_parts Try.info3
  obtain ⟨gp, rfl⟩ : ∃ gp, pa = some ⟨gp, 0, none⟩ := by
    rcases PX.out with ⟨_, h⟩ | h
    · omega
    · exact h
  have OT : Hid (∀ j, j < p.length → ∃ x y, valAtR k f (p.take j ++ [1 - p.getD j 0]) = ((x, y), true) ∧ valAtR r1 r2 (p.take j ++ [1 - p.getD j 0]) = ((x, y), true) ∧ len y ≤ 1000000000 ∧ Sm y) := fun j hj => by
    have := put_other OK.out j hj
    rw [PV.out] at this; exact this
  have GT : Hid (∀ j, j < p.length → p.getD j 0 = 0 ∨ p.getD j 0 = 1) := fun j hj => by
    obtain ⟨u, v, hu, hv, _⟩ := put_ok OK.out
    exact partF_get p 4 j u v (vType_fits 4 k f u hu) hv hj
  have IA : Hid (∀ (q : List Int) (w' : World) (la : Option Addr) (lc : Nat), q.length ≤ 1002 → PA w' 0 q la → Ex W1 w' → Calls Try.prog 34 #[.agg #[.int .i64 k, .slice a (len f) c], .slice la q.length lc] w' (SPutPost (valAtR k f q) w')) := fun q w' la lc hq hpq h => iValAt_any k f q a c la lc 0 w' (by omega) (VV.out _ h) hpq
  have IB : Hid (∀ (q : List Int) (w' : World) (la : Option Addr) (lc : Nat), q.length ≤ 1002 → PA w' 0 q la → VA w' 0 r2 a3 → Calls Try.prog 34 #[.agg #[.int .i64 r1, .slice a3 (len r2) c3], .slice la q.length lc] w' (SPutPost (valAtR r1 r2 q) w')) := fun q w' la lc hq hpq h => iValAt_any r1 r2 q a3 c3 la lc 0 w' (by omega) h hpq
  go_wp2_with fail
  rw [← hW3]
  clear hW3 qe qf
  refine (LR.out W3 a3 c3 a2 c2 (V3.out _ (Ex.refl _)) (V2.out _ Y3.out)).mono ?_
  rintro e w4 ⟨rfl, hb4⟩
  have X4 : Hid (Ex W1 w4) := X3.out.trans hb4
  have hcm : (m' : Int).tmod (p.length : Int) = (m' : Int) % (p.length : Int) := Int.tmod_eq_emod_of_nonneg (by omega)
  go_upto_region 9 with fail
  have h0 : 0 ≤ (m' : Int) % (p.length : Int) := Int.emod_nonneg _ (by omega)
  have h1 : (m' : Int) % (p.length : Int) < (p.length : Int) := Int.emod_lt_of_pos (m' : Int) (by omega)
  clear hcm
  generalize (m' : Int) % (p.length : Int) = h at *
  have h2 : h ≤ (pc : Int) := by omega
  have hj : h.toNat < p.length := by omega
  obtain ⟨b', o', e', _, _, hcell⟩ := PA_at (PP.out w4 X4.out) (by omega)
  cases e'
  obtain ⟨x, hx⟩ : ∃ x, x = p.getD h.toNat 0 := ⟨_, rfl⟩
  have hck : w4.cell? ⟨gp, h.toNat, none⟩ = some (.int .i64 x) := by have := hcell h.toNat hj; rw [Nat.zero_add] at this; rw [hx]; exact this
  have hx01 : x = 0 ∨ x = 1 := hx ▸ GT.out h.toNat hj
  have hxl : 0 ≤ x := by omega
  have hxr : x ≤ 1 := by omega
  have hwr : IntKind.i64.wrap (1 - x) = 1 - x := by rw [IntKind.wrap_i64]; omega
  obtain ⟨q, hq⟩ : ∃ q, q = p.take h.toNat ++ [1 - x] := ⟨_, rfl⟩
  obtain ⟨x', y', ho1, ho2, hys⟩ := OT.out h.toNat hj
  rw [← hx, ← hq] at ho1 ho2
  have hql : q.length = h.toNat + 1 := by rw [hq, List.length_append, List.length_take]; simp; omega
  have hqs : q.length ≤ 1002 := by omega
  have NW : Hid (∀ w', Ex w4 w' → ∀ j u, ((p.take h.toNat).map (Value.int .i64))[j]? = some u → w'.cell? ((⟨gp, 0, none⟩ : Addr).add j) = some u) := fun w' hx4 j u hu => by
    have hj : j < h.toNat ∧ j < p.length := by
      rcases Nat.lt_or_ge j (p.take h.toNat).length with hh | hh
      · rw [List.length_take] at hh; omega
      · rw [List.getElem?_eq_none (by simpa using hh)] at hu; cases hu
    have := hx4.at (hcell j hj.2)
    rw [Go.WideShapes.add_plain, this]
    rw [List.getElem?_map, List.getElem?_take_of_lt hj.1] at hu
    simp [List.getD, hj.2] at hu ⊢
    exact hu
  have HQ : Hid (q = p.take h.toNat ++ [1 - x]) := hq
  have LT : Hid ((p.take h.toNat).length = h.toNat) := by show _ = _; rw [List.length_take]; omega
  clear hcell hx hx01 hq GT OT
  have zgp : gp < w4.heap.size := World.block_lt_of_cell? _ _ hck
  have HQL : Hid (q.length = h.toNat + 1) := hql
  clear hql
  go_cut [13] from 77 to 88 (fun p13 wx => Ex w4 wx ∧ ∃ la lc, p13 = .slice la q.length lc ∧ PA wx 0 q la)
  case first =>
    go_region_law (first
      | (refine step_append_own' (by rfl) _ _ _ (by rfl) w4.heap.size 3 i0 (.int .i64 0) 1 8 Try.underlying26 hi hz0 hz1 hz2 rfl (by omega) _ 0 [] (by rfl) (own_empty (by first | exact heap_alloc_at _ _ (by simp) | exact (Ex.new _ _).blk (heap_alloc_at _ _ (by simp))) (by first | exact Nat.le_refl _ | exact Nat.le_succ _ | (simp; omega))) ⟨gp, 0, none⟩ h.toNat pc ((p.take h.toNat).map (Value.int .i64)) (by rfl) (by rw [List.length_map, LT.out]; omega) (NW.out _ (by first | exact (Ex.refl _).drew.alloc _ | exact ((Ex.refl _).drew.alloc _).alloc _)) (fun u hu => by obtain ⟨_, _, rfl⟩ := List.mem_map.mp hu; rfl) (by unfold maxLen; omega) (by omega) (by simp <;> omega) ?_; intro v5 w5 hown5 hgrow5; have xb5 : Ex w4 w5 := ex_grown (by first | exact (Ex.refl _).drew.alloc _ | exact ((Ex.refl _).drew.alloc _).alloc _) hgrow5 (by intro kk hkk; simp [Value.ownBlock] at hkk; omega); have hck5 := xb5.at hck; have zg5 : gp < w5.heap.size := World.block_lt_of_cell? _ _ hck5; first | (have nb5 : w5.heap[w4.heap.size + 1]? = some (.cells #[.int .i64 (1 - x)] 3 (0, 0)) := (hgrow5.block _ (by simp) (by simp [Value.ownBlock])).trans (heap_alloc_at _ _ (by simp))) | (have nb5 : w5.heap[w4.heap.size]? = some (.cells #[.int .i64 (1 - x)] 3 (0, 0)) := (hgrow5.block _ (by simp <;> omega) (by simp [Value.ownBlock])).trans ((Ex.new _ _).blk (heap_alloc_at _ _ (by simp)))) | skip)
      | (refine step_append_own' (by rfl) _ _ _ (by rfl) w4.heap.size 3 i0 (.int .i64 0) 1 8 Try.underlying26 hi hz0 hz1 hz2 rfl (by omega) v5 (0 + h.toNat) ([] ++ (p.take h.toNat).map (Value.int .i64)) (by rfl) (by first | exact hown5 | exact World.ownsRow.alloc hown5 _) ⟨_, 0, none⟩ 1 1 [.int .i64 (1 - x)] (by rfl) (by rfl) (by first | exact World.news_of_block (cs := #[.int .i64 (1 - x)]) (t := 3) (fr := (0, 0)) (heap_alloc_new w5 _) | exact World.news_of_block (cs := #[.int .i64 (1 - x)]) (t := 3) (fr := (0, 0)) nb5) (by intro u hu; simp at hu; subst hu; rfl) (by unfold maxLen; omega) (by omega) (by have := xb5.size; first | omega | (rw [World.size_alloc]; omega)) ?_; intro v6 w6 hown6 hgrow6; have xb6 : Ex w4 w6 := ex_grown (by first | exact xb5 | exact xb5.alloc _) hgrow6 (owns_row hown5)))
    all_goals
      have O6 : Own w6 w4.heap.size v6 q := by
        show World.ownsRow _ _ _ _ _ _ _
        rw [HQ.out, List.length_append, List.map_append, LT.out]
        have := hown6
        rw [Nat.zero_add, List.nil_append] at this; exact this
      obtain ⟨la, lc, hv6, hpq, _⟩ := O6.PA
      subst hv6
      go_wp2_with fail
      go_meet
      exact ⟨xb6, la, lc, rfl, PA_lo hpq (Nat.zero_le _)⟩
  case rest =>
    rename World => w7
    obtain ⟨hx7, la, lc, rfl, hpq⟩ := hcut
    have PQ : Hid (∀ w', Ex w7 w' → PA w' 0 q la) := fun _ h => PA_below hpq h
    have X7 : Hid (Ex W1 w7) := X4.out.trans hx7
    have Z7 : Hid (Ex W3 w7) := hb4.trans hx7
    have IA' : Hid (Calls Try.prog 34 #[.agg #[.int .i64 k, .slice a (len f) c], .slice la q.length lc] w7 (SPutPost ((x', y'), true) w7)) := by
      have := IA.out q w7 la lc hqs (PQ.out _ (Ex.refl _)) X7.out
      rw [ho1] at this; exact this
    have IB' : Hid (∀ w', Ex w7 w' → Calls Try.prog 34 #[.agg #[.int .i64 r1, .slice a3 (len r2) c3], .slice la q.length lc] w' (SPutPost ((x', y'), true) w')) := fun w' h => by
      have := IB.out q w' la lc hqs (PQ.out _ h) (V3.out _ (Z7.out.trans h))
      rw [ho2] at this; exact this
    have LY : Hid (∀ w' a' c' a'' c'', VA w' 0 y' a' → VA w' 0 y' a'' → Calls Try.prog 37 #[.agg #[.int .i64 x', .slice a' (len y') c'], .agg #[.int .i64 x', .slice a'' (len y') c'']] w' fun e w'' => e = .returned (.bool true) ∧ Ex w' w'') := fun w' a' c' a'' c'' h h' => by
      have := lhVal_any (dep y' + 1) x' x' y' y' a' a'' c' c'' 0 0 w' (by omega) hys.1 hys.2 h h'
      rw [eqV_refl] at this; simpa using this
    obtain ⟨qa, qb, qc, qd⟩ := CA.out w7 X7.out
    have za7 : w1.heap.size < w7.heap.size := World.block_lt_of_cell? _ _ qa
    clear hpq ho1 ho2 hck NW IA IB hys
    go_wp2_with fail
    refine Calls.mono IA'.out ?_
    rintro e w8 ⟨a8, c8, rfl, hv8, hb8⟩
    obtain ⟨qg, qh⟩ := CC.out w8 (Z7.out.trans hb8)
    have zb8 : w3.heap.size < w8.heap.size := World.block_lt_of_cell? _ _ qg
    clear qa qb qc qd
    go_wp2_with fail
    refine Calls.mono (IB'.out _ (hb8.trans (Ex.new _ _))) ?_
    rintro e w9 ⟨a9, c9, rfl, hv9, hb9⟩
    have qi : w9.cell? ⟨w8.heap.size, 0, none⟩ = some (.int .i64 x') := hb9.at (World.cell?_alloc_new _ _ _ _)
    have qj : w9.cell? ⟨w8.heap.size, 1, none⟩ = some (.slice a8 (len y') c8) := hb9.at (World.cell?_alloc_new _ _ _ _)
    have zc9 : w8.heap.size < w9.heap.size := World.block_lt_of_cell? _ _ qi
    have V8 : Hid (VA (w9.alloc (.cells #[.int .i64 x', .slice a9 (len y') c9] 39)) 0 y' a8) := VA_lo (VA_below hv8 ((Ex.new _ _).trans (hb9.trans (Ex.new _ _)))) (Nat.zero_le _)
    have V9 : Hid (VA (w9.alloc (.cells #[.int .i64 x', .slice a9 (len y') c9] 39)) 0 y' a9) := VA_lo (VA_below hv9 (Ex.new _ _)) (Nat.zero_le _)
    clear hv8 hv9 qg qh
    go_wp2_with fail
    refine (LY.out _ a8 c8 a9 c9 V8.out V9.out).mono ?_
    rintro e w10 ⟨rfl, hb10⟩
    go_wp2_with fail
    go_ret
    exact ⟨rfl, XW.out.trans (X7.out.trans (hb8.trans ((Ex.new _ _).trans (hb9.trans ((Ex.new _ _).trans hb10)))))⟩

end Go.Proofs.Ytomnekiiccbioaa
