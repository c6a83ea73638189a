/- The law that where there is no part nothing is put, walked. -/
import Derived.Test.YtomnekiiccbioaaM2
import Derived.Test.YtomnekiiccbioaaD9
import Derived.Test.YtomnekiiccbioaaV9
import Derived.Laws.AppendOwnNone
import Derived.Test.YtomnekiiccbioaaL4
namespace Go.Proofs.Ytomnekiiccbioaa
open Go.RowKit Go.Deep
attribute [local go_sem ↓] Go.wp_at_zero Go.wp_at_succ

set_option maxRecDepth 100000 in
set_option maxHeartbeats 4000000 in
theorem lawValNone (n cc : Nat) (ca : Option Addr) (w : World) (hn : n ≤ cc) (hc : cc ≤ 9223372036854775807) (hB : By w n ca) :
    Calls Try.prog 14 #[.slice ca n cc] w fun e w' => e = .returned (.bool true) ∧ Ex w w' := by
  have B : Hid (By w n ca) := hB
  clear hB
  by_cases hbig : 1048576 < n
  · have d1 : decide ((1048576 : Int) < (n : Int)) = true := by simp; omega
    go_enter Try.func14, Try.ntmps14
    go_wp2_with fail
    go_ret
    exact ⟨rfl, Ex.refl _⟩
  have d1 : decide ((1048576 : Int) < (n : Int)) = false := by simp; omega
  go_enter Try.func14, Try.ntmps14
  go_wp2_with fail
  refine (DrawValPut_any n cc ca _ hn hc B.out).mono ?_
  rintro e w1 ⟨k, f, a, c, p, pa, pc, m, g, ag, cg, rfl, ⟨hv, hvl, hvs⟩, ⟨hpa, hpl, hpc, hpm, hpx⟩, ⟨hg, hgl, hgs⟩, hx1⟩
  obtain ⟨W1, hW1⟩ : ∃ W1, W1 = (w1.alloc (.cells #[.int .i64 k, .slice a (len f) c] 39)).alloc (.cells #[.int .i64 m, .slice ag (len g) cg] 39) := ⟨_, rfl⟩
  have X1 : Hid (Ex w1 W1) := hW1 ▸ ((Ex.new _ _).alloc _)
  have XW : Hid (Ex w W1) := hx1.trans X1.out
  have VV : Hid (∀ w', Ex W1 w' → VA w' 0 f a) := fun _ h => VA_lo (VA_below hv (X1.out.trans h)) (Nat.zero_le _)
  have VG : Hid (∀ w', Ex W1 w' → VA w' 0 g ag) := fun _ h => VA_lo (VA_below hg (X1.out.trans h)) (Nat.zero_le _)
  have PP : Hid (∀ w', Ex W1 w' → PA w' 0 p pa) := fun _ h => PA_below (PA_lo hpa (Nat.zero_le _)) (X1.out.trans h)
  have SF : Hid (len f ≤ 1000000000 ∧ Sm f) := ⟨hvl, hvs⟩
  have SG : Hid (len g ≤ 1000000000 ∧ Sm g) := ⟨hgl, hgs⟩
  have PX : Hid _ := hpx
  have CA : Hid (∀ w', Ex W1 w' → w'.cell? ⟨w1.heap.size, 0, none⟩ = some (.int .i64 k) ∧ w'.cell? ⟨w1.heap.size, 1, none⟩ = some (.slice a (len f) c) ∧ w'.cell? ⟨w1.heap.size + 1, 0, none⟩ = some (.int .i64 m) ∧ w'.cell? ⟨w1.heap.size + 1, 1, none⟩ = some (.slice ag (len g) cg)) := fun w' h => ⟨h.at (hW1 ▸ (by simp)), h.at (hW1 ▸ (by simp)), h.at (hW1 ▸ (by simp)), h.at (hW1 ▸ (by simp))⟩
  have IS : Hid (∀ w', Ex W1 w' → Calls Try.prog 39 #[.agg #[.int .i64 k, .slice a (len f) c], .slice pa p.length pc, .agg #[.int .i64 m, .slice ag (len g) cg]] w' (SPutPost (valPutR k f p m g) w')) := fun w' h => sValPut_any k f p m g a ag pa c cg pc 0 0 w' (by omega) hpc hpm hvl hvs hgl hgs (VV.out _ h) (VG.out _ h) (PP.out _ h)
  have II : Hid (∀ w', Ex W1 w' → Calls Try.prog 40 #[.agg #[.int .i64 k, .slice a (len f) c], .slice pa p.length pc, .agg #[.int .i64 m, .slice ag (len g) cg]] w' (PutPost (valPutR k f p m g) w')) := fun w' h => iValPut_any k f p m g a ag pa c cg pc 0 0 w' (by omega) hpc hpm (VV.out _ h) (VG.out _ h) (PP.out _ h)
  have SR : Hid (len (valPutR k f p m g).1.2 ≤ 1000000000 ∧ Sm (valPutR k f p m g).1.2) := put_sm k f p m g
  have z1 : w1.heap.size + 1 < W1.heap.size := by rw [hW1]; simp
  clear hv hg hvs hgs hpa hpx hx1
  have LN : Hid (∀ w' a' c' a'' c'', Calls Try.prog 37 #[.agg #[.int .i64 0, .slice a' 0 c'], .agg #[.int .i64 0, .slice a'' 0 c'']] w' fun e w'' => e = .returned (.bool true) ∧ Ex w' w'') := fun w' a' c' a'' c'' => by
    have := lhVal_any 1 0 0 .nil .nil a' a'' c' c'' 0 0 w' (by simp [dep]) (by simp [len]) trivial (Or.inl rfl) (Or.inl rfl)
    rw [eqV_refl] at this; simpa [len] using this
  have NO : Hid (∀ q : List Int, 4 ≤ q.length → q.length ≤ 2000 → ∀ w' la lc, q.length ≤ lc → lc ≤ 9223372036854775807 → PA w' 0 q la → Ex W1 w' → Calls Try.prog 40 #[.agg #[.int .i64 k, .slice a (len f) c], .slice la q.length lc, .agg #[.int .i64 m, .slice ag (len g) cg]] w' (PutPost ((0, .nil), false) w')) := fun q hq hq' w' la lc h1 h2 h3 h => by
    have := iValPut_any k f q m g a ag la c cg lc 0 0 w' (by omega) h1 h2 (VV.out _ h) (VG.out _ h) h3
    rw [(put_none hq).1] at this; exact this
  have NA : Hid (∀ q : List Int, 4 ≤ q.length → q.length ≤ 2000 → ∀ w' la lc, PA w' 0 q la → Ex W1 w' → Calls Try.prog 34 #[.agg #[.int .i64 k, .slice a (len f) c], .slice la q.length lc] w' (SPutPost ((0, .nil), false) w')) := fun q hq hq' w' la lc h3 h => by
    have := iValAt_any k f q a c la lc 0 w' (by omega) (VV.out _ h) h3
    rw [(put_none (m := m) (g := g) hq).2] at this; exact this
  obtain ⟨R, hR⟩ : ∃ R, R = valPutR k f p m g := ⟨_, rfl⟩
  rw [← hR] at IS II SR
  clear hR
  obtain ⟨⟨r1, r2⟩, ok⟩ := R
  simp only at SR
  have LR : Hid (∀ w' a' c' a'' c'', VA w' 0 r2 a' → VA w' 0 r2 a'' → Calls Try.prog 37 #[.agg #[.int .i64 r1, .slice a' (len r2) c'], .agg #[.int .i64 r1, .slice a'' (len r2) c'']] w' fun e w'' => e = .returned (.bool true) ∧ Ex w' w'') := fun w' a' c' a'' c'' h h' => by
    have := lhVal_any (dep r2 + 1) r1 r1 r2 r2 a' a'' c' c'' 0 0 w' (by omega) SR.out.1 SR.out.2 h h'
    rw [eqV_refl] at this; simpa using this
  obtain ⟨i0, hi, hz0, hz1, hz2⟩ := info_parts Try.info3
  have HW1 : Hid (W1 = _) := hW1
  have zsz : W1.heap.size = w1.heap.size + 1 + 1 := by rw [hW1, World.size_alloc, World.size_alloc]
  have O0 : Hid (Own (W1.alloc (.cells #[] 3)) W1.heap.size (.slice (some ⟨w1.heap.size + 1 + 1, 0, none⟩) 0 0) []) := by
    show Own _ _ _ _
    rw [← zsz]
    exact ⟨rfl, Or.inr ⟨W1.heap.size, 0, #[], rfl, Nat.le_refl _, heap_alloc_new _ _, Nat.le_refl _, by unfold maxLen; omega, rfl, rfl⟩⟩
  have hok : (ok == ok) = true := by cases ok <;> rfl
  clear zsz
  have ZS : Hid (W1.heap.size = w1.heap.size + 1 + 1) := by show _ = _; rw [hW1, World.size_alloc, World.size_alloc]
  have HW : Hid ((w1.alloc (.cells #[.int .i64 k, .slice a (len f) c] 39)).alloc (.cells #[.int .i64 m, .slice ag (len g) cg] 39) = W1) := HW1.out.symm
  clear hW1
  rcases PX.out with ⟨rfl, rfl⟩ | ⟨gp, rfl⟩
  · have hp0 : p = [] := by cases p with | nil => rfl | cons _ _ => simp at hpc
    subst hp0
    have X3 : Hid (Ex W1 (W1.alloc (.cells #[] 3))) := Ex.new _ _
    have O3 : Hid (Own (W1.alloc (.cells #[] 3)) W1.heap.size (.slice (some ⟨w1.heap.size + 1 + 1, 0, none⟩) 0 0) []) := O0.out
    have hlen : ([] ++ [(0 : Int), 1, 0, 1]).length = 0 + 4 := by simp
    go_wp2_with (first | (at_builtin; rw [HW.out]; refine wpList_append_own_none rfl (.tmp 24) (.tmp 25) 26 rfl W1.heap.size 3 i0 1 Try.underlying26 hi (.slice (some ⟨w1.heap.size + 1 + 1, 0, none⟩) 0 0) 0 [] rfl O0.out rfl ?_) | (at_builtin; refine wpList_append_own _ rfl (.tmp 26) (.tmp 27) 26 rfl W1.heap.size 3 i0 (.int .i64 0) 1 8 Try.underlying26 hi hz0 hz1 hz2 rfl (by decide) (.slice (some ⟨w1.heap.size + 1 + 1, 0, none⟩) 0 0) 0 [] rfl (World.ownsRow.alloc O3.out _) ⟨_, 0, none⟩ 4 4 [.int .i64 0, .int .i64 1, .int .i64 0, .int .i64 1] rfl rfl ?c1 ?c2 ?c3 ?c4 ?c5 ?_))
    case c1 => exact World.news_of_block (cs := #[.int .i64 0, .int .i64 1, .int .i64 0, .int .i64 1]) (t := 3) (fr := (0, 0)) (heap_alloc_at _ _ (by simp [ZS.out]))
    case c2 => intro u hu; simp at hu; rcases hu with rfl | rfl | rfl | rfl <;> rfl
    case c3 => unfold maxLen; omega
    case c4 => omega
    case c5 => rw [World.size_alloc]; have := X3.out.size; omega
    intro v4 w4 hown4 hgrow _
    have hbl : Below W1.heap.size (W1.alloc (.cells #[] 3)) w4 := ((Below.refl _ (W1.alloc (.cells #[] 3))).alloc (by have := X3.out.size; omega) _).grown hgrow (by rw [World.size_alloc]; have := X3.out.size; omega) O3.out.row
    have X4 : Hid (Ex W1 w4) := Below.trans X3.out hbl
    have O4 : Own w4 W1.heap.size v4 ([] ++ [0, 1, 0, 1]) := by
      show World.ownsRow _ _ _ _ _ _ _
      rw [List.length_append, List.map_append]; exact hown4
    obtain ⟨q, hq⟩ : ∃ q, q = [] ++ [(0 : Int), 1, 0, 1] := ⟨_, rfl⟩
    rw [← hq] at O4 hlen
    obtain ⟨la, lc, hv4, hpq, hlc, hlm, _⟩ := O4.PA
    subst hv4
    have hq4 : 4 ≤ q.length := by omega
    have hq5 : q.length ≤ 2000 := by omega
    have PQ : Hid (∀ w', Ex w4 w' → PA w' 0 q la) := fun _ h => PA_below (PA_lo hpq (Nat.zero_le _)) h
    clear hown4 hgrow hbl O4 hpq hq hlen O3
    obtain ⟨qa, qb, qc, qd⟩ := CA.out w4 X4.out
    have za : w1.heap.size < w4.heap.size := World.block_lt_of_cell? _ _ qa
    have zb : w1.heap.size + 1 < w4.heap.size := World.block_lt_of_cell? _ _ qc
    go_wp2_with fail
    refine Calls.mono (NO.out q hq4 hq5 w4 la lc hlc hlm (PQ.out _ (Ex.refl _)) X4.out) ?_
    rintro e w5 ⟨a5, c5, rfl, hv5, hb5⟩
    simp only [len]
    clear qa qb qc qd hv5
    obtain ⟨W5, hW5⟩ : ∃ W5, W5 = w5.alloc (.cells #[.int .i64 0, .slice a5 0 c5] 39) := ⟨_, rfl⟩
    have N5 : Ex w5 W5 := hW5 ▸ Ex.new _ _
    have X5 : Hid (Ex W1 W5) := X4.out.trans (hb5.trans N5)
    have Y5 : Hid (Ex w4 W5) := hb5.trans N5
    have CE : Hid (∀ w', Ex W5 w' → w'.cell? ⟨w5.heap.size, 0, none⟩ = some (.int .i64 0) ∧ w'.cell? ⟨w5.heap.size, 1, none⟩ = some (.slice a5 0 c5)) := fun w' h => ⟨h.at (hW5 ▸ World.cell?_alloc_new _ _ _ _), h.at (hW5 ▸ World.cell?_alloc_new _ _ _ _)⟩
    obtain ⟨qa, qb, qc, qd⟩ := CA.out w5 (X4.out.trans hb5)
    have zc : w1.heap.size < w5.heap.size := World.block_lt_of_cell? _ _ qa
    go_wp2_with fail
    rw [← hW5]
    clear hW5 N5 qa qb qc qd
    refine Calls.mono (NA.out q hq4 hq5 W5 la lc (PQ.out _ Y5.out) X5.out) ?_
    rintro e w6 ⟨a6, c6, rfl, hv6, hb6⟩
    simp only [len]
    clear hv6
    obtain ⟨W6, hW6⟩ : ∃ W6, W6 = w6.alloc (.cells #[.int .i64 0, .slice a6 0 c6] 39) := ⟨_, rfl⟩
    have N6 : Ex w6 W6 := hW6 ▸ Ex.new _ _
    have X6 : Hid (Ex W1 W6) := X5.out.trans (hb6.trans N6)
    have Y6 : Hid (Ex W5 W6) := hb6.trans N6
    have CF : Hid (∀ w', Ex W6 w' → w'.cell? ⟨w6.heap.size, 0, none⟩ = some (.int .i64 0) ∧ w'.cell? ⟨w6.heap.size, 1, none⟩ = some (.slice a6 0 c6)) := fun w' h => ⟨h.at (hW6 ▸ World.cell?_alloc_new _ _ _ _), h.at (hW6 ▸ World.cell?_alloc_new _ _ _ _)⟩
    obtain ⟨qa, qb, qc, qd⟩ := CA.out w6 (X5.out.trans hb6)
    have zd : w1.heap.size < w6.heap.size := World.block_lt_of_cell? _ _ qa
    have ze : w1.heap.size + 1 < w6.heap.size := World.block_lt_of_cell? _ _ qc
    go_wp2_with fail
    rw [← hW6]
    clear hW6 N6 qa qb qc qd
    refine Calls.mono (II.out W6 X6.out) ?_
    rintro e w7 ⟨a7, c7, rfl, hv7, hb7⟩
    obtain ⟨W7, hW7⟩ : ∃ W7, W7 = w7.alloc (.cells #[.int .i64 r1, .slice a7 (len r2) c7] 39) := ⟨_, rfl⟩
    have N7 : Ex w7 W7 := hW7 ▸ Ex.new _ _
    have X7 : Hid (Ex W1 W7) := X6.out.trans (hb7.trans N7)
    have Y7 : Hid (Ex W6 W7) := hb7.trans N7
    have V7 : Hid (∀ w', Ex W7 w' → VA w' 0 r2 a7) := fun _ h => VA_lo (VA_below (VS_mono hv7.vs fun _ _ hb => hb) (N7.trans h)) (Nat.zero_le _)
    have CG : Hid (∀ w', Ex W7 w' → w'.cell? ⟨w7.heap.size, 0, none⟩ = some (.int .i64 r1) ∧ w'.cell? ⟨w7.heap.size, 1, none⟩ = some (.slice a7 (len r2) c7)) := fun w' h => ⟨h.at (hW7 ▸ World.cell?_alloc_new _ _ _ _), h.at (hW7 ▸ World.cell?_alloc_new _ _ _ _)⟩
    obtain ⟨qa, qb, qc, qd⟩ := CA.out w7 (X6.out.trans hb7)
    have zf : w1.heap.size < w7.heap.size := World.block_lt_of_cell? _ _ qa
    have zg : w1.heap.size + 1 < w7.heap.size := World.block_lt_of_cell? _ _ qc
    clear hv7
    go_wp2_with fail
    rw [← hW7]
    clear hW7 N7 qa qb qc qd
    refine Calls.mono (IS.out W7 X7.out) ?_
    rintro e w8 ⟨a8, c8, rfl, hv8, hb8⟩
    obtain ⟨W8, hW8⟩ : ∃ W8, W8 = w8.alloc (.cells #[.int .i64 r1, .slice a8 (len r2) c8] 39) := ⟨_, rfl⟩
    have N8 : Ex w8 W8 := hW8 ▸ Ex.new _ _
    have X8 : Hid (Ex W1 W8) := X7.out.trans (hb8.trans N8)
    have Y8 : Hid (Ex W7 W8) := hb8.trans N8
    have V8 : Hid (∀ w', Ex W8 w' → VA w' 0 r2 a8) := fun _ h => VA_lo (VA_below hv8 (N8.trans h)) (Nat.zero_le _)
    have CH : Hid (∀ w', Ex W8 w' → w'.cell? ⟨w8.heap.size, 0, none⟩ = some (.int .i64 r1) ∧ w'.cell? ⟨w8.heap.size, 1, none⟩ = some (.slice a8 (len r2) c8)) := fun w' h => ⟨h.at (hW8 ▸ World.cell?_alloc_new _ _ _ _), h.at (hW8 ▸ World.cell?_alloc_new _ _ _ _)⟩
    obtain ⟨qe, qf⟩ := CE.out w8 (Y6.out.trans (Y7.out.trans hb8))
    have zh : w5.heap.size < w8.heap.size := World.block_lt_of_cell? _ _ qe
    clear hv8
    go_wp2_with fail
    rw [← hW8]
    clear hW8 N8 qe qf
    refine (LN.out W8 a5 c5 none 0).mono ?_
    rintro e w9 ⟨rfl, hb9⟩
    obtain ⟨qe, qf⟩ := CF.out w9 (Y7.out.trans (Y8.out.trans hb9))
    go_wp2_with fail
    refine (LN.out w9 a6 c6 none 0).mono ?_
    rintro e w10 ⟨rfl, hb10⟩
    clear qe qf
    obtain ⟨qe, qf⟩ := CG.out w10 (Y8.out.trans (hb9.trans hb10))
    obtain ⟨qg, qh⟩ := CH.out w10 (hb9.trans hb10)
    go_wp2_with fail
    refine (LR.out w10 a7 c7 a8 c8 (V7.out _ (Y8.out.trans (hb9.trans hb10))) (V8.out _ (hb9.trans hb10))).mono ?_
    rintro e w11 ⟨rfl, hb11⟩
    go_wp2_with fail
    go_ret
    exact ⟨rfl, XW.out.trans (X8.out.trans (hb9.trans (hb10.trans hb11)))⟩
  · have hnew : ∀ j u, (p.map (Value.int .i64))[j]? = some u → (W1.alloc (.cells #[] 3)).cell? ((⟨gp, 0, none⟩ : Addr).add j) = some u := fun j u hu => by
      have hj : j < p.length := by
        rcases Nat.lt_or_ge j p.length with h | h
        · exact h
        · rw [List.getElem?_eq_none (by simpa using h)] at hu; cases hu
      obtain ⟨b', o', e', _, _, hcell⟩ := PA_at (PP.out (W1.alloc (.cells #[] 3)) (Ex.new _ _)) (by omega)
      cases e'
      rw [Go.WideShapes.add_plain, hcell j hj]
      rw [List.getElem?_map] at hu
      simp [List.getD, hj] at hu ⊢
      exact hu
    have HN : Hid _ := hnew
    clear hnew
    go_wp2_with (at_builtin; rw [HW.out]; refine wpList_append_own _ rfl (.tmp 24) (.tmp 25) 26 rfl W1.heap.size 3 i0 (.int .i64 0) 1 8 Try.underlying26 hi hz0 hz1 hz2 rfl (by decide) (.slice (some ⟨w1.heap.size + 1 + 1, 0, none⟩) 0 0) 0 [] rfl O0.out ⟨gp, 0, none⟩ p.length pc (p.map (Value.int .i64)) rfl ?d1 HN.out ?d2 ?d3 ?d4 ?d5 ?_)
    case d1 => simp
    case d2 => intro u hu; simp at hu; obtain ⟨x, _, rfl⟩ := hu; rfl
    case d3 => unfold maxLen; omega
    case d4 => omega
    case d5 => rw [World.size_alloc]; omega
    intro v3 w3 hown3 hgrow3 _
    have hbl3 : Below W1.heap.size W1 w3 := ((Below.refl _ W1).alloc (Nat.le_refl _) _).grown hgrow3 (by rw [World.size_alloc]; omega) O0.out.row
    have X3 : Hid (Ex W1 w3) := hbl3
    have O3 : Hid (Own w3 W1.heap.size v3 p) := by
      show World.ownsRow _ _ _ _ _ _ _
      first | exact hown3 | (have := hown3; rw [Nat.zero_add, List.nil_append] at this; exact this)
    clear hown3 hgrow3 hbl3 HN HW HW1
    have hlen : (p ++ [(0 : Int), 1, 0, 1]).length = p.length + 4 := by simp
    go_wp2_with (at_builtin; refine wpList_append_own _ rfl (.tmp 26) (.tmp 27) 26 rfl W1.heap.size 3 i0 (.int .i64 0) 1 8 Try.underlying26 hi hz0 hz1 hz2 rfl (by decide) v3 p.length (p.map (Value.int .i64)) rfl (World.ownsRow.alloc O3.out _) ⟨w3.heap.size, 0, none⟩ 4 4 [.int .i64 0, .int .i64 1, .int .i64 0, .int .i64 1] rfl rfl ?c1 ?c2 ?c3 ?c4 ?c5 ?_)
    case c1 => exact World.news_of_block (cs := #[.int .i64 0, .int .i64 1, .int .i64 0, .int .i64 1]) (t := 3) (fr := (0, 0)) (heap_alloc_new w3 _)
    case c2 => intro u hu; simp at hu; rcases hu with rfl | rfl | rfl | rfl <;> rfl
    case c3 => unfold maxLen; omega
    case c4 => omega
    case c5 => rw [World.size_alloc]; have := X3.out.size; omega
    intro v4 w4 hown4 hgrow _
    have hbl : Below W1.heap.size w3 w4 := ((Below.refl _ w3).alloc (by have := X3.out.size; omega) _).grown hgrow (by rw [World.size_alloc]; have := X3.out.size; omega) O3.out.row
    have X4 : Hid (Ex W1 w4) := Below.trans X3.out hbl
    have O4 : Own w4 W1.heap.size v4 (p ++ [0, 1, 0, 1]) := by
      show World.ownsRow _ _ _ _ _ _ _
      rw [List.length_append, List.map_append]; exact hown4
    obtain ⟨q, hq⟩ : ∃ q, q = p ++ [(0 : Int), 1, 0, 1] := ⟨_, rfl⟩
    rw [← hq] at O4 hlen
    obtain ⟨la, lc, hv4, hpq, hlc, hlm, _⟩ := O4.PA
    subst hv4
    have hq4 : 4 ≤ q.length := by omega
    have hq5 : q.length ≤ 2000 := by omega
    have PQ : Hid (∀ w', Ex w4 w' → PA w' 0 q la) := fun _ h => PA_below (PA_lo hpq (Nat.zero_le _)) h
    clear hown4 hgrow hbl O4 hpq hq hlen O3
    obtain ⟨qa, qb, qc, qd⟩ := CA.out w4 X4.out
    have za : w1.heap.size < w4.heap.size := World.block_lt_of_cell? _ _ qa
    have zb : w1.heap.size + 1 < w4.heap.size := World.block_lt_of_cell? _ _ qc
    go_wp2_with fail
    refine Calls.mono (NO.out q hq4 hq5 w4 la lc hlc hlm (PQ.out _ (Ex.refl _)) X4.out) ?_
    rintro e w5 ⟨a5, c5, rfl, hv5, hb5⟩
    simp only [len]
    clear qa qb qc qd hv5
    obtain ⟨W5, hW5⟩ : ∃ W5, W5 = w5.alloc (.cells #[.int .i64 0, .slice a5 0 c5] 39) := ⟨_, rfl⟩
    have N5 : Ex w5 W5 := hW5 ▸ Ex.new _ _
    have X5 : Hid (Ex W1 W5) := X4.out.trans (hb5.trans N5)
    have Y5 : Hid (Ex w4 W5) := hb5.trans N5
    have CE : Hid (∀ w', Ex W5 w' → w'.cell? ⟨w5.heap.size, 0, none⟩ = some (.int .i64 0) ∧ w'.cell? ⟨w5.heap.size, 1, none⟩ = some (.slice a5 0 c5)) := fun w' h => ⟨h.at (hW5 ▸ World.cell?_alloc_new _ _ _ _), h.at (hW5 ▸ World.cell?_alloc_new _ _ _ _)⟩
    obtain ⟨qa, qb, qc, qd⟩ := CA.out w5 (X4.out.trans hb5)
    have zc : w1.heap.size < w5.heap.size := World.block_lt_of_cell? _ _ qa
    go_wp2_with fail
    rw [← hW5]
    clear hW5 N5 qa qb qc qd
    refine Calls.mono (NA.out q hq4 hq5 W5 la lc (PQ.out _ Y5.out) X5.out) ?_
    rintro e w6 ⟨a6, c6, rfl, hv6, hb6⟩
    simp only [len]
    clear hv6
    obtain ⟨W6, hW6⟩ : ∃ W6, W6 = w6.alloc (.cells #[.int .i64 0, .slice a6 0 c6] 39) := ⟨_, rfl⟩
    have N6 : Ex w6 W6 := hW6 ▸ Ex.new _ _
    have X6 : Hid (Ex W1 W6) := X5.out.trans (hb6.trans N6)
    have Y6 : Hid (Ex W5 W6) := hb6.trans N6
    have CF : Hid (∀ w', Ex W6 w' → w'.cell? ⟨w6.heap.size, 0, none⟩ = some (.int .i64 0) ∧ w'.cell? ⟨w6.heap.size, 1, none⟩ = some (.slice a6 0 c6)) := fun w' h => ⟨h.at (hW6 ▸ World.cell?_alloc_new _ _ _ _), h.at (hW6 ▸ World.cell?_alloc_new _ _ _ _)⟩
    obtain ⟨qa, qb, qc, qd⟩ := CA.out w6 (X5.out.trans hb6)
    have zd : w1.heap.size < w6.heap.size := World.block_lt_of_cell? _ _ qa
    have ze : w1.heap.size + 1 < w6.heap.size := World.block_lt_of_cell? _ _ qc
    go_wp2_with fail
    rw [← hW6]
    clear hW6 N6 qa qb qc qd
    refine Calls.mono (II.out W6 X6.out) ?_
    rintro e w7 ⟨a7, c7, rfl, hv7, hb7⟩
    obtain ⟨W7, hW7⟩ : ∃ W7, W7 = w7.alloc (.cells #[.int .i64 r1, .slice a7 (len r2) c7] 39) := ⟨_, rfl⟩
    have N7 : Ex w7 W7 := hW7 ▸ Ex.new _ _
    have X7 : Hid (Ex W1 W7) := X6.out.trans (hb7.trans N7)
    have Y7 : Hid (Ex W6 W7) := hb7.trans N7
    have V7 : Hid (∀ w', Ex W7 w' → VA w' 0 r2 a7) := fun _ h => VA_lo (VA_below (VS_mono hv7.vs fun _ _ hb => hb) (N7.trans h)) (Nat.zero_le _)
    have CG : Hid (∀ w', Ex W7 w' → w'.cell? ⟨w7.heap.size, 0, none⟩ = some (.int .i64 r1) ∧ w'.cell? ⟨w7.heap.size, 1, none⟩ = some (.slice a7 (len r2) c7)) := fun w' h => ⟨h.at (hW7 ▸ World.cell?_alloc_new _ _ _ _), h.at (hW7 ▸ World.cell?_alloc_new _ _ _ _)⟩
    obtain ⟨qa, qb, qc, qd⟩ := CA.out w7 (X6.out.trans hb7)
    have zf : w1.heap.size < w7.heap.size := World.block_lt_of_cell? _ _ qa
    have zg : w1.heap.size + 1 < w7.heap.size := World.block_lt_of_cell? _ _ qc
    clear hv7
    go_wp2_with fail
    rw [← hW7]
    clear hW7 N7 qa qb qc qd
    refine Calls.mono (IS.out W7 X7.out) ?_
    rintro e w8 ⟨a8, c8, rfl, hv8, hb8⟩
    obtain ⟨W8, hW8⟩ : ∃ W8, W8 = w8.alloc (.cells #[.int .i64 r1, .slice a8 (len r2) c8] 39) := ⟨_, rfl⟩
    have N8 : Ex w8 W8 := hW8 ▸ Ex.new _ _
    have X8 : Hid (Ex W1 W8) := X7.out.trans (hb8.trans N8)
    have Y8 : Hid (Ex W7 W8) := hb8.trans N8
    have V8 : Hid (∀ w', Ex W8 w' → VA w' 0 r2 a8) := fun _ h => VA_lo (VA_below hv8 (N8.trans h)) (Nat.zero_le _)
    have CH : Hid (∀ w', Ex W8 w' → w'.cell? ⟨w8.heap.size, 0, none⟩ = some (.int .i64 r1) ∧ w'.cell? ⟨w8.heap.size, 1, none⟩ = some (.slice a8 (len r2) c8)) := fun w' h => ⟨h.at (hW8 ▸ World.cell?_alloc_new _ _ _ _), h.at (hW8 ▸ World.cell?_alloc_new _ _ _ _)⟩
    obtain ⟨qe, qf⟩ := CE.out w8 (Y6.out.trans (Y7.out.trans hb8))
    have zh : w5.heap.size < w8.heap.size := World.block_lt_of_cell? _ _ qe
    clear hv8
    go_wp2_with fail
    rw [← hW8]
    clear hW8 N8 qe qf
    refine (LN.out W8 a5 c5 none 0).mono ?_
    rintro e w9 ⟨rfl, hb9⟩
    obtain ⟨qe, qf⟩ := CF.out w9 (Y7.out.trans (Y8.out.trans hb9))
    go_wp2_with fail
    refine (LN.out w9 a6 c6 none 0).mono ?_
    rintro e w10 ⟨rfl, hb10⟩
    clear qe qf
    obtain ⟨qe, qf⟩ := CG.out w10 (Y8.out.trans (hb9.trans hb10))
    obtain ⟨qg, qh⟩ := CH.out w10 (hb9.trans hb10)
    go_wp2_with fail
    refine (LR.out w10 a7 c7 a8 c8 (V7.out _ (Y8.out.trans (hb9.trans hb10))) (V8.out _ (hb9.trans hb10))).mono ?_
    rintro e w11 ⟨rfl, hb11⟩
    go_wp2_with fail
    go_ret
    exact ⟨rfl, XW.out.trans (X8.out.trans (hb9.trans (hb10.trans hb11)))⟩

end Go.Proofs.Ytomnekiiccbioaa
