/- Walks: the program's text of bodies. -/
import Derived.Test.YtpibamhkmmgooaaGreatDoorPT4

import Derived.Test.YtpibamhkmmgooaaGreatDoorIM8

namespace Go.Proofs.YtpibamhkmmgooaaGreatDoor

open Go.RowKit Go.Deep

attribute [local go_sem ↓] Go.wp_at_zero Go.wp_at_succ

/-- The table of powers lies below B. -/
def GB (B : Nat) : Prop := ∀ g, Tryz.prog.globalNamed "internal/strconv.uint64pow10" = some g → g < B
theorem Tab.low {w w' : World} {B : Nat} (h : Tab w) (hx : Below B w w') (hg : GB B) : Tab w' := by
  have hg0 := hg
  unfold Tab Lib.TabIs World.var? at *
  cases hn : Tryz.prog.globalNamed "internal/strconv.uint64pow10" with
  | none => rw [hn] at h; simp at h
  | some g =>
    have hl := hg0 g hn
    rw [hn] at h
    simp only [Option.bind_some] at h ⊢
    rw [hx.block g hl]; exact h
theorem Tab.gb {w : World} (h : Tab w) : GB w.heap.size := fun g hn => by
  unfold Tab Lib.TabIs World.var? at h
  rw [hn] at h
  simp only [Option.bind_some] at h
  rcases Nat.lt_or_ge g w.heap.size with h' | h'
  · exact h'
  · rw [Array.getElem?_eq_none h'] at h; simp at h

theorem MS_0 {w : World} {B : Nat} {f : TM} {a : Option Addr} (h : MS w (fun k => k < B) f a) : MA w 0 f a := MS_mono h fun _ _ _ => Nat.zero_le _
theorem XS_0 {w : World} {B : Nat} {f : List ByteArray} {a : Option Addr} (h : XS w (fun k => k < B) f a) : XA w 0 f a := XS_mono h fun _ _ _ => Nat.zero_le _

theorem bindXat_size (d : Nat) (pre : ByteArray) (b : BD) (j : Nat) : (bindXat d pre b j).size = pre.size + (bindX pre (bkind b j) (bnames b j) (bfn b j) (bterms b j) (bodyX d (pre ++ ⟨#[32]⟩) (bthen b j) (btsay b j)) (bodyX d (pre ++ ⟨#[32]⟩) (belse b j) (besay b j))).size := by rw [bindXat, ByteArray.size_append]
theorem wbind_any (B bb d : Nat) (hG : GB B) (ih : ∀ (pre t : ByteArray) (b : BD) (ba : Option Addr) (bc : Nat) (z : TM) (za : Option Addr) (zc : Nat) (w : World), pre.size + d ≤ 10 → BO d b z → bW b + tW z ≤ 1048576 → Bd B bb t w → t.size + (bodyX d pre b z).size ≤ 1000000000 → BS w (fun k => k < B) b ba → MS w (fun k => k < B) z za → Tab w → Calls Tryz.prog 17 #[.pointer (some ⟨bb, 0, none⟩), .agg #[.slice ba (blen b) bc, .slice za (tlen z) zc], .string pre] w (WrP B bb t (bodyX d pre b z) w)) (pre t : ByteArray) (b : BD) (j : Nat) (a1 : Option Addr) (k1 : Nat) (a3 : Option Addr) (k3 : Nat) (a4 : Option Addr) (k4 : Nat) (a5 : Option Addr) (k5 : Nat) (a6 : Option Addr) (k6 : Nat) (a7 : Option Addr) (k7 : Nat) (w : World)
    (hj : j < blen b) (hp : pre.size + (d + 1) ≤ 10) (hO : BOb (BO d) b j) (hz : bW b ≤ 1048576) (hBd : Bd B bb t w) (hs : t.size + (bindX pre (bkind b j) (bnames b j) (bfn b j) (bterms b j) (bodyX d (pre ++ ⟨#[32]⟩) (bthen b j) (btsay b j)) (bodyX d (pre ++ ⟨#[32]⟩) (belse b j) (besay b j))).size ≤ 1000000000)
    (x1 : XS w (fun k => k < B) (bnames b j) a1) (x3 : MS w (fun k => k < B) (bterms b j) a3) (x4 : BS w (fun k => k < B) (bthen b j) a4) (x5 : MS w (fun k => k < B) (btsay b j) a5) (x6 : BS w (fun k => k < B) (belse b j) a6) (x7 : MS w (fun k => k < B) (besay b j) a7) (ht : Tab w) :
    Calls Tryz.prog 32 #[.pointer (some ⟨bb, 0, none⟩), .agg #[.int .i64 (bkind b j), .slice a1 (bnames b j).length k1, .string (bfn b j), .slice a3 (tlen (bterms b j)) k3, .slice a4 (blen (bthen b j)) k4, .slice a5 (tlen (btsay b j)) k5, .slice a6 (blen (belse b j)) k6, .slice a7 (tlen (besay b j)) k7], .string pre] w (WrP B bb t (bindX pre (bkind b j) (bnames b j) (bfn b j) (bterms b j) (bodyX d (pre ++ ⟨#[32]⟩) (bthen b j) (btsay b j)) (bodyX d (pre ++ ⟨#[32]⟩) (belse b j) (besay b j))) w) := by
  obtain ⟨q1, q2, q3, q4⟩ := bWk_parts hj
  have hps : (pre ++ ⟨#[32]⟩ : ByteArray).size = pre.size + 1 := by rw [ByteArray.size_append]; rfl
  have TT : ∀ w', Fx B bb w w' → Calls Tryz.prog 33 #[.slice a3 (tlen (bterms b j)) k3] w' fun e w'' => e = .returned (.string (rowsX (bterms b j))) ∧ Ex w' w'' := fun w' h => termsText_any _ a3 k3 w' hO.1 (by omega) (MS_0 (MS_ks x3 h.ks)) (ht.low h.below hG)
  have NT : ∀ w', Fx B bb w w' → Calls Tryz.prog 16 #[.slice a1 (bnames b j).length k1] w' fun e w'' => e = .returned (.string (namesX (bnames b j))) ∧ Ex w' w'' := fun w' h => namesText_any _ a1 k1 w' (by omega) (XS_0 (XS_ks x1 h.ks))
  rcases hO.2 with ⟨k1', l1⟩ | k2 | ⟨k3', p1, p2⟩
  · rw [bindX_1 k1'] at hs ⊢
    rw [k1']
    refine bind_one B bb pre t _ a1 k1 _ _ a3 k3 _ a4 k4 _ a5 k5 _ a6 k6 _ a7 k7 w hBd l1 hs TT ?_
    rcases x1 with h0 | ⟨nb, no, e, hb, hc⟩
    · omega
    · exact ⟨nb, no, e, hb, hc 0 (by omega)⟩
  · rw [bindX_2 k2] at hs ⊢
    rw [k2]
    exact bind_call B bb pre t _ a1 k1 _ _ a3 k3 _ a4 k4 _ a5 k5 _ a6 k6 _ a7 k7 w hBd hs TT NT
  · rw [bindX_3 k3'] at hs ⊢
    rw [k3']
    exact bind_if B bb pre t _ a1 k1 _ _ a3 k3 _ a4 k4 _ a5 k5 _ a6 k6 _ a7 k7 w _ _ hBd hs TT NT
      (fun t' w' h hbd hsz => ih _ t' _ a4 k4 _ a5 k5 w' (by omega) p1 (by omega) hbd hsz (BS_ks x4 h.ks) (MS_ks x5 h.ks) (ht.low h.below hG))
      (fun t' w' h hbd hsz => ih _ t' _ a6 k6 _ a7 k7 w' (by omega) p2 (by omega) hbd hsz (BS_ks x6 h.ks) (MS_ks x7 h.ks) (ht.low h.below hG))

set_option maxRecDepth 100000 in
set_option maxHeartbeats 4000000 in
theorem writeBody_any (B bb : Nat) (hG : GB B) : ∀ (d : Nat), ∀ (pre t : ByteArray) (b : BD) (ba : Option Addr) (bc : Nat) (z : TM) (za : Option Addr) (zc : Nat) (w : World), pre.size + d ≤ 10 → BO d b z → bW b + tW z ≤ 1048576 → Bd B bb t w → t.size + (bodyX d pre b z).size ≤ 1000000000 → BS w (fun k => k < B) b ba → MS w (fun k => k < B) z za → Tab w → Calls Tryz.prog 17 #[.pointer (some ⟨bb, 0, none⟩), .agg #[.slice ba (blen b) bc, .slice za (tlen z) zc], .string pre] w (WrP B bb t (bodyX d pre b z) w) := by
  intro d
  induction d with
  | zero => intro pre t b ba bc z za zc w _ h; exact h.elim
  | succ d ih =>
    intro pre t b ba bc z za zc w hp h hz hBd hs hB hM ht
    have hlt := hBd.lt
    have hle : B ≤ w.heap.size := Nat.le_trans hBd.le (Nat.le_of_lt hlt)
    have N : Hid (Ex w (w.alloc (.cells #[.slice ba (blen b) bc, .slice za (tlen z) zc] 41))) := Ex.new _ _
    have HB1 : Hid (B ≤ (w.alloc (.cells #[.slice ba (blen b) bc, .slice za (tlen z) zc] 41)).heap.size) := by show _ ≤ _; rw [World.size_alloc]; omega
    have FN : Hid (∀ w', Fx B bb (w.alloc (.cells #[.slice ba (blen b) bc, .slice za (tlen z) zc] 41)) w' → Fx B bb w w') := fun w' h => (Fx.of_ex hle (Ex.new _ _)).trans h
    have C : Hid (∀ w', Fx B bb (w.alloc (.cells #[.slice ba (blen b) bc, .slice za (tlen z) zc] 41)) w' → w'.cell? ⟨w.heap.size, 0, none⟩ = some (.slice ba (blen b) bc) ∧ w'.cell? ⟨w.heap.size, 1, none⟩ = some (.slice za (tlen z) zc)) := fun w' h => ⟨blk_cell (box_fx h hlt (by decide)) 0, blk_cell (box_fx h hlt (by decide)) 1⟩
    have BSK : Hid (∀ w', Fx B bb w w' → BS w' (fun k => k < B) b ba) := fun w' h => BS_ks hB h.ks
    have TB : Hid (∀ w', Fx B bb w w' → Tab w') := fun w' h => ht.low h.below hG
    have TZ : Hid (∀ w', Fx B bb w w' → Calls Tryz.prog 33 #[.slice za (tlen z) zc] w' fun e w'' => e = .returned (.string (rowsX z)) ∧ Ex w' w'') := fun w' hx => termsText_any z za zc w' h.1 (by omega) (MS_0 (MS_ks hM hx.ks)) (ht.low hx.below hG)
    have I : Hid _ := ih
    have O : Hid (∀ j, j < blen b → BOb (BO d) b j) := h.2
    have BW : Hid (bW b ≤ 1048576) := by show _ ≤ _; omega
    have HP : Hid (pre.size + (d + 1) ≤ 10) := hp
    have SZ : Hid (∀ j, j < blen b → (t ++ upX (bindXat d pre b) j).size + (bindXat d pre b j).size ≤ 1000000000) := fun j hj => by
      have h1 := hs
      rw [bodyX_at, ByteArray.size_append] at h1
      have h2 := upX_upto (bindXat d pre b) (show j + 1 ≤ blen b by omega)
      rw [upX, ByteArray.size_append] at h2
      rw [ByteArray.size_append]
      omega
    have SE : Hid ((t ++ upX (bindXat d pre b) (blen b)).size + (pre ++ ⟨#[115, 97, 121]⟩ ++ rowsX z ++ ⟨#[10]⟩).size ≤ 1000000000) := by
      have h1 := hs
      rw [bodyX_at, ByteArray.size_append] at h1
      show _ ≤ _
      rw [ByteArray.size_append]
      omega
    have RX : Hid (bodyX (d + 1) pre b z = upX (bindXat d pre b) (blen b) ++ (pre ++ ⟨#[115, 97, 121]⟩ ++ rowsX z ++ ⟨#[10]⟩)) := bodyX_at _ _ _ _
    have B0 : Hid (Bd B bb (t ++ upX (bindXat d pre b) 0) (w.alloc (.cells #[.slice ba (blen b) bc, .slice za (tlen z) zc] 41))) := by show Bd _ _ _ _; rw [upX_0, cat_nil]; exact hBd.ex (Ex.new _ _)
    have hbl : blen b ≤ 1048576 := by rw [bW_sum] at hz; omega
    have LB : Hid (bb < w.heap.size) := hlt
    have hpz : pre.size ≤ 10 := by omega
    generalize bodyX (d + 1) pre b z = R at RX ⊢
    generalize rowsX z = rz at SE TZ RX
    obtain ⟨c0, c1⟩ := C.out _ (Fx.refl _ _ _)
    clear hB hM h hz ih hp hs hBd ht hlt hle
    go_enter Tryz.func17, Tryz.ntmps17
    go_wp2_with fail
    clear c0 c1
    go_loopw [7, 11] (fun _ i wr => ∃ (j : Nat), j ≤ blen b ∧ i = .int .i64 j ∧ Bd B bb (t ++ upX (bindXat d pre b) j) wr ∧ Fx B bb (w.alloc (.cells #[.slice ba (blen b) bc, .slice za (tlen z) zc] 41)) wr) (fun _ i _ => blen b - (intOf i).toNat)
    case atStart => exact ⟨0, by omega, rfl, B0.out, Fx.refl _ _ _⟩
    case round =>
      obtain ⟨j, hj, rfl, hbd, hfx⟩ := hrel
      have E : Hid (Fx B bb (w.alloc (.cells #[.slice ba (blen b) bc, .slice za (tlen z) zc] 41)) wr) := hfx
      have BDJ : Hid _ := hbd
      obtain ⟨c0, c1⟩ := C.out wr hfx
      have hlr : bb < wr.heap.size := hbd.lt
      have hBr : B ≤ wr.heap.size := Nat.le_trans hbd.le (Nat.le_of_lt hlr)
      clear hfx hbd
      by_cases hlt : j < blen b
      · obtain ⟨ob, o, rfl, _, hbs, hk⟩ := BS_at (BSK.out wr (FN.out _ E.out)) (by omega)
        obtain ⟨b0, ⟨a1, k1, b1, hnc, x1⟩, b2, ⟨a3, k3, b3, x3⟩, ⟨a4, k4, b4, x4⟩, ⟨a5, k5, b5, x5⟩, ⟨a6, k6, b6, x6⟩, ⟨a7, k7, b7, x7⟩⟩ := hk j hlt
        have hsz := SZ.out j hlt
        have HS2 : Hid ((t ++ upX (bindXat d pre b) j).size + pre.size ≤ 1000000000) := by
          show _ ≤ _
          have := hsz
          rw [bindXat_size] at this
          omega
        have BD1 : Hid (Bd B bb (t ++ upX (bindXat d pre b) j) (wr.alloc (.cells #[.int .i64 (bkind b j), .slice a1 (bnames b j).length k1, .string (bfn b j), .slice a3 (tlen (bterms b j)) k3, .slice a4 (blen (bthen b j)) k4, .slice a5 (tlen (btsay b j)) k5, .slice a6 (blen (belse b j)) k6, .slice a7 (tlen (besay b j)) k7] 66))) := Bd.ex BDJ.out (Ex.new _ _)
        have HW : Hid _ := write_any B bb _ pre _ BD1.out (by have := HS2.out; omega)
        have KB : Hid (∀ w', Fx B bb (wr.alloc (.cells #[.int .i64 (bkind b j), .slice a1 (bnames b j).length k1, .string (bfn b j), .slice a3 (tlen (bterms b j)) k3, .slice a4 (blen (bthen b j)) k4, .slice a5 (tlen (btsay b j)) k5, .slice a6 (blen (belse b j)) k6, .slice a7 (tlen (besay b j)) k7] 66)) w' → w'.heap[wr.heap.size]? = some (.cells #[.int .i64 (bkind b j), .slice a1 (bnames b j).length k1, .string (bfn b j), .slice a3 (tlen (bterms b j)) k3, .slice a4 (blen (bthen b j)) k4, .slice a5 (tlen (btsay b j)) k5, .slice a6 (blen (belse b j)) k6, .slice a7 (tlen (besay b j)) k7] 66 (0, 0))) := fun w' h => box_fx h hlr (by decide)
        have F1 : Hid (Fx B bb wr (wr.alloc (.cells #[.int .i64 (bkind b j), .slice a1 (bnames b j).length k1, .string (bfn b j), .slice a3 (tlen (bterms b j)) k3, .slice a4 (blen (bthen b j)) k4, .slice a5 (tlen (btsay b j)) k5, .slice a6 (blen (belse b j)) k6, .slice a7 (tlen (besay b j)) k7] 66))) := Fx.of_ex hBr (Ex.new _ _)
        have WB : Hid (∀ w', Fx B bb (wr.alloc (.cells #[.int .i64 (bkind b j), .slice a1 (bnames b j).length k1, .string (bfn b j), .slice a3 (tlen (bterms b j)) k3, .slice a4 (blen (bthen b j)) k4, .slice a5 (tlen (btsay b j)) k5, .slice a6 (blen (belse b j)) k6, .slice a7 (tlen (besay b j)) k7] 66)) w' → Bd B bb (t ++ upX (bindXat d pre b) j ++ pre) w' → Calls Tryz.prog 32 #[.pointer (some ⟨bb, 0, none⟩), .agg #[.int .i64 (bkind b j), .slice a1 (bnames b j).length k1, .string (bfn b j), .slice a3 (tlen (bterms b j)) k3, .slice a4 (blen (bthen b j)) k4, .slice a5 (tlen (btsay b j)) k5, .slice a6 (blen (belse b j)) k6, .slice a7 (tlen (besay b j)) k7], .string pre] w' (WrP B bb (t ++ upX (bindXat d pre b) j ++ pre) (bindX pre (bkind b j) (bnames b j) (bfn b j) (bterms b j) (bodyX d (pre ++ ⟨#[32]⟩) (bthen b j) (btsay b j)) (bodyX d (pre ++ ⟨#[32]⟩) (belse b j) (besay b j))) w')) := fun w' hx hbd => by
          have hk : Ks (fun k => k < B) wr w' := (F1.out.trans hx).ks
          refine wbind_any B bb d hG I.out pre _ b j a1 k1 a3 k3 a4 k4 a5 k5 a6 k6 a7 k7 w' hlt HP.out (O.out j hlt) BW.out hbd ?_ (XS_ks x1 hk) (MS_ks x3 hk) (BS_ks x4 hk) (MS_ks x5 hk) (BS_ks x6 hk) (MS_ks x7 hk) (TB.out _ (FN.out _ (E.out.trans (F1.out.trans hx))))
          have := hsz
          rw [bindXat_size] at this
          rw [ByteArray.size_append]
          omega
        have HU : Hid (t ++ upX (bindXat d pre b) (j + 1) = t ++ upX (bindXat d pre b) j ++ pre ++ bindX pre (bkind b j) (bnames b j) (bfn b j) (bterms b j) (bodyX d (pre ++ ⟨#[32]⟩) (bthen b j) (btsay b j)) (bodyX d (pre ++ ⟨#[32]⟩) (belse b j) (besay b j))) := by show _ = _; rw [upX, bindXat]; simp only [cat3]
        clear hk x1 x3 x4 x5 x6 x7 hsz hnc hBr HS2
        generalize bindX pre (bkind b j) (bnames b j) (bfn b j) (bterms b j) (bodyX d (pre ++ ⟨#[32]⟩) (bthen b j) (btsay b j)) (bodyX d (pre ++ ⟨#[32]⟩) (belse b j) (besay b j)) = bx at WB HU
        have zr : w.heap.size < wr.heap.size := by have := E.out.below.size; rw [World.size_alloc] at this; omega
        go_wp2_with fail
        refine Calls.mono HW.out ?_
        rintro e w1 ⟨rfl, hbd1, hfx1⟩
        have BD2 : Hid _ := hbd1
        have FX1 : Hid _ := hfx1
        have kb := KB.out _ hfx1
        have e0 := blk_cell kb 0
        have e1 := blk_cell kb 1
        have e2 := blk_cell kb 2
        have e3 := blk_cell kb 3
        have e4 := blk_cell kb 4
        have e5 := blk_cell kb 5
        have e6 := blk_cell kb 6
        have e7 := blk_cell kb 7
        simp at e0 e1 e2 e3 e4 e5 e6 e7
        clear hbd1 hfx1 HW kb b0 b1 b2 b3 b4 b5 b6 b7 c0 c1
        go_wp2_with fail
        refine Calls.mono (WB.out _ FX1.out BD2.out) ?_
        rintro e w2 ⟨rfl, hbd2, hfx2⟩
        have BD3 : Hid (Bd B bb (t ++ upX (bindXat d pre b) (j + 1)) w2) := by show Bd _ _ _ _; rw [HU.out]; exact hbd2
        have E2 : Hid _ := E.out.trans (F1.out.trans (Fx.trans FX1.out hfx2))
        clear hbd2 hfx2 WB e0 e1 e2 e3 e4 e5 e6 e7
        go_wp2_with fail
        go_roundw
        case rel => exact ⟨j + 1, by omega, by go_num, BD3.out, E2.out⟩
        case measure => simp [intOf]; omega
      · have hje : j = blen b := by omega
        have HR : Hid (t ++ R = t ++ upX (bindXat d pre b) j ++ (pre ++ ⟨#[115, 97, 121]⟩ ++ rz ++ ⟨#[10]⟩)) := by show _ = _; rw [hje, RX.out]; simp only [cat3]
        have s0 := SE.out
        rw [← hje] at s0
        clear hje
        have HW : Hid (∀ w', Bd B bb (t ++ upX (bindXat d pre b) j) w' → Calls Tryz.prog 15 #[.pointer (some ⟨bb, 0, none⟩), .string (pre ++ ⟨#[115, 97, 121]⟩ ++ rz ++ ⟨#[10]⟩)] w' fun e w'' => e = .returned (.tuple #[.int .i64 (pre ++ ⟨#[115, 97, 121]⟩ ++ rz ++ ⟨#[10]⟩).size, .nilIface]) ∧ Bd B bb (t ++ upX (bindXat d pre b) j ++ (pre ++ ⟨#[115, 97, 121]⟩ ++ rz ++ ⟨#[10]⟩)) w'' ∧ Fx B bb w' w'') := fun w' h => write_any B bb _ _ w' h (by omega)
        simp only [ByteArray.size_append] at s0
        have e1 : (⟨#[115, 97, 121]⟩ : ByteArray).size = 3 := rfl
        have e2 : (⟨#[10]⟩ : ByteArray).size = 1 := rfl
        have n1 : ¬ 9223372036854775807 < pre.size + 3 := by omega
        have n2 : ¬ 9223372036854775807 < pre.size + 3 + rz.size := by omega
        have n3 : ¬ 9223372036854775807 < pre.size + 3 + rz.size + 1 := by omega
        clear s0 e1 e2
        go_wp2_with fail
        refine Calls.mono (TZ.out _ (FN.out _ E.out)) ?_
        rintro e w1 ⟨rfl, hb1⟩
        have BD1 : Hid _ := Bd.ex BDJ.out hb1
        have E1 : Hid _ := E.out.ex HB1.out hb1
        clear hb1
        go_wp2_with fail
        refine Calls.mono (HW.out _ BD1.out) ?_
        rintro e w2 ⟨rfl, hbd2, hfx2⟩
        have BD2 : Hid (Bd B bb (t ++ R) w2) := by show Bd _ _ _ _; rw [HR.out]; exact hbd2
        have E2 : Hid _ := Fx.trans E1.out hfx2
        clear hbd2 hfx2
        go_wp2_with fail
        go_end0
        exact ⟨rfl, BD2.out, FN.out _ E2.out⟩

end Go.Proofs.YtpibamhkmmgooaaGreatDoor
