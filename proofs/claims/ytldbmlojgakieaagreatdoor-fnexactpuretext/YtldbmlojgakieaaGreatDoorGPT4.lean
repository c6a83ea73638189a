/- Walks: the specification's texts of bodies. Walks: the program's texts of names and bindings. Walks: the program's text of a binding. -/
import Derived.Test.YtldbmlojgakieaaGreatDoorGPT2
namespace Go.Proofs.YtldbmlojgakieaaGreatDoor

open Go.RowKit Go.Deep

attribute [local go_sem ↓] Go.wp_at_zero Go.wp_at_succ

theorem bWk_le {f : BD} {i : Nat} (h : i < blen f) : bWk f i ≤ bW f := by
  have := sumN_upto (bWk f) (show i + 1 ≤ blen f by omega)
  rw [bW_sum]
  simp only [sumN] at this
  omega
theorem bWk_parts {f : BD} {i : Nat} (h : i < blen f) : xW (bnames f i) ≤ bW f ∧ tW (bterms f i) ≤ bW f ∧ bW (bthen f i) + tW (btsay f i) ≤ bW f ∧ bW (belse f i) + tW (besay f i) ≤ bW f := by
  have h1 := bWk_le h
  have e : bWk f i = xW (bnames f i) + (bfn f i).size + tW (bterms f i) + (bW (bthen f i) + tW (btsay f i)) + (bW (belse f i) + tW (besay f i)) := rfl
  omega

/-- All of a body's text up to a binding, and that, is not long. -/
theorem upto_size {d : Nat} {pre : ByteArray} {b : BD} {z : TM} (hp : pre.size + (d + 1) ≤ 10) (h : BO (d + 1) b z) (hz : bW b + tW z ≤ 1048576) {j : Nat} (hj : j < blen b) : (upX (bindXat d pre b) j).size + (bindXat d pre b j).size ≤ 1000000000 := by
  have h1 := bodyX_size hp h
  rw [bodyX_at, ByteArray.size_append] at h1
  have h2 := upX_upto (bindXat d pre b) (show j + 1 ≤ blen b by omega)
  rw [upX, ByteArray.size_append] at h2
  omega
theorem end_size {d : Nat} {pre : ByteArray} {b : BD} {z : TM} (hp : pre.size + (d + 1) ≤ 10) (h : BO (d + 1) b z) (hz : bW b + tW z ≤ 1048576) : (upX (bindXat d pre b) (blen b)).size + (pre.size + 3 + (rowsX z).size + 1) ≤ 1000000000 := by
  have h1 := bodyX_size hp h
  rw [bodyX_at, ByteArray.size_append, ByteArray.size_append, ByteArray.size_append, ByteArray.size_append] at h1
  have e1 : (⟨#[115, 97, 121]⟩ : ByteArray).size = 3 := rfl
  have e2 : (⟨#[10]⟩ : ByteArray).size = 1 := rfl
  omega

theorem bindX_1 {pre : ByteArray} {k : Int} (hk : k = 1) (ns : List ByteArray) (fn : ByteArray) (ts : TM) (x1 x2 : ByteArray) : bindX pre k ns fn ts x1 x2 = ns.getD 0 ⟨#[]⟩ ++ ⟨#[32, 61]⟩ ++ rowsX ts ++ ⟨#[10]⟩ := by rw [bindX, if_pos hk]
theorem bindX_2 {pre : ByteArray} {k : Int} (hk : k = 2) (ns : List ByteArray) (fn : ByteArray) (ts : TM) (x1 x2 : ByteArray) : bindX pre k ns fn ts x1 x2 = ⟨#[108, 101, 116]⟩ ++ namesX ns ++ ⟨#[32, 61, 32]⟩ ++ fn ++ rowsX ts ++ ⟨#[10]⟩ := by rw [bindX, if_neg (by omega), if_pos hk]
theorem bindX_3 {pre : ByteArray} {k : Int} (hk : k = 3) (ns : List ByteArray) (fn : ByteArray) (ts : TM) (x1 x2 : ByteArray) : bindX pre k ns fn ts x1 x2 = ⟨#[105, 102]⟩ ++ rowsX ts ++ ⟨#[10]⟩ ++ x1 ++ pre ++ ⟨#[101, 108, 115, 101, 10]⟩ ++ x2 ++ pre ++ ⟨#[102, 111, 114]⟩ ++ namesX ns ++ ⟨#[10]⟩ := by rw [bindX, if_neg (by omega), if_neg (by omega)]

set_option maxRecDepth 100000 in
set_option maxHeartbeats 8000000 in
theorem l12Lines_any : ∀ (d : Nat) (pre : ByteArray) (b : BD) (ba : Option Addr) (bc : Nat) (z : TM) (za : Option Addr) (zc : Nat) (w : World), pre.size + d ≤ 10 → BO d b z → bW b + tW z ≤ 1048576 → BA w 0 b ba → MA w 0 z za →
    Calls Tryz.prog 38 #[.agg #[.slice ba (blen b) bc, .slice za (tlen z) zc], .string pre] w fun e w' => e = .returned (.string (bodyX d pre b z)) ∧ Ex w w' := by
  intro d
  induction d with
  | zero => intro pre b ba bc z za zc w _ h; exact h.elim
  | succ d ih =>
    intro pre b ba bc z za zc w hp h hz hB hM
    have B : Hid (∀ w', Ex w w' → BA w' 0 b ba) := fun _ h => BA_below hB h
    have I : Hid _ := ih
    have O : Hid (∀ j, j < blen b → BOb (BO d) b j) := h.2
    have SZ : Hid (∀ j, j < blen b → (upX (bindXat d pre b) j).size + (bindXat d pre b j).size ≤ 1000000000) := fun j hj => upto_size hp h hz hj
    have SE : Hid ((upX (bindXat d pre b) (blen b)).size + (pre.size + 3 + (rowsX z).size + 1) ≤ 1000000000) := end_size hp h hz
    have ZW : Hid (∀ w', Ex w w' → Calls Tryz.prog 64 #[.slice za (tlen z) zc] w' fun e w'' => e = .returned (.string (rowsX z)) ∧ Ex w' w'') := fun w' hx => l12Rows_any z za zc w' h.1 (by omega) (MA_below hM hx)
    have BW : Hid (bW b ≤ 1048576) := by show _ ≤ _; omega
    have PS2 : Hid (pre.size + 1 + d ≤ 10) := by show _ ≤ _; omega
    have hbl : blen b ≤ 1048576 := by rw [bW_sum] at hz; omega
    have N : Hid (Ex w (w.alloc (.cells #[.slice ba (blen b) bc, .slice za (tlen z) zc] 59))) := Ex.new _ _
    have C : Hid (∀ w', Ex (w.alloc (.cells #[.slice ba (blen b) bc, .slice za (tlen z) zc] 59)) w' → w'.cell? ⟨w.heap.size, 0, none⟩ = some (.slice ba (blen b) bc) ∧ w'.cell? ⟨w.heap.size, 1, none⟩ = some (.slice za (tlen z) zc)) := fun w' h => ⟨h.at (by simp), h.at (by simp)⟩
    have RX : Hid (bodyX (d + 1) pre b z = upX (bindXat d pre b) (blen b) ++ (pre ++ ⟨#[115, 97, 121]⟩ ++ rowsX z ++ ⟨#[10]⟩)) := bodyX_at _ _ _ _
    generalize bodyX (d + 1) pre b z = R at RX ⊢
    generalize rowsX z = rz at SE ZW RX
    obtain ⟨c0, c1⟩ := C.out _ (Ex.refl _)
    clear hB hM h hz ih hp
    go_enter Tryz.func38, Tryz.ntmps38
    go_wp2_with fail
    clear c0 c1
    go_loopw [5, 6, 7] (fun ov i _ wr => ∃ (j : Nat), j ≤ blen b ∧ i = .int .i64 j ∧ ov = .string (upX (bindXat d pre b) j) ∧ Ex (w.alloc (.cells #[.slice ba (blen b) bc, .slice za (tlen z) zc] 59)) wr) (fun _ i _ _ => blen b - (intOf i).toNat)
    case atStart => exact ⟨0, by omega, rfl, rfl, Ex.refl _⟩
    case round =>
      obtain ⟨j, hj, rfl, rfl, hx⟩ := hrel
      have E : Hid (Ex (w.alloc (.cells #[.slice ba (blen b) bc, .slice za (tlen z) zc] 59)) wr) := hx
      obtain ⟨c0, c1⟩ := C.out wr hx
      clear hx
      by_cases hlt : j < blen b
      · obtain ⟨bb, o, rfl, _, hbs, hk⟩ := BA_at (B.out wr (N.out.trans E.out)) (by omega)
        obtain ⟨b0, ⟨a1, k1, b1, hnc, x1⟩, b2, ⟨a3, k3, b3, x3⟩, ⟨a4, k4, b4, x4⟩, ⟨a5, k5, b5, x5⟩, ⟨a6, k6, b6, x6⟩, ⟨a7, k7, b7, x7⟩⟩ := hk j hlt
        obtain ⟨q1, q2, q3, q4⟩ := bWk_parts hlt
        have hw := BW.out
        obtain ⟨o1, o2⟩ := O.out j hlt
        have hsz := SZ.out j hlt
        have RW : Hid (∀ w', Ex wr w' → Calls Tryz.prog 64 #[.slice a3 (tlen (bterms b j)) k3] w' fun e w'' => e = .returned (.string (rowsX (bterms b j))) ∧ Ex w' w'') := fun w' hx => l12Rows_any _ a3 k3 w' o1 (by omega) (MA_below x3 hx)
        have NW : Hid (∀ w', Ex wr w' → Calls Tryz.prog 37 #[.slice a1 (bnames b j).length k1] w' fun e w'' => e = .returned (.string (namesX (bnames b j))) ∧ Ex w' w'') := fun w' hx => l12Row_any _ a1 k1 w' (by omega) (XA_below x1 hx)
        have LT : Hid (BO d (bthen b j) (btsay b j) → ∀ w', Ex wr w' → Calls Tryz.prog 38 #[.agg #[.slice a4 (blen (bthen b j)) k4, .slice a5 (tlen (btsay b j)) k5], .string (pre ++ ⟨#[32]⟩)] w' fun e w'' => e = .returned (.string (bodyX d (pre ++ ⟨#[32]⟩) (bthen b j) (btsay b j))) ∧ Ex w' w'') := fun h w' hx => I.out _ _ a4 k4 _ a5 k5 w' (by rw [ByteArray.size_append]; exact PS2.out) h (by omega) (BA_below x4 hx) (MA_below x5 hx)
        have LE : Hid (BO d (belse b j) (besay b j) → ∀ w', Ex wr w' → Calls Tryz.prog 38 #[.agg #[.slice a6 (blen (belse b j)) k6, .slice a7 (tlen (besay b j)) k7], .string (pre ++ ⟨#[32]⟩)] w' fun e w'' => e = .returned (.string (bodyX d (pre ++ ⟨#[32]⟩) (belse b j) (besay b j))) ∧ Ex w' w'') := fun h w' hx => I.out _ _ a6 k6 _ a7 k7 w' (by rw [ByteArray.size_append]; exact PS2.out) h (by omega) (BA_below x6 hx) (MA_below x7 hx)
        have HX : Hid (∀ h0 : 0 < (bnames b j).length, ∃ nb no, a1 = some ⟨nb, no, none⟩ ∧ wr.cell? ⟨nb, no, none⟩ = some (.string ((bnames b j).getD 0 ⟨#[]⟩))) := fun h0 => by
          obtain ⟨nb, no, e, _, _, hc⟩ := XA_at x1 h0
          exact ⟨nb, no, e, hc 0 h0⟩
        have HU : Hid (upX (bindXat d pre b) (j + 1) = upX (bindXat d pre b) j ++ (pre ++ bindX pre (bkind b j) (bnames b j) (bfn b j) (bterms b j) (bodyX d (pre ++ ⟨#[32]⟩) (bthen b j) (btsay b j)) (bodyX d (pre ++ ⟨#[32]⟩) (belse b j) (besay b j)))) := rfl
        have hs2 : (upX (bindXat d pre b) j).size + (pre.size + (bindX pre (bkind b j) (bnames b j) (bfn b j) (bterms b j) (bodyX d (pre ++ ⟨#[32]⟩) (bthen b j) (btsay b j)) (bodyX d (pre ++ ⟨#[32]⟩) (belse b j) (besay b j))).size) ≤ 1000000000 := by
          have := hsz
          rw [bindXat, ByteArray.size_append] at this
          exact this
        have VX : Hid (Ex wr (wr.alloc (.cells #[.int .i64 (bkind b j), .slice a1 (bnames b j).length k1, .string (bfn b j), .slice a3 (tlen (bterms b j)) k3, .slice a4 (blen (bthen b j)) k4, .slice a5 (tlen (btsay b j)) k5, .slice a6 (blen (belse b j)) k6, .slice a7 (tlen (besay b j)) k7] 103))) := Ex.new _ _
        have zr : w.heap.size < wr.heap.size := by have := E.out.size; rw [World.size_alloc] at this; omega
        clear hk x1 x3 x4 x5 x6 x7 hsz q1 q2 q3 q4 hw o1 hnc
        generalize bodyX d (pre ++ ⟨#[32]⟩) (bthen b j) (btsay b j) = y1 at LT HU hs2
        generalize bodyX d (pre ++ ⟨#[32]⟩) (belse b j) (besay b j) = y2 at LE HU hs2
        rcases o2 with ⟨k1', l1⟩ | k2 | ⟨k3', p1, p2⟩
        · obtain ⟨nb, no, rfl, hn0⟩ := HX.out (by omega)
          rw [k1'] at b0 VX
          rw [bindX_1 k1'] at HU hs2
          clear NW LT LE HX
          rw [l1] at b1 VX
          generalize (bnames b j).getD 0 ⟨#[]⟩ = nm0 at hn0 HU hs2
          generalize rowsX (bterms b j) = rx at RW HU hs2
          generalize bfn b j = fnm at b2 VX
          generalize tlen (bterms b j) = tl at b3 VX RW
          generalize blen (bthen b j) = l4 at b4 VX
          generalize tlen (btsay b j) = l5 at b5 VX
          generalize blen (belse b j) = l6 at b6 VX
          generalize tlen (besay b j) = l7 at b7 VX
          generalize upX (bindXat d pre b) j = t at HU hs2 ⊢
          have HV : Hid (t ++ pre ++ nm0 ++ ⟨#[32, 61]⟩ ++ rx ++ ⟨#[10]⟩ = upX (bindXat d pre b) (j + 1)) := by show _ = _; rw [HU.out]; simp only [cat3]
          simp only [ByteArray.size_append] at hs2
          have ee0 : (⟨#[32, 61]⟩ : ByteArray).size = 2 := rfl
          have ee1 : (⟨#[10]⟩ : ByteArray).size = 1 := rfl
          have n1 : ¬ 9223372036854775807 < t.size + pre.size := by omega
          have n2 : ¬ 9223372036854775807 < t.size + pre.size + nm0.size := by omega
          have n3 : ¬ 9223372036854775807 < t.size + pre.size + nm0.size + 2 := by omega
          have n4 : ¬ 9223372036854775807 < t.size + pre.size + nm0.size + 2 + rx.size := by omega
          have n5 : ¬ 9223372036854775807 < t.size + pre.size + nm0.size + 2 + rx.size + 1 := by omega
          have KX : Hid (∀ w', Ex (wr.alloc (.cells #[.int .i64 1, .slice (some ⟨nb, no, none⟩) 1 k1, .string fnm, .slice a3 tl k3, .slice a4 l4 k4, .slice a5 l5 k5, .slice a6 l6 k6, .slice a7 l7 k7] 103)) w' → (Ex (wr.alloc (.cells #[.int .i64 1, .slice (some ⟨nb, no, none⟩) 1 k1, .string fnm, .slice a3 tl k3, .slice a4 l4 k4, .slice a5 l5 k5, .slice a6 l6 k6, .slice a7 l7 k7] 103)) w' ∧ (w'.cell? ⟨wr.heap.size, 0, none⟩ = some (.int .i64 1) ∧ w'.cell? ⟨wr.heap.size, 1, none⟩ = some (.slice (some ⟨nb, no, none⟩) 1 k1) ∧ w'.cell? ⟨wr.heap.size, 2, none⟩ = some (.string fnm) ∧ w'.cell? ⟨wr.heap.size, 3, none⟩ = some (.slice a3 tl k3) ∧ w'.cell? ⟨wr.heap.size, 4, none⟩ = some (.slice a4 l4 k4) ∧ w'.cell? ⟨wr.heap.size, 5, none⟩ = some (.slice a5 l5 k5) ∧ w'.cell? ⟨wr.heap.size, 6, none⟩ = some (.slice a6 l6 k6) ∧ w'.cell? ⟨wr.heap.size, 7, none⟩ = some (.slice a7 l7 k7)) ∧ w'.cell? ⟨nb, no, none⟩ = some (.string nm0))) := fun w' h => ⟨h, ⟨h.at (by simp), h.at (by simp), h.at (by simp), h.at (by simp), h.at (by simp), h.at (by simp), h.at (by simp), h.at (by simp)⟩, h.at (VX.out.at hn0)⟩
          clear hs2 HU l1 hn0 k1' ee0 ee1
          go_wp2_with fail
          go_region_held3 (fun w' => Ex (wr.alloc (.cells #[.int .i64 1, .slice (some ⟨nb, no, none⟩) 1 k1, .string fnm, .slice a3 tl k3, .slice a4 l4 k4, .slice a5 l5 k5, .slice a6 l6 k6, .slice a7 l7 k7] 103)) w' ∧ (w'.cell? ⟨wr.heap.size, 0, none⟩ = some (.int .i64 1) ∧ w'.cell? ⟨wr.heap.size, 1, none⟩ = some (.slice (some ⟨nb, no, none⟩) 1 k1) ∧ w'.cell? ⟨wr.heap.size, 2, none⟩ = some (.string fnm) ∧ w'.cell? ⟨wr.heap.size, 3, none⟩ = some (.slice a3 tl k3) ∧ w'.cell? ⟨wr.heap.size, 4, none⟩ = some (.slice a4 l4 k4) ∧ w'.cell? ⟨wr.heap.size, 5, none⟩ = some (.slice a5 l5 k5) ∧ w'.cell? ⟨wr.heap.size, 6, none⟩ = some (.slice a6 l6 k6) ∧ w'.cell? ⟨wr.heap.size, 7, none⟩ = some (.slice a7 l7 k7)) ∧ w'.cell? ⟨nb, no, none⟩ = some (.string nm0)) ((refine KX.out _ ?_; first | exact (Ex.refl _).drew | exact (And.left ‹Ex _ _ ∧ _›) | exact Ex.trans (And.left ‹Ex _ _ ∧ _›) ‹Ex _ _›)) ((go_at_call 64; refine (RW.out _ (Ex.trans VX.out (And.left ‹Ex _ _ ∧ _›))).mono ?_; rintro e w1 ⟨rfl, hb1⟩))
          go_wp2_with fail
          go_roundw
          case rel => exact ⟨j + 1, by omega, by go_num, by rw [HV.out], E.out.trans (VX.out.trans (And.left ‹Ex _ _ ∧ _›))⟩
          case measure => simp [intOf]; omega
        · rw [k2] at b0 VX
          rw [bindX_2 k2] at HU hs2
          clear HX
          clear LT LE
          generalize rowsX (bterms b j) = rx at RW HU hs2
          generalize namesX (bnames b j) = nx at NW HU hs2
          generalize (bnames b j).length = nl at b1 VX NW
          generalize bfn b j = fnm at b2 VX HU hs2
          generalize tlen (bterms b j) = tl at b3 VX RW
          generalize blen (bthen b j) = l4 at b4 VX
          generalize tlen (btsay b j) = l5 at b5 VX
          generalize blen (belse b j) = l6 at b6 VX
          generalize tlen (besay b j) = l7 at b7 VX
          generalize upX (bindXat d pre b) j = t at HU hs2 ⊢
          have HV : Hid (t ++ pre ++ ⟨#[108, 101, 116]⟩ ++ nx ++ ⟨#[32, 61, 32]⟩ ++ fnm ++ rx ++ ⟨#[10]⟩ = upX (bindXat d pre b) (j + 1)) := by show _ = _; rw [HU.out]; simp only [cat3]
          simp only [ByteArray.size_append] at hs2
          have ee0 : (⟨#[108, 101, 116]⟩ : ByteArray).size = 3 := rfl
          have ee1 : (⟨#[32, 61, 32]⟩ : ByteArray).size = 3 := rfl
          have ee2 : (⟨#[10]⟩ : ByteArray).size = 1 := rfl
          have n1 : ¬ 9223372036854775807 < t.size + pre.size := by omega
          have n2 : ¬ 9223372036854775807 < t.size + pre.size + 3 := by omega
          have n3 : ¬ 9223372036854775807 < t.size + pre.size + 3 + nx.size := by omega
          have n4 : ¬ 9223372036854775807 < t.size + pre.size + 3 + nx.size + 3 := by omega
          have n5 : ¬ 9223372036854775807 < t.size + pre.size + 3 + nx.size + 3 + fnm.size := by omega
          have n6 : ¬ 9223372036854775807 < t.size + pre.size + 3 + nx.size + 3 + fnm.size + rx.size := by omega
          have n7 : ¬ 9223372036854775807 < t.size + pre.size + 3 + nx.size + 3 + fnm.size + rx.size + 1 := by omega
          have KX : Hid (∀ w', Ex (wr.alloc (.cells #[.int .i64 2, .slice a1 nl k1, .string fnm, .slice a3 tl k3, .slice a4 l4 k4, .slice a5 l5 k5, .slice a6 l6 k6, .slice a7 l7 k7] 103)) w' → (Ex (wr.alloc (.cells #[.int .i64 2, .slice a1 nl k1, .string fnm, .slice a3 tl k3, .slice a4 l4 k4, .slice a5 l5 k5, .slice a6 l6 k6, .slice a7 l7 k7] 103)) w' ∧ (w'.cell? ⟨wr.heap.size, 0, none⟩ = some (.int .i64 2) ∧ w'.cell? ⟨wr.heap.size, 1, none⟩ = some (.slice a1 nl k1) ∧ w'.cell? ⟨wr.heap.size, 2, none⟩ = some (.string fnm) ∧ w'.cell? ⟨wr.heap.size, 3, none⟩ = some (.slice a3 tl k3) ∧ w'.cell? ⟨wr.heap.size, 4, none⟩ = some (.slice a4 l4 k4) ∧ w'.cell? ⟨wr.heap.size, 5, none⟩ = some (.slice a5 l5 k5) ∧ w'.cell? ⟨wr.heap.size, 6, none⟩ = some (.slice a6 l6 k6) ∧ w'.cell? ⟨wr.heap.size, 7, none⟩ = some (.slice a7 l7 k7)))) := fun w' h => ⟨h, h.at (by simp), h.at (by simp), h.at (by simp), h.at (by simp), h.at (by simp), h.at (by simp), h.at (by simp), h.at (by simp)⟩
          clear hs2 HU k2 ee0 ee1 ee2
          go_wp2_with fail
          go_region_held3 (fun w' => Ex (wr.alloc (.cells #[.int .i64 2, .slice a1 nl k1, .string fnm, .slice a3 tl k3, .slice a4 l4 k4, .slice a5 l5 k5, .slice a6 l6 k6, .slice a7 l7 k7] 103)) w' ∧ (w'.cell? ⟨wr.heap.size, 0, none⟩ = some (.int .i64 2) ∧ w'.cell? ⟨wr.heap.size, 1, none⟩ = some (.slice a1 nl k1) ∧ w'.cell? ⟨wr.heap.size, 2, none⟩ = some (.string fnm) ∧ w'.cell? ⟨wr.heap.size, 3, none⟩ = some (.slice a3 tl k3) ∧ w'.cell? ⟨wr.heap.size, 4, none⟩ = some (.slice a4 l4 k4) ∧ w'.cell? ⟨wr.heap.size, 5, none⟩ = some (.slice a5 l5 k5) ∧ w'.cell? ⟨wr.heap.size, 6, none⟩ = some (.slice a6 l6 k6) ∧ w'.cell? ⟨wr.heap.size, 7, none⟩ = some (.slice a7 l7 k7))) ((refine KX.out _ ?_; first | exact (Ex.refl _).drew | exact (And.left ‹Ex _ _ ∧ _›) | exact Ex.trans (And.left ‹Ex _ _ ∧ _›) ‹Ex _ _›)) (first | (go_at_call 64; refine (RW.out _ (Ex.trans VX.out (And.left ‹Ex _ _ ∧ _›))).mono ?_; rintro e w1 ⟨rfl, hb1⟩) | (go_at_call 37; refine (NW.out _ (Ex.trans VX.out (And.left ‹Ex _ _ ∧ _›))).mono ?_; rintro e w2 ⟨rfl, hb2⟩))
          go_wp2_with fail
          go_roundw
          case rel => exact ⟨j + 1, by omega, by go_num, by rw [HV.out], E.out.trans (VX.out.trans (And.left ‹Ex _ _ ∧ _›))⟩
          case measure => simp [intOf]; omega
        · rw [k3'] at b0 VX
          rw [bindX_3 k3'] at HU hs2
          clear HX
          have LT2 : Hid _ := LT.out p1
          have LE2 : Hid _ := LE.out p2
          clear LT LE p1 p2
          generalize rowsX (bterms b j) = rx at RW HU hs2
          generalize namesX (bnames b j) = nx at NW HU hs2
          generalize (bnames b j).length = nl at b1 VX NW
          generalize bfn b j = fnm at b2 VX
          generalize tlen (bterms b j) = tl at b3 VX RW
          generalize blen (bthen b j) = l4 at b4 VX LT2
          generalize tlen (btsay b j) = l5 at b5 VX LT2
          generalize blen (belse b j) = l6 at b6 VX LE2
          generalize tlen (besay b j) = l7 at b7 VX LE2
          generalize upX (bindXat d pre b) j = t at HU hs2 ⊢
          have HV : Hid (t ++ pre ++ ⟨#[105, 102]⟩ ++ rx ++ ⟨#[10]⟩ ++ y1 ++ pre ++ ⟨#[101, 108, 115, 101, 10]⟩ ++ y2 ++ pre ++ ⟨#[102, 111, 114]⟩ ++ nx ++ ⟨#[10]⟩ = upX (bindXat d pre b) (j + 1)) := by show _ = _; rw [HU.out]; simp only [cat3]
          simp only [ByteArray.size_append] at hs2
          have ee0 : (⟨#[105, 102]⟩ : ByteArray).size = 2 := rfl
          have ee1 : (⟨#[10]⟩ : ByteArray).size = 1 := rfl
          have ee2 : (⟨#[101, 108, 115, 101, 10]⟩ : ByteArray).size = 5 := rfl
          have ee3 : (⟨#[102, 111, 114]⟩ : ByteArray).size = 3 := rfl
          have n1 : ¬ 9223372036854775807 < t.size + pre.size := by omega
          have n2 : ¬ 9223372036854775807 < t.size + pre.size + 2 := by omega
          have n3 : ¬ 9223372036854775807 < t.size + pre.size + 2 + rx.size := by omega
          have n4 : ¬ 9223372036854775807 < t.size + pre.size + 2 + rx.size + 1 := by omega
          have n5 : ¬ 9223372036854775807 < t.size + pre.size + 2 + rx.size + 1 + y1.size := by omega
          have n6 : ¬ 9223372036854775807 < t.size + pre.size + 2 + rx.size + 1 + y1.size + pre.size := by omega
          have n7 : ¬ 9223372036854775807 < t.size + pre.size + 2 + rx.size + 1 + y1.size + pre.size + 5 := by omega
          have n8 : ¬ 9223372036854775807 < t.size + pre.size + 2 + rx.size + 1 + y1.size + pre.size + 5 + y2.size := by omega
          have n9 : ¬ 9223372036854775807 < t.size + pre.size + 2 + rx.size + 1 + y1.size + pre.size + 5 + y2.size + pre.size := by omega
          have n10 : ¬ 9223372036854775807 < t.size + pre.size + 2 + rx.size + 1 + y1.size + pre.size + 5 + y2.size + pre.size + 3 := by omega
          have n11 : ¬ 9223372036854775807 < t.size + pre.size + 2 + rx.size + 1 + y1.size + pre.size + 5 + y2.size + pre.size + 3 + nx.size := by omega
          have n12 : ¬ 9223372036854775807 < t.size + pre.size + 2 + rx.size + 1 + y1.size + pre.size + 5 + y2.size + pre.size + 3 + nx.size + 1 := by omega
          have npre : ¬ 9223372036854775807 < pre.size + 1 := by omega
          have KX : Hid (∀ w', Ex (wr.alloc (.cells #[.int .i64 3, .slice a1 nl k1, .string fnm, .slice a3 tl k3, .slice a4 l4 k4, .slice a5 l5 k5, .slice a6 l6 k6, .slice a7 l7 k7] 103)) w' → (Ex (wr.alloc (.cells #[.int .i64 3, .slice a1 nl k1, .string fnm, .slice a3 tl k3, .slice a4 l4 k4, .slice a5 l5 k5, .slice a6 l6 k6, .slice a7 l7 k7] 103)) w' ∧ (w'.cell? ⟨wr.heap.size, 0, none⟩ = some (.int .i64 3) ∧ w'.cell? ⟨wr.heap.size, 1, none⟩ = some (.slice a1 nl k1) ∧ w'.cell? ⟨wr.heap.size, 2, none⟩ = some (.string fnm) ∧ w'.cell? ⟨wr.heap.size, 3, none⟩ = some (.slice a3 tl k3) ∧ w'.cell? ⟨wr.heap.size, 4, none⟩ = some (.slice a4 l4 k4) ∧ w'.cell? ⟨wr.heap.size, 5, none⟩ = some (.slice a5 l5 k5) ∧ w'.cell? ⟨wr.heap.size, 6, none⟩ = some (.slice a6 l6 k6) ∧ w'.cell? ⟨wr.heap.size, 7, none⟩ = some (.slice a7 l7 k7)))) := fun w' h => ⟨h, h.at (by simp), h.at (by simp), h.at (by simp), h.at (by simp), h.at (by simp), h.at (by simp), h.at (by simp), h.at (by simp)⟩
          clear hs2 HU k3' ee0 ee1 ee2 ee3
          go_wp2_with fail
          go_region_held3 (fun w' => Ex (wr.alloc (.cells #[.int .i64 3, .slice a1 nl k1, .string fnm, .slice a3 tl k3, .slice a4 l4 k4, .slice a5 l5 k5, .slice a6 l6 k6, .slice a7 l7 k7] 103)) w' ∧ (w'.cell? ⟨wr.heap.size, 0, none⟩ = some (.int .i64 3) ∧ w'.cell? ⟨wr.heap.size, 1, none⟩ = some (.slice a1 nl k1) ∧ w'.cell? ⟨wr.heap.size, 2, none⟩ = some (.string fnm) ∧ w'.cell? ⟨wr.heap.size, 3, none⟩ = some (.slice a3 tl k3) ∧ w'.cell? ⟨wr.heap.size, 4, none⟩ = some (.slice a4 l4 k4) ∧ w'.cell? ⟨wr.heap.size, 5, none⟩ = some (.slice a5 l5 k5) ∧ w'.cell? ⟨wr.heap.size, 6, none⟩ = some (.slice a6 l6 k6) ∧ w'.cell? ⟨wr.heap.size, 7, none⟩ = some (.slice a7 l7 k7))) ((refine KX.out _ ?_; first | exact (Ex.refl _).drew | exact (And.left ‹Ex _ _ ∧ _›) | exact Ex.trans (And.left ‹Ex _ _ ∧ _›) ‹Ex _ _›)) (first | (go_at_call 64; refine (RW.out _ (Ex.trans VX.out (And.left ‹Ex _ _ ∧ _›))).mono ?_; rintro e w1 ⟨rfl, hb1⟩) | (go_at_call_of 38 (Value.slice a4 l4 k4); refine (LT2.out _ (Ex.trans VX.out (And.left ‹Ex _ _ ∧ _›))).mono ?_; rintro e w3 ⟨rfl, hb3⟩) | (go_at_call_of 38 (Value.slice a6 l6 k6); refine (LE2.out _ (Ex.trans VX.out (And.left ‹Ex _ _ ∧ _›))).mono ?_; rintro e w4 ⟨rfl, hb4⟩) | (go_at_call 37; refine (NW.out _ (Ex.trans VX.out (And.left ‹Ex _ _ ∧ _›))).mono ?_; rintro e w2 ⟨rfl, hb2⟩))
          go_wp2_with fail
          go_roundw
          case rel => exact ⟨j + 1, by omega, by go_num, by rw [HV.out], E.out.trans (VX.out.trans (And.left ‹Ex _ _ ∧ _›))⟩
          case measure => simp [intOf]; omega
      · have hje : j = blen b := by omega
        have HR : Hid (R = upX (bindXat d pre b) j ++ pre ++ ⟨#[115, 97, 121]⟩ ++ rz ++ ⟨#[10]⟩) := by show _ = _; rw [hje, RX.out]; simp only [cat3]
        have s0 := SE.out
        rw [← hje] at s0
        clear hje
        generalize upX (bindXat d pre b) j = t at HR s0 ⊢
        have n1 : ¬ 9223372036854775807 < t.size + pre.size := by omega
        have n2 : ¬ 9223372036854775807 < t.size + pre.size + 3 := by omega
        have n3 : ¬ 9223372036854775807 < t.size + pre.size + 3 + rz.size := by omega
        have n4 : ¬ 9223372036854775807 < t.size + pre.size + 3 + rz.size + 1 := by omega
        clear s0
        go_wp2_with fail
        refine Calls.mono (ZW.out _ (N.out.trans E.out)) ?_
        rintro e w1 ⟨rfl, hb1⟩
        go_wp2_with fail
        go_ret
        exact ⟨ret_s HR.out.symm, N.out.trans (E.out.trans hb1)⟩

end Go.Proofs.YtldbmlojgakieaaGreatDoor

namespace Go.Proofs.YtldbmlojgakieaaGreatDoor

open Go.RowKit Go.Deep

attribute [local go_sem ↓] Go.wp_at_zero Go.wp_at_succ

theorem Bd.drew {B b : Nat} {t : ByteArray} {w : World} (h : Bd B b t w) : Bd B b t w.drew := h
theorem Fx.drew {B b : Nat} {w w' : World} (h : Fx B b w w') : Fx B b w w'.drew := ⟨h.below.drew, h.typed⟩

set_option maxRecDepth 100000 in
set_option maxHeartbeats 1000000 in
theorem namesText_any (p : List ByteArray) (a : Option Addr) (c : Nat) (w : World) (hz : xW p ≤ 1048576) (hT : XA w 0 p a) :
    Calls Tryz.prog 41 #[.slice a p.length c] w fun e w' => e = .returned (.string (namesX p)) ∧ Ex w w' := by
  have T : Hid (∀ w', Ex w w' → XA w' 0 p a) := fun _ h => XA_below hT h
  have SZ : Hid (∀ j, j < p.length → (upX (fun i => ⟨#[32]⟩ ++ p.getD i ⟨#[]⟩) j).size + (p.getD j ⟨#[]⟩).size ≤ 1048576) := fun j hj => by
    have h1 := upX_upto (fun i => ⟨#[32]⟩ ++ p.getD i ⟨#[]⟩) (show j + 1 ≤ p.length by omega)
    have h2 := namesX_size p
    unfold namesX at h2
    rw [upX, ByteArray.size_append, ByteArray.size_append] at h1
    omega
  have hpl : p.length ≤ 1048576 := by unfold xW at hz; omega
  have PX : Hid (namesX p = upX (fun i => ⟨#[32]⟩ ++ p.getD i ⟨#[]⟩) p.length) := rfl
  have BN : Hid _ := Bd.new w
  generalize namesX p = px at PX ⊢
  clear hz hT
  go_enter Tryz.func41, Tryz.ntmps41
  go_wp2_with fail
  go_loopw [5, 8] (fun _ i wr => ∃ (j : Nat), j ≤ p.length ∧ i = .int .i64 j ∧ Bd w.heap.size w.heap.size (upX (fun i => ⟨#[32]⟩ ++ p.getD i ⟨#[]⟩) j) wr ∧ Ex w wr) (fun _ i _ => p.length - (intOf i).toNat)
  case atStart => exact ⟨0, by omega, rfl, BN.out, Ex.new _ _⟩
  case round =>
    obtain ⟨j, hj, rfl, hbd, hx⟩ := hrel
    have X : Hid (Ex w wr) := hx
    have BD : Hid _ := hbd
    clear hx hbd
    by_cases hlt : j < p.length
    · obtain ⟨b, o, rfl, hbs, _, hc⟩ := XA_at (T.out wr X.out) (by omega)
      have ck := hc j hlt
      have st := SZ.out j hlt
      have HU : Hid (upX (fun i => ⟨#[32]⟩ ++ p.getD i ⟨#[]⟩) (j + 1) = upX (fun i => ⟨#[32]⟩ ++ p.getD i ⟨#[]⟩) j ++ (⟨#[32]⟩ ++ p.getD j ⟨#[]⟩)) := rfl
      generalize upX (fun i => ⟨#[32]⟩ ++ p.getD i ⟨#[]⟩) j = t at st HU BD
      generalize p.getD j ⟨#[]⟩ = dd at st ck HU
      have n1 : ¬ 9223372036854775807 < 1 + dd.size := by omega
      have W : Hid _ := write_any w.heap.size w.heap.size t (⟨#[32]⟩ ++ dd) wr BD.out (by rw [ByteArray.size_append]; have e : (⟨#[32]⟩ : ByteArray).size = 1 := rfl; omega)
      clear hc st
      go_wp2_with fail
      refine Calls.mono W.out ?_
      rintro e w1 ⟨rfl, hbd, hfx⟩
      have B1 : Hid (Bd w.heap.size w.heap.size (upX (fun i => ⟨#[32]⟩ ++ p.getD i ⟨#[]⟩) (j + 1)) w1) := by show Bd _ _ _ _; rw [HU.out]; exact hbd
      have X1 : Hid (Ex w w1) := Below.trans X.out hfx.below
      clear hbd hfx W
      go_wp2_with fail
      go_roundw
      case rel => exact ⟨j + 1, by omega, by go_num, B1.out, X1.out⟩
      case measure => simp [intOf]; omega
    · have hje : j = p.length := by omega
      have W : Hid (Calls Tryz.prog 43 #[.pointer (some ⟨w.heap.size, 0, none⟩)] wr fun e w' => e = .returned (.string px) ∧ Below w.heap.size wr w') := by
        have := string_any BD.out
        rw [hje, ← PX.out] at this
        exact this
      clear hje
      go_wp2_with fail
      refine Calls.mono W.out ?_
      rintro e w1 ⟨rfl, hb⟩
      go_wp2_with fail
      go_ret
      exact ⟨rfl, Below.trans X.out hb⟩

end Go.Proofs.YtldbmlojgakieaaGreatDoor

namespace Go.Proofs.YtldbmlojgakieaaGreatDoor

open Go.RowKit Go.Deep

attribute [local go_sem ↓] Go.wp_at_zero Go.wp_at_succ

/-- What a write leaves. -/
def WrP (B bb : Nat) (t x : ByteArray) (w : World) (e : Ending) (w' : World) : Prop := e = .returned (.tuple #[]) ∧ Bd B bb (t ++ x) w' ∧ Fx B bb w w'

theorem box_fx {B bb : Nat} {w w' : World} {vs : Array Value} {T : TypeId} (h : Fx B bb (w.alloc (.cells vs T)) w') (hb : bb < w.heap.size) (hT : T ≠ 5) : w'.heap[w.heap.size]? = some (.cells vs T (0, 0)) :=
  h.typed _ _ _ _ (by omega) (heap_alloc_new _ _) hT

set_option maxRecDepth 100000 in
set_option maxHeartbeats 4000000 in
theorem bind_one (B bb : Nat) (pre t : ByteArray) (nm : List ByteArray) (a1 : Option Addr) (k1 : Nat) (fn : ByteArray) (ts : TM) (a3 : Option Addr) (k3 : Nat) (tb : BD) (a4 : Option Addr) (k4 : Nat) (tz : TM) (a5 : Option Addr) (k5 : Nat) (eb : BD) (a6 : Option Addr) (k6 : Nat) (ez : TM) (a7 : Option Addr) (k7 : Nat) (w : World) (hBd : Bd B bb t w) (h1 : nm.length = 1) (hz : t.size + (nm.getD 0 ⟨#[]⟩ ++ ⟨#[32, 61]⟩ ++ rowsX ts ++ ⟨#[10]⟩).size ≤ 1000000000)
    (hT : ∀ w', Fx B bb w w' → Calls Tryz.prog 67 #[.slice a3 (tlen ts) k3] w' fun e w'' => e = .returned (.string (rowsX ts)) ∧ Ex w' w'') (hN : ∃ nb no, a1 = some ⟨nb, no, none⟩ ∧ nb < B ∧ w.cell? ⟨nb, no, none⟩ = some (.string (nm.getD 0 ⟨#[]⟩))) :
    Calls Tryz.prog 66 #[.pointer (some ⟨bb, 0, none⟩), .agg #[.int .i64 1, .slice a1 nm.length k1, .string fn, .slice a3 (tlen ts) k3, .slice a4 (blen tb) k4, .slice a5 (tlen tz) k5, .slice a6 (blen eb) k6, .slice a7 (tlen ez) k7], .string pre] w (WrP B bb t (nm.getD 0 ⟨#[]⟩ ++ ⟨#[32, 61]⟩ ++ rowsX ts ++ ⟨#[10]⟩) w) := by
  obtain ⟨nb, no, rfl, hnb, hn0⟩ := hN
  rw [h1]
  have hlt := hBd.lt
  have hle : B ≤ w.heap.size := Nat.le_trans hBd.le (Nat.le_of_lt hlt)
  have RT : Hid _ := hT
  generalize rowsX ts = rx at RT hz ⊢
  generalize nm.getD 0 ⟨#[]⟩ = nm0 at hn0 hz ⊢
  have ee : (⟨#[32, 61]⟩ : ByteArray).size = 2 := rfl
  have ef : (⟨#[10]⟩ : ByteArray).size = 1 := rfl
  have HW : Hid (∀ w', Bd B bb t w' → Calls Tryz.prog 40 #[.pointer (some ⟨bb, 0, none⟩), .string (nm0 ++ ⟨#[32, 61]⟩ ++ rx ++ ⟨#[10]⟩)] w' fun e w'' => e = .returned (.tuple #[.int .i64 (nm0 ++ ⟨#[32, 61]⟩ ++ rx ++ ⟨#[10]⟩).size, .nilIface]) ∧ Bd B bb (t ++ (nm0 ++ ⟨#[32, 61]⟩ ++ rx ++ ⟨#[10]⟩)) w'' ∧ Fx B bb w' w'') := fun w' h => write_any B bb t _ w' h (by omega)
  simp only [ByteArray.size_append] at hz
  have n1 : ¬ 9223372036854775807 < nm0.size + 2 := by omega
  have n2 : ¬ 9223372036854775807 < nm0.size + 2 + rx.size := by omega
  have n3 : ¬ 9223372036854775807 < nm0.size + 2 + rx.size + 1 := by omega
  have N : Hid (Ex w (w.alloc (.cells #[.int .i64 1, .slice (some ⟨nb, no, none⟩) 1 k1, .string fn, .slice a3 (tlen ts) k3, .slice a4 (blen tb) k4, .slice a5 (tlen tz) k5, .slice a6 (blen eb) k6, .slice a7 (tlen ez) k7] 103))) := Ex.new _ _
  have FN : Hid (∀ w', Fx B bb (w.alloc (.cells #[.int .i64 1, .slice (some ⟨nb, no, none⟩) 1 k1, .string fn, .slice a3 (tlen ts) k3, .slice a4 (blen tb) k4, .slice a5 (tlen tz) k5, .slice a6 (blen eb) k6, .slice a7 (tlen ez) k7] 103)) w' → Fx B bb w w') := fun w' h => (Fx.of_ex hle (Ex.new _ _)).trans h
  have BX : Hid (∀ w', Fx B bb (w.alloc (.cells #[.int .i64 1, .slice (some ⟨nb, no, none⟩) 1 k1, .string fn, .slice a3 (tlen ts) k3, .slice a4 (blen tb) k4, .slice a5 (tlen tz) k5, .slice a6 (blen eb) k6, .slice a7 (tlen ez) k7] 103)) w' → w'.heap[w.heap.size]? = some (.cells #[.int .i64 1, .slice (some ⟨nb, no, none⟩) 1 k1, .string fn, .slice a3 (tlen ts) k3, .slice a4 (blen tb) k4, .slice a5 (tlen tz) k5, .slice a6 (blen eb) k6, .slice a7 (tlen ez) k7] 103 (0, 0))) := fun w' h => box_fx h hlt (by decide)
  have HB1 : Hid (B ≤ (w.alloc (.cells #[.int .i64 1, .slice (some ⟨nb, no, none⟩) 1 k1, .string fn, .slice a3 (tlen ts) k3, .slice a4 (blen tb) k4, .slice a5 (tlen tz) k5, .slice a6 (blen eb) k6, .slice a7 (tlen ez) k7] 103)).heap.size) := by show _ ≤ _; rw [World.size_alloc]; omega
  have BD0 : Hid (Bd B bb t (w.alloc (.cells #[.int .i64 1, .slice (some ⟨nb, no, none⟩) 1 k1, .string fn, .slice a3 (tlen ts) k3, .slice a4 (blen tb) k4, .slice a5 (tlen tz) k5, .slice a6 (blen eb) k6, .slice a7 (tlen ez) k7] 103))) := hBd.ex (Ex.new _ _)
  have KX : Hid (∀ w', Fx B bb (w.alloc (.cells #[.int .i64 1, .slice (some ⟨nb, no, none⟩) 1 k1, .string fn, .slice a3 (tlen ts) k3, .slice a4 (blen tb) k4, .slice a5 (tlen tz) k5, .slice a6 (blen eb) k6, .slice a7 (tlen ez) k7] 103)) w' → (Fx B bb (w.alloc (.cells #[.int .i64 1, .slice (some ⟨nb, no, none⟩) 1 k1, .string fn, .slice a3 (tlen ts) k3, .slice a4 (blen tb) k4, .slice a5 (tlen tz) k5, .slice a6 (blen eb) k6, .slice a7 (tlen ez) k7] 103)) w' ∧ (w'.cell? ⟨w.heap.size, 0, none⟩ = some (.int .i64 1) ∧ w'.cell? ⟨w.heap.size, 1, none⟩ = some (.slice (some ⟨nb, no, none⟩) 1 k1) ∧ w'.cell? ⟨w.heap.size, 2, none⟩ = some (.string fn) ∧ w'.cell? ⟨w.heap.size, 3, none⟩ = some (.slice a3 (tlen ts) k3) ∧ w'.cell? ⟨w.heap.size, 4, none⟩ = some (.slice a4 (blen tb) k4) ∧ w'.cell? ⟨w.heap.size, 5, none⟩ = some (.slice a5 (tlen tz) k5) ∧ w'.cell? ⟨w.heap.size, 6, none⟩ = some (.slice a6 (blen eb) k6) ∧ w'.cell? ⟨w.heap.size, 7, none⟩ = some (.slice a7 (tlen ez) k7)) ∧ w'.cell? ⟨nb, no, none⟩ = some (.string nm0))) := fun w' h => ⟨h, ⟨blk_cell (BX.out _ h) 0, blk_cell (BX.out _ h) 1, blk_cell (BX.out _ h) 2, blk_cell (BX.out _ h) 3, blk_cell (BX.out _ h) 4, blk_cell (BX.out _ h) 5, blk_cell (BX.out _ h) 6, blk_cell (BX.out _ h) 7⟩, (World.cell?_of_block (h.below.block nb hnb)).trans ((Ex.new _ _).at hn0)⟩
  clear hBd h1 hz hT hnb hn0 ee ef
  go_enter Tryz.func66, Tryz.ntmps66
  go_wp2_with fail
  go_region_held3 (fun w' => Fx B bb (w.alloc (.cells #[.int .i64 1, .slice (some ⟨nb, no, none⟩) 1 k1, .string fn, .slice a3 (tlen ts) k3, .slice a4 (blen tb) k4, .slice a5 (tlen tz) k5, .slice a6 (blen eb) k6, .slice a7 (tlen ez) k7] 103)) w' ∧ (w'.cell? ⟨w.heap.size, 0, none⟩ = some (.int .i64 1) ∧ w'.cell? ⟨w.heap.size, 1, none⟩ = some (.slice (some ⟨nb, no, none⟩) 1 k1) ∧ w'.cell? ⟨w.heap.size, 2, none⟩ = some (.string fn) ∧ w'.cell? ⟨w.heap.size, 3, none⟩ = some (.slice a3 (tlen ts) k3) ∧ w'.cell? ⟨w.heap.size, 4, none⟩ = some (.slice a4 (blen tb) k4) ∧ w'.cell? ⟨w.heap.size, 5, none⟩ = some (.slice a5 (tlen tz) k5) ∧ w'.cell? ⟨w.heap.size, 6, none⟩ = some (.slice a6 (blen eb) k6) ∧ w'.cell? ⟨w.heap.size, 7, none⟩ = some (.slice a7 (tlen ez) k7)) ∧ w'.cell? ⟨nb, no, none⟩ = some (.string nm0)) ((refine KX.out _ ?_; first | exact (Fx.refl _ _ _).drew | exact Fx.ex (And.left ‹Fx _ _ _ _ ∧ _›) HB1.out ‹Ex _ _› | exact Fx.trans (And.left ‹Fx _ _ _ _ ∧ _›) ‹Fx _ _ _ _›)) (first | (go_at_call 67; refine (RT.out _ (FN.out _ (And.left ‹Fx _ _ _ _ ∧ _›))).mono ?_; rintro e w1 ⟨rfl, hb1⟩; have hbd := Bd.ex BD0.out.drew hb1) | (go_at_call 40; refine (HW.out _ hbd).mono ?_; rintro e w2 ⟨rfl, hbd2, hfx2⟩))
  go_wp2_with fail
  go_end0
  exact ⟨rfl, hbd2, FN.out _ (And.left ‹Fx _ _ _ _ ∧ _›)⟩

set_option maxRecDepth 100000 in
set_option maxHeartbeats 4000000 in
theorem bind_call (B bb : Nat) (pre t : ByteArray) (nm : List ByteArray) (a1 : Option Addr) (k1 : Nat) (fn : ByteArray) (ts : TM) (a3 : Option Addr) (k3 : Nat) (tb : BD) (a4 : Option Addr) (k4 : Nat) (tz : TM) (a5 : Option Addr) (k5 : Nat) (eb : BD) (a6 : Option Addr) (k6 : Nat) (ez : TM) (a7 : Option Addr) (k7 : Nat) (w : World) (hBd : Bd B bb t w) (hz : t.size + (⟨#[108, 101, 116]⟩ ++ namesX nm ++ ⟨#[32, 61, 32]⟩ ++ fn ++ rowsX ts ++ ⟨#[10]⟩).size ≤ 1000000000)
    (hT : ∀ w', Fx B bb w w' → Calls Tryz.prog 67 #[.slice a3 (tlen ts) k3] w' fun e w'' => e = .returned (.string (rowsX ts)) ∧ Ex w' w'') (hN : ∀ w', Fx B bb w w' → Calls Tryz.prog 41 #[.slice a1 nm.length k1] w' fun e w'' => e = .returned (.string (namesX nm)) ∧ Ex w' w'') :
    Calls Tryz.prog 66 #[.pointer (some ⟨bb, 0, none⟩), .agg #[.int .i64 2, .slice a1 nm.length k1, .string fn, .slice a3 (tlen ts) k3, .slice a4 (blen tb) k4, .slice a5 (tlen tz) k5, .slice a6 (blen eb) k6, .slice a7 (tlen ez) k7], .string pre] w (WrP B bb t (⟨#[108, 101, 116]⟩ ++ namesX nm ++ ⟨#[32, 61, 32]⟩ ++ fn ++ rowsX ts ++ ⟨#[10]⟩) w) := by
  have hlt := hBd.lt
  have hle : B ≤ w.heap.size := Nat.le_trans hBd.le (Nat.le_of_lt hlt)
  have RT : Hid _ := hT
  have RN : Hid _ := hN
  generalize rowsX ts = rx at RT hz ⊢
  generalize namesX nm = nx at RN hz ⊢
  generalize nm.length = nl at RN ⊢
  have ee : (⟨#[108, 101, 116]⟩ : ByteArray).size = 3 := rfl
  have eg : (⟨#[32, 61, 32]⟩ : ByteArray).size = 3 := rfl
  have ef : (⟨#[10]⟩ : ByteArray).size = 1 := rfl
  have HW : Hid (∀ w', Bd B bb t w' → Calls Tryz.prog 40 #[.pointer (some ⟨bb, 0, none⟩), .string (⟨#[108, 101, 116]⟩ ++ nx ++ ⟨#[32, 61, 32]⟩ ++ fn ++ rx ++ ⟨#[10]⟩)] w' fun e w'' => e = .returned (.tuple #[.int .i64 (⟨#[108, 101, 116]⟩ ++ nx ++ ⟨#[32, 61, 32]⟩ ++ fn ++ rx ++ ⟨#[10]⟩).size, .nilIface]) ∧ Bd B bb (t ++ (⟨#[108, 101, 116]⟩ ++ nx ++ ⟨#[32, 61, 32]⟩ ++ fn ++ rx ++ ⟨#[10]⟩)) w'' ∧ Fx B bb w' w'') := fun w' h => write_any B bb t _ w' h (by omega)
  simp only [ByteArray.size_append] at hz
  have n1 : ¬ 9223372036854775807 < 3 + nx.size := by omega
  have n2 : ¬ 9223372036854775807 < 3 + nx.size + 3 := by omega
  have n3 : ¬ 9223372036854775807 < 3 + nx.size + 3 + fn.size := by omega
  have n4 : ¬ 9223372036854775807 < 3 + nx.size + 3 + fn.size + rx.size := by omega
  have n5 : ¬ 9223372036854775807 < 3 + nx.size + 3 + fn.size + rx.size + 1 := by omega
  have N : Hid (Ex w (w.alloc (.cells #[.int .i64 2, .slice a1 nl k1, .string fn, .slice a3 (tlen ts) k3, .slice a4 (blen tb) k4, .slice a5 (tlen tz) k5, .slice a6 (blen eb) k6, .slice a7 (tlen ez) k7] 103))) := Ex.new _ _
  have FN : Hid (∀ w', Fx B bb (w.alloc (.cells #[.int .i64 2, .slice a1 nl k1, .string fn, .slice a3 (tlen ts) k3, .slice a4 (blen tb) k4, .slice a5 (tlen tz) k5, .slice a6 (blen eb) k6, .slice a7 (tlen ez) k7] 103)) w' → Fx B bb w w') := fun w' h => (Fx.of_ex hle (Ex.new _ _)).trans h
  have BX : Hid (∀ w', Fx B bb (w.alloc (.cells #[.int .i64 2, .slice a1 nl k1, .string fn, .slice a3 (tlen ts) k3, .slice a4 (blen tb) k4, .slice a5 (tlen tz) k5, .slice a6 (blen eb) k6, .slice a7 (tlen ez) k7] 103)) w' → w'.heap[w.heap.size]? = some (.cells #[.int .i64 2, .slice a1 nl k1, .string fn, .slice a3 (tlen ts) k3, .slice a4 (blen tb) k4, .slice a5 (tlen tz) k5, .slice a6 (blen eb) k6, .slice a7 (tlen ez) k7] 103 (0, 0))) := fun w' h => box_fx h hlt (by decide)
  have HB1 : Hid (B ≤ (w.alloc (.cells #[.int .i64 2, .slice a1 nl k1, .string fn, .slice a3 (tlen ts) k3, .slice a4 (blen tb) k4, .slice a5 (tlen tz) k5, .slice a6 (blen eb) k6, .slice a7 (tlen ez) k7] 103)).heap.size) := by show _ ≤ _; rw [World.size_alloc]; omega
  have BD0 : Hid (Bd B bb t (w.alloc (.cells #[.int .i64 2, .slice a1 nl k1, .string fn, .slice a3 (tlen ts) k3, .slice a4 (blen tb) k4, .slice a5 (tlen tz) k5, .slice a6 (blen eb) k6, .slice a7 (tlen ez) k7] 103))) := hBd.ex (Ex.new _ _)
  have KX : Hid (∀ w', Fx B bb (w.alloc (.cells #[.int .i64 2, .slice a1 nl k1, .string fn, .slice a3 (tlen ts) k3, .slice a4 (blen tb) k4, .slice a5 (tlen tz) k5, .slice a6 (blen eb) k6, .slice a7 (tlen ez) k7] 103)) w' → (Fx B bb (w.alloc (.cells #[.int .i64 2, .slice a1 nl k1, .string fn, .slice a3 (tlen ts) k3, .slice a4 (blen tb) k4, .slice a5 (tlen tz) k5, .slice a6 (blen eb) k6, .slice a7 (tlen ez) k7] 103)) w' ∧ w'.cell? ⟨w.heap.size, 0, none⟩ = some (.int .i64 2) ∧ w'.cell? ⟨w.heap.size, 1, none⟩ = some (.slice a1 nl k1) ∧ w'.cell? ⟨w.heap.size, 2, none⟩ = some (.string fn) ∧ w'.cell? ⟨w.heap.size, 3, none⟩ = some (.slice a3 (tlen ts) k3) ∧ w'.cell? ⟨w.heap.size, 4, none⟩ = some (.slice a4 (blen tb) k4) ∧ w'.cell? ⟨w.heap.size, 5, none⟩ = some (.slice a5 (tlen tz) k5) ∧ w'.cell? ⟨w.heap.size, 6, none⟩ = some (.slice a6 (blen eb) k6) ∧ w'.cell? ⟨w.heap.size, 7, none⟩ = some (.slice a7 (tlen ez) k7))) := fun w' h => ⟨h, blk_cell (BX.out _ h) 0, blk_cell (BX.out _ h) 1, blk_cell (BX.out _ h) 2, blk_cell (BX.out _ h) 3, blk_cell (BX.out _ h) 4, blk_cell (BX.out _ h) 5, blk_cell (BX.out _ h) 6, blk_cell (BX.out _ h) 7⟩
  clear hBd hz hT hN ee ef eg
  go_enter Tryz.func66, Tryz.ntmps66
  go_wp2_with fail
  go_region_held3 (fun w' => Fx B bb (w.alloc (.cells #[.int .i64 2, .slice a1 nl k1, .string fn, .slice a3 (tlen ts) k3, .slice a4 (blen tb) k4, .slice a5 (tlen tz) k5, .slice a6 (blen eb) k6, .slice a7 (tlen ez) k7] 103)) w' ∧ w'.cell? ⟨w.heap.size, 0, none⟩ = some (.int .i64 2) ∧ w'.cell? ⟨w.heap.size, 1, none⟩ = some (.slice a1 nl k1) ∧ w'.cell? ⟨w.heap.size, 2, none⟩ = some (.string fn) ∧ w'.cell? ⟨w.heap.size, 3, none⟩ = some (.slice a3 (tlen ts) k3) ∧ w'.cell? ⟨w.heap.size, 4, none⟩ = some (.slice a4 (blen tb) k4) ∧ w'.cell? ⟨w.heap.size, 5, none⟩ = some (.slice a5 (tlen tz) k5) ∧ w'.cell? ⟨w.heap.size, 6, none⟩ = some (.slice a6 (blen eb) k6) ∧ w'.cell? ⟨w.heap.size, 7, none⟩ = some (.slice a7 (tlen ez) k7)) ((refine KX.out _ ?_; first | exact (Fx.refl _ _ _).drew | exact Fx.ex (And.left ‹Fx _ _ _ _ ∧ _›) HB1.out ‹Ex _ _› | exact Fx.trans (And.left ‹Fx _ _ _ _ ∧ _›) ‹Fx _ _ _ _›)) (first | (go_at_call 41; refine (RN.out _ (FN.out _ (And.left ‹Fx _ _ _ _ ∧ _›))).mono ?_; rintro e w1 ⟨rfl, hb1⟩; have hbd0 := Bd.ex BD0.out.drew hb1) | (go_at_call 67; refine (RT.out _ (FN.out _ (And.left ‹Fx _ _ _ _ ∧ _›))).mono ?_; rintro e w2 ⟨rfl, hb2⟩; have hbd := Bd.ex hbd0 hb2) | (go_at_call 40; refine (HW.out _ hbd).mono ?_; rintro e w2 ⟨rfl, hbd2, hfx2⟩))
  go_wp2_with fail
  go_end0
  exact ⟨rfl, hbd2, FN.out _ (And.left ‹Fx _ _ _ _ ∧ _›)⟩

set_option maxRecDepth 100000 in
set_option maxHeartbeats 4000000 in
theorem bind_if (B bb : Nat) (pre t : ByteArray) (nm : List ByteArray) (a1 : Option Addr) (k1 : Nat) (fn : ByteArray) (ts : TM) (a3 : Option Addr) (k3 : Nat) (tb : BD) (a4 : Option Addr) (k4 : Nat) (tz : TM) (a5 : Option Addr) (k5 : Nat) (eb : BD) (a6 : Option Addr) (k6 : Nat) (ez : TM) (a7 : Option Addr) (k7 : Nat) (w : World) (y1 y2 : ByteArray) (hBd : Bd B bb t w) (hz : t.size + (⟨#[105, 102]⟩ ++ rowsX ts ++ ⟨#[10]⟩ ++ y1 ++ pre ++ ⟨#[101, 108, 115, 101, 10]⟩ ++ y2 ++ pre ++ ⟨#[102, 111, 114]⟩ ++ namesX nm ++ ⟨#[10]⟩).size ≤ 1000000000)
    (hT : ∀ w', Fx B bb w w' → Calls Tryz.prog 67 #[.slice a3 (tlen ts) k3] w' fun e w'' => e = .returned (.string (rowsX ts)) ∧ Ex w' w'') (hN : ∀ w', Fx B bb w w' → Calls Tryz.prog 41 #[.slice a1 nm.length k1] w' fun e w'' => e = .returned (.string (namesX nm)) ∧ Ex w' w'')
    (hY : ∀ t' w', Fx B bb w w' → Bd B bb t' w' → t'.size + y1.size ≤ 1000000000 → Calls Tryz.prog 42 #[.pointer (some ⟨bb, 0, none⟩), .agg #[.slice a4 (blen tb) k4, .slice a5 (tlen tz) k5], .string (pre ++ ⟨#[32]⟩)] w' (WrP B bb t' y1 w'))
    (hE : ∀ t' w', Fx B bb w w' → Bd B bb t' w' → t'.size + y2.size ≤ 1000000000 → Calls Tryz.prog 42 #[.pointer (some ⟨bb, 0, none⟩), .agg #[.slice a6 (blen eb) k6, .slice a7 (tlen ez) k7], .string (pre ++ ⟨#[32]⟩)] w' (WrP B bb t' y2 w')) :
    Calls Tryz.prog 66 #[.pointer (some ⟨bb, 0, none⟩), .agg #[.int .i64 3, .slice a1 nm.length k1, .string fn, .slice a3 (tlen ts) k3, .slice a4 (blen tb) k4, .slice a5 (tlen tz) k5, .slice a6 (blen eb) k6, .slice a7 (tlen ez) k7], .string pre] w (WrP B bb t (⟨#[105, 102]⟩ ++ rowsX ts ++ ⟨#[10]⟩ ++ y1 ++ pre ++ ⟨#[101, 108, 115, 101, 10]⟩ ++ y2 ++ pre ++ ⟨#[102, 111, 114]⟩ ++ namesX nm ++ ⟨#[10]⟩) w) := by
  have hlt := hBd.lt
  have hle : B ≤ w.heap.size := Nat.le_trans hBd.le (Nat.le_of_lt hlt)
  have RT : Hid _ := hT
  have RN : Hid _ := hN
  have RY : Hid _ := hY
  have RE : Hid _ := hE
  generalize rowsX ts = rx at RT hz ⊢
  generalize namesX nm = nx at RN hz ⊢
  generalize nm.length = nl at RN ⊢
  have ee : (⟨#[105, 102]⟩ : ByteArray).size = 2 := rfl
  have eg : (⟨#[101, 108, 115, 101, 10]⟩ : ByteArray).size = 5 := rfl
  have eh : (⟨#[102, 111, 114]⟩ : ByteArray).size = 3 := rfl
  have ef : (⟨#[10]⟩ : ByteArray).size = 1 := rfl
  have HZ : Hid _ := hz
  simp only [ByteArray.size_append] at hz
  have n1 : ¬ 9223372036854775807 < 2 + rx.size := by omega
  have n2 : ¬ 9223372036854775807 < 2 + rx.size + 1 := by omega
  have n3 : ¬ 9223372036854775807 < pre.size + 1 := by omega
  have n4 : ¬ 9223372036854775807 < pre.size + 5 := by omega
  have n5 : ¬ 9223372036854775807 < pre.size + 3 := by omega
  have n6 : ¬ 9223372036854775807 < pre.size + 3 + nx.size := by omega
  have n7 : ¬ 9223372036854775807 < pre.size + 3 + nx.size + 1 := by omega
  have N : Hid (Ex w (w.alloc (.cells #[.int .i64 3, .slice a1 nl k1, .string fn, .slice a3 (tlen ts) k3, .slice a4 (blen tb) k4, .slice a5 (tlen tz) k5, .slice a6 (blen eb) k6, .slice a7 (tlen ez) k7] 103))) := Ex.new _ _
  have FN : Hid (∀ w', Fx B bb (w.alloc (.cells #[.int .i64 3, .slice a1 nl k1, .string fn, .slice a3 (tlen ts) k3, .slice a4 (blen tb) k4, .slice a5 (tlen tz) k5, .slice a6 (blen eb) k6, .slice a7 (tlen ez) k7] 103)) w' → Fx B bb w w') := fun w' h => (Fx.of_ex hle (Ex.new _ _)).trans h
  have BX : Hid (∀ w', Fx B bb (w.alloc (.cells #[.int .i64 3, .slice a1 nl k1, .string fn, .slice a3 (tlen ts) k3, .slice a4 (blen tb) k4, .slice a5 (tlen tz) k5, .slice a6 (blen eb) k6, .slice a7 (tlen ez) k7] 103)) w' → w'.heap[w.heap.size]? = some (.cells #[.int .i64 3, .slice a1 nl k1, .string fn, .slice a3 (tlen ts) k3, .slice a4 (blen tb) k4, .slice a5 (tlen tz) k5, .slice a6 (blen eb) k6, .slice a7 (tlen ez) k7] 103 (0, 0))) := fun w' h => box_fx h hlt (by decide)
  have HB1 : Hid (B ≤ (w.alloc (.cells #[.int .i64 3, .slice a1 nl k1, .string fn, .slice a3 (tlen ts) k3, .slice a4 (blen tb) k4, .slice a5 (tlen tz) k5, .slice a6 (blen eb) k6, .slice a7 (tlen ez) k7] 103)).heap.size) := by show _ ≤ _; rw [World.size_alloc]; omega
  have BD0 : Hid (Bd B bb t (w.alloc (.cells #[.int .i64 3, .slice a1 nl k1, .string fn, .slice a3 (tlen ts) k3, .slice a4 (blen tb) k4, .slice a5 (tlen tz) k5, .slice a6 (blen eb) k6, .slice a7 (tlen ez) k7] 103))) := hBd.ex (Ex.new _ _)
  have KX : Hid (∀ w', Fx B bb (w.alloc (.cells #[.int .i64 3, .slice a1 nl k1, .string fn, .slice a3 (tlen ts) k3, .slice a4 (blen tb) k4, .slice a5 (tlen tz) k5, .slice a6 (blen eb) k6, .slice a7 (tlen ez) k7] 103)) w' → w'.cell? ⟨w.heap.size, 0, none⟩ = some (.int .i64 3) ∧ w'.cell? ⟨w.heap.size, 1, none⟩ = some (.slice a1 nl k1) ∧ w'.cell? ⟨w.heap.size, 2, none⟩ = some (.string fn) ∧ w'.cell? ⟨w.heap.size, 3, none⟩ = some (.slice a3 (tlen ts) k3) ∧ w'.cell? ⟨w.heap.size, 4, none⟩ = some (.slice a4 (blen tb) k4) ∧ w'.cell? ⟨w.heap.size, 5, none⟩ = some (.slice a5 (tlen tz) k5) ∧ w'.cell? ⟨w.heap.size, 6, none⟩ = some (.slice a6 (blen eb) k6) ∧ w'.cell? ⟨w.heap.size, 7, none⟩ = some (.slice a7 (tlen ez) k7)) := fun w' h => ⟨blk_cell (BX.out _ h) 0, blk_cell (BX.out _ h) 1, blk_cell (BX.out _ h) 2, blk_cell (BX.out _ h) 3, blk_cell (BX.out _ h) 4, blk_cell (BX.out _ h) 5, blk_cell (BX.out _ h) 6, blk_cell (BX.out _ h) 7⟩
  have hW : ∀ t' s w', Bd B bb t' w' → t'.size + s.size ≤ 1000000000 → Calls Tryz.prog 40 #[.pointer (some ⟨bb, 0, none⟩), .string s] w' fun e w'' => e = .returned (.tuple #[.int .i64 s.size, .nilIface]) ∧ Bd B bb (t' ++ s) w'' ∧ Fx B bb w' w'' := fun t' s w' h hs => write_any B bb t' s w' h (by omega)
  have HW : Hid _ := hW
  have Z1 : Hid (t.size + (⟨#[105, 102]⟩ ++ rx ++ ⟨#[10]⟩ : ByteArray).size ≤ 1000000000) := by show _ ≤ _; simp only [ByteArray.size_append]; omega
  have Z2 : Hid ((t ++ (⟨#[105, 102]⟩ ++ rx ++ ⟨#[10]⟩)).size + y1.size ≤ 1000000000) := by show _ ≤ _; simp only [ByteArray.size_append]; omega
  have Z3 : Hid ((t ++ (⟨#[105, 102]⟩ ++ rx ++ ⟨#[10]⟩) ++ y1).size + (pre ++ ⟨#[101, 108, 115, 101, 10]⟩).size ≤ 1000000000) := by show _ ≤ _; simp only [ByteArray.size_append]; omega
  have Z4 : Hid ((t ++ (⟨#[105, 102]⟩ ++ rx ++ ⟨#[10]⟩) ++ y1 ++ (pre ++ ⟨#[101, 108, 115, 101, 10]⟩)).size + y2.size ≤ 1000000000) := by show _ ≤ _; simp only [ByteArray.size_append]; omega
  have Z5 : Hid ((t ++ (⟨#[105, 102]⟩ ++ rx ++ ⟨#[10]⟩) ++ y1 ++ (pre ++ ⟨#[101, 108, 115, 101, 10]⟩) ++ y2).size + (pre ++ ⟨#[102, 111, 114]⟩ ++ nx ++ ⟨#[10]⟩).size ≤ 1000000000) := by show _ ≤ _; simp only [ByteArray.size_append]; omega
  have FIN : Hid (t ++ (⟨#[105, 102]⟩ ++ rx ++ ⟨#[10]⟩) ++ y1 ++ (pre ++ ⟨#[101, 108, 115, 101, 10]⟩) ++ y2 ++ (pre ++ ⟨#[102, 111, 114]⟩ ++ nx ++ ⟨#[10]⟩) = t ++ (⟨#[105, 102]⟩ ++ rx ++ ⟨#[10]⟩ ++ y1 ++ pre ++ ⟨#[101, 108, 115, 101, 10]⟩ ++ y2 ++ pre ++ ⟨#[102, 111, 114]⟩ ++ nx ++ ⟨#[10]⟩)) := by show _ = _; simp only [cat3]
  clear hBd hz hT hN hY hE ee ef eg eh hW HZ
  obtain ⟨c0, c1, c2, c3, c4, c5, c6, c7⟩ := KX.out _ (Fx.refl _ _ _)
  go_enter Tryz.func66, Tryz.ntmps66
  go_wp2_with fail
  refine Calls.mono (RT.out _ (FN.out _ (Fx.refl _ _ _))) ?_
  rintro e w1 ⟨rfl, hb1⟩
  have B1 : Hid (Bd B bb t w1) := BD0.out.ex hb1
  have F1 : Hid (Fx B bb (w.alloc (.cells #[.int .i64 3, .slice a1 nl k1, .string fn, .slice a3 (tlen ts) k3, .slice a4 (blen tb) k4, .slice a5 (tlen tz) k5, .slice a6 (blen eb) k6, .slice a7 (tlen ez) k7] 103)) w1) := Fx.of_ex HB1.out hb1
  clear hb1 c0 c1 c2 c3 c4 c5 c6 c7
  obtain ⟨c0, c1, c2, c3, c4, c5, c6, c7⟩ := KX.out _ F1.out
  go_wp2_with fail
  refine Calls.mono (HW.out _ _ _ B1.out Z1.out) ?_
  rintro e w2 ⟨rfl, hbd, hfx⟩
  have B2 : Hid _ := hbd
  have F2 : Hid (Fx B bb (w.alloc (.cells #[.int .i64 3, .slice a1 nl k1, .string fn, .slice a3 (tlen ts) k3, .slice a4 (blen tb) k4, .slice a5 (tlen tz) k5, .slice a6 (blen eb) k6, .slice a7 (tlen ez) k7] 103)) w2) := F1.out.trans hfx
  clear hbd hfx c0 c1 c2 c3 c4 c5 c6 c7
  obtain ⟨c0, c1, c2, c3, c4, c5, c6, c7⟩ := KX.out _ F2.out
  go_wp2_with fail
  refine Calls.mono (RY.out _ _ (FN.out _ F2.out) B2.out Z2.out) ?_
  rintro e w3 ⟨rfl, hbd, hfx⟩
  have B3 : Hid _ := hbd
  have F3 : Hid (Fx B bb (w.alloc (.cells #[.int .i64 3, .slice a1 nl k1, .string fn, .slice a3 (tlen ts) k3, .slice a4 (blen tb) k4, .slice a5 (tlen tz) k5, .slice a6 (blen eb) k6, .slice a7 (tlen ez) k7] 103)) w3) := F2.out.trans hfx
  clear hbd hfx c0 c1 c2 c3 c4 c5 c6 c7
  obtain ⟨c0, c1, c2, c3, c4, c5, c6, c7⟩ := KX.out _ F3.out
  go_wp2_with fail
  refine Calls.mono (HW.out _ _ _ B3.out Z3.out) ?_
  rintro e w4 ⟨rfl, hbd, hfx⟩
  have B4 : Hid _ := hbd
  have F4 : Hid (Fx B bb (w.alloc (.cells #[.int .i64 3, .slice a1 nl k1, .string fn, .slice a3 (tlen ts) k3, .slice a4 (blen tb) k4, .slice a5 (tlen tz) k5, .slice a6 (blen eb) k6, .slice a7 (tlen ez) k7] 103)) w4) := F3.out.trans hfx
  clear hbd hfx c0 c1 c2 c3 c4 c5 c6 c7
  obtain ⟨c0, c1, c2, c3, c4, c5, c6, c7⟩ := KX.out _ F4.out
  go_wp2_with fail
  refine Calls.mono (RE.out _ _ (FN.out _ F4.out) B4.out Z4.out) ?_
  rintro e w5 ⟨rfl, hbd, hfx⟩
  have B5 : Hid _ := hbd
  have F5 : Hid (Fx B bb (w.alloc (.cells #[.int .i64 3, .slice a1 nl k1, .string fn, .slice a3 (tlen ts) k3, .slice a4 (blen tb) k4, .slice a5 (tlen tz) k5, .slice a6 (blen eb) k6, .slice a7 (tlen ez) k7] 103)) w5) := F4.out.trans hfx
  clear hbd hfx c0 c1 c2 c3 c4 c5 c6 c7
  obtain ⟨c0, c1, c2, c3, c4, c5, c6, c7⟩ := KX.out _ F5.out
  go_wp2_with fail
  refine Calls.mono (RN.out _ (FN.out _ F5.out)) ?_
  rintro e w6 ⟨rfl, hb6⟩
  have B6 : Hid _ := Bd.ex B5.out hb6
  have F6 : Hid (Fx B bb (w.alloc (.cells #[.int .i64 3, .slice a1 nl k1, .string fn, .slice a3 (tlen ts) k3, .slice a4 (blen tb) k4, .slice a5 (tlen tz) k5, .slice a6 (blen eb) k6, .slice a7 (tlen ez) k7] 103)) w6) := F5.out.ex HB1.out hb6
  clear hb6 c0 c1 c2 c3 c4 c5 c6 c7
  obtain ⟨c0, c1, c2, c3, c4, c5, c6, c7⟩ := KX.out _ F6.out
  go_wp2_with fail
  refine Calls.mono (HW.out _ _ _ B6.out Z5.out) ?_
  rintro e w7 ⟨rfl, hbd, hfx⟩
  have B7 : Hid _ := hbd
  have F7 : Hid (Fx B bb (w.alloc (.cells #[.int .i64 3, .slice a1 nl k1, .string fn, .slice a3 (tlen ts) k3, .slice a4 (blen tb) k4, .slice a5 (tlen tz) k5, .slice a6 (blen eb) k6, .slice a7 (tlen ez) k7] 103)) w7) := F6.out.trans hfx
  clear hbd hfx c0 c1 c2 c3 c4 c5 c6 c7
  go_wp2_with fail
  go_end0
  exact ⟨rfl, by rw [← FIN.out]; exact B7.out, FN.out _ F7.out⟩

end Go.Proofs.YtldbmlojgakieaaGreatDoor
