/- The texts of functions without places, and how long they are. -/
import Derived.Test.YtpibamhkmmgooaaGreatDoorT2

import Derived.Test.YtpibamhkmmgooaaGreatDoorSZ2

import Derived.Test.YtpibamhkmmgooaaGreatDoorIM5

import Derived.Test.YtpibamhkmmgooaaGreatDoorBD6

namespace Go.Proofs.YtpibamhkmmgooaaGreatDoor

open Go.RowKit Go.Deep

/-- A number in decimals. -/
def dec (n : Int) : ByteArray := ⟨(Lib.decDigits n.toNat).toArray⟩
theorem dec_size4 {n : Int} (h : n ≤ 9999) : (dec n).size ≤ 4 := by
  show (Lib.decDigits n.toNat).toArray.size ≤ _
  have := dec_len 3 n.toNat (by omega)
  simp; omega
theorem dec_size1 {n : Int} (h : n ≤ 9) : (dec n).size ≤ 1 := by
  show (Lib.decDigits n.toNat).toArray.size ≤ _
  have := dec_len 0 n.toNat (by omega)
  simp; omega

/-- So many texts, one behind the other. -/
def upX (g : Nat → ByteArray) : Nat → ByteArray
  | 0 => ⟨#[]⟩
  | k + 1 => upX g k ++ g k
theorem upX_size (g : Nat → ByteArray) : ∀ n, (upX g n).size = sumN (fun i => (g i).size) n
  | 0 => rfl
  | n + 1 => by rw [upX, ByteArray.size_append, upX_size g n, sumN]
theorem upX_eq {g g' : Nat → ByteArray} : ∀ n, (∀ i, i < n → g i = g' i) → upX g n = upX g' n
  | 0, _ => rfl
  | n + 1, h => by rw [upX, upX, upX_eq n fun i hi => h i (by omega), h n (by omega)]
theorem sumN_le {g g' : Nat → Nat} : ∀ n, (∀ i, i < n → g i ≤ g' i) → sumN g n ≤ sumN g' n
  | 0, _ => Nat.le_refl _
  | n + 1, h => by
    have h1 := sumN_le n fun i hi => h i (by omega)
    have h2 := h n (by omega)
    simp only [sumN]; omega
theorem sumN_upto (g : Nat → Nat) : ∀ {k n : Nat}, k ≤ n → sumN g k ≤ sumN g n
  | k, 0, h => by have : k = 0 := by omega
                  subst this; exact Nat.le_refl _
  | k, n + 1, h => by
    by_cases hk : k = n + 1
    · subst hk; exact Nat.le_refl _
    · have := sumN_upto g (k := k) (n := n) (by omega)
      simp only [sumN]; omega
theorem upX_upto (g : Nat → ByteArray) {k n : Nat} (h : k ≤ n) : (upX g k).size ≤ (upX g n).size := by rw [upX_size, upX_size]; exact sumN_upto _ h
theorem sumN_mul (c : Nat) (g : Nat → Nat) : ∀ n, sumN (fun i => c * (1 + g i)) n = c * (n + sumN g n)
  | 0 => by simp [sumN]
  | n + 1 => by
    simp only [sumN, sumN_mul c g n]
    rw [Nat.mul_add, Nat.mul_add, Nat.mul_add, Nat.mul_add, Nat.mul_add]; omega

/-- A path, written. -/
def pathX (p : List Int) : ByteArray := upX (fun i => ⟨#[46]⟩ ++ dec (p.getD i 0)) p.length
theorem pathB_at {p : List Int} (h : pathB p = true) {i : Nat} (hi : i < p.length) : 0 ≤ p.getD i 0 ∧ p.getD i 0 ≤ 1 := by
  rcases Decidable.em (0 ≤ p.getD i 0 ∧ p.getD i 0 ≤ 1) with h1 | h1
  · exact h1
  · rw [pathB_no hi h1] at h; cases h
theorem pathX_size {p : List Int} (h : pathB p = true) : (pathX p).size ≤ 2 * p.length := by
  rw [pathX, upX_size]
  refine Nat.le_trans (sumN_le (g' := fun _ => 2 * (1 + 0)) _ fun i hi => ?_) ?_
  · have := dec_size1 (n := p.getD i 0) (by have := (pathB_at h hi).2; omega)
    rw [ByteArray.size_append]
    have e : (⟨#[46]⟩ : ByteArray).size = 1 := rfl
    omega
  · rw [sumN_mul 2 (fun _ => 0)]
    have : ∀ n, sumN (fun _ => 0) n = 0 := fun n => by induction n with
      | zero => rfl
      | succ n ih => simp only [sumN, ih]
    rw [this]; omega

/-- What a term is written with, ahead of its kids. -/
def wordX (k n : Int) (s : ByteArray) (p : List Int) : ByteArray :=
  if k = 1 then dec n else if k = 2 then s else if k = 3 then ⟨#[43]⟩ else if k = 4 then ⟨#[45]⟩ else if k = 5 then ⟨#[60]⟩ else if k = 6 then ⟨#[44]⟩ else if k = 7 then ⟨#[97, 116]⟩ ++ pathX p else ⟨#[112, 117, 116]⟩ ++ pathX p

/-- A term, written. -/
def termX : Nat → Int → Int → ByteArray → List Int → TM → ByteArray
  | 0, _, _, _, _, _ => ⟨#[]⟩
  | d + 1, k, n, s, p, f => wordX k n s p ++ upX (fun i => ⟨#[32]⟩ ++ termX d (tkind f i) (tnum f i) (tname f i) (tpath f i) (tkid f i)) (tlen f)
def kidX (d : Nat) (f : TM) (i : Nat) : ByteArray := termX d (tkind f i) (tnum f i) (tname f i) (tpath f i) (tkid f i)
theorem termX_at (d : Nat) (k n : Int) (s : ByteArray) (p : List Int) (f : TM) : termX (d + 1) k n s p f = wordX k n s p ++ upX (fun i => ⟨#[32]⟩ ++ kidX d f i) (tlen f) := rfl

/-- A term is in form by itself, at most so deep. -/
def TO : Nat → Int → Int → ByteArray → List Int → TM → Prop
  | 0, _, _, _, _, _ => False
  | d + 1, k, n, s, p, f => tokB k n s p (tlen f) = true ∧ ∀ i, i < tlen f → TO d (tkind f i) (tnum f i) (tname f i) (tpath f i) (tkid f i)
def TOk (d : Nat) (f : TM) : Prop := ∀ i, i < tlen f → TO d (tkind f i) (tnum f i) (tname f i) (tpath f i) (tkid f i)
theorem TO_of {ns : List ByteArray} : ∀ {d : Nat} {k n : Int} {s : ByteArray} {p : List Int} {f : TM}, termB ns d k n s p f = true → TO d k n s p f
  | 0, _, _, _, _, _, h => by simp [termB] at h
  | d + 1, k, n, s, p, f, h => by
    rw [termB_tok] at h
    simp only [Bool.and_eq_true] at h
    refine ⟨h.1, fun i hi => ?_⟩
    have h2 := h.2.2
    simp only [kidsB, List.all_eq_true, List.mem_range] at h2
    exact TO_of (h2 i hi)
theorem TOk_of {ns : List ByteArray} {f : TM} (h : termsB ns f = true) : TOk 8 f := fun i hi => by
  simp only [termsB, Bool.and_eq_true, List.all_eq_true, List.mem_range] at h
  exact TO_of (h.2 i hi)
theorem TO_tok {d : Nat} {k n : Int} {s : ByteArray} {p : List Int} {f : TM} (h : TO d k n s p f) : tokB k n s p (tlen f) = true := by
  cases d with
  | zero => exact h.elim
  | succ d => exact h.1
theorem TO_kids {d : Nat} {k n : Int} {s : ByteArray} {p : List Int} {f : TM} (h : TO (d + 1) k n s p f) : TOk d f := h.2

/-- The kinds of a term in form. -/
theorem tok_kinds {k n : Int} {s : ByteArray} {p : List Int} {l : Nat} (h : tokB k n s p l = true) :
    (k = 1 ∧ 0 ≤ n ∧ n ≤ 9999 ∧ l = 0) ∨ (k = 2 ∧ l = 0) ∨ ((k = 3 ∨ k = 4 ∨ k = 5 ∨ k = 6) ∧ l = 2) ∨ (k = 7 ∧ pathB p = true ∧ p.length ≤ 4 ∧ l = 1) ∨ (k = 8 ∧ pathB p = true ∧ p.length ≤ 4 ∧ l = 2) := by
  by_cases k1 : k = 1
  · subst k1; rw [tokB_1] at h; simp only [Bool.and_eq_true, decide_eq_true_eq] at h; omega
  by_cases k2 : k = 2
  · subst k2; rw [tokB_2] at h; simp only [Bool.and_eq_true, decide_eq_true_eq] at h; omega
  by_cases k3 : k = 3 ∨ k = 4 ∨ k = 5 ∨ k = 6
  · rw [tokB_3 k3] at h; simp only [Bool.and_eq_true, decide_eq_true_eq] at h; omega
  by_cases k7 : k = 7
  · subst k7; rw [tokB_7] at h; simp only [Bool.and_eq_true, decide_eq_true_eq] at h
    exact Or.inr (Or.inr (Or.inr (Or.inl ⟨rfl, h.2.2.1.2, h.2.2.1.1, h.2.2.2⟩)))
  by_cases k8 : k = 8
  · subst k8; rw [tokB_8] at h; simp only [Bool.and_eq_true, decide_eq_true_eq] at h
    exact Or.inr (Or.inr (Or.inr (Or.inr ⟨rfl, h.2.2.1.2, h.2.2.1.1, h.2.2.2⟩)))
  · rw [tokB_o (by omega)] at h; cases h

theorem wordX_size {k n : Int} {s : ByteArray} {p : List Int} {l : Nat} (h : tokB k n s p l = true) : (wordX k n s p).size ≤ 4 + s.size + 2 * p.length := by
  unfold wordX
  have e1 : (⟨#[43]⟩ : ByteArray).size = 1 := rfl
  have e2 : (⟨#[45]⟩ : ByteArray).size = 1 := rfl
  have e3 : (⟨#[60]⟩ : ByteArray).size = 1 := rfl
  have e4 : (⟨#[44]⟩ : ByteArray).size = 1 := rfl
  have e5 : (⟨#[97, 116]⟩ : ByteArray).size = 2 := rfl
  have e6 : (⟨#[112, 117, 116]⟩ : ByteArray).size = 3 := rfl
  rcases tok_kinds h with ⟨rfl, _, h1, _⟩ | ⟨rfl, _⟩ | ⟨hk, _⟩ | ⟨rfl, hp, _, _⟩ | ⟨rfl, hp, _, _⟩
  · have := dec_size4 h1
    simp; omega
  · simp; omega
  · rcases hk with rfl | rfl | rfl | rfl <;> simp <;> omega
  · have := pathX_size hp
    simp [ByteArray.size_append]; omega
  · have := pathX_size hp
    simp [ByteArray.size_append]; omega

theorem termX_size : ∀ {d : Nat} {k n : Int} {s : ByteArray} {p : List Int} {f : TM}, TO d k n s p f → (termX d k n s p f).size ≤ 4 + s.size + 2 * p.length + 5 * tW f
  | 0, _, _, _, _, _, h => h.elim
  | d + 1, k, n, s, p, f, h => by
    rw [termX_at, ByteArray.size_append, upX_size, tW_sum]
    have h1 := wordX_size h.1
    have h2 : sumN (fun i => ((⟨#[32]⟩ : ByteArray) ++ kidX d f i).size) (tlen f) ≤ sumN (fun i => 5 * (1 + tWk f i)) (tlen f) := sumN_le _ fun i hi => by
      have := termX_size (h.2 i hi)
      rw [ByteArray.size_append]
      have e : (⟨#[32]⟩ : ByteArray).size = 1 := rfl
      have e2 : tWk f i = (tname f i).size + (tpath f i).length + tW (tkid f i) := rfl
      show _ + (termX _ _ _ _ _ _).size ≤ _
      omega
    rw [sumN_mul 5 (tWk f)] at h2
    omega

/-- Terms behind a word. -/
def rowX (f : TM) (i : Nat) : ByteArray := (if i = 0 then ⟨#[]⟩ else ⟨#[59]⟩) ++ (⟨#[32]⟩ ++ kidX 8 f i)
def rowsX (f : TM) : ByteArray := upX (rowX f) (tlen f)
theorem rowX_size {f : TM} (h : TOk 8 f) {i : Nat} (hi : i < tlen f) : (rowX f i).size ≤ 6 * (1 + tWk f i) := by
  have h1 := termX_size (h i hi)
  unfold rowX
  rw [ByteArray.size_append, ByteArray.size_append]
  have e : (⟨#[32]⟩ : ByteArray).size = 1 := rfl
  have e1 : (⟨#[59]⟩ : ByteArray).size = 1 := rfl
  have e0 : (⟨#[]⟩ : ByteArray).size = 0 := rfl
  have e2 : tWk f i = (tname f i).size + (tpath f i).length + tW (tkid f i) := rfl
  have e3 : (kidX 8 f i).size = (termX 8 (tkind f i) (tnum f i) (tname f i) (tpath f i) (tkid f i)).size := rfl
  split <;> omega
theorem rowsX_size {f : TM} (h : TOk 8 f) : (rowsX f).size ≤ 6 * tW f := by
  rw [rowsX, upX_size, tW_sum, ← sumN_mul]
  exact sumN_le _ fun i hi => rowX_size h hi

/-- Names behind a word. -/
def namesX (ns : List ByteArray) : ByteArray := upX (fun i => ⟨#[32]⟩ ++ ns.getD i ⟨#[]⟩) ns.length
theorem namesX_size (ns : List ByteArray) : (namesX ns).size = xW ns := by
  rw [namesX, upX_size, xW]
  have : ∀ n, sumN (fun i => ((⟨#[32]⟩ : ByteArray) ++ ns.getD i ⟨#[]⟩).size) n = n + sumN (fun i => (ns.getD i ⟨#[]⟩).size) n := fun n => by
    induction n with
    | zero => rfl
    | succ n ih =>
      rw [sumN, ih, sumN, ByteArray.size_append]
      have e : (⟨#[32]⟩ : ByteArray).size = 1 := rfl
      omega
  exact this _

/-- A binding, written, its bodies' texts given. -/
def bindX (pre : ByteArray) (k : Int) (ns : List ByteArray) (fn : ByteArray) (ts : TM) (x1 x2 : ByteArray) : ByteArray :=
  if k = 1 then ns.getD 0 ⟨#[]⟩ ++ ⟨#[32, 61]⟩ ++ rowsX ts ++ ⟨#[10]⟩
  else if k = 2 then ⟨#[108, 101, 116]⟩ ++ namesX ns ++ ⟨#[32, 61, 32]⟩ ++ fn ++ rowsX ts ++ ⟨#[10]⟩
  else ⟨#[105, 102]⟩ ++ rowsX ts ++ ⟨#[10]⟩ ++ x1 ++ pre ++ ⟨#[101, 108, 115, 101, 10]⟩ ++ x2 ++ pre ++ ⟨#[102, 111, 114]⟩ ++ namesX ns ++ ⟨#[10]⟩
/-- A body, written. -/
def bodyX : Nat → ByteArray → BD → TM → ByteArray
  | 0, _, _, _ => ⟨#[]⟩
  | d + 1, pre, b, z => upX (fun i => pre ++ bindX pre (bkind b i) (bnames b i) (bfn b i) (bterms b i) (bodyX d (pre ++ ⟨#[32]⟩) (bthen b i) (btsay b i)) (bodyX d (pre ++ ⟨#[32]⟩) (belse b i) (besay b i))) (blen b) ++ (pre ++ ⟨#[115, 97, 121]⟩ ++ rowsX z ++ ⟨#[10]⟩)
def bindXat (d : Nat) (pre : ByteArray) (b : BD) (i : Nat) : ByteArray := pre ++ bindX pre (bkind b i) (bnames b i) (bfn b i) (bterms b i) (bodyX d (pre ++ ⟨#[32]⟩) (bthen b i) (btsay b i)) (bodyX d (pre ++ ⟨#[32]⟩) (belse b i) (besay b i))
theorem bodyX_at (d : Nat) (pre : ByteArray) (b : BD) (z : TM) : bodyX (d + 1) pre b z = upX (bindXat d pre b) (blen b) ++ (pre ++ ⟨#[115, 97, 121]⟩ ++ rowsX z ++ ⟨#[10]⟩) := rfl

/-- A binding is in form by itself, its bodies being so. -/
def BOb (r : BD → TM → Prop) (b : BD) (i : Nat) : Prop := TOk 8 (bterms b i) ∧ ((bkind b i = 1 ∧ (bnames b i).length = 1) ∨ bkind b i = 2 ∨ (bkind b i = 3 ∧ r (bthen b i) (btsay b i) ∧ r (belse b i) (besay b i)))
/-- A body is in form by itself, at most so deep. -/
def BO : Nat → BD → TM → Prop
  | 0, _, _ => False
  | d + 1, b, z => TOk 8 z ∧ ∀ i, i < blen b → BOb (BO d) b i

theorem xW_at {ns : List ByteArray} {i : Nat} (h : i < ns.length) : (ns.getD i ⟨#[]⟩).size ≤ xW ns := by
  have := sumN_upto (fun i => (ns.getD i ⟨#[]⟩).size) (show i + 1 ≤ ns.length by omega)
  simp only [sumN] at this
  unfold xW; omega

theorem bodyX_size : ∀ {d : Nat} {pre : ByteArray} {b : BD} {z : TM}, pre.size + d ≤ 10 → BO d b z → (bodyX d pre b z).size ≤ 15 + 6 * tW z + 100 * bW b
  | 0, _, _, _, _, h => h.elim
  | d + 1, pre, b, z, hp, h => by
    rw [bodyX_at, ByteArray.size_append, upX_size, bW_sum, ByteArray.size_append, ByteArray.size_append, ByteArray.size_append]
    have h1 := rowsX_size h.1
    have e1 : (⟨#[115, 97, 121]⟩ : ByteArray).size = 3 := rfl
    have e2 : (⟨#[10]⟩ : ByteArray).size = 1 := rfl
    have h2 : sumN (fun i => (bindXat d pre b i).size) (blen b) ≤ sumN (fun i => 100 * (1 + bWk b i)) (blen b) := sumN_le _ fun i hi => by
      obtain ⟨t1, t2⟩ := h.2 i hi
      have r1 := rowsX_size t1
      have n1 := namesX_size (bnames b i)
      have e3 : (pre ++ (⟨#[32]⟩ : ByteArray)).size = pre.size + 1 := by rw [ByteArray.size_append]; rfl
      unfold bindXat bindX
      have e : bWk b i = xW (bnames b i) + (bfn b i).size + tW (bterms b i) + (bW (bthen b i) + tW (btsay b i)) + (bW (belse b i) + tW (besay b i)) := rfl
      have q1 : (⟨#[32, 61]⟩ : ByteArray).size = 2 := rfl
      have q2 : (⟨#[108, 101, 116]⟩ : ByteArray).size = 3 := rfl
      have q3 : (⟨#[32, 61, 32]⟩ : ByteArray).size = 3 := rfl
      have q4 : (⟨#[105, 102]⟩ : ByteArray).size = 2 := rfl
      have q5 : (⟨#[101, 108, 115, 101, 10]⟩ : ByteArray).size = 5 := rfl
      have q6 : (⟨#[102, 111, 114]⟩ : ByteArray).size = 3 := rfl
      rcases t2 with ⟨k1, l1⟩ | k2 | ⟨k3, b1, b2⟩
      · rw [if_pos k1]
        have := xW_at (ns := bnames b i) (i := 0) (by omega)
        simp only [ByteArray.size_append]
        omega
      · rw [if_neg (by omega), if_pos k2]
        simp only [ByteArray.size_append]
        omega
      · rw [if_neg (by omega), if_neg (by omega)]
        have y1 := bodyX_size (pre := pre ++ ⟨#[32]⟩) (by omega) b1
        have y2 := bodyX_size (pre := pre ++ ⟨#[32]⟩) (by omega) b2
        simp only [ByteArray.size_append] at y1 y2 ⊢
        omega
    rw [sumN_mul 100 (bWk b)] at h2
    omega

/-- A function, written; functions. -/
def fnX (f : PM) : ByteArray := f.name ++ namesX f.params ++ ⟨#[10]⟩ ++ bodyX 6 ⟨#[32]⟩ f.binds f.says
def fnsX (l : List PM) : ByteArray := upX (fun i => fnX (l.getD i pm0)) l.length
def textP (l : List PM) : ByteArray := if pureB l = true then fnsX l else ⟨#[]⟩
theorem fnX_size {f : PM} (h : BO 6 f.binds f.says) : (fnX f).size ≤ 100 * (1 + pW f) := by
  have h1 := bodyX_size (pre := ⟨#[32]⟩) (by show 1 + 6 ≤ 10; omega) h
  have h2 := namesX_size f.params
  unfold fnX pW
  have e : (⟨#[10]⟩ : ByteArray).size = 1 := rfl
  simp only [ByteArray.size_append]
  omega
theorem fnsX_size {l : List PM} (h : ∀ i, i < l.length → BO 6 (l.getD i pm0).binds (l.getD i pm0).says) : (fnsX l).size ≤ 100 * qW l := by
  rw [fnsX, upX_size, qW_sum, ← sumN_mul]
  exact sumN_le _ fun i hi => fnX_size (h i hi)

theorem BO_of {fs : List PM} : ∀ {d : Nat} {ns : List ByteArray} {b : BD} {z : TM}, bodyB fs d ns b z = true → BO d b z
  | 0, _, _, _, h => by simp [bodyB] at h
  | d + 1, ns, b, z, h => by
    simp only [bodyB, Bool.and_eq_true, List.all_eq_true, List.mem_range] at h
    refine ⟨TOk_of h.2.2, fun i hi => ?_⟩
    have hb := h.2.1 i hi
    unfold bindAt bindB at hb
    simp only [Bool.and_eq_true] at hb
    refine ⟨TOk_of hb.1.2, ?_⟩
    have hk := hb.2.2
    unfold kindB at hk
    by_cases k1 : bkind b i = 1
    · rw [k1, if_pos rfl] at hk
      simp only [Bool.and_eq_true, decide_eq_true_eq] at hk
      exact Or.inl ⟨k1, hk.2.2.1⟩
    · by_cases k2 : bkind b i = 2
      · exact Or.inr (Or.inl k2)
      · by_cases k3 : bkind b i = 3
        · rw [k3, if_neg (by decide), if_neg (by decide), if_pos rfl] at hk
          simp only [Bool.and_eq_true, decide_eq_true_eq] at hk
          exact Or.inr (Or.inr ⟨k3, BO_of hk.2.2.1, BO_of hk.2.2.2.1⟩)
        · simp [k1, k2, k3] at hk
theorem BO_all {l : List PM} (h : pureB l = true) : ∀ i, i < l.length → BO 6 (l.getD i pm0).binds (l.getD i pm0).says := fun i hi => by
  simp only [pureB, Bool.and_eq_true, List.all_eq_true, List.mem_range] at h
  have h1 := h.2 i hi
  unfold pureAt at h1
  simp only [Bool.and_eq_true] at h1
  exact BO_of h1.2.2.2.1

end Go.Proofs.YtpibamhkmmgooaaGreatDoor
