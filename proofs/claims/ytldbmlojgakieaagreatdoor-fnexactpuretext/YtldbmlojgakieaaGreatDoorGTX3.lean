/- The texts of functions without places, and how long they are. Walks: the specification's texts of terms. Walks: the specification's text of a term. -/
import Derived.Test.YtldbmlojgakieaaGreatDoorGT2
import Derived.Test.YtldbmlojgakieaaGreatDoorGSZ2
import Derived.Test.YtldbmlojgakieaaGreatDoorGBD4
import Derived.Test.YtldbmlojgakieaaGreatDoorBD6
import Derived.Deep.RegionHeld3
namespace Go.Proofs.YtldbmlojgakieaaGreatDoor

open Go.RowKit Go.Deep

/-- A number in decimals. -/
def dec (n : Int) : ByteArray := ⟨(Lib.decDigits n.toNat).toArray⟩
theorem dec_size4 {n : Int} (h : n ≤ 9999) : (dec n).size ≤ 4 := by
  show (Lib.decDigits n.toNat).toArray.size ≤ _
  have := dec_len 3 n.toNat (by omega)
  simp; omega
theorem dec_size1 {n : Int} (h : n ≤ 9) : (dec n).size ≤ 1 := by
  show (Lib.decDigits n.toNat).toArray.size ≤ _
  have := dec_len 0 n.toNat (by omega)
  simp; omega

/-- So many texts, one behind the other. -/
def upX (g : Nat → ByteArray) : Nat → ByteArray
  | 0 => ⟨#[]⟩
  | k + 1 => upX g k ++ g k
theorem upX_size (g : Nat → ByteArray) : ∀ n, (upX g n).size = sumN (fun i => (g i).size) n
  | 0 => rfl
  | n + 1 => by rw [upX, ByteArray.size_append, upX_size g n, sumN]
theorem upX_eq {g g' : Nat → ByteArray} : ∀ n, (∀ i, i < n → g i = g' i) → upX g n = upX g' n
  | 0, _ => rfl
  | n + 1, h => by rw [upX, upX, upX_eq n fun i hi => h i (by omega), h n (by omega)]
theorem sumN_le {g g' : Nat → Nat} : ∀ n, (∀ i, i < n → g i ≤ g' i) → sumN g n ≤ sumN g' n
  | 0, _ => Nat.le_refl _
  | n + 1, h => by
    have h1 := sumN_le n fun i hi => h i (by omega)
    have h2 := h n (by omega)
    simp only [sumN]; omega
theorem sumN_upto (g : Nat → Nat) : ∀ {k n : Nat}, k ≤ n → sumN g k ≤ sumN g n
  | k, 0, h => by have : k = 0 := by omega
                  subst this; exact Nat.le_refl _
  | k, n + 1, h => by
    by_cases hk : k = n + 1
    · subst hk; exact Nat.le_refl _
    · have := sumN_upto g (k := k) (n := n) (by omega)
      simp only [sumN]; omega
theorem upX_upto (g : Nat → ByteArray) {k n : Nat} (h : k ≤ n) : (upX g k).size ≤ (upX g n).size := by rw [upX_size, upX_size]; exact sumN_upto _ h
theorem sumN_mul (c : Nat) (g : Nat → Nat) : ∀ n, sumN (fun i => c * (1 + g i)) n = c * (n + sumN g n)
  | 0 => by simp [sumN]
  | n + 1 => by
    simp only [sumN, sumN_mul c g n]
    rw [Nat.mul_add, Nat.mul_add, Nat.mul_add, Nat.mul_add, Nat.mul_add]; omega

/-- A path, written. -/
def pathX (p : List Int) : ByteArray := upX (fun i => ⟨#[46]⟩ ++ dec (p.getD i 0)) p.length
theorem pathB_at {p : List Int} (h : pathB p = true) {i : Nat} (hi : i < p.length) : 0 ≤ p.getD i 0 ∧ p.getD i 0 ≤ 1 := by
  rcases Decidable.em (0 ≤ p.getD i 0 ∧ p.getD i 0 ≤ 1) with h1 | h1
  · exact h1
  · rw [pathB_no hi h1] at h; cases h
theorem pathX_size {p : List Int} (h : pathB p = true) : (pathX p).size ≤ 2 * p.length := by
  rw [pathX, upX_size]
  refine Nat.le_trans (sumN_le (g' := fun _ => 2 * (1 + 0)) _ fun i hi => ?_) ?_
  · have := dec_size1 (n := p.getD i 0) (by have := (pathB_at h hi).2; omega)
    rw [ByteArray.size_append]
    have e : (⟨#[46]⟩ : ByteArray).size = 1 := rfl
    omega
  · rw [sumN_mul 2 (fun _ => 0)]
    have : ∀ n, sumN (fun _ => 0) n = 0 := fun n => by induction n with
      | zero => rfl
      | succ n ih => simp only [sumN, ih]
    rw [this]; omega

/-- What a term is written with, ahead of its kids. -/
def wordX (k n : Int) (s : ByteArray) (p : List Int) : ByteArray :=
  if k = 1 then dec n else if k = 2 then s else if k = 3 then ⟨#[43]⟩ else if k = 4 then ⟨#[45]⟩ else if k = 5 then ⟨#[60]⟩ else if k = 6 then ⟨#[44]⟩ else if k = 7 then ⟨#[97, 116]⟩ ++ pathX p else ⟨#[112, 117, 116]⟩ ++ pathX p

/-- A term, written. -/
def termX : Nat → Int → Int → ByteArray → List Int → TM → ByteArray
  | 0, _, _, _, _, _ => ⟨#[]⟩
  | d + 1, k, n, s, p, f => wordX k n s p ++ upX (fun i => ⟨#[32]⟩ ++ termX d (tkind f i) (tnum f i) (tname f i) (tpath f i) (tkid f i)) (tlen f)
def kidX (d : Nat) (f : TM) (i : Nat) : ByteArray := termX d (tkind f i) (tnum f i) (tname f i) (tpath f i) (tkid f i)
theorem termX_at (d : Nat) (k n : Int) (s : ByteArray) (p : List Int) (f : TM) : termX (d + 1) k n s p f = wordX k n s p ++ upX (fun i => ⟨#[32]⟩ ++ kidX d f i) (tlen f) := rfl

/-- A term is in form by itself, at most so deep. -/
def TO : Nat → Int → Int → ByteArray → List Int → TM → Prop
  | 0, _, _, _, _, _ => False
  | d + 1, k, n, s, p, f => tokB k n s p (tlen f) = true ∧ ∀ i, i < tlen f → TO d (tkind f i) (tnum f i) (tname f i) (tpath f i) (tkid f i)
def TOk (d : Nat) (f : TM) : Prop := ∀ i, i < tlen f → TO d (tkind f i) (tnum f i) (tname f i) (tpath f i) (tkid f i)
theorem TO_of {ns : List ByteArray} : ∀ {d : Nat} {k n : Int} {s : ByteArray} {p : List Int} {f : TM}, termB ns d k n s p f = true → TO d k n s p f
  | 0, _, _, _, _, _, h => by simp [termB] at h
  | d + 1, k, n, s, p, f, h => by
    rw [termB_tok] at h
    simp only [Bool.and_eq_true] at h
    refine ⟨h.1, fun i hi => ?_⟩
    have h2 := h.2.2
    simp only [kidsB, List.all_eq_true, List.mem_range] at h2
    exact TO_of (h2 i hi)
theorem TOk_of {ns : List ByteArray} {f : TM} (h : termsB ns f = true) : TOk 8 f := fun i hi => by
  simp only [termsB, Bool.and_eq_true, List.all_eq_true, List.mem_range] at h
  exact TO_of (h.2 i hi)
theorem TO_tok {d : Nat} {k n : Int} {s : ByteArray} {p : List Int} {f : TM} (h : TO d k n s p f) : tokB k n s p (tlen f) = true := by
  cases d with
  | zero => exact h.elim
  | succ d => exact h.1
theorem TO_kids {d : Nat} {k n : Int} {s : ByteArray} {p : List Int} {f : TM} (h : TO (d + 1) k n s p f) : TOk d f := h.2

/-- The kinds of a term in form. -/
theorem tok_kinds {k n : Int} {s : ByteArray} {p : List Int} {l : Nat} (h : tokB k n s p l = true) :
    (k = 1 ∧ 0 ≤ n ∧ n ≤ 9999 ∧ l = 0) ∨ (k = 2 ∧ l = 0) ∨ ((k = 3 ∨ k = 4 ∨ k = 5 ∨ k = 6) ∧ l = 2) ∨ (k = 7 ∧ pathB p = true ∧ p.length ≤ 4 ∧ l = 1) ∨ (k = 8 ∧ pathB p = true ∧ p.length ≤ 4 ∧ l = 2) := by
  by_cases k1 : k = 1
  · subst k1; rw [tokB_1] at h; simp only [Bool.and_eq_true, decide_eq_true_eq] at h; omega
  by_cases k2 : k = 2
  · subst k2; rw [tokB_2] at h; simp only [Bool.and_eq_true, decide_eq_true_eq] at h; omega
  by_cases k3 : k = 3 ∨ k = 4 ∨ k = 5 ∨ k = 6
  · rw [tokB_3 k3] at h; simp only [Bool.and_eq_true, decide_eq_true_eq] at h; omega
  by_cases k7 : k = 7
  · subst k7; rw [tokB_7] at h; simp only [Bool.and_eq_true, decide_eq_true_eq] at h
    exact Or.inr (Or.inr (Or.inr (Or.inl ⟨rfl, h.2.2.1.2, h.2.2.1.1, h.2.2.2⟩)))
  by_cases k8 : k = 8
  · subst k8; rw [tokB_8] at h; simp only [Bool.and_eq_true, decide_eq_true_eq] at h
    exact Or.inr (Or.inr (Or.inr (Or.inr ⟨rfl, h.2.2.1.2, h.2.2.1.1, h.2.2.2⟩)))
  · rw [tokB_o (by omega)] at h; cases h

theorem wordX_size {k n : Int} {s : ByteArray} {p : List Int} {l : Nat} (h : tokB k n s p l = true) : (wordX k n s p).size ≤ 4 + s.size + 2 * p.length := by
  unfold wordX
  have e1 : (⟨#[43]⟩ : ByteArray).size = 1 := rfl
  have e2 : (⟨#[45]⟩ : ByteArray).size = 1 := rfl
  have e3 : (⟨#[60]⟩ : ByteArray).size = 1 := rfl
  have e4 : (⟨#[44]⟩ : ByteArray).size = 1 := rfl
  have e5 : (⟨#[97, 116]⟩ : ByteArray).size = 2 := rfl
  have e6 : (⟨#[112, 117, 116]⟩ : ByteArray).size = 3 := rfl
  rcases tok_kinds h with ⟨rfl, _, h1, _⟩ | ⟨rfl, _⟩ | ⟨hk, _⟩ | ⟨rfl, hp, _, _⟩ | ⟨rfl, hp, _, _⟩
  · have := dec_size4 h1
    simp; omega
  · simp; omega
  · rcases hk with rfl | rfl | rfl | rfl <;> simp <;> omega
  · have := pathX_size hp
    simp [ByteArray.size_append]; omega
  · have := pathX_size hp
    simp [ByteArray.size_append]; omega

theorem termX_size : ∀ {d : Nat} {k n : Int} {s : ByteArray} {p : List Int} {f : TM}, TO d k n s p f → (termX d k n s p f).size ≤ 4 + s.size + 2 * p.length + 5 * tW f
  | 0, _, _, _, _, _, h => h.elim
  | d + 1, k, n, s, p, f, h => by
    rw [termX_at, ByteArray.size_append, upX_size, tW_sum]
    have h1 := wordX_size h.1
    have h2 : sumN (fun i => ((⟨#[32]⟩ : ByteArray) ++ kidX d f i).size) (tlen f) ≤ sumN (fun i => 5 * (1 + tWk f i)) (tlen f) := sumN_le _ fun i hi => by
      have := termX_size (h.2 i hi)
      rw [ByteArray.size_append]
      have e : (⟨#[32]⟩ : ByteArray).size = 1 := rfl
      have e2 : tWk f i = (tname f i).size + (tpath f i).length + tW (tkid f i) := rfl
      show _ + (termX _ _ _ _ _ _).size ≤ _
      omega
    rw [sumN_mul 5 (tWk f)] at h2
    omega

/-- Terms behind a word. -/
def rowX (f : TM) (i : Nat) : ByteArray := (if i = 0 then ⟨#[]⟩ else ⟨#[59]⟩) ++ (⟨#[32]⟩ ++ kidX 8 f i)
def rowsX (f : TM) : ByteArray := upX (rowX f) (tlen f)
theorem rowX_size {f : TM} (h : TOk 8 f) {i : Nat} (hi : i < tlen f) : (rowX f i).size ≤ 6 * (1 + tWk f i) := by
  have h1 := termX_size (h i hi)
  unfold rowX
  rw [ByteArray.size_append, ByteArray.size_append]
  have e : (⟨#[32]⟩ : ByteArray).size = 1 := rfl
  have e1 : (⟨#[59]⟩ : ByteArray).size = 1 := rfl
  have e0 : (⟨#[]⟩ : ByteArray).size = 0 := rfl
  have e2 : tWk f i = (tname f i).size + (tpath f i).length + tW (tkid f i) := rfl
  have e3 : (kidX 8 f i).size = (termX 8 (tkind f i) (tnum f i) (tname f i) (tpath f i) (tkid f i)).size := rfl
  split <;> omega
theorem rowsX_size {f : TM} (h : TOk 8 f) : (rowsX f).size ≤ 6 * tW f := by
  rw [rowsX, upX_size, tW_sum, ← sumN_mul]
  exact sumN_le _ fun i hi => rowX_size h hi

/-- Names behind a word. -/
def namesX (ns : List ByteArray) : ByteArray := upX (fun i => ⟨#[32]⟩ ++ ns.getD i ⟨#[]⟩) ns.length
theorem namesX_size (ns : List ByteArray) : (namesX ns).size = xW ns := by
  rw [namesX, upX_size, xW]
  have : ∀ n, sumN (fun i => ((⟨#[32]⟩ : ByteArray) ++ ns.getD i ⟨#[]⟩).size) n = n + sumN (fun i => (ns.getD i ⟨#[]⟩).size) n := fun n => by
    induction n with
    | zero => rfl
    | succ n ih =>
      rw [sumN, ih, sumN, ByteArray.size_append]
      have e : (⟨#[32]⟩ : ByteArray).size = 1 := rfl
      omega
  exact this _

/-- A binding, written, its bodies' texts given. -/
def bindX (pre : ByteArray) (k : Int) (ns : List ByteArray) (fn : ByteArray) (ts : TM) (x1 x2 : ByteArray) : ByteArray :=
  if k = 1 then ns.getD 0 ⟨#[]⟩ ++ ⟨#[32, 61]⟩ ++ rowsX ts ++ ⟨#[10]⟩
  else if k = 2 then ⟨#[108, 101, 116]⟩ ++ namesX ns ++ ⟨#[32, 61, 32]⟩ ++ fn ++ rowsX ts ++ ⟨#[10]⟩
  else ⟨#[105, 102]⟩ ++ rowsX ts ++ ⟨#[10]⟩ ++ x1 ++ pre ++ ⟨#[101, 108, 115, 101, 10]⟩ ++ x2 ++ pre ++ ⟨#[102, 111, 114]⟩ ++ namesX ns ++ ⟨#[10]⟩
/-- A body, written. -/
def bodyX : Nat → ByteArray → BD → TM → ByteArray
  | 0, _, _, _ => ⟨#[]⟩
  | d + 1, pre, b, z => upX (fun i => pre ++ bindX pre (bkind b i) (bnames b i) (bfn b i) (bterms b i) (bodyX d (pre ++ ⟨#[32]⟩) (bthen b i) (btsay b i)) (bodyX d (pre ++ ⟨#[32]⟩) (belse b i) (besay b i))) (blen b) ++ (pre ++ ⟨#[115, 97, 121]⟩ ++ rowsX z ++ ⟨#[10]⟩)
def bindXat (d : Nat) (pre : ByteArray) (b : BD) (i : Nat) : ByteArray := pre ++ bindX pre (bkind b i) (bnames b i) (bfn b i) (bterms b i) (bodyX d (pre ++ ⟨#[32]⟩) (bthen b i) (btsay b i)) (bodyX d (pre ++ ⟨#[32]⟩) (belse b i) (besay b i))
theorem bodyX_at (d : Nat) (pre : ByteArray) (b : BD) (z : TM) : bodyX (d + 1) pre b z = upX (bindXat d pre b) (blen b) ++ (pre ++ ⟨#[115, 97, 121]⟩ ++ rowsX z ++ ⟨#[10]⟩) := rfl

/-- A binding is in form by itself, its bodies being so. -/
def BOb (r : BD → TM → Prop) (b : BD) (i : Nat) : Prop := TOk 8 (bterms b i) ∧ ((bkind b i = 1 ∧ (bnames b i).length = 1) ∨ bkind b i = 2 ∨ (bkind b i = 3 ∧ r (bthen b i) (btsay b i) ∧ r (belse b i) (besay b i)))
/-- A body is in form by itself, at most so deep. -/
def BO : Nat → BD → TM → Prop
  | 0, _, _ => False
  | d + 1, b, z => TOk 8 z ∧ ∀ i, i < blen b → BOb (BO d) b i

theorem xW_at {ns : List ByteArray} {i : Nat} (h : i < ns.length) : (ns.getD i ⟨#[]⟩).size ≤ xW ns := by
  have := sumN_upto (fun i => (ns.getD i ⟨#[]⟩).size) (show i + 1 ≤ ns.length by omega)
  simp only [sumN] at this
  unfold xW; omega

theorem bodyX_size : ∀ {d : Nat} {pre : ByteArray} {b : BD} {z : TM}, pre.size + d ≤ 10 → BO d b z → (bodyX d pre b z).size ≤ 15 + 6 * tW z + 100 * bW b
  | 0, _, _, _, _, h => h.elim
  | d + 1, pre, b, z, hp, h => by
    rw [bodyX_at, ByteArray.size_append, upX_size, bW_sum, ByteArray.size_append, ByteArray.size_append, ByteArray.size_append]
    have h1 := rowsX_size h.1
    have e1 : (⟨#[115, 97, 121]⟩ : ByteArray).size = 3 := rfl
    have e2 : (⟨#[10]⟩ : ByteArray).size = 1 := rfl
    have h2 : sumN (fun i => (bindXat d pre b i).size) (blen b) ≤ sumN (fun i => 100 * (1 + bWk b i)) (blen b) := sumN_le _ fun i hi => by
      obtain ⟨t1, t2⟩ := h.2 i hi
      have r1 := rowsX_size t1
      have n1 := namesX_size (bnames b i)
      have e3 : (pre ++ (⟨#[32]⟩ : ByteArray)).size = pre.size + 1 := by rw [ByteArray.size_append]; rfl
      unfold bindXat bindX
      have e : bWk b i = xW (bnames b i) + (bfn b i).size + tW (bterms b i) + (bW (bthen b i) + tW (btsay b i)) + (bW (belse b i) + tW (besay b i)) := rfl
      have q1 : (⟨#[32, 61]⟩ : ByteArray).size = 2 := rfl
      have q2 : (⟨#[108, 101, 116]⟩ : ByteArray).size = 3 := rfl
      have q3 : (⟨#[32, 61, 32]⟩ : ByteArray).size = 3 := rfl
      have q4 : (⟨#[105, 102]⟩ : ByteArray).size = 2 := rfl
      have q5 : (⟨#[101, 108, 115, 101, 10]⟩ : ByteArray).size = 5 := rfl
      have q6 : (⟨#[102, 111, 114]⟩ : ByteArray).size = 3 := rfl
      rcases t2 with ⟨k1, l1⟩ | k2 | ⟨k3, b1, b2⟩
      · rw [if_pos k1]
        have := xW_at (ns := bnames b i) (i := 0) (by omega)
        simp only [ByteArray.size_append]
        omega
      · rw [if_neg (by omega), if_pos k2]
        simp only [ByteArray.size_append]
        omega
      · rw [if_neg (by omega), if_neg (by omega)]
        have y1 := bodyX_size (pre := pre ++ ⟨#[32]⟩) (by omega) b1
        have y2 := bodyX_size (pre := pre ++ ⟨#[32]⟩) (by omega) b2
        simp only [ByteArray.size_append] at y1 y2 ⊢
        omega
    rw [sumN_mul 100 (bWk b)] at h2
    omega

/-- A function, written; functions. -/
def fnX (f : PM) : ByteArray := f.name ++ namesX f.params ++ ⟨#[10]⟩ ++ bodyX 6 ⟨#[32]⟩ f.binds f.says
def fnsX (l : List PM) : ByteArray := upX (fun i => fnX (l.getD i pm0)) l.length
def textP (l : List PM) : ByteArray := if pureB l = true then fnsX l else ⟨#[]⟩
theorem fnX_size {f : PM} (h : BO 6 f.binds f.says) : (fnX f).size ≤ 100 * (1 + pW f) := by
  have h1 := bodyX_size (pre := ⟨#[32]⟩) (by show 1 + 6 ≤ 10; omega) h
  have h2 := namesX_size f.params
  unfold fnX pW
  have e : (⟨#[10]⟩ : ByteArray).size = 1 := rfl
  simp only [ByteArray.size_append]
  omega
theorem fnsX_size {l : List PM} (h : ∀ i, i < l.length → BO 6 (l.getD i pm0).binds (l.getD i pm0).says) : (fnsX l).size ≤ 100 * qW l := by
  rw [fnsX, upX_size, qW_sum, ← sumN_mul]
  exact sumN_le _ fun i hi => fnX_size (h i hi)

theorem BO_of {fs : List PM} : ∀ {d : Nat} {ns : List ByteArray} {b : BD} {z : TM}, bodyB fs d ns b z = true → BO d b z
  | 0, _, _, _, h => by simp [bodyB] at h
  | d + 1, ns, b, z, h => by
    simp only [bodyB, Bool.and_eq_true, List.all_eq_true, List.mem_range] at h
    refine ⟨TOk_of h.2.2, fun i hi => ?_⟩
    have hb := h.2.1 i hi
    unfold bindAt bindB at hb
    simp only [Bool.and_eq_true] at hb
    refine ⟨TOk_of hb.1.2, ?_⟩
    have hk := hb.2.2
    unfold kindB at hk
    by_cases k1 : bkind b i = 1
    · rw [k1, if_pos rfl] at hk
      simp only [Bool.and_eq_true, decide_eq_true_eq] at hk
      exact Or.inl ⟨k1, hk.2.2.1⟩
    · by_cases k2 : bkind b i = 2
      · exact Or.inr (Or.inl k2)
      · by_cases k3 : bkind b i = 3
        · rw [k3, if_neg (by decide), if_neg (by decide), if_pos rfl] at hk
          simp only [Bool.and_eq_true, decide_eq_true_eq] at hk
          exact Or.inr (Or.inr ⟨k3, BO_of hk.2.2.1, BO_of hk.2.2.2.1⟩)
        · simp [k1, k2, k3] at hk
theorem BO_all {l : List PM} (h : pureB l = true) : ∀ i, i < l.length → BO 6 (l.getD i pm0).binds (l.getD i pm0).says := fun i hi => by
  simp only [pureB, Bool.and_eq_true, List.all_eq_true, List.mem_range] at h
  have h1 := h.2 i hi
  unfold pureAt at h1
  simp only [Bool.and_eq_true] at h1
  exact BO_of h1.2.2.2.1

end Go.Proofs.YtldbmlojgakieaaGreatDoor

namespace Go.Proofs.YtldbmlojgakieaaGreatDoor

open Go.RowKit Go.Deep

attribute [local go_sem ↓] Go.wp_at_zero Go.wp_at_succ

theorem l6Dec_at (n : Int) (w : World) (h0 : 0 ≤ n) (h1 : n ≤ 9999) : Calls Tryz.prog 107 #[.int .i64 n] w fun e w' => e = .returned (.string (dec n)) ∧ Ex w w' :=
  l6Dec_any 3 n w (by omega) h0 (by omega)

theorem cat3 (a b c : ByteArray) : a ++ b ++ c = a ++ (b ++ c) := ByteArray.append_assoc

set_option maxRecDepth 100000 in
set_option maxHeartbeats 1000000 in
theorem l12Path_any (p : List Int) (a : Option Addr) (c : Nat) (w : World) (hp : pathB p = true) (hl : p.length ≤ 4) (hT : PA w 0 p a) :
    Calls Tryz.prog 108 #[.slice a p.length c] w fun e w' => e = .returned (.string (pathX p)) ∧ Ex w w' := by
  have T : Hid (∀ w', Ex w w' → PA w' 0 p a) := fun _ h => PA_below hT h
  have SZ : Hid (∀ j, j ≤ p.length → (upX (fun i => ⟨#[46]⟩ ++ dec (p.getD i 0)) j).size ≤ 8) := fun j hj => by
    have h1 := upX_upto (fun i => ⟨#[46]⟩ ++ dec (p.getD i 0)) hj
    have h2 := pathX_size hp
    unfold pathX at h2
    omega
  have DC : Hid (∀ j, j < p.length → ∀ w', Calls Tryz.prog 107 #[.int .i64 (p.getD j 0)] w' fun e w'' => e = .returned (.string (dec (p.getD j 0))) ∧ Ex w' w'') := fun j hj w' => by
    obtain ⟨h1, h2⟩ := pathB_at hp hj
    exact l6Dec_at _ w' h1 (by omega)
  have DS : Hid (∀ j, j < p.length → (dec (p.getD j 0)).size ≤ 1) := fun j hj => dec_size1 (by have := (pathB_at hp hj).2; omega)
  have PX : Hid (pathX p = upX (fun i => ⟨#[46]⟩ ++ dec (p.getD i 0)) p.length) := rfl
  generalize pathX p = px at PX ⊢
  clear hp hT
  go_enter Tryz.func108, Tryz.ntmps108
  go_wp2_with fail
  go_loopw [3, 4] (fun ov i wr => ∃ (j : Nat), j ≤ p.length ∧ i = .int .i64 j ∧ ov = .string (upX (fun i => ⟨#[46]⟩ ++ dec (p.getD i 0)) j) ∧ Ex w wr) (fun _ i _ => p.length - (intOf i).toNat)
  case atStart => exact ⟨0, by omega, rfl, rfl, Ex.refl _⟩
  case round =>
    obtain ⟨j, hj, rfl, rfl, hx⟩ := hrel
    have X : Hid (Ex w wr) := hx
    clear hx
    by_cases hlt : j < p.length
    · obtain ⟨b, o, rfl, hbs, _, hc⟩ := PA_at (T.out wr X.out) (by omega)
      have ck := hc j hlt
      have HI : Hid _ := DC.out j hlt wr
      have sd := DS.out j hlt
      have st := SZ.out j hj
      have HU : Hid (upX (fun i => ⟨#[46]⟩ ++ dec (p.getD i 0)) (j + 1) = upX (fun i => ⟨#[46]⟩ ++ dec (p.getD i 0)) j ++ ⟨#[46]⟩ ++ dec (p.getD j 0)) := (cat3 _ _ _).symm
      generalize upX (fun i => ⟨#[46]⟩ ++ dec (p.getD i 0)) j = t at st HU ⊢
      generalize p.getD j 0 = nn at ck sd HI HU ⊢
      generalize dec nn = dd at sd HI HU ⊢
      have n1 : ¬ 9223372036854775807 < t.size + 1 := by omega
      have n2 : ¬ 9223372036854775807 < t.size + 1 + dd.size := by omega
      clear hc sd st
      go_wp2_with fail
      refine Calls.mono HI.out ?_
      rintro e w1 ⟨rfl, hb1⟩
      have X1 : Hid (Ex w w1) := X.out.trans hb1
      clear hb1
      go_wp2_with fail
      go_roundw
      case rel => exact ⟨j + 1, by omega, by go_num, by rw [HU.out], X1.out⟩
      case measure => simp [intOf]; omega
    · have hje : j = p.length := by omega
      have HR : Hid (px = upX (fun i => ⟨#[46]⟩ ++ dec (p.getD i 0)) j) := by show _ = _; rw [hje]; exact PX.out
      clear hje
      go_wp2_with fail
      go_ret
      exact ⟨ret_s HR.out.symm, X.out⟩

set_option maxRecDepth 100000 in
set_option maxHeartbeats 1000000 in
theorem l12Row_any (p : List ByteArray) (a : Option Addr) (c : Nat) (w : World) (hz : xW p ≤ 1048576) (hT : XA w 0 p a) :
    Calls Tryz.prog 37 #[.slice a p.length c] w fun e w' => e = .returned (.string (namesX p)) ∧ Ex w w' := by
  have T : Hid (∀ w', Ex w w' → XA w' 0 p a) := fun _ h => XA_below hT h
  have SZ : Hid (∀ j, j < p.length → (upX (fun i => ⟨#[32]⟩ ++ p.getD i ⟨#[]⟩) j).size + (p.getD j ⟨#[]⟩).size ≤ 1048576) := fun j hj => by
    have h1 := upX_upto (fun i => ⟨#[32]⟩ ++ p.getD i ⟨#[]⟩) (show j + 1 ≤ p.length by omega)
    have h2 := namesX_size p
    unfold namesX at h2
    rw [upX, ByteArray.size_append, ByteArray.size_append] at h1
    omega
  have hpl : p.length ≤ 1048576 := by unfold xW at hz; omega
  have PX : Hid (namesX p = upX (fun i => ⟨#[32]⟩ ++ p.getD i ⟨#[]⟩) p.length) := rfl
  generalize namesX p = px at PX ⊢
  clear hz hT
  go_enter Tryz.func37, Tryz.ntmps37
  go_wp2_with fail
  go_loopw [3, 4] (fun ov i wr => ∃ (j : Nat), j ≤ p.length ∧ i = .int .i64 j ∧ ov = .string (upX (fun i => ⟨#[32]⟩ ++ p.getD i ⟨#[]⟩) j) ∧ Ex w wr) (fun _ i _ => p.length - (intOf i).toNat)
  case atStart => exact ⟨0, by omega, rfl, rfl, Ex.refl _⟩
  case round =>
    obtain ⟨j, hj, rfl, rfl, hx⟩ := hrel
    have X : Hid (Ex w wr) := hx
    clear hx
    by_cases hlt : j < p.length
    · obtain ⟨b, o, rfl, hbs, _, hc⟩ := XA_at (T.out wr X.out) (by omega)
      have ck := hc j hlt
      have st := SZ.out j hlt
      have HU : Hid (upX (fun i => ⟨#[32]⟩ ++ p.getD i ⟨#[]⟩) (j + 1) = upX (fun i => ⟨#[32]⟩ ++ p.getD i ⟨#[]⟩) j ++ ⟨#[32]⟩ ++ p.getD j ⟨#[]⟩) := (cat3 _ _ _).symm
      generalize upX (fun i => ⟨#[32]⟩ ++ p.getD i ⟨#[]⟩) j = t at st HU ⊢
      generalize p.getD j ⟨#[]⟩ = dd at st ck HU ⊢
      have n1 : ¬ 9223372036854775807 < t.size + 1 := by omega
      have n2 : ¬ 9223372036854775807 < t.size + 1 + dd.size := by omega
      clear hc st
      go_wp2_with fail
      go_roundw
      case rel => exact ⟨j + 1, by omega, by go_num, by rw [HU.out], X.out⟩
      case measure => simp [intOf]; omega
    · have hje : j = p.length := by omega
      have HR : Hid (px = upX (fun i => ⟨#[32]⟩ ++ p.getD i ⟨#[]⟩) j) := by show _ = _; rw [hje]; exact PX.out
      clear hje
      go_wp2_with fail
      go_ret
      exact ⟨ret_s HR.out.symm, X.out⟩

end Go.Proofs.YtldbmlojgakieaaGreatDoor

namespace Go.Proofs.YtldbmlojgakieaaGreatDoor

open Go.RowKit Go.Deep

attribute [local go_sem ↓] Go.wp_at_zero Go.wp_at_succ

theorem cat_nil (a : ByteArray) : a ++ ⟨#[]⟩ = a := by apply ByteArray.ext; simp
theorem nil_cat (a : ByteArray) : (⟨#[]⟩ : ByteArray) ++ a = a := by apply ByteArray.ext; simp
theorem upX_0 (g : Nat → ByteArray) : upX g 0 = ⟨#[]⟩ := rfl
theorem upX_1 (g : Nat → ByteArray) : upX g 1 = g 0 := by rw [upX, upX, nil_cat]
theorem upX_2 (g : Nat → ByteArray) : upX g 2 = g 0 ++ g 1 := by rw [upX, upX_1]

/-- A sign of two kids. -/
def sgn (k : Nat) : ByteArray := if k = 3 then ⟨#[43]⟩ else if k = 4 then ⟨#[45]⟩ else if k = 5 then ⟨#[60]⟩ else ⟨#[44]⟩
theorem sgn_size (k : Nat) : (sgn k).size = 1 := by unfold sgn; split; rfl; split; rfl; split <;> rfl
theorem wordX_sgn {k : Nat} (h3 : 3 ≤ k) (h6 : k ≤ 6) (n : Int) (s : ByteArray) (p : List Int) : wordX (k : Int) n s p = sgn k := by
  have : k = 3 ∨ k = 4 ∨ k = 5 ∨ k = 6 := by omega
  rcases this with rfl | rfl | rfl | rfl <;> rfl

set_option maxHeartbeats 1000000 in
theorem l2Signs_any (w : World) : Calls Tryz.prog 109 #[] w fun e w' => ∃ g, e = .returned (.slice (some ⟨g, 0, none⟩) 7 7) ∧ (∀ k, 3 ≤ k → k ≤ 6 → w'.cell? ⟨g, k, none⟩ = some (.string (sgn k))) ∧ Ex w w' := by
  go_enter Tryz.func109, Tryz.ntmps109
  go_wp2_with fail
  go_ret
  refine ⟨_, rfl, fun k h3 h6 => ?_, Ex.new _ _⟩
  have : k = 3 ∨ k = 4 ∨ k = 5 ∨ k = 6 := by omega
  rcases this with rfl | rfl | rfl | rfl <;> (rw [World.cell?_alloc_new]; rfl)


set_option maxRecDepth 100000 in
set_option maxHeartbeats 2000000 in
theorem say_leaf (k n : Int) (s : ByteArray) (p : List Int) (pa : Option Addr) (pc : Nat) (f : TM) (a : Option Addr) (c d : Nat) (w : World) (hk : (k = 1 ∧ 0 ≤ n ∧ n ≤ 9999) ∨ k = 2) (hl : tlen f = 0) :
    Calls Tryz.prog 83 #[.agg #[.int .i64 k, .int .i64 n, .string s, .slice pa p.length pc, .slice a (tlen f) c]] w fun e w' => e = .returned (.string (termX (d + 1) k n s p f)) ∧ Ex w w' := by
  have N : Hid (Ex w (w.alloc (.cells #[.int .i64 k, .int .i64 n, .string s, .slice pa p.length pc, .slice a (tlen f) c] 121))) := Ex.new _ _
  rcases hk with ⟨rfl, h0, h1⟩ | rfl
  · have HR : Hid (termX (d + 1) 1 n s p f = dec n) := by show _ = _; rw [termX_at, hl, upX_0, cat_nil]; rfl
    clear hl
    go_enter Tryz.func83, Tryz.ntmps83
    go_wp2_with fail
    refine Calls.mono (l6Dec_at n _ h0 h1) ?_
    rintro e w1 ⟨rfl, hb1⟩
    go_wp2_with fail
    go_ret
    exact ⟨ret_s HR.out.symm, N.out.trans hb1⟩
  · have HR : Hid (termX (d + 1) 2 n s p f = s) := by show _ = _; rw [termX_at, hl, upX_0, cat_nil]; rfl
    clear hl
    go_enter Tryz.func83, Tryz.ntmps83
    go_wp2_with fail
    go_ret
    exact ⟨ret_s HR.out.symm, N.out⟩

set_option maxRecDepth 100000 in
set_option maxHeartbeats 4000000 in
theorem say_at (n : Int) (s : ByteArray) (p : List Int) (pa : Option Addr) (pc : Nat) (f : TM) (a : Option Addr) (c d : Nat) (w : World) (hp : pathB p = true) (hp4 : p.length ≤ 4) (hl : tlen f = 1) (z0 : (kidX d f 0).size ≤ 10000000) (hT : PA w 0 p pa) (hM : MA w 0 f a) (hK : ∀ j, j < tlen f → ∀ (pa' : Option Addr) (pc' : Nat) (a' : Option Addr) (c' : Nat) (w' : World), Ex w w' → PA w' 0 (tpath f j) pa' → MA w' 0 (tkid f j) a' → Calls Tryz.prog 83 #[.agg #[.int .i64 (tkind f j), .int .i64 (tnum f j), .string (tname f j), .slice pa' (tpath f j).length pc', .slice a' (tlen (tkid f j)) c']] w' fun e w'' => e = .returned (.string (kidX d f j)) ∧ Ex w' w'') :
    Calls Tryz.prog 83 #[.agg #[.int .i64 7, .int .i64 n, .string s, .slice pa p.length pc, .slice a (tlen f) c]] w fun e w' => e = .returned (.string (termX (d + 1) 7 n s p f)) ∧ Ex w w' := by
  have IP : Hid (∀ w', Ex w w' → Calls Tryz.prog 108 #[.slice pa p.length pc] w' fun e w'' => e = .returned (.string (pathX p)) ∧ Ex w' w'') := fun w' h => l12Path_any p pa pc w' hp hp4 (PA_below hT h)
  obtain ⟨b, o, rfl, _, hbs, hM'⟩ := MA_at hM (by omega)
  obtain ⟨e0, e1, e2, ⟨pa0, pc0, e3, hp0⟩, a0, c0, e4, hm0⟩ := hM' 0 (by omega)
  have I0 : Hid _ := fun w' (h : Ex w w') => hK 0 (by omega) pa0 pc0 a0 c0 w' h (PA_below (PS_pa.1 hp0.1) h) (MA_below hm0 h)
  have HR : Hid (termX (d + 1) 7 n s p f = ⟨#[97, 116]⟩ ++ pathX p ++ ⟨#[32]⟩ ++ kidX d f 0) := by show _ = _; rw [termX_at, hl, upX_1, cat3 _ (⟨#[32]⟩ : ByteArray)]; rfl
  have zp := pathX_size hp
  generalize termX (d + 1) 7 n s p f = R at HR ⊢
  simp only [Nat.zero_mul, Nat.add_zero] at e0 e1 e2 e3 e4
  generalize kidX d f 0 = x0 at I0 HR z0
  generalize pathX p = xp at IP HR zp
  generalize tkind f 0 = k0 at I0 e0
  generalize tnum f 0 = n0 at I0 e1
  generalize tname f 0 = s0 at I0 e2
  generalize (tpath f 0).length = l0 at I0 e3
  generalize tlen (tkid f 0) = m0 at I0 e4
  have N : Hid (Ex w (w.alloc (.cells #[.int .i64 7, .int .i64 n, .string s, .slice pa p.length pc, .slice (some ⟨b, o, none⟩) 1 c] 121))) := Ex.new _ _
  have KS : Hid (∀ w', Ex (w.alloc (.cells #[.int .i64 7, .int .i64 n, .string s, .slice pa p.length pc, .slice (some ⟨b, o, none⟩) 1 c] 121)) w' → (Ex (w.alloc (.cells #[.int .i64 7, .int .i64 n, .string s, .slice pa p.length pc, .slice (some ⟨b, o, none⟩) 1 c] 121)) w' ∧ (w'.cell? ⟨w.heap.size, 0, none⟩ = some (.int .i64 7) ∧ w'.cell? ⟨w.heap.size, 1, none⟩ = some (.int .i64 n) ∧ w'.cell? ⟨w.heap.size, 2, none⟩ = some (.string s) ∧ w'.cell? ⟨w.heap.size, 3, none⟩ = some (.slice pa p.length pc) ∧ w'.cell? ⟨w.heap.size, 4, none⟩ = some (.slice (some ⟨b, o, none⟩) 1 c)) ∧ w'.cell? ⟨b, o, none⟩ = some (.int .i64 k0) ∧ w'.cell? ⟨b, o + 1, none⟩ = some (.int .i64 n0) ∧ w'.cell? ⟨b, o + 2, none⟩ = some (.string s0) ∧ w'.cell? ⟨b, o + 3, none⟩ = some (.slice pa0 l0 pc0) ∧ w'.cell? ⟨b, o + 4, none⟩ = some (.slice a0 m0 c0))) := fun w' h => ⟨h, ⟨h.at (by simp), h.at (by simp), h.at (by simp), h.at (by simp), h.at (by simp)⟩, h.at ((Ex.new _ _).at e0), h.at ((Ex.new _ _).at e1), h.at ((Ex.new _ _).at e2), h.at ((Ex.new _ _).at e3), h.at ((Ex.new _ _).at e4)⟩
  have n1 : ¬ 9223372036854775807 < 2 + xp.size := by omega
  have n2 : ¬ 9223372036854775807 < 2 + xp.size + 1 := by omega
  have n3 : ¬ 9223372036854775807 < 2 + xp.size + 1 + x0.size := by omega
  rw [hl]
  clear hp hp4 hT hM hM' hK hp0 hm0 e0 e1 e2 e3 e4 z0 zp hl
  go_enter Tryz.func83, Tryz.ntmps83
  go_wp2_with fail
  go_region_held3 (fun w' => Ex (w.alloc (.cells #[.int .i64 7, .int .i64 n, .string s, .slice pa p.length pc, .slice (some ⟨b, o, none⟩) 1 c] 121)) w' ∧ (w'.cell? ⟨w.heap.size, 0, none⟩ = some (.int .i64 7) ∧ w'.cell? ⟨w.heap.size, 1, none⟩ = some (.int .i64 n) ∧ w'.cell? ⟨w.heap.size, 2, none⟩ = some (.string s) ∧ w'.cell? ⟨w.heap.size, 3, none⟩ = some (.slice pa p.length pc) ∧ w'.cell? ⟨w.heap.size, 4, none⟩ = some (.slice (some ⟨b, o, none⟩) 1 c)) ∧ w'.cell? ⟨b, o, none⟩ = some (.int .i64 k0) ∧ w'.cell? ⟨b, o + 1, none⟩ = some (.int .i64 n0) ∧ w'.cell? ⟨b, o + 2, none⟩ = some (.string s0) ∧ w'.cell? ⟨b, o + 3, none⟩ = some (.slice pa0 l0 pc0) ∧ w'.cell? ⟨b, o + 4, none⟩ = some (.slice a0 m0 c0)) ((refine KS.out _ ?_; first | exact (Ex.refl _).drew | exact (And.left ‹Ex _ _ ∧ _›) | exact Ex.trans (And.left ‹Ex _ _ ∧ _›) ‹Ex _ _›)) (first | (go_at_call 108; refine (IP.out _ (Ex.trans N.out (And.left ‹Ex _ _ ∧ _›))).mono ?_; rintro e wp ⟨rfl, hbp⟩) | (go_at_call_of 83 (Value.slice a0 m0 c0); refine (I0.out _ (Ex.trans N.out (And.left ‹Ex _ _ ∧ _›))).mono ?_; rintro e w1 ⟨rfl, hb0⟩))
  go_wp2_with fail
  go_ret
  exact ⟨ret_s HR.out.symm, N.out.trans (And.left ‹Ex _ _ ∧ _›)⟩

set_option maxRecDepth 100000 in
set_option maxHeartbeats 8000000 in
theorem say_put (n : Int) (s : ByteArray) (p : List Int) (pa : Option Addr) (pc : Nat) (f : TM) (a : Option Addr) (c d : Nat) (w : World) (hp : pathB p = true) (hp4 : p.length ≤ 4) (hl : tlen f = 2) (z0 : (kidX d f 0).size ≤ 10000000) (z1 : (kidX d f 1).size ≤ 10000000) (hT : PA w 0 p pa) (hM : MA w 0 f a) (hK : ∀ j, j < tlen f → ∀ (pa' : Option Addr) (pc' : Nat) (a' : Option Addr) (c' : Nat) (w' : World), Ex w w' → PA w' 0 (tpath f j) pa' → MA w' 0 (tkid f j) a' → Calls Tryz.prog 83 #[.agg #[.int .i64 (tkind f j), .int .i64 (tnum f j), .string (tname f j), .slice pa' (tpath f j).length pc', .slice a' (tlen (tkid f j)) c']] w' fun e w'' => e = .returned (.string (kidX d f j)) ∧ Ex w' w'') :
    Calls Tryz.prog 83 #[.agg #[.int .i64 8, .int .i64 n, .string s, .slice pa p.length pc, .slice a (tlen f) c]] w fun e w' => e = .returned (.string (termX (d + 1) 8 n s p f)) ∧ Ex w w' := by
  have IP : Hid (∀ w', Ex w w' → Calls Tryz.prog 108 #[.slice pa p.length pc] w' fun e w'' => e = .returned (.string (pathX p)) ∧ Ex w' w'') := fun w' h => l12Path_any p pa pc w' hp hp4 (PA_below hT h)
  obtain ⟨b, o, rfl, _, hbs, hM'⟩ := MA_at hM (by omega)
  obtain ⟨e0, e1, e2, ⟨pa0, pc0, e3, hp0⟩, a0, c0, e4, hm0⟩ := hM' 0 (by omega)
  have I0 : Hid _ := fun w' (h : Ex w w') => hK 0 (by omega) pa0 pc0 a0 c0 w' h (PA_below (PS_pa.1 hp0.1) h) (MA_below hm0 h)
  obtain ⟨f0, f1, f2, ⟨pa1, pc1, f3, hp1⟩, a1, c1, f4, hm1⟩ := hM' 1 (by omega)
  have I1 : Hid _ := fun w' (h : Ex w w') => hK 1 (by omega) pa1 pc1 a1 c1 w' h (PA_below (PS_pa.1 hp1.1) h) (MA_below hm1 h)
  have HR : Hid (termX (d + 1) 8 n s p f = ⟨#[112, 117, 116]⟩ ++ pathX p ++ ⟨#[32]⟩ ++ kidX d f 0 ++ ⟨#[32]⟩ ++ kidX d f 1) := by show _ = _; rw [termX_at, hl, upX_2]; simp only [cat3]; rfl
  have zp := pathX_size hp
  generalize termX (d + 1) 8 n s p f = R at HR ⊢
  simp only [Nat.zero_mul, Nat.add_zero, Nat.one_mul, Nat.add_assoc, Nat.reduceAdd] at e0 e1 e2 e3 e4 f0 f1 f2 f3 f4
  generalize kidX d f 0 = x0 at I0 HR z0
  generalize kidX d f 1 = x1 at I1 HR z1
  generalize pathX p = xp at IP HR zp
  generalize tkind f 0 = k0 at I0 e0
  generalize tnum f 0 = n0 at I0 e1
  generalize tname f 0 = s0 at I0 e2
  generalize (tpath f 0).length = l0 at I0 e3
  generalize tlen (tkid f 0) = m0 at I0 e4
  generalize tkind f 1 = k1 at I1 f0
  generalize tnum f 1 = n1 at I1 f1
  generalize tname f 1 = s1 at I1 f2
  generalize (tpath f 1).length = l1 at I1 f3
  generalize tlen (tkid f 1) = m1 at I1 f4
  have N : Hid (Ex w (w.alloc (.cells #[.int .i64 8, .int .i64 n, .string s, .slice pa p.length pc, .slice (some ⟨b, o, none⟩) 2 c] 121))) := Ex.new _ _
  have KS : Hid (∀ w', Ex (w.alloc (.cells #[.int .i64 8, .int .i64 n, .string s, .slice pa p.length pc, .slice (some ⟨b, o, none⟩) 2 c] 121)) w' → (Ex (w.alloc (.cells #[.int .i64 8, .int .i64 n, .string s, .slice pa p.length pc, .slice (some ⟨b, o, none⟩) 2 c] 121)) w' ∧ (w'.cell? ⟨w.heap.size, 0, none⟩ = some (.int .i64 8) ∧ w'.cell? ⟨w.heap.size, 1, none⟩ = some (.int .i64 n) ∧ w'.cell? ⟨w.heap.size, 2, none⟩ = some (.string s) ∧ w'.cell? ⟨w.heap.size, 3, none⟩ = some (.slice pa p.length pc) ∧ w'.cell? ⟨w.heap.size, 4, none⟩ = some (.slice (some ⟨b, o, none⟩) 2 c)) ∧ (w'.cell? ⟨b, o, none⟩ = some (.int .i64 k0) ∧ w'.cell? ⟨b, o + 1, none⟩ = some (.int .i64 n0) ∧ w'.cell? ⟨b, o + 2, none⟩ = some (.string s0) ∧ w'.cell? ⟨b, o + 3, none⟩ = some (.slice pa0 l0 pc0) ∧ w'.cell? ⟨b, o + 4, none⟩ = some (.slice a0 m0 c0)) ∧ w'.cell? ⟨b, o + 5, none⟩ = some (.int .i64 k1) ∧ w'.cell? ⟨b, o + 6, none⟩ = some (.int .i64 n1) ∧ w'.cell? ⟨b, o + 7, none⟩ = some (.string s1) ∧ w'.cell? ⟨b, o + 8, none⟩ = some (.slice pa1 l1 pc1) ∧ w'.cell? ⟨b, o + 9, none⟩ = some (.slice a1 m1 c1))) := fun w' h => ⟨h, ⟨h.at (by simp), h.at (by simp), h.at (by simp), h.at (by simp), h.at (by simp)⟩, ⟨h.at ((Ex.new _ _).at e0), h.at ((Ex.new _ _).at e1), h.at ((Ex.new _ _).at e2), h.at ((Ex.new _ _).at e3), h.at ((Ex.new _ _).at e4)⟩, h.at ((Ex.new _ _).at f0), h.at ((Ex.new _ _).at f1), h.at ((Ex.new _ _).at f2), h.at ((Ex.new _ _).at f3), h.at ((Ex.new _ _).at f4)⟩
  have y1 : ¬ 9223372036854775807 < 3 + xp.size := by omega
  have y2 : ¬ 9223372036854775807 < 3 + xp.size + 1 := by omega
  have y3 : ¬ 9223372036854775807 < 3 + xp.size + 1 + x0.size := by omega
  have y4 : ¬ 9223372036854775807 < 3 + xp.size + 1 + x0.size + 1 := by omega
  have y5 : ¬ 9223372036854775807 < 3 + xp.size + 1 + x0.size + 1 + x1.size := by omega
  rw [hl]
  clear hp hp4 hT hM hM' hK hp0 hm0 hp1 hm1 e0 e1 e2 e3 e4 f0 f1 f2 f3 f4 z0 z1 zp hl
  go_enter Tryz.func83, Tryz.ntmps83
  go_wp2_with fail
  go_region_held3 (fun w' => Ex (w.alloc (.cells #[.int .i64 8, .int .i64 n, .string s, .slice pa p.length pc, .slice (some ⟨b, o, none⟩) 2 c] 121)) w' ∧ (w'.cell? ⟨w.heap.size, 0, none⟩ = some (.int .i64 8) ∧ w'.cell? ⟨w.heap.size, 1, none⟩ = some (.int .i64 n) ∧ w'.cell? ⟨w.heap.size, 2, none⟩ = some (.string s) ∧ w'.cell? ⟨w.heap.size, 3, none⟩ = some (.slice pa p.length pc) ∧ w'.cell? ⟨w.heap.size, 4, none⟩ = some (.slice (some ⟨b, o, none⟩) 2 c)) ∧ (w'.cell? ⟨b, o, none⟩ = some (.int .i64 k0) ∧ w'.cell? ⟨b, o + 1, none⟩ = some (.int .i64 n0) ∧ w'.cell? ⟨b, o + 2, none⟩ = some (.string s0) ∧ w'.cell? ⟨b, o + 3, none⟩ = some (.slice pa0 l0 pc0) ∧ w'.cell? ⟨b, o + 4, none⟩ = some (.slice a0 m0 c0)) ∧ w'.cell? ⟨b, o + 5, none⟩ = some (.int .i64 k1) ∧ w'.cell? ⟨b, o + 6, none⟩ = some (.int .i64 n1) ∧ w'.cell? ⟨b, o + 7, none⟩ = some (.string s1) ∧ w'.cell? ⟨b, o + 8, none⟩ = some (.slice pa1 l1 pc1) ∧ w'.cell? ⟨b, o + 9, none⟩ = some (.slice a1 m1 c1)) ((refine KS.out _ ?_; first | exact (Ex.refl _).drew | exact (And.left ‹Ex _ _ ∧ _›) | exact Ex.trans (And.left ‹Ex _ _ ∧ _›) ‹Ex _ _›)) (first | (go_at_call 108; refine (IP.out _ (Ex.trans N.out (And.left ‹Ex _ _ ∧ _›))).mono ?_; rintro e wp ⟨rfl, hbp⟩) | (go_at_call_of 83 (Value.slice a0 m0 c0); refine (I0.out _ (Ex.trans N.out (And.left ‹Ex _ _ ∧ _›))).mono ?_; rintro e w1 ⟨rfl, hb0⟩) | (go_at_call_of 83 (Value.slice a1 m1 c1); refine (I1.out _ (Ex.trans N.out (And.left ‹Ex _ _ ∧ _›))).mono ?_; rintro e w1 ⟨rfl, hb0⟩))
  go_wp2_with fail
  go_ret
  exact ⟨ret_s HR.out.symm, N.out.trans (And.left ‹Ex _ _ ∧ _›)⟩

set_option maxRecDepth 100000 in
set_option maxHeartbeats 8000000 in
theorem say_op (k : Nat) (h3 : 3 ≤ k) (h6 : k ≤ 6) (n : Int) (s : ByteArray) (p : List Int) (pa : Option Addr) (pc : Nat) (f : TM) (a : Option Addr) (c d : Nat) (w : World) (hl : tlen f = 2) (z0 : (kidX d f 0).size ≤ 10000000) (z1 : (kidX d f 1).size ≤ 10000000) (hM : MA w 0 f a) (hK : ∀ j, j < tlen f → ∀ (pa' : Option Addr) (pc' : Nat) (a' : Option Addr) (c' : Nat) (w' : World), Ex w w' → PA w' 0 (tpath f j) pa' → MA w' 0 (tkid f j) a' → Calls Tryz.prog 83 #[.agg #[.int .i64 (tkind f j), .int .i64 (tnum f j), .string (tname f j), .slice pa' (tpath f j).length pc', .slice a' (tlen (tkid f j)) c']] w' fun e w'' => e = .returned (.string (kidX d f j)) ∧ Ex w' w'') :
    Calls Tryz.prog 83 #[.agg #[.int .i64 (k : Nat), .int .i64 n, .string s, .slice pa p.length pc, .slice a (tlen f) c]] w fun e w' => e = .returned (.string (termX (d + 1) (k : Nat) n s p f)) ∧ Ex w w' := by
  obtain ⟨b, o, rfl, _, hbs, hM'⟩ := MA_at hM (by omega)
  obtain ⟨e0, e1, e2, ⟨pa0, pc0, e3, hp0⟩, a0, c0, e4, hm0⟩ := hM' 0 (by omega)
  have I0 : Hid _ := fun w' (h : Ex w w') => hK 0 (by omega) pa0 pc0 a0 c0 w' h (PA_below (PS_pa.1 hp0.1) h) (MA_below hm0 h)
  obtain ⟨f0, f1, f2, ⟨pa1, pc1, f3, hp1⟩, a1, c1, f4, hm1⟩ := hM' 1 (by omega)
  have I1 : Hid _ := fun w' (h : Ex w w') => hK 1 (by omega) pa1 pc1 a1 c1 w' h (PA_below (PS_pa.1 hp1.1) h) (MA_below hm1 h)
  have HR : Hid (termX (d + 1) (k : Nat) n s p f = sgn k ++ ⟨#[32]⟩ ++ kidX d f 0 ++ ⟨#[32]⟩ ++ kidX d f 1) := by show _ = _; rw [termX_at, hl, upX_2, wordX_sgn h3 h6]; simp only [cat3]
  have zs := sgn_size k
  generalize termX (d + 1) (k : Nat) n s p f = R at HR ⊢
  simp only [Nat.zero_mul, Nat.add_zero, Nat.one_mul, Nat.add_assoc, Nat.reduceAdd] at e0 e1 e2 e3 e4 f0 f1 f2 f3 f4
  generalize kidX d f 0 = x0 at I0 HR z0
  generalize kidX d f 1 = x1 at I1 HR z1
  generalize tkind f 0 = k0 at I0 e0
  generalize tnum f 0 = n0 at I0 e1
  generalize tname f 0 = s0 at I0 e2
  generalize (tpath f 0).length = l0 at I0 e3
  generalize tlen (tkid f 0) = m0 at I0 e4
  generalize tkind f 1 = k1 at I1 f0
  generalize tnum f 1 = n1 at I1 f1
  generalize tname f 1 = s1 at I1 f2
  generalize (tpath f 1).length = l1 at I1 f3
  generalize tlen (tkid f 1) = m1 at I1 f4
  have N : Hid (Ex w (w.alloc (.cells #[.int .i64 (k : Nat), .int .i64 n, .string s, .slice pa p.length pc, .slice (some ⟨b, o, none⟩) 2 c] 121))) := Ex.new _ _
  have KS : Hid (∀ w', Ex (w.alloc (.cells #[.int .i64 (k : Nat), .int .i64 n, .string s, .slice pa p.length pc, .slice (some ⟨b, o, none⟩) 2 c] 121)) w' → (Ex (w.alloc (.cells #[.int .i64 (k : Nat), .int .i64 n, .string s, .slice pa p.length pc, .slice (some ⟨b, o, none⟩) 2 c] 121)) w' ∧ (w'.cell? ⟨w.heap.size, 0, none⟩ = some (.int .i64 (k : Nat)) ∧ w'.cell? ⟨w.heap.size, 1, none⟩ = some (.int .i64 n) ∧ w'.cell? ⟨w.heap.size, 2, none⟩ = some (.string s) ∧ w'.cell? ⟨w.heap.size, 3, none⟩ = some (.slice pa p.length pc) ∧ w'.cell? ⟨w.heap.size, 4, none⟩ = some (.slice (some ⟨b, o, none⟩) 2 c)) ∧ (w'.cell? ⟨b, o, none⟩ = some (.int .i64 k0) ∧ w'.cell? ⟨b, o + 1, none⟩ = some (.int .i64 n0) ∧ w'.cell? ⟨b, o + 2, none⟩ = some (.string s0) ∧ w'.cell? ⟨b, o + 3, none⟩ = some (.slice pa0 l0 pc0) ∧ w'.cell? ⟨b, o + 4, none⟩ = some (.slice a0 m0 c0)) ∧ w'.cell? ⟨b, o + 5, none⟩ = some (.int .i64 k1) ∧ w'.cell? ⟨b, o + 6, none⟩ = some (.int .i64 n1) ∧ w'.cell? ⟨b, o + 7, none⟩ = some (.string s1) ∧ w'.cell? ⟨b, o + 8, none⟩ = some (.slice pa1 l1 pc1) ∧ w'.cell? ⟨b, o + 9, none⟩ = some (.slice a1 m1 c1))) := fun w' h => ⟨h, ⟨h.at (by simp), h.at (by simp), h.at (by simp), h.at (by simp), h.at (by simp)⟩, ⟨h.at ((Ex.new _ _).at e0), h.at ((Ex.new _ _).at e1), h.at ((Ex.new _ _).at e2), h.at ((Ex.new _ _).at e3), h.at ((Ex.new _ _).at e4)⟩, h.at ((Ex.new _ _).at f0), h.at ((Ex.new _ _).at f1), h.at ((Ex.new _ _).at f2), h.at ((Ex.new _ _).at f3), h.at ((Ex.new _ _).at f4)⟩
  have y1 : ¬ 9223372036854775807 < (sgn k).size + 1 := by omega
  have y3 : ¬ 9223372036854775807 < (sgn k).size + 1 + x0.size := by omega
  have y4 : ¬ 9223372036854775807 < (sgn k).size + 1 + x0.size + 1 := by omega
  have y5 : ¬ 9223372036854775807 < (sgn k).size + 1 + x0.size + 1 + x1.size := by omega
  have q1 : ((k : Int) == 1) = false := by rw [beq_eq_false_iff_ne]; omega
  have q2 : ((k : Int) == 2) = false := by rw [beq_eq_false_iff_ne]; omega
  have q7 : ((k : Int) == 7) = false := by rw [beq_eq_false_iff_ne]; omega
  have q8 : ((k : Int) == 8) = false := by rw [beq_eq_false_iff_ne]; omega
  have b0 : (0 : Int) ≤ (k : Int) := by omega
  have b1 : (k : Int) < 7 := by omega
  have b2 : k < 7 := by omega
  rw [hl]
  clear hM hM' hK hp0 hm0 hp1 hm1 e0 e1 e2 e3 e4 f0 f1 f2 f3 f4 z0 z1 zs hl
  go_enter Tryz.func83, Tryz.ntmps83
  go_wp2_with fail
  refine wp_region_held_drew (S := fun w' => Ex (w.alloc (.cells #[.int .i64 (k : Nat), .int .i64 n, .string s, .slice pa p.length pc, .slice (some ⟨b, o, none⟩) 2 c] 121)) w' ∧ (w'.cell? ⟨w.heap.size, 0, none⟩ = some (.int .i64 (k : Nat)) ∧ w'.cell? ⟨w.heap.size, 1, none⟩ = some (.int .i64 n) ∧ w'.cell? ⟨w.heap.size, 2, none⟩ = some (.string s) ∧ w'.cell? ⟨w.heap.size, 3, none⟩ = some (.slice pa p.length pc) ∧ w'.cell? ⟨w.heap.size, 4, none⟩ = some (.slice (some ⟨b, o, none⟩) 2 c)) ∧ (w'.cell? ⟨b, o, none⟩ = some (.int .i64 k0) ∧ w'.cell? ⟨b, o + 1, none⟩ = some (.int .i64 n0) ∧ w'.cell? ⟨b, o + 2, none⟩ = some (.string s0) ∧ w'.cell? ⟨b, o + 3, none⟩ = some (.slice pa0 l0 pc0) ∧ w'.cell? ⟨b, o + 4, none⟩ = some (.slice a0 m0 c0)) ∧ w'.cell? ⟨b, o + 5, none⟩ = some (.int .i64 k1) ∧ w'.cell? ⟨b, o + 6, none⟩ = some (.int .i64 n1) ∧ w'.cell? ⟨b, o + 7, none⟩ = some (.string s1) ∧ w'.cell? ⟨b, o + 8, none⟩ = some (.slice pa1 l1 pc1) ∧ w'.cell? ⟨b, o + 9, none⟩ = some (.slice a1 m1 c1)) (by kernel_rfl) (KS.out _ (Ex.refl _).drew) (fun hHeld => ?_)
  refine wpAnyH_take (i := 1) (v := ?_) rfl (by kernel_rfl) (by kernel_rfl) (by kernel_rfl) (fun _ _ _ h => h) (Or.inl ⟨by rfl, ?_⟩) (by assumption) ?_
  rotate_left
  · (intro w' hSw; (try dsimp only at hSw); go_simp) <;> with_reducible rfl
  change wpAnyH Tryz.prog _ _ _ _ _ _ (Act.put _ (some 48) _) _
  (try simp only [Act.put, List.setIfInBounds_toArray, List.set_cons_zero, List.set_cons_succ])
  refine wpAnyH_take (i := 2) (v := ?_) rfl (by kernel_rfl) (by kernel_rfl) (by kernel_rfl) (fun _ _ _ h => h) (Or.inl ⟨by rfl, ?_⟩) (by assumption) ?_
  rotate_left
  · (intro w' hSw; (try dsimp only at hSw); go_simp) <;> with_reducible rfl
  change wpAnyH Tryz.prog _ _ _ _ _ _ (Act.put _ (some 49) _) _
  (try simp only [Act.put, List.setIfInBounds_toArray, List.set_cons_zero, List.set_cons_succ])
  refine wpAnyH_take (i := 6) (v := ?_) rfl (by kernel_rfl) (by kernel_rfl) (by kernel_rfl) (fun _ _ _ h => h) (Or.inl ⟨by rfl, ?_⟩) (by assumption) ?_
  rotate_left
  · (intro w' hSw; (try dsimp only at hSw); go_simp) <;> with_reducible rfl
  change wpAnyH Tryz.prog _ _ _ _ _ _ (Act.put _ (some 53) _) _
  (try simp only [Act.put, List.setIfInBounds_toArray, List.set_cons_zero, List.set_cons_succ])
  refine wpAnyH_take (i := 7) (v := ?_) rfl (by kernel_rfl) (by kernel_rfl) (by kernel_rfl) (fun _ _ _ h => h) (Or.inl ⟨by rfl, ?_⟩) (by assumption) ?_
  rotate_left
  · (intro w' hSw; (try dsimp only at hSw); go_simp) <;> with_reducible rfl
  change wpAnyH Tryz.prog _ _ _ _ _ _ (Act.put _ (some 54) _) _
  (try simp only [Act.put, List.setIfInBounds_toArray, List.set_cons_zero, List.set_cons_succ])
  refine wpAnyH_take (i := 8) (v := ?_) rfl (by kernel_rfl) (by kernel_rfl) (by kernel_rfl) (fun _ _ _ h => h) (Or.inl ⟨by rfl, ?_⟩) (by assumption) ?_
  rotate_left
  · (intro w' hSw; (try dsimp only at hSw); go_simp) <;> with_reducible rfl
  change wpAnyH Tryz.prog _ _ _ _ _ _ (Act.put _ (some 55) _) _
  (try simp only [Act.put, List.setIfInBounds_toArray, List.set_cons_zero, List.set_cons_succ])
  refine wpAnyH_take (i := 9) (v := ?_) rfl (by kernel_rfl) (by kernel_rfl) (by kernel_rfl) (fun _ _ _ h => h) (Or.inl ⟨by rfl, ?_⟩) (by assumption) ?_
  rotate_left
  · (intro w' hSw; (try dsimp only at hSw); go_simp) <;> with_reducible rfl
  change wpAnyH Tryz.prog _ _ _ _ _ _ (Act.put _ (some 56) _) _
  (try simp only [Act.put, List.setIfInBounds_toArray, List.set_cons_zero, List.set_cons_succ])
  refine wpAnyH_take (i := 13) (v := ?_) rfl (by kernel_rfl) (by kernel_rfl) (by kernel_rfl) (fun _ _ _ h => h) (Or.inl ⟨by rfl, ?_⟩) (by assumption) ?_
  rotate_left
  · (intro w' hSw; (try dsimp only at hSw); go_simp) <;> with_reducible rfl
  change wpAnyH Tryz.prog _ _ _ _ _ _ (Act.put _ (some 60) _) _
  (try simp only [Act.put, List.setIfInBounds_toArray, List.set_cons_zero, List.set_cons_succ])
  refine wpAnyH_take (i := 14) (v := ?_) rfl (by kernel_rfl) (by kernel_rfl) (by kernel_rfl) (fun _ _ _ h => h) (Or.inl ⟨by rfl, ?_⟩) (by assumption) ?_
  rotate_left
  · (intro w' hSw; (try dsimp only at hSw); go_simp) <;> with_reducible rfl
  change wpAnyH Tryz.prog _ _ _ _ _ _ (Act.put _ (some 61) _) _
  (try simp only [Act.put, List.setIfInBounds_toArray, List.set_cons_zero, List.set_cons_succ])
  refine wpAnyH_take (i := 15) (v := ?_) rfl (by kernel_rfl) (by kernel_rfl) (by kernel_rfl) (fun _ _ _ h => h) (Or.inl ⟨by rfl, ?_⟩) (by assumption) ?_
  rotate_left
  · (intro w' hSw; (try dsimp only at hSw); go_simp) <;> with_reducible rfl
  change wpAnyH Tryz.prog _ _ _ _ _ _ (Act.put _ (some 62) _) _
  (try simp only [Act.put, List.setIfInBounds_toArray, List.set_cons_zero, List.set_cons_succ])
  refine wpAnyH_take (i := 16) (v := ?_) rfl (by kernel_rfl) (by kernel_rfl) (by kernel_rfl) (fun _ _ _ h => h) (Or.inl ⟨by rfl, ?_⟩) (by assumption) ?_
  rotate_left
  · (intro w' hSw; (try dsimp only at hSw); go_simp) <;> with_reducible rfl
  change wpAnyH Tryz.prog _ _ _ _ _ _ (Act.put _ (some 63) _) _
  (try simp only [Act.put, List.setIfInBounds_toArray, List.set_cons_zero, List.set_cons_succ])
  refine wpAnyH_ready (rs := [0]) (by kernel_rfl) (by simp) ?_
  refine (AllReadyH.cons (i := 0) rfl (fun K hK => ?_) AllReadyH.nil)
  go_simp
  refine (l2Signs_any _).mono ?_
  rintro e ws ⟨g, rfl, hy, hb⟩
  have hz := hy k h3 h6
  clear hy
  go_wp2_with fail
  refine hK.out _ _ ?_ (fun hHeld => ?_)
  · exact KS.out _ (hHeld.1.trans hb)
  clear hK
  (try simp only [Act.put, List.setIfInBounds_toArray, List.set_cons_zero, List.set_cons_succ])
  refine wpAnyH_take (i := 3) (v := ?_) rfl (by kernel_rfl) (by kernel_rfl) (by kernel_rfl) (fun _ _ _ h => h) (Or.inl ⟨by rfl, ?_⟩) (by assumption) ?_
  rotate_left
  · (intro w' hSw; (try dsimp only at hSw); go_simp) <;> with_reducible rfl
  change wpAnyH Tryz.prog _ _ _ _ _ _ (Act.put _ (some 50) _) _
  (try simp only [Act.put, List.setIfInBounds_toArray, List.set_cons_zero, List.set_cons_succ])
  refine wpAnyH_ready (rs := [4, 10]) (by kernel_rfl) (by simp) ?_
  refine (AllReadyH.cons (i := 4) rfl (fun K hK => ?_) (AllReadyH.cons (i := 10) rfl (fun K hK => ?_) AllReadyH.nil))
  · go_simp
    go_wp2_with fail
    refine hK.out _ _ ?_ (fun hHeld => ?_)
    · exact KS.out _ hHeld.1
    clear hK
    (try simp only [Act.put, List.setIfInBounds_toArray, List.set_cons_zero, List.set_cons_succ])
    refine wpAnyH_take (i := 5) (v := ?_) rfl (by kernel_rfl) (by kernel_rfl) (by kernel_rfl) (fun _ _ _ h => h) (Or.inl ⟨by rfl, ?_⟩) (by assumption) ?_
    rotate_left
    · (intro w' hSw; (try dsimp only at hSw); go_simp) <;> with_reducible rfl
    change wpAnyH Tryz.prog _ _ _ _ _ _ (Act.put _ (some 52) _) _
    (try simp only [Act.put, List.setIfInBounds_toArray, List.set_cons_zero, List.set_cons_succ])
    refine wpAnyH_ready (rs := [10]) (by kernel_rfl) (by simp) ?_
    refine (AllReadyH.cons (i := 10) rfl (fun K hK => ?_) AllReadyH.nil)
    go_simp
    refine (I0.out _ (N.out.trans hHeld.1)).mono ?_
    rintro e w1 ⟨rfl, hb⟩
    go_wp2_with fail
    refine hK.out _ _ ?_ (fun hHeld => ?_)
    · exact KS.out _ (hHeld.1.trans hb)
    clear hK
    (try simp only [Act.put, List.setIfInBounds_toArray, List.set_cons_zero, List.set_cons_succ])
    refine wpAnyH_take (i := 11) (v := ?_) rfl (by kernel_rfl) (by kernel_rfl) (by kernel_rfl) (fun _ _ _ h => h) (Or.inl ⟨by rfl, ?_⟩) (by assumption) ?_
    rotate_left
    · (intro w' hSw; (try dsimp only at hSw); go_simp) <;> with_reducible rfl
    change wpAnyH Tryz.prog _ _ _ _ _ _ (Act.put _ (some 58) _) _
    (try simp only [Act.put, List.setIfInBounds_toArray, List.set_cons_zero, List.set_cons_succ])
    refine wpAnyH_take (i := 12) (v := ?_) rfl (by kernel_rfl) (by kernel_rfl) (by kernel_rfl) (fun _ _ _ h => h) (Or.inl ⟨by rfl, ?_⟩) (by assumption) ?_
    rotate_left
    · (intro w' hSw; (try dsimp only at hSw); go_simp) <;> with_reducible rfl
    change wpAnyH Tryz.prog _ _ _ _ _ _ (Act.put _ (some 59) _) _
    (try simp only [Act.put, List.setIfInBounds_toArray, List.set_cons_zero, List.set_cons_succ])
    refine wpAnyH_ready (rs := [17]) (by kernel_rfl) (by simp) ?_
    refine (AllReadyH.cons (i := 17) rfl (fun K hK => ?_) AllReadyH.nil)
    go_simp
    refine (I1.out _ (N.out.trans hHeld.1)).mono ?_
    rintro e w1 ⟨rfl, hb⟩
    go_wp2_with fail
    refine hK.out _ _ ?_ (fun hHeld => ?_)
    · exact KS.out _ (hHeld.1.trans hb)
    clear hK
    (try simp only [Act.put, List.setIfInBounds_toArray, List.set_cons_zero, List.set_cons_succ])
    refine wpAnyH_take (i := 18) (v := ?_) rfl (by kernel_rfl) (by kernel_rfl) (by kernel_rfl) (fun _ _ _ h => h) (Or.inl ⟨by rfl, ?_⟩) (by assumption) ?_
    rotate_left
    · (intro w' hSw; (try dsimp only at hSw); go_simp) <;> with_reducible rfl
    change wpAnyH Tryz.prog _ _ _ _ _ _ (Act.put _ (some 65) _) _
    (try simp only [Act.put, List.setIfInBounds_toArray, List.set_cons_zero, List.set_cons_succ])
    refine wpAnyH_take (i := 19) (v := ?_) rfl (by kernel_rfl) (by kernel_rfl) (by kernel_rfl) (fun _ _ _ h => h) (Or.inl ⟨by rfl, ?_⟩) (by assumption) ?_
    rotate_left
    · (intro w' hSw; (try dsimp only at hSw); go_simp) <;> with_reducible rfl
    change wpAnyH Tryz.prog _ _ _ _ _ _ (Act.put _ (some 2) _) _
    (try simp only [Act.put, List.setIfInBounds_toArray, List.set_cons_zero, List.set_cons_succ])
    refine wpAnyH_done (by kernel_rfl) ?_ _
    go_wp2_with fail
    go_ret
    exact ⟨ret_s HR.out.symm, N.out.trans hHeld.1⟩
  · go_simp
    refine (I0.out _ (N.out.trans hHeld.1)).mono ?_
    rintro e w1 ⟨rfl, hb⟩
    have hz := hb.at hz
    go_wp2_with fail
    refine hK.out _ _ ?_ (fun hHeld => ?_)
    · exact KS.out _ (hHeld.1.trans hb)
    clear hK
    (try simp only [Act.put, List.setIfInBounds_toArray, List.set_cons_zero, List.set_cons_succ])
    refine wpAnyH_ready (rs := [4, 17]) (by kernel_rfl) (by simp) ?_
    refine (AllReadyH.cons (i := 4) rfl (fun K hK => ?_) (AllReadyH.cons (i := 17) rfl (fun K hK => ?_) AllReadyH.nil))
    · go_simp
      go_wp2_with fail
      refine hK.out _ _ ?_ (fun hHeld => ?_)
      · exact KS.out _ hHeld.1
      clear hK
      (try simp only [Act.put, List.setIfInBounds_toArray, List.set_cons_zero, List.set_cons_succ])
      refine wpAnyH_take (i := 5) (v := ?_) rfl (by kernel_rfl) (by kernel_rfl) (by kernel_rfl) (fun _ _ _ h => h) (Or.inl ⟨by rfl, ?_⟩) (by assumption) ?_
      rotate_left
      · (intro w' hSw; (try dsimp only at hSw); go_simp) <;> with_reducible rfl
      change wpAnyH Tryz.prog _ _ _ _ _ _ (Act.put _ (some 52) _) _
      (try simp only [Act.put, List.setIfInBounds_toArray, List.set_cons_zero, List.set_cons_succ])
      refine wpAnyH_take (i := 11) (v := ?_) rfl (by kernel_rfl) (by kernel_rfl) (by kernel_rfl) (fun _ _ _ h => h) (Or.inl ⟨by rfl, ?_⟩) (by assumption) ?_
      rotate_left
      · (intro w' hSw; (try dsimp only at hSw); go_simp) <;> with_reducible rfl
      change wpAnyH Tryz.prog _ _ _ _ _ _ (Act.put _ (some 58) _) _
      (try simp only [Act.put, List.setIfInBounds_toArray, List.set_cons_zero, List.set_cons_succ])
      refine wpAnyH_take (i := 12) (v := ?_) rfl (by kernel_rfl) (by kernel_rfl) (by kernel_rfl) (fun _ _ _ h => h) (Or.inl ⟨by rfl, ?_⟩) (by assumption) ?_
      rotate_left
      · (intro w' hSw; (try dsimp only at hSw); go_simp) <;> with_reducible rfl
      change wpAnyH Tryz.prog _ _ _ _ _ _ (Act.put _ (some 59) _) _
      (try simp only [Act.put, List.setIfInBounds_toArray, List.set_cons_zero, List.set_cons_succ])
      refine wpAnyH_ready (rs := [17]) (by kernel_rfl) (by simp) ?_
      refine (AllReadyH.cons (i := 17) rfl (fun K hK => ?_) AllReadyH.nil)
      go_simp
      refine (I1.out _ (N.out.trans hHeld.1)).mono ?_
      rintro e w1 ⟨rfl, hb⟩
      go_wp2_with fail
      refine hK.out _ _ ?_ (fun hHeld => ?_)
      · exact KS.out _ (hHeld.1.trans hb)
      clear hK
      (try simp only [Act.put, List.setIfInBounds_toArray, List.set_cons_zero, List.set_cons_succ])
      refine wpAnyH_take (i := 18) (v := ?_) rfl (by kernel_rfl) (by kernel_rfl) (by kernel_rfl) (fun _ _ _ h => h) (Or.inl ⟨by rfl, ?_⟩) (by assumption) ?_
      rotate_left
      · (intro w' hSw; (try dsimp only at hSw); go_simp) <;> with_reducible rfl
      change wpAnyH Tryz.prog _ _ _ _ _ _ (Act.put _ (some 65) _) _
      (try simp only [Act.put, List.setIfInBounds_toArray, List.set_cons_zero, List.set_cons_succ])
      refine wpAnyH_take (i := 19) (v := ?_) rfl (by kernel_rfl) (by kernel_rfl) (by kernel_rfl) (fun _ _ _ h => h) (Or.inl ⟨by rfl, ?_⟩) (by assumption) ?_
      rotate_left
      · (intro w' hSw; (try dsimp only at hSw); go_simp) <;> with_reducible rfl
      change wpAnyH Tryz.prog _ _ _ _ _ _ (Act.put _ (some 2) _) _
      (try simp only [Act.put, List.setIfInBounds_toArray, List.set_cons_zero, List.set_cons_succ])
      refine wpAnyH_done (by kernel_rfl) ?_ _
      go_wp2_with fail
      go_ret
      exact ⟨ret_s HR.out.symm, N.out.trans hHeld.1⟩
    · go_simp
      refine (I1.out _ (N.out.trans hHeld.1)).mono ?_
      rintro e w1 ⟨rfl, hb⟩
      have hz := hb.at hz
      go_wp2_with fail
      refine hK.out _ _ ?_ (fun hHeld => ?_)
      · exact KS.out _ (hHeld.1.trans hb)
      clear hK
      (try simp only [Act.put, List.setIfInBounds_toArray, List.set_cons_zero, List.set_cons_succ])
      refine wpAnyH_ready (rs := [4]) (by kernel_rfl) (by simp) ?_
      refine (AllReadyH.cons (i := 4) rfl (fun K hK => ?_) AllReadyH.nil)
      go_simp
      go_wp2_with fail
      refine hK.out _ _ ?_ (fun hHeld => ?_)
      · exact KS.out _ hHeld.1
      clear hK
      (try simp only [Act.put, List.setIfInBounds_toArray, List.set_cons_zero, List.set_cons_succ])
      refine wpAnyH_take (i := 5) (v := ?_) rfl (by kernel_rfl) (by kernel_rfl) (by kernel_rfl) (fun _ _ _ h => h) (Or.inl ⟨by rfl, ?_⟩) (by assumption) ?_
      rotate_left
      · (intro w' hSw; (try dsimp only at hSw); go_simp) <;> with_reducible rfl
      change wpAnyH Tryz.prog _ _ _ _ _ _ (Act.put _ (some 52) _) _
      (try simp only [Act.put, List.setIfInBounds_toArray, List.set_cons_zero, List.set_cons_succ])
      refine wpAnyH_take (i := 11) (v := ?_) rfl (by kernel_rfl) (by kernel_rfl) (by kernel_rfl) (fun _ _ _ h => h) (Or.inl ⟨by rfl, ?_⟩) (by assumption) ?_
      rotate_left
      · (intro w' hSw; (try dsimp only at hSw); go_simp) <;> with_reducible rfl
      change wpAnyH Tryz.prog _ _ _ _ _ _ (Act.put _ (some 58) _) _
      (try simp only [Act.put, List.setIfInBounds_toArray, List.set_cons_zero, List.set_cons_succ])
      refine wpAnyH_take (i := 12) (v := ?_) rfl (by kernel_rfl) (by kernel_rfl) (by kernel_rfl) (fun _ _ _ h => h) (Or.inl ⟨by rfl, ?_⟩) (by assumption) ?_
      rotate_left
      · (intro w' hSw; (try dsimp only at hSw); go_simp) <;> with_reducible rfl
      change wpAnyH Tryz.prog _ _ _ _ _ _ (Act.put _ (some 59) _) _
      (try simp only [Act.put, List.setIfInBounds_toArray, List.set_cons_zero, List.set_cons_succ])
      refine wpAnyH_take (i := 18) (v := ?_) rfl (by kernel_rfl) (by kernel_rfl) (by kernel_rfl) (fun _ _ _ h => h) (Or.inl ⟨by rfl, ?_⟩) (by assumption) ?_
      rotate_left
      · (intro w' hSw; (try dsimp only at hSw); go_simp) <;> with_reducible rfl
      change wpAnyH Tryz.prog _ _ _ _ _ _ (Act.put _ (some 65) _) _
      (try simp only [Act.put, List.setIfInBounds_toArray, List.set_cons_zero, List.set_cons_succ])
      refine wpAnyH_take (i := 19) (v := ?_) rfl (by kernel_rfl) (by kernel_rfl) (by kernel_rfl) (fun _ _ _ h => h) (Or.inl ⟨by rfl, ?_⟩) (by assumption) ?_
      rotate_left
      · (intro w' hSw; (try dsimp only at hSw); go_simp) <;> with_reducible rfl
      change wpAnyH Tryz.prog _ _ _ _ _ _ (Act.put _ (some 2) _) _
      (try simp only [Act.put, List.setIfInBounds_toArray, List.set_cons_zero, List.set_cons_succ])
      refine wpAnyH_done (by kernel_rfl) ?_ _
      go_wp2_with fail
      go_ret
      exact ⟨ret_s HR.out.symm, N.out.trans hHeld.1⟩

end Go.Proofs.YtldbmlojgakieaaGreatDoor
