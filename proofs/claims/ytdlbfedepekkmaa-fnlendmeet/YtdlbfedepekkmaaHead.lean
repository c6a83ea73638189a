/- What the head of the translation says of itself: three facts that every row over it asks for, each reckoned without going through the whole head. -/
import Derived.Test.YtdlbfedepekkmaaRows
import Derived.JoinedOf
import Derived.KernelRfl
namespace Go.Proofs.Ytdlbfedepekkmaa

def headA : List Char := List.map Char.ofNat [104, 97, 114, 110, 101, 115, 115]
def headB : List Char := List.map Char.ofNat [57, 52, 51, 55, 54, 49, 100, 98, 97, 97, 51, 56, 99, 53, 51, 101, 52, 102, 48, 50, 102, 53, 99, 51, 56, 98, 48, 53, 48, 56, 102, 49, 101, 99, 97, 55, 57, 54, 57, 99, 52, 49, 54, 57, 97, 102, 50, 52, 49, 99, 50, 53, 56, 50, 57, 100, 99, 50, 57, 102, 52, 101, 48, 100]
def headC : List Char := List.map Char.ofNat [99, 117, 116]
def headR : List Char := List.map Char.ofNat [97, 116, 32, 108, 111, 111, 112, 46, 101, 120, 97, 109, 112, 108, 101, 47, 104, 97, 110, 100, 102, 97, 115, 116, 47, 108, 97, 119, 115, 46, 70, 110, 76, 101, 110, 100, 77, 101, 101, 116, 32, 108, 111, 111, 112, 46, 101, 120, 97, 109, 112, 108, 101, 47, 104, 97, 110, 100, 102, 97, 115, 116, 47, 108, 97, 119, 115, 46, 70, 110, 69, 120, 97, 99, 116, 76, 101, 110, 100, 77, 101, 101, 116]

theorem head_str : Try.prog.initOrder = String.ofList (headA ++ Char.ofNat 32 :: (headB ++ Char.ofNat 32 :: (headC ++ Char.ofNat 32 :: headR))) := by kernel_rfl

theorem head_pre (r : List Char) : wordsSigns (headA ++ Char.ofNat 32 :: (headB ++ Char.ofNat 32 :: (headC ++ Char.ofNat 32 :: r))) = headA :: headB :: headC :: wordsSigns r := by kernel_rfl

theorem head_words : ∃ r, wordsSigns Try.prog.initOrder.toList = headA :: headB :: headC :: r :=
  ⟨wordsSigns headR, by rw [head_str, String.toList_ofList, head_pre]⟩

theorem head_behind (r : List (List Char)) : behindMainWord (headA :: headB :: headC :: r) = headC :: r := by kernel_rfl

theorem head_strip (r : List (List Char)) : stripLifts liftWords (headC :: r) = ([], headC :: r) := by kernel_rfl

theorem head_laysLater : Try.prog.laysLater = false := by kernel_rfl
theorem head_bearsReflect : Try.prog.bearsReflect = false := by kernel_rfl
theorem head_doorFits : Try.prog.doorFits [] = true := by kernel_rfl
theorem head_cut (r : List (List Char)) : ((headC :: r).head? == some "cut".toList) = true := by kernel_rfl
theorem head_noGc : (headC == "gc".toList || headC == "spec".toList) = false := by kernel_rfl
theorem head_first (r : List (List Char)) : ((headC :: r).head? == some "carried".toList) = false := by kernel_rfl
theorem head_isCut : (headC == "cut".toList) = true := by kernel_rfl
theorem head_noCarried : (headC == "carried".toList) = false := by kernel_rfl

theorem mayEnter_of (P : Program) (c : List Char) (r : List (List Char)) (h : behindMainWord (wordsSigns P.initOrder.toList) = c :: r) (h1 : (c == "gc".toList || c == "spec".toList) = false) (h2 : (c == "carried".toList) = false) (h3 : stripLifts liftWords (c :: r) = ([], c :: r)) (h4 : ((c :: r).head? == some "cut".toList) = true)
    (h5 : P.laysLater = false) (h6 : P.bearsReflect = false) (h7 : P.doorFits [] = true) : P.mayEnter = true := by
  unfold Program.mayEnter
  rw [h]
  simp only [h1, h2, h3, h4, h5, h6, h7]
  simp

theorem lifts_of (P : Program) (c : List Char) (r : List (List Char)) (h : behindMainWord (wordsSigns P.initOrder.toList) = c :: r) (h3 : stripLifts liftWords (c :: r) = ([], c :: r)) : P.headLifts = [] := by
  unfold Program.headLifts
  rw [h]
  simp only [h3]
  split <;> rfl

theorem liftsFinal_of (P : Program) (c : List Char) (r : List (List Char)) (h : behindMainWord (wordsSigns P.initOrder.toList) = c :: r) (h1 : ((c :: r).head? == some "carried".toList) = false) (h2 : P.headLifts = []) : P.liftsFinal = false := by
  unfold Program.liftsFinal
  rw [h]
  simp only [h1, h2]
  simp

theorem make_of (P : Program) (c : List Char) (r : List (List Char)) (h : behindMainWord (wordsSigns P.initOrder.toList) = c :: r) (h1 : (c == "gc".toList || c == "spec".toList) = false) (h2 : (c == "cut".toList) = true) : P.make = some .cut := by
  unfold Program.make
  rw [h]
  simp only [h1, h2]
  simp

theorem head_all : ∃ r, behindMainWord (wordsSigns Try.prog.initOrder.toList) = headC :: r := by
  obtain ⟨r, hr⟩ := head_words
  exact ⟨r, by rw [hr, head_behind]⟩

theorem head_mayEnter : Try.prog.mayEnter = true := by
  obtain ⟨r, hr⟩ := head_all
  exact mayEnter_of _ _ r hr head_noGc head_noCarried (head_strip r) (head_cut r) head_laysLater head_bearsReflect head_doorFits

theorem head_liftsFinal : Try.prog.liftsFinal = false := by
  obtain ⟨r, hr⟩ := head_all
  exact liftsFinal_of _ _ r hr (head_first r) (lifts_of _ _ r hr (head_strip r))

theorem head_make : Try.prog.make = some .cut := by
  obtain ⟨r, hr⟩ := head_all
  exact make_of _ _ r hr head_noGc head_isCut

end Go.Proofs.Ytdlbfedepekkmaa
