/- Walks: the program's texts behind a word. -/
import Derived.Test.YtpibamhkmmgooaaGreatDoorPT1

namespace Go.Proofs.YtpibamhkmmgooaaGreatDoor

open Go.RowKit Go.Deep

attribute [local go_sem ↓] Go.wp_at_zero Go.wp_at_succ

theorem join_snoc (xs : List (List UInt8)) (x sep : List UInt8) (h : xs ≠ []) : Lib.join (xs ++ [x]) sep = Lib.join xs sep ++ (sep ++ x) := by
  cases xs with
  | nil => exact absurd rfl h
  | cons y r =>
    rw [List.cons_append, Lib.join_cons, Lib.join_cons]
    simp [Lib.joinTail]

/-- The texts of terms, one by one. -/
def rowTs (f : TM) (n : Nat) : List ByteArray := (List.range n).map fun i => ⟨#[32]⟩ ++ kidX 8 f i
theorem rowTs_len (f : TM) (n : Nat) : (rowTs f n).length = n := by simp [rowTs]
theorem rowTs_succ (f : TM) (n : Nat) : rowTs f (n + 1) = rowTs f n ++ [⟨#[32]⟩ ++ kidX 8 f n] := by simp [rowTs, List.range_succ]
theorem toL (a b : ByteArray) : (a ++ b).data.toList = a.data.toList ++ b.data.toList := by rw [ByteArray.data_append, Array.toList_append]
theorem join_rows (f : TM) : ∀ n, Lib.join ((rowTs f n).map (·.data.toList)) [59] = (upX (rowX f) n).data.toList
  | 0 => rfl
  | n + 1 => by
    have e : (upX (rowX f) (n + 1)).data.toList = (upX (rowX f) n).data.toList ++ (rowX f n).data.toList := toL _ _
    rw [rowTs_succ, List.map_append, List.map_cons, List.map_nil, e, ← join_rows f n]
    by_cases h0 : n = 0
    · subst h0
      have e2 : (rowX f 0).data.toList = ((⟨#[32]⟩ : ByteArray) ++ kidX 8 f 0).data.toList := by rw [rowX, if_pos rfl, nil_cat]
      rw [e2]
      simp [rowTs, Lib.join]
    · have e2 : (rowX f n).data.toList = [59] ++ ((⟨#[32]⟩ : ByteArray) ++ kidX 8 f n).data.toList := by rw [rowX, if_neg h0, toL]
      rw [join_snoc, e2]
      intro e
      have := congrArg List.length e
      rw [List.length_map, rowTs_len] at this
      exact h0 this
theorem join_rowsX (f : TM) : (⟨(Lib.join ((rowTs f (tlen f)).map (·.data.toList)) [59]).toArray⟩ : ByteArray) = rowsX f := by
  rw [join_rows]; rfl

/-- One value put behind what is owned. -/
theorem wpList_append_one {P : Program} {w : World} {ops : Array Oper} {rest : List Oper} {o : Oper} {a : Act} {Q : Exit → Act → World → Prop} (hgd : o.guard = none) (s x : Operand) (t : TypeId)
    (ho : o.op = .call { callee := .builtin .append, args := #[s, x], argTypes := #[t, t] })
    (w0 : World) (hE : Ex w0 w) (e : TypeId) (i : TypeInfo) (z : Value) (bytes : Nat) (ht : P.underlying t = some (.slice e)) (hi : P.info? e = some i) (hz : i.zero = some z) (hsize : i.size = 1) (hby : i.bytes = bytes) (hzs : z.cells.size = 1) (hb64 : bytes ≤ 64)
    (v : Value) (n : Nat) (xs : List Value) (hs : a.eval s = v) (hown : w.ownsRow w0.heap.size e 1 v n xs)
    (b of pc : Nat) (u : Value) (hx : a.eval x = .slice (some ⟨b, of, none⟩) 1 pc) (hc : w.cell? ⟨b, of, none⟩ = some u) (h1 : u.oneCell' = true) (h63 : n ≤ 100000000)
    (h : ∀ v' w', w'.ownsRow w0.heap.size e 1 v' (n + 1) (xs ++ [u]) → Ex w0 w' → wpList P ops Q rest (a.put o.dst v') w') :
    wpList P ops Q (o :: rest) a w := by
  refine wpList_append_own w hgd s x t ho w0.heap.size e i z 1 bytes ht hi hz hsize hby hzs (by omega) v n xs hs hown ⟨b, of, none⟩ 1 pc [u] hx rfl ?_ (fun q hq => by rw [List.mem_singleton.1 hq]; exact h1) (by unfold maxLen; omega) (by
    have : (n + 1) * bytes ≤ 100000001 * 64 := Nat.mul_le_mul (by omega) hb64
    omega) hE.size fun v' w' h2 h3 _ => h v' w' h2 (ex_grow hE h3 (row_own hown))
  intro j q hq
  match j, hq with
  | 0, hq => simp at hq; subst hq; rw [Go.WideShapes.add_plain]; exact hc

theorem rows_join {f : TM} {v : Value} {base : Nat} {R : ByteArray} {w : World} (hn : tlen f ≤ 1048576) (ho : w.ownsRow base 9 1 v (tlen f) ((rowTs f (tlen f)).map Value.string)) (hR : ⟨(Lib.join ((rowTs f (tlen f)).map (·.data.toList)) [59]).toArray⟩ = R) (hlen : (Lib.join ((rowTs f (tlen f)).map (·.data.toList)) [59]).length ≤ 140737488355328) :
    Calls Tryz.prog 48 #[v, .string ⟨#[59]⟩] w fun e w' => e = .returned (.string R) ∧ Ex w w' := by
  obtain ⟨_, ⟨rfl, h0⟩ | ⟨g, cap, cur, rfl, hb, hg, hnc, hcm, hcs, htk⟩⟩ := id ho
  · refine (Tryz.strings_Join_none none 0 _ w).mono ?_
    rintro e w' ⟨rfl, rfl⟩
    refine ⟨ret_s ?_, Ex.refl _⟩
    rw [← hR, h0]
    rfl
  · have hl := rowTs_len f (tlen f)
    have hgl : g < w.heap.size := by
      rcases Nat.lt_or_ge g w.heap.size with h' | h'
      · exact h'
      · simp [Array.getElem?_eq_none h'] at hg
    have hj := Tryz.strings_Join g 0 cap (rowTs f (tlen f)) ⟨#[59]⟩ w (fun j x hx => by
      have hjl : j < (rowTs f (tlen f)).length := by
        rcases Nat.lt_or_ge j (rowTs f (tlen f)).length with h | h
        · exact h
        · rw [List.getElem?_eq_none h] at hx; cases hx
      rw [World.ownsRow.cellAt ho (0 + j) (by omega)]
      rw [Nat.zero_add, List.getElem?_map, hx]; rfl) hgl (by omega) (by omega) hlen
    rw [hl] at hj
    refine hj.mono ?_
    rintro e w' ⟨rfl, hx⟩
    exact ⟨ret_s hR, hx⟩

set_option maxRecDepth 100000 in
set_option maxHeartbeats 4000000 in
theorem termsText_any (f : TM) (a : Option Addr) (c : Nat) (w : World) (h : TOk 8 f) (hz : tW f ≤ 1048576) (hM : MA w 0 f a) (ht : Tab w) :
    Calls Tryz.prog 33 #[.slice a (tlen f) c] w fun e w' => e = .returned (.string (rowsX f)) ∧ Ex w w' := by
  have M : Hid (∀ w', Ex w w' → MA w' 0 f a) := fun _ h => MA_below hM h
  have HK : Hid (∀ j, j < tlen f → ∀ (pa' : Option Addr) (pc' : Nat) (a' : Option Addr) (c' : Nat) (w' : World), Ex w w' → PA w' 0 (tpath f j) pa' → MA w' 0 (tkid f j) a' → Calls Tryz.prog 47 #[.agg #[.int .i64 (tkind f j), .int .i64 (tnum f j), .string (tname f j), .slice pa' (tpath f j).length pc', .slice a' (tlen (tkid f j)) c']] w' fun e w'' => e = .returned (.string (kidX 8 f j)) ∧ Ex w' w'') := fun j hj pa' pc' a' c' w' hx q1 q2 =>
    termText_any 8 _ _ _ _ pa' pc' _ a' c' w' (h j hj) (Nat.le_trans (tW_kid hj) hz) (by have := tWk_le hj; have e2 : tWk f j = (tname f j).size + (tpath f j).length + tW (tkid f j) := rfl; omega) q1 q2 (ht.ex hx)
  have SZ : Hid (∀ j, j < tlen f → (kidX 8 f j).size ≤ 10000000) := fun j hj => kidX_size h hz hj
  have hln : tlen f ≤ 1048576 := by rw [tW_sum] at hz; omega
  have HL : Hid ((Lib.join ((rowTs f (tlen f)).map (·.data.toList)) [59]).length ≤ 140737488355328) := by
    show _ ≤ _
    rw [join_rows]
    have := rowsX_size h
    have e : (upX (rowX f) (tlen f)).data.toList.length = (rowsX f).size := Array.length_toList
    omega
  have HJ : Hid (⟨(Lib.join ((rowTs f (tlen f)).map (·.data.toList)) [59]).toArray⟩ = rowsX f) := join_rowsX f
  obtain ⟨i0, hi, hz0, hz1, hz2⟩ := info_parts infoText
  generalize rowsX f = R at HJ ⊢
  clear h hz hM ht
  go_enter Tryz.func33, Tryz.ntmps33
  go_wp2_with fail
  go_loopw [3, 5, 8] (fun ov _ i wr => ∃ (j : Nat), j ≤ tlen f ∧ i = .int .i64 j ∧ wr.ownsRow w.heap.size 9 1 ov j ((rowTs f j).map Value.string) ∧ Ex w wr) (fun _ _ i _ => tlen f - (intOf i).toNat)
  case atStart => exact ⟨0, by omega, rfl, World.ownsRow_nil _ _ _ _, Ex.refl _⟩
  case round =>
    obtain ⟨j, hj, rfl, hown, hx⟩ := hrel
    have E : Hid (Ex w wr) := hx
    have O : Hid _ := hown
    clear hx
    by_cases hlt : j < tlen f
    · obtain ⟨b, o, rfl, _, hbs, hk⟩ := MA_at (M.out wr E.out) (by omega)
      obtain ⟨e0, e1, e2, ⟨pa', pc', e3, hp'⟩, a', c', e4, hm'⟩ := hk j hlt
      have HI : Hid _ := HK.out j hlt pa' pc' a' c' (wr.alloc (.cells #[.int .i64 (tkind f j), .int .i64 (tnum f j), .string (tname f j), .slice pa' (tpath f j).length pc', .slice a' (tlen (tkid f j)) c'] 83)) (E.out.trans (Ex.new _ _)) (PA_below (PS_pa.1 hp') (Ex.new _ _)) (MA_below hm' (Ex.new _ _))
      have hs := SZ.out j hlt
      have HU : Hid ((rowTs f (j + 1)).map Value.string = (rowTs f j).map Value.string ++ [Value.string (⟨#[32]⟩ ++ kidX 8 f j)]) := by show _ = _; rw [rowTs_succ, List.map_append]; rfl
      generalize kidX 8 f j = x at hs HU HI
      have n1 : ¬ 9223372036854775807 < 1 + x.size := by omega
      obtain ⟨av, ac, rfl, _⟩ := own_texts hown (by rw [rowTs_len])
      rw [rowTs_len] at *
      clear hk hp' hm' hs hown
      go_wp2_with fail
      refine Calls.mono HI.out ?_
      rintro e w2 ⟨rfl, hb2⟩
      have E1 : Hid (Ex w w2) := E.out.trans ((Ex.new _ _).trans hb2)
      have O2 : Hid _ := row_ex O.out ((Ex.new _ _).trans hb2)
      have O3 : Hid ((w2.alloc (.cells #[.string (⟨#[32]⟩ ++ x)] 9)).ownsRow w.heap.size 9 1 (.slice av j ac) j ((rowTs f j).map Value.string)) := row_ex O2.out (Ex.new _ _)
      have E2 : Hid (Ex w (w2.alloc (.cells #[.string (⟨#[32]⟩ ++ x)] 9))) := E1.out.trans (Ex.new _ _)
      have C2 : Hid ((w2.alloc (.cells #[.string (⟨#[32]⟩ ++ x)] 9)).cell? ⟨w2.heap.size, 0, none⟩ = some (.string (⟨#[32]⟩ ++ x))) := World.cell?_alloc_new _ _ _ _
      have j6 : j ≤ 100000000 := by omega
      clear hb2 HI O O2
      go_wp2_with (at_builtin; refine wpList_append_one rfl _ _ 30 rfl w E2.out 9 i0 (.string ⟨#[]⟩) 16 Tryz.underlying30 hi hz0 hz1 hz2 rfl (by decide) (.slice av j ac) j ((rowTs f j).map Value.string) rfl O3.out w2.heap.size 0 1 (.string (⟨#[32]⟩ ++ x)) rfl C2.out rfl j6 ?_)
      intro v3 w3 hown3 hx3
      have O4 : Hid (w3.ownsRow w.heap.size 9 1 v3 (j + 1) ((rowTs f (j + 1)).map Value.string)) := by show World.ownsRow _ _ _ _ _ _ _; rw [HU.out]; exact hown3
      have E3 : Hid (Ex w w3) := hx3
      clear hown3 hx3 O3 E2 C2
      go_wp2_with fail
      go_roundw
      case rel => exact ⟨j + 1, by omega, by go_num, O4.out, E3.out⟩
      case measure => simp [intOf]; omega
    · have hje : j = tlen f := by omega
      subst hje
      have HJ3 : Hid _ := rows_join hln hown HJ.out HL.out
      obtain ⟨av, ac, rfl, _⟩ := own_texts hown (by rw [rowTs_len])
      rw [rowTs_len] at *
      clear hown
      go_wp2_with fail
      refine Calls.mono HJ3.out ?_
      rintro e w2 ⟨rfl, hb2⟩
      go_wp2_with fail
      go_ret
      exact ⟨rfl, E.out.trans hb2⟩

end Go.Proofs.YtpibamhkmmgooaaGreatDoor
