/- The law on one name more: at every code the law answers true and leaves all as it was: with a name that a drawn term does not have, put behind the names, what the term is of stays as it was. -/
import Derived.Test.YtldbmlojgakieaaDoorCards
import Derived.Test.YtldbmlojgakieaaDoorTie
import Derived.Test.YtldbmlojgakieaaDoorGO2
import Derived.Test.YtldbmlojgakieaaDoorGIS2
import Derived.WalkKit
import Derived.ProofKit
import Derived.OpenShut
import Derived.ChangeOld
import Derived.ChangeVars
import Derived.Below
import Derived.WalkSmall
import Derived.Lay
import Derived.LaidOnce
import Derived.SevenTiedAt
import Derived.MakeChecks
import Derived.RowKitTokens
import Derived.Stop.LaidErr
import Derived.Stop.LaidTwo
import Derived.Stop.ErrReads
import Derived.LaidLaws
namespace Go.Proofs.YtldbmlojgakieaaDoor.fnKindMore
open Go.ChangeShapes Go.WideShapes Go.ChangeAt Go.RowKit
set_option linter.unusedVariables false

theorem own : ownKnob Tryd.prog.godebug = none := by kernel_rfl
theorem laidOut : laidOutB Tryd.prog = true := by kernel_rfl
theorem star : "*" ++ "errors.errorString" = "*errors.errorString" := by decide
theorem rowPtr (u : TypeId) (h : Tryd.prog.typeName? 3 u = some "*errors.errorString") : u = 105 :=
  typeName_ptr_named (nm := "errors.errorString") (by rw [star]; kernel_rfl) (by kernel_rfl) (by decide) u (by rw [star]; exact h)
theorem glob0 : Tryd.prog.globalNamed "loop.example/handfast/impl.errNotAsked" = some 0 := by kernel_rfl
theorem gtype0 : (Tryd.prog.globals[0]?).map (·.type) = some 54 := by kernel_rfl
theorem glob1 : Tryd.prog.globalNamed "loop.example/handfast/impl.errNoType" = some 1 := by kernel_rfl
theorem gtype1 : (Tryd.prog.globals[1]?).map (·.type) = some 54 := by kernel_rfl
theorem row_by {w : World} {x : Addr} {len cap : Nat} {zs : List Int} (hl : len ≤ cap) (hm : cap ≤ maxLen) (hz : zs.length = cap) (hc : ∀ i, i < zs.length → w.cell? (x.add i) = some (.int .u8 (zs.getD i 0))) (hwf : ∀ n ∈ zs, (Lit.int .u8 n).wf = true) : By w len (some x) ∧ len ≤ cap ∧ cap ≤ 9223372036854775807 := by
  unfold maxLen at hm
  refine ⟨?_, hl, by omega⟩
  by_cases h0 : len = 0
  · exact Or.inl h0
  · obtain ⟨b, o, sp⟩ := x
    have h1 := hc 0 (by omega)
    have hs : sp = none := by simpa [Addr.add] using World.cell?_spot h1
    subst hs
    refine Or.inr ⟨b, o, rfl, fun i hi => ⟨zs.getD i 0, ?_, ?_⟩⟩
    · have := hc i (by omega)
      rwa [add_plain] at this
    · have hi' : i < zs.length := by omega
      exact bounds_u8 (hwf (zs.getD i 0) (by simp [List.getD, hi']))


set_option maxRecDepth 100000 in
theorem lifted (os : Os) (started : os.Started) (H : Type) (enc : TypeId × Value → H) :
    ReturnsInHanded {} Tryd.checked os 3 .any (fun w args => (Rows.fnKindMoreSpec.pre enc Tryd.prog Tryd.f3 [] false w args ∧ laidMetH Tryd.prog Rows.fnKindMoreRow.laid w) ∧ sizedMet enc Tryd.prog Tryd.f3 (OpenSpec.ofChange Rows.fnKindMoreSpec) false w args) (Rows.fnKindMoreSpec.post enc Tryd.prog Tryd.f3 false true false false) := by
  refine returnsInHanded_of_change_and (C := Tryd.checked) (X := fun w _ => laidMetH Tryd.prog Rows.fnKindMoreRow.laid w) (fun _ _ _ hh h => h.of_heap hh) own started (by kernel_rfl) Tryd.func3
    (ChangeSpec.witness_shaped (enc := enc) (C := Tryd.checked) (os := os) (X := fun w _ => laidMetH Tryd.prog Rows.fnKindMoreRow.laid w) false (World.laidAll Tryd.prog os Rows.fnKindMoreRow.laid) #[.slice none 0 0] 8 (World.laidAll_os _ _ _)
      (World.shaped_of_ZipB (by kernel_rfl) (by kernel_rfl)) (by kernel_rfl) (by kernel_rfl) (by kernel_rfl)
      (by rw [MakeChecks.laidMetH_plain _ _ _ (by kernel_rfl)]; exact laidMet_laidAll _ (by kernel_rfl) (by kernel_rfl))) ?_
  intro W base args ds gs before hval0 hW _ _ hL _
  have hval : ∀ (j : Nat) t v, Tryd.f3.params[j]? = some t → args[j]? = some v → Value.okWide Tryd.prog W .any base t v := hval0
  have hW' := hW
  obtain ⟨p, q, hA0, hV0, rfl, hfz, hnd⟩ := hW
  have hA : DataW.TrodAll enc Tryd.prog W 0 (fun _ => true) true Tryd.f3.params.toList args.toList ds p := hA0
  rw [Tryd.params3] at hA hval
  have hV : DataW.TrodVars enc Tryd.prog W (fun _ => true) ["loop.example/handfast/impl.errNotAsked", "loop.example/handfast/impl.errNoType"] gs q := hV0
  have hL' : laidMetH Tryd.prog Rows.fnKindMoreRow.laid W := hL
  rw [MakeChecks.laidMetH_plain _ _ _ (by kernel_rfl)] at hL'
  obtain ⟨ea0, ea1, s0, s1, cc0, cc1, ct0, ct1, hv0, hv1, _, _, _, _, _, _, hne01, hbk0, hbk1⟩ := laid_sentinels2 hL' glob0 gtype0 glob1 gtype1 Tryd.underlying54 rowPtr Tryd.underlying105 Tryd.underlying138 rfl rfl Tryd.underlying9 (by kernel_rfl) (by kernel_rfl)
  obtain ⟨rfl, rfl⟩ := hV.unique (vars_read2 enc glob0 gtype0 Tryd.underlying54 hv0 trivial glob1 gtype1 Tryd.underlying54 hv1 trivial _)
  have hG0 : W.cell? ⟨0, 0, none⟩ = some (EV ea0) := by simpa using World.var?_cell glob0 hv0 0
  have hG1 : W.cell? ⟨1, 0, none⟩ = some (EV ea1) := by simpa using World.var?_cell glob1 hv1 0
  have hTwo : Two ea0 ea1 W := ⟨hG0, hG1, hne01, ⟨cc0, ct0, hbk0⟩, ⟨cc1, ct1, hbk1⟩⟩
  obtain ⟨v0, vs0, d0, ds0, p0, q0, hargs, rfl, rfl, h0, r0⟩ := trodAll_cons hA
  obtain ⟨rfl, rfl, rfl⟩ := trodAll_nil r0
  obtain rfl : args = #[v0] := by cases args; simp_all
  have k0 := h0
  have lt0 : ∀ x ∈ p0, x.block < W.heap.size := by obtain ⟨m, hm⟩ := k0; exact DataW.trod_lt m _ _ _ hm
  obtain ⟨a0, len0, cap0, rfl⟩ := okWide_slice Tryd.underlying22 (hval 0 22 v0 rfl rfl)
  obtain ⟨hB0, hl0, hc0⟩ : By W len0 a0 ∧ len0 ≤ cap0 ∧ cap0 ≤ 9223372036854775807 := by
    obtain ⟨fuel, hf⟩ := h0
    rcases open_ints Tryd.underlying22 Tryd.underlying5 (by kernel_rfl) hf with ⟨hcs, _⟩ | ⟨x, l, c, zs, hcs, _, hl, hm, hz, _, hcell, hwz⟩
    · simp [Value.cells] at hcs
      obtain ⟨rfl, rfl, rfl⟩ := hcs
      exact ⟨Or.inl rfl, Nat.le_refl _, by omega⟩
    · simp [Value.cells] at hcs
      obtain ⟨rfl, rfl, rfl⟩ := hcs
      exact row_by hl hm (by simpa using hz) hcell hwz
  clear hA0 hval0
  refine (lawKindMore ea0 ea1 len0 cap0 a0 W hTwo hl0 hc0 hB0).mono fun e W' ⟨he, bel⟩ => ?_
  subst he
  exact ⟨_, rfl, _, _, _, [], _, [.cell 0 0, .cell 1 0], hW', trodAll_mk1 (shut_bool Tryd.underlying4 _), (trodAll_cons_mk (Below.trod laidOut (by kernel_rfl) (of_decide_eq_true (by kernel_rfl)) k0 bel lt0) trodAll_mk0), vars_read2 enc glob0 gtype0 Tryd.underlying54 (var?_below bel glob0 (World.block_lt_of_cell? _ _ hG0) hv0) trivial glob1 gtype1 Tryd.underlying54 (var?_below bel glob1 (World.block_lt_of_cell? _ _ hG1) hv1) trivial _, bel.frame _, fun h => by cases h⟩

theorem and_mk {a b : Bool} (h : a = true) (k : b = true) : (a && b) = true := by rw [h, k]; rfl
theorem fa0 : (fun (P : Program) (f : FuncId) (fn : Func) (s : ChangeSpec) (c : OpenClaim) => (c.wf (OpenSpec.ofChange s) : Bool)) Tryd.prog 3 Tryd.f3 Rows.fnKindMoreSpec Rows.fnKindMoreRow = true := by kernel_rfl
theorem fa1 : (fun (P : Program) (f : FuncId) (fn : Func) (s : ChangeSpec) (c : OpenClaim) => (laidOutB P : Bool)) Tryd.prog 3 Tryd.f3 Rows.fnKindMoreSpec Rows.fnKindMoreRow = true := by kernel_rfl
theorem fa2 : (fun (P : Program) (f : FuncId) (fn : Func) (s : ChangeSpec) (c : OpenClaim) => (mapsRowed P : Bool)) Tryd.prog 3 Tryd.f3 Rows.fnKindMoreSpec Rows.fnKindMoreRow = true := by kernel_rfl
theorem fa3 : (fun (P : Program) (f : FuncId) (fn : Func) (s : ChangeSpec) (c : OpenClaim) => (fn.params.all (P.readableRec ·) : Bool)) Tryd.prog 3 Tryd.f3 Rows.fnKindMoreSpec Rows.fnKindMoreRow = true := by kernel_rfl
theorem fa4 : (fun (P : Program) (f : FuncId) (fn : Func) (s : ChangeSpec) (c : OpenClaim) => (namedTie P c.named s.vars : Bool)) Tryd.prog 3 Tryd.f3 Rows.fnKindMoreSpec Rows.fnKindMoreRow = true := by kernel_rfl
theorem fa5 : (fun (P : Program) (f : FuncId) (fn : Func) (s : ChangeSpec) (c : OpenClaim) => ((c.stops == []) : Bool)) Tryd.prog 3 Tryd.f3 Rows.fnKindMoreSpec Rows.fnKindMoreRow = true := by kernel_rfl
theorem fa6 : (fun (P : Program) (f : FuncId) (fn : Func) (s : ChangeSpec) (c : OpenClaim) => ((P.stops == []) : Bool)) Tryd.prog 3 Tryd.f3 Rows.fnKindMoreSpec Rows.fnKindMoreRow = true := by kernel_rfl
theorem fa7 : (fun (P : Program) (f : FuncId) (fn : Func) (s : ChangeSpec) (c : OpenClaim) => ((c.knobs == []) : Bool)) Tryd.prog 3 Tryd.f3 Rows.fnKindMoreSpec Rows.fnKindMoreRow = true := by kernel_rfl
theorem fa8 : (fun (P : Program) (f : FuncId) (fn : Func) (s : ChangeSpec) (c : OpenClaim) => ((P.stopKnobs == []) : Bool)) Tryd.prog 3 Tryd.f3 Rows.fnKindMoreSpec Rows.fnKindMoreRow = true := by kernel_rfl
theorem fa9 : (fun (P : Program) (f : FuncId) (fn : Func) (s : ChangeSpec) (c : OpenClaim) => ((c.inPlace == P.inPlace f) : Bool)) Tryd.prog 3 Tryd.f3 Rows.fnKindMoreSpec Rows.fnKindMoreRow = true := by kernel_rfl
theorem fa10 : (fun (P : Program) (f : FuncId) (fn : Func) (s : ChangeSpec) (c : OpenClaim) => ((c.unfollowed == P.unfollowed f) : Bool)) Tryd.prog 3 Tryd.f3 Rows.fnKindMoreSpec Rows.fnKindMoreRow = true := by kernel_rfl
theorem fa11 : (fun (P : Program) (f : FuncId) (fn : Func) (s : ChangeSpec) (c : OpenClaim) => ((c.recurses == P.recurses f) : Bool)) Tryd.prog 3 Tryd.f3 Rows.fnKindMoreSpec Rows.fnKindMoreRow = true := by kernel_rfl
theorem fa12 : (fun (P : Program) (f : FuncId) (fn : Func) (s : ChangeSpec) (c : OpenClaim) => ((c.named == P.varsNamed f) : Bool)) Tryd.prog 3 Tryd.f3 Rows.fnKindMoreSpec Rows.fnKindMoreRow = true := by kernel_rfl
theorem fa13 : (fun (P : Program) (f : FuncId) (fn : Func) (s : ChangeSpec) (c : OpenClaim) => ((c.maps == (fn.params.toList ++ s.plain.varTypes P).any (P.mapsRec ·)) : Bool)) Tryd.prog 3 Tryd.f3 Rows.fnKindMoreSpec Rows.fnKindMoreRow = true := by kernel_rfl
theorem fa14 : (fun (P : Program) (f : FuncId) (fn : Func) (s : ChangeSpec) (c : OpenClaim) => ((c.ifaces == (fn.params.toList ++ s.plain.varTypes P).any (P.ifacesRec ·)) : Bool)) Tryd.prog 3 Tryd.f3 Rows.fnKindMoreSpec Rows.fnKindMoreRow = true := by kernel_rfl
theorem fa15 : (fun (P : Program) (f : FuncId) (fn : Func) (s : ChangeSpec) (c : OpenClaim) => ((c.mapsOut == P.mapsAmong fn.resultTypes.toList) : Bool)) Tryd.prog 3 Tryd.f3 Rows.fnKindMoreSpec Rows.fnKindMoreRow = true := by kernel_rfl
theorem fa16 : (fun (P : Program) (f : FuncId) (fn : Func) (s : ChangeSpec) (c : OpenClaim) => ((c.loops == (fn.params.toList ++ s.plain.varTypes P).any (P.loopsFrom ·)) : Bool)) Tryd.prog 3 Tryd.f3 Rows.fnKindMoreSpec Rows.fnKindMoreRow = true := by kernel_rfl
theorem fa17 : (fun (P : Program) (f : FuncId) (fn : Func) (s : ChangeSpec) (c : OpenClaim) => ((c.wideKeys == (fn.params.toList ++ s.plain.varTypes P ++ fn.resultTypes.toList).any (P.wideKeysFrom ·)) : Bool)) Tryd.prog 3 Tryd.f3 Rows.fnKindMoreSpec Rows.fnKindMoreRow = true := by kernel_rfl
theorem fa18 : (fun (P : Program) (f : FuncId) (fn : Func) (s : ChangeSpec) (c : OpenClaim) => (s.vars.all (P.varReadable ·) : Bool)) Tryd.prog 3 Tryd.f3 Rows.fnKindMoreSpec Rows.fnKindMoreRow = true := by kernel_rfl
theorem fa19 : (fun (P : Program) (f : FuncId) (fn : Func) (s : ChangeSpec) (c : OpenClaim) => (fn.resultTypes.all (fun t => P.readableRec t && decide (t < P.types.size)) : Bool)) Tryd.prog 3 Tryd.f3 Rows.fnKindMoreSpec Rows.fnKindMoreRow = true := by kernel_rfl
theorem fa20 : (fun (P : Program) (f : FuncId) (fn : Func) (s : ChangeSpec) (c : OpenClaim) => ((c.ifacesOut == fn.resultTypes.toList.any (P.ifacesRec ·)) : Bool)) Tryd.prog 3 Tryd.f3 Rows.fnKindMoreSpec Rows.fnKindMoreRow = true := by kernel_rfl
theorem fa21 : (fun (P : Program) (f : FuncId) (fn : Func) (s : ChangeSpec) (c : OpenClaim) => ((c.loopsOut == fn.resultTypes.toList.any (P.loopsFrom ·)) : Bool)) Tryd.prog 3 Tryd.f3 Rows.fnKindMoreSpec Rows.fnKindMoreRow = true := by kernel_rfl
theorem fa22 : (fun (P : Program) (f : FuncId) (fn : Func) (s : ChangeSpec) (c : OpenClaim) => ((c.plainKeys == P.plainKeys) : Bool)) Tryd.prog 3 Tryd.f3 Rows.fnKindMoreSpec Rows.fnKindMoreRow = true := by kernel_rfl
theorem fa23 : (fun (P : Program) (f : FuncId) (fn : Func) (s : ChangeSpec) (c : OpenClaim) => (c.shortTexts.isNone : Bool)) Tryd.prog 3 Tryd.f3 Rows.fnKindMoreSpec Rows.fnKindMoreRow = true := by kernel_rfl
theorem fa24 : (fun (P : Program) (f : FuncId) (fn : Func) (s : ChangeSpec) (c : OpenClaim) => (P.stopsHeard : Bool)) Tryd.prog 3 Tryd.f3 Rows.fnKindMoreSpec Rows.fnKindMoreRow = true := by kernel_rfl
theorem fa25 : (fun (P : Program) (f : FuncId) (fn : Func) (s : ChangeSpec) (c : OpenClaim) => (P.mayEnter : Bool)) Tryd.prog 3 Tryd.f3 Rows.fnKindMoreSpec Rows.fnKindMoreRow = true := by kernel_rfl
theorem fa26 : (fun (P : Program) (f : FuncId) (fn : Func) (s : ChangeSpec) (c : OpenClaim) => ((c.lifted == P.liftsFinal) : Bool)) Tryd.prog 3 Tryd.f3 Rows.fnKindMoreSpec Rows.fnKindMoreRow = true := by kernel_rfl
theorem fa27 : (fun (P : Program) (f : FuncId) (fn : Func) (s : ChangeSpec) (c : OpenClaim) => ((P.make == some c.make) : Bool)) Tryd.prog 3 Tryd.f3 Rows.fnKindMoreSpec Rows.fnKindMoreRow = true := by kernel_rfl
theorem fa28 : (fun (P : Program) (f : FuncId) (fn : Func) (s : ChangeSpec) (c : OpenClaim) => ((c.kinds == (if c.domain.isEmpty then [] else fn.params.toList.map fun t => match P.underlying t with | some (.int k) => some k | _ => none)) : Bool)) Tryd.prog 3 Tryd.f3 Rows.fnKindMoreSpec Rows.fnKindMoreRow = true := by kernel_rfl
theorem fa29 : (fun (P : Program) (f : FuncId) (fn : Func) (s : ChangeSpec) (c : OpenClaim) => ((c.pinned == c.pinnedBy) : Bool)) Tryd.prog 3 Tryd.f3 Rows.fnKindMoreSpec Rows.fnKindMoreRow = true := by kernel_rfl
theorem fa30 : (fun (P : Program) (f : FuncId) (fn : Func) (s : ChangeSpec) (c : OpenClaim) => ((c.veiled == (fn.params.toList ++ s.plain.varTypes P ++ fn.resultTypes.toList).any (P.veiledRec ·)) : Bool)) Tryd.prog 3 Tryd.f3 Rows.fnKindMoreSpec Rows.fnKindMoreRow = true := by kernel_rfl
theorem fa31 : (fun (P : Program) (f : FuncId) (fn : Func) (s : ChangeSpec) (c : OpenClaim) => (c.veiledFits P fn.params.toList (fn.params.toList ++ s.plain.varTypes P ++ fn.resultTypes.toList) : Bool)) Tryd.prog 3 Tryd.f3 Rows.fnKindMoreSpec Rows.fnKindMoreRow = true := by kernel_rfl
set_option maxRecDepth 100000 in
theorem closed : joinedFacts Tryd.prog 3 Tryd.f3 Rows.fnKindMoreSpec Rows.fnKindMoreRow = true := (and_mk (and_mk (and_mk (and_mk (and_mk (and_mk (and_mk (and_mk (and_mk (and_mk (and_mk (and_mk (and_mk (and_mk (and_mk (and_mk (and_mk (and_mk (and_mk (and_mk (and_mk (and_mk (and_mk (and_mk (and_mk (and_mk (and_mk (and_mk (and_mk (and_mk (and_mk fa0 fa1) fa2) fa3) fa4) fa5) fa6) fa7) fa8) fa9) fa10) fa11) fa12) fa13) fa14) fa15) fa16) fa17) fa18) fa19) fa20) fa21) fa22) fa23) fa24) fa25) fa26) fa27) fa28) fa29) fa30) fa31)
theorem wrapped : Tryd.f3.isWrapper Tryd.prog Rows.fnKindMoreRow.wrapper Rows.fnKindMoreRow.mainSum := by unfold Func.isWrapper; rw [if_neg (of_decide_eq_false (by kernel_rfl))]; exact ⟨rfl, rfl⟩

theorem over : Rows.fnKindMoreRow.holds Tryd.pinned (OpenSpec.ofChange Rows.fnKindMoreSpec) :=
  OpenClaim.holds_of_wide 3 Tryd.f3 rfl rfl rfl rfl rfl rfl rfl ⟨rfl, rfl, rfl, rfl, rfl⟩ rfl rfl rfl rfl rfl (by kernel_rfl) Tryd.func3 closed
    (of_decide_eq_true (by kernel_rfl)) wrapped
    (fun os started H enc _ => lifted os started H enc)

theorem proved : Rows.FnKindMoreCardSaid :=
  Claim7.holds_tied_plain_at .later [] [.sentinel, .sentinel] true (true, "6fa118b4c74c7fd3f0ffa75a748438caaf41bd2e45b937357ce805746370a2ea") true over (fun _ h => by cases h) (by kernel_rfl) (fun _ h => by cases h) fnKindMore_row_tie rfl ⟨rfl, rfl⟩ (by kernel_rfl) rfl
    (fun f fn hf hfn => by
      obtain rfl : f = 3 := Option.some.inj ((show Tryd.prog.funcNamed "loop.example/handfast/laws.FnKindMore" = some 3 by kernel_rfl).symm.trans hf) |>.symm
      obtain rfl : fn = Tryd.f3 := (Option.some.inj (Tryd.func3.symm.trans hfn)).symm
      exact ⟨by kernel_rfl, fun j t ht => by
        rw [Tryd.params3] at ht
        have hm : t ∈ [22] := by simpa using Array.mem_of_getElem? ht
        have hall : ([22].all fun u => !Tryd.prog.wantsStandIn u) = true := by kernel_rfl
        exact (show Tryd.prog.wantsStandIn t = false by simpa using List.all_eq_true.1 hall t hm)⟩)
    (by kernel_rfl)
#print axioms proved
end Go.Proofs.YtldbmlojgakieaaDoor.fnKindMore
