/- From the rows' nine listed variables to what the walks of package run read; and a memory in which they lie. -/
import Derived.Test.YtgngdabfmbipaakGreatDoorRows
import Derived.Test.YtgngdabfmbipaakGreatDoorKRunLib
import Derived.ChangeSame
import Derived.ChangeVars
import Derived.JoinedOf
import Derived.RowKit
import Derived.RowKitTokens
import Derived.LaidLaws
import Derived.LaidHandle
import Derived.LaidMore
import Derived.Lay
import Derived.Stop.LaidErr
import Derived.Stop.Joined
import Derived.Shelf.Vars
import Derived.SizedLaws
namespace Go.Proofs.YtgngdabfmbipaakGreatDoor
open Go.ChangeShapes Go.WideShapes Go.RowKit
set_option linter.unusedVariables false
/-- What the rows list: the data, the pinned table and the errors; and the type's handle. -/
def laidRest : List (String × DataW Unit) := [("math/bits.deBruijn32tab", Rows.laid_math_bits_deBruijn32tab), ("math/bits.deBruijn64tab", Rows.laid_math_bits_deBruijn64tab), ("internal/strconv.uint64pow10", Rows.laid_internal_strconv_uint64pow10), ("unicode/utf8.acceptRanges", Rows.laid_unicode_utf8_acceptRanges), ("strconv.ErrRange", Rows.laid_strconv_ErrRange), ("strconv.ErrSyntax", Rows.laid_strconv_ErrSyntax), ("pairstone/run.errBad", Rows.laid_pairstone_run_errBad), ("unicode/utf8.first", Rows.laid_unicode_utf8_first)]
def laidHead : List (String × DataW Unit) := [("errors.errorType", Rows.laid_errors_errorType)]
def laidList : List (String × DataW Unit) := [("math/bits.deBruijn32tab", Rows.laid_math_bits_deBruijn32tab), ("math/bits.deBruijn64tab", Rows.laid_math_bits_deBruijn64tab), ("internal/strconv.uint64pow10", Rows.laid_internal_strconv_uint64pow10), ("unicode/utf8.acceptRanges", Rows.laid_unicode_utf8_acceptRanges), ("errors.errorType", Rows.laid_errors_errorType), ("strconv.ErrRange", Rows.laid_strconv_ErrRange), ("strconv.ErrSyntax", Rows.laid_strconv_ErrSyntax), ("pairstone/run.errBad", Rows.laid_pairstone_run_errBad), ("unicode/utf8.first", Rows.laid_unicode_utf8_first)]
theorem laid_handles : (laidList.filter fun x => x.2.handleName?.isSome) = laidHead := by kernel_rfl
theorem laid_others : (laidList.filter fun x => x.2.handleName?.isNone) = laidRest := by kernel_rfl
theorem Tryz.own : ownKnob Tryz.prog.godebug = none := by kernel_rfl
theorem Tryz.et : Tryz.prog.globalNamed "errors.errorType" = some 1 := by kernel_rfl
theorem Tryz.rt : (Tryz.prog.cutTypes.find? (·.1 == "internal/reflectlite.rtype")).map (·.2) = some 168 := by kernel_rfl
theorem Tryz.oneRow : ((List.range 253).filter fun t => Tryz.prog.rowNamed t [101, 114, 114, 111, 114]) = [30] := by kernel_rfl
theorem Tryz.size : Tryz.prog.types.size = 253 := by kernel_rfl
theorem door_of_handles {W : World} (h : handlesMet Tryz.prog laidHead W) : Door W := by
  obtain ⟨name, u, ty, e1, e2, e3, e4, e5⟩ := h _ (List.mem_singleton.2 rfl)
  have en : name = [101, 114, 114, 111, 114] := (Option.some.inj e1).symm
  subst en
  obtain rfl := Option.some.inj (Tryz.rt.symm.trans e2)
  have hm : ty ∈ (List.range 253).filter fun t => Tryz.prog.rowNamed t [101, 114, 114, 111, 114] := List.mem_filter.2 ⟨List.mem_range.2 (by rw [← Tryz.size]; exact e3), e4⟩
  rw [Tryz.oneRow] at hm
  obtain rfl := List.mem_singleton.1 hm
  have hh : typeHandle Tryz.prog 30 = .pointer (some ⟨15, 30, none⟩) := by kernel_rfl
  rw [hh] at e5
  have e6 := World.var?_cell Tryz.et e5 0
  unfold Door
  simpa using e6
theorem Tryz.star : "*" ++ "errors.errorString" = "*errors.errorString" := by decide
theorem Tryz.rowErr (u : TypeId) (h : Tryz.prog.typeName? 3 u = some "*errors.errorString") : u = 214 :=
  typeName_ptr_named (nm := "errors.errorString") (by rw [Tryz.star]; kernel_rfl) (by kernel_rfl) (by decide) u (by rw [Tryz.star]; exact h)
/-- An error that is listed: where its text lies. -/
theorem err_of_laid {W : World} {n : String} {text : List UInt8} {r : List (String × DataW Unit)} {g : Nat} (h : laidMet Tryz.prog ((n, .iface "*errors.errorString" (.ptr (.agg [.lit (.string text)]))) :: r) W)
    (hg : Tryz.prog.globalNamed n = some g) (ht : (Tryz.prog.globals[g]?).map (·.type) = some 30) :
    ∃ (a : Addr) (s : ByteArray), W.cell? ⟨g, 0, none⟩ = some (.iface 214 (.pointer (some a))) ∧ W.cell? a = some (.string s) ∧ s.data.toList = text := by
  obtain ⟨a, s, h1, h2, h3, _⟩ := laid_sentinel h hg ht Tryz.underlying30 Tryz.rowErr Tryz.underlying214 Tryz.underlying216 rfl rfl Tryz.underlying9 (by kernel_rfl) (by kernel_rfl)
  exact ⟨a, s, by simpa using World.var?_cell hg h1 0, h2, h3⟩
theorem pow10_is : (Rows.laid_internal_strconv_uint64pow10 : DataW Unit) = Lib.tabData .u64 Lib.pow10Tab := by kernel_rfl
/-- What the walks read: all lies as it is laid. -/
theorem lie_of_laid {W : World} (h : laidMetH Tryz.prog laidList W) (hs : W.ShapedOpen Tryz.prog) : ∃ a, Lie a W := by
  unfold laidMetH at h
  rw [laid_handles, laid_others] at h
  have h' : laidMet Tryz.prog laidRest W ∧ handlesMet Tryz.prog laidHead W := h
  clear h
  obtain ⟨h0, hh⟩ := h'
  unfold laidRest at h0
  have h3 := h0.tail.tail
  have h5 := h3.tail.tail
  have h6 := h5.tail
  have h7 := h6.tail
  rw [pow10_is] at h3
  have tab := Lib.tabIs_of_head Tryz.gPow (t := 192) (by kernel_rfl) Tryz.underlying192 Tryz.underlying130 (by kernel_rfl) (by kernel_rfl) h3
  obtain ⟨a5, s5, c5, _, _⟩ := err_of_laid h5 (g := 5) (by kernel_rfl) (by kernel_rfl)
  obtain ⟨a6, s6, c6, _, _⟩ := err_of_laid h6 (g := 4) (by kernel_rfl) (by kernel_rfl)
  obtain ⟨a, s, c7, d7, e7⟩ := err_of_laid h7 (g := 0) (by kernel_rfl) (by kernel_rfl)
  have es : s = ⟨#[98, 97, 100]⟩ := ByteArray.ext (Array.ext' e7)
  subst es
  have hm := cell_of_shapedOpen_int (P := Tryz.prog) (g := 2) (t := 3) (zero := #[.int .i64 0]) hs (of_decide_eq_true (by kernel_rfl)) (by kernel_rfl) rfl (by kernel_rfl) (by kernel_rfl) Tryz.underlying3
  exact ⟨a, door_of_handles hh, tab, ⟨_, _, c6⟩, ⟨_, _, c5⟩, ⟨c7, d7⟩, hm⟩
/-- The settled memory with the handle laid .. -/
noncomputable def laidBase (os : Os) : World :=
  { World.holding Tryz.prog os ⟨#[], #[], []⟩ with heap := (World.holding Tryz.prog os ⟨#[], #[], []⟩).heap.modify 1 fun
      | .cells _ t frozen => .cells #[.iface 168 (.agg #[.pointer (some ⟨15, 30, none⟩)])] t frozen
      | o => o }
/-- .. and all the others. -/
noncomputable def laidStart (os : Os) : World := (laidBase os).layVars Tryz.prog laidRest
theorem laidStart_os (os : Os) : (laidStart os).os = os := World.layVars_os _ _ _
theorem laid_met (os : Os) (args : Array Value) : laidMetH Tryz.prog laidList ((laidStart os).forCall (fun _ _ => 0) ⟨#[], args, []⟩).memory := by
  have e1 : (laidRest.filter fun x => (laidRest.map (·.1)).contains x.1) = laidRest := by kernel_rfl
  have e2 : (laidRest.filter fun x => !(laidRest.map (·.1)).contains x.1) = [] := by kernel_rfl
  have h : laidMet Tryz.prog laidRest (laidStart os) := laidMet_layVars (w0 := laidBase os) (laidRest.map (·.1)) [] (by rw [e1]; rfl) (by rw [e1]; kernel_rfl) (by rw [e1]; kernel_rfl) (by rw [e2]; exact LaidIn.none)
  refine laidMetH_of_parts ?_ (by kernel_rfl)
  rw [laid_others]
  exact h.of_heap (by simp [World.memory, World.forCall, Input.heap])
theorem laid_shaped (os : Os) (args : Array Value) : ((laidStart os).forCall (fun _ _ => 0) ⟨#[], args, []⟩).Shaped Tryz.prog := World.shaped_of_ZipB (by kernel_rfl) (by kernel_rfl)
section
variable {H : Type} {enc : TypeId × Value → H}
/-- The builder of a row: what the walk is handed is what the row lists, and the memory's shape. -/
theorem returns_of_lists {C : Checked} {list : List (String × DataW Unit)} {os : Os} {f : FuncId} {fn : Func} {s : ChangeSpec} {conds : List PathCond} {apart fresh handsOn again : Bool} (own : ownKnob C.prog.godebug = none) (started : os.Started) (noInit : C.prog.inits.idxOf? f = none) (hfn : C.prog.funcs[f]? = some fn)
    (witness : ∃ (w : World) (tape : Tape) (i : Input), w.os = os ∧ (w.forCall tape i).Shaped C.prog ∧ i.vars = [] ∧ Input.okWide C.prog (w.forCall tape i) .any w.heap.size f i ∧
      ((s.pre enc C.prog fn conds apart (w.forCall tape i).memory i.args ∧ laidMetH C.prog list (w.forCall tape i).memory) ∧ sizedMet enc C.prog fn (OpenSpec.ofChange s) apart (w.forCall tape i).memory i.args) ∧ ({} : Assume).holds C.prog (lone (Frame.enter C.prog f i.args .normal) [] (w.forCall tape i)))
    (contract : ∀ (W : World) (base : Nat) (args : Array Value) (ds gs : List (DataW H)) (before : List MemPlace),
      (∀ (j : Nat) t v, fn.params[j]? = some t → args[j]? = some v → Value.okWide C.prog W .any base t v) →
      DataW.Whole enc C.prog fn.params.toList s.vars apart W args.toList ds gs before →
      (DataW.weightsEach C.prog (fn.params.toList ++ s.plain.varTypes C.prog) (ds ++ gs)).all (· ≤ reachBytes) = true → laidMetH C.prog list W → W.ShapedOpen C.prog →
      Calls C.prog f args W fun e W' => ∃ v, e = .returned v ∧ s.post enc C.prog fn apart fresh handsOn again W args v W') :
    ReturnsInHanded {} C os f .any (fun w args => (s.pre enc C.prog fn conds apart w args ∧ laidMetH C.prog list w) ∧ sizedMet enc C.prog fn (OpenSpec.ofChange s) apart w args) (s.post enc C.prog fn apart fresh handsOn again) := by
  refine returnsInHanded_of_calls own started noInit witness ?_
  intro w tape i _ hsh _ ⟨_, _, _, fn', hfn', _, _, _, _, hval⟩ ⟨⟨⟨ds, gs, before, hw, _⟩, hx⟩, hz⟩ _
  obtain rfl : fn' = fn := Option.some.inj (hfn'.symm.trans hfn)
  have hh : (w.forCall tape i).memory.heap = (w.forCall tape i).heap := rfl
  refine (contract (w.forCall tape i) w.heap.size i.args ds gs before hval (DataW.Whole.of_heap (w' := w.forCall tape i) hh hw) (hz.weights hw) (hx.of_heap hh) hsh).mono fun e W' ⟨v, he, hp⟩ => ?_
  subst he
  exact ChangeSpec.post_blind hp
end
end Go.Proofs.YtgngdabfmbipaakGreatDoor
