/- A law whose row lists the library's tables and error variables, in a world of the program's shape: what the walk is given. -/
import Derived.Test.YtbifkjmmhfnblaaDoorErrS
import Derived.Test.YtbifkjmmhfnblaaDoorSplI
import Derived.HandedShaped
import Derived.Handed
namespace Go.Proofs.YtbifkjmmhfnblaaDoor.Ints
open Go.RowKit
set_option linter.unusedVariables false
set_option linter.unusedSimpArgs false
theorem maxV_of_shape {w : World} (h : w.ShapedOpen Tryd.prog) : MaxV w := Tryd.laysM146.s1_3 w h
/-- The kit's step from a contract to a row, with a condition beside it and the world's shape. -/
theorem handed_and_shape {H : Type} {enc : TypeId × Value → H} {a : Assume} {C : Checked} {os : Os} {f : FuncId} {fn : Func} {s : ChangeSpec} {conds : List PathCond} {ap fr hd ag : Bool} {X : World → Array Value → Prop}
    (hX : ∀ (w w' : World) (xs : Array Value), w.heap = w'.heap → X w xs → X w' xs) (own : ownKnob C.prog.godebug = none) (st : os.Started) (nI : C.prog.inits.idxOf? f = none) (hf : C.prog.funcs[f]? = some fn)
    (wit : ∃ (w : World) (tp : Tape) (i : Input), w.os = os ∧ (w.forCall tp i).Shaped C.prog ∧ i.vars = [] ∧ Input.okWide C.prog (w.forCall tp i) .any w.heap.size f i ∧
      ((s.pre enc C.prog fn conds ap (w.forCall tp i).memory i.args ∧ X (w.forCall tp i).memory i.args) ∧ sizedMet enc C.prog fn (OpenSpec.ofChange s) ap (w.forCall tp i).memory i.args) ∧ a.holds C.prog (lone (Frame.enter C.prog f i.args .normal) [] (w.forCall tp i)))
    (con : ∀ (W : World) (base : Nat) (xs : Array Value) (ds gs : List (DataW H)) (before : List MemPlace),
      (∀ (j : Nat) t v, fn.params[j]? = some t → xs[j]? = some v → Value.okWide C.prog W .any base t v) → DataW.Whole enc C.prog fn.params.toList s.vars ap W xs.toList ds gs before →
      X W xs → W.ShapedOpen C.prog → Calls C.prog f xs W fun e W' => ∃ v, e = .returned v ∧ s.post enc C.prog fn ap fr hd ag W xs v W') :
    ReturnsInHanded a C os f .any (fun w xs => (s.pre enc C.prog fn conds ap w xs ∧ X w xs) ∧ sizedMet enc C.prog fn (OpenSpec.ofChange s) ap w xs) (s.post enc C.prog fn ap fr hd ag) := by
  refine returnsInHanded_of_calls own st nI wit ?_
  rintro w tp i - hsh - ⟨_, _, _, fn', hf', _, _, _, _, hv⟩ ⟨⟨⟨ds, gs, before, hw, _⟩, hx⟩, _⟩ _
  obtain rfl : fn' = fn := Option.some.inj (hf'.symm.trans hf)
  refine (con (w.forCall tp i) w.heap.size i.args ds gs before hv (DataW.Whole.of_heap (w' := w.forCall tp i) (by rfl) hw) (hX _ _ _ (by rfl) hx) hsh).mono ?_
  rintro e W' ⟨v, rfl, hp⟩
  exact ChangeSpec.post_blind hp
/-! The seven listed variables. -/
abbrev laid7 : List (String × DataW Unit) := [("math/bits.deBruijn32tab", Rows.laid_math_bits_deBruijn32tab), ("math/bits.deBruijn64tab", Rows.laid_math_bits_deBruijn64tab), ("internal/strconv.uint64pow10", Rows.laid_internal_strconv_uint64pow10), ("unicode/utf8.acceptRanges", Rows.laid_unicode_utf8_acceptRanges), ("strconv.ErrRange", Rows.laid_strconv_ErrRange), ("strconv.ErrSyntax", Rows.laid_strconv_ErrSyntax), ("unicode/utf8.first", Rows.laid_unicode_utf8_first)]
set_option maxRecDepth 100000 in
theorem met7 {W : World} (h : laidMetH Tryd.prog laid7 W) : laidMet Tryd.prog laid7 W := by
  rw [MakeChecks.laidMetH_plain _ _ _ (by kernel_rfl)] at h
  exact h
set_option maxRecDepth 100000 in
theorem tabV_of_laid7 {W : World} (h : laidMetH Tryd.prog laid7 W) : TabV W := by
  have h2 := (met7 h).tail.tail
  rw [tab_eq] at h2
  exact Lib.tabIs_of_head tab_glob (t := 190) (e := 157) (n := 20) (by kernel_rfl) Tryd.underlying190 Tryd.underlying157 (by kernel_rfl) (by kernel_rfl) h2
set_option maxRecDepth 100000 in
theorem errV_of_laid7 {W : World} (h : laidMetH Tryd.prog laid7 W) : ErrV W :=
  ⟨var_iface es_glob (t := 73) (by kernel_rfl) Tryd.underlying73 (met7 h).tail.tail.tail.tail.tail, var_iface er_glob (t := 73) (by kernel_rfl) Tryd.underlying73 (met7 h).tail.tail.tail.tail⟩
end Go.Proofs.YtbifkjmmhfnblaaDoor.Ints
