/- Contracts of ReverseWord, of the model and of the program. -/
import Derived.Test.YtknlpoeolicinaaRev
namespace Go.Proofs.Ytknlpoeolicinaa.Ints
open Go.RowKit
set_option linter.unusedVariables false
noncomputable def rvL (zs : List Int) : List Int := if wordB zs = true then zs.reverse else []
noncomputable def rvC (zs : List Int) : Int := if wordB zs = true then 0 else 1
theorem specReverseWord (v : Value) (zs : List Int) (w : World) (h : Rd w v zs) :
    Calls Try.prog 19 #[v] w fun e w' => ∃ u, e = .returned (.tuple #[u, .int .i64 (rvC zs)]) ∧ Ow w' w.heap.size w'.heap.size u (rvL zs) ∧ Below w.heap.size w w' := by
  have H := Lib.hid h
  clear h
  cases hn : wordB zs with
  | false =>
    have HN := Lib.hid hn
    have e : Hid (rvL zs = [] ∧ rvC zs = 1) := Lib.hid (by simp [rvL, rvC, hn])
    clear hn
    go_enter Try.func19, Try.ntmps19
    go_wp2_with (go_at_call 44; refine (specWord _ zs _ H.out).mono ?_; rintro e w' ⟨rfl, rfl⟩; rw [HN.out])
    go_ret2
    exact ⟨_, by rw [e.out.2] <;> rfl, by rw [e.out.1]; exact Ow.empty w, Below.refl _ _⟩
  | true =>
    have HN := Lib.hid hn
    have e : Hid (rvL zs = zs.reverse ∧ rvC zs = 0) := Lib.hid (by simp [rvL, rvC, hn])
    clear hn
    go_enter Try.func19, Try.ntmps19
    go_wp2_with (first | (go_at_call 44; refine (specWord _ zs _ H.out).mono ?_; rintro e w' ⟨rfl, rfl⟩; rw [HN.out]) | (go_at_call 46; refine (specRev _ zs _ H.out).mono ?_; rintro e w' ⟨u, rfl, ho, hb⟩; have HO := Lib.hid ho; have HB := Lib.hid hb; clear ho hb))
    go_ret2
    exact ⟨_, by rw [e.out.2] <;> rfl, by rw [e.out.1]; exact HO.out, HB.out⟩
theorem implReverseWord (v : Value) (zs : List Int) (w : World) (h : Rd w v zs) :
    Calls Try.prog 20 #[v] w fun e w' => ∃ u, e = .returned (.tuple #[u, .int .i64 (rvC zs)]) ∧ Ow w' w.heap.size w'.heap.size u (rvL zs) ∧ Below w.heap.size w w' := by
  have H := Lib.hid h
  clear h
  cases hn : wordB zs with
  | false =>
    have HN := Lib.hid hn
    have e : Hid (rvL zs = [] ∧ rvC zs = 1) := Lib.hid (by simp [rvL, rvC, hn])
    clear hn
    go_enter Try.func20, Try.ntmps20
    go_wp2_with (go_at_call 17; refine (implWord _ zs _ H.out).mono ?_; rintro e w' ⟨rfl, hb⟩; rw [HN.out]; have HB := Lib.hid hb; clear hb)
    go_ret2
    exact ⟨_, by rw [e.out.2] <;> rfl, by rw [e.out.1]; exact Ow.emptyUp HB.out.size, HB.out⟩
  | true =>
    have HN := Lib.hid hn
    have e : Hid (rvL zs = zs.reverse ∧ rvC zs = 0) := Lib.hid (by simp [rvL, rvC, hn])
    clear hn
    go_enter Try.func20, Try.ntmps20
    go_wp2_with (first | (go_at_call 17; refine (implWord _ zs _ H.out).mono ?_; rintro e w' ⟨rfl, hb⟩; rw [HN.out]; have HB := Lib.hid hb; clear hb) | (go_at_call 62; refine (libClone _ zs _ (H.out.below HB.out (Nat.le_refl _))).mono ?_; rintro e w2 ⟨u, rfl, ho, hb⟩; have HO := Lib.hid ho; have HB2 := Lib.hid (HB.out.trans (hb.mono HB.out.size)); have HS := Lib.hid HB.out.size; clear ho hb) | (go_at_call 60; refine (libReverse _ zs _ _ _ HO.out).mono ?_; rintro e w3 ⟨rfl, ho, hg⟩; have HB3 := Lib.hid (HB2.out.trans (hg.mono HS.out)); have HO2 := Lib.hid ho; clear ho hg) | go_in)
    go_ret2
    exact ⟨_, by rw [e.out.2] <;> rfl, by rw [e.out.1]; exact HO2.out.mono HS.out HO2.out.size (Nat.le_refl _), HB3.out⟩
end Go.Proofs.Ytknlpoeolicinaa.Ints
