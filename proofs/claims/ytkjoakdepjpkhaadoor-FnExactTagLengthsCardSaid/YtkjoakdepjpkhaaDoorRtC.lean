/- The run of a tag system (plain lemmas). (gen_rt.py) -/
import Derived.Test.YtkjoakdepjpkhaaDoorTgB
namespace Go.Proofs.YtkjoakdepjpkhaaDoor.Ints
open Go.RowKit
set_option linter.unusedVariables false
set_option linter.unusedSimpArgs false
theorem results_tmp4 {fn : Func} {t u v x : Tmp} (h : fn.results = #[.tmp t, .tmp u, .tmp v, .tmp x]) (tmps : Array Value) (P : Program) (w : World) :
    (results fn tmps).run P w = .ok (.tuple #[tmps.getD t undef, tmps.getD u undef, tmps.getD v undef, tmps.getD x undef]) w := by
  simp [results, h]
/-- What a run ends in. -/
structure RtE where
  code : Int
  cs : List Int
  n : Int
  h : Bool
open Classical in
noncomputable def rtF (d : Int) (zss : List (List Int)) (hs : List Int) : Nat → List Int → Int → RtE
  | 0, xs, n => ⟨0, xs, n, decide (hlT d hs xs)⟩
  | f + 1, xs, n => if hlT d hs xs then ⟨0, xs, n, true⟩ else if (apT zss xs).length ≤ 1000 then rtF d zss hs f (nxT d zss xs) (n + 1) else ⟨5, [], 0, false⟩
theorem rtF_zero {d : Int} {zss : List (List Int)} {hs xs : List Int} {b : Bool} (n : Int) (h : b = true ↔ hlT d hs xs) : rtF d zss hs 0 xs n = ⟨0, xs, n, b⟩ := by
  rw [rtF]; congr 1; rw [Bool.eq_iff_iff, h]; simp
theorem rtF_halt {d : Int} {zss : List (List Int)} {hs xs : List Int} (f : Nat) (n : Int) (h : hlT d hs xs) : rtF d zss hs f xs n = ⟨0, xs, n, true⟩ := by
  cases f with
  | zero => exact rtF_zero n ⟨fun _ => h, fun _ => rfl⟩
  | succ f => rw [rtF, if_pos h]
theorem rtF_next {d : Int} {zss : List (List Int)} {hs xs : List Int} (f : Nat) (n : Int) (h : ¬ hlT d hs xs) (hf : (apT zss xs).length ≤ 1000) : rtF d zss hs (f + 1) xs n = rtF d zss hs f (nxT d zss xs) (n + 1) := by rw [rtF, if_neg h, if_pos hf]
theorem rtF_full {d : Int} {zss : List (List Int)} {hs xs : List Int} (f : Nat) (n : Int) (h : ¬ hlT d hs xs) (hf : ¬ (apT zss xs).length ≤ 1000) : rtF d zss hs (f + 1) xs n = ⟨5, [], 0, false⟩ := by rw [rtF, if_neg h, if_neg hf]
/-- What RunTag returns. -/
noncomputable def rtR (d : Int) (zss : List (List Int)) (hs xs : List Int) (bu : Int) : RtE :=
  if (tagB d zss hs && overB zss.length xs) = true then (if 1 ≤ bu ∧ bu ≤ 20000 then rtF d zss hs bu.toNat xs 0 else ⟨2, [], 0, false⟩) else ⟨1, [], 0, false⟩
theorem rt_bad {d : Int} {zss : List (List Int)} {hs xs : List Int} {bu : Int} (h : (tagB d zss hs && overB zss.length xs) = false) : rtR d zss hs xs bu = ⟨1, [], 0, false⟩ := by simp [rtR, h]
theorem rt_range {d : Int} {zss : List (List Int)} {hs xs : List Int} {bu : Int} (h : (tagB d zss hs && overB zss.length xs) = true) (k : ¬ (1 ≤ bu ∧ bu ≤ 20000)) : rtR d zss hs xs bu = ⟨2, [], 0, false⟩ := by rw [rtR, if_pos h, if_neg k]
theorem rt_good {d : Int} {zss : List (List Int)} {hs xs : List Int} {bu : Int} (h : (tagB d zss hs && overB zss.length xs) = true) (k : 1 ≤ bu ∧ bu ≤ 20000) : rtR d zss hs xs bu = rtF d zss hs bu.toNat xs 0 := by rw [rtR, if_pos h, if_pos k]
theorem hl_pos {d : Int} {zss : List (List Int)} {hs xs : List Int} (ht : tagB d zss hs = true) (h : ¬ hlT d hs xs) : 0 < xs.length := by
  have := (tagB_ok ht).1
  have : ¬ ((xs.length : Int) < d) := fun q => h (.inl q)
  omega
end Go.Proofs.YtkjoakdepjpkhaaDoor.Ints
