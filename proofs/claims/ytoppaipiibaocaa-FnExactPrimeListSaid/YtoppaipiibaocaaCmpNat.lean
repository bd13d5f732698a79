/- Contracts of the comparison of naturals, of the model and of the program, and of the program's test of two naturals. -/
import Derived.Test.YtoppaipiibaocaaBack
import Derived.Test.YtoppaipiibaocaaNats
namespace Go.Proofs.Ytoppaipiibaocaa.Ints
open Go.RowKit Go.Shelf
set_option linter.unusedVariables false
attribute [local go_sem] Oper.semAt_some

def cmpD (xs ys : List Int) : Nat → Int
  | 0 => 0
  | m + 1 => if xs.getD m 0 < ys.getD m 0 then -1 else if ys.getD m 0 < xs.getD m 0 then 1 else cmpD xs ys m
def cmpN (xs ys : List Int) : Int := if xs.length < ys.length then -1 else if ys.length < xs.length then 1 else cmpD xs ys xs.length
theorem cmpD_same (xs ys : List Int) (n m : Nat) (h : m ≤ n) (hs : ∀ j, m ≤ j → j < n → xs.getD j 0 = ys.getD j 0) : cmpD xs ys n = cmpD xs ys m := by
  induction n with
  | zero => rw [Nat.le_zero.1 h]
  | succ n ih =>
    by_cases he : m = n + 1
    · rw [he]
    · have e := hs n (by omega) (by omega)
      rw [cmpD, if_neg (by omega), if_neg (by omega)]
      exact ih (by omega) (fun j a b => hs j a (by omega))
def sgn (x y : Int) : Int := if x < y then -1 else if y < x then 1 else 0
theorem cmpD_top (xs ys : List Int) (n m : Nat) (h : m < n) (hs : ∀ j, m + 1 ≤ j → j < n → xs.getD j 0 = ys.getD j 0) (hne : xs.getD m 0 ≠ ys.getD m 0) : cmpD xs ys n = sgn (xs.getD m 0) (ys.getD m 0) := by
  rw [cmpD_same xs ys n (m + 1) (by omega) hs, cmpD, sgn]
  by_cases h1 : xs.getD m 0 < ys.getD m 0
  · rw [if_pos h1, if_pos h1]
  · rw [if_neg h1, if_neg h1, if_pos (by omega), if_pos (by omega)]
theorem mem_dnA (xs : List Int) (m j : Nat) (h : m ≤ j) (hj : j < xs.length) : (⟨(j, xs[j]?.getD 0), hj, rfl⟩ : At xs) ∈ dnA xs m := by
  induction hk : j - m generalizing m with
  | zero =>
    obtain rfl : m = j := by omega
    rw [dnA_succ xs m hj]; simp
  | succ k ih =>
    rw [dnA_succ xs m (by omega)]
    exact List.mem_append.2 (.inl (ih (m + 1) (by omega) (by omega)))

theorem cmp64 (x y : Int) (w : World) : Calls Try.prog 121 #[.int .i64 x, .int .i64 y] w fun e w' => e = .returned (.int .i64 (sgn x y)) ∧ w = w' := by
  have e1 : (x != x) = false := by simp
  have e2 : (y != y) = false := by simp
  by_cases h1 : x < y
  · have HS : Hid (sgn x y = -1) := Lib.hid (by simp [sgn, h1])
    go_enter Try.func121, Try.ntmps121
    go_wp2
    go_ret
    exact ⟨by rw [HS.out] <;> rfl, rfl⟩
  · by_cases h2 : y < x
    · have HS : Hid (sgn x y = 1) := Lib.hid (by simp [sgn, h1, h2])
      go_enter Try.func121, Try.ntmps121
      go_wp2
      go_ret
      exact ⟨by rw [HS.out] <;> rfl, rfl⟩
    · have HS : Hid (sgn x y = 0) := Lib.hid (by simp [sgn, h1, h2])
      go_enter Try.func121, Try.ntmps121
      go_wp2
      go_ret
      exact ⟨by rw [HS.out] <;> rfl, rfl⟩
theorem eq_or (b : Bool) : b = false ∨ b = true := by cases b <;> simp
theorem cell_old {w : World} {v : Value} {B : Nat} (o : Obj) (p : Addr) (h : w.cell? p = some v) (hp : p.block < w.heap.size) : (w.alloc o).cell? p = some v :=
  (((Below.refl w.heap.size w).alloc (Nat.le_refl _) o).cell hp).trans h
end Go.Proofs.Ytoppaipiibaocaa.Ints
