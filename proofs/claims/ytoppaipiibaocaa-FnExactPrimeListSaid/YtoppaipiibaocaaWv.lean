/- Contracts of WeaveNaturals, of the model and of the program. -/
import Derived.Test.YtoppaipiibaocaaFdI
import Derived.Test.YtoppaipiibaocaaDg
import Derived.Test.YtoppaipiibaocaaOwn
import Derived.Test.YtoppaipiibaocaaCmpNat
namespace Go.Proofs.Ytoppaipiibaocaa.Ints
open Go.RowKit
set_option linter.unusedVariables false

theorem dgF_ten (f : Nat) : ∀ m : Int, 0 < m → ((10 ^ (dgF f m 10).length : Nat) : Int) ≤ 10 * m := by
  induction f with
  | zero => intro m hm; simp [dgF]; omega
  | succ f ih =>
    intro m hm
    rw [dgF, if_pos hm, List.length_cons, Nat.pow_succ]
    by_cases h : 0 < m / 10
    · have := ih _ h
      rw [Int.natCast_mul]
      omega
    · rw [dgF_stop h]; simp; omega
theorem Pw_ten (k : Nat) : Pw k = ((10 ^ (6 * k) : Nat) : Int) := by
  induction k with
  | zero => simp [Pw]
  | succ k ih => rw [Pw, ih, show 6 * (k + 1) = 6 * k + 6 by omega, Nat.pow_add, Int.natCast_mul]; rfl
theorem dg_ten {ps : List Int} (h : Can ps) (hl : ps.length ≤ 40) : (dgN ps 10).length ≤ 240 := by
  rw [dgN]
  by_cases h0 : 0 < val ps
  · have h1 := dgF_ten (val ps).toNat _ h0
    have h2 := Int.lt_of_lt_of_le (val_lt h.1) (Pw_mono hl)
    rw [Pw_ten] at h2
    have h3 : 10 ^ (dgF (val ps).toNat (val ps) 10).length < 10 ^ (6 * 40 + 1) := by
      rw [Nat.pow_succ]; omega
    have := (Nat.pow_lt_pow_iff_right (by omega)).1 h3
    omega
  · rw [dgF_stop h0]; simp
theorem dgN_dig (ps : List Int) {p : Int} (hp : 2 ≤ p) : Dig p (dgN ps p) := dgF_dig _ _ _ hp

/-- Two lists of digits in turn, the first k of each. -/
def wvN (X Y : List Int) (k : Nat) : List Int := (List.range (2 * k)).map (fun q => if q % 2 = 0 then X.getD (q / 2) 0 else Y.getD (q / 2) 0)
theorem wvN_len (X Y : List Int) (k : Nat) : (wvN X Y k).length = 2 * k := by simp [wvN]
theorem wvN_succ (X Y : List Int) (k : Nat) : wvN X Y (k + 1) = wvN X Y k ++ [X.getD k 0, Y.getD k 0] := by
  rw [wvN, show 2 * (k + 1) = 2 * k + 1 + 1 by omega, List.range_succ, List.range_succ, List.map_append, List.map_append, ← wvN, List.append_assoc]
  simp only [List.map_cons, List.map_nil, List.cons_append, List.nil_append]
  rw [if_pos (by omega), if_neg (by omega), show 2 * k / 2 = k by omega, show (2 * k + 1) / 2 = k by omega]
theorem wvN_dig {X Y : List Int} {b : Int} (hb : 0 < b) (hX : Dig b X) (hY : Dig b Y) (k : Nat) : Dig b (wvN X Y k) := by
  have h : ∀ Z : List Int, Dig b Z → ∀ q, 0 ≤ Z.getD q 0 ∧ Z.getD q 0 < b := fun Z hZ q => by
    by_cases hq : q < Z.length
    · exact hZ q hq
    · rw [List.getD_eq_getElem?_getD, List.getElem?_eq_none (by omega)]; simp; omega
  intro i hi
  rw [wvN_len] at hi
  rw [List.getD_eq_getElem?_getD, wvN, List.getElem?_map, List.getElem?_range hi]
  simp only [Option.map_some, Option.getD_some]
  by_cases hq : i % 2 = 0
  · rw [if_pos hq]; exact h X hX _
  · rw [if_neg hq]; exact h Y hY _
/-- The row of zeros once i digits of the one and j of the other have been laid. -/
def wvL (X Y : List Int) (m i j : Nat) : List Int := (List.range (2 * m)).map (fun q => if q % 2 = 0 then (if q / 2 < i then X.getD (q / 2) 0 else 0) else (if q / 2 < j then Y.getD (q / 2) 0 else 0))
theorem wvL_len (X Y : List Int) (m i j : Nat) : (wvL X Y m i j).length = 2 * m := by simp [wvL]
theorem wvL_zero (X Y : List Int) (m : Nat) : wvL X Y m 0 0 = List.replicate (2 * m) 0 := by
  apply List.ext_getElem
  · simp [wvL]
  · intro q h1 h2; simp [wvL]
theorem wvL_x (X Y : List Int) (m i j : Nat) : (wvL X Y m i j).set (2 * i) (X.getD i 0) = wvL X Y m (i + 1) j := by
  apply List.ext_getElem
  · simp [wvL]
  · intro q h1 h2
    rw [List.getElem_set]
    by_cases hq : 2 * i = q
    · subst hq
      rw [if_pos rfl]
      simp [wvL]
    · rw [if_neg hq]
      simp only [wvL, List.getElem_map, List.getElem_range]
      by_cases hp : q % 2 = 0
      · rw [if_pos hp, if_pos hp]
        by_cases hh : q / 2 < i
        · rw [if_pos hh, if_pos (by omega)]
        · rw [if_neg hh, if_neg (by omega)]
      · rw [if_neg hp, if_neg hp]
theorem wvL_y (X Y : List Int) (m i j : Nat) : (wvL X Y m i j).set (2 * j + 1) (Y.getD j 0) = wvL X Y m i (j + 1) := by
  apply List.ext_getElem
  · simp [wvL]
  · intro q h1 h2
    rw [List.getElem_set]
    by_cases hq : 2 * j + 1 = q
    · subst hq
      rw [if_pos rfl]
      simp only [wvL, List.getElem_map, List.getElem_range]
      rw [if_neg (by omega), if_pos (by omega), show (2 * j + 1) / 2 = j by omega]
    · rw [if_neg hq]
      simp only [wvL, List.getElem_map, List.getElem_range]
      by_cases hp : q % 2 = 0
      · rw [if_pos hp, if_pos hp]
      · rw [if_neg hp, if_neg hp]
        by_cases hh : q / 2 < j
        · rw [if_pos hh, if_pos (by omega)]
        · rw [if_neg hh, if_neg (by omega)]
theorem wvL_done (X Y : List Int) (m : Nat) : wvL X Y m X.length Y.length = wvN X Y m := by
  have h : ∀ (Z : List Int) (q : Nat), (if q < Z.length then Z.getD q 0 else 0) = Z.getD q 0 := fun Z q => by
    by_cases hq : q < Z.length
    · rw [if_pos hq]
    · rw [if_neg hq, List.getD_eq_getElem?_getD, List.getElem?_eq_none (by omega)]; rfl
  simp only [wvL, wvN, h]
def wvM (X Y : List Int) : Nat := max X.length Y.length
noncomputable def wvD (ps qs : List Int) : List Int := wvN (dgN ps 10) (dgN qs 10) (wvM (dgN ps 10) (dgN qs 10))
noncomputable def weL (ps qs : List Int) : List Int := if natB ps = true ∧ natB qs = true then fdL (wvD ps qs) 10 else []
noncomputable def weC (ps qs : List Int) : Int := if natB ps = true ∧ natB qs = true then (if fdB (wvD ps qs) 10 = true then 0 else 5) else 1
theorem we_bad {ps qs : List Int} (h : ¬ (natB ps = true ∧ natB qs = true)) : weL ps qs = [] ∧ weC ps qs = 1 := by rw [weL, weC, if_neg h, if_neg h]; exact ⟨rfl, rfl⟩
theorem we_good {ps qs : List Int} (h : natB ps = true) (k : natB qs = true) : weL ps qs = fgL (wvD ps qs) 10 ∧ weC ps qs = fgC (wvD ps qs) 10 ∧ weL ps qs = fdL (wvD ps qs) 10 ∧ weC ps qs = if fdB (wvD ps qs) 10 = true then 0 else 5 := by
  have hp := natB_can h
  have hq := natB_can k
  have hlen : (wvD ps qs).length ≤ 800 := by
    have := dg_ten hp.1 hp.2
    have := dg_ten hq.1 hq.2
    rw [wvD, wvN_len, wvM]; omega
  have hok : fgOk (wvD ps qs) 10 = true := by
    rw [fgOk_dig' (by omega) (by omega)]
    exact digB_true (wvN_dig (by omega) (dgN_dig ps (by omega)) (dgN_dig qs (by omega)) _)
  have e : weL ps qs = fdL (wvD ps qs) 10 ∧ weC ps qs = if fdB (wvD ps qs) 10 = true then 0 else 5 := by
    rw [weL, weC, if_pos (And.intro h k), if_pos (And.intro h k)]; exact ⟨rfl, rfl⟩
  refine ⟨?_, ?_, e.1, e.2⟩
  · rw [e.1]
    rcases eqOr (fdB (wvD ps qs) 10) with hn | hn
    · rw [(fg_full hok hlen hn).1]
      cases hr : fdR (wvD ps qs) 10 with
      | none => exact (fd_none hr).1
      | some V => rw [(fd_some hr).2] at hn; cases hn
    · rw [(fg_good hok hlen hn).1]
  · rw [e.2]
    rcases eqOr (fdB (wvD ps qs) 10) with hn | hn
    · rw [(fg_full hok hlen hn).2, hn]; rfl
    · rw [(fg_good hok hlen hn).2, hn]; rfl
end Go.Proofs.Ytoppaipiibaocaa.Ints
