/- A number not less than a root. -/
import Derived.Test.YtcpipakpkmfhlaaRtV
import Derived.Test.YtcpipakpkmfhlaaLen
import Derived.Deep.RegionHeld3
namespace Go.Proofs.Ytcpipakpkmfhlaa.Ints
open Go.RowKit Go.Shelf
set_option linter.unusedVariables false
set_option linter.unusedSimpArgs false
attribute [local go_sem] Oper.semAt_some
attribute [local go_sem, local simp] wide_fn
/-- A row of zeros is made, in a region. -/
theorem step_make {w : World} {ops : Array Oper} {o : Oper} {a : Act} {K : Act → World → Prop} {Q : Exit → Act → World → Prop} {E : Prop} (hgd : o.guard = none) (l c : Operand)
    (ho : o.op = .makeSlice 24 l c) (n : Nat) (hl : a.eval l = .int .i64 (n : Int)) (hc : a.eval c = .int .i64 (n : Int)) (hn : n ≤ 16777216)
    (h : ∀ w', Ow w' w.heap.size w'.heap.size (.slice (some ⟨w.heap.size, 0, none⟩) n n) (List.replicate n 0) → w.grownBy w' none → K (a.put o.dst (.slice (some ⟨w.heap.size, 0, none⟩) n n)) w') :
    if Region.wanted o (yielded ops a.tmps) = true then Oper.wp Try.prog o a w K Q else E := by
  have hw : Region.wanted o (yielded ops a.tmps) = true := by simp [Region.wanted, hgd]
  rw [if_pos hw]
  obtain ⟨i0, hi, hz0, hz1, hz2⟩ := info_parts infoE
  obtain ⟨w', hrun, r1, r2⟩ := run_make_full (P := Try.prog) w w.heap.size 24 2 i0 (.int .i64 0) 1 Try.underlying24 hi hz0 hz1 .i64 .i64 n (by rw [hz2]; omega) (by unfold maxLen; omega) (Nat.le_refl _)
  have h3 := h w' (by
    have := Blk.zeros (w0 := w') (B := w.heap.size) (g := w.heap.size) (N := n) (by rw [Nat.mul_one] at r1; exact r1)
    have h4 := this.ow (Nat.le_refl w.heap.size) (by unfold maxLen; omega) (by simp; omega) (fun z hz => by simp at hz; omega)
    simpa using h4) r2
  unfold Oper.wp
  simp [execOp, ho, hl, hc, hrun, Result.andThen]
  exact h3
/-- What is read of the one or two highest limbs. -/
def abS (t : Int) (x : Nat × Int) : Int := wrap64 (wrap64 (t * 1000000) + x.2)
def abF (zs : List Int) (pre : List (At zs)) : Int := pre.foldl (fun t x => abS t x.1) 0
theorem abF_snoc (zs : List Int) (pre : List (At zs)) (x : At zs) : abF zs (pre ++ [x]) = abS (abF zs pre) x.1 := by simp [abF]
theorem abF_done {zs : List Int} (hz : Dig 1000000 zs) (hl : zs.length ≤ 2) : abF zs (dnA zs 0) = val zs := by
  cases zs with
  | nil => simp [abF, dnA, dnR, val]
  | cons x t =>
    have hx := hz 0 (by simp)
    simp only [List.getD_cons_zero] at hx
    cases t with
    | nil =>
      simp [abF, dnA, dnR, val, abS]
      unfold wrap64; omega
    | cons y t =>
      have hy := hz 1 (by simp)
      simp only [List.getD_cons_succ, List.getD_cons_zero] at hy
      have : t = [] := by cases t with
        | nil => rfl
        | cons z t => simp at hl
      subst this
      simp [abF, dnA, dnR, val, abS]
      unfold wrap64; omega
theorem pow_pos2 : ∀ h : Nat, 0 < (2 : Int) ^ h
  | 0 => by simp
  | h + 1 => by rw [Int.pow_succ]; have := pow_pos2 h; omega
theorem pow_le2 {r s : Nat} (h : r ≤ s) : (2 : Int) ^ r ≤ 2 ^ s := by
  obtain ⟨d, rfl⟩ : ∃ d, s = r + d := ⟨s - r, by omega⟩
  rw [Int.pow_add]
  have h1 := pow_pos2 d
  have h0 := pow_pos2 r
  have := Int.mul_le_mul_of_nonneg_left (show 1 ≤ (2 : Int) ^ d by omega) (show 0 ≤ (2 : Int) ^ r by omega)
  omega
theorem abv_ge {ps : List Int} {p r h : Nat} (hc : Can ps) (h2 : 2 * p ≤ ps.length) (ht : val (ps.drop (2 * p)) < 2 ^ r) (hr : r ≤ h + h) : isq (val ps) ≤ Pw p * 2 ^ h := by
  have hN := val_nonneg hc.1
  obtain ⟨s0, s1, s2⟩ := isq_spec hN
  have e : val ps = val (ps.take (2 * p)) + Pw (2 * p) * val (ps.drop (2 * p)) := by
    have := val_append (ps.take (2 * p)) (ps.drop (2 * p))
    rw [List.take_append_drop, List.length_take, Nat.min_eq_left h2] at this
    exact this
  have hlo := val_lt (dig_take hc.1 (2 * p))
  rw [List.length_take, Nat.min_eq_left h2] at hlo
  have hP := Pw_pos (2 * p)
  have h5 : (2 : Int) ^ r ≤ 2 ^ (h + h) := pow_le2 hr
  have h6 : Pw (2 * p) * (val (ps.drop (2 * p)) + 1) ≤ Pw (2 * p) * 2 ^ (h + h) := Int.mul_le_mul_of_nonneg_left (by omega) (by omega)
  have h7 : (Pw p * 2 ^ h) * (Pw p * 2 ^ h) = Pw (2 * p) * 2 ^ (h + h) := by
    rw [show 2 * p = p + p by omega, Pw_add, Int.pow_add, Int.mul_assoc, Int.mul_left_comm (2 ^ h) (Pw p), ← Int.mul_assoc, ← Int.mul_assoc]
  rw [Int.mul_add, Int.mul_one] at h6
  have h8 : val ps < (Pw p * 2 ^ h) * (Pw p * 2 ^ h) := by rw [h7]; omega
  rcases Int.lt_or_le (Pw p * 2 ^ h) (isq (val ps)) with hl | hl
  · have h9 : 0 ≤ Pw p * 2 ^ h := Int.mul_nonneg (by have := Pw_pos p; omega) (by have := pow_pos2 h; omega)
    have := sq_le h9 (Int.le_of_lt hl)
    omega
  · exact hl
end Go.Proofs.Ytcpipakpkmfhlaa.Ints
