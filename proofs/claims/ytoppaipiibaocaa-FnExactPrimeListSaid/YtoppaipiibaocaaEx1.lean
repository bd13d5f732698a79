/- ExponentsAt, of the model and of the program. -/
import Derived.Test.YtoppaipiibaocaaVl
import Derived.Test.YtoppaipiibaocaaSnI
import Derived.Test.YtoppaipiibaocaaPrm
import Derived.Test.YtoppaipiibaocaaCel
import Derived.Test.YtoppaipiibaocaaIn
import Derived.Maps.AppendAt
import Derived.BigQuiet
import Derived.Deep.QuietTactic
namespace Go.Proofs.Ytoppaipiibaocaa.Ints
open Go.RowKit
open Math (NoDiv primeB primeB_true primeB_false)
set_option linter.unusedVariables false
set_option linter.unusedSimpArgs false
def Bd (zs : List Int) : Prop := ∀ i, i < zs.length → 2 ≤ zs.getD i 0 ∧ zs.getD i 0 ≤ 999999
open Classical in
noncomputable def riseE (zs : List Int) : Bool := decide (Inc zs zs.length ∧ Bd zs)
theorem riseE_true {zs : List Int} (h : Inc zs zs.length) (k : ∀ i, i < zs.length → 2 ≤ zs.getD i 0 ∧ zs.getD i 0 ≤ 999999) : riseE zs = true := by simp only [riseE, decide_eq_true_eq]; exact ⟨h, k⟩
theorem riseE_inc {zs : List Int} (h : ¬ Inc zs zs.length) : riseE zs = false := by simp only [riseE, decide_eq_false_iff_not]; exact fun q => h q.1
theorem riseE_bd {zs : List Int} (h : ¬ Bd zs) : riseE zs = false := by simp only [riseE, decide_eq_false_iff_not]; exact fun q => h q.2
theorem riseE_ok {zs : List Int} (h : riseE zs = true) : Inc zs zs.length ∧ Bd zs := by simpa [riseE] using h
def AllP (zs : List Int) : Prop := ∀ i, i < zs.length → NoDiv (zs.getD i 0)
structure ExOk (zs : List Int) : Prop where
  len : zs.length ≤ 64
  inc : Inc zs zs.length
  bd : Bd zs
  pr : AllP zs
open Classical in
noncomputable def exB (zs : List Int) : Bool := decide (ExOk zs)
theorem exB_true {zs : List Int} (h : ExOk zs) : exB zs = true := by simp [exB, h]
theorem exB_false {zs : List Int} (h : ¬ ExOk zs) : exB zs = false := by simp [exB, h]
theorem exB_ok {zs : List Int} (h : exB zs = true) : ExOk zs := by simpa [exB] using h
noncomputable def posB (n : List Int) : Bool := natB n && decide (0 < n.length)
/-- The exponents of the first primes, and what is left. -/
noncomputable def exS (n ps : List Int) : Nat → List Int × List Int
  | 0 => ([], n)
  | k + 1 => ((exS n ps k).1 ++ [((vlN (exS n ps k).2 (ps.getD k 0) : Nat) : Int)], canOf (rsN (exS n ps k).2 (ps.getD k 0)))
noncomputable def exR (n ps : List Int) : List Int × List Int × Int :=
  if posB n = false then ([], [], 1) else if exB ps = false then ([], [], 2) else ((exS n ps ps.length).1, (exS n ps ps.length).2, 0)
theorem exS_len (n ps : List Int) (k : Nat) : (exS n ps k).1.length = k := by
  induction k with
  | zero => rfl
  | succ k ih => simp only [exS, List.length_append, ih, List.length_singleton]
theorem rsF_pos (f : Nat) : ∀ m p : Int, 0 < m → 2 ≤ p → 0 < rsF f m p ∧ rsF f m p ≤ m := by
  induction f with
  | zero => intro m p h _; exact ⟨h, Int.le_refl _⟩
  | succ f ih =>
    intro m p h hp
    rw [rsF]
    split
    · exact ⟨h, Int.le_refl _⟩
    · rename_i hz
      have h1 := div_exact h hp (by omega)
      have h2 := div_less h hp
      have h3 := ih (m / p) p h1 hp
      omega
theorem rs_fits {xs : List Int} {p : Int} (h : natB xs = true) (h0 : 0 < xs.length) (hp : 2 ≤ p) : natB (canOf (rsN xs p)) = true ∧ 0 < (canOf (rsN xs p)).length ∧ Can (canOf (rsN xs p)) ∧ (canOf (rsN xs p)).length ≤ 40 := by
  obtain ⟨hc, hl⟩ := natB_can h
  have hv := val_pos hc h0
  obtain ⟨r0, r1⟩ := rsF_pos (val xs).toNat (val xs) p hv hp
  obtain ⟨c1, c2⟩ := canOf_spec (v := rsN xs p) (by unfold rsN; omega)
  have hlen : (canOf (rsN xs p)).length ≤ xs.length := can_len c1 (by
    rw [c2]; have := val_lt hc.1; unfold rsN; omega)
  refine ⟨can_natB c1 (by omega), ?_, c1, by omega⟩
  rcases Nat.eq_zero_or_pos (canOf (rsN xs p)).length with hz | hz
  · exfalso
    have : canOf (rsN xs p) = [] := List.length_eq_zero_iff.1 hz
    rw [this] at c2
    have e : val ([] : List Int) = 0 := rfl
    rw [e] at c2
    unfold rsN at c2; omega
  · exact hz
theorem exS_ok {n ps : List Int} (hn : natB n = true) (h0 : 0 < n.length) (hp : Bd ps) : ∀ k, k ≤ ps.length → natB (exS n ps k).2 = true ∧ 0 < (exS n ps k).2.length := by
  intro k
  induction k with
  | zero => intro _; exact ⟨hn, h0⟩
  | succ k ih =>
    intro hk
    obtain ⟨i1, i2⟩ := ih (by omega)
    have h := rs_fits i1 i2 (hp k (by omega)).1
    exact ⟨h.1, h.2.1⟩
theorem vl_zero {f : Nat} {m p : Int} (h0 : 0 < m) (hf : m ≤ f) (h : vlF f m p = 0) : ¬ m % p = 0 := by
  intro hz
  obtain ⟨g, _, h2⟩ := vlF_step h0 hf hz
  omega
theorem vl_one {f : Nat} {m p : Int} (h : 0 < vlF f m p) : m % p = 0 := by
  rcases Int.decEq (m % p) 0 with hz | hz
  · rw [vlF_stop hz] at h; omega
  · exact hz
theorem Ow.snocAt {wr w1 : World} {B T : Nat} {ov v' rv : Value} {xs ys : List Int} {x : Int} (h : Ow wr B T ov xs) (hr : Ow wr B wr.heap.size rv ys) (hs : Sep ov rv)
    (hgrow : (wr.alloc (Obj.cells #[Value.int IntKind.i64 x] 2)).grownBy w1 ov.ownBlock) (hat : v'.ownBlock = ov.ownBlock ∨ v'.ownBlock = some (wr.heap.size + 1)) :
    Ow w1 B w1.heap.size rv ys ∧ Sep v' rv := by
  have h1 := hr.below ((Below.refl wr.heap.size wr).alloc (Nat.le_refl _) (Obj.cells #[Value.int IntKind.i64 x] 2)) (Nat.le_refl _)
  refine ⟨(h1.grown hgrow hs.2).up, ?_⟩
  rcases hat with e | e
  · exact ⟨by rw [e]; exact hs.1, by rw [e]; exact hs.2⟩
  · refine ⟨.inr ?_, .inr ?_⟩
    · rw [e]; intro q
      have := hr.top _ q.symm
      omega
    · rw [e]; intro q
      have := hr.top _ q
      omega
end Go.Proofs.Ytoppaipiibaocaa.Ints
