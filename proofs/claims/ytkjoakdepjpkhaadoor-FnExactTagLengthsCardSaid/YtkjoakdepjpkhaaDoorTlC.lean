/- TagLengths: the values (plain lemmas). (gen_tl.py) -/
import Derived.Test.YtkjoakdepjpkhaaDoorStG
namespace Go.Proofs.YtkjoakdepjpkhaaDoor.Ints
open Go.RowKit
set_option linter.unusedVariables false
set_option linter.unusedSimpArgs false
structure TlE where
  lo : Int
  hi : Int
  code : Int
def mnT (lo y : Int) : Int := if y < lo then y else lo
def mxT (hi y : Int) : Int := if y > hi then y else hi
open Classical in
noncomputable def tlF (d : Int) (zss : List (List Int)) (hs : List Int) : Nat → List Int → Int → Int → TlE
  | 0, _, lo, hi => ⟨lo, hi, 0⟩
  | f + 1, xs, lo, hi => if hlT d hs xs then ⟨lo, hi, 0⟩ else if (apT zss xs).length ≤ 1000 then tlF d zss hs f (nxT d zss xs) (mnT lo (nxT d zss xs).length) (mxT hi (nxT d zss xs).length) else ⟨0, 0, 5⟩
theorem tlF_halt {d : Int} {zss : List (List Int)} {hs xs : List Int} (f : Nat) (lo hi : Int) (h : hlT d hs xs) : tlF d zss hs f xs lo hi = ⟨lo, hi, 0⟩ := by
  cases f with
  | zero => rfl
  | succ f => rw [tlF, if_pos h]
theorem tlF_next {d : Int} {zss : List (List Int)} {hs xs : List Int} (f : Nat) (lo hi : Int) (h : ¬ hlT d hs xs) (hf : (apT zss xs).length ≤ 1000) : tlF d zss hs (f + 1) xs lo hi = tlF d zss hs f (nxT d zss xs) (mnT lo (nxT d zss xs).length) (mxT hi (nxT d zss xs).length) := by rw [tlF, if_neg h, if_pos hf]
theorem tlF_full {d : Int} {zss : List (List Int)} {hs xs : List Int} (f : Nat) (lo hi : Int) (h : ¬ hlT d hs xs) (hf : ¬ (apT zss xs).length ≤ 1000) : tlF d zss hs (f + 1) xs lo hi = ⟨0, 0, 5⟩ := by rw [tlF, if_neg h, if_neg hf]
/-- What TagLengths returns. -/
noncomputable def tlR (d : Int) (zss : List (List Int)) (hs xs : List Int) (bu : Int) : TlE :=
  if (tagB d zss hs && overB zss.length xs) = true then (if 1 ≤ bu ∧ bu ≤ 20000 then tlF d zss hs bu.toNat xs xs.length xs.length else ⟨0, 0, 2⟩) else ⟨0, 0, 1⟩
theorem tl_bad {d : Int} {zss : List (List Int)} {hs xs : List Int} {bu : Int} (h : (tagB d zss hs && overB zss.length xs) = false) : tlR d zss hs xs bu = ⟨0, 0, 1⟩ := by simp [tlR, h]
theorem tl_range {d : Int} {zss : List (List Int)} {hs xs : List Int} {bu : Int} (h : (tagB d zss hs && overB zss.length xs) = true) (k : ¬ (1 ≤ bu ∧ bu ≤ 20000)) : tlR d zss hs xs bu = ⟨0, 0, 2⟩ := by rw [tlR, if_pos h, if_neg k]
theorem tl_good {d : Int} {zss : List (List Int)} {hs xs : List Int} {bu : Int} (h : (tagB d zss hs && overB zss.length xs) = true) (k : 1 ≤ bu ∧ bu ≤ 20000) : tlR d zss hs xs bu = tlF d zss hs bu.toNat xs xs.length xs.length := by rw [tlR, if_pos h, if_pos k]
/-- What is so far the least and the greatest length. -/
def TlAt (d : Int) (zss : List (List Int)) (hs xs : List Int) (B : Nat) (E : TlE) (k : Nat) (lo hi : Int) : Prop := k ≤ B → (∀ j, j < k → goT d zss hs (itT d zss xs j)) → tlF d zss hs (B - k) (itT d zss xs k) lo hi = E
theorem TlAt.next {d : Int} {zss : List (List Int)} {hs xs : List Int} {B : Nat} {E : TlE} {k : Nat} {lo hi : Int} (h : TlAt d zss hs xs B E k lo hi) : TlAt d zss hs xs B E (k + 1) (mnT lo (itT d zss xs (k + 1)).length) (mxT hi (itT d zss xs (k + 1)).length) := fun hk hg => by
  have h1 := h (by omega) (fun j hj => hg j (by omega))
  obtain ⟨g1, g2⟩ := hg k (by omega)
  rw [show B - k = (B - (k + 1)) + 1 by omega, tlF_next _ _ _ g1 g2] at h1
  exact h1
theorem TlAt.fail {d : Int} {zss : List (List Int)} {hs xs : List Int} {B : Nat} {E : TlE} {k : Nat} {lo hi : Int} (h : TlAt d zss hs xs B E k lo hi) (f : FlG d zss hs xs B k) : E = ⟨0, 0, 5⟩ := by
  obtain ⟨hk, hg, g1, g2⟩ := f
  have h1 := h (by omega) hg
  rw [show B - k = (B - (k + 1)) + 1 by omega, tlF_full _ _ _ g1 g2] at h1
  exact h1.symm
theorem TlAt.done {d : Int} {zss : List (List Int)} {hs xs : List Int} {B : Nat} {E : TlE} {k : Nat} {lo hi : Int} (h : TlAt d zss hs xs B E k lo hi) (hk : k ≤ B) (hg : ∀ j, j < k → goT d zss hs (itT d zss xs j)) (e : k = B ∨ hlT d hs (itT d zss xs k)) : E = ⟨lo, hi, 0⟩ := by
  have h1 := h hk hg
  rcases e with rfl | e
  · rw [Nat.sub_self] at h1; exact h1.symm
  · rw [tlF_halt _ _ _ e] at h1; exact h1.symm
end Go.Proofs.YtkjoakdepjpkhaaDoor.Ints
