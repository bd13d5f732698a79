/- The decimal numeral, the last digit first; texts joined. No model. -/
import Derived.Lib.ItoaLen
import Derived.Lib.Join
import Derived.Laws.Concat
import Derived.Test.YtbifkjmmhfnblaaDoorInts
namespace Go.Proofs.YtbifkjmmhfnblaaDoor.Ints
open Go.Lib (decDigits itoa)
/-- The decimal digits of a number, the last ahead; none for 0. -/
def dRev (u : Nat) : List UInt8 := if h : u = 0 then [] else UInt8.ofNat (48 + u % 10) :: dRev (u / 10)
termination_by u
decreasing_by omega
theorem dRev_zero : dRev 0 = [] := by rw [dRev, dif_pos rfl]
theorem dRev_pos {u : Nat} (h : u ≠ 0) : dRev u = UInt8.ofNat (48 + u % 10) :: dRev (u / 10) := by rw [dRev, dif_neg h]
theorem dRev_reverse (u : Nat) (h : u ≠ 0) : (dRev u).reverse = decDigits u := by
  induction u using Nat.strongRecOn with
  | _ u ih =>
    rw [dRev_pos h, List.reverse_cons]
    by_cases hs : u < 10
    · rw [show u / 10 = 0 by omega, dRev_zero, Lib.decDigits_one hs, Nat.mod_eq_of_lt hs]; rfl
    · rw [ih (u / 10) (by omega) (by omega)]
      conv => rhs; rw [decDigits, dif_neg hs]
theorem dRev_length {u : Nat} (h : u < 18446744073709551616) : (dRev u).length ≤ 20 := by
  by_cases h0 : u = 0
  · subst h0; rw [dRev_zero]; simp
  · have := dRev_reverse u h0
    have h2 := congrArg List.length this
    rw [List.length_reverse, Lib.decDigits_length] at h2
    have := Lib.nDigits_le20 u h
    omega
theorem digit_toNat {d : Nat} (h : d < 10) : (UInt8.ofNat (48 + d)).toNat = 48 + d := Nat.mod_eq_of_lt (show 48 + d < 256 by omega)
/-- The digits and the sign, the last ahead. -/
def iRev (n : Int) : List UInt8 := dRev n.natAbs ++ (if n < 0 then [45] else [])
theorem iRev_reverse (n : Int) (h : n ≠ 0) : (iRev n).reverse = itoa n := by
  have hu : n.natAbs ≠ 0 := by omega
  unfold iRev itoa
  by_cases hn : n < 0
  · rw [if_pos hn, if_pos hn, List.reverse_append, dRev_reverse _ hu]; rfl
  · rw [if_neg hn, if_neg hn, List.append_nil, dRev_reverse _ hu, show n.natAbs = n.toNat by omega]
theorem itoa_zero : itoa 0 = [48] := by rw [itoa, if_neg (by omega)]; exact Lib.decDigits_one (by decide)

/-- The text of a list, as a ByteArray. -/
abbrev bs (l : List UInt8) : ByteArray := ⟨l.toArray⟩
theorem bs_append (x y : List UInt8) : bs x ++ bs y = bs (x ++ y) := ByteArray.mk_append_mk x y
theorem bs_size (x : List UInt8) : (bs x).size = x.length := by show x.toArray.size = _; simp
theorem bs_list (x : List UInt8) : (bs x).data.toList = x := by simp
theorem join_snoc (xs : List (List UInt8)) (x sep : List UInt8) (h : xs ≠ []) : Lib.join (xs ++ [x]) sep = Lib.join xs sep ++ sep ++ x := by
  cases xs with
  | nil => exact absurd rfl h
  | cons y r =>
    rw [List.cons_append, Lib.join_cons, Lib.join_cons]
    simp [Lib.joinTail, List.append_assoc]
theorem join_small (xs : List (List UInt8)) (sep : List UInt8) (K : Nat) (h : ∀ x ∈ xs, x.length ≤ K) : (Lib.join xs sep).length ≤ xs.length * (K + sep.length) := by
  cases xs with
  | nil => simp [Lib.join_nil]
  | cons y r =>
    rw [Lib.join_length]
    have hl : ∀ r : List (List UInt8), (∀ x ∈ r, x.length ≤ K) → Lib.lens r ≤ r.length * K := by
      intro r
      induction r with
      | nil => intro _; simp [Lib.lens]
      | cons z s ih =>
        intro h
        have h1 := ih (fun x hx => h x (List.mem_cons_of_mem _ hx))
        have h2 := h z (List.mem_cons_self ..)
        simp only [Lib.lens, List.map_cons, List.sum_cons, List.length_cons] at h1 ⊢
        rw [Nat.add_mul]; omega
    have h3 := hl (y :: r) h
    simp only [List.length_cons] at h3 ⊢
    rw [Nat.mul_add, Nat.mul_comm sep.length, Nat.add_mul r.length 1 sep.length]
    omega

theorem decParts (x : Int) (hx : x ≠ 0) : ∃ (c : Nat) (q : Int), c < 10 ∧ c = x.natAbs % 10 ∧ q.natAbs = x.natAbs / 10 ∧ (0 ≤ x → 0 ≤ q) ∧ (x ≤ 0 → q ≤ 0) ∧ x.tdiv 10 = q ∧ (x.tmod 10 = (c : Int) ∨ (0 < c ∧ x.tmod 10 = -(c : Int))) := by
  rcases Int.lt_or_gt_of_ne hx with h | h
  · obtain ⟨u, rfl⟩ : ∃ u : Nat, x = -(u : Int) := ⟨x.natAbs, by omega⟩
    have e1 : (-(u : Int)).tdiv 10 = -((u / 10 : Nat) : Int) := by rw [Int.neg_tdiv, Int.tdiv_eq_ediv_of_nonneg (by omega)]; omega
    have e2 : (-(u : Int)).tmod 10 = -((u % 10 : Nat) : Int) := by rw [Int.neg_tmod, Int.tmod_eq_emod_of_nonneg (by omega)]; omega
    refine ⟨u % 10, -((u / 10 : Nat) : Int), by omega, by omega, by omega, by omega, by omega, e1, ?_⟩
    by_cases hc : u % 10 = 0
    · left; rw [e2, hc]; rfl
    · right; exact ⟨by omega, e2⟩
  · obtain ⟨u, rfl⟩ : ∃ u : Nat, x = (u : Int) := ⟨x.natAbs, by omega⟩
    have e1 : (u : Int).tdiv 10 = ((u / 10 : Nat) : Int) := by rw [Int.tdiv_eq_ediv_of_nonneg (by omega)]; omega
    have e2 : (u : Int).tmod 10 = ((u % 10 : Nat) : Int) := by rw [Int.tmod_eq_emod_of_nonneg (by omega)]; omega
    exact ⟨u % 10, ((u / 10 : Nat) : Int), by omega, by omega, by omega, by omega, by omega, e1, .inl e2⟩
theorem rev_snocB (zs : List UInt8) (k : Nat) (h : k < zs.length) : zs.reverse.take (k + 1) = zs.reverse.take k ++ [zs.getD (zs.length - 1 - k) 0] := by
  rw [List.take_succ_eq_append_getElem (by simpa using h)]
  congr 2
  rw [List.getElem_reverse, List.getD_eq_getElem?_getD, List.getElem?_eq_getElem (by omega)]; rfl
end Go.Proofs.YtbifkjmmhfnblaaDoor.Ints
