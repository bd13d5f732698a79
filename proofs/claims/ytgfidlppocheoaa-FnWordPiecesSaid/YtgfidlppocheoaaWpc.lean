/- What FnWordPieces asks of its parts: values. -/
import Derived.Test.YtgfidlppocheoaaR8l
import Derived.Test.YtgfidlppocheoaaPwW
import Derived.Test.YtgfidlppocheoaaRoot
import Derived.Test.YtgfidlppocheoaaOccN
import Derived.Test.YtgfidlppocheoaaRepN
namespace Go.Proofs.Ytgfidlppocheoaa.Ints
open Go.RowKit
set_option linter.unusedVariables false
set_option linter.unusedSimpArgs false
theorem findF_spec (zs ps : List Int) : ∀ (f s : Nat), findF zs ps f s = -1 ∨ ∃ k : Nat, findF zs ps f s = k ∧ s ≤ k ∧ k < s + f ∧ occB zs k ps = true := by
  intro f
  induction f with
  | zero => intro s; exact .inl rfl
  | succ f ih =>
    intro s
    rw [findF]
    split
    · rename_i h; exact .inr ⟨s, rfl, Nat.le_refl _, by omega, h⟩
    · rcases ih (s + 1) with h | ⟨k, h1, h2, h3, h4⟩
      · exact .inl h
      · exact .inr ⟨k, h1, by omega, by omega, h4⟩
theorem find_spec (zs ps : List Int) : findL zs ps 0 = -1 ∨ ∃ k : Nat, findL zs ps 0 = k ∧ k + ps.length ≤ zs.length ∧ occB zs k ps = true := by
  rcases findF_spec zs ps (zs.length + 1 - ps.length - 0) 0 with h | ⟨k, h1, h2, h3, h4⟩
  · exact .inl h
  · exact .inr ⟨k, h1, by omega, h4⟩
/-- A part that does not occur. -/
theorem pc_none {zs ps : List Int} (hz : wordB zs = true) (hp : wordB ps = true) (h : findL zs ps 0 = -1) : occL zs ps = [] ∧ occC zs ps = 0 ∧ rfR zs ps zs = ([], 3) := by
  have hb : (wordB zs && wordB ps) = true := by rw [hz, hp]; rfl
  refine ⟨?_, by rw [occC, if_pos hb], ?_⟩
  · rw [occL, if_pos hb, occAll, h, occF, if_pos (by omega)]
  · rw [rfR, allB, hz, hp, if_neg (by simp), h, if_pos (by omega)]
/-- A part that occurs. -/
theorem pc_some {zs ps : List Int} {k : Nat} (hz : wordB zs = true) (hp : wordB ps = true) (h : findL zs ps 0 = k) (hk : k + ps.length ≤ zs.length) (ho : occB zs k ps = true) (h8 : zs.length ≤ 8) :
    (∃ r, occL zs ps = (k : Int) :: r) ∧ occC zs ps = 0 ∧ rfR zs ps zs = (putL zs k ps.length zs, 0) ∧ raR zs (k : Int) ps zs = (putL zs k ps.length zs, 0) ∧ (putL zs k ps.length zs).length = zs.length - ps.length + zs.length := by
  have hb : (wordB zs && wordB ps) = true := by rw [hz, hp]; rfl
  have hl := putL_length zs k ps.length zs hk
  have h400 : (putL zs k ps.length zs).length ≤ 400 := by rw [hl]; omega
  refine ⟨⟨occF zs ps (zs.length + 1) (findL zs ps ((k : Int).toNat + 1)), ?_⟩, by rw [occC, if_pos hb], ?_, ?_, hl⟩
  · rw [occL, if_pos hb, occAll, h, occF, if_neg (by omega)]
  · rw [rfR, allB, hz, hp, if_neg (by simp), h, if_neg (by omega), Int.toNat_natCast, rpL, rpC, if_pos h400, if_pos h400]
  · rw [raR, allB, hz, hp, if_neg (by simp), if_neg (by omega), Int.toNat_natCast, ho, if_neg (by simp), rpL, rpC, if_pos h400, if_pos h400]
theorem asc_last (w : List Int) (n : Nat) : ∀ k, (asc w n k = [] ∧ maxB w n k = -1) ∨ ∃ us, asc w n k = us ++ [maxB w n k] := by
  intro k
  induction k with
  | zero => exact .inl ⟨rfl, rfl⟩
  | succ k ih =>
    rw [asc, maxB]
    split
    · exact .inr ⟨_, rfl⟩
    · exact ih
/-- The greatest border and the least period are the length together. -/
theorem pc_bord {zs : List Int} (hz : wordB zs = true) (h0 : 0 < zs.length) : ∃ us, boL zs = us ++ [(zs.length : Int) - perV zs] ∧ boC zs = 0 := by
  obtain ⟨k, h1, h2, _⟩ := mb_spec zs zs.length h0
  have hb := bo_good hz
  refine (asc_last zs zs.length zs.length).elim (fun h => ?_) (fun h => ?_)
  · exfalso
    have := h.2
    change mb zs zs.length = -1 at this
    omega
  · obtain ⟨us, h⟩ := h
    refine ⟨us, ?_, hb.2⟩
    rw [hb.1, h, perV]
    congr 2
    change mb zs zs.length = _
    omega
theorem per_again {zs : List Int} {p : Nat} (hb : isB zs zs.length (zs.length - p)) (h1 : 1 ≤ p) (hp : p ≤ zs.length) : ∀ (q j : Nat), q * p + j < zs.length → zs.getD (q * p + j) 0 = zs.getD j 0 := by
  intro q
  induction q with
  | zero => intro j _; simp
  | succ q ih =>
    intro j hj
    rw [Nat.succ_mul] at hj
    have h := hb.2 (q * p + j) (by omega)
    rw [show zs.length - (zs.length - p) + (q * p + j) = (q + 1) * p + j by rw [Nat.succ_mul]; omega] at h
    rw [← h]
    exact ih j (by omega)
/-- A word is a power of its root. -/
theorem pc_root {zs : List Int} (hz : wordB zs = true) (h0 : 0 < zs.length) : pwR (rtL zs) (rtI zs) = (zs, 0) ∧ rtC zs = 0 := by
  have hlen := (wordB_iff hz).1
  have hwd := wordB_iff hz
  have hc : rtC zs = 0 := by rw [rtC, if_pos hz, if_pos h0]
  refine ⟨?_, hc⟩
  have hL : rtL zs = zs.take (rtN zs) := by rw [rtL, if_pos ⟨hz, h0⟩]
  have hI : rtI zs = (zs.length : Int) / (rtN zs : Int) := by rw [rtI, if_pos ⟨hz, h0⟩]
  by_cases hd : (zs.length : Int) % perV zs ≠ 0
  · have hN : rtN zs = zs.length := by rw [rtN, if_pos hd]
    rw [hL, hI, hN, List.take_length, Int.ediv_self (by omega), pwR_good hz (by omega) (by omega)]
    simp [pwL]
  · obtain ⟨k, h1, h2, hB⟩ := mb_spec zs zs.length h0
    obtain ⟨p, hp⟩ : ∃ p : Nat, p = zs.length - k := ⟨_, rfl⟩
    have hpv : perV zs = (p : Int) := by rw [perV, h1]; omega
    have hN : rtN zs = p := by rw [rtN, if_neg hd, hpv]; rfl
    have hk : k = zs.length - p := by omega
    rw [hpv] at hd
    obtain ⟨c, hcp⟩ : ∃ c : Nat, zs.length = c * p := by
      have h3 : zs.length % p = 0 := by omega
      exact ⟨zs.length / p, by have := Nat.div_add_mod zs.length p; rw [h3, Nat.mul_comm] at this; omega⟩
    have hp1 : 1 ≤ p := by omega
    have hcI : (zs.length : Int) / (p : Int) = (c : Int) := by
      rw [hcp]; push_cast; exact Int.mul_ediv_cancel _ (by omega)
    have hcl : c ≤ zs.length := by rw [hcp]; exact Nat.le_mul_of_pos_right _ hp1
    have htl : (zs.take p).length = p := by rw [List.length_take]; omega
    have hwt : wordB (zs.take p) = true := wordB_true ⟨by rw [htl]; omega, fun i hi => by
      rw [htl] at hi
      rw [List.getD_eq_getElem?_getD, List.getElem?_take, if_pos hi, ← List.getD_eq_getElem?_getD]
      exact hwd.2 i (by omega)⟩
    have hpr : ((zs.take p).length : Int) * (c : Int) = (zs.length : Int) := by rw [htl, hcp]; push_cast; rw [Int.mul_comm]
    rw [hL, hI, hN, hcI, pwR_good hwt (by omega) (by rw [hpr]; omega), Int.toNat_natCast]
    congr 1
    have hBB : isB zs zs.length (zs.length - p) := by rw [← hk]; exact hB.1
    apply getD_injQ (by rw [pwL_len, htl, ← hcp])
    intro i hi
    rw [pwL_len, htl, ← hcp] at hi
    have e : i = (i / p) * p + i % p := by have := Nat.div_add_mod i p; rw [Nat.mul_comm] at this; omega
    have hm : i % p < p := Nat.mod_lt _ hp1
    have hic : i / p ≤ c := by
      have : i / p * p ≤ c * p := by omega
      exact Nat.le_of_mul_le_mul_right this hp1
    have l := pwL_again (zs.take p) (n := c) (c := i / p) (i := i % p) hic (by rw [htl, ← hcp]; omega)
    rw [htl, ← e] at l
    have r := per_again hBB hp1 (by omega) (i / p) (i % p) (by omega)
    rw [← e] at r
    rw [l, r, pwL_first (zs.take p) (by rcases Nat.eq_zero_or_pos c with h | h; · rw [h] at hcp; omega
                                        · exact h) (by rw [htl]; exact hm), List.getD_eq_getElem?_getD, List.getElem?_take, if_pos hm, ← List.getD_eq_getElem?_getD]
end Go.Proofs.Ytgfidlppocheoaa.Ints
