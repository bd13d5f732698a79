/- Two naturals chosen by bytes, and their arithmetic. -/
import Derived.Test.YtfnopnaaahkklaaB1d
import Derived.Test.YtfnopnaaahkklaaAddN
import Derived.Test.YtfnopnaaahkklaaSubN
import Derived.Test.YtfnopnaaahkklaaMulN
namespace Go.Proofs.Ytfnopnaaahkklaa.Ints
open Go.RowKit
set_option linter.unusedVariables false
set_option linter.unusedSimpArgs false
theorem natB_val {N : Int} (h : Nn 40 N) : natB (canOf N) = true := can_natB h.can.1 h.can.2.2
theorem fit_good {N : Int} (h : Nn 40 N) : fitL (canOf N) = canOf N ∧ fitC (canOf N) = 0 := ⟨if_pos h.can.2.2, if_pos h.can.2.2⟩
theorem ar_sum {xs ys : List Int} (hx : natB xs = true) (hy : natB ys = true) : (addC xs ys = 0 ∧ sbC (addL xs ys) ys = 0 ∧ sbL (addL xs ys) ys = xs) ∨ (addC xs ys = 5 ∧ 0 < ys.length) := by
  obtain ⟨cx, lx⟩ := natB_can hx
  obtain ⟨cy, ly⟩ := natB_can hy
  have nx := nn_of cx lx
  have ny := nn_of cy ly
  obtain ⟨e1, e2⟩ := add_good hx hy
  have hs := canOf_spec (v := val xs + val ys) (by have := nx.nn; have := ny.nn; omega)
  by_cases hf : (canOf (val xs + val ys)).length ≤ 40
  · left
    have hl : addL xs ys = canOf (val xs + val ys) := by rw [e1, fitL, if_pos hf]
    have hn : natB (canOf (val xs + val ys)) = true := can_natB hs.1 hf
    have hle : val ys ≤ val (canOf (val xs + val ys)) := by rw [hs.2]; have := nx.nn; omega
    refine ⟨by rw [e2, fitC, if_pos hf], ?_, ?_⟩
    · rw [hl, sbC, if_pos ⟨hn, hy⟩, if_pos hle]
    · rw [hl, sbL, if_pos ⟨hn, hy, hle⟩, hs.2, show val xs + val ys - val ys = val xs by omega, canOf_val cx]
  · right
    refine ⟨by rw [e2, fitC, if_neg hf], ?_⟩
    rcases Nat.eq_zero_or_pos ys.length with h0 | h0
    · exfalso
      apply hf
      rw [List.length_eq_zero_iff.1 h0, show val [] = 0 from rfl, Int.add_zero, canOf_val cx]
      exact lx
    · exact h0
theorem ar_spec {xs ys : List Int} (hx : natB xs = true) (hy : natB ys = true) (hp : 0 < ys.length) : ∃ q r p g : List Int, dvQ xs ys = q ∧ dvR xs ys = r ∧ dvC xs ys = 0 ∧ mulL q ys = p ∧ mulC q ys = 0 ∧ addL p r = xs ∧ addC p r = 0 ∧
    Can r ∧ Can ys ∧ val r < val ys ∧ gcV xs ys = g ∧ gcC xs ys = 0 ∧ 0 < g.length ∧ dvR xs g = [] ∧ dvC xs g = 0 ∧ dvR ys g = [] ∧ dvC ys g = 0 := by
  obtain ⟨cx, lx⟩ := natB_can hx
  obtain ⟨cy, ly⟩ := natB_can hy
  have nx := nn_of cx lx
  have ny := nn_of cy ly
  have hB := val_pos cy hp
  obtain ⟨d1, d2, d3⟩ := dv_good hx hy hp
  have a0 := nx.nn
  have m0 := Int.emod_nonneg (val xs) (show val ys ≠ 0 by omega)
  have m1 := Int.emod_lt_of_pos (val xs) hB
  have md := Int.mul_ediv_add_emod (val xs) (val ys)
  rw [Int.mul_comm] at md
  have nq : Nn 40 (val xs / val ys) := nx.div (by omega)
  have nr : Nn 40 (val xs % val ys) := ⟨m0, by have := ny.lt; omega⟩
  have np : Nn 40 (val xs / val ys * val ys) := ⟨Int.mul_nonneg nq.nn ny.nn, by have := nx.lt; omega⟩
  have hg := gc_good ⟨hx, hy⟩
  have gpos : 0 < gcN xs ys := Nat.gcd_pos_of_pos_right _ (by omega)
  have gle : gcN xs ys ≤ (val ys).toNat := Nat.gcd_le_right _ (by omega)
  have ng : Nn 40 (gcN xs ys : Int) := ⟨by omega, by have := ny.lt; omega⟩
  have gz : ∀ zs : List Int, natB zs = true → gcN xs ys ∣ (val zs).toNat → dvR zs (canOf (gcN xs ys : Int)) = [] ∧ dvC zs (canOf (gcN xs ys : Int)) = 0 := fun zs hz hd => by
    have hgl : 0 < (canOf (gcN xs ys : Int)).length := by
      rcases Nat.eq_zero_or_pos (canOf (gcN xs ys : Int)).length with h | h
      · have h2 := ng.can.2.1
        rw [List.length_eq_zero_iff.1 h] at h2
        simp only [val] at h2
        omega
      · exact h
    obtain ⟨_, e2, e3⟩ := dv_good hz (natB_val ng) hgl
    refine ⟨?_, e3⟩
    have hz0 := (nn_of (natB_can hz).1 (natB_can hz).2).nn
    rw [e2, ng.can.2.1]
    have : val zs % (gcN xs ys : Int) = 0 := by
      obtain ⟨t, ht⟩ := hd
      have : val zs = (gcN xs ys : Int) * (t : Int) := by rw [← Int.natCast_mul, ← ht]; omega
      rw [this]; exact Int.mul_emod_right _ _
    rw [this]; exact zero_can
  have hgl : 0 < (canOf (gcN xs ys : Int)).length := by
    rcases Nat.eq_zero_or_pos (canOf (gcN xs ys : Int)).length with h | h
    · have h2 := ng.can.2.1
      rw [List.length_eq_zero_iff.1 h] at h2
      simp only [val] at h2
      omega
    · exact h
  obtain ⟨e1, e2⟩ := mul_good (natB_val nq) hy
  rw [nq.can.2.1] at e1 e2
  obtain ⟨f1, f2⟩ := add_good (natB_val np) (natB_val nr)
  rw [np.can.2.1, nr.can.2.1, md, canOf_val cx] at f1 f2
  refine ⟨canOf (val xs / val ys), canOf (val xs % val ys), canOf (val xs / val ys * val ys), canOf (gcN xs ys : Int), d1, d2, d3, by rw [e1, (fit_good np).1], by rw [e2, (fit_good np).2], by rw [f1, fitL, if_pos lx], by rw [f2, fitC, if_pos lx],
    nr.can.1, cy, by rw [nr.can.2.1]; exact m1, hg.1, hg.2, hgl, ?_, ?_, ?_, ?_⟩
  · exact (gz xs hx (Nat.gcd_dvd_left _ _)).1
  · exact (gz xs hx (Nat.gcd_dvd_left _ _)).2
  · exact (gz ys hy (Nat.gcd_dvd_right _ _)).1
  · exact (gz ys hy (Nat.gcd_dvd_right _ _)).2
set_option maxHeartbeats 2000000 in
theorem b10Nat (v : Value) (n : Nat) (w : World) (hv : RdB w w.heap.size v n) :
    Calls Try.prog 30 #[v] w fun e w' => ∃ (u1 u2 : Value) (xs ys : List Int), e = .returned (.tuple #[u1, u2]) ∧ natB xs = true ∧ natB ys = true ∧ Rd w' u1 xs ∧ Rd w' u2 ys ∧ Below w.heap.size w w' := by
  have HV := Lib.hid hv
  obtain ⟨_, _, a, c, rfl, _, _⟩ := hv
  go_enter Try.func30, Try.ntmps30
  go_wp2_with fail
  refine (srcFrom a n c _).mono ?_
  rintro e w1 ⟨rfl, hc1, hb1, hs1⟩
  have HC1 := Lib.hid hc1
  have HB1 := Lib.hid hb1
  have HS1 := Lib.hid hs1
  clear hc1 hb1 hs1
  go_wp2_with fail
  refine (specDraw w.heap.size 0 n w.heap.size _ 0 _ HC1.out (HV.out.below HB1.out (Nat.le_refl _)) (Nat.le_refl _) (by omega)).mono ?_
  rintro e w2 ⟨u1, xs, s2, k2, rfl, hn1, hk2, ho2, hc2, hb2, hon2⟩
  have HN1 := Lib.hid hn1
  have HC2 := Lib.hid hc2
  have HO2 := Lib.hid ho2
  have HB2 := Lib.hid (HB1.out.trans hb2)
  have hs2 : w.heap.size + 1 ≤ w2.heap.size := by have := hb2.size; have := HS1.out; omega
  clear ho2 hc2 hb2 hon2 hn1
  go_wp2_with fail
  refine (specDraw w.heap.size k2 n w.heap.size _ s2 _ HC2.out (HV.out.below HB2.out (Nat.le_refl _)) (Nat.le_refl _) (by omega)).mono ?_
  rintro e w3 ⟨u2, ys, s3, k3, rfl, hn2, hk3, ho3, hc3, hb3, hon3⟩
  have HN2 := Lib.hid hn2
  have HR2 := Lib.hid ho3.rd
  have HR1 : Hid (Rd w3 u1 xs) := Lib.hid (HO2.out.onlyQ hon3 (fun b h1 h2 h3 => by have := HS1.out; omega)).rd
  have HB3 := Lib.hid (HB2.out.trans hb3)
  clear ho3 hc3 hb3 hon3 hn2
  go_wp2
  go_ret2
  exact ⟨u1, u2, xs, ys, rfl, HN1.out, HN2.out, HR1.out, HR2.out, HB3.out⟩
end Go.Proofs.Ytfnopnaaahkklaa.Ints
