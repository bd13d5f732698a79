/- The model's test of lists that have each number once: a row of marks. -/
import Derived.Test.YtfcakadmiflcdaaOrd
namespace Go.Proofs.Ytfcakadmiflcdaa.Ints
open Go.RowKit
set_option linter.unusedVariables false
set_option linter.unusedSimpArgs false
theorem infoB : (Try.prog.info? 4).map (fun i => (i.zero, i.size, i.bytes)) = some (some (.bool false), 1, 1) := by kernel_rfl
/-- Which numbers are among the first k. -/
def seenL (zs : List Int) (k n : Nat) : List Bool := (List.range n).map fun (j : Nat) => decide ((j : Int) ∈ zs.take k)
@[simp] theorem seenL_length (zs : List Int) (k n : Nat) : (seenL zs k n).length = n := by simp [seenL]
theorem seenL_at (zs : List Int) (k n m : Nat) (h : m < n) : (seenL zs k n)[m]? = some (decide ((m : Int) ∈ zs.take k)) := by simp [seenL, h]
theorem seenL_zero (zs : List Int) (n : Nat) : (seenL zs 0 n).map Value.bool = (madeCells #[Value.bool false] n).toList := by
  apply List.ext_getElem?
  intro j
  by_cases h : j < n <;> simp [seenL, madeCells, h, Nat.mod_one]
theorem seenL_succ (zs : List Int) (k n m : Nat) (hm : m < n) (hk : k < zs.length) (hz : zs.getD k 0 = (m : Int)) : (seenL zs k n).set m true = seenL zs (k + 1) n := by
  have ht : zs.take (k + 1) = zs.take k ++ [(m : Int)] := by rw [List.take_succ_eq_append_getElem hk, ← hz, List.getD_eq_getElem?_getD, List.getElem?_eq_getElem hk]; rfl
  apply List.ext_getElem?
  intro j
  by_cases h : j < n
  · rw [seenL_at zs (k + 1) n j h, ht, List.getElem?_set]
    by_cases e : m = j
    · subst e; simp [hm]
    · rw [if_neg e, seenL_at zs k n j h]
      have : ¬ (j : Int) = (m : Int) := by omega
      simp [this]
  · rw [List.getElem?_eq_none (by simp; omega), List.getElem?_eq_none (by simp; omega)]
set_option maxHeartbeats 4000000 in
set_option maxRecDepth 100000 in
theorem specOrder (v : Value) (zs : List Int) (n : Int) (w : World) (hv : Rd w v zs) (hn : 0 ≤ n ∧ n ≤ 1000000) :
    Calls Try.prog 70 #[v, .int .i64 n] w fun e w' => e = .returned (.bool (ordB n zs)) ∧ Below w.heap.size w w' := by
  obtain ⟨hl, _, a, c, rfl, hcap, hr⟩ := hv
  have HR := Lib.hid hr
  obtain ⟨j0, hi, hz0, hz1, hz2⟩ := info_parts infoB
  clear hr
  by_cases h0 : (zs.length : Int) = n
  rotate_left
  · have hq : ((zs.length : Int) != n) = true := by simp [h0]
    have e := Lib.hid (ordB_false (n := n) (zs := zs) (fun h => h0 h.1))
    clear h0
    go_enter Try.func70, Try.ntmps70
    go_wp2
    go_ret
    exact ⟨by rw [e.out] <;> rfl, Below.refl _ _⟩
  have hq : ((zs.length : Int) != n) = false := by simp [h0]
  have H0 := Lib.hid h0
  have e1 : IntKind.i64.wrap (n - 1) = n - 1 := by rw [IntKind.wrap_i64]; omega
  clear h0
  go_enter Try.func70, Try.ntmps70
  go_wp2_with (at_make; refine wpList_make_full _ rfl _ _ 111 rfl w.heap.size 4 j0 (.bool false) 1 Try.underlying111 hi hz0 hz1 _ _ _ _ zs.length rfl rfl rfl rfl ?b2 ?b3 (Nat.le_refl _) ?_)
  case b2 => rw [hz2]; omega
  case b3 => unfold maxLen; omega
  intro w0 hown0 hgrow0
  have HO0 : Hid (w0.ownsRow w.heap.size 4 1 (.slice (some ⟨w.heap.size, 0, none⟩) zs.length zs.length) zs.length ((seenL zs 0 zs.length).map Value.bool)) := Lib.hid (by rw [seenL_zero]; simpa using hown0)
  have HB0 : Hid (Below w.heap.size w w0) := Lib.hid ((Below.refl _ _).grown hgrow0 (Nat.le_refl _) (fun k h => by cases h))
  clear hown0 hgrow0
  go_wp2
  go_loopw [6] (fun s wr => ∃ k : Nat, k ≤ zs.length ∧ s = .int .i64 k ∧ wr.ownsRow w.heap.size 4 1 (.slice (some ⟨w.heap.size, 0, none⟩) zs.length zs.length) zs.length ((seenL zs k zs.length).map Value.bool) ∧ Below w.heap.size w wr ∧ (∀ i, i < k → 0 ≤ zs.getD i 0 ∧ zs.getD i 0 < n) ∧ (zs.take k).Nodup) (fun s _ => zs.length - (intOf s).toNat)
  case atStart => exact ⟨0, Nat.zero_le _, rfl, HO0.out, HB0.out, fun i hi => by omega, by simp⟩
  case round =>
    obtain ⟨k, hk, rfl, hown, hbr, hdig, hnd⟩ := hrel
    have HDG := Lib.hid hdig
    have HND := Lib.hid hnd
    have HBR := Lib.hid hbr
    clear hdig hnd
    by_cases hlt : k < zs.length
    rotate_left
    · obtain rfl : k = zs.length := by omega
      have e := Lib.hid (ordB_true (n := n) (zs := zs) ⟨H0.out, HDG.out, by have := HND.out; rwa [List.take_length] at this⟩)
      clear hown hbr
      go_wp2
      go_ret
      exact ⟨by rw [e.out] <;> rfl, HBR.out⟩
    obtain ⟨b, o, rfl, hb, hcell⟩ := HR.out (by intro h0; rw [h0] at hlt; simp at hlt)
    have hc := (hbr.cell (p := ⟨b, o + k, none⟩) hb).trans (hcell k hlt)
    obtain ⟨y, hy⟩ : ∃ y, y = zs.getD k 0 := ⟨_, rfl⟩
    rw [← hy] at hc
    have HY := Lib.hid hy
    have n0 : (0 : Int) ≤ (k : Int) := by omega
    have n1 : (k : Int) < (zs.length : Int) := by omega
    clear hcell hy
    by_cases hyb : 0 ≤ y ∧ y ≤ n - 1
    rotate_left
    · have HYB := Lib.hid hyb
      have e := Lib.hid (ordB_false (n := n) (zs := zs) (fun h => hyb (by have := h.2.1 k hlt; rw [← HY.out] at this; omega)))
      clear hyb hown hbr
      go_wp2_with fail
      refine (specInN y 0 (n - 1) _ HYB.out).mono ?_
      rintro e2 w2 ⟨rfl, rfl⟩
      go_wp2
      go_ret
      exact ⟨by rw [e.out] <;> rfl, HBR.out⟩
    obtain ⟨m, rfl⟩ : ∃ m : Nat, y = (m : Int) := ⟨y.toNat, by omega⟩
    have hml : m < zs.length := by have := H0.out; omega
    have HYB := Lib.hid hyb
    have hcs := hown.cellAt m (by omega)
    rw [List.getElem?_map, seenL_at zs k zs.length m hml] at hcs
    have hfs := hown.frozenAt m
    obtain ⟨s1, g1⟩ := hown.stored m (.bool true)
    rw [← List.map_set, seenL_succ zs k zs.length m hml hlt HY.out.symm] at s1
    have HS1 := Lib.hid s1
    have HS2 := Lib.hid (HBR.out.grown g1 HBR.out.size (fun q hq => by cases hq; exact Nat.le_refl _))
    have HDN : Hid (∀ i, i < k + 1 → 0 ≤ zs.getD i 0 ∧ zs.getD i 0 < n) := Lib.hid (fun i hi => by
      by_cases e : i = k
      · subst e; rw [← HY.out]; omega
      · exact HDG.out i (by omega))
    have m0 : (0 : Int) ≤ (m : Int) := by omega
    have m1 : (m : Int) < (zs.length : Int) := by omega
    obtain ⟨bs, hbs⟩ : ∃ b : Bool, b = decide ((m : Int) ∈ zs.take k) := ⟨_, rfl⟩
    rw [← hbs] at hcs
    simp only [Option.map_some] at hcs
    have HBS := Lib.hid hbs
    clear hyb hown hbr s1 g1 hbs
    rcases eqOr bs with hb2 | hb2
    · subst hb2
      have hnm : (m : Int) ∉ zs.take k := by simpa using HBS.out.symm
      have HNN : Hid ((zs.take (k + 1)).Nodup) := Lib.hid (by
        rw [List.take_succ_eq_append_getElem hlt]
        have e : zs[k] = (m : Int) := by have h := HY.out; rw [List.getD_eq_getElem?_getD, List.getElem?_eq_getElem hlt] at h; exact h.symm
        rw [e]
        exact List.pairwise_append.2 ⟨HND.out, by simp, fun x hx z hz => by simp at hz; subst hz; exact fun h => hnm (h ▸ hx)⟩)
      clear hnm
      go_wp2_with fail
      refine (specInY (m : Int) 0 (n - 1) _ HYB.out).mono ?_
      rintro e2 w2 ⟨rfl, rfl⟩
      go_wp2
      go_roundw
      case rel => exact ⟨k + 1, by omega, by go_num, HS1.out, HS2.out, HDN.out, HNN.out⟩
      case measure => simp [intOf]; omega
    · subst hb2
      have hmm : (m : Int) ∈ zs.take k := by simpa using HBS.out.symm
      have e := Lib.hid (ordB_false (n := n) (zs := zs) (fun h => by
        have h2 : (zs.take (k + 1)).Nodup := h.2.2.sublist (List.take_sublist _ _)
        rw [List.take_succ_eq_append_getElem hlt] at h2
        have e : zs[k] = (m : Int) := by have h := HY.out; rw [List.getD_eq_getElem?_getD, List.getElem?_eq_getElem hlt] at h; exact h.symm
        exact (List.pairwise_append.1 h2).2.2 _ hmm _ (by simp) e.symm))
      clear hmm
      go_wp2_with fail
      refine (specInY (m : Int) 0 (n - 1) _ HYB.out).mono ?_
      rintro e2 w2 ⟨rfl, rfl⟩
      go_wp2
      go_ret
      exact ⟨by rw [e.out] <;> rfl, HBR.out⟩
end Go.Proofs.Ytfcakadmiflcdaa.Ints
