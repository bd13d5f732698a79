/- Lists that have each number once: the program's test and the model's. -/
import Derived.Test.YtfcakadmiflcdaaSrtI
import Derived.Test.YtfcakadmiflcdaaDig
import Derived.Test.YtfcakadmiflcdaaIn
import Derived.Test.YtfcakadmiflcdaaCel
import Derived.Lib.AppendZeros
namespace Go.Proofs.Ytfcakadmiflcdaa.Ints
open Go.RowKit
set_option linter.unusedVariables false
set_option linter.unusedSimpArgs false
def Ord (n : Int) (zs : List Int) : Prop := (zs.length : Int) = n ∧ Dig n zs ∧ zs.Nodup
open Classical in
noncomputable def ordB (n : Int) (zs : List Int) : Bool := decide (Ord n zs)
theorem ordB_true {n : Int} {zs : List Int} (h : Ord n zs) : ordB n zs = true := by simp [ordB, h]
theorem ordB_false {n : Int} {zs : List Int} (h : ¬ Ord n zs) : ordB n zs = false := by simp [ordB, h]
theorem ordB_ok {n : Int} {zs : List Int} (h : ordB n zs = true) : Ord n zs := by simpa [ordB] using h
theorem digB_ok' {b : Int} {zs : List Int} (h : digB b zs = true) : Dig b zs := by simpa [digB] using h
theorem digB_no' {b : Int} {zs : List Int} (h : digB b zs = false) : ¬ Dig b zs := by simpa [digB] using h
set_option maxHeartbeats 2000000 in
theorem implIsOrder (v : Value) (zs : List Int) (n : Int) (w : World) (h : Rd w v zs) :
    Calls Try.prog 71 #[v, .int .i64 n] w fun e w' => e = .returned (.bool (ordB n zs)) ∧ Below w.heap.size w w' := by
  have H := Lib.hid h
  have hl := h.len
  obtain ⟨_, _, a, c, rfl, _, _⟩ := h
  by_cases h0 : (zs.length : Int) = n
  rotate_left
  · have hq : ((zs.length : Int) == n) = false := by simp [h0]
    have e := Lib.hid (ordB_false (n := n) (zs := zs) (fun h => h0 h.1))
    clear h0
    go_enter Try.func71, Try.ntmps71
    go_wp2
    go_ret
    exact ⟨by rw [e.out] <;> rfl, Below.refl _ _⟩
  have hq : ((zs.length : Int) == n) = true := by simp [h0]
  have H0 := Lib.hid h0
  obtain ⟨bd, hbd⟩ : ∃ b, b = digB n zs := ⟨_, rfl⟩
  have HD := Lib.hid hbd
  clear hbd h0
  go_enter Try.func71, Try.ntmps71
  go_wp2_with fail
  refine (areBelow_any _ zs n _ H.out).mono ?_
  rintro e w1 ⟨rfl, hb⟩
  rw [← HD.out]
  have HB1 := Lib.hid hb
  clear hb
  rcases eqOr bd with hb | hb
  · subst hb
    have e := Lib.hid (ordB_false (fun h : Ord n zs => digB_no' HD.out.symm h.2.1))
    go_wp2_with fail
    go_ret
    exact ⟨by rw [e.out] <;> rfl, HB1.out⟩
  subst hb
  go_wp2_with fail
  refine (implSortList _ zs _ (H.out.below HB1.out (Nat.le_refl _))).mono ?_
  rintro e w2 ⟨u, rfl, ho, hb⟩
  have HO := Lib.hid ho
  have HB2 := Lib.hid (HB1.out.trans (hb.mono HB1.out.size))
  obtain ⟨ga, gc, hu⟩ := ho.shape
  rw [srt_length] at hu
  subst hu
  clear ho hb
  go_wp2_with fail
  refine (libCompact _ (srt zs) _ _ _ HO.out).mono ?_
  rintro e w3 ⟨u, rfl, ho, hg⟩
  have HB3 := Lib.hid (HB2.out.trans ((grown_below HO.out hg).mono HB1.out.size))
  obtain ⟨gb, gd, hu⟩ := ho.shape
  subst hu
  obtain ⟨m, hm⟩ : ∃ m, m = (Lib.compact (srt zs)).length := ⟨_, rfl⟩
  have hle : m ≤ zs.length := by rw [hm, ← srt_length zs]; exact compact_le _
  have HM := Lib.hid hm
  rw [← hm]
  clear ho hg hm
  by_cases hn : m = zs.length
  · have hd : ((m : Int) == (zs.length : Int)) = true := by simp [hn]
    have hd' : (m == zs.length) = true := by simp [hn]
    have e := Lib.hid (ordB_true ⟨H0.out, digB_ok' HD.out.symm, (compact_srt_nodup zs).1 (by rw [← HM.out, hn])⟩)
    clear hn
    go_wp2_with fail
    go_ret
    exact ⟨by rw [e.out] <;> rfl, HB3.out⟩
  · have hd : ((m : Int) == (zs.length : Int)) = false := by simp; omega
    have hd' : (m == zs.length) = false := by simp [hn]
    have e := Lib.hid (ordB_false (fun h : Ord n zs => hn (by rw [HM.out]; exact (compact_srt_nodup zs).2 h.2.2)))
    clear hn
    go_wp2_with fail
    go_ret
    exact ⟨by rw [e.out] <;> rfl, HB3.out⟩
end Go.Proofs.Ytfcakadmiflcdaa.Ints
