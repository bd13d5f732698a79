/- The program's test that all lists of a list are words. -/
import Derived.Test.YtbigoljfanendaaDoorWord
import Derived.Test.YtbigoljfanendaaDoorRdL
namespace Go.Proofs.YtbigoljfanendaaDoor.Ints
open Go.RowKit
set_option linter.unusedVariables false
noncomputable def allW (zss : List (List Int)) : Bool := zss.all wordB
theorem allW_true {zss : List (List Int)} (h : ∀ i, i < zss.length → wordB (zss.getD i []) = true) : allW zss = true := by
  rw [allW, List.all_eq_true]
  intro x hx
  obtain ⟨i, hi, rfl⟩ := List.getElem_of_mem hx
  have := h i hi
  rwa [List.getD_eq_getElem?_getD, List.getElem?_eq_getElem hi] at this
theorem allW_false {zss : List (List Int)} {i : Nat} (hi : i < zss.length) (h : wordB (zss.getD i []) = false) : allW zss = false := by
  rw [allW, List.all_eq_false]
  refine ⟨_, List.getElem_mem hi, ?_⟩
  rw [List.getD_eq_getElem?_getD, List.getElem?_eq_getElem hi] at h
  simp at h
  simp [h]
theorem allW_two (xs ys : List Int) : allW [xs, ys] = (wordB xs && wordB ys) := by simp [allW]
theorem allW_three (xs ys zs : List Int) : allW [xs, ys, zs] = (wordB xs && (wordB ys && wordB zs)) := by simp [allW]
set_option maxHeartbeats 1000000 in
theorem eachWords (v : Value) (zss : List (List Int)) (w : World) (h : RdL w v zss) :
    Calls Tryd.prog 200 #[.func (Fn.func 201) #[] #[], v] w fun e w' => e = .returned (.bool (allW zss)) ∧ Below w.heap.size w w' := by
  have HH := Lib.hid h
  have hl := h.len
  obtain ⟨_, a, c, rfl, hcap, hr⟩ := h
  clear hr
  go_enter Tryd.func200, Tryd.ntmps200
  go_wp2
  go_loopw [9] (fun s wr => ∃ k : Nat, k ≤ zss.length ∧ s = .int .i64 k ∧ (∀ i, i < k → wordB (zss.getD i []) = true) ∧ Below w.heap.size w wr) (fun s _ => zss.length - (intOf s).toNat)
  case atStart => exact ⟨0, Nat.zero_le _, rfl, fun i hi => by omega, Below.refl _ _⟩
  case round =>
    obtain ⟨k, hk, rfl, hall, hbel⟩ := hrel
    have HA := Lib.hid hall
    have HB := Lib.hid hbel
    clear hall hbel
    by_cases hlt : k < zss.length
    · obtain ⟨_, a', c', he, _, hr⟩ := HH.out.below HB.out (Nat.le_refl _)
      obtain ⟨b, o, ha, hb, hcell⟩ := hr (by intro h0; rw [h0] at hlt; simp at hlt)
      simp only [Value.slice.injEq] at he
      obtain ⟨rfl, _, rfl⟩ := he
      subst ha
      obtain ⟨x, hc, hx⟩ := hcell k hlt
      obtain ⟨zs, hzs⟩ : ∃ z, z = zss.getD k [] := ⟨_, rfl⟩
      rw [← hzs] at hx
      have HZ := Lib.hid hzs
      have HX := Lib.hid hx
      obtain ⟨_, _, ax, cx, rfl, _, _⟩ := hx
      have i0 : (0 : Int) ≤ (k : Int) := by omega
      have i1 : (k : Int) < (zss.length : Int) := by omega
      clear hcell hr hzs
      cases hw : wordB zs with
      | true =>
        have HW := Lib.hid hw
        have HN : Hid (∀ i, i < k + 1 → wordB (zss.getD i []) = true) := Lib.hid (fun i hi => by
          by_cases he : i = k
          · subst he; rw [← HZ.out]; exact HW.out
          · exact HA.out i (by omega))
        clear hw
        go_wp2_with (go_at_call 201; refine (implWord _ zs _ HX.out).mono ?_; rintro e w2 ⟨rfl, hb⟩; rw [HW.out]; have HB2 := Lib.hid (HB.out.trans (hb.mono HB.out.size)); clear hb)
        go_roundw
        case rel => exact ⟨k + 1, by omega, by go_num, HN.out, HB2.out⟩
        case measure => simp [intOf]; omega
      | false =>
        have HW := Lib.hid hw
        have HF := Lib.hid (allW_false hlt (by rw [← HZ.out]; exact hw))
        clear hw
        go_wp2_with (go_at_call 201; refine (implWord _ zs _ HX.out).mono ?_; rintro e w2 ⟨rfl, hb⟩; rw [HW.out]; have HB2 := Lib.hid (HB.out.trans (hb.mono HB.out.size)); clear hb)
        go_ret
        exact ⟨by rw [HF.out] <;> rfl, HB2.out⟩
    · obtain rfl : k = zss.length := by omega
      have HF := Lib.hid (allW_true (zss := zss) (fun i hi => HA.out i hi))
      go_wp2
      go_ret
      exact ⟨by rw [HF.out] <;> rfl, HB.out⟩
theorem areWords_any (v : Value) (zss : List (List Int)) (w : World) (h : RdL w v zss) :
    Calls Tryd.prog 180 #[v] w fun e w' => e = .returned (.bool (allW zss)) ∧ Below w.heap.size w w' := by
  have HH := Lib.hid h
  clear h
  go_enter Tryd.func180, Tryd.ntmps180
  go_wp2_with (go_at_call 200; refine (eachWords _ zss _ HH.out).mono ?_; rintro e w2 ⟨rfl, hb⟩; have HB := Lib.hid hb; clear hb)
  go_ret
  exact ⟨rfl, HB.out⟩
end Go.Proofs.YtbigoljfanendaaDoor.Ints
