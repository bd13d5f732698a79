/- The text of counters, of the model and of the program. -/
import Derived.Test.YtbifkjmmhfnblaaDoorMapD
import Derived.Test.YtbifkjmmhfnblaaDoorBt
import Derived.Test.YtbifkjmmhfnblaaDoorCel
import Derived.Deep.RegionHeld3
namespace Go.Proofs.YtbifkjmmhfnblaaDoor.Ints
open Go.RowKit
set_option linter.unusedVariables false
set_option linter.unusedSimpArgs false
/-- Three numerals. -/
def ctT (x y z : Int) : List UInt8 := Lib.itoa x ++ [58] ++ Lib.itoa y ++ [58] ++ Lib.itoa z
def valB (x y z : Int) : Bool := decide (0 ≤ x ∧ x ≤ 1000000000000) && (decide (0 ≤ y ∧ y ≤ 1000000000000) && decide (0 ≤ z ∧ z ≤ 1000000000000))
def ctV (x y z : Int) : List UInt8 := if valB x y z = true then ctT x y z else []
theorem specDecT (n : Int) (t : ByteArray) (n0 : -9223372036854775808 ≤ n) (n1 : n ≤ 9223372036854775807) (ht : t = bs (Lib.itoa n)) (w : World) :
    Calls Tryd.prog 98 #[.int .i64 n] w fun e w' => e = .returned (.string t) ∧ Below w.heap.size w w' := by
  subst ht; exact specDec n n0 n1 w
set_option maxHeartbeats 4000000 in
theorem specCtT (g : Nat) (x y z : Int) (w : World) (hc : Cels w g 29 [.int .i64 x, .int .i64 y, .int .i64 z]) (hv : (0 ≤ x ∧ x ≤ 1000000000000) ∧ (0 ≤ y ∧ y ≤ 1000000000000) ∧ (0 ≤ z ∧ z ≤ 1000000000000)) :
    Calls Tryd.prog 88 #[.pointer (some ⟨g, 0, none⟩)] w fun e w' => e = .returned (.string (bs (ctT x y z))) ∧ Below w.heap.size w w' := by
  obtain ⟨⟨x0, x1⟩, ⟨y0, y1⟩, ⟨z0, z1⟩⟩ := hv
  have HK := Lib.hid hc
  have c0 := hc.cell 0 rfl
  have c1 := hc.cell 1 rfl
  have c2 := hc.cell 2 rfl
  have HD : Hid (Below w.heap.size w w.drew) := Lib.hid (Below.refl _ _).drew
  have HS : Hid (∀ W, Below w.heap.size w W → W.cell? ⟨g, 0, none⟩ = some (.int .i64 x) ∧ W.cell? ⟨g, 1, none⟩ = some (.int .i64 y) ∧ W.cell? ⟨g, 2, none⟩ = some (.int .i64 z)) := Lib.hid (fun W hW => by
    have h := HK.out.below hW HK.out.lt
    exact ⟨h.cell 0 rfl, h.cell 1 rfl, h.cell 2 rfl⟩)
  obtain ⟨tx, htx⟩ : ∃ t, t = bs (Lib.itoa x) := ⟨_, rfl⟩
  obtain ⟨ty, hty⟩ : ∃ t, t = bs (Lib.itoa y) := ⟨_, rfl⟩
  obtain ⟨tz, htz⟩ : ∃ t, t = bs (Lib.itoa z) := ⟨_, rfl⟩
  have sx : tx.size ≤ 21 := by rw [htx, bs_size]; exact Lib.itoa_length_le x (by omega) (by omega)
  have sy : ty.size ≤ 21 := by rw [hty, bs_size]; exact Lib.itoa_length_le y (by omega) (by omega)
  have sz : tz.size ≤ 21 := by rw [htz, bs_size]; exact Lib.itoa_length_le z (by omega) (by omega)
  have HX := Lib.hid htx
  have HY := Lib.hid hty
  have HZ := Lib.hid htz
  have HE : Hid (tx ++ bs [58] ++ ty ++ bs [58] ++ tz = bs (ctT x y z)) := Lib.hid (by rw [htx, hty, htz, bs_append, bs_append, bs_append, bs_append]; rfl)
  clear hc c0 c1 c2 htx hty htz
  have q1 : ¬ (9223372036854775807 < tx.size + 1) := by omega
  have q2 : ¬ (9223372036854775807 < tx.size + 1 + ty.size) := by omega
  have q3 : ¬ (9223372036854775807 < tx.size + 1 + ty.size + 1) := by omega
  have q4 : ¬ (9223372036854775807 < tx.size + 1 + ty.size + 1 + tz.size) := by omega
  have q5 : ¬ (9223372036854775807 ≤ tx.size) := by omega
  have q6 : ¬ (9223372036854775807 ≤ tx.size + 1 + ty.size) := by omega
  go_enter Tryd.func88, Tryd.ntmps88
  go_wp2
  go_region_held3 (fun W => W.cell? ⟨g, 0, none⟩ = some (.int .i64 x) ∧ W.cell? ⟨g, 1, none⟩ = some (.int .i64 y) ∧ W.cell? ⟨g, 2, none⟩ = some (.int .i64 z))
    (exact HS.out _ HD.out)
    (first | (go_at_call 98; with_reducible refine (specDecT _ _ (by omega) (by omega) (by first | exact HX.out | exact HY.out | exact HZ.out) _).mono ?_; rintro e1 w1 ⟨rfl, bq⟩; replace HD := Lib.hid (HD.out.trans (bq.mono HD.out.size)); clear bq))
  all_goals
    go_wp2
    go_ret
    exact ⟨by rw [← HE.out]; rfl, HD.out⟩
theorem specCtText (x y z : Int) (w : World) :
    Calls Tryd.prog 47 #[.agg #[.int .i64 x, .int .i64 y, .int .i64 z]] w fun e w' => e = .returned (.string (bs (ctV x y z))) ∧ Below w.heap.size w w' := by
  obtain ⟨W0, hW0⟩ : ∃ W, W = w.alloc (Obj.cells #[.int .i64 x, .int .i64 y, .int .i64 z] 29) := ⟨_, rfl⟩
  have HB : Hid (Below w.heap.size w W0) := Lib.hid (by rw [hW0]; exact (Below.refl w.heap.size w).alloc (Nat.le_refl _) _)
  have K1 : Hid (Cels W0 w.heap.size 29 [.int .i64 x, .int .i64 y, .int .i64 z]) := Lib.hid (by rw [hW0]; exact Cels.new _ _ _)
  have HW0 := Lib.hid hW0.symm
  clear hW0
  obtain ⟨bx, hbx⟩ : ∃ b, b = decide (0 ≤ x ∧ x ≤ 1000000000000) := ⟨_, rfl⟩
  obtain ⟨by', hby⟩ : ∃ b, b = decide (0 ≤ y ∧ y ≤ 1000000000000) := ⟨_, rfl⟩
  obtain ⟨bz, hbz⟩ : ∃ b, b = decide (0 ≤ z ∧ z ≤ 1000000000000) := ⟨_, rfl⟩
  have HV : Hid (valB x y z = (bx && (by' && bz))) := Lib.hid (by rw [hbx, hby, hbz]; rfl)
  have HX := Lib.hid (show bx = true ↔ (0 ≤ x ∧ x ≤ 1000000000000) by rw [hbx]; simp)
  have HY := Lib.hid (show by' = true ↔ (0 ≤ y ∧ y ≤ 1000000000000) by rw [hby]; simp)
  have HZ := Lib.hid (show bz = true ↔ (0 ≤ z ∧ z ≤ 1000000000000) by rw [hbz]; simp)
  have k0 := K1.out.cell 0 rfl
  have k1 := K1.out.cell 1 rfl
  have k2 := K1.out.cell 2 rfl
  clear hbx hby hbz
  go_enter Tryd.func47, Tryd.ntmps47
  go_wp2_with fail
  rw [HW0.out]
  go_wp2_with fail
  refine (specInB x _ _ bx _ HX.out).mono ?_
  rintro e w' ⟨rfl, rfl⟩
  rcases eqOr bx with hb | hb
  · subst hb
    go_wp2_with fail
    go_ret
    exact ⟨by rw [ctV, HV.out]; rfl, HB.out⟩
  subst hb
  go_wp2_with fail
  refine (specInB y _ _ by' _ HY.out).mono ?_
  rintro e w' ⟨rfl, rfl⟩
  rcases eqOr by' with hb | hb
  · subst hb
    go_wp2_with fail
    go_ret
    exact ⟨by rw [ctV, HV.out]; rfl, HB.out⟩
  subst hb
  go_wp2_with fail
  refine (specInB z _ _ bz _ HZ.out).mono ?_
  rintro e w' ⟨rfl, rfl⟩
  rcases eqOr bz with hb | hb
  · subst hb
    go_wp2_with fail
    go_ret
    exact ⟨by rw [ctV, HV.out]; rfl, HB.out⟩
  subst hb
  go_wp2_with fail
  refine (specCtT _ x y z _ K1.out ⟨HX.out.1 (by trivial), HY.out.1 (by trivial), HZ.out.1 (by trivial)⟩).mono ?_
  rintro e w1 ⟨rfl, hb1⟩
  have HB1 := Lib.hid (HB.out.trans (hb1.mono HB.out.size))
  clear hb1 k0 k1 k2
  go_wp2
  go_ret
  exact ⟨by rw [ctV, HV.out]; rfl, HB1.out⟩
theorem ctJoin (x y z : Int) : Lib.join [Lib.itoa x, Lib.itoa y, Lib.itoa z] [58] = ctT x y z := by
  rw [Lib.join_cons]; simp [Lib.joinTail, ctT, List.append_assoc]
theorem rd3 {w : World} {g : Nat} {x y z : Int} (hx : fit64 x) (hy : fit64 y) (hz : fit64 z) (h : Cels w g 2 [.int .i64 x, .int .i64 y, .int .i64 z]) : Rd w (.slice (some ⟨g, 0, none⟩) 3 3) [x, y, z] := by
  refine ⟨by simp, fun u hu => ?_, _, _, rfl, Nat.le_refl _, fun _ => ⟨g, 0, rfl, h.lt, fun i hi => ?_⟩⟩
  · simp at hu; rcases hu with rfl | rfl | rfl <;> assumption
  · match i, hi with
    | 0, _ => exact h.cell 0 rfl
    | 1, _ => exact h.cell 1 rfl
    | 2, _ => exact h.cell 2 rfl
    | n + 3, hi => simp only [List.length_cons, List.length_nil] at hi; omega
theorem dig3 (x y z : Int) : digB 1000000000001 [x, y, z] = valB x y z := by
  by_cases h : Dig 1000000000001 [x, y, z]
  · rw [digB_true h]
    have h0 := h 0 (by simp)
    have h1 := h 1 (by simp)
    have h2 := h 2 (by simp)
    simp at h0 h1 h2
    simp [valB]; omega
  · rw [digB_false h]
    by_cases hv : valB x y z = true
    · exfalso
      refine h fun i hi => ?_
      simp [valB] at hv
      match i, hi with
      | 0, _ => simp; omega
      | 1, _ => simp; omega
      | 2, _ => simp; omega
      | n + 3, hi => simp only [List.length_cons, List.length_nil] at hi; omega
    · simp at hv; rw [hv]
theorem implVals (v : Value) (zs : List Int) (w : World) (h : Rd w v zs) :
    Calls Tryd.prog 52 #[v] w fun e w' => e = .returned (.bool (digB 1000000000001 zs)) ∧ Below w.heap.size w w' := by
  have H := Lib.hid h
  clear h
  go_enter Tryd.func52, Tryd.ntmps52
  go_wp2_with fail
  refine (areBelow_any _ zs _ _ H.out).mono ?_
  rintro e w1 ⟨rfl, hb⟩
  have HB := Lib.hid hb
  clear hb
  go_wp2
  go_ret
  exact ⟨rfl, HB.out⟩
end Go.Proofs.YtbifkjmmhfnblaaDoor.Ints
