/- MoveRegister, ClearRegister, CopyRegister: the model's and the program's. -/
import Derived.Test.YtfcakadmiflcdaaMovS
namespace Go.Proofs.Ytfcakadmiflcdaa.Ints
open Go.RowKit
set_option linter.unusedVariables false
set_option linter.unusedSimpArgs false
/-- A block of numbers, as a row of the call's own. -/
theorem ow_block {w : World} {B g : Nat} {zs : List Int} (h : Cels w g 2 (zs.map (Value.int .i64))) (hB : B ≤ g) (hl : zs.length ≤ 1000) (hf : Fit zs) : Ow w B w.heap.size (.slice (some ⟨g, 0, none⟩) zs.length zs.length) zs :=
  ⟨by omega, hf, ⟨by simp, .inr ⟨g, zs.length, (zs.map (Value.int .i64)).toArray, rfl, hB, h, Nat.le_refl _, by unfold maxLen; omega, by simp, by rw [List.take_of_length_le (by simp)]⟩⟩, fun k hk => by cases hk; exact h.lt, Nat.le_refl _, Nat.le_trans hB (Nat.le_of_lt h.lt)⟩
theorem rd_nil (w : World) : Rd w (.slice none 0 0) [] := (Ow.empty w).rd
theorem ow_joinedI {w w' : World} {B : Nat} {v v' : Value} {xs ys : List Int} (ho : Ow w B w.heap.size v xs) (hf : Fit ys) (hl : xs.length + ys.length ≤ 16777216) (hown : w'.ownsRow B 2 1 v' (xs.length + ys.length) ((xs ++ ys).map (Value.int .i64))) (hg : w.grownBy w' v.ownBlock) :
    Ow w' B w'.heap.size v' (xs ++ ys) ∧ Below B w w' := by
  have hb : Below B w w' := (Below.refl B w).grown hg ho.base (fun q hq => (ho.row.lt q hq).1)
  exact ⟨⟨by simpa using hl, fun z hz => by
    rcases List.mem_append.1 hz with hz | hz
    · exact ho.fit z hz
    · exact hf z hz, by rw [List.length_append]; exact hown, fun k hk => (hown.lt k hk).2, Nat.le_refl _, Nat.le_trans ho.base hb.size⟩, hb⟩
theorem dig_cons {b r : Int} {ts : List Int} (h : Dig b (r :: ts)) : (0 ≤ r ∧ r < b) ∧ Dig b ts := ⟨h 0 (by simp), fun i hi => h (i + 1) (by simpa using hi)⟩
noncomputable def movC (r : Int) (ts : List Int) : Int := if ts.length ≤ 24 then regC (r :: ts) else 2
noncomputable def movR (r : Int) (ts : List Int) : List Ins := if ts.length ≤ 24 ∧ regC (r :: ts) = 0 then moveL r ts else []
theorem mov_long {r : Int} {ts : List Int} (h : ¬ ts.length ≤ 24) : movR r ts = [] ∧ movC r ts = 2 := by simp [movR, movC, h]
theorem mov_bad {r : Int} {ts : List Int} (h : ts.length ≤ 24) (k : regC (r :: ts) ≠ 0) : movR r ts = [] ∧ movC r ts = regC (r :: ts) := by simp [movR, movC, h, k]
theorem mov_good {r : Int} {ts : List Int} (h : ts.length ≤ 24) (k : regC (r :: ts) = 0) : movR r ts = moveL r ts ∧ movC r ts = 0 := by simp [movR, movC, h, k]
set_option maxHeartbeats 2000000 in
theorem implMoveRegister (r : Int) (v : Value) (ts : List Int) (w : World) (h : Rd w v ts) (fr : -9223372036854775808 ≤ r ∧ r ≤ 9223372036854775807) :
    Calls Try.prog 50 #[.int .i64 r, v] w fun e w' => ∃ u, e = .returned (.tuple #[u, .int .i64 (movC r ts)]) ∧ OwIns w' w.heap.size w'.heap.size u (movR r ts) ∧ Below w.heap.size w w' := by
  have H := Lib.hid h
  have hlen := h.len
  obtain ⟨_, _, a, c, rfl, _, _⟩ := h
  by_cases h4 : ts.length ≤ 24
  rotate_left
  · have e := Lib.hid (mov_long (r := r) h4)
    have hd : decide (24 < (ts.length : Int)) = true := decide_eq_true (by omega)
    clear h4
    go_enter Try.func50, Try.ntmps50
    go_wp2
    go_ret2
    exact ⟨_, by rw [e.out.2] <;> rfl, by rw [e.out.1]; exact OwIns.emptyUp (Nat.le_refl _), Below.refl _ _⟩
  have hd : decide (24 < (ts.length : Int)) = false := decide_eq_false (by omega)
  have HO := Lib.hid (ow_block (B := w.heap.size) (zs := [r]) (Cels.new w 2 [.int .i64 r]) (Nat.le_refl _) (by simp) (fun z hz => by simp at hz; subst hz; exact fr))
  have hown := HO.out.row
  have HW := Lib.hid ((Below.refl w.heap.size w).alloc (Nat.le_refl _) (.cells #[.int .i64 r] 2))
  have hsz := HW.out.size
  obtain ⟨C, hC⟩ : ∃ C, C = regC (r :: ts) := ⟨_, rfl⟩
  have HC := Lib.hid hC
  have H4 := Lib.hid h4
  have HFR := Lib.hid fr
  clear hC fr
  go_enter Try.func50, Try.ntmps50
  go_wp2_with (at_builtin; refine wpList_append_rd rfl _ _ rfl w.heap.size _ _ [r] ts rfl hown rfl (H.out.below HW.out (Nat.le_refl _)) (by simp; omega) hsz ?_)
  intro v1 w1 hown1 hgrow1
  have HX := Lib.hid (ow_joinedI HO.out (H.out.below HW.out (Nat.le_refl _)).fit (by simp; omega) hown1 hgrow1)
  have HB1 := Lib.hid (HW.out.trans HX.out.2)
  obtain ⟨ga, gc, hv1⟩ := HX.out.1.shape
  subst hv1
  clear hown hown1 hgrow1 hsz
  go_wp2_with fail
  refine (implCode _ ([r] ++ ts) _ HX.out.1.rd).mono ?_
  rintro e w2 ⟨rfl, hb⟩
  have HB2 := Lib.hid (HB1.out.trans (hb.mono HB1.out.size))
  rw [show regC ([r] ++ ts) = C from HC.out.symm]
  clear hb
  by_cases hc : C = 0
  rotate_left
  · have hq : (C != 0) = true := by simp [hc]
    have e := Lib.hid (mov_bad H4.out (fun h => hc (HC.out.trans h)))
    clear hc
    go_wp2
    go_ret2
    exact ⟨_, by rw [e.out.2, ← HC.out] <;> rfl, by rw [e.out.1]; exact OwIns.emptyUp HB2.out.size, HB2.out⟩
  · have hq : (C != 0) = false := by simp [hc]
    have e := Lib.hid (mov_good H4.out (HC.out.symm.trans hc))
    have HD := Lib.hid (dig_cons (regC_ok (HC.out.symm.trans hc)).1)
    clear hc
    go_wp2_with fail
    refine (implMove r _ ts _ (H.out.below HB2.out (Nat.le_refl _)) ⟨HD.out.1.1, by have := HD.out.1.2; omega⟩ HD.out.2 H4.out).mono ?_
    rintro e1 w3 ⟨u, rfl, ho, hb⟩
    have HO3 := Lib.hid (ho.mono HB2.out.size (Nat.le_refl _) (Nat.le_refl _))
    have HB3 := Lib.hid (HB2.out.trans (hb.mono HB2.out.size))
    clear ho hb
    go_wp2_with fail
    go_ret2
    exact ⟨_, by rw [e.out.2] <;> rfl, by rw [e.out.1]; exact HO3.out, HB3.out⟩
set_option maxHeartbeats 2000000 in
theorem specMoveRegister (r : Int) (v : Value) (ts : List Int) (w : World) (h : Rd w v ts) (fr : -9223372036854775808 ≤ r ∧ r ≤ 9223372036854775807) :
    Calls Try.prog 49 #[.int .i64 r, v] w fun e w' => ∃ u, e = .returned (.tuple #[u, .int .i64 (movC r ts)]) ∧ OwIns w' w.heap.size w'.heap.size u (movR r ts) ∧ Below w.heap.size w w' := by
  have H := Lib.hid h
  have hlen := h.len
  obtain ⟨_, _, a, c, rfl, _, _⟩ := h
  by_cases h4 : ts.length ≤ 24
  rotate_left
  · have e := Lib.hid (mov_long (r := r) h4)
    have hd : decide (24 < (ts.length : Int)) = true := decide_eq_true (by omega)
    clear h4
    go_enter Try.func49, Try.ntmps49
    go_wp2
    go_ret2
    exact ⟨_, by rw [e.out.2] <;> rfl, by rw [e.out.1]; exact OwIns.emptyUp (Nat.le_refl _), Below.refl _ _⟩
  have hd : decide (24 < (ts.length : Int)) = false := decide_eq_false (by omega)
  have HO := Lib.hid (ow_block (B := w.heap.size) (zs := [r]) (Cels.new w 2 [.int .i64 r]) (Nat.le_refl _) (by simp) (fun z hz => by simp at hz; subst hz; exact fr))
  have hown := HO.out.row
  have HW := Lib.hid ((Below.refl w.heap.size w).alloc (Nat.le_refl _) (.cells #[.int .i64 r] 2))
  have hsz := HW.out.size
  obtain ⟨C, hC⟩ : ∃ C, C = regC (r :: ts) := ⟨_, rfl⟩
  have HC := Lib.hid hC
  have H4 := Lib.hid h4
  have HFR := Lib.hid fr
  clear hC fr
  go_enter Try.func49, Try.ntmps49
  go_wp2_with (at_builtin; refine wpList_append_rd rfl _ _ rfl w.heap.size _ _ [r] ts rfl hown rfl (H.out.below HW.out (Nat.le_refl _)) (by simp; omega) hsz ?_)
  intro v1 w1 hown1 hgrow1
  have HX := Lib.hid (ow_joinedI HO.out (H.out.below HW.out (Nat.le_refl _)).fit (by simp; omega) hown1 hgrow1)
  have HB1 := Lib.hid (HW.out.trans HX.out.2)
  obtain ⟨ga, gc, hv1⟩ := HX.out.1.shape
  subst hv1
  clear hown hown1 hgrow1 hsz
  go_wp2_with fail
  refine (specApart _ ([r] ++ ts) _ HX.out.1.rd).mono ?_
  rintro e w2 ⟨rfl, hb⟩
  have HB2 := Lib.hid (HB1.out.trans (hb.mono HB1.out.size))
  rw [show regC ([r] ++ ts) = C from HC.out.symm]
  clear hb
  by_cases hc : C = 0
  rotate_left
  · have hq : (C != 0) = true := by simp [hc]
    have e := Lib.hid (mov_bad H4.out (fun h => hc (HC.out.trans h)))
    clear hc
    go_wp2
    go_ret2
    exact ⟨_, by rw [e.out.2, ← HC.out] <;> rfl, by rw [e.out.1]; exact OwIns.emptyUp HB2.out.size, HB2.out⟩
  · have hq : (C != 0) = false := by simp [hc]
    have e := Lib.hid (mov_good H4.out (HC.out.symm.trans hc))
    have HD := Lib.hid (dig_cons (regC_ok (HC.out.symm.trans hc)).1)
    clear hc
    go_wp2_with fail
    refine (specMoveL r _ ts _ (H.out.below HB2.out (Nat.le_refl _)) ⟨HD.out.1.1, by have := HD.out.1.2; omega⟩ HD.out.2 H4.out).mono ?_
    rintro e1 w3 ⟨u, rfl, ho, hb⟩
    have HO3 := Lib.hid (ho.mono HB2.out.size (Nat.le_refl _) (Nat.le_refl _))
    have HB3 := Lib.hid (HB2.out.trans (hb.mono HB2.out.size))
    clear ho hb
    go_wp2_with fail
    go_ret2
    exact ⟨_, by rw [e.out.2] <;> rfl, by rw [e.out.1]; exact HO3.out, HB3.out⟩
theorem implClearRegister (r : Int) (w : World) (fr : -9223372036854775808 ≤ r ∧ r ≤ 9223372036854775807) :
    Calls Try.prog 48 #[.int .i64 r] w fun e w' => ∃ u, e = .returned (.tuple #[u, .int .i64 (movC r [])]) ∧ OwIns w' w.heap.size w'.heap.size u (movR r []) ∧ Below w.heap.size w w' := by
  have HR := Lib.hid (rd_nil w)
  have HF := Lib.hid fr
  clear fr
  go_enter Try.func48, Try.ntmps48
  go_wp2_with fail
  refine (implMoveRegister r _ [] _ HR.out HF.out).mono ?_
  rintro e w1 ⟨u, rfl, ho, hb⟩
  have HO := Lib.hid ho
  have HB := Lib.hid hb
  clear ho hb
  go_wp2_with fail
  go_ret2
  exact ⟨_, rfl, HO.out, HB.out⟩
theorem regC_one (r : Int) : regC [r] = if 0 ≤ r ∧ r ≤ 23 then 0 else 2 := by
  by_cases h : 0 ≤ r ∧ r ≤ 23
  · rw [if_pos h]; exact regC_good (fun i hi => by obtain rfl : i = 0 := by simpa using hi
                                                   exact ⟨h.1, by show r < 24; omega⟩) (by simp)
  · rw [if_neg h]; exact regC_bad (fun hd => h (by have := hd 0 (by simp); exact ⟨this.1, by have := this.2; simp at this; omega⟩))
theorem clear_good {r : Int} (h : 0 ≤ r ∧ r ≤ 23) : movR r [] = moveL r [] ∧ movC r [] = 0 := mov_good (by simp) (by rw [regC_one, if_pos h])
theorem clear_bad {r : Int} (h : ¬ (0 ≤ r ∧ r ≤ 23)) : movR r [] = [] ∧ movC r [] = 2 := by
  have := mov_bad (r := r) (ts := []) (by simp) (by rw [regC_one, if_neg h]; omega)
  rw [regC_one, if_neg h] at this; exact this
theorem specClearRegister (r : Int) (w : World) (fr : -9223372036854775808 ≤ r ∧ r ≤ 9223372036854775807) :
    Calls Try.prog 47 #[.int .i64 r] w fun e w' => ∃ u, e = .returned (.tuple #[u, .int .i64 (movC r [])]) ∧ OwIns w' w.heap.size w'.heap.size u (movR r []) ∧ Below w.heap.size w w' := by
  by_cases hr : 0 ≤ r ∧ r ≤ 23
  · have HR := Lib.hid hr
    have e := Lib.hid (clear_good hr)
    clear hr
    go_enter Try.func47, Try.ntmps47
    go_wp2_with fail
    refine (specRegY r _ HR.out).mono ?_
    rintro e1 w1 ⟨rfl, rfl⟩
    go_wp2_with fail
    refine (specClearL r _ HR.out).mono ?_
    rintro e1 w1 ⟨u, rfl, ho, hb⟩
    have HO := Lib.hid ho
    have HB := Lib.hid hb
    clear ho hb
    go_wp2_with fail
    go_ret2
    exact ⟨_, by rw [e.out.2] <;> rfl, by rw [e.out.1]; exact HO.out, HB.out⟩
  · have HR := Lib.hid hr
    have e := Lib.hid (clear_bad hr)
    clear hr
    go_enter Try.func47, Try.ntmps47
    go_wp2_with fail
    refine (specRegN r _ HR.out).mono ?_
    rintro e1 w1 ⟨rfl, rfl⟩
    go_wp2_with fail
    go_ret2
    exact ⟨_, by rw [e.out.2] <;> rfl, by rw [e.out.1]; exact OwIns.emptyUp (Nat.le_refl _), Below.refl _ _⟩
end Go.Proofs.Ytfcakadmiflcdaa.Ints
