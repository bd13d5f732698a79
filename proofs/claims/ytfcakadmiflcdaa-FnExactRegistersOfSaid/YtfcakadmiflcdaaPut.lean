/- The model's rising lists: a number put to its place, once. -/
import Derived.Test.YtfcakadmiflcdaaSrtP
import Derived.Test.YtfcakadmiflcdaaOwn
namespace Go.Proofs.Ytfcakadmiflcdaa.Ints
open Go.RowKit
set_option linter.unusedVariables false
set_option linter.unusedSimpArgs false
def put : List Int → Int → List Int
  | [], n => [n]
  | x :: xs, n => if x < n then x :: put xs n else if x = n then x :: xs else n :: x :: xs
theorem put_mem (zs : List Int) (n z : Int) : z ∈ put zs n ↔ z ∈ zs ∨ z = n := by
  induction zs with
  | nil => simp [put]
  | cons x xs ih =>
    simp only [put]
    split
    · simp only [List.mem_cons, ih]; exact or_assoc.symm
    · split
      · next e => subst e; exact ⟨.inl, fun h => h.elim id (fun h => by simp [h])⟩
      · simp only [List.mem_cons]; exact or_comm
theorem put_lt {zs : List Int} (n : Int) (h : zs.Pairwise (· < ·)) : (put zs n).Pairwise (· < ·) := by
  induction zs with
  | nil => simp [put]
  | cons x xs ih =>
    obtain ⟨h1, h2⟩ := List.pairwise_cons.1 h
    simp only [put]
    split
    · refine List.pairwise_cons.2 ⟨fun z hz => ?_, ih h2⟩
      rcases (put_mem xs n z).1 hz with h3 | h3
      · exact h1 z h3
      · omega
    · split
      · exact h
      · refine List.pairwise_cons.2 ⟨fun z hz => ?_, h⟩
        rcases List.mem_cons.1 hz with h3 | h3
        · omega
        · have := h1 z h3; omega
theorem put_length (zs : List Int) (n : Int) : (put zs n).length ≤ zs.length + 1 := by
  induction zs with
  | nil => simp [put]
  | cons x xs ih => simp only [put]; split <;> (try split) <;> simp <;> omega
theorem put_end (zs : List Int) (n : Int) (h : ∀ i, i < zs.length → zs.getD i 0 < n) : put zs n = zs ++ [n] := by
  induction zs with
  | nil => rfl
  | cons x xs ih =>
    have h0 : x < n := h 0 (by simp)
    simp only [put, if_pos h0, List.cons_append]
    rw [ih (fun i hi => h (i + 1) (by simpa using hi))]
theorem put_at (zs : List Int) (n : Int) : ∀ k, k < zs.length → (∀ i, i < k → zs.getD i 0 < n) → ¬ zs.getD k 0 < n → put zs n = zs.take k ++ (if zs.getD k 0 = n then [] else [n]) ++ zs.drop k := by
  induction zs with
  | nil => intro k hk; simp at hk
  | cons x xs ih =>
    intro k hk h1 h2
    cases k with
    | zero =>
      have h2' : ¬ x < n := h2
      simp only [put, if_neg h2', List.take_zero, List.nil_append, List.drop_zero]
      show (if x = n then x :: xs else n :: x :: xs) = (if x = n then [] else [n]) ++ x :: xs
      split <;> simp
    | succ k =>
      have h0 : x < n := h1 0 (by omega)
      simp only [put, if_pos h0]
      rw [ih k (by simpa using hk) (fun i hi => h1 (i + 1) (by omega)) (by simpa using h2)]
      simp
theorem put_fit {zs : List Int} {n : Int} (h : Fit zs) (hn : -9223372036854775808 ≤ n ∧ n ≤ 9223372036854775807) : Fit (put zs n) := fun z hz => by
  rcases (put_mem zs n z).1 hz with h1 | h1
  · exact h z h1
  · subst h1; exact hn
set_option maxHeartbeats 4000000 in
theorem specPut (v : Value) (zs : List Int) (n : Int) (w : World) (hv : Rd w v zs) (hn : -9223372036854775808 ≤ n ∧ n ≤ 9223372036854775807) (hl : zs.length ≤ 1000000) :
    Calls Try.prog 65 #[v, .int .i64 n] w fun e w' => ∃ u, e = .returned u ∧ Ow w' w.heap.size w'.heap.size u (put zs n) ∧ Below w.heap.size w w' := by
  have HF := Lib.hid hv.fit
  have HN := Lib.hid hn
  obtain ⟨_, _, a, c, rfl, hcap, hr⟩ := hv
  have HR := Lib.hid hr
  obtain ⟨i0, hi, hz0, hz1, hz2⟩ := info_parts infoE
  have HO0 := Lib.hid (Ow.made w)
  have HB0 : Hid (Below w.heap.size w (w.alloc (.cells #[] 2))) := Lib.hid ((Below.refl _ _).alloc (Nat.le_refl _) _)
  clear hr hn
  go_enter Try.func65, Try.ntmps65
  go_wp2
  go_loopw [5, 6, 7] (fun q d s wr => ∃ k : Nat, ∃ (b : Bool) (X : List Int), k ≤ zs.length ∧ s = .int .i64 k ∧ d = .bool b ∧ Ow wr w.heap.size wr.heap.size q X ∧ Below w.heap.size w wr ∧
      (b = false → X = zs.take k ∧ ∀ i, i < k → zs.getD i 0 < n) ∧ (b = true → X ++ zs.drop k = put zs n)) (fun _ _ s _ => zs.length - (intOf s).toNat)
  case atStart => exact ⟨0, false, [], Nat.zero_le _, rfl, rfl, HO0.out, HB0.out, fun _ => ⟨rfl, fun i hi => by omega⟩, fun h => by cases h⟩
  case round =>
    obtain ⟨k, bd, X, hk, rfl, rfl, hor, hbr, hX0, hX1⟩ := hrel
    have hXl : X.length ≤ zs.length + 1 := by
      cases bd with
      | false => rw [(hX0 rfl).1]; simp; omega
      | true => have h1 := congrArg List.length (hX1 rfl); have h2 := put_length zs n; simp at h1; omega
    have HX0 := Lib.hid hX0
    have HX1 := Lib.hid hX1
    clear hX0 hX1
    by_cases hlt : k < zs.length
    · obtain ⟨b, o, rfl, hb, hcell⟩ := HR.out (by intro h0; rw [h0] at hlt; simp at hlt)
      have hc := (hbr.cell (p := ⟨b, o + k, none⟩) hb).trans (hcell k hlt)
      obtain ⟨y, hy⟩ : ∃ y, y = zs.getD k 0 := ⟨_, rfl⟩
      rw [← hy] at hc
      have HY := Lib.hid hy
      have hyf : -9223372036854775808 ≤ y ∧ y ≤ 9223372036854775807 := by rw [hy]; exact HF.out.at k
      have HYF := Lib.hid hyf
      have hdr : zs.drop k = y :: zs.drop (k + 1) := by rw [List.drop_eq_getElem_cons hlt, hy, List.getD_eq_getElem?_getD, List.getElem?_eq_getElem hlt]; rfl
      have htk : zs.take (k + 1) = zs.take k ++ [y] := by rw [List.take_succ_eq_append_getElem hlt, hy, List.getD_eq_getElem?_getD, List.getElem?_eq_getElem hlt]; rfl
      have HDR := Lib.hid hdr
      have HTK := Lib.hid htk
      obtain ⟨gq, cq, hq⟩ := hor.shape
      subst hq
      have HOR := Lib.hid hor
      have HBR := Lib.hid hbr
      clear hcell hy hyf hdr htk hor hbr
      rcases eqOr bd with hbd | hbd
      · subst hbd
        obtain ⟨hX, hall⟩ := HX0.out rfl
        have HXE := Lib.hid hX
        have HALL := Lib.hid hall
        clear hX hall
        by_cases hlty : y < n
        · -- not yet
          have d1 : decide (n ≤ y) = false := decide_eq_false (by omega)
          have hown := HOR.out.row
          have hbs := HOR.out.base
          go_wp2_with (at_builtin; refine wpList_append_own _ rfl _ _ 29 rfl w.heap.size 2 i0 (.int .i64 0) 1 8 Try.underlying29 hi hz0 hz1 hz2 rfl (by decide) _ _ _ rfl (hown.alloc _) ⟨_, 0, none⟩ 1 1 [.int .i64 y] rfl rfl ?c1 ?c2 ?c3 ?c4 ?c5 ?_)
          (try case c1 => exact cellNew _ _ _)
          case c2 => first | exact oneCell _ | rfl
          case c3 => unfold maxLen; omega
          case c4 => omega
          case c5 => first | omega | (simp; omega)
          intro v5 w5 hown6 hgrow6 _
          obtain ⟨hs1, hs2⟩ := HOR.out.snoc (x := y) HYF.out (by omega) hown6 hgrow6
          have HO6 := Lib.hid hs1
          have HB6 := Lib.hid (HBR.out.trans hs2)
          clear hown6 hgrow6 hown hs1 hs2
          go_wp2
          go_roundw
          case rel => exact ⟨k + 1, false, X ++ [y], by omega, by go_num, rfl, HO6.out, HB6.out, fun _ => ⟨by rw [HXE.out, HTK.out], fun i hi => by
            by_cases e : i = k
            · subst e; rw [← HY.out]; exact hlty
            · exact HALL.out i (by omega)⟩, fun h => by cases h⟩
          case measure => simp [intOf]; omega
        · have d1 : decide (n ≤ y) = true := decide_eq_true (by omega)
          have HP := Lib.hid (put_at zs n k hlt HALL.out (by rw [← HY.out]; exact hlty))
          rw [← HY.out] at HP
          by_cases heq : y = n
          · have d2 : decide (n < y) = false := decide_eq_false (by omega)
            rw [if_pos heq, List.append_nil] at HP
            have hown := HOR.out.row
            have hbs := HOR.out.base
            clear heq
            go_wp2_with (at_builtin; refine wpList_append_own _ rfl _ _ 29 rfl w.heap.size 2 i0 (.int .i64 0) 1 8 Try.underlying29 hi hz0 hz1 hz2 rfl (by decide) _ _ _ rfl (hown.alloc _) ⟨_, 0, none⟩ 1 1 [.int .i64 y] rfl rfl ?d1 ?d2 ?d3 ?d4 ?d5 ?_)
            (try case d1 => exact cellNew _ _ _)
            case d2 => first | exact oneCell _ | rfl
            case d3 => unfold maxLen; omega
            case d4 => omega
            case d5 => first | omega | (simp; omega)
            intro v5 w5 hown6 hgrow6 _
            obtain ⟨hs1, hs2⟩ := HOR.out.snoc (x := y) HYF.out (by omega) hown6 hgrow6
            have HO6 := Lib.hid hs1
            have HB6 := Lib.hid (HBR.out.trans hs2)
            clear hown6 hgrow6 hown hs1 hs2
            go_wp2
            go_roundw
            case rel => exact ⟨k + 1, true, X ++ [y], by omega, by go_num, rfl, HO6.out, HB6.out, fun h => (by cases h), fun _ => by rw [HP.out, HXE.out, HDR.out]; simp⟩
            case measure => simp [intOf]; omega
          · have d2 : decide (n < y) = true := decide_eq_true (by omega)
            rw [if_neg heq] at HP
            have hown := HOR.out.row
            have hbs := HOR.out.base
            clear heq
            go_wp2_with (at_builtin; refine wpList_append_own _ rfl _ _ 29 rfl w.heap.size 2 i0 (.int .i64 0) 1 8 Try.underlying29 hi hz0 hz1 hz2 rfl (by decide) _ _ _ rfl (hown.alloc _) ⟨_, 0, none⟩ 1 1 [.int .i64 n] rfl rfl ?e1 ?e2 ?e3 ?e4 ?e5 ?_)
            (try case e1 => exact cellNew _ _ _)
            case e2 => first | exact oneCell _ | rfl
            case e3 => unfold maxLen; omega
            case e4 => omega
            case e5 => first | omega | (simp; omega)
            intro v5 w5 hown6 hgrow6 _
            obtain ⟨hs1, hs2⟩ := HOR.out.snoc (x := n) HN.out (by omega) hown6 hgrow6
            have HO6 := Lib.hid hs1
            have HB6 := Lib.hid (HBR.out.trans hs2)
            obtain ⟨gq6, cq6, hq6⟩ := hs1.shape
            subst hq6
            have hc6 := (HB6.out.cell (p := ⟨b, o + k, none⟩) hb).trans ((HBR.out.cell (p := ⟨b, o + k, none⟩) hb).symm.trans hc)
            have hown7 := HO6.out.row
            have hbs7 := HO6.out.base
            have hl7 : (X ++ [n]).length ≤ 1000002 := by simp; omega
            obtain ⟨Y, hY⟩ : ∃ Y, Y = X ++ [n] := ⟨_, rfl⟩
            have HYE := Lib.hid hY
            rw [← hY] at hown7 HO6 hl7 ⊢
            clear hown6 hgrow6 hown hs1 hs2 hY
            go_wp2_with (at_builtin; refine wpList_append_own _ rfl _ _ 29 rfl w.heap.size 2 i0 (.int .i64 0) 1 8 Try.underlying29 hi hz0 hz1 hz2 rfl (by decide) _ _ _ rfl (hown7.alloc _) ⟨_, 0, none⟩ 1 1 [.int .i64 y] rfl rfl ?f1 ?f2 ?f3 ?f4 ?f5 ?_)
            (try case f1 => exact cellNew _ _ _)
            case f2 => first | exact oneCell _ | rfl
            case f3 => unfold maxLen; omega
            case f4 => omega
            case f5 => first | omega | (simp; omega)
            intro v7 w7 hown8 hgrow8 _
            obtain ⟨hs1, hs2⟩ := HO6.out.snoc (x := y) HYF.out (by omega) hown8 hgrow8
            have HO8 := Lib.hid hs1
            have HB8 := Lib.hid (HB6.out.trans hs2)
            clear hown8 hgrow8 hown7 hs1 hs2
            go_wp2
            go_roundw
            case rel => exact ⟨k + 1, true, Y ++ [y], by omega, by go_num, rfl, HO8.out, HB8.out, fun h => (by cases h), fun _ => by rw [HP.out, HYE.out, HXE.out, HDR.out]; simp⟩
            case measure => simp [intOf]; omega
      · subst hbd
        have HXT := Lib.hid (HX1.out rfl)
        have hown := HOR.out.row
        have hbs := HOR.out.base
        go_wp2_with (at_builtin; refine wpList_append_own _ rfl _ _ 29 rfl w.heap.size 2 i0 (.int .i64 0) 1 8 Try.underlying29 hi hz0 hz1 hz2 rfl (by decide) _ _ _ rfl (hown.alloc _) ⟨_, 0, none⟩ 1 1 [.int .i64 y] rfl rfl ?g1 ?g2 ?g3 ?g4 ?g5 ?_)
        (try case g1 => exact cellNew _ _ _)
        case g2 => first | exact oneCell _ | rfl
        case g3 => unfold maxLen; omega
        case g4 => omega
        case g5 => first | omega | (simp; omega)
        intro v5 w5 hown6 hgrow6 _
        obtain ⟨hs1, hs2⟩ := HOR.out.snoc (x := y) HYF.out (by omega) hown6 hgrow6
        have HO6 := Lib.hid hs1
        have HB6 := Lib.hid (HBR.out.trans hs2)
        clear hown6 hgrow6 hown hs1 hs2
        go_wp2
        go_roundw
        case rel => exact ⟨k + 1, true, X ++ [y], by omega, by go_num, rfl, HO6.out, HB6.out, fun h => (by cases h), fun _ => by rw [← HXT.out, HDR.out]; simp⟩
        case measure => simp [intOf]; omega
    · obtain rfl : k = zs.length := by omega
      obtain ⟨gq, cq, hq⟩ := hor.shape
      subst hq
      have HOR := Lib.hid hor
      have HBR := Lib.hid hbr
      clear hor hbr
      rcases eqOr bd with hbd | hbd
      · subst hbd
        have HE : Hid (X ++ [n] = put zs n) := Lib.hid (by
          obtain ⟨h1, h2⟩ := HX0.out rfl
          rw [put_end zs n h2, h1, List.take_length])
        have hown := HOR.out.row
        have hbs := HOR.out.base
        go_wp2_with (at_builtin; refine wpList_append_own _ rfl _ _ 29 rfl w.heap.size 2 i0 (.int .i64 0) 1 8 Try.underlying29 hi hz0 hz1 hz2 rfl (by decide) _ _ _ rfl (hown.alloc _) ⟨_, 0, none⟩ 1 1 [.int .i64 n] rfl rfl ?h1 ?h2 ?h3 ?h4 ?h5 ?_)
        (try case h1 => exact cellNew _ _ _)
        case h2 => first | exact oneCell _ | rfl
        case h3 => unfold maxLen; omega
        case h4 => omega
        case h5 => first | omega | (simp; omega)
        intro v5 w5 hown6 hgrow6 _
        obtain ⟨hs1, hs2⟩ := HOR.out.snoc (x := n) HN.out (by omega) hown6 hgrow6
        have HO6 := Lib.hid hs1
        have HB6 := Lib.hid (HBR.out.trans hs2)
        clear hown6 hgrow6 hown hs1 hs2
        go_wp2
        go_ret
        exact ⟨_, rfl, by rw [← HE.out]; exact HO6.out, HB6.out⟩
      · subst hbd
        have HE : Hid (X = put zs n) := Lib.hid (by have := HX1.out rfl; rwa [List.drop_length, List.append_nil] at this)
        go_wp2
        go_ret
        exact ⟨_, rfl, by rw [← HE.out]; exact HOR.out, HBR.out⟩
end Go.Proofs.Ytfcakadmiflcdaa.Ints
