/- Contracts of TapeWord, of the model and of the program. -/
import Derived.Test.YtmaapgjgbmefmaaTape
import Derived.Test.YtmaapgjgbmefmaaTrE
import Derived.Test.YtmaapgjgbmefmaaRev
import Derived.Test.YtmaapgjgbmefmaaRevI
import Derived.Test.YtmaapgjgbmefmaaIn
import Derived.Deep.QuietTactic
import Derived.BigQuiet
import Derived.BigRegion
import Derived.Lib.Hide
import Derived.Deep.RegionHeld3
namespace Go.Proofs.Ytmaapgjgbmefmaa.Ints
open Go.RowKit
set_option linter.unusedVariables false
set_option linter.unusedSimpArgs false
/-! Trimming at both ends. -/
theorem tr_eq (zs : List Int) : tr zs = (zs.reverse.dropWhile (fun z => z == 0)).reverse := by
  have key : ∀ k, k ≤ zs.length → zs.take (trE zs k) = ((zs.take k).reverse.dropWhile (fun z => z == 0)).reverse := by
    intro k
    induction k with
    | zero => intro _; simp [trE]
    | succ k ih =>
      intro hk
      have ht : zs.take (k + 1) = zs.take k ++ [zs.getD k 0] := by
        rw [List.take_succ_eq_append_getElem (by omega)]
        congr 2
        rw [List.getD_eq_getElem?_getD, List.getElem?_eq_getElem (by omega)]; rfl
      rw [ht, List.reverse_append, trE]
      by_cases h0 : zs.getD k 0 = 0
      · rw [if_pos h0, ih (by omega), h0]
        simp
      · rw [if_neg h0, ht]
        have hb : (zs.getD k 0 == 0) = false := by simpa using h0
        obtain ⟨z, hz⟩ : ∃ z, z = zs.getD k 0 := ⟨_, rfl⟩
        rw [← hz] at hb ⊢
        rw [List.reverse_singleton, List.singleton_append, List.dropWhile_cons, hb]
        simp
  have := key zs.length (Nat.le_refl _)
  rwa [List.take_length] at this
theorem tr_cons (x : Int) (xs : List Int) : tr (x :: xs) = if tr xs = [] then (if x = 0 then [] else [x]) else x :: tr xs := by
  rw [tr_eq, tr_eq]
  rw [List.reverse_cons, List.dropWhile_append]
  by_cases h : xs.reverse.dropWhile (fun z => z == 0) = []
  · rw [h]
    by_cases h0 : x = 0
    · subst h0; simp
    · have hb : (x == 0) = false := by simpa using h0
      simp [h0, List.dropWhile_cons, hb]
  · have h1 : (xs.reverse.dropWhile (fun z => z == 0)).isEmpty = false := by
      cases hh : xs.reverse.dropWhile (fun z => z == 0) with
      | nil => exact absurd hh h
      | cons _ _ => rfl
    rw [h1]
    have h2 : ¬ (xs.reverse.dropWhile (fun z => z == 0)).reverse = [] := fun e => h (List.reverse_eq_nil_iff.1 e)
    rw [if_neg h2]
    simp
/-- Without the zeros at the beginning. -/
def ld : List Int → List Int
  | [] => []
  | x :: xs => if x = 0 then ld xs else x :: xs
theorem ld_eq (zs : List Int) : ld zs = zs.dropWhile (fun z => z == 0) := by
  induction zs with
  | nil => rfl
  | cons x xs ih =>
    rw [ld]
    by_cases h0 : x = 0
    · subst h0; rw [if_pos rfl, ih]; simp
    · rw [if_neg h0]; have hb : (x == 0) = false := by simpa using h0
      simp [List.dropWhile_cons, hb]
theorem ld_tr (zs : List Int) : ld (tr zs) = tr (ld zs) := by
  induction zs with
  | nil => rfl
  | cons x xs ih =>
    rw [tr_cons, ld]
    by_cases h0 : x = 0
    · rw [if_pos h0, if_pos h0, ← ih]
      by_cases h : tr xs = []
      · rw [if_pos h, h]
      · rw [if_neg h, ld, if_pos h0]
    · rw [if_neg h0, if_neg h0, tr_cons, if_neg h0]
      by_cases h : tr xs = []
      · rw [if_pos h, ld, if_neg h0]
      · rw [if_neg h, ld, if_neg h0]
theorem tr_rev (zs : List Int) : (tr zs.reverse).reverse = ld zs := by
  rw [tr_eq, List.reverse_reverse, List.reverse_reverse, ld_eq]
/-- The word on a tape. -/
def twW (ls rs : List Int) : List Int := tr (ld (ls.reverse ++ rs))
noncomputable def tcB (ls rs : List Int) : Bool := (decide ((ls.length : Int) ≤ 200) && digB 10 ls) && (decide ((rs.length : Int) ≤ 200) && digB 10 rs)
noncomputable def twL (ls rs : List Int) : List Int := if tcB ls rs = true then twW ls rs else []
noncomputable def twC (ls rs : List Int) : Int := if tcB ls rs = true then 0 else 1
theorem tw_bad {ls rs : List Int} (h : tcB ls rs = false) : twL ls rs = [] ∧ twC ls rs = 1 := by simp [twL, twC, h]
theorem tw_good {ls rs : List Int} (h : tcB ls rs = true) : twL ls rs = twW ls rs ∧ twC ls rs = 0 := by simp [twL, twC, h]
theorem tc_small {ls rs : List Int} (h : tcB ls rs = true) : ls.length ≤ 200 ∧ rs.length ≤ 200 := by
  simp only [tcB, Bool.and_eq_true, decide_eq_true_eq] at h
  omega
/-! The model's row of symbols. -/
def Bet (lo hi : Int) (zs : List Int) : Prop := ∀ i, i < zs.length → lo ≤ zs.getD i 0 ∧ zs.getD i 0 ≤ hi
open Classical in
noncomputable def betB (lo hi : Int) (zs : List Int) : Bool := decide (Bet lo hi zs)
theorem betB_true {lo hi : Int} {zs : List Int} (h : Bet lo hi zs) : betB lo hi zs = true := by simp [betB, h]
theorem betB_false {lo hi : Int} {zs : List Int} (h : ¬ Bet lo hi zs) : betB lo hi zs = false := by simp [betB, h]
theorem betB_dig (zs : List Int) : betB 0 9 zs = digB 10 zs := by
  by_cases h : Dig 10 zs
  · rw [digB_true h, betB_true fun i hi => by have := h i hi; omega]
  · rw [digB_false h, betB_false fun H => h fun i hi => by have := H i hi; omega]
set_option maxHeartbeats 4000000 in
theorem specRow (v : Value) (zs : List Int) (n lo hi : Int) (w : World) (hv : Rd w v zs) :
    Calls Try.prog 120 #[v, .int .i64 n, .int .i64 lo, .int .i64 hi] w fun e w' => e = .returned (.bool (decide ((zs.length : Int) = n) && betB lo hi zs)) ∧ ∃ m, w' = w.drewN m := by
  obtain ⟨hl, hf, a, c, rfl, hcap, hr⟩ := hv
  by_cases hn : (zs.length : Int) = n
  rotate_left
  · have hd : ((zs.length : Int) != n) = true := by simpa using hn
    rw [decide_eq_false hn]
    clear hn hr
    go_enter Try.func120, Try.ntmps120
    go_wp2
    go_ret
    exact ⟨rfl, 0, rfl⟩
  have hd : ((zs.length : Int) != n) = false := by simpa using hn
  rw [decide_eq_true hn, Bool.true_and]
  clear hn
  go_enter Try.func120, Try.ntmps120
  go_wp2
  go_loopw [9] (fun s wr => ∃ k : Nat, k ≤ zs.length ∧ s = .int .i64 k ∧ (∀ i, i < k → lo ≤ zs.getD i 0 ∧ zs.getD i 0 ≤ hi) ∧ ∃ m, wr = w.drewN m) (fun s _ => zs.length - (intOf s).toNat)
  case atStart => exact ⟨0, Nat.zero_le _, rfl, fun i hi => by omega, 0, rfl⟩
  case round =>
    obtain ⟨k, hk, rfl, hall, m, hwr⟩ := hrel
    have HWR := Lib.hid hwr
    have HA := Lib.hid hall
    have hcw : ∀ p : Addr, wr.cell? p = w.cell? p := fun p => by rw [hwr]; rfl
    have HCW := Lib.hid hcw
    clear hall hwr hcw
    by_cases hlt : k < zs.length
    · obtain ⟨b, o, rfl, hb, hcell⟩ := hr (by intro h0; rw [h0] at hlt; simp at hlt)
      obtain ⟨x, hx⟩ : ∃ x, x = zs.getD k 0 := ⟨_, rfl⟩
      have hc : wr.cell? ⟨b, o + k, none⟩ = some (.int .i64 x) := by rw [hx, HCW.out]; exact hcell k hlt
      have i0 : (0 : Int) ≤ (k : Int) := by omega
      have i1 : (k : Int) < (zs.length : Int) := by omega
      have HX := Lib.hid hx
      clear hcell hr hx
      by_cases hg : lo ≤ x ∧ x ≤ hi
      · have HA1 := Lib.hid hg
        have HN : Hid (∀ i, i < k + 1 → lo ≤ zs.getD i 0 ∧ zs.getD i 0 ≤ hi) := Lib.hid (fun i hi => by
          by_cases he : i = k
          · subst he; rw [← HX.out]; exact HA1.out
          · exact HA.out i (by omega))
        clear hg
        go_wp2_with fail
        refine (specInY _ _ _ _ HA1.out).mono ?_
        rintro e1 w1 ⟨rfl, rfl⟩
        go_wp2
        go_roundw
        case rel => exact ⟨k + 1, by omega, by go_num, HN.out, m, HWR.out⟩
        case measure => simp [intOf]; omega
      · have HA1 := Lib.hid hg
        have HF : Hid (betB lo hi zs = false) := Lib.hid (betB_false fun H => HA1.out (by have := H k hlt; rw [← HX.out] at this; exact this))
        clear hg
        go_wp2_with fail
        refine (specInN _ _ _ _ HA1.out).mono ?_
        rintro e1 w1 ⟨rfl, rfl⟩
        go_wp2
        go_ret
        exact ⟨by rw [HF.out] <;> rfl, m, HWR.out⟩
    · obtain rfl : k = zs.length := by omega
      have HF : Hid (betB lo hi zs = true) := Lib.hid (betB_true HA.out)
      clear hr hlt
      have hnlt : ¬ ((zs.length : Int) < (zs.length : Int)) := by omega
      go_wp2
      go_ret
      exact ⟨by rw [HF.out] <;> rfl, m, HWR.out⟩
theorem specRowD (b : Bool) (v : Value) (zs : List Int) (n lo hi : Int) (w : World) (hv : Rd w v zs) (hn : n = (zs.length : Int)) (h0 : lo = 0) (h9 : hi = 9) (hb : digB 10 zs = b) :
    Calls Try.prog 120 #[v, .int .i64 n, .int .i64 lo, .int .i64 hi] w fun e w' => e = .returned (.bool b) ∧ ∃ m, w' = w.drewN m := by
  subst hn; subst h0; subst h9; subst hb
  have := specRow v zs (zs.length : Int) 0 9 w hv
  rw [decide_eq_true rfl, Bool.true_and, betB_dig] at this
  exact this
set_option maxHeartbeats 4000000 in
theorem specTCells (g o : Nat) (u v : Value) (ls rs : List Int) (w : World) (hu : Rd w u ls) (hv : Rd w v rs) (a0 : w.cell? ⟨g, o, none⟩ = some u) (a1 : w.cell? ⟨g, o + 1, none⟩ = some v) :
    Calls Try.prog 82 #[.pointer (some ⟨g, o, none⟩)] w fun e w' => e = .returned (.bool (tcB ls rs)) ∧ Below w.heap.size w w' := by
  have HU := Lib.hid hu
  have HV := Lib.hid hv
  obtain ⟨_, _, a, c, rfl, _, _⟩ := hu
  obtain ⟨_, _, a', c', rfl, _, _⟩ := hv
  have HD : Hid (∀ n (x : Value) (zs : List Int), Rd w x zs → Rd (w.drewN n) x zs) := Lib.hid (fun n x zs h => h.below (below_drewN (Below.refl _ _) n) (Nat.le_refl _))
  by_cases h1 : (ls.length : Int) ≤ 200
  rotate_left
  · have hd : decide ((ls.length : Int) ≤ 200) = false := decide_eq_false h1
    have HF : Hid (tcB ls rs = false) := Lib.hid (by rw [tcB, hd]; rfl)
    clear h1
    go_enter Try.func82, Try.ntmps82
    go_wp2
    go_quiet (fail)
    go_wp2
    go_ret
    exact ⟨by rw [HF.out] <;> rfl, below_drewN (Below.refl _ _) _⟩
  have hd : decide ((ls.length : Int) ≤ 200) = true := decide_eq_true h1
  by_cases h2 : (rs.length : Int) ≤ 200
  rotate_left
  · have hd2 : decide ((rs.length : Int) ≤ 200) = false := decide_eq_false h2
    have HF : Hid (tcB ls rs = false) := Lib.hid (by rw [tcB, hd2, Bool.false_and, Bool.and_false])
    clear h1 h2
    go_enter Try.func82, Try.ntmps82
    go_wp2
    go_quiet (fail)
    go_wp2
    go_ret
    exact ⟨by rw [HF.out] <;> rfl, below_drewN (Below.refl _ _) _⟩
  have hd2 : decide ((rs.length : Int) ≤ 200) = true := decide_eq_true h2
  have HE : Hid (tcB ls rs = (digB 10 ls && digB 10 rs)) := Lib.hid (by rw [tcB, hd, hd2, Bool.true_and, Bool.true_and])
  clear h1 h2
  rcases eqOr (digB 10 ls) with hb | hb
  · have HB1 := Lib.hid hb
    have e : Hid (tcB ls rs = false) := Lib.hid (by rw [HE.out, hb]; rfl)
    clear hb
    go_enter Try.func82, Try.ntmps82
    go_wp2
    go_quiet ((go_at_call 120; exact Calls.quiet_of (specRowD false _ ls _ _ _ _ (HD.out _ _ _ HU.out) rfl (by decide) (by decide) HB1.out)))
    go_wp2
    go_ret
    exact ⟨by rw [e.out] <;> rfl, below_drewN (Below.refl _ _) _⟩
  have HB1 := Lib.hid hb
  rcases eqOr (digB 10 rs) with hb2 | hb2
  all_goals
    have HB2 := Lib.hid hb2
    have e := Lib.hid (by rw [HE.out, hb, hb2] : tcB ls rs = _)
    clear hb hb2
    go_enter Try.func82, Try.ntmps82
    go_wp2
    go_quiet ((first | (go_at_call 120; exact Calls.quiet_of (specRowD true _ ls _ _ _ _ (HD.out _ _ _ HU.out) rfl (by decide) (by decide) HB1.out)) | (go_at_call 120; exact Calls.quiet_of (specRowD _ _ rs _ _ _ _ (HD.out _ _ _ HV.out) rfl (by decide) (by decide) HB2.out))))
    go_wp2
    go_ret
    exact ⟨by rw [e.out] <;> rfl, below_drewN (Below.refl _ _) _⟩
theorem specTrimT (v : Value) (Z : List Int) (w : World) (h : Rd w v Z) :
    Calls Try.prog 87 #[v] w fun e w' => ∃ r, e = .returned r ∧ Ow w' w.heap.size w'.heap.size r (tr Z) ∧ Below w.heap.size w w' := by
  have H := Lib.hid h
  clear h
  go_enter Try.func87, Try.ntmps87
  go_wp2_with fail
  refine (specTr _ Z _ H.out).mono ?_
  rintro e w1 ⟨u, rfl, hu, rfl⟩
  have HU := Lib.hid hu
  clear hu
  go_wp2_with fail
  refine (specOwn _ (tr Z) _ HU.out).mono ?_
  rintro e w2 ⟨r, rfl, ho, hb⟩
  have HO := Lib.hid ho
  have HB := Lib.hid hb
  clear ho hb
  go_wp2
  go_ret
  exact ⟨_, rfl, HO.out, HB.out⟩
end Go.Proofs.Ytmaapgjgbmefmaa.Ints
