/- Words of tag systems; ValidTag, ValidCyclic and ValidTurn, of the model and of the program. -/
import Derived.Test.YtbifkjmmhfnblaaDoorRdL
import Derived.Test.YtbifkjmmhfnblaaDoorCel
import Derived.Test.YtbifkjmmhfnblaaDoorDig
import Derived.Test.YtbifkjmmhfnblaaDoorIn
namespace Go.Proofs.YtbifkjmmhfnblaaDoor.Ints
open Go.RowKit
set_option linter.unusedVariables false
set_option linter.unusedSimpArgs false
open Classical in
noncomputable def overB (n : Int) (zs : List Int) : Bool := decide (zs.length ≤ 1000 ∧ Dig n zs)
theorem overB_true {n : Int} {zs : List Int} (h1 : zs.length ≤ 1000) (h2 : Dig n zs) : overB n zs = true := by simp [overB, h1, h2]
theorem overB_false {n : Int} {zs : List Int} (h : ¬ (zs.length ≤ 1000 ∧ Dig n zs)) : overB n zs = false := by simp only [overB]; simpa using h
theorem overB_split {n : Int} {zs : List Int} (h : zs.length ≤ 1000) : overB n zs = digB n zs := by
  by_cases k : Dig n zs
  · rw [overB_true h k, digB_true k]
  · rw [overB_false (fun q => k q.2), digB_false k]
theorem overB_ok {n : Int} {zs : List Int} (h : overB n zs = true) : zs.length ≤ 1000 ∧ Dig n zs := by simpa [overB] using h
open Classical in
noncomputable def allQ (n : Int) (zss : List (List Int)) : Bool := zss.all (overB n)
theorem allQ_true {n : Int} {zss : List (List Int)} (h : ∀ i, i < zss.length → overB n (zss.getD i []) = true) : allQ n zss = true := by
  rw [allQ, List.all_eq_true]
  intro x hx
  obtain ⟨i, hi, rfl⟩ := List.getElem_of_mem hx
  have := h i hi
  rwa [List.getD_eq_getElem?_getD, List.getElem?_eq_getElem hi] at this
theorem allQ_false {n : Int} {zss : List (List Int)} {i : Nat} (hi : i < zss.length) (h : overB n (zss.getD i []) = false) : allQ n zss = false := by
  rw [allQ, List.all_eq_false]
  refine ⟨_, List.getElem_mem hi, ?_⟩
  rw [List.getD_eq_getElem?_getD, List.getElem?_eq_getElem hi] at h
  simp at h
  simp [h]
theorem allQ_at {n : Int} {zss : List (List Int)} (h : allQ n zss = true) {i : Nat} (hi : i < zss.length) : overB n (zss.getD i []) = true := by
  rw [allQ, List.all_eq_true] at h
  rw [List.getD_eq_getElem?_getD, List.getElem?_eq_getElem hi]
  exact h _ (List.getElem_mem hi)
/-- Each number is greater than the one before it. -/
def IncQ (zs : List Int) (n : Nat) : Prop := ∀ i, i + 1 < n → zs.getD i 0 < zs.getD (i + 1) 0
theorem IncQ.up {zs : List Int} {n : Nat} (h : IncQ zs n) (k : 0 < n → zs.getD (n - 1) 0 < zs.getD n 0) : IncQ zs (n + 1) := fun i hi => by
  by_cases e : i + 1 = n
  · subst e; have := k (by omega); simpa using this
  · exact h i (by omega)
open Classical in
noncomputable def incB (zs : List Int) : Bool := decide (IncQ zs zs.length)
open Classical in
noncomputable def riseN (n : Int) (zs : List Int) : Bool := decide (IncQ zs zs.length ∧ Dig n zs)
theorem riseN_true {n : Int} {zs : List Int} (h : IncQ zs zs.length) (k : Dig n zs) : riseN n zs = true := by simp [riseN, h, k]
theorem riseN_inc {n : Int} {zs : List Int} (h : ¬ IncQ zs zs.length) : riseN n zs = false := by simp [riseN, h]
theorem riseN_dig {n : Int} {zs : List Int} (h : ¬ Dig n zs) : riseN n zs = false := by simp [riseN, h]
theorem riseN_split {n : Int} {zs : List Int} (h : IncQ zs zs.length) : riseN n zs = digB n zs := by
  by_cases k : Dig n zs
  · rw [riseN_true h k, digB_true k]
  · rw [riseN_dig k, digB_false k]
open Classical in
noncomputable def tagB (d : Int) (zss : List (List Int)) (hs : List Int) : Bool :=
  decide (1 ≤ d ∧ d ≤ 4) && (decide (1 ≤ (zss.length : Int) ∧ (zss.length : Int) ≤ 200) && (riseN zss.length hs && allQ zss.length zss))
open Classical in
noncomputable def cycB (zss : List (List Int)) : Bool := decide (1 ≤ (zss.length : Int) ∧ (zss.length : Int) ≤ 400) && allQ 2 zss
open Classical in
noncomputable def turnB (zss : List (List Int)) (at' : Int) (xs : List Int) : Bool := cycB zss && (decide (0 ≤ at' ∧ at' < (zss.length : Int)) && overB 2 xs)
theorem specInW (n lo hi : Int) (b : Bool) (w : World) (h : b = true ↔ (lo ≤ n ∧ n ≤ hi)) : Calls Tryd.prog 43 #[.int .i64 n, .int .i64 lo, .int .i64 hi] w fun e w' => e = .returned (.bool b) ∧ w = w' :=
  (specInB n lo hi b w h).mono fun _ _ h => ⟨h.1, h.2.symm⟩
set_option maxHeartbeats 1000000 in
theorem specOver (v : Value) (zs : List Int) (n : Int) (w : World) (h : Rd w v zs) (hn : 0 ≤ n ∧ n ≤ 1048576) :
    Calls Tryd.prog 129 #[v, .int .i64 n] w fun e w' => e = .returned (.bool (overB n zs)) ∧ w = w' := by
  have H := Lib.hid h
  obtain ⟨hl, hf, a, c, rfl, hcap, hr⟩ := h
  obtain ⟨m, hm⟩ : ∃ m, m = n - 1 := ⟨_, rfl⟩
  have ew : IntKind.i64.wrap (n - 1) = m := by rw [IntKind.wrap_i64]; omega
  have HM := Lib.hid hm
  have HR := Lib.hid hr
  clear hr hm hn
  go_enter Tryd.func129, Tryd.ntmps129
  go_wp2
  go_loop [5] (fun s => ∃ k : Nat, k ≤ zs.length ∧ s = .int .i64 k ∧ (∀ i, i < k → 0 ≤ zs.getD i 0 ∧ zs.getD i 0 < n)) (fun s => zs.length - (intOf s).toNat)
  case atStart => exact ⟨0, Nat.zero_le _, rfl, fun i hi => by omega⟩
  case round =>
    obtain ⟨k, hk, rfl, hall⟩ := hrel
    have HA := Lib.hid hall
    clear hall
    by_cases hlt : k < zs.length
    · obtain ⟨b, o, rfl, hb, hcell⟩ := HR.out (by intro h0; rw [h0] at hlt; simp at hlt)
      obtain ⟨x, hx⟩ : ∃ x, x = zs.getD k 0 := ⟨_, rfl⟩
      have hc : w.cell? ⟨b, o + k, none⟩ = some (.int .i64 x) := by rw [hx]; exact hcell k hlt
      have i0 : (0 : Int) ≤ (k : Int) := by omega
      have i1 : (k : Int) < (zs.length : Int) := by omega
      have HX := Lib.hid hx
      clear hcell hx
      by_cases hg : 0 ≤ x ∧ x ≤ m
      · have HG : Hid (0 ≤ x ∧ x ≤ m) := Lib.hid hg
        have HN : Hid (∀ i, i < k + 1 → 0 ≤ zs.getD i 0 ∧ zs.getD i 0 < n) := Lib.hid (fun i hi => by
          by_cases he : i = k
          · subst he; rw [← HX.out]; have := HM.out; omega
          · exact HA.out i (by omega))
        clear hg
        go_wp2_with (go_at_call 43; refine (specInW _ _ _ true _ ⟨fun _ => HG.out, fun _ => rfl⟩).mono ?_; rintro e w' ⟨rfl, rfl⟩)
        go_round
        case rel => exact ⟨k + 1, by omega, by go_num, HN.out⟩
        case measure => simp [intOf]; omega
      · have HG : Hid (¬ (0 ≤ x ∧ x ≤ m)) := Lib.hid hg
        have HF : Hid (overB n zs = false) := Lib.hid (overB_false fun q => hg (by have := q.2 k hlt; rw [← HX.out] at this; have := HM.out; omega))
        clear hg
        go_wp2_with (go_at_call 43; refine (specInW _ _ _ false _ ⟨fun h => (by cases h), fun h => (by have := HG.out; omega)⟩).mono ?_; rintro e w' ⟨rfl, rfl⟩)
        go_ret
        exact ⟨by rw [HF.out] <;> rfl, rfl⟩
    · obtain rfl : k = zs.length := by omega
      by_cases hz : zs.length ≤ 1000
      · have HF : Hid (overB n zs = true) := Lib.hid (overB_true hz (fun i hi => HA.out i hi))
        have hz' : (zs.length : Int) ≤ 1000 := by omega
        go_wp2
        go_ret
        exact ⟨by rw [HF.out] <;> rfl, rfl⟩
      · have HF : Hid (overB n zs = false) := Lib.hid (overB_false fun q => hz q.1)
        have hz' : ¬ (zs.length : Int) ≤ 1000 := by omega
        go_wp2
        go_ret
        exact ⟨by rw [HF.out] <;> rfl, rfl⟩
theorem specBits (v : Value) (zs : List Int) (w : World) (h : Rd w v zs) :
    Calls Tryd.prog 103 #[v] w fun e w' => e = .returned (.bool (overB 2 zs)) ∧ w = w' := by
  have H := Lib.hid h
  clear h
  go_enter Tryd.func103, Tryd.ntmps103
  go_wp2_with fail
  refine (specOver _ zs 2 _ H.out (by omega)).mono ?_
  rintro e w' ⟨rfl, rfl⟩
  go_wp2
  go_ret
  exact ⟨rfl, rfl⟩
set_option maxRecDepth 100000 in
set_option maxHeartbeats 4000000 in
theorem specRisesN (v : Value) (zs : List Int) (n m : Int) (w : World) (h : Rd w v zs) (hm : m = n - 1) (hn : 0 ≤ n ∧ n ≤ 1048576) :
    Calls Tryd.prog 131 #[v, .int .i64 0, .int .i64 m] w fun e w' => e = .returned (.bool (riseN n zs)) ∧ Below w.heap.size w w' := by
  obtain ⟨hl, hf, a, c, rfl, hcap, hr⟩ := h
  have HR := Lib.hid hr
  have HM := Lib.hid hm
  clear hr hm hn
  go_enter Tryd.func131, Tryd.ntmps131
  go_wp2
  go_loopw [7] (fun s wr => ∃ k : Nat, k ≤ zs.length ∧ s = .int .i64 k ∧ (IncQ zs k ∧ ∀ i, i < k → 0 ≤ zs.getD i 0 ∧ zs.getD i 0 < n) ∧ Below w.heap.size w wr) (fun s _ => zs.length - (intOf s).toNat)
  case atStart => exact ⟨0, Nat.zero_le _, rfl, ⟨(fun i hi => by omega), (fun i hi => by omega)⟩, Below.refl _ _⟩
  case round =>
    obtain ⟨k, hk, rfl, hall, hbel⟩ := hrel
    have HA := Lib.hid hall
    have HB := Lib.hid hbel
    clear hall
    by_cases hlt : k < zs.length
    · obtain ⟨b, o, rfl, hb, hcell⟩ := HR.out (by intro h0; rw [h0] at hlt; simp at hlt)
      obtain ⟨x, hx⟩ : ∃ x, x = zs.getD k 0 := ⟨_, rfl⟩
      have hc : wr.cell? ⟨b, o + k, none⟩ = some (.int .i64 x) := by rw [hx]; exact (hbel.cell hb).trans (hcell k hlt)
      have i0 : (0 : Int) ≤ (k : Int) := by omega
      have i1 : (k : Int) < (zs.length : Int) := by omega
      have HX := Lib.hid hx
      by_cases hg : 0 ≤ x ∧ x ≤ m
      · have HG := Lib.hid hg
        by_cases hk0 : k = 0
        · have hN : IncQ zs (k + 1) ∧ ∀ i, i < k + 1 → 0 ≤ zs.getD i 0 ∧ zs.getD i 0 < n := ⟨fun i hi => by omega, fun i hi => by
            obtain rfl : i = k := by omega
            rw [← HX.out]; have := HG.out; have := HM.out; omega⟩
          have HN := Lib.hid hN
          have dz : decide ((0 : Int) < (k : Int)) = false := decide_eq_false (by omega)
          have dz2 : decide (0 < k) = false := decide_eq_false (by omega)
          clear hN hcell hbel hx hg hk0
          go_wp2
          go_quiet ((go_at_call 43; exact Calls.quiet_of_same (specInB _ _ _ true _ ⟨fun _ => HG.out, fun _ => rfl⟩)))
          go_wp2
          go_roundw
          case rel => exact ⟨k + 1, by omega, by go_num, HN.out, below_drewN HB.out _⟩
          case measure => simp [intOf]; omega
        · obtain ⟨y, hy⟩ : ∃ y, y = zs.getD (k - 1) 0 := ⟨_, rfl⟩
          have hc2 : wr.cell? ⟨b, o + (k - 1), none⟩ = some (.int .i64 y) := by rw [hy]; exact (hbel.cell hb).trans (hcell (k - 1) (by omega))
          have HY := Lib.hid hy
          have j0 : (0 : Int) ≤ (k : Int) - 1 := by omega
          have j1 : (k : Int) - 1 < (zs.length : Int) := by omega
          have j2 : ((k : Int) - 1).toNat = k - 1 := by omega
          have dz : (0 : Int) < (k : Int) := by omega
          have dz2 : 0 < k := by omega
          by_cases hxy : y < x
          · have hN : IncQ zs (k + 1) ∧ ∀ i, i < k + 1 → 0 ≤ zs.getD i 0 ∧ zs.getD i 0 < n := ⟨HA.out.1.up (fun _ => by rw [← HX.out, ← HY.out]; exact hxy), fun i hi => by
              by_cases he : i = k
              · subst he; rw [← HX.out]; have := HG.out; have := HM.out; omega
              · exact HA.out.2 i (by omega)⟩
            have HN := Lib.hid hN
            have dx : decide (x ≤ y) = false := decide_eq_false (by omega)
            clear hN hcell hbel hx hy hg hk0 hxy
            go_wp2
            go_quiet ((go_at_call 43; exact Calls.quiet_of_same (specInB _ _ _ true _ ⟨fun _ => HG.out, fun _ => rfl⟩)))
            go_wp2
            go_roundw
            case rel => exact ⟨k + 1, by omega, by go_num, HN.out, below_drewN HB.out _⟩
            case measure => simp [intOf]; omega
          · have hF : riseN n zs = false := riseN_inc fun H => by
              have := H (k - 1) (by omega)
              rw [show k - 1 + 1 = k by omega, ← HX.out, ← HY.out] at this
              omega
            have HF := Lib.hid hF
            have dx : decide (x ≤ y) = true := decide_eq_true (by omega)
            clear hF hcell hbel hx hy hg hk0
            go_wp2
            go_quiet ((go_at_call 43; exact Calls.quiet_of_same (specInB _ _ _ true _ ⟨fun _ => HG.out, fun _ => rfl⟩)))
            go_wp2
            go_ret
            exact ⟨by rw [HF.out] <;> rfl, below_drewN HB.out _⟩
      · have HI : Hid (¬ (0 ≤ x ∧ x ≤ m)) := Lib.hid hg
        have hF : riseN n zs = false := riseN_dig fun H => hg (by have := H k hlt; rw [← HX.out] at this; have := HM.out; omega)
        have HF := Lib.hid hF
        clear hF hcell hbel hx hg
        go_wp2
        go_quiet ((go_at_call 43; exact Calls.quiet_of_same (specInB _ _ _ false _ ⟨fun h => (by cases h), fun h => (by have := HI.out; omega)⟩)))
        go_wp2
        go_ret
        exact ⟨by rw [HF.out] <;> rfl, below_drewN HB.out _⟩
    · obtain rfl : k = zs.length := by omega
      have HF : Hid (riseN n zs = true) := Lib.hid (riseN_true HA.out.1 (fun i hi => HA.out.2 i hi))
      have i1 : ¬ (zs.length : Int) < (zs.length : Int) := by omega
      clear hbel
      go_wp2
      go_ret
      exact ⟨by rw [HF.out] <;> rfl, HB.out⟩
set_option maxRecDepth 100000 in
set_option maxHeartbeats 4000000 in
theorem implIsIncQ (v : Value) (zs : List Int) (w : World) (h : Rd w v zs) (ib : Bool) (hib : ib = true ↔ IncQ zs zs.length) :
    Calls Tryd.prog 112 #[v] w fun e w' => e = .returned (.bool ib) ∧ Below w.heap.size w w' := by
  have HI := Lib.hid hib
  clear hib
  have H := Lib.hid h
  obtain ⟨hl, hf, a, c, rfl, hcap, hr⟩ := h
  have HR := Lib.hid hr
  clear hr
  go_enter Tryd.func112, Tryd.ntmps112
  go_wp2
  go_loopw [7] (fun s wr => ∃ k : Nat, k ≤ zs.length ∧ s = .int .i64 k ∧ IncQ zs k ∧ Below w.heap.size w wr) (fun s _ => zs.length - (intOf s).toNat)
  case atStart => exact ⟨0, Nat.zero_le _, rfl, (fun i hi => by omega), Below.refl _ _⟩
  case round =>
    obtain ⟨k, hk, rfl, hall, hbel⟩ := hrel
    have HA := Lib.hid hall
    have HB := Lib.hid hbel
    clear hall
    by_cases hlt : k < zs.length
    · obtain ⟨b, o, rfl, hb, hcell⟩ := HR.out (by intro h0; rw [h0] at hlt; simp at hlt)
      obtain ⟨x, hx⟩ : ∃ x, x = zs.getD k 0 := ⟨_, rfl⟩
      have hc : wr.cell? ⟨b, o + k, none⟩ = some (.int .i64 x) := by rw [hx]; exact (hbel.cell hb).trans (hcell k hlt)
      have i0 : (0 : Int) ≤ (k : Int) := by omega
      have i1 : (k : Int) < (zs.length : Int) := by omega
      have HX := Lib.hid hx
      by_cases hk0 : k = 0
      · have hN : IncQ zs (k + 1) := fun i hi => by omega
        have HN := Lib.hid hN
        have dz : decide ((0 : Int) < (k : Int)) = false := decide_eq_false (by omega)
        have dz2 : decide (0 < k) = false := decide_eq_false (by omega)
        clear hN hcell hbel hx hk0
        go_wp2
        go_roundw
        case rel => exact ⟨k + 1, by omega, by go_num, HN.out, HB.out⟩
        case measure => simp [intOf]; omega
      · obtain ⟨y, hy⟩ : ∃ y, y = zs.getD (k - 1) 0 := ⟨_, rfl⟩
        have hc2 : wr.cell? ⟨b, o + (k - 1), none⟩ = some (.int .i64 y) := by rw [hy]; exact (hbel.cell hb).trans (hcell (k - 1) (by omega))
        have HY := Lib.hid hy
        have j0 : (0 : Int) ≤ (k : Int) - 1 := by omega
        have j1 : (k : Int) - 1 < (zs.length : Int) := by omega
        have j2 : ((k : Int) - 1).toNat = k - 1 := by omega
        have dz : (0 : Int) < (k : Int) := by omega
        have dz2 : 0 < k := by omega
        by_cases hxy : y < x
        · have hN : IncQ zs (k + 1) := HA.out.up (fun _ => by rw [← HX.out, ← HY.out]; exact hxy)
          have HN := Lib.hid hN
          have dx : decide (x ≤ y) = false := decide_eq_false (by omega)
          clear hN hcell hbel hx hy hk0 hxy
          go_wp2
          go_roundw
          case rel => exact ⟨k + 1, by omega, by go_num, HN.out, HB.out⟩
          case measure => simp [intOf]; omega
        · have hF : ib = false := by
            cases hib : ib with
            | false => rfl
            | true =>
              exfalso
              have := (HI.out.1 hib) (k - 1) (by omega)
              rw [show k - 1 + 1 = k by omega, ← HX.out, ← HY.out] at this
              omega
          have HF := Lib.hid hF
          have dx : decide (x ≤ y) = true := decide_eq_true (by omega)
          clear hF hcell hbel hx hy hk0
          go_wp2
          go_ret
          exact ⟨by rw [HF.out] <;> rfl, HB.out⟩
    · obtain rfl : k = zs.length := by omega
      have HT := Lib.hid (HI.out.2 HA.out)
      have HBB := Lib.hid hbel
      have i1 : ¬ (zs.length : Int) < (zs.length : Int) := by omega
      clear hbel
      go_wp2
      go_ret
      exact ⟨by rw [HT.out] <;> rfl, HBB.out⟩
theorem implTagWord (v : Value) (zs : List Int) (n : Int) (w : World) (h : Rd w v zs) :
    Calls Tryd.prog 130 #[v, .int .i64 n] w fun e w' => e = .returned (.bool (overB n zs)) ∧ Below w.heap.size w w' := by
  have H := Lib.hid h
  obtain ⟨hl, hf, a, c, rfl, hcap, hr⟩ := h
  clear hr
  by_cases hz : zs.length ≤ 1000
  · have HF := Lib.hid (overB_split (n := n) hz)
    have hz' : (zs.length : Int) ≤ 1000 := by omega
    go_enter Tryd.func130, Tryd.ntmps130
    go_wp2_with (go_at_call 91; refine (areBelow_any _ zs _ _ H.out).mono ?_; rintro e w' ⟨rfl, hb⟩)
    go_ret
    exact ⟨by rw [HF.out] <;> rfl, hb⟩
  · have HF : Hid (overB n zs = false) := Lib.hid (overB_false fun q => hz q.1)
    have hz' : ¬ (zs.length : Int) ≤ 1000 := by omega
    go_enter Tryd.func130, Tryd.ntmps130
    go_wp2
    go_ret
    exact ⟨by rw [HF.out] <;> rfl, Below.refl _ _⟩
theorem implCycWord (v : Value) (zs : List Int) (w : World) (h : Rd w v zs) :
    Calls Tryd.prog 108 #[v] w fun e w' => e = .returned (.bool (overB 2 zs)) ∧ Below w.heap.size w w' := by
  have H := Lib.hid h
  clear h
  go_enter Tryd.func108, Tryd.ntmps108
  go_wp2_with fail
  refine (implTagWord _ zs 2 _ H.out).mono ?_
  rintro e w1 ⟨rfl, hb⟩
  have HB := Lib.hid hb
  clear hb
  go_wp2
  go_ret
  exact ⟨rfl, HB.out⟩
theorem implTagIsWord (d : Int) (a : Option Addr) (n c : Nat) (u v : Value) (zs : List Int) (w : World) (h : Rd w v zs) :
    Calls Tryd.prog 111 #[.agg #[.int .i64 d, .slice a n c, u], v] w fun e w' => e = .returned (.bool (overB n zs)) ∧ Below w.heap.size w w' := by
  have HH : ∀ x : Obj, Hid (Rd (w.alloc x) v zs) := fun x => Lib.hid (h.below ((Below.refl _ _).alloc (Nat.le_refl _) _) (Nat.le_refl _))
  have HB : ∀ x : Obj, Hid (Below w.heap.size w (w.alloc x)) := fun x => Lib.hid ((Below.refl _ _).alloc (Nat.le_refl _) _)
  clear h
  go_enter Tryd.func111, Tryd.ntmps111
  go_wp2_with fail
  refine (implTagWord _ zs n _ (HH _).out).mono ?_
  rintro e w1 ⟨rfl, hb⟩
  have HB1 := Lib.hid ((HB _).out.trans (hb.mono (by simp)))
  clear hb
  go_wp2
  go_ret
  exact ⟨rfl, HB1.out⟩
set_option maxHeartbeats 1000000 in
theorem eachCyc (v : Value) (zss : List (List Int)) (w : World) (h : RdL w v zss) :
    Calls Tryd.prog 107 #[.func (Fn.func 108) #[] #[], v] w fun e w' => e = .returned (.bool (allQ 2 zss)) ∧ Below w.heap.size w w' := by
  have HH := Lib.hid h
  have hl := h.len
  obtain ⟨_, a, c, rfl, hcap, hr⟩ := h
  clear hr
  go_enter Tryd.func107, Tryd.ntmps107
  go_wp2
  go_loopw [9] (fun s wr => ∃ k : Nat, k ≤ zss.length ∧ s = .int .i64 k ∧ (∀ i, i < k → overB 2 (zss.getD i []) = true) ∧ Below w.heap.size w wr) (fun s _ => zss.length - (intOf s).toNat)
  case atStart => exact ⟨0, Nat.zero_le _, rfl, fun i hi => by omega, Below.refl _ _⟩
  case round =>
    obtain ⟨k, hk, rfl, hall, hbel⟩ := hrel
    have HA := Lib.hid hall
    have HB := Lib.hid hbel
    clear hall hbel
    by_cases hlt : k < zss.length
    · obtain ⟨_, a', c', he, _, hr⟩ := HH.out.below HB.out (Nat.le_refl _)
      obtain ⟨b, o, ha, hb, hcell⟩ := hr (by intro h0; rw [h0] at hlt; simp at hlt)
      simp only [Value.slice.injEq] at he
      obtain ⟨rfl, _, rfl⟩ := he
      subst ha
      obtain ⟨x, hc, hx⟩ := hcell k hlt
      obtain ⟨zs, hzs⟩ : ∃ z, z = zss.getD k [] := ⟨_, rfl⟩
      rw [← hzs] at hx
      have HZ := Lib.hid hzs
      have HX := Lib.hid hx
      obtain ⟨_, _, ax, cx, rfl, _, _⟩ := hx
      have i0 : (0 : Int) ≤ (k : Int) := by omega
      have i1 : (k : Int) < (zss.length : Int) := by omega
      clear hcell hr hzs
      cases hw : overB 2 zs with
      | true =>
        have HW := Lib.hid hw
        have HN : Hid (∀ i, i < k + 1 → overB 2 (zss.getD i []) = true) := Lib.hid (fun i hi => by
          by_cases he : i = k
          · subst he; rw [← HZ.out]; exact HW.out
          · exact HA.out i (by omega))
        clear hw
        go_wp2_with (go_at_call 108; refine (implCycWord _ zs _ HX.out).mono ?_; rintro e w2 ⟨rfl, hb⟩; rw [HW.out]; have HB2 := Lib.hid (HB.out.trans (hb.mono HB.out.size)); clear hb)
        go_roundw
        case rel => exact ⟨k + 1, by omega, by go_num, HN.out, HB2.out⟩
        case measure => simp [intOf]; omega
      | false =>
        have HW := Lib.hid hw
        have HF := Lib.hid (allQ_false hlt (by rw [← HZ.out]; exact hw))
        clear hw
        go_wp2_with (go_at_call 108; refine (implCycWord _ zs _ HX.out).mono ?_; rintro e w2 ⟨rfl, hb⟩; rw [HW.out]; have HB2 := Lib.hid (HB.out.trans (hb.mono HB.out.size)); clear hb)
        go_ret
        exact ⟨by rw [HF.out] <;> rfl, HB2.out⟩
    · obtain rfl : k = zss.length := by omega
      have HF := Lib.hid (allQ_true (zss := zss) (fun i hi => HA.out i hi))
      go_wp2
      go_ret
      exact ⟨by rw [HF.out] <;> rfl, HB.out⟩
set_option maxHeartbeats 1000000 in
theorem eachTag (d : Int) (a0 : Option Addr) (n0 c0 : Nat) (u0 : Value) (v : Value) (zss : List (List Int)) (w : World) (h : RdL w v zss) :
    Calls Tryd.prog 107 #[.func (Fn.func 111) #[.agg #[.int .i64 d, .slice a0 n0 c0, u0]] #[], v] w fun e w' => e = .returned (.bool (allQ n0 zss)) ∧ Below w.heap.size w w' := by
  have HH := Lib.hid h
  have hl := h.len
  obtain ⟨_, a, c, rfl, hcap, hr⟩ := h
  clear hr
  go_enter Tryd.func107, Tryd.ntmps107
  go_wp2
  go_loopw [9] (fun s wr => ∃ k : Nat, k ≤ zss.length ∧ s = .int .i64 k ∧ (∀ i, i < k → overB n0 (zss.getD i []) = true) ∧ Below w.heap.size w wr) (fun s _ => zss.length - (intOf s).toNat)
  case atStart => exact ⟨0, Nat.zero_le _, rfl, fun i hi => by omega, Below.refl _ _⟩
  case round =>
    obtain ⟨k, hk, rfl, hall, hbel⟩ := hrel
    have HA := Lib.hid hall
    have HB := Lib.hid hbel
    clear hall hbel
    by_cases hlt : k < zss.length
    · obtain ⟨_, a', c', he, _, hr⟩ := HH.out.below HB.out (Nat.le_refl _)
      obtain ⟨b, o, ha, hb, hcell⟩ := hr (by intro h0; rw [h0] at hlt; simp at hlt)
      simp only [Value.slice.injEq] at he
      obtain ⟨rfl, _, rfl⟩ := he
      subst ha
      obtain ⟨x, hc, hx⟩ := hcell k hlt
      obtain ⟨zs, hzs⟩ : ∃ z, z = zss.getD k [] := ⟨_, rfl⟩
      rw [← hzs] at hx
      have HZ := Lib.hid hzs
      have HX := Lib.hid hx
      obtain ⟨_, _, ax, cx, rfl, _, _⟩ := hx
      have i0 : (0 : Int) ≤ (k : Int) := by omega
      have i1 : (k : Int) < (zss.length : Int) := by omega
      clear hcell hr hzs
      cases hw : overB n0 zs with
      | true =>
        have HW := Lib.hid hw
        have HN : Hid (∀ i, i < k + 1 → overB n0 (zss.getD i []) = true) := Lib.hid (fun i hi => by
          by_cases he : i = k
          · subst he; rw [← HZ.out]; exact HW.out
          · exact HA.out i (by omega))
        clear hw
        go_wp2_with (go_at_call 111; refine (implTagIsWord _ _ _ _ _ _ zs _ HX.out).mono ?_; rintro e w2 ⟨rfl, hb⟩; rw [HW.out]; have HB2 := Lib.hid (HB.out.trans (hb.mono HB.out.size)); clear hb)
        go_roundw
        case rel => exact ⟨k + 1, by omega, by go_num, HN.out, HB2.out⟩
        case measure => simp [intOf]; omega
      | false =>
        have HW := Lib.hid hw
        have HF := Lib.hid (allQ_false hlt (by rw [← HZ.out]; exact hw))
        clear hw
        go_wp2_with (go_at_call 111; refine (implTagIsWord _ _ _ _ _ _ zs _ HX.out).mono ?_; rintro e w2 ⟨rfl, hb⟩; rw [HW.out]; have HB2 := Lib.hid (HB.out.trans (hb.mono HB.out.size)); clear hb)
        go_ret
        exact ⟨by rw [HF.out] <;> rfl, HB2.out⟩
    · obtain rfl : k = zss.length := by omega
      have HF := Lib.hid (allQ_true (zss := zss) (fun i hi => HA.out i hi))
      go_wp2
      go_ret
      exact ⟨by rw [HF.out] <;> rfl, HB.out⟩
set_option maxHeartbeats 2000000 in
theorem specTagIs (gx : Nat) (d : Int) (v : Value) (zss : List (List Int)) (u : Value) (hs : List Int) (w : World) (hv : RdL w v zss) (hu : Rd w u hs) (hx : Cels w gx 59 [.int .i64 d, v, u]) :
    Calls Tryd.prog 109 #[.pointer (some ⟨gx, 0, none⟩)] w fun e w' => e = .returned (.bool (tagB d zss hs)) ∧ Below w.heap.size w w' := by
  have HV := Lib.hid hv
  have HU := Lib.hid hu
  have HX := Lib.hid hx
  have hl := hv.len
  obtain ⟨_, a, c, rfl, hcap, _⟩ := hv
  obtain ⟨_, _, a2, c2, rfl, _, _⟩ := hu
  obtain ⟨b1, hb1⟩ : ∃ b, b = decide (1 ≤ d ∧ d ≤ 4) := ⟨_, rfl⟩
  obtain ⟨b2, hb2⟩ : ∃ b, b = decide (1 ≤ (zss.length : Int) ∧ (zss.length : Int) ≤ 200) := ⟨_, rfl⟩
  obtain ⟨b3, hb3⟩ : ∃ b, b = riseN zss.length hs := ⟨_, rfl⟩
  have HT : Hid (tagB d zss hs = (b1 && (b2 && (b3 && allQ zss.length zss)))) := Lib.hid (by rw [tagB, hb1, hb2, hb3])
  have HB1 : ∀ x, Hid (b1 = x → (x = true ↔ (1 ≤ d ∧ d ≤ 4))) := fun x => Lib.hid (by rw [hb1]; rintro rfl; exact decide_eq_true_iff)
  have HB2 : ∀ x, Hid (b2 = x → (x = true ↔ (1 ≤ (zss.length : Int) ∧ (zss.length : Int) ≤ 200))) := fun x => Lib.hid (by rw [hb2]; rintro rfl; exact decide_eq_true_iff)
  have HB3 := Lib.hid hb3
  obtain ⟨m, hm⟩ : ∃ m : Int, m = (zss.length : Int) - 1 := ⟨_, rfl⟩
  have ew : IntKind.i64.wrap ((zss.length : Int) - 1) = m := by rw [IntKind.wrap_i64]; omega
  have HM := Lib.hid hm
  have x0 := hx.cell 0 rfl
  have x1 := hx.cell 1 rfl
  have x2 := hx.cell 2 rfl
  clear hx hb1 hb2 hb3 hm
  rcases eqOr b1 with hb | hb
  · subst hb
    go_enter Tryd.func109, Tryd.ntmps109
    go_wp2_with fail
    refine (specInW d 1 4 false _ ((HB1 false).out rfl)).mono ?_
    rintro e w1 ⟨rfl, rfl⟩
    go_wp2
    go_ret
    exact ⟨by rw [HT.out] <;> rfl, Below.refl _ _⟩
  subst hb
  rcases eqOr b2 with hb | hb
  · subst hb
    go_enter Tryd.func109, Tryd.ntmps109
    go_wp2_with fail
    refine (specInW d 1 4 true _ ((HB1 true).out rfl)).mono ?_
    rintro e w1 ⟨rfl, rfl⟩
    go_wp2_with fail
    refine (specInW (zss.length : Int) 1 200 false _ ((HB2 false).out rfl)).mono ?_
    rintro e w1 ⟨rfl, rfl⟩
    go_wp2
    go_ret
    exact ⟨by rw [HT.out] <;> rfl, Below.refl _ _⟩
  subst hb
  rcases eqOr b3 with hb | hb
  · subst hb
    go_enter Tryd.func109, Tryd.ntmps109
    go_wp2_with fail
    refine (specInW d 1 4 true _ ((HB1 true).out rfl)).mono ?_
    rintro e w1 ⟨rfl, rfl⟩
    go_wp2_with fail
    refine (specInW (zss.length : Int) 1 200 true _ ((HB2 true).out rfl)).mono ?_
    rintro e w1 ⟨rfl, rfl⟩
    go_wp2_with fail
    refine (specRisesN _ hs (zss.length : Int) m _ HU.out HM.out (by omega)).mono ?_
    rintro e w1 ⟨rfl, hb⟩
    rw [← HB3.out]
    have HB := Lib.hid hb
    clear hb x0 x1 x2
    go_wp2
    go_ret
    exact ⟨by rw [HT.out] <;> rfl, HB.out⟩
  subst hb
  go_enter Tryd.func109, Tryd.ntmps109
  go_wp2_with fail
  refine (specInW d 1 4 true _ ((HB1 true).out rfl)).mono ?_
  rintro e w1 ⟨rfl, rfl⟩
  go_wp2_with fail
  refine (specInW (zss.length : Int) 1 200 true _ ((HB2 true).out rfl)).mono ?_
  rintro e w1 ⟨rfl, rfl⟩
  go_wp2_with fail
  refine (specRisesN _ hs (zss.length : Int) m _ HU.out HM.out (by omega)).mono ?_
  rintro e w1 ⟨rfl, hb⟩
  rw [← HB3.out]
  have HB := Lib.hid hb
  clear hb x0 x1 x2
  go_wp2
  go_loopw [4] (fun s wr => ∃ k : Nat, k ≤ zss.length ∧ s = .int .i64 k ∧ (∀ i, i < k → overB zss.length (zss.getD i []) = true) ∧ Below w.heap.size w wr) (fun s _ => zss.length - (intOf s).toNat)
  case atStart => exact ⟨0, Nat.zero_le _, rfl, fun i hi => by omega, HB.out⟩
  case round =>
    obtain ⟨k, hk, rfl, hall, hbel⟩ := hrel
    have HA := Lib.hid hall
    have HBR := Lib.hid hbel
    have x1 := (HX.out.below hbel HX.out.lt).cell 1 rfl
    clear hall hbel
    by_cases hlt : k < zss.length
    · obtain ⟨_, a', c', he, _, hr⟩ := HV.out.below HBR.out (Nat.le_refl _)
      obtain ⟨b, o, ha, hb, hcell⟩ := hr (by intro h0; rw [h0] at hlt; simp at hlt)
      simp only [Value.slice.injEq] at he
      obtain ⟨rfl, _, rfl⟩ := he
      subst ha
      obtain ⟨x, hc, hx⟩ := hcell k hlt
      obtain ⟨zs, hzs⟩ : ∃ z, z = zss.getD k [] := ⟨_, rfl⟩
      rw [← hzs] at hx
      have HZ := Lib.hid hzs
      have HXX := Lib.hid hx
      obtain ⟨_, _, ax, cx, rfl, _, _⟩ := hx
      have i0 : (0 : Int) ≤ (k : Int) := by omega
      have i1 : (k : Int) < (zss.length : Int) := by omega
      clear hcell hr hzs
      cases hw : overB zss.length zs with
      | true =>
        have HW := Lib.hid hw
        have HN : Hid (∀ i, i < k + 1 → overB zss.length (zss.getD i []) = true) := Lib.hid (fun i hi => by
          by_cases he : i = k
          · subst he; rw [← HZ.out]; exact HW.out
          · exact HA.out i (by omega))
        clear hw
        go_wp2_with fail
        refine (specOver _ zs (zss.length : Int) _ HXX.out (by omega)).mono ?_
        rintro e w2 ⟨rfl, rfl⟩
        rw [HW.out]
        go_wp2
        go_roundw
        case rel => exact ⟨k + 1, by omega, by go_num, HN.out, HBR.out⟩
        case measure => simp [intOf]; omega
      | false =>
        have HW := Lib.hid hw
        have HF := Lib.hid (allQ_false (n := (zss.length : Int)) hlt (by rw [← HZ.out]; exact hw))
        clear hw
        go_wp2_with fail
        refine (specOver _ zs (zss.length : Int) _ HXX.out (by omega)).mono ?_
        rintro e w2 ⟨rfl, rfl⟩
        rw [HW.out]
        go_wp2
        go_ret
        exact ⟨by rw [HT.out, HF.out] <;> rfl, HBR.out⟩
    · obtain rfl : k = zss.length := by omega
      have HF := Lib.hid (allQ_true (n := (zss.length : Int)) (zss := zss) (fun i hi => HA.out i hi))
      have hnlt : ¬ ((zss.length : Int) < (zss.length : Int)) := by omega
      go_wp2
      go_ret
      exact ⟨by rw [HT.out, HF.out] <;> rfl, HBR.out⟩
set_option maxHeartbeats 4000000 in
theorem implValidTag (d : Int) (v : Value) (zss : List (List Int)) (u : Value) (hs : List Int) (w : World) (hv : RdL w v zss) (hu : Rd w u hs) :
    Calls Tryd.prog 80 #[.agg #[.int .i64 d, v, u]] w fun e w' => e = .returned (.bool (tagB d zss hs)) ∧ Below w.heap.size w w' := by
  have HV := Lib.hid hv
  have HU := Lib.hid hu
  have hl := hv.len
  obtain ⟨_, a, c, rfl, hcap, _⟩ := hv
  obtain ⟨_, _, a2, c2, rfl, _, _⟩ := hu
  obtain ⟨W0, hW0⟩ : ∃ W, W = w.alloc (Obj.cells #[.int .i64 d, .slice a zss.length c, .slice a2 hs.length c2] 59) := ⟨_, rfl⟩
  have HB : Hid (Below w.heap.size w W0) := Lib.hid (by rw [hW0]; exact (Below.refl w.heap.size w).alloc (Nat.le_refl _) _)
  have K0 : Hid (Cels W0 w.heap.size 59 [.int .i64 d, .slice a zss.length c, .slice a2 hs.length c2]) := Lib.hid (by rw [hW0]; exact Cels.new _ _ _)
  have HBA : ∀ x : Obj, Hid (Below w.heap.size w (w.alloc x)) := fun x => Lib.hid ((Below.refl _ _).alloc (Nat.le_refl _) _)
  have HW0 := Lib.hid hW0.symm
  clear hW0
  by_cases h1 : 1 ≤ d ∧ d ≤ 4
  rotate_left
  · have HT : Hid (tagB d zss hs = false) := Lib.hid (by rw [tagB, decide_eq_false h1]; rfl)
    by_cases h2 : d < 1
    · go_enter Tryd.func80, Tryd.ntmps80
      go_wp2
      go_ret
      exact ⟨by rw [HT.out] <;> rfl, (HBA _).out⟩
    · have h3 : 4 < d := by omega
      clear h1
      go_enter Tryd.func80, Tryd.ntmps80
      go_wp2
      go_ret
      exact ⟨by rw [HT.out] <;> rfl, (HBA _).out⟩
  by_cases h2 : 1 ≤ (zss.length : Int) ∧ (zss.length : Int) ≤ 200
  rotate_left
  · have HT : Hid (tagB d zss hs = false) := Lib.hid (by rw [tagB, decide_eq_false h2]; simp)
    obtain ⟨g1, g2⟩ := h1
    by_cases h3 : (zss.length : Int) < 1
    · clear h2
      go_enter Tryd.func80, Tryd.ntmps80
      go_wp2
      go_ret
      exact ⟨by rw [HT.out] <;> rfl, (HBA _).out⟩
    · have h4 : 200 < (zss.length : Int) := by omega
      clear h2
      go_enter Tryd.func80, Tryd.ntmps80
      go_wp2
      go_ret
      exact ⟨by rw [HT.out] <;> rfl, (HBA _).out⟩
  have HT : Hid (tagB d zss hs = (allQ zss.length zss && riseN zss.length hs)) := Lib.hid (by rw [tagB, decide_eq_true h1, decide_eq_true h2, Bool.true_and, Bool.true_and, Bool.and_comm])
  obtain ⟨g1, g2⟩ := h1
  obtain ⟨g3, g4⟩ := h2
  obtain ⟨q1, hq1⟩ : ∃ b, b = allQ zss.length zss := ⟨_, rfl⟩
  obtain ⟨q2, hq2⟩ : ∃ b : Bool, b = incB hs := ⟨_, rfl⟩
  have HQ1 := Lib.hid hq1
  have HQ2 := Lib.hid hq2
  have HI2 : ∀ x, Hid (q2 = x → (x = true ↔ IncQ hs hs.length)) := fun x => Lib.hid (by rw [hq2]; rintro rfl; simp [incB])
  clear hq1 hq2
  go_enter Tryd.func80, Tryd.ntmps80
  go_wp2_with fail
  rw [HW0.out]
  refine (eachTag d a zss.length c _ _ zss _ (HV.out.below HB.out (Nat.le_refl _))).mono ?_
  rintro e w1 ⟨rfl, hb⟩
  rw [← HQ1.out]
  have HB1 := Lib.hid (HB.out.trans (hb.mono HB.out.size))
  have K1 := Lib.hid (K0.out.below hb K0.out.lt)
  clear hb
  rcases eqOr q1 with hb | hb
  · subst hb
    have HE : Hid (tagB d zss hs = false) := Lib.hid (by rw [HT.out, ← HQ1.out]; rfl)
    go_wp2
    go_ret
    exact ⟨by rw [HE.out] <;> rfl, HB1.out⟩
  subst hb
  have x2 := K1.out.cell 2 rfl
  go_wp2_with fail
  refine (implIsIncQ _ hs _ (HU.out.below HB1.out (Nat.le_refl _)) q2 ((HI2 q2).out rfl)).mono ?_
  rintro e w2 ⟨rfl, hb⟩
  have HB2 := Lib.hid (HB1.out.trans (hb.mono HB1.out.size))
  have K2 := Lib.hid (K1.out.below hb K1.out.lt)
  clear hb x2
  rcases eqOr q2 with hb | hb
  · subst hb
    have HE : Hid (tagB d zss hs = false) := Lib.hid (by rw [HT.out, riseN_inc (fun q => by have := ((HI2 false).out rfl).2 q; cases this)]; simp)
    go_wp2
    go_ret
    exact ⟨by rw [HE.out] <;> rfl, HB2.out⟩
  subst hb
  have HE : Hid (tagB d zss hs = digB zss.length hs) := Lib.hid (by rw [HT.out, ← HQ1.out, riseN_split (((HI2 true).out rfl).1 rfl)]; rfl)
  have x1 := K2.out.cell 1 rfl
  have x2 := K2.out.cell 2 rfl
  go_wp2_with fail
  refine (areBelow_any _ hs _ _ (HU.out.below HB2.out (Nat.le_refl _))).mono ?_
  rintro e w3 ⟨rfl, hb⟩
  have HB3 := Lib.hid (HB2.out.trans (hb.mono HB2.out.size))
  clear hb x1 x2
  go_wp2
  go_ret
  exact ⟨by rw [HE.out] <;> rfl, HB3.out⟩
set_option maxHeartbeats 2000000 in
theorem specCycIs (gx : Nat) (v : Value) (zss : List (List Int)) (w : World) (hv : RdL w v zss) (hx : Cels w gx 53 [v]) :
    Calls Tryd.prog 68 #[.pointer (some ⟨gx, 0, none⟩)] w fun e w' => e = .returned (.bool (cycB zss)) ∧ w = w' := by
  have HV := Lib.hid hv
  have HX := Lib.hid hx
  have hl := hv.len
  obtain ⟨_, a, c, rfl, hcap, _⟩ := hv
  have x0 := hx.cell 0 rfl
  clear hx
  go_enter Tryd.func68, Tryd.ntmps68
  go_wp2
  go_loop [3] (fun s => ∃ k : Nat, k ≤ zss.length ∧ s = .int .i64 k ∧ (∀ i, i < k → overB 2 (zss.getD i []) = true)) (fun s => zss.length - (intOf s).toNat)
  case atStart => exact ⟨0, Nat.zero_le _, rfl, fun i hi => by omega⟩
  case round =>
    obtain ⟨k, hk, rfl, hall⟩ := hrel
    have HA := Lib.hid hall
    clear hall
    by_cases hlt : k < zss.length
    · obtain ⟨_, a', c', he, _, hr⟩ := HV.out
      obtain ⟨b, o, ha, hb, hcell⟩ := hr (by intro h0; rw [h0] at hlt; simp at hlt)
      simp only [Value.slice.injEq] at he
      obtain ⟨rfl, _, rfl⟩ := he
      subst ha
      obtain ⟨x, hc, hx⟩ := hcell k hlt
      obtain ⟨zs, hzs⟩ : ∃ z, z = zss.getD k [] := ⟨_, rfl⟩
      rw [← hzs] at hx
      have HZ := Lib.hid hzs
      have HXX := Lib.hid hx
      obtain ⟨_, _, ax, cx, rfl, _, _⟩ := hx
      have i0 : (0 : Int) ≤ (k : Int) := by omega
      have i1 : (k : Int) < (zss.length : Int) := by omega
      clear hcell hr hzs
      cases hw : overB 2 zs with
      | true =>
        have HW := Lib.hid hw
        have HN : Hid (∀ i, i < k + 1 → overB 2 (zss.getD i []) = true) := Lib.hid (fun i hi => by
          by_cases he : i = k
          · subst he; rw [← HZ.out]; exact HW.out
          · exact HA.out i (by omega))
        clear hw
        go_wp2_with fail
        refine (specBits _ zs _ HXX.out).mono ?_
        rintro e w2 ⟨rfl, rfl⟩
        rw [HW.out]
        go_wp2
        go_round
        case rel => exact ⟨k + 1, by omega, by go_num, HN.out⟩
        case measure => simp [intOf]; omega
      | false =>
        have HW := Lib.hid hw
        have HF : Hid (cycB zss = false) := Lib.hid (by rw [cycB, allQ_false (n := 2) hlt (by rw [← HZ.out]; exact hw)]; simp)
        clear hw
        go_wp2_with fail
        refine (specBits _ zs _ HXX.out).mono ?_
        rintro e w2 ⟨rfl, rfl⟩
        rw [HW.out]
        go_wp2
        go_ret
        exact ⟨by rw [HF.out] <;> rfl, rfl⟩
    · obtain rfl : k = zss.length := by omega
      have HF : Hid (cycB zss = decide (1 ≤ (zss.length : Int) ∧ (zss.length : Int) ≤ 400)) := Lib.hid (by rw [cycB, allQ_true (n := 2) (zss := zss) (fun i hi => HA.out i hi), Bool.and_true])
      have hnlt : ¬ ((zss.length : Int) < (zss.length : Int)) := by omega
      by_cases h0 : 0 < (zss.length : Int)
      · have d0 : decide (0 < (zss.length : Int)) = true := decide_eq_true h0
        have d0' : 0 < zss.length := by omega
        by_cases h4 : (zss.length : Int) ≤ 400
        · have HE : Hid (cycB zss = true) := Lib.hid (by rw [HF.out]; exact decide_eq_true (by omega))
          go_wp2
          go_ret
          exact ⟨by rw [HE.out] <;> rfl, rfl⟩
        · have HE : Hid (cycB zss = false) := Lib.hid (by rw [HF.out]; exact decide_eq_false (by omega))
          go_wp2
          go_ret
          exact ⟨by rw [HE.out] <;> rfl, rfl⟩
      · have HE : Hid (cycB zss = false) := Lib.hid (by rw [HF.out]; exact decide_eq_false (by omega))
        have d0 : decide (0 < (zss.length : Int)) = false := decide_eq_false h0
        have d0' : decide (0 < zss.length) = false := decide_eq_false (by omega)
        go_wp2
        go_ret
        exact ⟨by rw [HE.out] <;> rfl, rfl⟩
set_option maxHeartbeats 2000000 in
theorem implValidCyc (v : Value) (zss : List (List Int)) (w : World) (hv : RdL w v zss) :
    Calls Tryd.prog 72 #[.agg #[v]] w fun e w' => e = .returned (.bool (cycB zss)) ∧ Below w.heap.size w w' := by
  have HV := Lib.hid hv
  have hl := hv.len
  obtain ⟨_, a, c, rfl, hcap, _⟩ := hv
  have HVA : ∀ x : Obj, Hid (RdL (w.alloc x) (.slice a zss.length c) zss) := fun x => Lib.hid (HV.out.below ((Below.refl _ _).alloc (Nat.le_refl _) _) (Nat.le_refl _))
  have HBA : ∀ x : Obj, Hid (Below w.heap.size w (w.alloc x)) := fun x => Lib.hid ((Below.refl _ _).alloc (Nat.le_refl _) _)
  by_cases h1 : 1 ≤ (zss.length : Int)
  rotate_left
  · have HT : Hid (cycB zss = false) := Lib.hid (by rw [cycB, decide_eq_false (fun q => h1 q.1)]; rfl)
    go_enter Tryd.func72, Tryd.ntmps72
    go_wp2
    go_ret
    exact ⟨by rw [HT.out] <;> rfl, (HBA _).out⟩
  by_cases h2 : (zss.length : Int) ≤ 400
  rotate_left
  · have HT : Hid (cycB zss = false) := Lib.hid (by rw [cycB, decide_eq_false (fun q => h2 q.2)]; rfl)
    go_enter Tryd.func72, Tryd.ntmps72
    go_wp2
    go_ret
    exact ⟨by rw [HT.out] <;> rfl, (HBA _).out⟩
  have HT : Hid (cycB zss = allQ 2 zss) := Lib.hid (by rw [cycB, decide_eq_true ⟨h1, h2⟩, Bool.true_and])
  go_enter Tryd.func72, Tryd.ntmps72
  go_wp2_with fail
  refine (eachCyc _ zss _ (HVA _).out).mono ?_
  rintro e w1 ⟨rfl, hb⟩
  have HB1 := Lib.hid ((HBA _).out.trans (hb.mono (by simp)))
  clear hb
  go_wp2
  go_ret
  exact ⟨by rw [HT.out] <;> rfl, HB1.out⟩
end Go.Proofs.YtbifkjmmhfnblaaDoor.Ints
