/- Stores of register machines: the model's and the program's tests of them. -/
import Derived.Test.YtbifkjmmhfnblaaDoorPrgS
import Derived.Test.YtbifkjmmhfnblaaDoorPrgI
import Derived.Test.YtbifkjmmhfnblaaDoorDig
import Derived.Test.YtbifkjmmhfnblaaDoorIn
import Derived.Test.YtbifkjmmhfnblaaDoorSto
namespace Go.Proofs.YtbifkjmmhfnblaaDoor.Ints
open Go.RowKit
set_option linter.unusedVariables false
set_option linter.unusedSimpArgs false
/-- The numbers and the list of a store of a program of n instructions. -/
noncomputable def stoB (n : Nat) (at' : Int) (cs : List Int) : Bool := decide (0 ≤ at' ∧ at' ≤ (n : Int)) && (decide (cs.length = 24) && digB 1000001 cs)
noncomputable def vsB (rs : List Ins) (at' : Int) (cs : List Int) : Bool := progB rs && stoB rs.length at' cs
theorem stoB_at {n : Nat} {a : Int} {cs : List Int} (h : ¬ (0 ≤ a ∧ a ≤ (n : Int))) : stoB n a cs = false := by simp [stoB, h]
theorem stoB_len {n : Nat} {a : Int} {cs : List Int} (h : ¬ cs.length = 24) : stoB n a cs = false := by simp [stoB, h]
theorem stoB_dig {n : Nat} {a : Int} {cs : List Int} (h : 0 ≤ a ∧ a ≤ (n : Int)) (k : cs.length = 24) : stoB n a cs = digB 1000001 cs := by simp [stoB, h, k]
theorem vsB_bad {rs : List Ins} {a : Int} {cs : List Int} (h : progB rs = false) : vsB rs a cs = false := by simp [vsB, h]
theorem vsB_good {rs : List Ins} {a : Int} {cs : List Int} (h : progB rs = true) : vsB rs a cs = stoB rs.length a cs := by simp [vsB, h]
set_option maxHeartbeats 1000000 in
theorem specCounts (v : Value) (zs : List Int) (w : World) (h : Rd w v zs) :
    Calls Tryd.prog 93 #[v] w fun e w' => e = .returned (.bool (digB 1000001 zs)) ∧ Below w.heap.size w w' := by
  obtain ⟨hl, hf, a, c, rfl, hcap, hr⟩ := h
  go_enter Tryd.func93, Tryd.ntmps93
  go_wp2
  go_loopw [3] (fun s wr => ∃ k : Nat, k ≤ zs.length ∧ s = .int .i64 k ∧ (∀ i, i < k → 0 ≤ zs.getD i 0 ∧ zs.getD i 0 < 1000001) ∧ Below w.heap.size w wr) (fun s _ => zs.length - (intOf s).toNat)
  case atStart => exact ⟨0, Nat.zero_le _, rfl, fun i hi => by omega, Below.refl _ _⟩
  case round =>
    obtain ⟨k, hk, rfl, hall, hbel⟩ := hrel
    have HA := Lib.hid hall
    have HB := Lib.hid hbel
    clear hall
    by_cases hlt : k < zs.length
    · obtain ⟨b, o, rfl, hb, hcell⟩ := hr (by intro h0; rw [h0] at hlt; simp at hlt)
      have hc := (hbel.cell (p := ⟨b, o + k, none⟩) hb).trans (hcell k hlt)
      obtain ⟨x, hx⟩ : ∃ x, x = zs.getD k 0 := ⟨_, rfl⟩
      rw [← hx] at hc
      have HX := Lib.hid hx
      clear hcell hr hx hbel
      by_cases hg : 0 ≤ x ∧ x ≤ 1000000
      · have HN : Hid (∀ i, i < k + 1 → 0 ≤ zs.getD i 0 ∧ zs.getD i 0 < 1000001) := Lib.hid (fun i hi => by
          by_cases he : i = k
          · subst he; rw [← HX.out]; omega
          · exact HA.out i (by omega))
        have HG := Lib.hid hg
        clear hg
        go_wp2_with fail
        refine (specInY x 0 1000000 _ HG.out).mono ?_
        rintro e w1 ⟨rfl, rfl⟩
        go_wp2
        go_roundw
        case rel => exact ⟨k + 1, by omega, by go_num, HN.out, HB.out⟩
        case measure => simp [intOf]; omega
      · have HF : Hid (digB 1000001 zs = false) := Lib.hid (digB_false fun H => hg (by have := H k hlt; have := HX.out; omega))
        have HG := Lib.hid hg
        clear hg
        go_wp2_with fail
        refine (specInN x 0 1000000 _ HG.out).mono ?_
        rintro e w1 ⟨rfl, rfl⟩
        go_wp2
        go_ret
        exact ⟨by rw [HF.out] <;> rfl, HB.out⟩
    · obtain rfl : k = zs.length := by omega
      have HF : Hid (digB 1000001 zs = true) := Lib.hid (digB_true fun i hi => HA.out i hi)
      clear hbel hr
      go_wp2
      go_ret
      exact ⟨by rw [HF.out] <;> rfl, HB.out⟩
set_option maxHeartbeats 2000000 in
theorem specGood (a : Option Addr) (n c g : Nat) (t : TypeId) (at' : Int) (v : Value) (cs : List Int) (w : World) (hv : Rd w v cs) (hk : Cels w g t [.int .i64 at', v]) :
    Calls Tryd.prog 54 #[.slice a n c, .pointer (some ⟨g, 0, none⟩)] w fun e w' => e = .returned (.bool (stoB n at' cs)) ∧ Below w.heap.size w w' := by
  have HV := Lib.hid hv
  obtain ⟨_, _, a1, c1, rfl, _, _⟩ := hv
  have z0 := hk.cell 0 rfl
  have z1 := hk.cell 1 rfl
  clear hk
  by_cases h0 : 0 ≤ at' ∧ at' ≤ (n : Int)
  rotate_left
  · have e := Lib.hid (stoB_at (cs := cs) h0)
    have H0 := Lib.hid h0
    clear h0
    go_enter Tryd.func54, Tryd.ntmps54
    go_wp2_with fail
    refine (specInN at' 0 n _ H0.out).mono ?_
    rintro e w1 ⟨rfl, rfl⟩
    go_wp2
    go_ret
    exact ⟨by rw [e.out] <;> rfl, Below.refl _ _⟩
  by_cases h1 : cs.length = 24
  rotate_left
  · have e := Lib.hid (stoB_len (n := n) (a := at') h1)
    have H0 := Lib.hid h0
    have hd : ¬ ((cs.length : Int) = 24) := by omega
    clear h0 h1
    go_enter Tryd.func54, Tryd.ntmps54
    go_wp2_with fail
    refine (specInY at' 0 n _ H0.out).mono ?_
    rintro e w1 ⟨rfl, rfl⟩
    go_wp2
    go_ret
    exact ⟨by rw [e.out] <;> rfl, Below.refl _ _⟩
  have e := Lib.hid (stoB_dig h0 h1)
  have H0 := Lib.hid h0
  have hd : ((cs.length : Int) = 24) := by omega
  clear h0 h1
  go_enter Tryd.func54, Tryd.ntmps54
  go_wp2_with fail
  refine (specInY at' 0 n _ H0.out).mono ?_
  rintro e w1 ⟨rfl, rfl⟩
  go_wp2_with fail
  refine (specCounts _ cs _ HV.out).mono ?_
  rintro e w1 ⟨rfl, hb⟩
  have HB := Lib.hid hb
  clear hb
  rw [← e.out]
  go_wp2
  go_ret
  exact ⟨rfl, HB.out⟩
theorem implIsIdx (x : Int) (a : Option Addr) (n c : Nat) (b : Bool) (w : World) (hn : n ≤ 16777216) (h : b = true ↔ (0 ≤ x ∧ x ≤ (n : Int))) :
    Calls Tryd.prog 96 #[.int .i64 x, .slice a n c] w fun e w' => e = .returned (.bool b) ∧ w' = w := by
  obtain ⟨N, hN⟩ : ∃ N : Int, N = (n : Int) + 1 := ⟨_, rfl⟩
  have en : IntKind.i64.wrap ((n : Int) + 1) = N := by rw [IntKind.wrap_i64]; omega
  cases b with
  | true =>
    obtain ⟨h0, h1⟩ := h.1 rfl
    have h2 : decide (x < N) = true := decide_eq_true (by omega)
    clear h h1 hN hn
    go_enter Tryd.func96, Tryd.ntmps96
    go_wp2
    go_ret
    exact ⟨rfl, rfl⟩
  | false =>
    have hn' : ¬ (0 ≤ x ∧ x ≤ (n : Int)) := fun h' => by cases h.2 h'
    by_cases h0 : 0 ≤ x
    · have h2 : decide (x < N) = false := decide_eq_false (fun h1 => hn' ⟨h0, by omega⟩)
      clear hn' h hN hn
      go_enter Tryd.func96, Tryd.ntmps96
      go_wp2
      go_ret
      exact ⟨rfl, rfl⟩
    · clear hn' h hN hn
      go_enter Tryd.func96, Tryd.ntmps96
      go_wp2
      go_ret
      exact ⟨rfl, rfl⟩
theorem implAre (v : Value) (zs : List Int) (w : World) (h : Rd w v zs) :
    Calls Tryd.prog 97 #[v] w fun e w' => e = .returned (.bool (digB 1000001 zs)) ∧ Below w.heap.size w w' := by
  have H := Lib.hid h
  obtain ⟨_, _, a, c, rfl, _, _⟩ := h
  go_enter Tryd.func97, Tryd.ntmps97
  go_wp2_with fail
  refine (areBelow_any _ zs 1000001 _ H.out).mono ?_
  rintro e w1 ⟨rfl, hb⟩
  have HB := Lib.hid hb
  clear hb
  go_wp2
  go_ret
  exact ⟨rfl, HB.out⟩
set_option maxHeartbeats 4000000 in
theorem implValidStore (v : Value) (rs : List Ins) (at' : Int) (u : Value) (cs : List Int) (w : World) (hv : RdIns w v rs) (hu : Rd w u cs) :
    Calls Tryd.prog 57 #[v, .agg #[.int .i64 at', u]] w fun e w' => e = .returned (.bool (vsB rs at' cs)) ∧ Below w.heap.size w w' := by
  have HV := Lib.hid hv
  have HU := Lib.hid hu
  obtain ⟨hl, _, a, c, rfl, _, _⟩ := hv
  obtain ⟨_, _, a1, c1, rfl, _, _⟩ := hu
  have HL := Lib.hid hl
  clear hl
  obtain ⟨W0, hW0⟩ : ∃ W, W = w.alloc (Obj.cells #[.int .i64 at', .slice a1 cs.length c1] 36) := ⟨_, rfl⟩
  have HK : Hid (Cels W0 w.heap.size 36 [.int .i64 at', .slice a1 cs.length c1]) := Lib.hid (by rw [hW0]; exact Cels.new _ _ _)
  have HB0 : Hid (Below w.heap.size w W0) := Lib.hid (by rw [hW0]; exact (Below.refl _ _).alloc (Nat.le_refl _) _)
  have HW0 := Lib.hid hW0.symm
  clear hW0
  rcases eqOr (progB rs) with hp | hp
  · have e := Lib.hid (vsB_bad (a := at') (cs := cs) hp)
    go_enter Tryd.func57, Tryd.ntmps57
    go_wp2_with fail
    rw [HW0.out]
    refine (implValidProgram _ rs _ (HV.out.below HB0.out (Nat.le_refl _))).mono ?_
    rintro e1 w1 ⟨rfl, hb1⟩
    rw [hp]
    have HB1 := Lib.hid (HB0.out.trans (hb1.mono HB0.out.size))
    clear hb1
    go_wp2
    go_ret
    exact ⟨by rw [e.out] <;> rfl, HB1.out⟩
  have E := Lib.hid (vsB_good (a := at') (cs := cs) hp)
  by_cases h0 : 0 ≤ at' ∧ at' ≤ (rs.length : Int)
  rotate_left
  · have e := Lib.hid (stoB_at (cs := cs) h0)
    have H0 := Lib.hid h0
    clear h0
    go_enter Tryd.func57, Tryd.ntmps57
    go_wp2_with fail
    rw [HW0.out]
    refine (implValidProgram _ rs _ (HV.out.below HB0.out (Nat.le_refl _))).mono ?_
    rintro e1 w1 ⟨rfl, hb1⟩
    rw [hp]
    have HB1 := Lib.hid (HB0.out.trans (hb1.mono HB0.out.size))
    replace HK := Lib.hid (HK.out.below hb1 HK.out.lt)
    clear hb1
    have z0 := HK.out.cell 0 rfl
    have z1 := HK.out.cell 1 rfl
    go_wp2_with fail
    refine (implIsIdx at' _ _ _ false _ HL.out ⟨fun h => (by cases h), fun h => absurd h H0.out⟩).mono ?_
    rintro e1 w2 ⟨rfl, rfl⟩
    go_wp2
    go_ret
    exact ⟨by rw [E.out, e.out] <;> rfl, HB1.out⟩
  by_cases h1 : cs.length = 24
  rotate_left
  · have e := Lib.hid (stoB_len (n := rs.length) (a := at') h1)
    have H0 := Lib.hid h0
    have hd : ¬ ((cs.length : Int) = 24) := by omega
    clear h0 h1
    go_enter Tryd.func57, Tryd.ntmps57
    go_wp2_with fail
    rw [HW0.out]
    refine (implValidProgram _ rs _ (HV.out.below HB0.out (Nat.le_refl _))).mono ?_
    rintro e1 w1 ⟨rfl, hb1⟩
    rw [hp]
    have HB1 := Lib.hid (HB0.out.trans (hb1.mono HB0.out.size))
    replace HK := Lib.hid (HK.out.below hb1 HK.out.lt)
    clear hb1
    have z0 := HK.out.cell 0 rfl
    have z1 := HK.out.cell 1 rfl
    go_wp2_with fail
    refine (implIsIdx at' _ _ _ true _ HL.out ⟨fun h => H0.out, fun h => rfl⟩).mono ?_
    rintro e1 w2 ⟨rfl, rfl⟩
    go_wp2
    go_ret
    exact ⟨by rw [E.out, e.out] <;> rfl, HB1.out⟩
  have e := Lib.hid (stoB_dig h0 h1)
  have H0 := Lib.hid h0
  have hd : ((cs.length : Int) = 24) := by omega
  clear h0 h1
  go_enter Tryd.func57, Tryd.ntmps57
  go_wp2_with fail
  rw [HW0.out]
  refine (implValidProgram _ rs _ (HV.out.below HB0.out (Nat.le_refl _))).mono ?_
  rintro e1 w1 ⟨rfl, hb1⟩
  rw [hp]
  have HB1 := Lib.hid (HB0.out.trans (hb1.mono HB0.out.size))
  replace HK := Lib.hid (HK.out.below hb1 HK.out.lt)
  clear hb1
  have z0 := HK.out.cell 0 rfl
  have z1 := HK.out.cell 1 rfl
  go_wp2_with fail
  refine (implIsIdx at' _ _ _ true _ HL.out ⟨fun h => H0.out, fun h => rfl⟩).mono ?_
  rintro e1 w2 ⟨rfl, rfl⟩
  go_wp2_with fail
  refine (implAre _ cs _ (HU.out.below HB1.out (Nat.le_refl _))).mono ?_
  rintro e1 w2 ⟨rfl, hb1⟩
  have HB2 := Lib.hid (HB1.out.trans (hb1.mono HB1.out.size))
  clear hb1
  go_wp2
  go_ret
  exact ⟨by rw [E.out, e.out] <;> rfl, HB2.out⟩
end Go.Proofs.YtbifkjmmhfnblaaDoor.Ints
