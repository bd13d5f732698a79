/- The model's test of programs of register machines. (gen_prg.py) -/
import Derived.Test.YtbigoljfanendaaDoorPrg
import Derived.Test.YtbigoljfanendaaDoorIn
namespace Go.Proofs.YtbigoljfanendaaDoor.Ints
open Go.RowKit
set_option linter.unusedVariables false
set_option linter.unusedSimpArgs false
theorem specRegB (r : Int) (b : Bool) (w : World) (h : b = true ↔ (0 ≤ r ∧ r ≤ 23)) : Calls Tryd.prog 127 #[.int .i64 r] w fun e w' => e = .returned (.bool b) ∧ w = w' := by
  have HH := Lib.hid h
  clear h
  go_enter Tryd.func127, Tryd.ntmps127
  go_wp2_with fail
  refine (specInB r 0 23 b _ HH.out).mono ?_
  rintro e w' ⟨rfl, rfl⟩
  go_wp2
  go_ret
  exact ⟨rfl, rfl⟩
theorem specRegY (r : Int) (w : World) (h : 0 ≤ r ∧ r ≤ 23) : Calls Tryd.prog 127 #[.int .i64 r] w fun e w' => e = .returned (.bool true) ∧ w = w' := specRegB r true w ⟨fun _ => h, fun _ => rfl⟩
theorem specRegN (r : Int) (w : World) (h : ¬ (0 ≤ r ∧ r ≤ 23)) : Calls Tryd.prog 127 #[.int .i64 r] w fun e w' => e = .returned (.bool false) ∧ w = w' := specRegB r false w ⟨fun h' => (by cases h'), fun h' => absurd h' h⟩
set_option maxHeartbeats 4000000 in
set_option maxRecDepth 100000 in
theorem specPIs (v : Value) (rs : List Ins) (w : World) (hv : RdIns w v rs) :
    Calls Tryd.prog 84 #[v] w fun e w' => e = .returned (.bool (progB rs)) ∧ Below w.heap.size w w' := by
  obtain ⟨hl, hf, a, c, rfl, hcap, hr⟩ := hv
  have HR := Lib.hid hr
  clear hr
  go_enter Tryd.func84, Tryd.ntmps84
  go_wp2
  go_loopw [4] (fun s wr => ∃ k : Nat, k ≤ rs.length ∧ s = .int .i64 k ∧ (∀ i, i < k → InsOk rs.length (rs.getD i zIns)) ∧ Below w.heap.size w wr) (fun s _ => rs.length - (intOf s).toNat)
  case atStart => exact ⟨0, Nat.zero_le _, rfl, fun i hi => by omega, Below.refl _ _⟩
  case round =>
    obtain ⟨k, hk, rfl, hall, hbel⟩ := hrel
    have HA := Lib.hid hall
    have HB := Lib.hid hbel
    clear hall
    by_cases hlt : k < rs.length
    rotate_left
    · obtain rfl : k = rs.length := by omega
      by_cases h4 : rs.length ≤ 400
      · have e := Lib.hid (progB_true ⟨h4, HA.out⟩)
        have hd : decide ((rs.length : Int) ≤ 400) = true := decide_eq_true (by omega)
        clear hbel h4
        go_wp2
        go_ret
        exact ⟨by rw [e.out] <;> rfl, HB.out⟩
      · have e := Lib.hid (progB_false (fun h => h4 h.len))
        have hd : decide ((rs.length : Int) ≤ 400) = false := decide_eq_false (by omega)
        clear hbel h4
        go_wp2
        go_ret
        exact ⟨by rw [e.out] <;> rfl, HB.out⟩
    obtain ⟨b, o, rfl, hb, hcell⟩ := HR.out (by intro h0; rw [h0] at hlt; simp at hlt)
    obtain ⟨c0, c1, c2, c3⟩ := hcell k hlt
    replace c0 := (hbel.cell (p := ⟨b, o + k * 4, none⟩) hb).trans c0
    replace c1 := (hbel.cell (p := ⟨b, o + k * 4 + 1, none⟩) hb).trans c1
    replace c2 := (hbel.cell (p := ⟨b, o + k * 4 + 2, none⟩) hb).trans c2
    replace c3 := (hbel.cell (p := ⟨b, o + k * 4 + 3, none⟩) hb).trans c3
    have i0 : (0 : Int) ≤ (k : Int) := by omega
    have i1 : (k : Int) < (rs.length : Int) := by omega
    obtain ⟨r, hr0⟩ : ∃ r, r = rs.getD k zIns := ⟨_, rfl⟩
    rw [← hr0] at c0 c1 c2 c3
    have HE := Lib.hid hr0
    obtain ⟨x, y, z, u⟩ := r
    have HNO : Hid (¬ InsOk rs.length ⟨x, y, z, u⟩ → progB rs = false) := Lib.hid (fun h => progB_false (fun h' => h (by rw [HE.out]; exact h'.all k hlt)))
    have HYES : Hid (InsOk rs.length ⟨x, y, z, u⟩ → ∀ i, i < k + 1 → InsOk rs.length (rs.getD i zIns)) := Lib.hid (fun h i hi => by
      by_cases e : i = k
      · subst e; rw [← HE.out]; exact h
      · exact HA.out i (by omega))
    have HB2 : Hid (Below w.heap.size w (wr.alloc (Obj.cells #[.int .i64 x, .int .i64 y, .int .i64 z, .int .i64 u] 74))) := Lib.hid (HB.out.alloc HB.out.size _)
    clear hcell hbel hr0 hk
    by_cases h1 : 0 ≤ y ∧ y ≤ 23
    rotate_left
    · skip
      have H1 := Lib.hid h1
      have e := Lib.hid (HNO.out (fun h => H1.out h.1))
      clear h1
      go_wp2_with fail
      refine (specRegN y _ H1.out).mono ?_
      rintro e1 w1 ⟨rfl, rfl⟩
      go_wp2
      go_ret
      exact ⟨by rw [e.out] <;> rfl, HB2.out⟩
    have H1 := Lib.hid h1
    clear h1
    by_cases h2 : 0 ≤ z ∧ z ≤ (rs.length : Int)
    rotate_left
    · skip
      have H2 := Lib.hid h2
      have e := Lib.hid (HNO.out (fun h => H2.out h.2.1))
      clear h2
      go_wp2_with fail
      refine (specRegY y _ H1.out).mono ?_
      rintro e1 w1 ⟨rfl, rfl⟩
      go_wp2_with fail
      refine (specInN z _ _ _ H2.out).mono ?_
      rintro e1 w1 ⟨rfl, rfl⟩
      go_wp2
      go_ret
      exact ⟨by rw [e.out] <;> rfl, HB2.out⟩
    have H2 := Lib.hid h2
    clear h2
    by_cases h3 : x = 0
    rotate_left
    · skip
      by_cases h4 : x = 1
      rotate_left
      · skip
        have k0 : (x != 0) = true := by simp only [bne_iff_ne]; exact h3
        have k1 : (x != 1) = true := by simp only [bne_iff_ne]; exact h4
        have k0' : (x == 0) = false := by simp only [beq_eq_false_iff_ne]; exact h3
        have e := Lib.hid (HNO.out (fun h => h.2.2.elim (fun q => h3 q.1) (fun q => h4 q.1)))
        clear h3 h4
        go_wp2_with fail
        refine (specRegY y _ H1.out).mono ?_
        rintro e1 w1 ⟨rfl, rfl⟩
        go_wp2_with fail
        refine (specInY z _ _ _ H2.out).mono ?_
        rintro e1 w1 ⟨rfl, rfl⟩
        go_wp2
        go_ret
        exact ⟨by rw [e.out] <;> rfl, HB2.out⟩
      have h40 := h4
      subst h4
      have k0 : ((1 : Int) != 0) = true := rfl
      have k1 : ((1 : Int) != 1) = false := rfl
      have k0' : ((1 : Int) == 0) = false := rfl
      clear h40 h3
      by_cases h5 : 0 ≤ u ∧ u ≤ (rs.length : Int)
      rotate_left
      · skip
        have H5 := Lib.hid h5
        have e := Lib.hid (HNO.out (fun h => h.2.2.elim (fun q => absurd q.1 (by simp)) (fun q => H5.out q.2)))
        clear h5
        go_wp2_with fail
        refine (specRegY y _ H1.out).mono ?_
        rintro e1 w1 ⟨rfl, rfl⟩
        go_wp2_with fail
        refine (specInY z _ _ _ H2.out).mono ?_
        rintro e1 w1 ⟨rfl, rfl⟩
        go_wp2_with fail
        refine (specInN u _ _ _ H5.out).mono ?_
        rintro e1 w1 ⟨rfl, rfl⟩
        go_wp2
        go_ret
        exact ⟨by rw [e.out] <;> rfl, HB2.out⟩
      have H5 := Lib.hid h5
      have HY := Lib.hid (HYES.out ⟨H1.out, H2.out, .inr ⟨rfl, H5.out⟩⟩)
      clear h5
      go_wp2_with fail
      refine (specRegY y _ H1.out).mono ?_
      rintro e1 w1 ⟨rfl, rfl⟩
      go_wp2_with fail
      refine (specInY z _ _ _ H2.out).mono ?_
      rintro e1 w1 ⟨rfl, rfl⟩
      go_wp2_with fail
      refine (specInY u _ _ _ H5.out).mono ?_
      rintro e1 w1 ⟨rfl, rfl⟩
      go_wp2
      go_roundw
      case rel => exact ⟨k + 1, by omega, by go_num, HY.out, HB2.out⟩
      case measure => simp [intOf]; omega
    have h30 := h3
    subst h3
    have k0 : ((0 : Int) != 0) = false := rfl
    have k1 : ((0 : Int) == 0) = true := rfl
    clear h30
    by_cases h6 : u = 0
    rotate_left
    · skip
      have k2 : (u != 0) = true := by simp only [bne_iff_ne]; exact h6
      have e := Lib.hid (HNO.out (fun h => h.2.2.elim (fun q => h6 q.2) (fun q => absurd q.1 (by simp))))
      clear h6
      go_wp2_with fail
      refine (specRegY y _ H1.out).mono ?_
      rintro e1 w1 ⟨rfl, rfl⟩
      go_wp2_with fail
      refine (specInY z _ _ _ H2.out).mono ?_
      rintro e1 w1 ⟨rfl, rfl⟩
      go_wp2
      go_ret
      exact ⟨by rw [e.out] <;> rfl, HB2.out⟩
    have h60 := h6
    subst h6
    have k2 : ((0 : Int) != 0) = false := rfl
    clear h60
    have HY := Lib.hid (HYES.out ⟨H1.out, H2.out, .inl ⟨rfl, rfl⟩⟩)
    go_wp2_with fail
    refine (specRegY y _ H1.out).mono ?_
    rintro e1 w1 ⟨rfl, rfl⟩
    go_wp2_with fail
    refine (specInY z _ _ _ H2.out).mono ?_
    rintro e1 w1 ⟨rfl, rfl⟩
    go_wp2_with fail
    refine (specInY 0 _ _ _ (by constructor <;> omega)).mono ?_
    rintro e1 w1 ⟨rfl, rfl⟩
    go_wp2
    go_roundw
    case rel => exact ⟨k + 1, by omega, by go_num, HY.out, HB2.out⟩
    case measure => simp [intOf]; omega
end Go.Proofs.YtbigoljfanendaaDoor.Ints
