/- Names, of the model and of the program. -/
import Derived.Test.YteihfohjmjlanaaOwn
import Derived.Laws.RangeString
import Derived.Laws.RangeAny
import Derived.BigRegion
import Derived.Lib.Hide
namespace Go.Proofs.Yteihfohjmjlanaa.Ints
open Go.RowKit
set_option linter.unusedVariables false
set_option linter.unusedSimpArgs false
/-- The byte at a place. -/
def bt (s : ByteArray) (i : Nat) : Nat := if h : i < s.size then (s[i]'h).toNat else 0
theorem bt_at {s : ByteArray} {i : Nat} (h : i < s.size) : bt s i = (s[i]'h).toNat := dif_pos h
def Sml (n : Nat) : Prop := 97 ≤ (n : Int) ∧ (n : Int) ≤ 122
def Dgt (n : Nat) : Prop := 48 ≤ (n : Int) ∧ (n : Int) ≤ 57
structure NameOk (s : ByteArray) : Prop where
  lo : s.size ≠ 0
  hi : s.size ≤ 10
  head : Sml (bt s 0)
  all : ∀ i, i < s.size → Sml (bt s i) ∨ Dgt (bt s i)
open Classical in
noncomputable def nameB (s : ByteArray) : Bool := decide (NameOk s)
theorem nameB_true {s : ByteArray} (h : NameOk s) : nameB s = true := by simp [nameB, h]
theorem nameB_false {s : ByteArray} (h : ¬ NameOk s) : nameB s = false := by simp [nameB, h]
open Classical in
noncomputable def smlB (n : Nat) : Bool := decide (Sml n)
open Classical in
noncomputable def dgtB (n : Nat) : Bool := decide (Dgt n)
theorem smlB_iff (n : Nat) : smlB n = true ↔ Sml n := by simp [smlB]
theorem dgtB_iff (n : Nat) : dgtB n = true ↔ Dgt n := by simp [dgtB]
theorem size_nil {s : ByteArray} (h : s.size = 0) : s.toList = [] := by
  rw [ByteArray.toList_eq]; exact List.length_eq_zero_iff.1 (by simpa using h)
theorem size_pos {s : ByteArray} (h : s.size ≠ 0) : s.toList ≠ [] := by
  rw [ByteArray.toList_eq]; intro hn; apply h; have := congrArg List.length hn; simpa using this
theorem specSml (n : Int) (b : Bool) (w : World) (h : b = true ↔ (97 ≤ n ∧ n ≤ 122)) : Calls Try.prog 22 #[.int .u8 n] w fun e w' => e = .returned (.bool b) ∧ w = w' := by
  by_cases h1 : 97 ≤ n
  rotate_left
  · have HF : Hid (b = false) := Lib.hid (by cases b with | false => rfl | true => exact absurd (h.1 rfl).1 h1)
    have e1 : decide (97 ≤ n) = false := decide_eq_false h1
    clear h
    go_enter Try.func22, Try.ntmps22
    go_wp2
    go_ret
    exact ⟨by rw [HF.out] <;> rfl, rfl⟩
  have e1 : decide (97 ≤ n) = true := decide_eq_true h1
  by_cases h2 : n ≤ 122
  · have HF : Hid (b = true) := Lib.hid (h.2 ⟨h1, h2⟩)
    have e2 : decide (n ≤ 122) = true := decide_eq_true h2
    clear h
    go_enter Try.func22, Try.ntmps22
    go_wp2
    go_ret
    exact ⟨by rw [HF.out] <;> rfl, rfl⟩
  · have HF : Hid (b = false) := Lib.hid (by cases b with | false => rfl | true => exact absurd (h.1 rfl).2 h2)
    have e2 : decide (n ≤ 122) = false := decide_eq_false h2
    clear h
    go_enter Try.func22, Try.ntmps22
    go_wp2
    go_ret
    exact ⟨by rw [HF.out] <;> rfl, rfl⟩
theorem specDgt (n : Int) (b : Bool) (w : World) (h : b = true ↔ (48 ≤ n ∧ n ≤ 57)) : Calls Try.prog 23 #[.int .u8 n] w fun e w' => e = .returned (.bool b) ∧ w = w' := by
  by_cases h1 : 48 ≤ n
  rotate_left
  · have HF : Hid (b = false) := Lib.hid (by cases b with | false => rfl | true => exact absurd (h.1 rfl).1 h1)
    have e1 : decide (48 ≤ n) = false := decide_eq_false h1
    clear h
    go_enter Try.func23, Try.ntmps23
    go_wp2
    go_ret
    exact ⟨by rw [HF.out] <;> rfl, rfl⟩
  have e1 : decide (48 ≤ n) = true := decide_eq_true h1
  by_cases h2 : n ≤ 57
  · have HF : Hid (b = true) := Lib.hid (h.2 ⟨h1, h2⟩)
    have e2 : decide (n ≤ 57) = true := decide_eq_true h2
    clear h
    go_enter Try.func23, Try.ntmps23
    go_wp2
    go_ret
    exact ⟨by rw [HF.out] <;> rfl, rfl⟩
  · have HF : Hid (b = false) := Lib.hid (by cases b with | false => rfl | true => exact absurd (h.1 rfl).2 h2)
    have e2 : decide (n ≤ 57) = false := decide_eq_false h2
    clear h
    go_enter Try.func23, Try.ntmps23
    go_wp2
    go_ret
    exact ⟨by rw [HF.out] <;> rfl, rfl⟩
theorem implSml (n : Int) (b : Bool) (w : World) (h : b = true ↔ (97 ≤ n ∧ n ≤ 122)) : Calls Try.prog 16 #[.int .i32 n] w fun e w' => e = .returned (.bool b) ∧ w = w' := by
  by_cases h1 : 97 ≤ n
  rotate_left
  · have HF : Hid (b = false) := Lib.hid (by cases b with | false => rfl | true => exact absurd (h.1 rfl).1 h1)
    have e1 : decide (97 ≤ n) = false := decide_eq_false h1
    clear h
    go_enter Try.func16, Try.ntmps16
    go_wp2
    go_ret
    exact ⟨by rw [HF.out] <;> rfl, rfl⟩
  have e1 : decide (97 ≤ n) = true := decide_eq_true h1
  by_cases h2 : n ≤ 122
  · have HF : Hid (b = true) := Lib.hid (h.2 ⟨h1, h2⟩)
    have e2 : decide (n ≤ 122) = true := decide_eq_true h2
    clear h
    go_enter Try.func16, Try.ntmps16
    go_wp2
    go_ret
    exact ⟨by rw [HF.out] <;> rfl, rfl⟩
  · have HF : Hid (b = false) := Lib.hid (by cases b with | false => rfl | true => exact absurd (h.1 rfl).2 h2)
    have e2 : decide (n ≤ 122) = false := decide_eq_false h2
    clear h
    go_enter Try.func16, Try.ntmps16
    go_wp2
    go_ret
    exact ⟨by rw [HF.out] <;> rfl, rfl⟩
theorem implDgt (n : Int) (b : Bool) (w : World) (h : b = true ↔ (48 ≤ n ∧ n ≤ 57)) : Calls Try.prog 17 #[.int .i32 n] w fun e w' => e = .returned (.bool b) ∧ w = w' := by
  by_cases h1 : 48 ≤ n
  rotate_left
  · have HF : Hid (b = false) := Lib.hid (by cases b with | false => rfl | true => exact absurd (h.1 rfl).1 h1)
    have e1 : decide (48 ≤ n) = false := decide_eq_false h1
    clear h
    go_enter Try.func17, Try.ntmps17
    go_wp2
    go_ret
    exact ⟨by rw [HF.out] <;> rfl, rfl⟩
  have e1 : decide (48 ≤ n) = true := decide_eq_true h1
  by_cases h2 : n ≤ 57
  · have HF : Hid (b = true) := Lib.hid (h.2 ⟨h1, h2⟩)
    have e2 : decide (n ≤ 57) = true := decide_eq_true h2
    clear h
    go_enter Try.func17, Try.ntmps17
    go_wp2
    go_ret
    exact ⟨by rw [HF.out] <;> rfl, rfl⟩
  · have HF : Hid (b = false) := Lib.hid (by cases b with | false => rfl | true => exact absurd (h.1 rfl).2 h2)
    have e2 : decide (n ≤ 57) = false := decide_eq_false h2
    clear h
    go_enter Try.func17, Try.ntmps17
    go_wp2
    go_ret
    exact ⟨by rw [HF.out] <;> rfl, rfl⟩

theorem idxS {s : ByteArray} {k b : Nat} (h : k < s.size) (hb : b = bt s k) : ∀ W : World, (Instr.index 9 (.string s) (.int .i64 (k : Int))).run Try.prog W = .ok (.int .u8 (b : Int)) W := fun W => by
  rw [run_index_string W 9 s .i64 (k : Int) Try.underlying9, dif_pos (show (0 : Int) ≤ (k : Int) ∧ (k : Int) < (s.size : Int) by omega), hb, bt_at h]
  rfl
set_option maxHeartbeats 2000000 in
theorem specNam (s : ByteArray) (w : World) :
    Calls Try.prog 15 #[.string s] w fun e w' => e = .returned (.bool (nameB s)) ∧ Below w.heap.size w w' := by
  by_cases h0 : s.size = 0
  · have HF : Hid (nameB s = false) := Lib.hid (nameB_false fun h => h.lo h0)
    have e0 : s.toList = [] := size_nil h0
    clear h0
    go_enter Try.func15, Try.ntmps15
    go_wp2
    go_ret
    exact ⟨by rw [HF.out] <;> rfl, Below.refl _ _⟩
  have e0 : s.toList ≠ [] := size_pos h0
  have e0' : (s.toList == []) = false := by simpa using e0
  have e0'' : s.toList.isEmpty = false := by simpa using e0
  by_cases h1 : s.size ≤ 10
  rotate_left
  · have HF : Hid (nameB s = false) := Lib.hid (nameB_false fun h => h1 h.hi)
    have d1 : decide ((10 : Int) < (s.size : Int)) = true := decide_eq_true (by omega)
    have d2 : decide (10 < s.size) = true := decide_eq_true (by omega)
    clear h0 h1
    go_enter Try.func15, Try.ntmps15
    go_wp2
    go_ret
    exact ⟨by rw [HF.out] <;> rfl, Below.refl _ _⟩
  have d1 : decide ((10 : Int) < (s.size : Int)) = false := decide_eq_false (by omega)
  have d2 : decide (10 < s.size) = false := decide_eq_false (by omega)
  have hpos : 0 < s.size := by omega
  have hix : (0 : Int) < (s.size : Int) := by omega
  obtain ⟨b, hb⟩ : ∃ b, b = bt s 0 := ⟨_, rfl⟩
  have hid0 := idxS (k := 0) hpos hb
  have HBt := Lib.hid hb
  have hbk : (s[0]'hpos).toNat = b := by rw [hb, bt_at hpos]
  have HL : Hid (s.size ≠ 0 ∧ s.size ≤ 10) := Lib.hid ⟨h0, h1⟩
  obtain ⟨bs0, hbs⟩ : ∃ x, x = smlB b := ⟨_, rfl⟩
  have HS : Hid (bs0 = true ↔ Sml b) := Lib.hid (by rw [hbs]; exact smlB_iff b)
  simp only [Int.natCast_zero] at hid0
  clear hbs hb h0 h1
  go_enter Try.func15, Try.ntmps15
  go_wp2_with fail
  refine (specSml _ bs0 _ HS.out).mono ?_
  rintro e w' ⟨rfl, rfl⟩
  rcases eqOr bs0 with hb | hb
  · subst hb
    have HF : Hid (nameB s = false) := Lib.hid (nameB_false fun h => by have := HS.out.2 (by rw [HBt.out]; exact h.head); cases this)
    go_wp2_with fail
    go_ret
    exact ⟨by rw [HF.out] <;> rfl, Below.refl _ _⟩
  subst hb
  have HH : Hid (Sml (bt s 0)) := Lib.hid (by rw [← HBt.out]; exact HS.out.1 rfl)
  clear hid0 hbk
  go_wp2
  go_loopw [3] (fun i wr => ∃ k : Nat, k ≤ s.size ∧ i = .int .i64 k ∧ (∀ j, j < k → Sml (bt s j) ∨ Dgt (bt s j)) ∧ ∃ m, wr = w.drewN m) (fun i _ => s.size - (intOf i).toNat)
  case atStart => exact ⟨0, Nat.zero_le _, rfl, fun j hj => by omega, 0, rfl⟩
  case round =>
    obtain ⟨k, hk, rfl, hall, m, hwr⟩ := hrel
    have HA := Lib.hid hall
    have HWR : Hid (Below w.heap.size w wr) := Lib.hid (by rw [hwr]; exact below_drewN (Below.refl _ _) m)
    have HWD := Lib.hid hwr
    clear hall hwr
    by_cases hlt : k < s.size
    · obtain ⟨c, hc⟩ : ∃ c, c = bt s k := ⟨_, rfl⟩
      have hidk := idxS hlt hc
      have hck : (s[k]'hlt).toNat = c := by rw [hc, bt_at hlt]
      have i0 : (0 : Int) ≤ (k : Int) := by omega
      have i1 : (k : Int) < (s.size : Int) := by omega
      have hs10 : s.size ≤ 10 := HL.out.2
      have HCt := Lib.hid hc
      obtain ⟨x1, hx1⟩ : ∃ x, x = smlB c := ⟨_, rfl⟩
      obtain ⟨x2, hx2⟩ : ∃ x, x = dgtB c := ⟨_, rfl⟩
      have H1 : Hid (x1 = true ↔ Sml c) := Lib.hid (by rw [hx1]; exact smlB_iff c)
      have H2 : Hid (x2 = true ↔ Dgt c) := Lib.hid (by rw [hx2]; exact dgtB_iff c)
      clear hc hx1 hx2
      go_wp2_with fail
      refine (specSml _ x1 _ H1.out).mono ?_
      rintro e w' ⟨rfl, rfl⟩
      rcases eqOr x1 with hb | hb
      · subst hb
        go_wp2_with fail
        refine (specDgt _ x2 _ H2.out).mono ?_
        rintro e w' ⟨rfl, rfl⟩
        rcases eqOr x2 with hb | hb
        · subst hb
          have HF : Hid (nameB s = false) := Lib.hid (nameB_false fun h => by
            rcases h.all k hlt with h1 | h1
            · have := H1.out.2 (by rw [HCt.out]; exact h1); cases this
            · have := H2.out.2 (by rw [HCt.out]; exact h1); cases this)
          go_wp2
          go_ret
          exact ⟨by rw [HF.out] <;> rfl, HWR.out⟩
        · subst hb
          have HN : Hid (∀ j, j < k + 1 → Sml (bt s j) ∨ Dgt (bt s j)) := Lib.hid (fun j hj => by
            by_cases he : j = k
            · subst he; right; rw [← HCt.out]; exact H2.out.1 rfl
            · exact HA.out j (by omega))
          go_wp2
          go_roundw
          case rel => exact ⟨k + 1, by omega, by go_num, HN.out, m, HWD.out⟩
          case measure => simp [intOf]; omega
      · subst hb
        have HN : Hid (∀ j, j < k + 1 → Sml (bt s j) ∨ Dgt (bt s j)) := Lib.hid (fun j hj => by
          by_cases he : j = k
          · subst he; left; rw [← HCt.out]; exact H1.out.1 rfl
          · exact HA.out j (by omega))
        go_wp2
        go_roundw
        case rel => exact ⟨k + 1, by omega, by go_num, HN.out, m, HWD.out⟩
        case measure => simp [intOf]; omega
    · obtain rfl : k = s.size := by omega
      have HF : Hid (nameB s = true) := Lib.hid (nameB_true ⟨HL.out.1, HL.out.2, HH.out, HA.out⟩)
      have hnlt : ¬ ((s.size : Int) < (s.size : Int)) := by omega
      clear hlt
      go_wp2
      go_ret
      exact ⟨by rw [HF.out] <;> rfl, HWR.out⟩
theorem specIsNam (s : ByteArray) (w : World) :
    Calls Try.prog 9 #[.string s] w fun e w' => e = .returned (.bool (nameB s)) ∧ Below w.heap.size w w' := by
  go_enter Try.func9, Try.ntmps9
  go_wp2_with fail
  refine (specNam s _).mono ?_
  rintro e w1 ⟨rfl, hb1⟩
  have HB1 := Lib.hid hb1
  clear hb1
  go_wp2
  go_ret
  exact ⟨rfl, HB1.out⟩
set_option maxHeartbeats 4000000 in
theorem implNam (s : ByteArray) (w : World) :
    Calls Try.prog 10 #[.string s] w fun e w' => e = .returned (.bool (nameB s)) ∧ Below w.heap.size w w' := by
  by_cases h0 : s.size = 0
  · have HF : Hid (nameB s = false) := Lib.hid (nameB_false fun h => h.lo h0)
    have d0 : decide ((s.size : Int) < 1) = true := decide_eq_true (by omega)
    have d0' : decide (s.size < 1) = true := decide_eq_true (by omega)
    go_enter Try.func10, Try.ntmps10
    go_wp2
    go_ret
    exact ⟨by rw [HF.out] <;> rfl, Below.refl _ _⟩
  have d0 : decide ((s.size : Int) < 1) = false := decide_eq_false (by omega)
  have d0' : decide (s.size < 1) = false := decide_eq_false (by omega)
  by_cases h1 : s.size ≤ 10
  rotate_left
  · have HF : Hid (nameB s = false) := Lib.hid (nameB_false fun h => h1 h.hi)
    have d1 : decide ((10 : Int) < (s.size : Int)) = true := decide_eq_true (by omega)
    have d2 : decide (10 < s.size) = true := decide_eq_true (by omega)
    clear h1
    go_enter Try.func10, Try.ntmps10
    go_wp2
    go_ret
    exact ⟨by rw [HF.out] <;> rfl, Below.refl _ _⟩
  have d1 : decide ((10 : Int) < (s.size : Int)) = false := decide_eq_false (by omega)
  have d2 : decide (10 < s.size) = false := decide_eq_false (by omega)
  have HL : Hid (s.size ≠ 0 ∧ s.size ≤ 10) := Lib.hid ⟨h0, h1⟩
  have HBi : ∀ p, Hid (Below w.heap.size w (w.iter s p)) := fun p => Lib.hid ((Below.refl _ _).alloc (Nat.le_refl _) _)
  clear h0 h1
  go_enter Try.func10, Try.ntmps10
  go_wp2
  go_loopw [15] (fun _ wr => ∃ p : Nat, p ≤ s.size ∧ wr = w.iter s p ∧ (∀ j, j < p → Sml (bt s j) ∨ (Dgt (bt s j) ∧ j ≠ 0))) (fun _ wr => s.size - wr.iterPos w.heap.size)
  case atStart => exact ⟨0, Nat.zero_le _, rfl, fun j hj => by omega⟩
  case round =>
    obtain ⟨p, hp, hwr, hall⟩ := hrel
    have HA := Lib.hid hall
    have HWR := Lib.hid hwr
    clear hall
    subst hwr
    by_cases hlt : p < s.size
    · obtain ⟨c, hc⟩ : ∃ c, c = bt s p := ⟨_, rfl⟩
      have hcs : (s[p]'hlt).toNat = c := by rw [hc, bt_at hlt]
      have HCt := Lib.hid hc
      by_cases ha : c < 128
      · have hnx : ∀ ty, (Instr.next (.pointer (some ⟨w.heap.size, 0, none⟩)) true ty).run Try.prog (w.iter s p) = .ok (.tuple #[.bool true, .int .i64 (p : Int), .int .i32 (c : Int)]) (w.iter s (p + 1)) := fun ty => by
          have := run_next_ascii (P := Try.prog) w s p ty hlt (by rw [hcs]; exact ha)
          rw [hcs] at this; exact this
        obtain ⟨x1, hx1⟩ : ∃ x, x = smlB c := ⟨_, rfl⟩
        obtain ⟨x2, hx2⟩ : ∃ x, x = dgtB c := ⟨_, rfl⟩
        have H1 : Hid (x1 = true ↔ Sml c) := Lib.hid (by rw [hx1]; exact smlB_iff c)
        have H2 : Hid (x2 = true ↔ Dgt c) := Lib.hid (by rw [hx2]; exact dgtB_iff c)
        clear hc hx1 hx2 ha hcs
        go_wp2_with fail
        refine (implSml _ x1 _ H1.out).mono ?_
        rintro e w' ⟨rfl, rfl⟩
        rcases eqOr x1 with hb | hb
        · subst hb
          by_cases hp0 : p = 0
          · have hz : ((p : Int) == 0) = true := by simp [hp0]
            have HF : Hid (nameB s = false) := Lib.hid (nameB_false fun h => by
              have := H1.out.2 (by rw [HCt.out, hp0]; exact h.head); cases this)
            go_wp2_with fail
            go_ret
            exact ⟨by rw [HF.out] <;> rfl, (HBi _).out⟩
          have hz : ((p : Int) == 0) = false := by simp; omega
          go_wp2_with fail
          refine (implDgt _ x2 _ H2.out).mono ?_
          rintro e w' ⟨rfl, rfl⟩
          rcases eqOr x2 with hb | hb
          · subst hb
            have HF : Hid (nameB s = false) := Lib.hid (nameB_false fun h => by
              rcases h.all p hlt with h1 | h1
              · have := H1.out.2 (by rw [HCt.out]; exact h1); cases this
              · have := H2.out.2 (by rw [HCt.out]; exact h1); cases this)
            go_wp2
            go_ret
            exact ⟨by rw [HF.out] <;> rfl, (HBi _).out⟩
          · subst hb
            have HN : Hid (∀ j, j < p + 1 → Sml (bt s j) ∨ (Dgt (bt s j) ∧ j ≠ 0)) := Lib.hid (fun j hj => by
              by_cases he : j = p
              · subst he; right; exact ⟨by rw [← HCt.out]; exact H2.out.1 rfl, hp0⟩
              · exact HA.out j (by omega))
            go_wp2
            go_roundw
            case rel => exact ⟨p + 1, by omega, rfl, HN.out⟩
            case measure => simp; omega
        · subst hb
          have HN : Hid (∀ j, j < p + 1 → Sml (bt s j) ∨ (Dgt (bt s j) ∧ j ≠ 0)) := Lib.hid (fun j hj => by
            by_cases he : j = p
            · subst he; left; rw [← HCt.out]; exact H1.out.1 rfl
            · exact HA.out j (by omega))
          go_wp2
          go_roundw
          case rel => exact ⟨p + 1, by omega, rfl, HN.out⟩
          case measure => simp; omega
      · have HF : Hid (nameB s = false) := Lib.hid (nameB_false fun h => by
          rcases h.all p hlt with h1 | h1
          · rw [← hc] at h1; unfold Sml at h1; omega
          · rw [← hc] at h1; unfold Dgt at h1; omega)
        obtain ⟨r, hr⟩ : ∃ r, r = (Utf8.decode s p).1 := ⟨_, rfl⟩
        have hr1 : 128 ≤ r := by rw [hr]; exact (decode_high s p hlt (by omega)).1
        obtain ⟨q, hq⟩ : ∃ q, q = p + (Utf8.decode s p).2 := ⟨_, rfl⟩
        have hnx : ∀ ty, (Instr.next (.pointer (some ⟨w.heap.size, 0, none⟩)) true ty).run Try.prog (w.iter s p) = .ok (.tuple #[.bool true, .int .i64 (p : Int), .int .i32 (r : Int)]) (w.iter s q) := fun ty => by
          rw [hr, hq]; exact run_next_any (P := Try.prog) w s p ty hlt
        have H1 : Hid (false = true ↔ (97 ≤ (r : Int) ∧ (r : Int) ≤ 122)) := Lib.hid ⟨fun h => (by cases h), fun h => (by omega)⟩
        have H2 : Hid (false = true ↔ (48 ≤ (r : Int) ∧ (r : Int) ≤ 57)) := Lib.hid ⟨fun h => (by cases h), fun h => (by omega)⟩
        clear hc ha hcs hr hq hr1
        go_wp2_with fail
        refine (implSml _ false _ H1.out).mono ?_
        rintro e w' ⟨rfl, rfl⟩
        by_cases hp0 : p = 0
        · have hz : ((p : Int) == 0) = true := by simp [hp0]
          go_wp2_with fail
          go_ret
          exact ⟨by rw [HF.out] <;> rfl, (HBi _).out⟩
        have hz : ((p : Int) == 0) = false := by simp; omega
        go_wp2_with fail
        refine (implDgt _ false _ H2.out).mono ?_
        rintro e w' ⟨rfl, rfl⟩
        go_wp2
        go_ret
        exact ⟨by rw [HF.out] <;> rfl, (HBi _).out⟩
    · obtain rfl : p = s.size := by omega
      have HF : Hid (nameB s = true) := Lib.hid (nameB_true ⟨HL.out.1, HL.out.2, by
        rcases HA.out 0 (by have := HL.out.1; omega) with h | h
        · exact h
        · exact absurd rfl h.2, fun i hi => by
        rcases HA.out i hi with h | h
        · exact .inl h
        · exact .inr h.1⟩)
      have hnx : ∀ ty, (Instr.next (.pointer (some ⟨w.heap.size, 0, none⟩)) true ty).run Try.prog (w.iter s s.size) = .ok (.tuple #[.bool false]) (w.iter s s.size) := fun ty => run_next_end (P := Try.prog) w s s.size ty hlt
      clear hlt
      go_wp2
      go_ret
      exact ⟨by rw [HF.out] <;> rfl, (HBi _).out⟩
end Go.Proofs.Yteihfohjmjlanaa.Ints
