/- Bytes of texts, letters and digits among them. -/
import Derived.Test.YtbifkjmmhfnblaaDoorInts
import Derived.Laws.RangeString
import Derived.Laws.RangeAny
import Derived.BigRegion
import Derived.Lib.Hide
namespace Go.Proofs.YtbifkjmmhfnblaaDoor.Ints
open Go.RowKit
set_option linter.unusedVariables false
set_option linter.unusedSimpArgs false
/-- The byte at a place. -/
def bt (s : ByteArray) (i : Nat) : Nat := if h : i < s.size then (s[i]'h).toNat else 0
theorem bt_at {s : ByteArray} {i : Nat} (h : i < s.size) : bt s i = (s[i]'h).toNat := dif_pos h
def Sml (n : Nat) : Prop := 97 ≤ (n : Int) ∧ (n : Int) ≤ 122
def Dgt (n : Nat) : Prop := 48 ≤ (n : Int) ∧ (n : Int) ≤ 57
open Classical in
noncomputable def smlB (n : Nat) : Bool := decide (Sml n)
open Classical in
noncomputable def dgtB (n : Nat) : Bool := decide (Dgt n)
theorem smlB_iff (n : Nat) : smlB n = true ↔ Sml n := by simp [smlB]
theorem dgtB_iff (n : Nat) : dgtB n = true ↔ Dgt n := by simp [dgtB]
theorem size_nil {s : ByteArray} (h : s.size = 0) : s.toList = [] := by
  rw [ByteArray.toList_eq]; exact List.length_eq_zero_iff.1 (by simpa using h)
theorem size_pos {s : ByteArray} (h : s.size ≠ 0) : s.toList ≠ [] := by
  rw [ByteArray.toList_eq]; intro hn; apply h; have := congrArg List.length hn; simpa using this
theorem specDgt (n : Int) (b : Bool) (w : World) (h : b = true ↔ (48 ≤ n ∧ n ≤ 57)) : Calls Tryd.prog 81 #[.int .u8 n] w fun e w' => e = .returned (.bool b) ∧ w = w' := by
  by_cases h1 : 48 ≤ n
  rotate_left
  · have HF : Hid (b = false) := Lib.hid (by cases b with | false => rfl | true => exact absurd (h.1 rfl).1 h1)
    have e1 : decide (48 ≤ n) = false := decide_eq_false h1
    clear h
    go_enter Tryd.func81, Tryd.ntmps81
    go_wp2
    go_ret
    exact ⟨by rw [HF.out] <;> rfl, rfl⟩
  have e1 : decide (48 ≤ n) = true := decide_eq_true h1
  by_cases h2 : n ≤ 57
  · have HF : Hid (b = true) := Lib.hid (h.2 ⟨h1, h2⟩)
    have e2 : decide (n ≤ 57) = true := decide_eq_true h2
    clear h
    go_enter Tryd.func81, Tryd.ntmps81
    go_wp2
    go_ret
    exact ⟨by rw [HF.out] <;> rfl, rfl⟩
  · have HF : Hid (b = false) := Lib.hid (by cases b with | false => rfl | true => exact absurd (h.1 rfl).2 h2)
    have e2 : decide (n ≤ 57) = false := decide_eq_false h2
    clear h
    go_enter Tryd.func81, Tryd.ntmps81
    go_wp2
    go_ret
    exact ⟨by rw [HF.out] <;> rfl, rfl⟩

theorem idxS {s : ByteArray} {k b : Nat} (h : k < s.size) (hb : b = bt s k) : ∀ W : World, (Instr.index 9 (.string s) (.int .i64 (k : Int))).run Tryd.prog W = .ok (.int .u8 (b : Int)) W := fun W => by
  rw [run_index_string W 9 s .i64 (k : Int) Tryd.underlying9, dif_pos (show (0 : Int) ≤ (k : Int) ∧ (k : Int) < (s.size : Int) by omega), hb, bt_at h]
  rfl
end Go.Proofs.YtbifkjmmhfnblaaDoor.Ints
