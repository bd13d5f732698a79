/- Contracts of Crc16, of the model and of the program. -/
import Derived.Test.YtalmlkdihlhpjaaRows
import Derived.WalkKit
import Derived.Handy
import Derived.Lib.Hide
import Derived.Laws.BitsLemmas
namespace Go.Proofs.Ytalmlkdihlhpjaa.Crc
open Go.RowKit
set_option linter.unusedVariables false

theorem xor_i64 (a b : Nat) (ha : a < 4611686018427387904) (hb : b < 4611686018427387904) : bits .xor .i64 (a : Int) (b : Int) = ((a ^^^ b : Nat) : Int) := by
  have hx : a ^^^ b < 2 ^ 62 := Nat.xor_lt_two_pow (by omega) (by omega)
  have h1 : (BitVec.ofInt 64 (a : Int)).toNat = a := by
    rw [BitVec.ofInt_natCast, BitVec.toNat_ofNat]; exact Nat.mod_eq_of_lt (by omega)
  have h2 : (BitVec.ofInt 64 (b : Int)).toNat = b := by
    rw [BitVec.ofInt_natCast, BitVec.toNat_ofNat]; exact Nat.mod_eq_of_lt (by omega)
  show IntKind.i64.wrap ((BitVec.ofInt 64 (a : Int) ^^^ BitVec.ofInt 64 (b : Int)).toNat : Int) = _
  rw [BitVec.toNat_xor, h1, h2, IntKind.wrap_i64]
  omega
theorem xor_low (x y : Int) (hx0 : 0 ≤ x) (hx1 : x ≤ 65535) (hy0 : 0 ≤ y) (hy1 : y ≤ 65535) : 0 ≤ bits .xor .i64 x y ∧ bits .xor .i64 x y ≤ 65535 := by
  obtain ⟨a, rfl⟩ := Int.eq_ofNat_of_zero_le hx0
  obtain ⟨b, rfl⟩ := Int.eq_ofNat_of_zero_le hy0
  rw [xor_i64 a b (by omega) (by omega)]
  have hx : a ^^^ b < 2 ^ 16 := Nat.xor_lt_two_pow (by omega) (by omega)
  omega
theorem mask_low (x : Int) (h0 : 0 ≤ x) (h1 : x ≤ 1000000) : bits .and .i64 x 65535 = x % 65536 :=
  bits_mask .i64 62 (by decide) (fun n a b => by rw [IntKind.wrap_i64]; omega) 16 (by decide) x h0 (by omega)

/-- One doubling. -/
def dbl (x : Int) : Int := if 65535 < x * 2 then bits .xor .i64 (bits .and .i64 (x * 2) 65535) 4129 else x * 2
def dbls : Nat → Int → Int
  | 0, x => x
  | n + 1, x => dbls n (dbl x)
def crcs : List UInt8 → Int → Int
  | [], x => x
  | c :: l, x => crcs l (dbls 8 (bits .xor .i64 x ((c.toNat : Int) * 256)))
theorem dbl_low {x : Int} (h0 : 0 ≤ x) (h1 : x ≤ 65535) : 0 ≤ dbl x ∧ dbl x ≤ 65535 := by
  unfold dbl
  split
  · rw [mask_low _ (by omega) (by omega)]
    exact xor_low _ _ (by omega) (by omega) (by omega) (by omega)
  · omega
theorem crcs_step {s : ByteArray} {k : Nat} {x : Int} (h : k < s.size) :
    crcs (s.data.toList.drop k) x = crcs (s.data.toList.drop (k + 1)) (dbls 8 (bits .xor .i64 x ((s[k].toNat : Int) * 256))) := by
  rw [List.drop_eq_getElem_cons (by simpa using h), crcs]; rfl

theorem dbl_big {x : Int} (h : 65535 < x * 2) : dbl x = bits .xor .i64 (bits .and .i64 (x * 2) 65535) 4129 := by rw [dbl, if_pos h]
theorem dbl_small {x : Int} (h : ¬ 65535 < x * 2) : dbl x = x * 2 := by rw [dbl, if_neg h]
theorem dbls_step {i : Nat} {t : Int} (h : i < 8) : dbls (8 - i) t = dbls (8 - (i + 1)) (dbl t) := by
  obtain ⟨m, hm⟩ : ∃ m, 8 - i = m + 1 := ⟨7 - i, by omega⟩
  rw [hm, show 8 - (i + 1) = m by omega, dbls]
set_option maxHeartbeats 1000000 in
theorem specCrc (s : ByteArray) (c : Int) (w : World) (hs : s.size ≤ 1048576) (h0 : 0 ≤ c) (h1 : c ≤ 65535) :
    Calls Try.prog 52 #[.string s, .int .i64 c] w fun e w' => e = .returned (.int .i64 (crcs s.data.toList c)) ∧ w = w' := by
  go_enter Try.func52, Try.ntmps52
  go_wp2
  go_loop [1, 5] (fun x i => ∃ (k : Nat) (y : Int), k ≤ s.size ∧ i = .int .i64 k ∧ 0 ≤ y ∧ y ≤ 65535 ∧ x = .int .i64 y ∧ crcs s.data.toList c = crcs (s.data.toList.drop k) y) (fun _ i => s.size - (intOf i).toNat)
  case atStart => exact ⟨0, c, Nat.zero_le _, rfl, h0, h1, rfl, rfl⟩
  case round =>
    obtain ⟨k, y, hk, rfl, hy0, hy1, rfl, he⟩ := hrel
    have HE := Lib.hid he
    clear he
    by_cases hlt : k < s.size
    · have q0 : (0 : Int) ≤ (s[k].toNat : Int) := by omega
      have q1 : (s[k].toNat : Int) ≤ 255 := by have := s[k].toNat_lt; omega
      have HS := Lib.hid (crcs_step (x := y) hlt)
      have HX := Lib.hid (xor_low y ((s[k].toNat : Int) * 256) hy0 hy1 (by omega) (by omega))
      go_wp2
      obtain ⟨z, hz⟩ : ∃ z, z = bits BinOp.xor IntKind.i64 y ((s[k].toNat : Int) * 256) := ⟨_, rfl⟩
      rw [← hz] at HS HX
      rw [← hz]
      clear hz q0 q1
      go_loop [1, 6] (fun x j => ∃ (i : Nat) (t : Int), i ≤ 8 ∧ j = .int .i64 i ∧ 0 ≤ t ∧ t ≤ 65535 ∧ x = .int .i64 t ∧ dbls 8 z = dbls (8 - i) t) (fun _ j => 8 - (intOf j).toNat)
      case atStart => exact ⟨0, z, by omega, rfl, HX.out.1, HX.out.2, rfl, rfl⟩
      case round =>
        obtain ⟨i, t, hi, rfl, ht0, ht1, rfl, hd⟩ := hrel
        have HD := Lib.hid hd
        clear hd
        by_cases hi8 : i < 8
        · have HL := Lib.hid (dbl_low ht0 ht1)
          have HN := Lib.hid (dbls_step (t := t) hi8)
          by_cases hb : 65535 < t * 2
          · have HV := Lib.hid (dbl_big hb)
            go_wp2
            go_round
            case rel => exact ⟨i + 1, dbl t, by omega, by go_num, HL.out.1, HL.out.2, by rw [HV.out], by rw [HD.out, HN.out]⟩
            case measure => simp [intOf]; omega
          · have HV := Lib.hid (dbl_small hb)
            go_wp2
            go_round
            case rel => exact ⟨i + 1, dbl t, by omega, by go_num, HL.out.1, HL.out.2, by rw [HV.out], by rw [HD.out, HN.out]⟩
            case measure => simp [intOf]; omega
        · obtain rfl : i = 8 := by omega
          go_wp2
          go_round
          case rel => exact ⟨k + 1, t, by omega, by go_num, ht0, ht1, rfl, by rw [HE.out, HS.out, HD.out]; rfl⟩
          case measure => simp [intOf]; omega
    · obtain rfl : k = s.size := by omega
      have HN : Hid (crcs s.data.toList c = y) := Lib.hid (by rw [HE.out, List.drop_eq_nil_of_le (by simp)]; rfl)
      go_wp2
      go_ret
      exact ⟨by rw [HN.out] <;> rfl, rfl⟩
set_option maxHeartbeats 1000000 in
theorem implCrc (s : ByteArray) (c : Int) (w : World) (hs : s.size ≤ 1048576) (h0 : 0 ≤ c) (h1 : c ≤ 65535) :
    Calls Try.prog 28 #[.string s, .int .i64 c] w fun e w' => e = .returned (.int .i64 (crcs s.data.toList c)) ∧ w = w' := by
  have t1 : ¬ c < 0 := by omega
  have t2 : ¬ 65535 < c := by omega
  go_enter Try.func28, Try.ntmps28
  go_wp2
  go_loop [5, 16] (fun x i => ∃ (k : Nat) (y : Int), k ≤ s.size ∧ i = .int .i64 k ∧ 0 ≤ y ∧ y ≤ 65535 ∧ x = .int .i64 y ∧ crcs s.data.toList c = crcs (s.data.toList.drop k) y) (fun _ i => s.size - (intOf i).toNat)
  case atStart => exact ⟨0, c, Nat.zero_le _, rfl, h0, h1, rfl, rfl⟩
  case round =>
    obtain ⟨k, y, hk, rfl, hy0, hy1, rfl, he⟩ := hrel
    have HE := Lib.hid he
    clear he
    by_cases hlt : k < s.size
    · have q0 : (0 : Int) ≤ (s[k].toNat : Int) := by omega
      have q1 : (s[k].toNat : Int) ≤ 255 := by have := s[k].toNat_lt; omega
      have HS := Lib.hid (crcs_step (x := y) hlt)
      have HX := Lib.hid (xor_low y ((s[k].toNat : Int) * 256) hy0 hy1 (by omega) (by omega))
      go_wp2
      obtain ⟨z, hz⟩ : ∃ z, z = bits BinOp.xor IntKind.i64 y ((s[k].toNat : Int) * 256) := ⟨_, rfl⟩
      rw [← hz] at HS HX
      rw [← hz]
      clear hz q0 q1
      go_loop [5, 26] (fun x j => ∃ (i : Nat) (t : Int), i ≤ 8 ∧ j = .int .i64 i ∧ 0 ≤ t ∧ t ≤ 65535 ∧ x = .int .i64 t ∧ dbls 8 z = dbls (8 - i) t) (fun _ j => 8 - (intOf j).toNat)
      case atStart => exact ⟨0, z, by omega, rfl, HX.out.1, HX.out.2, rfl, rfl⟩
      case round =>
        obtain ⟨i, t, hi, rfl, ht0, ht1, rfl, hd⟩ := hrel
        have HD := Lib.hid hd
        clear hd
        by_cases hi8 : i < 8
        · have HL := Lib.hid (dbl_low ht0 ht1)
          have HN := Lib.hid (dbls_step (t := t) hi8)
          by_cases hb : 65535 < t * 2
          · have HV := Lib.hid (dbl_big hb)
            go_wp2
            go_round
            case rel => exact ⟨i + 1, dbl t, by omega, by go_num, HL.out.1, HL.out.2, by rw [HV.out], by rw [HD.out, HN.out]⟩
            case measure => simp [intOf]; omega
          · have HV := Lib.hid (dbl_small hb)
            go_wp2
            go_round
            case rel => exact ⟨i + 1, dbl t, by omega, by go_num, HL.out.1, HL.out.2, by rw [HV.out], by rw [HD.out, HN.out]⟩
            case measure => simp [intOf]; omega
        · obtain rfl : i = 8 := by omega
          go_wp2
          go_round
          case rel => exact ⟨k + 1, t, by omega, by go_num, ht0, ht1, rfl, by rw [HE.out, HS.out, HD.out]; rfl⟩
          case measure => simp [intOf]; omega
    · obtain rfl : k = s.size := by omega
      have HN : Hid (crcs s.data.toList c = y) := Lib.hid (by rw [HE.out, List.drop_eq_nil_of_le (by simp)]; rfl)
      go_wp2
      go_ret
      exact ⟨by rw [HN.out] <;> rfl, rfl⟩
end Go.Proofs.Ytalmlkdihlhpjaa.Crc
