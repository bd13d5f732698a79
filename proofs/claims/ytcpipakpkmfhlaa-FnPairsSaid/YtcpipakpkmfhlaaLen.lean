/- How many bits a number has. -/
import Derived.Test.YtcpipakpkmfhlaaInts
import Derived.Laws.RangeString
import Derived.Lib.Hide
namespace Go.Proofs.Ytcpipakpkmfhlaa.Ints
open Go.RowKit
set_option linter.unusedVariables false
set_option linter.unusedSimpArgs false
def tab8 : ByteArray := ⟨#[0, 1, 2, 2, 3, 3, 3, 3, 4, 4, 4, 4, 4, 4, 4, 4, 5, 5, 5, 5, 5, 5, 5, 5, 5, 5, 5, 5, 5, 5, 5, 5, 6, 6, 6, 6, 6, 6, 6, 6, 6, 6, 6, 6, 6, 6, 6, 6, 6, 6, 6, 6, 6, 6, 6, 6, 6, 6, 6, 6, 6, 6, 6, 6, 7, 7, 7, 7, 7, 7, 7, 7, 7, 7, 7, 7, 7, 7, 7, 7, 7, 7, 7, 7, 7, 7, 7, 7, 7, 7, 7, 7, 7, 7, 7, 7, 7, 7, 7, 7, 7, 7, 7, 7, 7, 7, 7, 7, 7, 7, 7, 7, 7, 7, 7, 7, 7, 7, 7, 7, 7, 7, 7, 7, 7, 7, 7, 7, 8, 8, 8, 8, 8, 8, 8, 8, 8, 8, 8, 8, 8, 8, 8, 8, 8, 8, 8, 8, 8, 8, 8, 8, 8, 8, 8, 8, 8, 8, 8, 8, 8, 8, 8, 8, 8, 8, 8, 8, 8, 8, 8, 8, 8, 8, 8, 8, 8, 8, 8, 8, 8, 8, 8, 8, 8, 8, 8, 8, 8, 8, 8, 8, 8, 8, 8, 8, 8, 8, 8, 8, 8, 8, 8, 8, 8, 8, 8, 8, 8, 8, 8, 8, 8, 8, 8, 8, 8, 8, 8, 8, 8, 8, 8, 8, 8, 8, 8, 8, 8, 8, 8, 8, 8, 8, 8, 8, 8, 8, 8, 8, 8, 8, 8, 8, 8, 8, 8, 8, 8, 8, 8, 8, 8, 8, 8, 8]⟩
theorem tab8_size : tab8.size = 256 := by decide +kernel
set_option maxRecDepth 100000 in
theorem tab8_all : ∀ b : Fin 256, (tab8[b.val]'(by rw [tab8_size]; exact b.isLt)).toNat ≤ 8 ∧ b.val < 2 ^ (tab8[b.val]'(by rw [tab8_size]; exact b.isLt)).toNat := by decide +kernel
theorem wrap_two (t : Nat) (h : t ≤ 8) : wrap64 (wrap64 (t : Int)) = (t : Int) := by unfold wrap64; omega
theorem wrap_add' (k : Int) (t : Nat) (k0 : 0 ≤ k) (k1 : k ≤ 56) (h : t ≤ 8) : wrap64 (k + wrap64 (t : Int)) = k + (t : Int) := by unfold wrap64; omega
theorem pow_scale {x P : Int} {t : Nat} (hP : 0 < P) (h : (x / P).toNat < 2 ^ t) (x0 : 0 ≤ x) : x < P * 2 ^ t := by
  have q0 : 0 ≤ x / P := Int.ediv_nonneg x0 (by omega)
  have h1 : x / P + 1 ≤ ((2 ^ t : Nat) : Int) := by omega
  have h2 := Int.mul_le_mul_of_nonneg_left h1 (show 0 ≤ P by omega)
  have h3 := Int.emod_lt_of_pos x hP
  have h4 := Int.mul_ediv_add_emod x P
  rw [Int.mul_add, Int.mul_one] at h2
  rw [Int.natCast_pow] at h2
  have e : ((2 : Nat) : Int) = 2 := rfl
  rw [e] at h2
  omega
theorem lt_pow {x : Int} {t : Nat} (h : x.toNat < 2 ^ t) (x0 : 0 ≤ x) : x < 2 ^ t := by
  have h3 : ((x.toNat : Nat) : Int) < ((2 ^ t : Nat) : Int) := Int.ofNat_lt.2 h
  rw [Int.natCast_pow, Int.toNat_of_nonneg x0] at h3
  exact h3
theorem lt_pow_add {x P : Int} {t k : Nat} (hP : 0 < P) (hk : P = 2 ^ k) (h : (x / P).toNat < 2 ^ t) (x0 : 0 ≤ x) : x < 2 ^ (k + t) := by
  have := pow_scale hP h x0
  rw [Int.pow_add, ← hk]; exact this
theorem wrap_8 (t : Nat) (h : t ≤ 8) : wrap64 (8 + wrap64 (t : Int)) = ((8 + t : Nat) : Int) := by unfold wrap64; omega
theorem wrap_16 (t : Nat) (h : t ≤ 8) : wrap64 (16 + wrap64 (t : Int)) = ((16 + t : Nat) : Int) := by unfold wrap64; omega
theorem wrap_24 (t : Nat) (h : t ≤ 8) : wrap64 (24 + wrap64 (t : Int)) = ((24 + t : Nat) : Int) := by unfold wrap64; omega
theorem wrap_32 (t : Nat) (h : t ≤ 8) : wrap64 (32 + wrap64 (t : Int)) = ((32 + t : Nat) : Int) := by unfold wrap64; omega
set_option maxRecDepth 100000 in
set_option maxHeartbeats 4000000 in
theorem len64D (x : Int) (w : World) (h0 : 0 ≤ x) (h1 : x < 256) :
    Calls Try.prog 64 #[.int .u64 x] w fun e w' => ∃ r : Nat, e = .returned (.int .i64 (r : Int)) ∧ r ≤ 40 ∧ x < 2 ^ r ∧ w = w' := by
  have d1 : ¬ (4294967296 : Int) ≤ x := by omega
  have d2 : ¬ (65536 : Int) ≤ x := by omega
  have d3 : ¬ (256 : Int) ≤ x := by omega
  have hb : x.toNat < 256 := by omega
  obtain ⟨k1, k2⟩ := tab8_all ⟨x.toNat, hb⟩
  go_enter Try.func64, Try.ntmps64
  go_wp2
  go_ret
  refine ⟨(tab8[x.toNat]'(by rw [tab8_size]; exact hb)).toNat, congrArg (fun z => Ending.returned (Value.int .i64 z)) (wrap_two _ k1), by omega, ?_, rfl⟩
  exact lt_pow k2 h0
set_option maxRecDepth 100000 in
set_option maxHeartbeats 4000000 in
theorem len64C (x : Int) (w : World) (h0 : 256 ≤ x) (h1 : x < 65536) :
    Calls Try.prog 64 #[.int .u64 x] w fun e w' => ∃ r : Nat, e = .returned (.int .i64 (r : Int)) ∧ r ≤ 40 ∧ x < 2 ^ r ∧ w = w' := by
  have d1 : ¬ (4294967296 : Int) ≤ x := by omega
  have d2 : ¬ (65536 : Int) ≤ x := by omega
  have d3 : (256 : Int) ≤ x := by omega
  have hb : (x / 256).toNat < 256 := by omega
  obtain ⟨k1, k2⟩ := tab8_all ⟨(x / 256).toNat, hb⟩
  go_enter Try.func64, Try.ntmps64
  go_wp2
  go_ret
  refine ⟨8 + (tab8[(x / 256).toNat]'(by rw [tab8_size]; exact hb)).toNat, congrArg (fun z => Ending.returned (Value.int .i64 z)) (wrap_8 _ k1), by omega, ?_, rfl⟩
  exact lt_pow_add (P := 256) (by omega) (by decide) k2 (by omega)
set_option maxRecDepth 100000 in
set_option maxHeartbeats 4000000 in
theorem len64A (x : Int) (w : World) (h0 : 4294967296 ≤ x) (h1 : x < 1000000000000) :
    Calls Try.prog 64 #[.int .u64 x] w fun e w' => ∃ r : Nat, e = .returned (.int .i64 (r : Int)) ∧ r ≤ 40 ∧ x < 2 ^ r ∧ w = w' := by
  have d1 : (4294967296 : Int) ≤ x := by omega
  have d2 : ¬ (65536 : Int) ≤ x / 4294967296 := by omega
  have d3 : ¬ (256 : Int) ≤ x / 4294967296 := by omega
  have hb : (x / 4294967296).toNat < 256 := by omega
  obtain ⟨k1, k2⟩ := tab8_all ⟨(x / 4294967296).toNat, hb⟩
  go_enter Try.func64, Try.ntmps64
  go_wp2
  go_ret
  refine ⟨32 + (tab8[(x / 4294967296).toNat]'(by rw [tab8_size]; exact hb)).toNat, congrArg (fun z => Ending.returned (Value.int .i64 z)) (wrap_32 _ k1), by omega, ?_, rfl⟩
  exact lt_pow_add (P := 4294967296) (by omega) (by decide) k2 (by omega)
set_option maxRecDepth 100000 in
set_option maxHeartbeats 4000000 in
theorem len64B (x : Int) (w : World) (h0 : 65536 ≤ x) (h1 : x < 16777216) :
    Calls Try.prog 64 #[.int .u64 x] w fun e w' => ∃ r : Nat, e = .returned (.int .i64 (r : Int)) ∧ r ≤ 40 ∧ x < 2 ^ r ∧ w = w' := by
  have d1 : ¬ (4294967296 : Int) ≤ x := by omega
  have d2 : (65536 : Int) ≤ x := by omega
  have d3 : ¬ (256 : Int) ≤ x / 65536 := by omega
  have hb : (x / 65536).toNat < 256 := by omega
  obtain ⟨k1, k2⟩ := tab8_all ⟨(x / 65536).toNat, hb⟩
  go_enter Try.func64, Try.ntmps64
  go_wp2
  go_ret
  refine ⟨16 + (tab8[(x / 65536).toNat]'(by rw [tab8_size]; exact hb)).toNat, congrArg (fun z => Ending.returned (Value.int .i64 z)) (wrap_16 _ k1), by omega, ?_, rfl⟩
  exact lt_pow_add (P := 65536) (by omega) (by decide) k2 (by omega)
set_option maxRecDepth 100000 in
set_option maxHeartbeats 4000000 in
theorem len64E (x : Int) (w : World) (h0 : 16777216 ≤ x) (h1 : x < 4294967296) :
    Calls Try.prog 64 #[.int .u64 x] w fun e w' => ∃ r : Nat, e = .returned (.int .i64 (r : Int)) ∧ r ≤ 40 ∧ x < 2 ^ r ∧ w = w' := by
  have d1 : ¬ (4294967296 : Int) ≤ x := by omega
  have d2 : (65536 : Int) ≤ x := by omega
  have d3 : (256 : Int) ≤ x / 65536 := by omega
  have hb : (x / 65536 / 256).toNat < 256 := by omega
  obtain ⟨k1, k2⟩ := tab8_all ⟨(x / 65536 / 256).toNat, hb⟩
  go_enter Try.func64, Try.ntmps64
  go_wp2
  go_ret
  refine ⟨24 + (tab8[(x / 65536 / 256).toNat]'(by rw [tab8_size]; exact hb)).toNat, congrArg (fun z => Ending.returned (Value.int .i64 z)) (wrap_24 _ k1), by omega, ?_, rfl⟩
  have h9 : x / 65536 / 256 = x / 16777216 := by omega
  exact lt_pow_add (P := 16777216) (by omega) (by decide) (by rw [← h9]; exact k2) (by omega)
theorem len64 (x : Int) (w : World) (h0 : 0 ≤ x) (h1 : x < 1000000000000) :
    Calls Try.prog 64 #[.int .u64 x] w fun e w' => ∃ r : Nat, e = .returned (.int .i64 (r : Int)) ∧ r ≤ 40 ∧ x < 2 ^ r ∧ w = w' := by
  by_cases c1 : x < 256
  · exact len64D x w h0 c1
  · by_cases c2 : x < 65536
    · exact len64C x w (by omega) c2
    · by_cases c3 : x < 16777216
      · exact len64B x w (by omega) c3
      · by_cases c4 : x < 4294967296
        · exact len64E x w (by omega) c4
        · exact len64A x w (by omega) h1
end Go.Proofs.Ytcpipakpkmfhlaa.Ints
