/- Letters as digits, of the program: a builder. -/
import Derived.Test.YthombjcjhnekpaaByB
import Derived.Test.YthombjcjhnekpaaDig
import Derived.Test.YthombjcjhnekpaaShf
import Derived.Test.YthombjcjhnekpaaShh
import Derived.Lib.RuneBytes
import Derived.Lib.FrozenHead
import Derived.BigRegion
import Derived.BigCall
namespace Go.Proofs.Ythombjcjhnekpaa.Ints
open Go.RowKit
set_option linter.unusedVariables false
set_option linter.unusedSimpArgs false

theorem rune_dig {x : Int} (h0 : 0 ≤ x) (h1 : x < 10) : Lib.runeCells (48 + x) = Lib.byteCells [UInt8.ofNat (48 + x.toNat)] := by
  obtain ⟨c, rfl⟩ : ∃ c : Nat, x = (c : Int) := ⟨x.toNat, by omega⟩
  rw [Lib.runeCells, Lib.encodeRuneZ_one (by omega) (by omega), Int.toNat_natCast]
  simp only [Lib.byteCells, List.map_cons, List.map_nil]
  rw [digit_toNat (by omega)]
  rfl
theorem bytes_app (x y : List UInt8) : Lib.byteCells (x ++ y) = Lib.byteCells x ++ Lib.byteCells y := by simp [Lib.byteCells]
set_option maxHeartbeats 4000000 in
theorem implLetText (v : Value) (zs : List Int) (t : ByteArray) (w : World) (h : Rd w v zs) (hd : Dig 10 zs) (ht : t = bs (dgT zs)) :
    Calls Try.prog 102 #[v] w fun e w' => e = .returned (.string t) ∧ Below w.heap.size w w' := by
  subst ht
  obtain ⟨hl, hf, a, c, rfl, hcap, hr⟩ := h
  have HC := Lib.hid hr
  have HDg := Lib.hid hd
  have HS0 : Hid (Lib.IsBuilderF 105 5 w.heap.size w.heap.size [] (w.alloc (.cells #[.pointer none, .slice none 0 0] 105))) := Lib.hid
    (.inl ⟨Nat.le_refl _, _, heap_alloc_new w _, World.ownsRowF_nil _ _ _ _, by simp [Value.ownBlock]⟩)
  clear hr hf hd
  go_enter Try.func102, Try.ntmps102
  go_wp2
  go_loopw [8] (fun i wr => ∃ k : Nat, k ≤ zs.length ∧ i = .int .i64 k ∧ Lib.IsBuilderF 105 5 w.heap.size w.heap.size (Lib.byteCells (dgT (zs.take k))) wr ∧ Below w.heap.size w wr) (fun i _ => zs.length - (intOf i).toNat)
  case atStart => exact ⟨0, Nat.zero_le _, rfl, by simpa [Lib.byteCells, dgT] using HS0.out, (Below.refl _ _).alloc (Nat.le_refl _) _⟩
  case round =>
    obtain ⟨k, hk, rfl, hbd, hbel⟩ := hrel
    have HW := Lib.hid hbel
    have HB := Lib.hid hbd
    by_cases hlt : k < zs.length
    · obtain ⟨b, o, rfl, hb, hcell⟩ := HC.out (by intro h0; rw [h0] at hlt; simp at hlt)
      obtain ⟨x, hx⟩ : ∃ x, x = zs.getD k 0 := ⟨_, rfl⟩
      have hc : wr.cell? ⟨b, o + k, none⟩ = some (.int .i64 x) := by rw [hx]; exact (hbel.cell hb).trans (hcell k hlt)
      have hxd : 0 ≤ x ∧ x < 10 := by rw [hx]; exact HDg.out k hlt
      obtain ⟨x0, x1⟩ := hxd
      have i0' : (0 : Int) ≤ (k : Int) := by omega
      have i1 : (k : Int) < (zs.length : Int) := by omega
      have HS : Hid (Lib.byteCells (dgT (zs.take k)) ++ Lib.runeCells (48 + x) = Lib.byteCells (dgT (zs.take (k + 1)))) := Lib.hid (by rw [dgT_succ zs k hlt, bytes_app, rune_dig x0 x1, hx])
      have e1 : IntKind.i32.wrap x = x := by simp [IntKind.wrap, IntKind.bits, IntKind.signed]; omega
      have e2 : IntKind.i32.wrap (48 + x) = 48 + x := by simp [IntKind.wrap, IntKind.bits, IntKind.signed]; omega
      have HLn : Hid ((Lib.byteCells (dgT (zs.take k))).length + 4 ≤ 140737488355328) := Lib.hid (by simp [Lib.byteCells, dgT]; omega)
      clear hbel hbd hcell hx
      go_wp2_with fail
      refine (Try.Builder_WriteRune_k w.heap.size w.heap.size _ (48 + x) (by omega) (by omega) _ HB.out HLn.out HW.out.size).mono ?_
      rintro e w1 ⟨rfl, hb1, hb2, _⟩
      rw [HS.out] at hb1
      have HB1 : Hid (Lib.IsBuilderF 105 5 w.heap.size w.heap.size (Lib.byteCells (dgT (zs.take (k + 1)))) w1) := Lib.hid (.inr hb1)
      have HW1 := Lib.hid (HW.out.trans hb2)
      clear hb1 hb2
      go_wp2
      go_roundw
      case rel => exact ⟨k + 1, by omega, by go_num, HB1.out, HW1.out⟩
      case measure => simp [intOf]; omega
    · obtain rfl : k = zs.length := by omega
      have HB1 : Hid (Lib.IsBuilderF 105 5 w.heap.size w.heap.size (Lib.byteCells (dgT zs)) wr) := Lib.hid (by rw [List.take_length] at hbd; exact hbd)
      have hnlt : ¬ ((zs.length : Int) < (zs.length : Int)) := by omega
      clear hbd hbel hlt
      go_wp2_with fail
      refine (Try.Builder_String_any_k w.heap.size w.heap.size _ _ HB1.out HW.out.size).mono ?_
      rintro e w1 ⟨rfl, _, hb2, _⟩
      have HW1 := Lib.hid (HW.out.trans hb2)
      clear hb2
      go_wp2
      go_ret
      exact ⟨rfl, HW1.out⟩
end Go.Proofs.Ythombjcjhnekpaa.Ints
