/- Numerals read from texts, of the model and of the program. -/
import Derived.Test.YtbifkjmmhfnblaaDoorBts
import Derived.Test.YtbifkjmmhfnblaaDoorNum
import Derived.Test.YtbifkjmmhfnblaaDoorErrS
import Derived.Test.YtbifkjmmhfnblaaDoorDec
import Derived.Lib.AtoiErrMem
namespace Go.Proofs.YtbifkjmmhfnblaaDoor.Ints
open Go.RowKit
set_option linter.unusedVariables false
set_option linter.unusedSimpArgs false

theorem bt_get {s : ByteArray} {i : Nat} (h : i < s.size) : bt s i = (s.data.toList.getD i 0).toNat := by
  rw [bt_at h, List.getD_eq_getElem?_getD, List.getElem?_eq_getElem (by simpa using h)]; rfl
set_option maxHeartbeats 8000000 in
theorem specNumber (s : ByteArray) (w : World) (hs : s.size ≤ 1048576) :
    Calls Tryd.prog 42 #[.string s] w fun e w' => e = .returned (.tuple #[.int .i64 (numV s.data.toList), .bool (numB s.data.toList)]) ∧ Below w.heap.size w w' := by
  by_cases z : s.size = 0
  · have hl : s.data.toList = [] := List.length_eq_zero_iff.1 (by simpa using z)
    have HF := Lib.hid (num_no (l := s.data.toList) (fun h => h.ne (by rw [hl]; rfl)))
    have d0 : decide ((0 : Int) < (s.size : Int)) = false := decide_eq_false (by omega)
    have d0' : decide (0 < s.size) = false := decide_eq_false (by omega)
    have hq : ((s.size : Int) == 0) = true := by simp [z]
    clear hl
    go_enter Tryd.func42, Tryd.ntmps42
    go_wp2
    go_ret2
    exact ⟨by rw [HF.out.1, HF.out.2] <;> rfl, Below.refl _ _⟩
  have hpos : 0 < s.size := by omega
  have d0 : decide ((0 : Int) < (s.size : Int)) = true := decide_eq_true (by omega)
  have d0' : decide (0 < s.size) = true := decide_eq_true hpos
  have i00 : (0 : Int) < (s.size : Int) := by omega
  obtain ⟨c0, hc0⟩ : ∃ c, c = bt s 0 := ⟨_, rfl⟩
  have hid0 := idxS (k := 0) hpos hc0
  have hck0 : (s[0]'hpos).toNat = c0 := by rw [hc0, bt_at hpos]
  simp only [Int.natCast_zero] at hid0
  have hlen0 : s.data.toList.length = s.size := by simp
  obtain ⟨ds, hds⟩ : ∃ d, d = dpart s.data.toList := ⟨_, rfl⟩
  have HDs := Lib.hid hds
  have hb0 : c0 = (s.data.toList.getD 0 0).toNat := by rw [hc0]; exact bt_get hpos
  have HC0 := Lib.hid hc0
  cases hng : negL s.data.toList with
  | true =>
    have hl := neg_cons hng
    have h45 : ((c0 : Int) == 45) = true := by
      rw [hb0, hl]; rfl
    have HNg := Lib.hid hng
    have HSz : Hid (s.size = ds.length + 1) := Lib.hid (by rw [← hlen0, hl, ← hds]; simp)
    have HBy : Hid (∀ t, t < ds.length → bt s (1 + t) = (ds.getD t 0).toNat) := Lib.hid (fun t ht => by
      rw [bt_get (by have := HSz.out; omega), hl, ← hds, Nat.add_comm 1 t, List.getD_cons_succ])
    clear hl hng hds hb0 hlen0 z hc0
    by_cases hne : ds = []
    · have z1 : s.size = 1 := by rw [HSz.out, hne]; rfl
      have hq : ((s.size : Int) == 1) = true := by simp [z1]
      have HF := Lib.hid (num_no (l := s.data.toList) (fun h => h.ne (by rw [← HDs.out]; exact hne)))
      clear hne
      go_enter Tryd.func42, Tryd.ntmps42
      go_wp2
      go_ret2
      exact ⟨by rw [HF.out.1, HF.out.2] <;> rfl, Below.refl _ _⟩
    have hdp : 0 < ds.length := List.length_pos_iff.2 hne
    have hq : ((s.size : Int) == 1) = false := beq_eq_false_iff_ne.2 (by have := HSz.out; omega)
    have HNe := Lib.hid hne
    clear hne
    by_cases hle : ds.length ≤ 18
    rotate_left
    · have d18 : decide ((18 : Int) < (s.size : Int) - 1) = true := decide_eq_true (by have := HSz.out; omega)
      have d18' : (18 : Int) < (s.size : Int) - 1 := by have := HSz.out; omega
      skip
      have hs20 := hs
      have HF := Lib.hid (num_no (l := s.data.toList) (fun h => hle (by rw [HDs.out]; exact h.le)))
      clear hle
      go_enter Tryd.func42, Tryd.ntmps42
      go_wp2
      go_ret2
      exact ⟨by rw [HF.out.1, HF.out.2] <;> rfl, Below.refl _ _⟩
    have HLe := Lib.hid hle
    have d18 : decide ((18 : Int) < (s.size : Int) - 1) = false := decide_eq_false (by have := HSz.out; omega)
    have d18' : ¬ (18 : Int) < (s.size : Int) - 1 := by have := HSz.out; omega
    skip
    have haz : 1 < s.size := by have := HSz.out; omega
    obtain ⟨c1, hc1⟩ : ∃ c, c = bt s 1 := ⟨_, rfl⟩
    have hid1 := idxS haz hc1
    have hck1 : (s[1]'haz).toNat = c1 := by rw [hc1, bt_at haz]
    have hcd1 : c1 = (ds.getD 0 0).toNat := by rw [hc1]; exact HBy.out 0 hdp
    have ia : (1 : Int) < (s.size : Int) := by omega
    have hhd : ds.head? = some 48 ↔ c1 = 48 := by
      rw [hcd1]
      cases ds with
      | nil => simp at hdp
      | cons y ys =>
        simp only [List.head?_cons, Option.some.injEq, List.getD_cons_zero]
        exact ⟨fun h => by rw [h]; rfl, fun h => UInt8.toNat_inj.1 (by rw [h]; rfl)⟩
    simp only [Int.natCast_one] at hid1
    by_cases h48 : c1 = 48
    · have hz : ((c1 : Int) == 48) = true := by simp [h48]
      have dn : decide ((1 : Int) < (s.size : Int)) = true := decide_eq_true (by omega)
      have dn' : decide (1 < s.size) = true := decide_eq_true (by omega)
      have hlen : s.data.toList.length = s.size := by simp
      have HF := Lib.hid (num_no (l := s.data.toList) (fun h => h.ld ⟨by rw [← HDs.out]; exact hhd.2 h48, by rw [hlen]; omega⟩))
      clear h48 hhd hcd1 hc1
      go_enter Tryd.func42, Tryd.ntmps42
      go_wp2
      go_ret2
      exact ⟨by rw [HF.out.1, HF.out.2] <;> rfl, Below.refl _ _⟩
    · have hz : ((c1 : Int) == 48) = false := by simp; omega
      have HLd : Hid (¬ (ds.head? = some 48 ∧ 1 < s.data.toList.length)) := Lib.hid (fun h => h48 (hhd.1 h.1))
      clear h48 hhd hcd1 hc1
      go_enter Tryd.func42, Tryd.ntmps42
      go_wp2
      go_loopw [5, 6] (fun n i wr => ∃ t : Nat, t ≤ ds.length ∧ i = .int .i64 ((1 + t : Nat) : Int) ∧ n = .int .i64 ((valD (ds.take t) : Nat) : Int) ∧ Digs (ds.take t) ∧ ∃ m, wr = w.drewN m) (fun _ i _ => s.size - (intOf i).toNat)
      case atStart => exact ⟨0, Nat.zero_le _, rfl, rfl, fun c hc => by simp at hc, by first | exact ⟨_, rfl⟩ | exact ⟨0, rfl⟩⟩
      case round =>
        obtain ⟨t, ht, rfl, rfl, hdg, m, hwr⟩ := hrel
        have HDg := Lib.hid hdg
        have HWD := Lib.hid hwr
        have HWR : Hid (Below w.heap.size w wr) := Lib.hid (by rw [hwr]; exact below_drewN (Below.refl _ _) m)
        obtain ⟨N, hN⟩ : ∃ N, N = valD (ds.take t) := ⟨_, rfl⟩
        rw [← hN]
        have HNv := Lib.hid hN
        have hsz := HSz.out
        have hle := HLe.out
        have hs20 : s.size ≤ 19 := by omega
        clear hdg hwr hN
        by_cases hlt : t < ds.length
        · have hkz : 1 + t < s.size := by omega
          obtain ⟨c, hc⟩ : ∃ c, c = bt s (1 + t) := ⟨_, rfl⟩
          have hcd : c = (ds.getD t 0).toNat := by rw [hc]; exact HBy.out t hlt
          have hidk := idxS hkz hc
          have hck : (s[1 + t]'hkz).toNat = c := by rw [hc, bt_at hkz]
          have i0 : (0 : Int) ≤ ((1 + t : Nat) : Int) := by omega
          have i1 : ((1 + t : Nat) : Int) < (s.size : Int) := by omega
          have hmem : ds.getD t 0 ∈ ds := by rw [List.getD_eq_getElem?_getD, List.getElem?_eq_getElem hlt]; exact List.getElem_mem hlt
          by_cases hg : 48 ≤ c ∧ c ≤ 57
          rotate_left
          · have HF := Lib.hid (num_no (l := s.data.toList) (fun h => hg (by rw [hcd]; exact h.dg _ (by rw [← HDs.out]; exact hmem))))
            have H2 : Hid (¬ (48 ≤ (c : Int) ∧ (c : Int) ≤ 57)) := Lib.hid (by omega)
            clear hc hg hcd hmem hsz
            go_wp2_with fail
            refine (specDgt _ false _ ⟨fun h => (by cases h), fun h => absurd h H2.out⟩).mono ?_
            rintro e w' ⟨rfl, rfl⟩
            go_wp2
            go_ret2
            exact ⟨by rw [HF.out.1, HF.out.2] <;> rfl, HWR.out⟩
          obtain ⟨g0, g1⟩ := hg
          obtain ⟨x, hx⟩ : ∃ x, x = (c : Int) - 48 := ⟨_, rfl⟩
          have hx' : (c : Int) - 48 = x := hx.symm
          have x0 : 0 ≤ x := by omega
          have x1 : x ≤ 9 := by omega
          have e3 : IntKind.u8.wrap x = x := by simp [IntKind.wrap, IntKind.bits, IntKind.signed]; omega
          have e4 : IntKind.i64.wrap x = x := by rw [IntKind.wrap_i64]; omega
          have hNb : N < 100000000000000000 := by
            have h1 := valD_lt _ HDg.out
            rw [← HNv.out, List.length_take] at h1
            have h2 : 10 ^ (min t ds.length) ≤ 10 ^ 17 := Nat.pow_le_pow_right (by decide) (by omega)
            have h3 : (10 : Nat) ^ 17 = 100000000000000000 := by decide
            omega
          have H2 : Hid (48 ≤ (c : Int) ∧ (c : Int) ≤ 57) := Lib.hid (by omega)
          have htk : ds.take (t + 1) = ds.take t ++ [ds.getD t 0] := by
            rw [List.take_succ_eq_append_getElem hlt, List.getD_eq_getElem?_getD, List.getElem?_eq_getElem hlt]; rfl
          have HS : Hid (((valD (ds.take (t + 1)) : Nat) : Int) = 10 * (N : Int) + x) := Lib.hid (by
            rw [htk, valD_snoc, ← HNv.out, ← hcd, hx]; omega)
          have HN2 : Hid (Digs (ds.take (t + 1))) := Lib.hid (fun y hy => by
            rw [htk] at hy
            rcases List.mem_append.1 hy with hy | hy
            · exact HDg.out y hy
            · rw [List.mem_singleton] at hy; subst hy; rw [← hcd]; omega)
          clear hc hx hcd hmem htk hsz
          go_wp2_with fail
          refine (specDgt _ true _ ⟨fun _ => H2.out, fun _ => rfl⟩).mono ?_
          rintro e w' ⟨rfl, rfl⟩
          go_wp2
          go_roundw
          case rel => exact ⟨t + 1, by omega, by first | go_num | (congr 1; omega), by rw [HS.out], HN2.out, m, HWD.out⟩
          case measure => simp [intOf]; omega
        · obtain rfl : t = ds.length := by omega
          have hnlt : ¬ (((1 + ds.length : Nat) : Int) < (s.size : Int)) := by omega
          rw [List.take_length] at HDg HNv
          have HOk : Hid (NumOk s.data.toList) := Lib.hid ⟨by rw [← HDs.out]; exact HNe.out, by rw [← HDs.out]; exact HLe.out, by rw [← HDs.out]; exact HLd.out, by rw [← HDs.out]; exact HDg.out⟩
          have HF := Lib.hid (num_yes HOk.out)
          have hNb : N < 1000000000000000000 := by
            have h1 := valD_lt _ HDg.out
            rw [← HNv.out] at h1
            have h2 : 10 ^ ds.length ≤ 10 ^ 18 := Nat.pow_le_pow_right (by decide) hle
            have h3 : (10 : Nat) ^ 18 = 1000000000000000000 := by decide
            omega
          have HV : Hid (valL s.data.toList = -(N : Int)) := Lib.hid (by rw [valL, if_pos HNg.out, ← HDs.out, HNv.out])
          clear hlt hsz
          go_wp2
          go_ret2
          exact ⟨by rw [HF.out.1, HF.out.2, HV.out] <;> rfl, HWR.out⟩
  | false =>
    have hl := pos_same hng
    have h45 : ((c0 : Int) == 45) = false := by
      rw [hb0]
      have hne : s.data.toList ≠ [] := fun h => by rw [h] at hlen0; simp at hlen0; omega
      revert hng hne
      generalize s.data.toList = q
      intro hng hne
      cases q with
      | nil => exact absurd rfl hne
      | cons y ys =>
        have hy : y ≠ 45 := by simpa [negL] using hng
        have : y.toNat ≠ 45 := fun h => hy (UInt8.toNat_inj.1 (by rw [h]; rfl))
        simp; omega
    have HNg := Lib.hid hng
    have HSz : Hid (s.size = ds.length) := Lib.hid (by rw [hds, hl, hlen0])
    have HBy : Hid (∀ t, t < ds.length → bt s t = (ds.getD t 0).toNat) := Lib.hid (fun t ht => by
      rw [bt_get (by have := HSz.out; omega), hds, hl])
    clear hl hng hds hb0 hlen0 z hc0
    by_cases hne : ds = []
    · have z1 : s.size = 0 := by rw [HSz.out, hne]; rfl
      have hq : ((s.size : Int) == 0) = true := by simp [z1]
      have HF := Lib.hid (num_no (l := s.data.toList) (fun h => h.ne (by rw [← HDs.out]; exact hne)))
      clear hne
      go_enter Tryd.func42, Tryd.ntmps42
      go_wp2
      go_ret2
      exact ⟨by rw [HF.out.1, HF.out.2] <;> rfl, Below.refl _ _⟩
    have hdp : 0 < ds.length := List.length_pos_iff.2 hne
    have hq : ((s.size : Int) == 0) = false := beq_eq_false_iff_ne.2 (by have := HSz.out; omega)
    have HNe := Lib.hid hne
    clear hne
    by_cases hle : ds.length ≤ 18
    rotate_left
    · have d18 : decide ((18 : Int) < (s.size : Int)) = true := decide_eq_true (by have := HSz.out; omega)
      have d18' : (18 : Int) < (s.size : Int) := by have := HSz.out; omega
      have d18n : decide (18 < s.size) = true := decide_eq_true (by have := HSz.out; omega)
      have hs20 := hs
      have HF := Lib.hid (num_no (l := s.data.toList) (fun h => hle (by rw [HDs.out]; exact h.le)))
      clear hle
      go_enter Tryd.func42, Tryd.ntmps42
      go_wp2
      go_ret2
      exact ⟨by rw [HF.out.1, HF.out.2] <;> rfl, Below.refl _ _⟩
    have HLe := Lib.hid hle
    have d18 : decide ((18 : Int) < (s.size : Int)) = false := decide_eq_false (by have := HSz.out; omega)
    have d18' : ¬ (18 : Int) < (s.size : Int) := by have := HSz.out; omega
    have d18n : decide (18 < s.size) = false := decide_eq_false (by have := HSz.out; omega)
    have haz : 0 < s.size := by have := HSz.out; omega
    have hcd1 : c0 = (ds.getD 0 0).toNat := by rw [HC0.out]; exact HBy.out 0 hdp
    have hc1 := hcd1
    have ia : (0 : Int) < (s.size : Int) := by omega
    have hhd : ds.head? = some 48 ↔ c0 = 48 := by
      rw [hcd1]
      cases ds with
      | nil => simp at hdp
      | cons y ys =>
        simp only [List.head?_cons, Option.some.injEq, List.getD_cons_zero]
        exact ⟨fun h => by rw [h]; rfl, fun h => UInt8.toNat_inj.1 (by rw [h]; rfl)⟩
    skip
    by_cases h48 : c0 = 48
    · have hz : ((c0 : Int) == 48) = true := by simp [h48]
      by_cases hs1 : 1 < s.size
      · have dn : decide ((1 : Int) < (s.size : Int)) = true := decide_eq_true (by omega)
        have dn' : decide (1 < s.size) = true := decide_eq_true (by omega)
        have hlen : s.data.toList.length = s.size := by simp
        have HF := Lib.hid (num_no (l := s.data.toList) (fun h => h.ld ⟨by rw [← HDs.out]; exact hhd.2 h48, by rw [hlen]; omega⟩))
        clear h48 hhd hcd1 hc1
        go_enter Tryd.func42, Tryd.ntmps42
        go_wp2
        go_ret2
        exact ⟨by rw [HF.out.1, HF.out.2] <;> rfl, Below.refl _ _⟩
      · have dn : decide ((1 : Int) < (s.size : Int)) = false := decide_eq_false (by omega)
        have dn' : decide (1 < s.size) = false := decide_eq_false (by omega)
        have hlen : s.data.toList.length = s.size := by simp
        have HLd : Hid (¬ (ds.head? = some 48 ∧ 1 < s.data.toList.length)) := Lib.hid (fun h => hs1 (by rw [← hlen]; exact h.2))
        clear h48 hhd hcd1 hc1 hlen
        go_enter Tryd.func42, Tryd.ntmps42
        go_wp2
        go_loopw [5, 6] (fun n i wr => ∃ t : Nat, t ≤ ds.length ∧ i = .int .i64 ((t : Nat) : Int) ∧ n = .int .i64 ((valD (ds.take t) : Nat) : Int) ∧ Digs (ds.take t) ∧ ∃ m, wr = w.drewN m) (fun _ i _ => s.size - (intOf i).toNat)
        case atStart => exact ⟨0, Nat.zero_le _, rfl, rfl, fun c hc => by simp at hc, by first | exact ⟨_, rfl⟩ | exact ⟨0, rfl⟩⟩
        case round =>
          obtain ⟨t, ht, rfl, rfl, hdg, m, hwr⟩ := hrel
          have HDg := Lib.hid hdg
          have HWD := Lib.hid hwr
          have HWR : Hid (Below w.heap.size w wr) := Lib.hid (by rw [hwr]; exact below_drewN (Below.refl _ _) m)
          obtain ⟨N, hN⟩ : ∃ N, N = valD (ds.take t) := ⟨_, rfl⟩
          rw [← hN]
          have HNv := Lib.hid hN
          have hsz := HSz.out
          have hle := HLe.out
          have hs20 : s.size ≤ 19 := by omega
          clear hdg hwr hN
          by_cases hlt : t < ds.length
          · have hkz : t < s.size := by omega
            obtain ⟨c, hc⟩ : ∃ c, c = bt s (t) := ⟨_, rfl⟩
            have hcd : c = (ds.getD t 0).toNat := by rw [hc]; exact HBy.out t hlt
            have hidk := idxS hkz hc
            have hck : (s[t]'hkz).toNat = c := by rw [hc, bt_at hkz]
            have i0 : (0 : Int) ≤ ((t : Nat) : Int) := by omega
            have i1 : ((t : Nat) : Int) < (s.size : Int) := by omega
            have hmem : ds.getD t 0 ∈ ds := by rw [List.getD_eq_getElem?_getD, List.getElem?_eq_getElem hlt]; exact List.getElem_mem hlt
            by_cases hg : 48 ≤ c ∧ c ≤ 57
            rotate_left
            · have HF := Lib.hid (num_no (l := s.data.toList) (fun h => hg (by rw [hcd]; exact h.dg _ (by rw [← HDs.out]; exact hmem))))
              have H2 : Hid (¬ (48 ≤ (c : Int) ∧ (c : Int) ≤ 57)) := Lib.hid (by omega)
              clear hc hg hcd hmem hsz
              go_wp2_with fail
              refine (specDgt _ false _ ⟨fun h => (by cases h), fun h => absurd h H2.out⟩).mono ?_
              rintro e w' ⟨rfl, rfl⟩
              go_wp2
              go_ret2
              exact ⟨by rw [HF.out.1, HF.out.2] <;> rfl, HWR.out⟩
            obtain ⟨g0, g1⟩ := hg
            obtain ⟨x, hx⟩ : ∃ x, x = (c : Int) - 48 := ⟨_, rfl⟩
            have hx' : (c : Int) - 48 = x := hx.symm
            have x0 : 0 ≤ x := by omega
            have x1 : x ≤ 9 := by omega
            have e3 : IntKind.u8.wrap x = x := by simp [IntKind.wrap, IntKind.bits, IntKind.signed]; omega
            have e4 : IntKind.i64.wrap x = x := by rw [IntKind.wrap_i64]; omega
            have hNb : N < 100000000000000000 := by
              have h1 := valD_lt _ HDg.out
              rw [← HNv.out, List.length_take] at h1
              have h2 : 10 ^ (min t ds.length) ≤ 10 ^ 17 := Nat.pow_le_pow_right (by decide) (by omega)
              have h3 : (10 : Nat) ^ 17 = 100000000000000000 := by decide
              omega
            have H2 : Hid (48 ≤ (c : Int) ∧ (c : Int) ≤ 57) := Lib.hid (by omega)
            have htk : ds.take (t + 1) = ds.take t ++ [ds.getD t 0] := by
              rw [List.take_succ_eq_append_getElem hlt, List.getD_eq_getElem?_getD, List.getElem?_eq_getElem hlt]; rfl
            have HS : Hid (((valD (ds.take (t + 1)) : Nat) : Int) = 10 * (N : Int) + x) := Lib.hid (by
              rw [htk, valD_snoc, ← HNv.out, ← hcd, hx]; omega)
            have HN2 : Hid (Digs (ds.take (t + 1))) := Lib.hid (fun y hy => by
              rw [htk] at hy
              rcases List.mem_append.1 hy with hy | hy
              · exact HDg.out y hy
              · rw [List.mem_singleton] at hy; subst hy; rw [← hcd]; omega)
            clear hc hx hcd hmem htk hsz
            go_wp2_with fail
            refine (specDgt _ true _ ⟨fun _ => H2.out, fun _ => rfl⟩).mono ?_
            rintro e w' ⟨rfl, rfl⟩
            go_wp2
            go_roundw
            case rel => exact ⟨t + 1, by omega, by first | go_num | (congr 1; omega), by rw [HS.out], HN2.out, m, HWD.out⟩
            case measure => simp [intOf]; omega
          · obtain rfl : t = ds.length := by omega
            have hnlt : ¬ (((ds.length : Nat) : Int) < (s.size : Int)) := by omega
            rw [List.take_length] at HDg HNv
            have HOk : Hid (NumOk s.data.toList) := Lib.hid ⟨by rw [← HDs.out]; exact HNe.out, by rw [← HDs.out]; exact HLe.out, by rw [← HDs.out]; exact HLd.out, by rw [← HDs.out]; exact HDg.out⟩
            have HF := Lib.hid (num_yes HOk.out)
            have hNb : N < 1000000000000000000 := by
              have h1 := valD_lt _ HDg.out
              rw [← HNv.out] at h1
              have h2 : 10 ^ ds.length ≤ 10 ^ 18 := Nat.pow_le_pow_right (by decide) hle
              have h3 : (10 : Nat) ^ 18 = 1000000000000000000 := by decide
              omega
            have HV : Hid (valL s.data.toList = (N : Int)) := Lib.hid (by rw [valL, if_neg (by rw [HNg.out]; decide), ← HDs.out, HNv.out])
            clear hlt hsz
            go_wp2
            go_ret2
            exact ⟨by rw [HF.out.1, HF.out.2, HV.out] <;> rfl, HWR.out⟩
    · have hz : ((c0 : Int) == 48) = false := by simp; omega
      have HLd : Hid (¬ (ds.head? = some 48 ∧ 1 < s.data.toList.length)) := Lib.hid (fun h => h48 (hhd.1 h.1))
      clear h48 hhd hcd1 hc1
      go_enter Tryd.func42, Tryd.ntmps42
      go_wp2
      go_loopw [5, 6] (fun n i wr => ∃ t : Nat, t ≤ ds.length ∧ i = .int .i64 ((t : Nat) : Int) ∧ n = .int .i64 ((valD (ds.take t) : Nat) : Int) ∧ Digs (ds.take t) ∧ ∃ m, wr = w.drewN m) (fun _ i _ => s.size - (intOf i).toNat)
      case atStart => exact ⟨0, Nat.zero_le _, rfl, rfl, fun c hc => by simp at hc, by first | exact ⟨_, rfl⟩ | exact ⟨0, rfl⟩⟩
      case round =>
        obtain ⟨t, ht, rfl, rfl, hdg, m, hwr⟩ := hrel
        have HDg := Lib.hid hdg
        have HWD := Lib.hid hwr
        have HWR : Hid (Below w.heap.size w wr) := Lib.hid (by rw [hwr]; exact below_drewN (Below.refl _ _) m)
        obtain ⟨N, hN⟩ : ∃ N, N = valD (ds.take t) := ⟨_, rfl⟩
        rw [← hN]
        have HNv := Lib.hid hN
        have hsz := HSz.out
        have hle := HLe.out
        have hs20 : s.size ≤ 19 := by omega
        clear hdg hwr hN
        by_cases hlt : t < ds.length
        · have hkz : t < s.size := by omega
          obtain ⟨c, hc⟩ : ∃ c, c = bt s (t) := ⟨_, rfl⟩
          have hcd : c = (ds.getD t 0).toNat := by rw [hc]; exact HBy.out t hlt
          have hidk := idxS hkz hc
          have hck : (s[t]'hkz).toNat = c := by rw [hc, bt_at hkz]
          have i0 : (0 : Int) ≤ ((t : Nat) : Int) := by omega
          have i1 : ((t : Nat) : Int) < (s.size : Int) := by omega
          have hmem : ds.getD t 0 ∈ ds := by rw [List.getD_eq_getElem?_getD, List.getElem?_eq_getElem hlt]; exact List.getElem_mem hlt
          by_cases hg : 48 ≤ c ∧ c ≤ 57
          rotate_left
          · have HF := Lib.hid (num_no (l := s.data.toList) (fun h => hg (by rw [hcd]; exact h.dg _ (by rw [← HDs.out]; exact hmem))))
            have H2 : Hid (¬ (48 ≤ (c : Int) ∧ (c : Int) ≤ 57)) := Lib.hid (by omega)
            clear hc hg hcd hmem hsz
            go_wp2_with fail
            refine (specDgt _ false _ ⟨fun h => (by cases h), fun h => absurd h H2.out⟩).mono ?_
            rintro e w' ⟨rfl, rfl⟩
            go_wp2
            go_ret2
            exact ⟨by rw [HF.out.1, HF.out.2] <;> rfl, HWR.out⟩
          obtain ⟨g0, g1⟩ := hg
          obtain ⟨x, hx⟩ : ∃ x, x = (c : Int) - 48 := ⟨_, rfl⟩
          have hx' : (c : Int) - 48 = x := hx.symm
          have x0 : 0 ≤ x := by omega
          have x1 : x ≤ 9 := by omega
          have e3 : IntKind.u8.wrap x = x := by simp [IntKind.wrap, IntKind.bits, IntKind.signed]; omega
          have e4 : IntKind.i64.wrap x = x := by rw [IntKind.wrap_i64]; omega
          have hNb : N < 100000000000000000 := by
            have h1 := valD_lt _ HDg.out
            rw [← HNv.out, List.length_take] at h1
            have h2 : 10 ^ (min t ds.length) ≤ 10 ^ 17 := Nat.pow_le_pow_right (by decide) (by omega)
            have h3 : (10 : Nat) ^ 17 = 100000000000000000 := by decide
            omega
          have H2 : Hid (48 ≤ (c : Int) ∧ (c : Int) ≤ 57) := Lib.hid (by omega)
          have htk : ds.take (t + 1) = ds.take t ++ [ds.getD t 0] := by
            rw [List.take_succ_eq_append_getElem hlt, List.getD_eq_getElem?_getD, List.getElem?_eq_getElem hlt]; rfl
          have HS : Hid (((valD (ds.take (t + 1)) : Nat) : Int) = 10 * (N : Int) + x) := Lib.hid (by
            rw [htk, valD_snoc, ← HNv.out, ← hcd, hx]; omega)
          have HN2 : Hid (Digs (ds.take (t + 1))) := Lib.hid (fun y hy => by
            rw [htk] at hy
            rcases List.mem_append.1 hy with hy | hy
            · exact HDg.out y hy
            · rw [List.mem_singleton] at hy; subst hy; rw [← hcd]; omega)
          clear hc hx hcd hmem htk hsz
          go_wp2_with fail
          refine (specDgt _ true _ ⟨fun _ => H2.out, fun _ => rfl⟩).mono ?_
          rintro e w' ⟨rfl, rfl⟩
          go_wp2
          go_roundw
          case rel => exact ⟨t + 1, by omega, by first | go_num | (congr 1; omega), by rw [HS.out], HN2.out, m, HWD.out⟩
          case measure => simp [intOf]; omega
        · obtain rfl : t = ds.length := by omega
          have hnlt : ¬ (((ds.length : Nat) : Int) < (s.size : Int)) := by omega
          rw [List.take_length] at HDg HNv
          have HOk : Hid (NumOk s.data.toList) := Lib.hid ⟨by rw [← HDs.out]; exact HNe.out, by rw [← HDs.out]; exact HLe.out, by rw [← HDs.out]; exact HLd.out, by rw [← HDs.out]; exact HDg.out⟩
          have HF := Lib.hid (num_yes HOk.out)
          have hNb : N < 1000000000000000000 := by
            have h1 := valD_lt _ HDg.out
            rw [← HNv.out] at h1
            have h2 : 10 ^ ds.length ≤ 10 ^ 18 := Nat.pow_le_pow_right (by decide) hle
            have h3 : (10 : Nat) ^ 18 = 1000000000000000000 := by decide
            omega
          have HV : Hid (valL s.data.toList = (N : Int)) := Lib.hid (by rw [valL, if_neg (by rw [HNg.out]; decide), ← HDs.out, HNv.out])
          clear hlt hsz
          go_wp2
          go_ret2
          exact ⟨by rw [HF.out.1, HF.out.2, HV.out] <;> rfl, HWR.out⟩
set_option maxHeartbeats 4000000 in
theorem implRdDec (s : ByteArray) (w : World) (hs : s.size ≤ 1048576) (ht : TabV w) (he : ErrV w) :
    Calls Tryd.prog 45 #[.string s] w fun e w' => e = .returned (.tuple #[.int .i64 (numV s.data.toList), .bool (numB s.data.toList)]) ∧ Below w.heap.size w w' := by
  have HT := Lib.hid ht
  have HE := Lib.hid he
  have HSl : Hid (s.toList = s.data.toList) := Lib.hid (ByteArray.toList_eq s)
  obtain ⟨tp, htp⟩ : ∃ t, t = bs (dpart s.data.toList) := ⟨_, rfl⟩
  have hts : tp.size = (dpart s.data.toList).length := by rw [htp, bs_size]
  have HTp := Lib.hid htp
  have HTr : Hid (bs (Lib.trimPrefix s.data.toList [45]) = tp) := Lib.hid (by rw [trim_dash, htp])
  have HIE := Lib.hid (Tryd.strings_TrimPrefix s ⟨#[45]⟩)
  clear ht he htp
  by_cases hle : (dpart s.data.toList).length ≤ 18
  rotate_left
  · have HF := Lib.hid (num_no (l := s.data.toList) (fun h => hle h.le))
    have d1 : decide ((18 : Int) < (tp.size : Int)) = true := decide_eq_true (by omega)
    have d2 : decide (18 < tp.size) = true := decide_eq_true (by omega)
    clear hle hts
    go_enter Tryd.func45, Tryd.ntmps45
    go_wp2_with fail
    refine (HIE.out _).mono ?_
    rintro e w' ⟨rfl, hw'⟩
    rw [hw']
    clear hw' w'
    rw [show (ByteArray.mk (Lib.trimPrefix s.data.toList (ByteArray.mk #[45]).data.toList).toArray) = tp from HTr.out]
    go_wp2
    go_ret2
    exact ⟨by rw [HF.out.1, HF.out.2] <;> rfl, Below.refl _ _⟩
  have HLe := Lib.hid hle
  have d1 : decide ((18 : Int) < (tp.size : Int)) = false := decide_eq_false (by omega)
  have d2 : decide (18 < tp.size) = false := decide_eq_false (by omega)
  clear hle hts
  obtain ⟨r, hr⟩ : ∃ r, r = Lib.parseIntB 64 s.data.toList := ⟨_, rfl⟩
  have HNo : Hid ((∀ v, r ≠ .ok v) → numB s.data.toList = false ∧ numV s.data.toList = 0) := Lib.hid (fun h => num_no (fun k => h _ (by rw [hr]; exact parse_valL k)))
  have HR := Lib.hid hr.symm
  have HNx : Hid (∀ v, r = .ok v → Lib.itoa v ≠ s.data.toList → numB s.data.toList = false ∧ numV s.data.toList = 0) := Lib.hid (fun v hv hne => num_no (fun k => by
    have h1 := parse_valL k
    rw [← hr, hv] at h1
    have h2 : v = valL s.data.toList := by injection h1
    exact hne (by rw [h2]; exact itoa_valL k)))
  clear hr
  cases r with
  | «syntax» =>
    have HF := Lib.hid (HNo.out (fun v h => by cases h))
    obtain ⟨tq, pq, hq⟩ := HE.out.1
    have HQ := Lib.hid hq
    clear hq
    go_enter Tryd.func45, Tryd.ntmps45
    go_wp2_with fail
    refine (HIE.out _).mono ?_
    rintro e w' ⟨rfl, hw'⟩
    rw [hw']
    clear hw' w'
    rw [show (ByteArray.mk (Lib.trimPrefix s.data.toList (ByteArray.mk #[45]).data.toList).toArray) = tp from HTr.out]
    go_wp2_with fail
    refine (Tryd.strconv_ParseInt_10_at64_syntax_var s (by omega) HR.out tq pq _ HQ.out).mono ?_
    rintro e w1 ⟨N, rfl, _, _, hb1⟩
    have HB1 := Lib.hid hb1
    clear hb1
    go_wp2
    go_ret2
    exact ⟨by rw [HF.out.1, HF.out.2] <;> rfl, HB1.out⟩
  | range =>
    have HF := Lib.hid (HNo.out (fun v h => by cases h))
    obtain ⟨tq, pq, hq⟩ := HE.out.2
    have HQ := Lib.hid hq
    clear hq
    go_enter Tryd.func45, Tryd.ntmps45
    go_wp2_with fail
    refine (HIE.out _).mono ?_
    rintro e w' ⟨rfl, hw'⟩
    rw [hw']
    clear hw' w'
    rw [show (ByteArray.mk (Lib.trimPrefix s.data.toList (ByteArray.mk #[45]).data.toList).toArray) = tp from HTr.out]
    go_wp2_with fail
    refine (Tryd.strconv_ParseInt_10_at64_range_var s (by omega) HR.out tq pq _ HQ.out).mono ?_
    rintro e w1 ⟨N, rfl, _, _, hb1⟩
    have HB1 := Lib.hid hb1
    clear hb1
    go_wp2
    go_ret2
    exact ⟨by rw [HF.out.1, HF.out.2] <;> rfl, HB1.out⟩
  | ok v =>
    have HVb := Lib.hid (Lib.parseIntB_bounds HR.out)
    have hv0 : -9223372036854775808 ≤ v ∧ v ≤ 9223372036854775807 := by
      have h := HVb.out
      have h2 : ((2 ^ (64 - 1) : Nat) : Int) = 9223372036854775808 := by decide
      rw [h2] at h
      omega
    obtain ⟨v0, v1⟩ := hv0
    obtain ⟨tv, htv⟩ : ∃ t, t = bs (Lib.itoa v) := ⟨_, rfl⟩
    have HTv := Lib.hid htv
    have htl : tv.toList = Lib.itoa v := by rw [htv]; exact ByteArray.toList_mk _
    have HTl := Lib.hid htl
    clear htv htl
    by_cases heq : Lib.itoa v = s.data.toList
    · have hk := num_of_itoa heq HLe.out
      have hy := num_yes hk.1
      have HF : Hid (numB s.data.toList = true ∧ numV s.data.toList = v) := Lib.hid ⟨hy.1, by rw [hy.2, hk.2]⟩
      have hne : (tv.toList == s.toList) = true := by rw [HTl.out, HSl.out, heq]; simp
      have hne' : tv.toList = s.toList := by rw [HTl.out, HSl.out, heq]
      clear hk hy heq
      go_enter Tryd.func45, Tryd.ntmps45
      go_wp2_with fail
      refine (HIE.out _).mono ?_
      rintro e w' ⟨rfl, hw'⟩
      rw [hw']
      clear hw' w'
      rw [show (ByteArray.mk (Lib.trimPrefix s.data.toList (ByteArray.mk #[45]).data.toList).toArray) = tp from HTr.out]
      go_wp2_with fail
      refine (Tryd.strconv_ParseInt_10_at64_ok s (by omega) v HR.out _).mono ?_
      rintro e w1 ⟨rfl, hw1⟩
      have HB1 : Hid (Below w.heap.size w w1) := Lib.hid (by
        rcases hw1 with h | ⟨t, h⟩
        · rw [h]; exact Below.refl _ _
        · rw [h]; exact Lib.bytesWorld_below _ _ _)
      clear hw1
      go_wp2_with fail
      refine (implDec v v0 v1 _ (HT.out.below HB1.out (Nat.le_refl _))).mono ?_
      rintro e w2 ⟨rfl, hb2⟩
      rw [← HTv.out]
      have HB2 := Lib.hid (HB1.out.trans (hb2.mono HB1.out.size))
      clear hb2
      go_wp2
      go_ret2
      exact ⟨by rw [HF.out.1, HF.out.2] <;> rfl, HB2.out⟩
    · have HF := Lib.hid (HNx.out v rfl heq)
      have hne : (tv.toList == s.toList) = false := by rw [HTl.out, HSl.out]; simpa using heq
      have hne' : ¬ tv.toList = s.toList := by rw [HTl.out, HSl.out]; exact heq
      clear heq
      go_enter Tryd.func45, Tryd.ntmps45
      go_wp2_with fail
      refine (HIE.out _).mono ?_
      rintro e w' ⟨rfl, hw'⟩
      rw [hw']
      clear hw' w'
      rw [show (ByteArray.mk (Lib.trimPrefix s.data.toList (ByteArray.mk #[45]).data.toList).toArray) = tp from HTr.out]
      go_wp2_with fail
      refine (Tryd.strconv_ParseInt_10_at64_ok s (by omega) v HR.out _).mono ?_
      rintro e w1 ⟨rfl, hw1⟩
      have HB1 : Hid (Below w.heap.size w w1) := Lib.hid (by
        rcases hw1 with h | ⟨t, h⟩
        · rw [h]; exact Below.refl _ _
        · rw [h]; exact Lib.bytesWorld_below _ _ _)
      clear hw1
      go_wp2_with fail
      refine (implDec v v0 v1 _ (HT.out.below HB1.out (Nat.le_refl _))).mono ?_
      rintro e w2 ⟨rfl, hb2⟩
      rw [← HTv.out]
      have HB2 := Lib.hid (HB1.out.trans (hb2.mono HB1.out.size))
      clear hb2
      go_wp2
      go_ret2
      exact ⟨by rw [HF.out.1, HF.out.2] <;> rfl, HB2.out⟩
end Go.Proofs.YtbifkjmmhfnblaaDoor.Ints
