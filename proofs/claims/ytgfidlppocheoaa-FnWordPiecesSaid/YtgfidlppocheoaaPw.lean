/- Powers of words: slices.Repeat; PowerWord, of the model and of the program. -/
import Derived.Test.YtgfidlppocheoaaPwV
import Derived.Laws.BitsLemmas
import Derived.Deep.RegionHeld3
namespace Go.Proofs.Ytgfidlppocheoaa.Ints
open Go.RowKit
set_option linter.unusedVariables false
set_option linter.unusedSimpArgs false
theorem mask32 (x : Int) (h0 : 0 ≤ x) (h1 : x ≤ 1000000) : Go.bits .and .u64 x 4294967295 = x := by
  have h := bits_mask .u64 63 (by decide) (fun n a b => by rw [IntKind.wrap_u64]; omega) 32 (by decide) x h0 (by omega)
  have e : ((2 : Int) ^ 32 - 1) = 4294967295 := by decide
  have e2 : ((2 : Int) ^ 32) = 4294967296 := by decide
  rw [e, e2] at h
  rw [h]
  omega
theorem mul64 (x y P : Int) (w : World) (hx : 0 ≤ x ∧ x ≤ 400) (hy : 0 ≤ y ∧ y ≤ 400) (hP : x * y = P) (hp : 0 ≤ P ∧ P ≤ 400) :
    Calls Try.prog 49 #[.int .u64 x, .int .u64 y] w fun e w' => e = .returned (.tuple #[.int .u64 0, .int .u64 P]) ∧ w = w' := by
  have m1 := mask32 x hx.1 (by omega)
  have m2 := mask32 y hy.1 (by omega)
  have m0 := mask32 0 (by omega) (by omega)
  have d1 : x / 4294967296 = 0 := by omega
  have d2 : y / 4294967296 = 0 := by omega
  have d3 : P / 4294967296 = 0 := by omega
  have wp : IntKind.u64.wrap (x * y) = P := by rw [IntKind.wrap_u64, hP]; omega
  have w0 : IntKind.u64.wrap 0 = 0 := by decide
  clear hx hy hp hP
  go_enter Try.func49, Try.ntmps49
  go_wp2
  go_ret2
  exact ⟨rfl, rfl⟩
theorem bitsMul (x y P : Int) (w : World) (hx : 0 ≤ x ∧ x ≤ 400) (hy : 0 ≤ y ∧ y ≤ 400) (hP : x * y = P) (hp : 0 ≤ P ∧ P ≤ 400) :
    Calls Try.prog 43 #[.int .u64 x, .int .u64 y] w fun e w' => e = .returned (.tuple #[.int .u64 0, .int .u64 P]) ∧ w = w' := by
  go_enter Try.func43, Try.ntmps43
  go_wp2_with fail
  refine (mul64 x y P _ hx hy hP hp).mono ?_
  rintro e w1 ⟨rfl, rfl⟩
  go_wp2
  go_ret2
  exact ⟨rfl, rfl⟩
set_option maxRecDepth 100000 in
set_option maxHeartbeats 800000 in
theorem libRepeat (v : Value) (zs : List Int) (n : Nat) (w : World) (hv : Rd w v zs) (hz : zs.length ≤ 400) (hn : n ≤ 400) (hp : n * zs.length ≤ 400) :
    Calls Try.prog 33 #[v, .int .i64 (n : Int)] w fun e w' => ∃ u, e = .returned u ∧ Ow w' w.heap.size w'.heap.size u (pwL zs n) ∧ Below w.heap.size w w' := by
  obtain ⟨n0, hi, hz0, hz1, hz2⟩ := info_parts infoE
  have HV := Lib.hid hv
  obtain ⟨hl, hf, a, c, rfl, hcap, hr⟩ := hv
  have HF := Lib.hid hf
  obtain ⟨T, hT⟩ : ∃ T, T = n * zs.length := ⟨_, rfl⟩
  have hPT : (zs.length : Int) * (n : Int) = (T : Int) := by rw [hT, Nat.mul_comm]; push_cast; rfl
  have HPT := Lib.hid hPT
  have HT := Lib.hid hT
  have HR := Lib.hid hr
  rw [← hT] at hp
  obtain ⟨Z0, hZ0⟩ : ∃ Z, Z = (List.replicate T (0 : Int)).map (Value.int .i64) := ⟨_, rfl⟩
  have HZ0 : Hid (Z0 = (List.replicate T (0 : Int)).map (Value.int .i64) ∧ Z0.length = T) := Lib.hid ⟨hZ0, by rw [hZ0, List.length_map, List.length_replicate]⟩
  obtain ⟨m, hm⟩ : ∃ m, m = min zs.length T := ⟨_, rfl⟩
  have HM := Lib.hid hm
  obtain ⟨X1, hX1⟩ : ∃ X, X = (zs.take m).map (Value.int .i64) := ⟨_, rfl⟩
  have HX1 : Hid (X1 = (zs.take m).map (Value.int .i64) ∧ X1.length = m) := Lib.hid ⟨hX1, by rw [hX1]; simp; omega⟩
  have i1 : (0 : Int) ≤ (n : Int) := by omega
  have i2 : ¬ (n : Int) < 0 := by omega
  have i3 : ¬ (9223372036854775807 : Int) < (T : Int) := by omega
  have i4 : IntKind.i64.wrap (T : Int) = (T : Int) := by rw [IntKind.wrap_i64]; omega
  have i5 : (0 : Int) ≤ (T : Int) := by omega
  clear hr hf hT hPT hZ0 hm hX1
  go_enter Try.func33, Try.ntmps33
  go_wp2_with fail
  refine (bitsMul (zs.length : Int) (n : Int) (T : Int) _ (by omega) (by omega) HPT.out (by omega)).mono ?_
  rintro e w1 ⟨rfl, rfl⟩
  go_wp2_with (at_make; refine wpList_make_full _ rfl _ _ 24 rfl w.heap.size 2 n0 (.int .i64 0) 1 Try.underlying24 hi hz0 hz1 _ _ _ _ T rfl rfl rfl rfl ?b2 ?b3 (Nat.le_refl _) ?_)
  case b2 => first | omega | (rw [hz2]; omega)
  case b3 => unfold maxLen; omega
  intro w0 hown0 hgrow0
  have HG0 : Hid (w0.heap[w.heap.size]? = some (.cells Z0.toArray 2 (0, 0))) := Lib.hid (by
    have := row_fullQ hown0
    rw [toList_madeCells_one] at this
    rw [HZ0.out.1, List.map_replicate]
    exact this)
  have hb0 : Below w.heap.size w w0 := (Below.refl _ _).grown hgrow0 (Nat.le_refl _) (fun k h => by cases h)
  have HB0 := Lib.hid hb0
  clear hown0 hgrow0 hb0
  go_wp2_with (with_reducible refine copyOnly rfl (.tmp 31) (.tmp 32) 24 24 rfl 2 Try.underlying24 sizeQ _ _ _ _ _ _ rfl rfl w.heap.size 0 Z0 2 HG0.out X1 ?hn1 ?hpos1 ?hfit1 ?hone1 ?_)
  case hn1 => rw [HX1.out.2]; show m = min zs.length T; exact HM.out
  case hpos1 =>
    intro hpos
    rw [HX1.out.2] at hpos
    obtain ⟨b, o, rfl, hb, hcell⟩ := HR.out (by intro h0; have := HM.out; rw [h0] at this; simp at this; omega)
    have fin : ∀ j v, X1[j]? = some v → w0.cell? ((⟨b, o, none⟩ : Addr).add j) = some v := fun j x hx => by
      rw [HX1.out.1, List.getElem?_map, List.getElem?_take] at hx
      split at hx
      · obtain ⟨y, hy, rfl⟩ := Option.map_eq_some_iff.1 hx
        rw [Addr.add_lit]
        have hj : j < zs.length := (List.getElem?_eq_some_iff.1 hy).1
        have := (HB0.out.cell (p := ⟨b, o + j, none⟩) hb).trans (hcell j hj)
        rw [this, List.getD_eq_getElem?_getD, hy]; rfl
      · simp at hx
    first | exact ⟨rfl, _, rfl, fin⟩ | exact ⟨_, rfl, fin⟩ | exact fin | exact fun j v hx => (by have := fin j v hx; rwa [Addr.add_lit] at this)
  case hfit1 => rw [HX1.out.2, HZ0.out.2]; have := HM.out; omega
  case hone1 => rw [HX1.out.1]; exact ints_oneCell .i64 _
  intro w4 hg4 ho4
  have HB4 : Hid (Below w.heap.size w w4) := Lib.hid (HB0.out.trans (ho4.out.1.below (fun j h => by rw [h]; exact Nat.le_refl _) HB0.out.size))
  have HI4 : Hid (∃ Z, PwI zs n m Z ∧ w4.heap[w.heap.size]? = some (.cells (Z.map (Value.int .i64)).toArray 2 (0, 0))) := Lib.hid ⟨_, by rw [HM.out, HT.out]; exact PwI.first HF.out, by
    have h := hg4.out
    rw [HZ0.out.1, HX1.out.1, splice_map, HM.out, HT.out] at h
    exact h⟩
  have hXl : X1.length = m := HX1.out.2
  have HMT : Hid (m ≤ T) := Lib.hid (by have := HM.out; omega)
  clear hg4 ho4
  go_wp2
  rw [hXl]
  go_loopw [8] (fun s wr => ∃ (k : Nat) (Z : List Int), s = .int .i64 k ∧ k ≤ T ∧ PwI zs n k Z ∧ wr.heap[w.heap.size]? = some (.cells (Z.map (Value.int .i64)).toArray 2 (0, 0)) ∧ Below w.heap.size w wr) (fun s _ => T - (intOf s).toNat)
  case atStart =>
    obtain ⟨Z, h1, h2⟩ := HI4.out
    exact ⟨m, Z, by first | rfl | simp [goInt], HMT.out, h1, h2, HB4.out⟩
  case round =>
    clear HI4 HB4 HG0 HB0 HX1 HM HZ0 HMT
    obtain ⟨k, Z, rfl, hk, hpi, hrow, hbel⟩ := hrel
    have HB := Lib.hid hbel
    have HROW := Lib.hid hrow
    have HPI := Lib.hid hpi
    clear hbel hrow hpi
    by_cases hlt : k < T
    · have hk1 : (k : Int) < (T : Int) := by omega
      have hne : ¬ (T = k) := by omega
      have hne2 : ¬ (k = T) := by omega
      have hk2 : (k : Int) ≤ (T : Int) := by omega
      have hk0 : (0 : Int) ≤ (k : Int) := by omega
      have HST := Lib.hid (HPI.out.step (by rw [← HT.out]; exact hlt))
      rw [← HT.out] at HST
      obtain ⟨q, hq⟩ : ∃ q, q = min k (T - k) := ⟨_, rfl⟩
      have HQ := Lib.hid hq
      rw [← hq] at HST
      obtain ⟨X2, hX2⟩ : ∃ X, X = (Z.take q).map (Value.int .i64) := ⟨_, rfl⟩
      have HX2 : Hid (X2 = (Z.take q).map (Value.int .i64) ∧ X2.length = q) := Lib.hid ⟨hX2, by rw [hX2]; simp; have := HPI.out.len; rw [← HT.out] at this; omega⟩
      have hbe : Below wr.heap.size wr wr.drew := (Below.refl _ _).drew
      have HR5 : Hid (wr.drew.heap[w.heap.size]? = some (.cells (Z.map (Value.int .i64)).toArray 2 (0, 0))) := Lib.hid ((hbe.block _ (Array.getElem?_eq_some_iff.1 HROW.out).1).trans HROW.out)
      have HB5 : Hid (Below w.heap.size w wr.drew) := Lib.hid (HB.out.trans (hbe.mono HB.out.size))
      have wk : IntKind.i64.wrap ((k : Int) + (q : Int)) = (k : Int) + (q : Int) := by rw [IntKind.wrap_i64]; omega
      have C1 : Hid (X2.length = Nat.min k (T - k)) := Lib.hid (by rw [HX2.out.2]; exact HQ.out)
      have C2 : Hid (∀ j v, X2[j]? = some v → wr.drew.cell? ((⟨w.heap.size, 0, none⟩ : Addr).add j) = some v) := Lib.hid (fun j x hx => by
        rw [HX2.out.1, List.getElem?_map, List.getElem?_take] at hx
        split at hx
        · obtain ⟨y, hy, rfl⟩ := Option.map_eq_some_iff.1 hx
          rw [Addr.add_lit, Nat.zero_add]
          exact Cels.cell (cs := Z.map (Value.int .i64)) HR5.out j (by rw [List.getElem?_map, hy]; rfl)
        · simp at hx)
      have C3 : Hid (k + X2.length ≤ (Z.map (Value.int .i64)).length) := Lib.hid (by rw [HX2.out.2, List.length_map, HPI.out.len, ← HT.out]; have := HQ.out; omega)
      have C4 : Hid (∀ v ∈ X2, v.oneCell' = true) := Lib.hid (by rw [HX2.out.1]; exact ints_oneCell .i64 _)
      have hXl2 : X2.length = q := HX2.out.2
      have HXL := Lib.hid hXl2
      clear hbe hq hX2
      go_wp2_with fail
      go_region_held3 (fun _ => True) (trivial)
        (first | (refine step_copy_splice (by rfl) (.tmp 41) (.tmp 44) 24 24 (by rfl) 2 Try.underlying24 sizeQ (some ⟨w.heap.size, k, none⟩) (some ⟨w.heap.size, 0, none⟩) (T - k) (T - k) k T (by rfl) (by rfl) w.heap.size k (Z.map (Value.int .i64)) 2 HR5.out X2 C1.out (fun _ => ⟨rfl, _, rfl, fun j v h => C2.out j v h⟩) C3.out C4.out w.heap.size w HB5.out (Nat.le_refl _) ?_; intro w5 hg5 hb5; rw [HXL.out]))
      all_goals trace_state
      have HB6 : Hid (Below w.heap.size w w5) := Lib.hid hb5
      have HR6 : Hid (w5.heap[w.heap.size]? = some (.cells ((splice Z k (Z.take q)).map (Value.int .i64)).toArray 2 (0, 0))) := Lib.hid (by
        have h := hg5.out
        rw [HX2.out.1, splice_map] at h
        exact h)
      clear hg5 hb5
      go_wp2
      go_roundw
      case rel => exact ⟨k + q, _, by first | go_num | (simp [goInt]), by have := HST.out.1.le; rw [← HT.out] at this; exact this, HST.out.1, HR6.out, HB6.out⟩
      case measure => have := HST.out.2; have := HQ.out; simp [intOf]; omega
    · obtain rfl : k = T := by omega
      have hnlt : ¬ (k : Int) < (k : Int) := by omega
      have HE : Hid (Z = pwL zs n) := Lib.hid (by have h := HPI.out; rw [HT.out] at h; exact h.done)
      clear hlt
      go_wp2
      go_ret
      exact ⟨_, rfl, ow_full (by have := HROW.out; rw [HE.out] at this; exact this) (Nat.le_refl _) (by rw [pwL_len]; exact HT.out) (by rw [pwL_len, ← HT.out]; omega) (pwL_fit HF.out n), HB.out⟩
end Go.Proofs.Ytgfidlppocheoaa.Ints
