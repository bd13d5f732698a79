/- Differences of limbs, of the model and of the program. -/
import Derived.Test.YtcpipakpkmfhlaaFit
import Derived.Test.YtcpipakpkmfhlaaCan
import Derived.Test.YtcpipakpkmfhlaaOwn
import Derived.Test.YtcpipakpkmfhlaaMul
namespace Go.Proofs.Ytcpipakpkmfhlaa.Ints
open Go.RowKit
set_option linter.unusedVariables false

structure SubInv (ps qs : List Int) (k : Nat) (c : Int) (xs : List Int) : Prop where
  len : xs.length = k
  dig : Dig 1000000 xs
  c0 : 0 ≤ c
  c1 : c ≤ 1
  sum : val xs + Pw k * (-c) = val (ps.take k) - val (qs.take k)
theorem SubInv.start (ps qs : List Int) : SubInv ps qs 0 0 [] := ⟨rfl, fun i hi => by simp at hi, by omega, by omega, by simp [val]⟩
theorem SubInv.step {ps qs : List Int} {k : Nat} {c : Int} {xs : List Int} (h : SubInv ps qs k c xs) (ha : Dig 1000000 ps) (hb : Dig 1000000 qs)
    (s : Int) (hs : s = ps.getD k 0 - c - qs.getD k 0) : SubInv ps qs (k + 1) (-(s / 1000000)) (xs ++ [s % 1000000]) ∧ -1000000 ≤ s ∧ s ≤ 999999 := by
  have a := dig_all ha k
  have b := dig_all hb k
  have c0 := h.c0
  have c1 := h.c1
  refine ⟨⟨by simp [h.len], h.dig.snoc (by omega) (by omega), by omega, by omega, ?_⟩, by omega, by omega⟩
  rw [val_snoc, h.len, Pw, Int.neg_neg, carry_step (val xs) (val xs) (Pw k) s rfl, hs, val_take_succ ps k, val_take_succ qs k, Int.mul_sub, Int.mul_sub]
  have := h.sum
  rw [Int.mul_neg] at this
  omega
theorem sub_end {xs : List Int} {n : Nat} {c V : Int} (hl : xs.length = n) (hd : Dig 1000000 xs) (c0 : 0 ≤ c) (hs : val xs + Pw n * (-c) = V) (hV : 0 ≤ V) : canOf V = trim xs := by
  have h1 := val_lt hd
  rw [hl] at h1
  have hP := Pw_pos n
  rcases Int.lt_or_eq_of_le c0 with h | h
  · have h2 : Pw n * 1 ≤ Pw n * c := Int.mul_le_mul_of_nonneg_left (by omega) (Int.le_of_lt hP)
    rw [Int.mul_neg] at hs
    omega
  · rw [← h] at hs
    exact canOf_eq (trim_can hd) (by rw [trim_val]; simpa using hs)
theorem SubInv.done {ps qs : List Int} {c : Int} {xs : List Int} (h : SubInv ps qs ps.length c xs) (hl : qs.length ≤ ps.length) (hle : val qs ≤ val ps) : canOf (val ps - val qs) = trim xs := by
  have hs := h.sum
  rw [List.take_of_length_le (Nat.le_refl _), List.take_of_length_le hl] at hs
  exact sub_end h.len h.dig h.c0 hs (by omega)
theorem len_le {ps qs : List Int} (hp : Can ps) (hq : Can qs) (h : val qs ≤ val ps) : qs.length ≤ ps.length := can_len hq (by have := val_lt hp.1; omega)

theorem sub_val {ps qs : List Int} {c : Int} {Y : List Int} (h : TI ps qs (-1) 0 ps.length ps.length c Y) (hp : Can ps) (hq : Can qs) (hle : val qs ≤ val ps) :
    canOf (val ps - val qs) = trim Y ∧ Y.length = ps.length ∧ Dig 1000000 Y := by
  have hl := h.len
  have hd := ti_dig h hl
  have hs := h.sum
  rw [sg_all Y ps.length (by omega), sg_all ps ps.length (Nat.le_refl _), sg_all qs ps.length (len_le hp hq hle)] at hs
  have a1 := val_nonneg hp.1
  have a2 := val_nonneg hq.1
  have a3 := val_nonneg hd
  have b1 := val_lt hp.1
  have b3 := val_lt hd
  rw [hl] at b3
  have hc : c = 0 := no_carry hs a3 b3 (by omega) (by omega)
  subst hc
  exact ⟨canOf_eq (trim_can hd) (by rw [trim_val]; omega), hl, hd⟩
theorem addTimes_nil (v : Value) (t : Int) (w : World) (hv : ∃ a n c, v = .slice a n c) : Calls Try.prog 61 #[.slice none 0 0, v, .int .i64 t] w fun e w' => ∃ c : Int, e = .returned (.int .i64 c) ∧ w = w' := by
  obtain ⟨a, n, c, rfl⟩ := hv
  go_enter Try.func61, Try.ntmps61
  go_wp2
  refine wp_loop_rounds 1 ?_
  rw [rounds_succ]
  go_wp2
  go_ret
  exact ⟨_, rfl, rfl⟩
set_option maxHeartbeats 2000000 in
theorem implSub (u v : Value) (ps qs : List Int) (w : World) (hu : Rd w u ps) (hv : Rd w v qs) (hp : Can ps) (hq : Can qs) (hla : ps.length ≤ 1000) (hle : val qs ≤ val ps) :
    Calls Try.prog 43 #[u, v] w fun e w' => ∃ r, e = .returned r ∧ Ow w' w.heap.size w'.heap.size r (canOf (val ps - val qs)) ∧ Below w.heap.size w w' := by
  have HU := Lib.hid hu
  have HV := Lib.hid hv
  have hvb : ∀ a l c, v = .slice (some a) l c → qs ≠ [] → a.block < w.heap.size := by
    intro a l c e hne
    obtain ⟨_, _, a', c', e', _, hr'⟩ := hv
    obtain ⟨b, o, ha, hb, _⟩ := hr' hne
    rw [e', ha] at e
    simp at e
    rw [← e.1]; exact hb
  have HVB := Lib.hid hvb
  have HLL := Lib.hid (len_le hp hq hle)
  have HLE := Lib.hid hle
  have HP := Lib.hid hp
  have HQ := Lib.hid hq
  obtain ⟨_, _, a, c, rfl, _, _⟩ := hu
  obtain ⟨_, _, a', c', rfl, _, _⟩ := hv
  clear hvb hp hq hle
  go_enter Try.func43, Try.ntmps43
  go_wp2_with fail
  refine (libClone _ ps _ HU.out).mono ?_
  rintro e w1 ⟨r, rfl, ho, hb⟩
  have HB1 := Lib.hid hb
  rcases ho.form with ⟨rfl, h0⟩ | ⟨g, cp, rfl, hg1, hg2, hn, hm, _⟩
  · have hq0 : val ps - val qs = 0 := by
      have h1 := HLE.out
      have h2 := val_nonneg HQ.out.1
      rw [h0, val] at h1 ⊢
      omega
    have HE : Hid (canOf (val ps - val qs) = []) := Lib.hid (by rw [hq0]; exact canOf_eq can_nil (by simp [val]))
    have HO : Hid (Ow w1 w.heap.size w1.heap.size (.slice none 0 0) []) := Lib.hid (by rw [h0] at ho; exact ho)
    clear ho hb h0 hq0
    go_wp2_with fail
    refine (addTimes_nil _ _ _ ⟨_, _, _, rfl⟩).mono ?_
    rintro e w2 ⟨cr, rfl, rfl⟩
    go_wp2_with fail
    refine (implTrim _ [] _ _ _ HO.out).mono ?_
    rintro e w3 ⟨r3, rfl, ho, rfl⟩
    have HO3 := Lib.hid ho
    clear ho
    go_wp2
    go_ret
    exact ⟨_, rfl, by rw [HE.out]; exact HO3.out, HB1.out⟩
  · have HK := Lib.hid ho.blk.1
    have HD : Hid (∀ j, j < ps.length → 0 ≤ ps.getD (0 + j) 0 ∧ ps.getD (0 + j) 0 < 1000000) := Lib.hid (fun j hj => by rw [Nat.zero_add]; exact HP.out.1 j hj)
    have HNE : Hid (qs ≠ [] → ∀ x l d, Value.slice a' qs.length c' = .slice (some x) l d → x.block ≠ g) := Lib.hid (fun hq0 x l d e => by have := HVB.out x l d e hq0; omega)
    have HV1 := Lib.hid (HV.out.below HB1.out (Nat.le_refl _))
    clear ho hb
    go_wp2_with fail
    refine (addTimes_any g cp 0 ps.length cp _ ps qs (-1) _ HK.out HV1.out HNE.out (by omega) (by omega) HD.out HQ.out.1 HLL.out (by omega) (by omega)).mono ?_
    rintro e w2 ⟨cr, Y, rfl, hti, hblk, hgr⟩
    have HS := Lib.hid (sub_val hti HP.out HQ.out HLE.out)
    have HB2 := Lib.hid (HB1.out.grown hgr HB1.out.size (fun k e => by cases e; exact hg1))
    have HY : Hid (Ow w2 w.heap.size w2.heap.size (.slice (some ⟨g, 0, none⟩) ps.length cp) Y) := Lib.hid (by
      have h1 := hblk.ow hg1 hm (by rw [HS.out.2.1]; omega) HS.out.2.2.fit
      rwa [HS.out.2.1] at h1)
    clear hti hblk hgr
    go_wp2_with fail
    refine (implTrim _ Y w.heap.size w2.heap.size _ HY.out).mono ?_
    rintro e w3 ⟨u, rfl, ho, rfl⟩
    have HO := Lib.hid ho
    clear ho
    go_wp2
    go_ret
    exact ⟨_, rfl, by rw [HS.out.1]; exact HO.out, HB2.out⟩
end Go.Proofs.Ytcpipakpkmfhlaa.Ints
