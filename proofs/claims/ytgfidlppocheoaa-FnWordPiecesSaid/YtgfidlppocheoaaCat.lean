/- slices.Grow at nil and slices.Concat. -/
import Derived.Test.YtgfidlppocheoaaWords
import Derived.Lib.AppendZeros
namespace Go.Proofs.Ytgfidlppocheoaa.Ints
open Go.RowKit
set_option linter.unusedVariables false

theorem flat_zero (zss : List (List Int)) : (zss.take 0).flatten = [] := by simp
theorem flat_succ (zss : List (List Int)) (k : Nat) (h : k < zss.length) : (zss.take (k + 1)).flatten = (zss.take k).flatten ++ zss.getD k [] := by
  rw [List.take_succ_eq_append_getElem h, List.flatten_append]
  simp [List.getD_eq_getElem?_getD, List.getElem?_eq_getElem h]
theorem flat_le (zss : List (List Int)) (k : Nat) : ((zss.take k).flatten).length ≤ zss.flatten.length := by
  have := congrArg (fun l => (List.flatten l).length) (List.take_append_drop k zss)
  simp only [List.flatten_append, List.length_append] at this
  omega
set_option maxHeartbeats 1000000 in
theorem libGrow (n : Nat) (w : World) (hn : n ≤ 33554432) :
    Calls Try.prog 44 #[.slice none 0 0, .int .i64 n] w fun e w' => ∃ r, e = .returned r ∧ Ow w' w.heap.size w'.heap.size r [] ∧ Below w.heap.size w w' := by
  obtain ⟨i0, hi, hz0, hz1, hz2⟩ := info_parts infoE
  rcases Nat.eq_zero_or_pos n with h0 | h0
  · subst h0
    go_enter Try.func44, Try.ntmps44
    go_wp2
    go_ret
    exact ⟨_, rfl, Ow.empty w, Below.refl _ _⟩
  · have i1 : ¬ (n : Int) < 0 := by omega
    have i2 : (0 : Int) < (n : Int) := by omega
    have hr := Lib.run_append_nil_zeros (P := Try.prog) w 24 3 24 2 i0 (.int .i64 0) .i64 .i64 Try.underlying24 Try.underlying3 hi hz0 n h0 (by rw [hz1]; omega) (by omega) (by rw [hz2]; omega)
    have HR := Lib.hid hr
    clear hr
    go_enter Try.func44, Try.ntmps44
    go_wp2_with (at_builtin; refine Lib.wpList_append_run _ rfl _ _ _ _ rfl _ _ rfl rfl _ _ HR.out ?_)
    have hge := grownCap_ge w n 0 2
    have hle := grownCap_le_maxLen w n 0 2 (by unfold maxLen; omega)
    go_ret
    refine ⟨_, rfl, ⟨by simp, Fit.nil, ?_, fun k hk => by cases hk; simp, Nat.le_refl _, by simp⟩, ((Below.refl _ _).alloc (Nat.le_refl _) _).drew⟩
    exact World.ownsRow.drew (World.ownsRow_made w _ (grownCap w n 0 2) (Nat.le_refl _) hle (by simp [Builtin.zeroCells]; omega))
set_option maxHeartbeats 2000000 in
theorem libConcat (v : Value) (zss : List (List Int)) (w : World) (h : RdL w v zss) (hn : zss.flatten.length ≤ 16777216) :
    Calls Try.prog 39 #[v] w fun e w' => ∃ r, e = .returned r ∧ Ow w' w.heap.size w'.heap.size r zss.flatten ∧ Below w.heap.size w w' := by
  have HH := Lib.hid h
  have hl := h.len
  obtain ⟨_, a, c, rfl, hcap, hr⟩ := h
  clear hr
  have get : ∀ (wr : World), Below w.heap.size w wr → ∀ k, k < zss.length → ∃ b o ax cx zs, a = some ⟨b, o, none⟩ ∧ zs = zss.getD k [] ∧ wr.cell? ⟨b, o + k, none⟩ = some (.slice ax zs.length cx) ∧ Rd wr (.slice ax zs.length cx) zs := by
    intro wr hb k hlt
    obtain ⟨_, a', c', he, _, hr⟩ := HH.out.below hb (Nat.le_refl _)
    obtain ⟨b, o, ha, hb, hcell⟩ := hr (by intro h0; rw [h0] at hlt; simp at hlt)
    simp only [Value.slice.injEq] at he
    obtain ⟨rfl, _, rfl⟩ := he
    obtain ⟨x, hc, hx⟩ := hcell k hlt
    obtain ⟨_, _, ax, cx, rfl, _, _⟩ := id hx
    exact ⟨b, o, ax, cx, _, ha, rfl, hc, hx⟩
  have GET := Lib.hid get
  clear get
  go_enter Try.func39, Try.ntmps39
  go_wp2
  go_loop [3, 11] (fun t s => ∃ k : Nat, k ≤ zss.length ∧ s = .int .i64 k ∧ t = .int .i64 (((zss.take k).flatten).length : Nat)) (fun _ s => zss.length - (intOf s).toNat)
  case atStart => exact ⟨0, Nat.zero_le _, rfl, by simp⟩
  case round =>
    obtain ⟨k, hk, rfl, rfl⟩ := hrel
    by_cases hlt : k < zss.length
    · obtain ⟨b, o, ax, cx, zs, rfl, hzs, hc, hx⟩ := GET.out w (Below.refl _ _) k hlt
      have HE : Hid ((((zss.take (k + 1)).flatten).length : Int) = (((zss.take k).flatten).length : Int) + (zs.length : Int)) := Lib.hid (by rw [flat_succ zss k hlt, List.length_append, ← hzs]; omega)
      have hle := flat_le zss (k + 1)
      have he := HE.out
      obtain ⟨m, hm⟩ : ∃ m : Nat, m = ((zss.take k).flatten).length := ⟨_, rfl⟩
      obtain ⟨m2, hm2⟩ : ∃ m : Nat, m = ((zss.take (k + 1)).flatten).length := ⟨_, rfl⟩
      rw [← hm, ← hm2] at he HE
      rw [← hm2] at hle
      rw [← hm]
      have HM := Lib.hid hm2
      have hzl := hx.len
      have i0 : (0 : Int) ≤ (k : Int) := by omega
      have i1 : (k : Int) < (zss.length : Int) := by omega
      have i2 : ¬ (m : Int) + (zs.length : Int) < 0 := by omega
      have i3 : (m : Int) + (zs.length : Int) ≤ 16777216 := by omega
      clear he hm hm2 hzs hx hle
      go_wp2
      go_round
      case rel => exact ⟨k + 1, by omega, by go_num, by rw [← HM.out, HE.out]⟩
      case measure => simp [intOf]; omega
    · obtain rfl : k = zss.length := by omega
      rw [List.take_length]
      obtain ⟨m, hm⟩ : ∃ m : Nat, m = zss.flatten.length := ⟨_, rfl⟩
      rw [← hm]
      rw [← hm] at hn
      have HM := Lib.hid hm
      clear hm
      go_wp2_with (go_at_call 44; refine (libGrow m _ (by omega)).mono ?_; rintro e w1 ⟨r, rfl, ho, hb⟩; have HO := Lib.hid ho; have HB := Lib.hid hb; clear ho hb)
      go_loopw [6, 27] (fun t s wr => ∃ (k : Nat) (ov : Value), t = ov ∧ k ≤ zss.length ∧ s = .int .i64 k ∧ Ow wr w.heap.size wr.heap.size ov (zss.take k).flatten ∧ Below w.heap.size w wr) (fun _ s _ => zss.length - (intOf s).toNat)
      case atStart => exact ⟨0, _, rfl, Nat.zero_le _, rfl, HO.out, HB.out⟩
      case round =>
        obtain ⟨k, ov, hov, hk, rfl, hown, hbel⟩ := hrel
        obtain rfl := hov.symm
        have HOV := Lib.hid hown
        have HW := Lib.hid hbel
        have hsz := hbel.size
        by_cases hlt : k < zss.length
        · obtain ⟨b, o, ax, cx, zs, rfl, hzs, hc, hx⟩ := GET.out wr hbel k hlt
          have hle := flat_le zss (k + 1)
          have HE : Hid ((zss.take (k + 1)).flatten = (zss.take k).flatten ++ zs) := Lib.hid (by rw [flat_succ zss k hlt, ← hzs])
          rw [HE.out, List.length_append, ← HM.out] at hle
          obtain ⟨xs, hxs⟩ : ∃ xs, xs = (zss.take k).flatten := ⟨_, rfl⟩
          rw [← hxs] at HOV HE hle hown
          have hrow := hown.row
          have HX := Lib.hid hx
          have i0 : (0 : Int) ≤ (k : Int) := by omega
          have i1 : (k : Int) < (zss.length : Int) := by omega
          clear hzs hx hxs hown hbel
          go_wp2_with (at_builtin; refine wpList_append_rd rfl _ _ rfl w.heap.size _ _ xs zs rfl hrow rfl HX.out ?c1 ?c2 ?_)
          case c1 => omega
          intro v' w3 hown3 hgrow
          have HB3 := Lib.hid (HW.out.grown hgrow hsz (fun q hq => (HOV.out.row.lt q hq).1))
          have HO3 : Hid (Ow w3 w.heap.size w3.heap.size v' (xs ++ zs)) := Lib.hid ⟨by simp; omega, fun z hz => by
            rcases List.mem_append.1 hz with hz | hz
            · exact HOV.out.fit z hz
            · exact HX.out.fit z hz, by simpa using hown3, fun k hk => (hown3.lt k hk).2, Nat.le_refl _, HB3.out.size⟩
          clear hown3 hgrow hrow
          go_wp2
          go_roundw
          case rel => exact ⟨k + 1, v', rfl, by omega, by go_num, by rw [HE.out]; exact HO3.out, HB3.out⟩
          case measure => simp [intOf]; omega
        · obtain rfl : k = zss.length := by omega
          rw [List.take_length] at HOV
          clear hown hbel
          go_wp2
          go_ret
          exact ⟨_, rfl, HOV.out, HW.out⟩
end Go.Proofs.Ytgfidlppocheoaa.Ints
