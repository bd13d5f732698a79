/- Programs that move registers: the model's. -/
import Derived.Test.YtfcakadmiflcdaaMov
import Derived.Deep.RegionLaw
namespace Go.Proofs.Ytfcakadmiflcdaa.Ints
open Go.RowKit
set_option linter.unusedVariables false
set_option linter.unusedSimpArgs false
theorem specClearL (r : Int) (w : World) (hr : 0 ≤ r ∧ r ≤ 23) :
    Calls Try.prog 93 #[.int .i64 r] w fun e w' => ∃ u, e = .returned u ∧ OwIns w' w.heap.size w'.heap.size u (moveL r []) ∧ Below w.heap.size w w' := by
  have HF : Hid (FitIns (moveL r [])) := Lib.hid (fun x hx => by
    have e : moveL r [] = [⟨1, r, 0, 1⟩] := rfl
    rw [e] at hx
    simp only [List.mem_cons, List.not_mem_nil, or_false] at hx
    subst hx
    refine ⟨?_, ?_, ?_, ?_⟩ <;> unfold fit64 <;> dsimp only <;> omega)
  have HO : Hid (OwIns (w.alloc (.cells #[.int .i64 1, .int .i64 r, .int .i64 0, .int .i64 1] 65)) w.heap.size (w.alloc (.cells #[.int .i64 1, .int .i64 r, .int .i64 0, .int .i64 1] 65)).heap.size (.slice (some ⟨w.heap.size, 0, none⟩) 1 1) (moveL r [])) :=
    Lib.hid (OwIns.block (rs := moveL r []) (Cels.new w 65 [.int .i64 1, .int .i64 r, .int .i64 0, .int .i64 1]) (Nat.le_refl _) (by simp [moveL]) HF.out)
  go_enter Try.func93, Try.ntmps93
  go_wp2
  go_ret
  exact ⟨_, rfl, HO.out, (Below.refl _ _).alloc (Nat.le_refl _) _⟩
set_option maxHeartbeats 4000000 in
set_option maxRecDepth 100000 in
theorem specMoveL (r : Int) (v : Value) (ts : List Int) (w : World) (h : Rd w v ts) (hr : 0 ≤ r ∧ r ≤ 23) (ht : Dig 24 ts) (hl : ts.length ≤ 24) :
    Calls Try.prog 95 #[.int .i64 r, v] w fun e w' => ∃ u, e = .returned u ∧ OwIns w' w.heap.size w'.heap.size u (moveL r ts) ∧ Below w.heap.size w w' := by
  have H := Lib.hid h
  have HT := Lib.hid ht
  have HR1 := Lib.hid hr
  obtain ⟨_, _, a, c, rfl, _, hr'⟩ := h
  have HR := Lib.hid hr'
  clear hr' ht
  by_cases h0 : ts = []
  · subst h0
    clear hr
    go_enter Try.func95, Try.ntmps95
    go_wp2_with fail
    refine (specClearL r _ HR1.out).mono ?_
    rintro e w1 ⟨u, rfl, ho, hb⟩
    have HO := Lib.hid ho
    have HB := Lib.hid hb
    clear ho hb
    go_wp2
    go_ret
    exact ⟨_, rfl, HO.out, HB.out⟩
  have hz : ((ts.length : Int) == 0) = false := by
    simp only [beq_eq_false_iff_ne]
    intro h
    exact h0 (List.eq_nil_of_length_eq_zero (by omega))
  have hn0 : ts.length ≠ 0 := fun h => h0 (List.eq_nil_of_length_eq_zero h)
  have e1 : IntKind.i64.wrap ((ts.length : Int) + 1) = (ts.length : Int) + 1 := by rw [IntKind.wrap_i64]; omega
  have HE0 : Hid ([⟨1, r, 1, (ts.length : Int) + 1⟩] = mvL r ts 0) := Lib.hid (by simp [mvL, hn0])
  have HF0 : Hid (FitIns (mvL r ts 0)) := Lib.hid (fun x hx => by
    rw [← HE0.out] at hx
    simp only [List.mem_cons, List.not_mem_nil, or_false] at hx
    subst hx
    refine ⟨?_, ?_, ?_, ?_⟩ <;> unfold fit64 <;> dsimp only <;> omega)
  have HO0 : Hid (OwIns (w.alloc (.cells #[.int .i64 1, .int .i64 r, .int .i64 1, .int .i64 ((ts.length : Int) + 1)] 65)) w.heap.size (w.alloc (.cells #[.int .i64 1, .int .i64 r, .int .i64 1, .int .i64 ((ts.length : Int) + 1)] 65)).heap.size (.slice (some ⟨w.heap.size, 0, none⟩) 1 1) (mvL r ts 0)) :=
    Lib.hid (OwIns.block (rs := mvL r ts 0) (by rw [← HE0.out]; exact Cels.new w 65 [.int .i64 1, .int .i64 r, .int .i64 1, .int .i64 ((ts.length : Int) + 1)]) (Nat.le_refl _) (by simp) HF0.out)
  have HN0 := Lib.hid hn0
  clear h0 hn0
  go_enter Try.func95, Try.ntmps95
  go_wp2
  go_loopw [6, 7] (fun q s wr => ∃ k : Nat, k ≤ ts.length ∧ s = .int .i64 k ∧ OwIns wr w.heap.size wr.heap.size q (mvL r ts k) ∧ Below w.heap.size w wr) (fun _ s _ => ts.length - (intOf s).toNat)
  case atStart => exact ⟨0, Nat.zero_le _, rfl, HO0.out, (Below.refl _ _).alloc (Nat.le_refl _) _⟩
  case round =>
    obtain ⟨k, hk, rfl, hor, hbr⟩ := hrel
    obtain ⟨ga, gc, hv'⟩ := hor.shape
    rw [mvL_length] at hv'
    subst hv'
    by_cases hlt : k < ts.length
    · obtain ⟨b, o, rfl, hb, hcell⟩ := HR.out (by intro h0; rw [h0] at hlt; simp at hlt)
      have hc := (hbr.cell (p := ⟨b, o + k, none⟩) hb).trans (hcell k hlt)
      obtain ⟨y, hy⟩ : ∃ y, y = ts.getD k 0 := ⟨_, rfl⟩
      rw [← hy] at hc
      have hyb := HT.out k hlt
      rw [← hy] at hyb
      obtain ⟨Q, hQ⟩ : ∃ Q, Q = nxt ts.length k := ⟨_, rfl⟩
      have e2 : ((k : Int) + 2) % ((ts.length : Int) + 1) = Q := by rw [hQ, ← nxt_mod hlt]
      have e3 : ((k : Int) + 2).tmod ((ts.length : Int) + 1) = Q := by rw [Int.tmod_eq_emod_of_nonneg (by omega)]; exact e2
      have e4 : IntKind.i64.wrap ((k : Int) + 2) = (k : Int) + 2 := by rw [IntKind.wrap_i64]; omega
      have e5 : ¬ ((ts.length : Int) + 1 = 0) := by omega
      have hQb := nxt_bd hlt
      rw [← hQ] at hQb
      have e6 : IntKind.i64.wrap Q = Q := by rw [IntKind.wrap_i64]; omega
      have i0 : (0 : Int) ≤ (k : Int) := by omega
      have i1 : (k : Int) < (ts.length : Int) := by omega
      have HS : Hid (mvL r ts k ++ [⟨0, y, Q, 0⟩] = mvL r ts (k + 1)) := Lib.hid (by rw [mvL_succ, hy, hQ]; rfl)
      have HFI : Hid (Ins.fit ⟨0, y, Q, 0⟩) := Lib.hid (by refine ⟨?_, ?_, ?_, ?_⟩ <;> unfold fit64 <;> dsimp only <;> omega)
      have HOR := Lib.hid hor
      have HBR := Lib.hid hbr
      clear hcell hy hQ hor hbr hyb hQb
      go_wp2_with fail
      have HD : Hid (Below wr.heap.size wr wr.drew) := Lib.hid (Below.refl _ _).drew
      go_region_law ((refine step_append_Ins (by rfl) _ _ (by rfl) w.heap.size _ _ (mvL r ts k) [⟨0, y, Q, 0⟩] (by rfl) (HOR.out.below (HD.out.alloc HD.out.size _) (Nat.le_refl _)).row (by rfl) (rdIns_one (Cels.new _ _ _) HFI.out) (by simp; omega) (Nat.le_trans HOR.out.base (HD.out.alloc HD.out.size _).size) ?_; intro v' w4 hown4 hgrow4; have HX := Lib.hid (ow_joined (HOR.out.below (HD.out.alloc HD.out.size _) (Nat.le_refl _)).up (fun x hx => by simp at hx; subst hx; exact HFI.out) (by simp; omega) hown4 hgrow4); clear hown4 hgrow4))
      all_goals
        have HB4 := Lib.hid ((HBR.out.trans ((HD.out.alloc HD.out.size _).mono HBR.out.size)).trans HX.out.2)
        go_wp2
        go_roundw
        case rel => exact ⟨k + 1, by omega, by go_num, by rw [← HS.out]; exact HX.out.1, HB4.out⟩
        case measure => simp [intOf]; omega
    · obtain rfl : k = ts.length := by omega
      have HOR := Lib.hid hor
      have HBR := Lib.hid hbr
      clear hor hbr
      go_wp2
      go_ret
      exact ⟨_, rfl, HOR.out, HBR.out⟩
end Go.Proofs.Ytfcakadmiflcdaa.Ints
