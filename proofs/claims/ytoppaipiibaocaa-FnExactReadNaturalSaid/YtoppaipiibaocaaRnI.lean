/- Naturals read from texts, of the program. -/
import Derived.Test.YtoppaipiibaocaaRnV
import Derived.Lib.OthersKept
import Derived.WalkSmall
import Derived.OneCell
namespace Go.Proofs.Ytoppaipiibaocaa.Ints
open Go.RowKit
set_option linter.unusedVariables false
set_option linter.unusedSimpArgs false
theorem iterAt_grown (w : World) (k : Nat) (s : ByteArray) (p : Nat) : w.grownBy (w.iterAt k s p) (some k) :=
  ⟨rfl, rfl, rfl, by rw [Lib.iterAt_size]; exact Nat.le_refl _, fun i _ hi => Lib.iterAt_other w k i s p (fun h => hi (by rw [h]))⟩
theorem str_zero {s : ByteArray} (h : s.toList ≠ [48]) (hb : bt s 0 = 48) (h0 : 0 < s.size) : 1 < s.size := by
  rcases Nat.lt_or_ge 1 s.size with h1 | h1
  · exact h1
  · exact absurd (bt_zero (by omega) hb) h
theorem mkRow (s : ByteArray) : (madeCells #[Value.int .i64 0] (lbN s)).toList = (rnRow s 0).map (Value.int .i64) := by
  rw [rnRow_zero]
  apply List.ext_getElem
  · simp [madeCells]
  · intro i h1 h2
    simp [madeCells, Nat.mod_one]
set_option maxRecDepth 100000 in
set_option maxHeartbeats 8000000 in
theorem implRdNat (s : ByteArray) (w : World) (hs : s.size ≤ 1048576) :
    Calls Try.prog 22 #[.string s] w fun e w' => ∃ u, e = .returned (.tuple #[u, .bool (rnB s)]) ∧ Ow w' w.heap.size w'.heap.size u (rnV s) ∧ Below w.heap.size w w' := by
  obtain ⟨i0, hi, hz0, hz1, hz2⟩ := info_parts infoE
  by_cases hd : s.toList = [48]
  · have HF : Hid (rnB s = true ∧ rnV s = []) := Lib.hid (by
      have h := rn_zero hd
      have g := rn_good h.1
      exact ⟨g.1, by rw [g.2, h.2]⟩)
    have e1 : (s.toList == [48]) = true := by simp [hd]
    clear hd
    go_enter Try.func22, Try.ntmps22
    go_wp2
    go_ret2
    exact ⟨_, by rw [HF.out.1] <;> rfl, by rw [HF.out.2]; exact Ow.empty w, Below.refl _ _⟩
  have e1 : (s.toList == [48]) = false := by simpa using hd
  have HDs := Lib.hid hd
  clear hd
  by_cases z0 : s.size = 0
  · have HF := Lib.hid (rn_bad (s := s) (fun h => h.1 z0))
    have e0 : (s.toList == []) = true := by simp [size_nil z0]
    have e0' : s.toList = [] := size_nil z0
    go_enter Try.func22, Try.ntmps22
    go_wp2
    go_ret2
    exact ⟨_, by rw [HF.out.1] <;> rfl, by rw [HF.out.2]; exact Ow.empty w, Below.refl _ _⟩
  have e0 : s.toList ≠ [] := size_pos z0
  have e0' : (s.toList == []) = false := by simpa using e0
  have e0'' : s.toList.isEmpty = false := by simpa using e0
  have hpos : 0 < s.size := by omega
  by_cases z1 : s.size ≤ 240
  rotate_left
  · have HF := Lib.hid (rn_bad (s := s) (fun h => z1 h.2.1))
    have f1 : decide ((240 : Int) < (s.size : Int)) = true := decide_eq_true (by omega)
    have f2 : decide (240 < s.size) = true := decide_eq_true (by omega)
    clear z1
    go_enter Try.func22, Try.ntmps22
    go_wp2
    go_ret2
    exact ⟨_, by rw [HF.out.1] <;> rfl, by rw [HF.out.2]; exact Ow.empty w, Below.refl _ _⟩
  have f1 : decide ((240 : Int) < (s.size : Int)) = false := decide_eq_false (by omega)
  have f2 : decide (240 < s.size) = false := decide_eq_false (by omega)
  obtain ⟨b, hb⟩ : ∃ b, b = bt s 0 := ⟨_, rfl⟩
  have hid0 := idxS (k := 0) hpos hb
  have hbk : (s[0]'hpos).toNat = b := by rw [hb, bt_at hpos]
  have hix : (0 : Int) < (s.size : Int) := by omega
  have HBt := Lib.hid hb
  simp only [Int.natCast_zero] at hid0
  clear hb
  by_cases z3 : b = 48
  · have HF := Lib.hid (rn_bad (s := s) (fun h => h.2.2.1 (str_zero HDs.out (by rw [← HBt.out]; exact z3) hpos) (by rw [← HBt.out]; exact z3)))
    have q3 : ((b : Int) == 48) = true := by simp [z3]
    have q4 : (b == 48) = true := by simp [z3]
    clear z3
    go_enter Try.func22, Try.ntmps22
    go_wp2
    go_ret2
    exact ⟨_, by rw [HF.out.1] <;> rfl, by rw [HF.out.2]; exact Ow.empty w, Below.refl _ _⟩
  have HZ3 : Hid (bt s 0 ≠ 48) := Lib.hid (by rw [← HBt.out]; exact z3)
  have q3 : ((b : Int) == 48) = false := by rw [beq_eq_false_iff_ne]; omega
  have q4 : (b == 48) = false := by simp [z3]
  have q5 : ¬ (b : Int) = 48 := by omega
  obtain ⟨N, hN⟩ : ∃ N, N = lbN s := ⟨_, rfl⟩
  have HN := Lib.hid hN
  have hN1 : ((s.size : Int) + 6 - 1) / 6 = (N : Int) := by rw [hN]; unfold lbN; omega
  have hN2 : ((s.size : Int) + 5) / 6 = (N : Int) := by rw [hN]; unfold lbN; omega
  have hN40 : N ≤ 40 := by rw [hN]; unfold lbN; omega
  have HS := Lib.hid z1
  have HZ := Lib.hid z0
  clear hN z0
  go_enter Try.func22, Try.ntmps22
  go_wp2_with (at_make; refine wpList_make_full _ rfl _ _ 25 rfl w.heap.size 2 i0 (.int .i64 0) 1 Try.underlying25 hi hz0 hz1 _ _ _ _ N rfl rfl ?m1 ?m2 ?m3 ?m4 (Nat.le_refl _) ?_)
  case m1 => first | exact hN1 | exact hN2 | rfl | omega
  case m2 => first | exact hN1 | exact hN2 | rfl | omega
  case m3 => rw [hz2]; omega
  case m4 => unfold maxLen; omega
  intro w0 hown0 hgrow0
  have HO : Hid (w0.ownsRow w.heap.size 2 1 (.slice (some ⟨w.heap.size, 0, none⟩) N N) N ((rnRow s 0).map (Value.int .i64))) := Lib.hid (by rw [← mkRow, ← HN.out]; exact hown0)
  have HB0 := Lib.hid ((Below.refl w.heap.size w).grown hgrow0 (Nat.le_refl _) (fun k h => by cases h))
  have HS0 := Lib.hid (HO.out.lt _ rfl).2
  have HG0 := Lib.hid hgrow0.size
  clear hown0 hgrow0
  go_wp2
  go_loopw [5] (fun _ wr => ∃ p : Nat, p ≤ s.size ∧ wr.heap[w0.heap.size]? = some (.stringIter s p) ∧ (∀ j, j < p → Dgt (bt s j)) ∧ wr.ownsRow w.heap.size 2 1 (.slice (some ⟨w.heap.size, 0, none⟩) N N) N ((rnRow s p).map (Value.int .i64)) ∧ Below w.heap.size w wr) (fun _ wr => s.size - wr.iterPos w0.heap.size)
  case atStart => exact ⟨0, Nat.zero_le _, World.iter_heap w0 s 0, fun j hj => by omega, HO.out.alloc _, HB0.out.alloc HG0.out _⟩
  case round =>
    obtain ⟨p, hp, hit, hall, hown, hbel⟩ := hrel
    have hpos0 := iterPos_of hit
    have HA := Lib.hid hall
    have HS1 := HS0.out
    by_cases hlt : p < s.size
    · obtain ⟨c, hc⟩ : ∃ c, c = bt s p := ⟨_, rfl⟩
      have hcs : (s[p]'hlt).toNat = c := by rw [hc, bt_at hlt]
      by_cases hg : Dgt c
      · obtain ⟨g0, g1⟩ := hg
        have hnx : ∀ ty, (Instr.next (.pointer (some ⟨w0.heap.size, 0, none⟩)) true ty).run Try.prog wr = .ok (.tuple #[.bool true, .int .i64 (p : Int), .int .i32 (c : Int)]) (wr.iterAt w0.heap.size s (p + 1)) := fun ty => by
          have := Lib.run_next_ascii_at (P := Try.prog) wr w0.heap.size s p ty hit hlt (by rw [hcs]; omega)
          rw [hcs] at this; exact this
        have hit2 := Lib.iterAt_heap wr w0.heap.size s p (p + 1) hit
        have hbw2 := Lib.below_iterAt hbel (k := w0.heap.size) HG0.out s (p + 1)
        have hown2 := hown.kept (iterAt_grown wr w0.heap.size s (p + 1)) (.inr (by intro h; simp [Value.ownBlock] at h; omega))
        obtain ⟨W1, hW1⟩ : ∃ W1, W1 = wr.iterAt w0.heap.size s (p + 1) := ⟨_, rfl⟩
        rw [← hW1] at hnx hit2 hbw2 hown2
        have hBlt := lt_of_block hit2
        have HIT := Lib.hid hit2
        have HW := Lib.hid hbw2
        obtain ⟨x, hx⟩ : ∃ x, x = (c : Int) - 48 := ⟨_, rfl⟩
        have hx' : (c : Int) - 48 = x := hx.symm
        have x0 : 0 ≤ x := by omega
        have x1 : x ≤ 9 := by omega
        have e3 : IntKind.i32.wrap x = x := by simp [IntKind.wrap, IntKind.bits, IntKind.signed]; omega
        have e4 : IntKind.i64.wrap x = x := by rw [IntKind.wrap_i64]; omega
        have H2 : Hid (48 ≤ (c : Int) ∧ (c : Int) ≤ 57) := Lib.hid ⟨g0, g1⟩
        have HDN : Hid (∀ j, j < p + 1 → Dgt (bt s j)) := Lib.hid (fun j hj => by
          by_cases he : j = p
          · subst he; rw [← hc]; exact ⟨g0, g1⟩
          · exact HA.out j (by omega))
        obtain ⟨l, hl⟩ : ∃ l, l = (s.size - 1 - p) / 6 := ⟨_, rfl⟩
        have hlN : l < N := by rw [HN.out, hl]; unfold lbN; omega
        have el : ((s.size : Int) - 1 - (p : Int)) / 6 = (l : Int) := by rw [hl]; omega
        obtain ⟨v, hv⟩ : ∃ v, v = lbV s p l := ⟨_, rfl⟩
        have hvr := lbV_range (s := s) p l hp hall
        rw [← hv] at hvr
        obtain ⟨v0, v1⟩ := hvr
        have hrl : (rnRow s p).length = N := by rw [rnRow_length, HN.out]
        have hcell : W1.cell? ⟨w.heap.size, l, none⟩ = some (.int .i64 v) := by
          rw [hown2.cellAt l (by simp [hrl, hlN])]
          rw [List.getElem?_map, List.getElem?_eq_getElem (by omega), rnRow_get s p l (by rw [← HN.out]; exact hlN), ← hv]
          rfl
        have hfz := hown2.frozenAt l
        have HST : Hid ((rnRow s (p + 1)).map (Value.int .i64) = ((rnRow s p).map (Value.int .i64)).set l (.int .i64 (v * 10 + x))) := Lib.hid (by
          rw [rnRow_step hlt, ← hl, ← hv, ← hc, hx', List.map_set])
        have hst := hown2.stored l (.int .i64 (v * 10 + x))
        rw [← HST.out] at hst
        have HS2 := Lib.hid hst
        have hBB := HW.out.size
        have i0' : (0 : Int) ≤ (l : Int) := by omega
        have i1 : (l : Int) < (N : Int) := by omega
        have i2 : (p : Int) < (s.size : Int) := by omega
        clear hc hx hcs hW1 hit hown hbel hall hit2 hbw2 hst hv hl hown2 hrl
        go_wp2_with fail
        refine (implDgt _ true _ ⟨fun _ => H2.out, fun _ => rfl⟩).mono ?_
        rintro e w' ⟨rfl, rfl⟩
        have HI3 : Hid ((W1.setCell ⟨w.heap.size, l, none⟩ (.int .i64 (v * 10 + x))).heap[w0.heap.size]? = some (.stringIter s (p + 1))) := Lib.hid (by
          rw [HS2.out.2.block w0.heap.size hBlt (fun h => by injection h with h; omega)]; exact HIT.out)
        have hpos3 := iterPos_of HI3.out
        go_wp2
        go_roundw
        case rel => exact ⟨p + 1, by omega, HI3.out, HDN.out, HS2.out.1, HW.out.grown HS2.out.2 hBB (fun q hq => by cases hq; exact Nat.le_refl _)⟩
        case measure => rw [hpos0, hpos3]; omega
      · have HF := Lib.hid (rn_bad (s := s) (fun h => hg (by rw [hc]; exact h.2.2.2 p hlt)))
        obtain ⟨r, hr⟩ : ∃ r, r = (Utf8.decode s p).1 := ⟨_, rfl⟩
        obtain ⟨q, hq⟩ : ∃ q, q = p + (Utf8.decode s p).2 := ⟨_, rfl⟩
        have hnx : ∀ ty, (Instr.next (.pointer (some ⟨w0.heap.size, 0, none⟩)) true ty).run Try.prog wr = .ok (.tuple #[.bool true, .int .i64 (p : Int), .int .i32 (r : Int)]) (wr.iterAt w0.heap.size s q) := fun ty => by
          rw [hr, hq]; exact Lib.run_next_any_at (P := Try.prog) wr w0.heap.size s p ty hit hlt
        have hrd : ¬ (48 ≤ (r : Int) ∧ (r : Int) ≤ 57) := by
          by_cases ha : c < 128
          · have h1 := decode_ascii s p hlt (by rw [hcs]; exact ha)
            have h2 : r = c := by rw [hr, h1, hcs]
            rw [h2]; exact hg
          · have h1 := (decode_high s p hlt (by rw [hcs]; omega)).1
            rw [← hr] at h1
            omega
        have H2 : Hid (false = true ↔ (48 ≤ (r : Int) ∧ (r : Int) ≤ 57)) := Lib.hid ⟨fun h => (by cases h), fun h => absurd h hrd⟩
        have HW : Hid (Below w.heap.size w (wr.iterAt w0.heap.size s q)) := Lib.hid (Lib.below_iterAt hbel (k := w0.heap.size) HG0.out s q)
        clear hc hg hcs hr hq hrd hit hown hbel hall
        go_wp2_with fail
        refine (implDgt _ false _ H2.out).mono ?_
        rintro e w' ⟨rfl, rfl⟩
        go_wp2
        go_ret2
        exact ⟨_, by rw [HF.out.1] <;> rfl, by rw [HF.out.2]; exact Ow.emptyUp HW.out.size, HW.out⟩
    · obtain rfl : p = s.size := by omega
      have HAll : Hid (AllD s) := Lib.hid (fun j hj => HA.out j hj)
      have HOk : Hid (NOk s) := Lib.hid ⟨HZ.out, HS.out, fun _ => HZ3.out, HAll.out⟩
      have HF := Lib.hid (rn_good HOk.out)
      have HCn : Hid (canOf (val (rnL s)) = rnL s) := Lib.hid (canOf_eq (rnL_can HOk.out HZ3.out) rfl)
      have hnx : ∀ ty, (Instr.next (.pointer (some ⟨w0.heap.size, 0, none⟩)) true ty).run Try.prog wr = .ok (.tuple #[.bool false]) wr := fun ty => Lib.run_next_end_at (P := Try.prog) wr w0.heap.size s s.size ty hit hlt
      have hlen : (rnL s).length = N := by rw [rnL, rnRow_length, HN.out]
      have HOw : Hid (Ow wr w.heap.size wr.heap.size (.slice (some ⟨w.heap.size, 0, none⟩) N N) (rnL s)) := Lib.hid (ow_of_row (by omega) (rnRow_fit _ (Nat.le_refl _) HAll.out) (by rw [hlen]; exact hown) hbel.size)
      have HW := Lib.hid hbel
      clear hlt hit hown hbel hall hlen
      go_wp2
      go_ret2
      exact ⟨_, by rw [HF.out.1] <;> rfl, by rw [HF.out.2, HCn.out]; exact HOw.out, HW.out⟩
end Go.Proofs.Ytoppaipiibaocaa.Ints
