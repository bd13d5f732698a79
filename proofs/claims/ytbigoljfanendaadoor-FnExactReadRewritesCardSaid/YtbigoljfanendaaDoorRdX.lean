/- Words read from texts, of the model and of the program. -/
import Derived.Test.YtbigoljfanendaaDoorBts
import Derived.Test.YtbigoljfanendaaDoorInts
import Derived.Test.YtbigoljfanendaaDoorOwn
import Derived.Lib.OthersKept
import Derived.WalkSmall
import Derived.OneCell
namespace Go.Proofs.YtbigoljfanendaaDoor.Ints
open Go.RowKit
set_option linter.unusedVariables false
set_option linter.unusedSimpArgs false
/-- The numbers of the digits. -/
def rdL (s : ByteArray) : List Int := (List.range s.size).map fun i => (bt s i : Int) - 48
theorem rdL_length (s : ByteArray) : (rdL s).length = s.size := by simp [rdL]
theorem rdL_succ (s : ByteArray) (k : Nat) (h : k < s.size) : (rdL s).take (k + 1) = (rdL s).take k ++ [(bt s k : Int) - 48] := by
  rw [List.take_succ_eq_append_getElem (by rw [rdL_length]; exact h)]; simp [rdL]
def AllD (s : ByteArray) : Prop := ∀ i, i < s.size → Dgt (bt s i)
theorem rdL_fit {s : ByteArray} (h : AllD s) : Fit (rdL s) := fun z hz => by
  simp only [rdL, List.mem_map, List.mem_range] at hz
  obtain ⟨i, hi, rfl⟩ := hz
  have := h i hi
  unfold Dgt at this
  omega
def Rok (s : ByteArray) : Prop := s.size ≠ 0 ∧ s.size ≤ 400 ∧ AllD s
open Classical in
noncomputable def rdB (s : ByteArray) : Bool := decide (s.toList = [45] ∨ Rok s)
open Classical in
noncomputable def rdV (s : ByteArray) : List Int := if s.toList = [45] then [] else if Rok s then rdL s else []
theorem rd_dash {s : ByteArray} (h : s.toList = [45]) : rdB s = true ∧ rdV s = [] := by simp [rdB, rdV, h]
theorem rd_bad {s : ByteArray} (h : s.toList ≠ [45]) (k : ¬ Rok s) : rdB s = false ∧ rdV s = [] := by simp [rdB, rdV, h, k]
theorem rd_good {s : ByteArray} (h : s.toList ≠ [45]) (k : Rok s) : rdB s = true ∧ rdV s = rdL s := by simp [rdB, rdV, h, k]
theorem rdV_len (s : ByteArray) : (rdV s).length ≤ 400 := by
  unfold rdV
  split
  · simp
  · split
    · rename_i h; rw [rdL_length]; exact h.2.1
    · simp
open Classical in
noncomputable def allDB (s : ByteArray) : Bool := decide (AllD s)
theorem allDB_true {s : ByteArray} (h : AllD s) : allDB s = true := by simp [allDB, h]
theorem allDB_false {s : ByteArray} (h : ¬ AllD s) : allDB s = false := by simp [allDB, h]
theorem allDB_ok {s : ByteArray} (h : allDB s = true) : AllD s := by simpa [allDB] using h
theorem allDB_no {s : ByteArray} (h : allDB s = false) : ¬ AllD s := by simpa [allDB] using h
noncomputable def rlV (s : ByteArray) : List Int := if allDB s = true then rdL s else []
theorem rlV_true {s : ByteArray} (h : allDB s = true) : rlV s = rdL s := if_pos h
theorem rlV_false {s : ByteArray} (h : allDB s = false) : rlV s = [] := if_neg (by rw [h]; decide)
theorem ow_of_row {w : World} {B : Nat} {v : Value} {zs : List Int} (hl : zs.length ≤ 16777216) (hf : Fit zs) (h : w.ownsRow B 2 1 v zs.length (zs.map (Value.int .i64))) (hb : B ≤ w.heap.size) : Ow w B w.heap.size v zs :=
  ⟨hl, hf, h, fun k hk => (h.lt k hk).2, Nat.le_refl _, hb⟩
set_option maxHeartbeats 4000000 in
theorem specRead3 (s : ByteArray) (w : World) (hs : s.size ≤ 1048576) :
    Calls Tryd.prog 97 #[.string s] w fun e w' => ∃ u, e = .returned (.tuple #[u, .bool (rdB s)]) ∧ Below w.heap.size w w' ∧ (rdB s = true → Ow w' w.heap.size w'.heap.size u (rdV s)) := by
  obtain ⟨i0, hi, hz0, hz1, hz2⟩ := info_parts infoE
  by_cases hd : s.toList = [45]
  · have HF := Lib.hid (rd_dash hd)
    have e1 : (s.toList == [45]) = true := by simp [hd]
    have HO : Hid (Ow (w.alloc (.cells #[] 2)) w.heap.size (w.alloc (.cells #[] 2)).heap.size (.slice (some ⟨w.heap.size, 0, none⟩) 0 0) []) := Lib.hid (Ow.made w)
    clear hd
    go_enter Tryd.func97, Tryd.ntmps97
    go_wp2
    go_ret2
    exact ⟨_, by rw [HF.out.1] <;> rfl, (Below.refl _ _).alloc (Nat.le_refl _) _, fun _ => by rw [HF.out.2]; exact HO.out⟩
  have e1 : (s.toList == [45]) = false := by simpa using hd
  have HDs := Lib.hid hd
  clear hd
  go_enter Tryd.func97, Tryd.ntmps97
  go_wp2
  go_loopw [4, 5] (fun o i wr => ∃ (k : Nat) (ov : Value), o = ov ∧ k ≤ s.size ∧ i = .int .i64 k ∧ (∀ j, j < k → Dgt (bt s j)) ∧ wr.ownsRow w.heap.size 2 1 ov k (((rdL s).take k).map (Value.int .i64)) ∧ Below w.heap.size w wr) (fun _ i _ => s.size - (intOf i).toNat)
  case atStart => exact ⟨0, _, rfl, Nat.zero_le _, rfl, fun j hj => by omega, by simpa using World.ownsRow_made w #[] 0 (Nat.le_refl _) (by unfold maxLen; omega) (by simp), (Below.refl _ _).alloc (Nat.le_refl _) _⟩
  case round =>
    obtain ⟨k, ov, hov, hk, rfl, hall, hown, hbel⟩ := hrel
    obtain rfl := hov.symm
    have HA := Lib.hid hall
    have HW := Lib.hid hbel
    have hsz := hbel.size
    clear hall hbel
    by_cases hlt : k < s.size
    · obtain ⟨c, hc⟩ : ∃ c, c = bt s k := ⟨_, rfl⟩
      have hidk := idxS hlt hc
      have hck : (s[k]'hlt).toNat = c := by rw [hc, bt_at hlt]
      have i0' : (0 : Int) ≤ (k : Int) := by omega
      have i1 : (k : Int) < (s.size : Int) := by omega
      have HCt := Lib.hid hc
      by_cases hg : Dgt c
      rotate_left
      · have hnr : ¬ Rok s := fun h => hg (by rw [hc]; exact h.2.2 k hlt)
        have HF := Lib.hid (rd_bad HDs.out hnr)
        have H2 : Hid (false = true ↔ (48 ≤ (c : Int) ∧ (c : Int) ≤ 57)) := Lib.hid ⟨fun h => (by cases h), fun h => absurd h hg⟩
        clear hc hg hnr
        go_wp2_with fail
        refine (specDgt _ false _ H2.out).mono ?_
        rintro e w' ⟨rfl, rfl⟩
        go_wp2
        go_ret2
        exact ⟨_, by rw [HF.out.1] <;> rfl, HW.out, fun h => by rw [HF.out.1] at h; cases h⟩
      obtain ⟨g0, g1⟩ := hg
      obtain ⟨x, hx⟩ : ∃ x, x = (c : Int) - 48 := ⟨_, rfl⟩
      have hx' : (c : Int) - 48 = x := hx.symm
      have x0 : 0 ≤ x := by omega
      have x1 : x ≤ 9 := by omega
      have e3 : IntKind.u8.wrap x = x := by simp [IntKind.wrap, IntKind.bits, IntKind.signed]; omega
      have e4 : IntKind.i64.wrap x = x := by rw [IntKind.wrap_i64]; omega
      have H2 : Hid (48 ≤ (c : Int) ∧ (c : Int) ≤ 57) := Lib.hid ⟨g0, g1⟩
      have HS : Hid ((rdL s).take (k + 1) = (rdL s).take k ++ [x]) := Lib.hid (by rw [rdL_succ s k hlt, hx, hc])
      have HN : Hid (∀ j, j < k + 1 → Dgt (bt s j)) := Lib.hid (fun j hj => by
        by_cases he : j = k
        · subst he; rw [← HCt.out]; exact ⟨g0, g1⟩
        · exact HA.out j (by omega))
      clear hc hx
      go_wp2_with fail
      refine (specDgt _ true _ ⟨fun _ => H2.out, fun _ => rfl⟩).mono ?_
      rintro e w' ⟨rfl, rfl⟩
      go_wp2_with (at_builtin; refine wpList_append_own _ rfl _ _ 32 rfl w.heap.size 2 i0 (.int .i64 0) 1 8 Tryd.underlying32 hi hz0 hz1 hz2 rfl (by decide) _ _ _ rfl (hown.alloc _) ⟨_, 0, none⟩ 1 1 [.int .i64 x] rfl rfl ?c1 ?c2 ?c3 ?c4 ?c5 ?_)
      try (case c1 => exact cellNew _ _ _)
      case c2 => first | exact oneCell _ | rfl
      case c3 => unfold maxLen; omega
      case c4 => omega
      case c5 => first | omega | (simp; omega)
      intro v' w2 hown2 hgrow _
      have HO : Hid (w2.ownsRow w.heap.size 2 1 v' (k + 1) (((rdL s).take (k + 1)).map (Value.int .i64))) := Lib.hid (by rw [HS.out]; simpa using hown2)
      have HQ := Lib.hid ((HW.out.alloc hsz (Obj.cells #[Value.int IntKind.i64 x] 2)).grown hgrow (by simp; omega) (fun q hq => (hown.lt q hq).1))
      clear hown2 hgrow hown
      go_wp2
      go_roundw
      case rel => exact ⟨k + 1, v', rfl, by omega, by go_num, HN.out, HO.out, HQ.out⟩
      case measure => simp [intOf]; omega
    · obtain rfl : k = s.size := by omega
      have hnlt : ¬ ((s.size : Int) < (s.size : Int)) := by omega
      rw [List.take_of_length_le (by rw [rdL_length]; exact Nat.le_refl _)] at hown
      have HAll : Hid (AllD s) := Lib.hid (fun j hj => HA.out j hj)
      have hsh : ∃ a c, ov = .slice a s.size c := by
        rcases hown.2 with ⟨rfl, h0⟩ | ⟨g, cp, cur, rfl, _⟩
        · exact ⟨none, 0, by rw [h0]⟩
        · exact ⟨_, _, rfl⟩
      obtain ⟨av, cv, rfl⟩ := hsh
      have HOw : Hid (Ow wr w.heap.size wr.heap.size (.slice av s.size cv) (rdL s)) := Lib.hid (ow_of_row (by rw [rdL_length]; omega) (rdL_fit HAll.out) (by rw [rdL_length]; exact hown) HW.out.size)
      clear hown hlt
      by_cases z0 : s.size = 0
      · have HF := Lib.hid (rd_bad HDs.out (fun h => h.1 z0))
        have d1 : decide ((0 : Int) < (s.size : Int)) = false := decide_eq_false (by omega)
        have d2 : decide (0 < s.size) = false := decide_eq_false (by omega)
        have d3 : ¬ (0 : Int) < (s.size : Int) := by omega
        go_wp2
        go_ret2
        exact ⟨_, by rw [HF.out.1] <;> rfl, HW.out, fun h => by rw [HF.out.1] at h; cases h⟩
      have d1 : decide ((0 : Int) < (s.size : Int)) = true := decide_eq_true (by omega)
      have d2 : decide (0 < s.size) = true := decide_eq_true (by omega)
      have d3 : (0 : Int) < (s.size : Int) := by omega
      by_cases z1 : s.size ≤ 400
      · have HF := Lib.hid (rd_good HDs.out ⟨z0, z1, HAll.out⟩)
        have f1 : decide ((s.size : Int) ≤ 400) = true := decide_eq_true (by omega)
        have f2 : decide (s.size ≤ 400) = true := decide_eq_true z1
        go_wp2
        go_ret2
        exact ⟨_, by rw [HF.out.1] <;> rfl, HW.out, fun _ => by rw [HF.out.2]; exact HOw.out⟩
      · have HF := Lib.hid (rd_bad HDs.out (fun h => z1 h.2.1))
        have f1 : decide ((s.size : Int) ≤ 400) = false := decide_eq_false (by omega)
        have f2 : decide (s.size ≤ 400) = false := decide_eq_false z1
        go_wp2
        go_ret2
        exact ⟨_, by rw [HF.out.1] <;> rfl, HW.out, fun h => by rw [HF.out.1] at h; cases h⟩
set_option maxHeartbeats 4000000 in
theorem implRdLetters (s : ByteArray) (w : World) (hs : s.size ≤ 1048576) :
    Calls Tryd.prog 58 #[.string s] w fun e w' => ∃ u, e = .returned (.tuple #[u, .bool (allDB s)]) ∧ Ow w' w.heap.size w'.heap.size u (rlV s) ∧ Below w.heap.size w w' := by
  obtain ⟨i0, hi, hz0, hz1, hz2⟩ := info_parts infoE
  go_enter Tryd.func58, Tryd.ntmps58
  go_wp2
  go_loopw [4] (fun o wr => ∃ (p : Nat) (ov : Value), o = ov ∧ p ≤ s.size ∧ wr.heap[w.heap.size]? = some (.stringIter s p) ∧ (∀ j, j < p → Dgt (bt s j)) ∧ wr.ownsRow (w.heap.size + 1) 2 1 ov p (((rdL s).take p).map (Value.int .i64)) ∧ Below w.heap.size w wr) (fun _ wr => s.size - wr.iterPos w.heap.size)
  case atStart => exact ⟨0, _, rfl, Nat.zero_le _, World.iter_heap w s 0, fun j hj => by omega, by simpa using World.ownsRow_nil _ (w.heap.size + 1) 2 1, (Below.refl _ _).alloc (Nat.le_refl _) _⟩
  case round =>
    obtain ⟨p, ov, hov, hp, hit, hall, hown, hbel⟩ := hrel
    obtain rfl := hov.symm
    have hpos0 := iterPos_of hit
    have HA := Lib.hid hall
    by_cases hlt : p < s.size
    · obtain ⟨c, hc⟩ : ∃ c, c = bt s p := ⟨_, rfl⟩
      have hcs : (s[p]'hlt).toNat = c := by rw [hc, bt_at hlt]
      by_cases hg : Dgt c
      · obtain ⟨g0, g1⟩ := hg
        have hnx : ∀ ty, (Instr.next (.pointer (some ⟨w.heap.size, 0, none⟩)) true ty).run Tryd.prog wr = .ok (.tuple #[.bool true, .int .i64 (p : Int), .int .i32 (c : Int)]) (wr.iterAt w.heap.size s (p + 1)) := fun ty => by
          have := Lib.run_next_ascii_at (P := Tryd.prog) wr w.heap.size s p ty hit hlt (by rw [hcs]; omega)
          rw [hcs] at this; exact this
        have hit2 := Lib.iterAt_heap wr w.heap.size s p (p + 1) hit
        have hbw2 := Lib.below_iterAt hbel (k := w.heap.size) (Nat.le_refl _) s (p + 1)
        have hown2 := ownsRow_iterAt hown (k := w.heap.size) (by omega) s (p + 1)
        obtain ⟨W1, hW1⟩ : ∃ W1, W1 = wr.iterAt w.heap.size s (p + 1) := ⟨_, rfl⟩
        rw [← hW1] at hnx hit2 hbw2 hown2
        have hBlt := lt_of_block hit2
        have HIT := Lib.hid hit2
        have HW := Lib.hid hbw2
        obtain ⟨x, hx⟩ : ∃ x, x = (c : Int) - 48 := ⟨_, rfl⟩
        have hx' : (c : Int) - 48 = x := hx.symm
        have x0 : 0 ≤ x := by omega
        have x1 : x ≤ 9 := by omega
        have e3 : IntKind.i32.wrap x = x := by simp [IntKind.wrap, IntKind.bits, IntKind.signed]; omega
        have e4 : IntKind.i64.wrap x = x := by rw [IntKind.wrap_i64]; omega
        have H2 : Hid (48 ≤ (c : Int) ∧ (c : Int) ≤ 57) := Lib.hid ⟨g0, g1⟩
        have HS : Hid ((rdL s).take (p + 1) = (rdL s).take p ++ [x]) := Lib.hid (by rw [rdL_succ s p hlt, hx, hc])
        have HN : Hid (∀ j, j < p + 1 → Dgt (bt s j)) := Lib.hid (fun j hj => by
          by_cases he : j = p
          · subst he; rw [← hc]; exact ⟨g0, g1⟩
          · exact HA.out j (by omega))
        clear hc hx hcs hW1 hit hown hbel hall hit2 hbw2
        go_wp2_with fail
        refine (implDgt _ true _ ⟨fun _ => H2.out, fun _ => rfl⟩).mono ?_
        rintro e w' ⟨rfl, rfl⟩
        go_wp2_with (at_builtin; refine wpList_append_own _ rfl _ _ 32 rfl (w.heap.size + 1) 2 i0 (.int .i64 0) 1 8 Tryd.underlying32 hi hz0 hz1 hz2 rfl (by decide) _ _ _ rfl (hown2.alloc _) ⟨_, 0, none⟩ 1 1 [.int .i64 x] rfl rfl ?c1 ?c2 ?c3 ?c4 ?c5 ?_)
        try (case c1 => exact cellNew _ _ _)
        case c2 => first | exact oneCell _ | rfl
        case c3 => unfold maxLen; omega
        case c4 => omega
        case c5 => first | omega | (simp; omega)
        intro v' w3 hown3 hgrow _
        have HI3 : Hid (w3.heap[w.heap.size]? = some (.stringIter s (p + 1))) := Lib.hid (by
          rw [hgrow.block w.heap.size (by simp; omega) (fun h => by have := (hown2.lt _ h.symm).1; omega), Below.heap_alloc _ _ _ hBlt]; exact HIT.out)
        have HW3 : Hid (Below w.heap.size w w3) := Lib.hid (Below.grown (HW.out.alloc (by omega) _) hgrow (by simp; omega) (fun j hj => by have := (hown2.lt _ hj).1; omega))
        have HO : Hid (w3.ownsRow (w.heap.size + 1) 2 1 v' (p + 1) (((rdL s).take (p + 1)).map (Value.int .i64))) := Lib.hid (by rw [HS.out]; simpa using hown3)
        have hpos3 := iterPos_of HI3.out
        clear hown3 hgrow hown2
        go_wp2
        go_roundw
        case rel => exact ⟨p + 1, v', rfl, by omega, HI3.out, HN.out, HO.out, HW3.out⟩
        case measure => rw [hpos0, hpos3]; omega
      · have HF : Hid (allDB s = false) := Lib.hid (allDB_false fun h => hg (by rw [hc]; exact h p hlt))
        obtain ⟨r, hr⟩ : ∃ r, r = (Utf8.decode s p).1 := ⟨_, rfl⟩
        obtain ⟨q, hq⟩ : ∃ q, q = p + (Utf8.decode s p).2 := ⟨_, rfl⟩
        have hnx : ∀ ty, (Instr.next (.pointer (some ⟨w.heap.size, 0, none⟩)) true ty).run Tryd.prog wr = .ok (.tuple #[.bool true, .int .i64 (p : Int), .int .i32 (r : Int)]) (wr.iterAt w.heap.size s q) := fun ty => by
          rw [hr, hq]; exact Lib.run_next_any_at (P := Tryd.prog) wr w.heap.size s p ty hit hlt
        have hrd : ¬ (48 ≤ (r : Int) ∧ (r : Int) ≤ 57) := by
          by_cases ha : c < 128
          · have h1 := decode_ascii s p hlt (by rw [hcs]; exact ha)
            have h2 : r = c := by rw [hr, h1, hcs]
            rw [h2]; exact hg
          · have h1 := (decode_high s p hlt (by rw [hcs]; omega)).1
            rw [← hr] at h1
            omega
        have H2 : Hid (false = true ↔ (48 ≤ (r : Int) ∧ (r : Int) ≤ 57)) := Lib.hid ⟨fun h => (by cases h), fun h => absurd h hrd⟩
        have HW : Hid (Below w.heap.size w (wr.iterAt w.heap.size s q)) := Lib.hid (Lib.below_iterAt hbel (k := w.heap.size) (Nat.le_refl _) s q)
        clear hc hg hcs hr hq hrd hit hown hbel hall
        go_wp2_with fail
        refine (implDgt _ false _ H2.out).mono ?_
        rintro e w' ⟨rfl, rfl⟩
        go_wp2
        go_ret2
        exact ⟨_, by rw [HF.out] <;> rfl, by rw [rlV_false HF.out]; exact Ow.emptyUp HW.out.size, HW.out⟩
    · obtain rfl : p = s.size := by omega
      have HAll : Hid (AllD s) := Lib.hid (fun j hj => HA.out j hj)
      have HF := Lib.hid (allDB_true HAll.out)
      have hnx : ∀ ty, (Instr.next (.pointer (some ⟨w.heap.size, 0, none⟩)) true ty).run Tryd.prog wr = .ok (.tuple #[.bool false]) wr := fun ty => Lib.run_next_end_at (P := Tryd.prog) wr w.heap.size s s.size ty hit hlt
      rw [List.take_of_length_le (by rw [rdL_length]; exact Nat.le_refl _)] at hown
      have HOw : Hid (Ow wr w.heap.size wr.heap.size ov (rdL s)) := Lib.hid ((ow_of_row (by rw [rdL_length]; omega) (rdL_fit HAll.out) (by rw [rdL_length]; exact hown) (by have := lt_of_block hit; omega)).mono (by omega) (Nat.le_refl _) (Nat.le_refl _))
      have HW := Lib.hid hbel
      clear hlt hit hown hbel hall
      go_wp2
      go_ret2
      exact ⟨_, by rw [HF.out] <;> rfl, by rw [rlV_true HF.out]; exact HOw.out, HW.out⟩
theorem implRdWord (s : ByteArray) (w : World) (hs : s.size ≤ 1048576) :
    Calls Tryd.prog 143 #[.string s] w fun e w' => ∃ u, e = .returned (.tuple #[u, .bool (rdB s)]) ∧ Ow w' w.heap.size w'.heap.size u (rdV s) ∧ Below w.heap.size w w' := by
  by_cases hd : s.toList = [45]
  · have HF := Lib.hid (rd_dash hd)
    have e1 : (s.toList == [45]) = true := by simp [hd]
    clear hd
    go_enter Tryd.func143, Tryd.ntmps143
    go_wp2
    go_ret2
    exact ⟨_, by rw [HF.out.1] <;> rfl, by rw [HF.out.2]; exact Ow.empty w, Below.refl _ _⟩
  have e1 : (s.toList == [45]) = false := by simpa using hd
  have HDs := Lib.hid hd
  clear hd
  by_cases z0 : s.size = 0
  · have HF := Lib.hid (rd_bad HDs.out (fun h => h.1 z0))
    have e0 : (s.toList == []) = true := by simp [size_nil z0]
    have e0' : s.toList = [] := size_nil z0
    go_enter Tryd.func143, Tryd.ntmps143
    go_wp2
    go_ret2
    exact ⟨_, by rw [HF.out.1] <;> rfl, by rw [HF.out.2]; exact Ow.empty w, Below.refl _ _⟩
  have e0 : s.toList ≠ [] := size_pos z0
  have e0' : (s.toList == []) = false := by simpa using e0
  have e0'' : s.toList.isEmpty = false := by simpa using e0
  by_cases z1 : s.size ≤ 400
  rotate_left
  · have HF := Lib.hid (rd_bad HDs.out (fun h => z1 h.2.1))
    have f1 : decide ((400 : Int) < (s.size : Int)) = true := decide_eq_true (by omega)
    have f2 : decide (400 < s.size) = true := decide_eq_true (by omega)
    clear z1
    go_enter Tryd.func143, Tryd.ntmps143
    go_wp2
    go_ret2
    exact ⟨_, by rw [HF.out.1] <;> rfl, by rw [HF.out.2]; exact Ow.empty w, Below.refl _ _⟩
  have f1 : decide ((400 : Int) < (s.size : Int)) = false := decide_eq_false (by omega)
  have f2 : decide (400 < s.size) = false := decide_eq_false (by omega)
  obtain ⟨b, hb⟩ : ∃ b, b = allDB s := ⟨_, rfl⟩
  have HBb := Lib.hid hb
  have HF : Hid (rdB s = b ∧ rdV s = rlV s) := Lib.hid (by
    cases b with
    | true => have h := rd_good HDs.out ⟨z0, z1, allDB_ok hb.symm⟩; exact ⟨h.1, by rw [h.2, rlV_true hb.symm]⟩
    | false => have h := rd_bad HDs.out (fun h => allDB_no hb.symm h.2.2); exact ⟨h.1, by rw [h.2, rlV_false hb.symm]⟩)
  clear hb z0 z1
  go_enter Tryd.func143, Tryd.ntmps143
  go_wp2_with fail
  refine (implRdLetters s _ hs).mono ?_
  rintro e w1 ⟨u, rfl, ho, hb1⟩
  rw [← HBb.out]
  have HO := Lib.hid ho
  have HB1 := Lib.hid hb1
  clear hb1 ho
  go_wp2
  go_ret2
  exact ⟨_, by rw [HF.out.1] <;> rfl, by rw [HF.out.2]; exact HO.out, HB1.out⟩
end Go.Proofs.YtbigoljfanendaaDoor.Ints
