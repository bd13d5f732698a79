/- Marks that are held; rows of rules copied. -/
import Derived.Test.YtmgogbcipdjddaaDoorMark
namespace Go.Proofs.YtmgogbcipdjddaaDoor.Ints
open Go.RowKit
set_option linter.unusedVariables false
set_option linter.unusedSimpArgs false
set_option maxHeartbeats 2000000 in
theorem heldRules (v : Value) (n : Nat) (k0 : Int) (w : World) (h : RdR w v (marksR k0 n)) (h0 : 0 ≤ k0) (h1 : k0 ≤ 100000000000) :
    Calls Tryd.prog 71 #[v, .int .i64 k0] w fun e w' => e = .returned (.int .i64 (k0 + 3 * (n : Int))) ∧ Below w.heap.size w w' := by
  obtain ⟨hl, hf, a, c, rfl, hcap, hr⟩ := h
  simp only [length_marksR] at hl hcap hr
  have hfit := hf
  rw [length_marksR]
  clear hf
  go_enter Tryd.func71, Tryd.ntmps71
  go_wp2
  go_loopw [1, 5] (fun q s wr => ∃ i : Nat, i ≤ n ∧ s = .int .i64 i ∧ q = .int .i64 (k0 + 3 * (i : Int)) ∧ Below w.heap.size w wr) (fun _ s _ => n - (intOf s).toNat)
  case atStart => exact ⟨0, Nat.zero_le _, rfl, by simp, Below.refl _ _⟩
  case round =>
    obtain ⟨i, hi, rfl, rfl, hbel⟩ := hrel
    by_cases hlt : i < n
    · obtain ⟨b, o, rfl, hb, hcell⟩ := hr (by intro h0; have := congrArg List.length h0; simp at this; omega)
      obtain ⟨c0, c1, c2⟩ := hcell i hlt
      rw [marksR_at k0 n i hlt] at c0 c1 c2
      replace c0 := (hbel.cell (p := ⟨b, o + i * 3, none⟩) hb).trans c0
      replace c1 := (hbel.cell (p := ⟨b, o + i * 3 + 1, none⟩) hb).trans c1
      replace c2 := (hbel.cell (p := ⟨b, o + i * 3 + 2, none⟩) hb).trans c2
      obtain ⟨m, hmm⟩ : ∃ m, m = k0 + 3 * (i : Int) := ⟨_, rfl⟩
      have w1 : IntKind.i64.wrap (m + 1) = m + 1 := by rw [IntKind.wrap_i64]; omega
      have w1' : IntKind.i64.wrap (m + 1 + 1) = m + 2 := by rw [IntKind.wrap_i64]; omega
      have w2' : IntKind.i64.wrap (m + 2 + 1) = m + 3 := by rw [IntKind.wrap_i64]; omega
      have i0 : (0 : Int) ≤ (i : Int) := by omega
      have i1 : (i : Int) < (n : Int) := by omega
      have HM := Lib.hid hmm
      have HB := Lib.hid hbel
      dsimp only at c0 c1 c2
      rw [← hmm] at c0 c1 c2 ⊢
      clear hcell hr hmm hbel
      go_wp2
      go_roundw
      case rel => exact ⟨i + 1, by omega, by go_num, by have := HM.out; first | (go_num; omega) | (simp; omega), HB.out⟩
      case measure => simp [intOf]; omega
    · obtain rfl : i = n := by omega
      have HB := Lib.hid hbel
      clear hbel
      go_wp2
      go_ret
      exact ⟨rfl, HB.out⟩
theorem heldMach (sy st : Int) (v : Value) (n : Nat) (k0 : Int) (w : World) (h : RdR w v (marksR k0 n)) (h0 : 0 ≤ k0) (h1 : k0 ≤ 100000000000) (h2 : n ≤ 16777216) :
    Calls Tryd.prog 34 #[.agg #[.int .i64 sy, .int .i64 st, v], .int .i64 k0] w fun e w' => e = .returned (.int .i64 (k0 + 3 * (n : Int))) ∧ Below w.heap.size w w' := by
  have H := Lib.hid h
  obtain ⟨_, _, a, c, rfl, _, _⟩ := h
  have HB : ∀ x : Obj, Hid (Below w.heap.size w (w.alloc x)) := fun x => Lib.hid ((Below.refl _ _).alloc (Nat.le_refl _) _)
  have hn : ¬ k0 + 3 * (n : Int) < 0 := by omega
  simp only [length_marksR]
  have H' : Hid (∀ W, Below w.heap.size w W → RdR W (.slice a n c) (marksR k0 n)) := Lib.hid (fun W hW => by have := H.out.below hW (Nat.le_refl _); rwa [length_marksR] at this)
  clear H
  go_enter Tryd.func34, Tryd.ntmps34
  go_wp2_with fail
  refine (heldRules _ n k0 _ (H'.out _ (HB _).out) h0 h1).mono ?_
  rintro e w1 ⟨rfl, hb⟩
  have HB1 := Lib.hid ((HB _).out.trans (hb.mono (by simp)))
  clear hb
  go_wp2
  go_ret
  exact ⟨rfl, HB1.out⟩
theorem rcs_oneCell (rs : List Ru) : ∀ u ∈ rcs rs, u.oneCell' = true := by
  intro u hu
  simp only [rcs, List.mem_flatMap, Ru.cs] at hu
  obtain ⟨r, _, hu⟩ := hu
  simp only [List.mem_cons, List.not_mem_nil, or_false] at hu
  rcases hu with h | h | h <;> subst h <;> rfl
theorem RdR.cells {w : World} {ad : Addr} {n c : Nat} {rs : List Ru} (h : RdR w (.slice (some ad) n c) rs) {W : World} (hW : Below w.heap.size w W) :
    n = rs.length ∧ n ≤ c ∧ ∀ j x, (rcs rs)[j]? = some x → W.cell? (ad.add j) = some x := by
  obtain ⟨hl, hf, a, c', hv, hcap, hr⟩ := h
  simp only [Value.slice.injEq] at hv
  obtain ⟨rfl, rfl, rfl⟩ := hv
  refine ⟨rfl, hcap, fun j x hx => ?_⟩
  have hj : j < rs.length * 3 := by rw [← rcs_length]; exact (List.getElem?_eq_some_iff.1 hx).1
  obtain ⟨b, o, ha, hb, hcell⟩ := hr (by intro h0; rw [h0] at hj; simp at hj)
  cases ha
  obtain ⟨i, t, ht, rfl⟩ : ∃ i t, t < 3 ∧ j = i * 3 + t := ⟨j / 3, j % 3, by omega, by omega⟩
  obtain ⟨c0, c1, c2⟩ := hcell i (by omega)
  obtain ⟨d0, d1, d2⟩ := rcs_at rs i (by omega)
  rw [Addr.add_lit]
  have ht3 : t = 0 ∨ t = 1 ∨ t = 2 := by omega
  rcases ht3 with rfl | rfl | rfl
  · rw [Nat.add_zero] at hx ⊢
    rw [d0] at hx
    exact ((hW.cell (p := ⟨b, o + i * 3, none⟩) hb).trans c0).trans hx
  · rw [d1] at hx
    exact ((hW.cell (p := ⟨b, o + (i * 3 + 1), none⟩) hb).trans c1).trans hx
  · rw [d2] at hx
    exact ((hW.cell (p := ⟨b, o + (i * 3 + 2), none⟩) hb).trans c2).trans hx
theorem OwR.empty (w : World) : OwR w w.heap.size w.heap.size (.slice none 0 0) [] := OwR.emptyUp (Nat.le_refl _)
theorem eqlNoneR (l c : Nat) (w : World) : (binOp .eql 31 (.slice none l c) (.slice none 0 0)).run Tryd.prog w = .ok (.bool true) w := by kernel_rfl
theorem eqlSomeR (a : Addr) (l c : Nat) (w : World) : (binOp .eql 31 (.slice (some a) l c) (.slice none 0 0)).run Tryd.prog w = .ok (.bool false) w := by kernel_rfl
attribute [local go_sem] eqlNoneR eqlSomeR
set_option maxHeartbeats 2000000 in
theorem libCloneR (u : Value) (rs : List Ru) (w : World) (hu : RdR w u rs) :
    Calls Tryd.prog 80 #[u] w fun e w' => ∃ r, e = .returned r ∧ OwR w' w.heap.size w'.heap.size r rs ∧ Below w.heap.size w w' := by
  have HU := Lib.hid hu
  obtain ⟨hl, hf, a, c, rfl, hcap, hr⟩ := hu
  obtain ⟨i0, hi, hz0, hz1, hz2⟩ := info_parts infoR
  cases a with
  | none =>
    obtain rfl : rs = [] := by
      cases rs with
      | nil => rfl
      | cons x xs => obtain ⟨b, o, h, _⟩ := hr (by simp); cases h
    clear hr HU
    go_enter Tryd.func80, Tryd.ntmps80
    go_wp2
    go_ret
    exact ⟨_, rfl, OwR.empty w, Below.refl _ _⟩
  | some ad =>
    have HF := Lib.hid hf
    have hrow : (w.alloc (.cells #[] 59)).ownsRow w.heap.size 59 3 (.slice (some ⟨w.heap.size, 0, none⟩) 0 0) 0 [] := World.ownsRow_made w #[] 0 (Nat.le_refl _) (by unfold maxLen; omega) (by simp)
    have HC := Lib.hid (HU.out.cells ((Below.refl w.heap.size w).alloc (Nat.le_refl _) (.cells #[] 59))).2.2
    clear hr hf HU
    go_enter Tryd.func80, Tryd.ntmps80
    go_wp2_with (at_builtin; refine wpList_append_own _ rfl _ _ 31 rfl w.heap.size 59 i0 (.agg #[.int .i64 0, .int .i64 0, .int .i64 0]) 3 24 Tryd.underlying31 hi hz0 hz1 hz2 rfl (by decide) _ _ _ rfl hrow ad rs.length c (rcs rs) rfl ?c0 HC.out (rcs_oneCell rs) ?c3 ?c4 ?c5 ?_)
    case c0 => simp
    case c3 => unfold maxLen; omega
    case c4 => omega
    case c5 => first | omega | simp
    intro v' w1 hown1 hgrow _
    have HB := Lib.hid (((Below.refl w.heap.size w).alloc (Nat.le_refl _) (.cells #[] 59)).grown hgrow (by simp) (fun k hk => by cases hk; exact Nat.le_refl _))
    have HO : Hid (OwR w1 w.heap.size w1.heap.size v' rs) := Lib.hid ⟨hl, HF.out, by simpa using hown1, fun k hk => (hown1.lt k hk).2, Nat.le_refl _, HB.out.size⟩
    clear hown1 hgrow
    go_wp2
    go_ret
    exact ⟨_, rfl, HO.out, HB.out⟩
end Go.Proofs.YtmgogbcipdjddaaDoor.Ints
