/- Contracts of SetOf, of the model and of the program. -/
import Derived.Test.YtknlpoeolicinabDg
import Derived.Test.YtknlpoeolicinabOwn
namespace Go.Proofs.Ytknlpoeolicinab.Ints
open Go.RowKit
set_option linter.unusedVariables false

/-- The places before k at which a 1 stands. -/
def ones (G : List Int) : Nat → List Int
  | 0 => []
  | k + 1 => if G.getD k 0 = 1 then ones G k ++ [(k : Int)] else ones G k
theorem ones_len (G : List Int) (k : Nat) : (ones G k).length ≤ k := by
  induction k with
  | zero => simp [ones]
  | succ k ih =>
    rw [ones]
    by_cases h : G.getD k 0 = 1
    · rw [if_pos h, List.length_append]; simp; omega
    · rw [if_neg h]; omega
noncomputable def seL (ps : List Int) : List Int := if natB ps = true then ones (dgN ps 2) (dgN ps 2).length else []
noncomputable def seC (ps : List Int) : Int := if natB ps = true then 0 else 1
set_option maxHeartbeats 2000000 in
theorem specSetOf (u : Value) (ps : List Int) (w : World) (hu : Rd w u ps) :
    Calls Try.prog 29 #[u] w fun e w' => ∃ r, e = .returned (.tuple #[r, .int .i64 (seC ps)]) ∧ Ow w' w.heap.size w'.heap.size r (seL ps) ∧ Below w.heap.size w w' := by
  have HU := Lib.hid hu
  clear hu
  rcases eqOr (natB ps) with hx | hx
  · have HX := Lib.hid hx
    have HR : Hid (seL ps = [] ∧ seC ps = 1) := Lib.hid (by simp [seL, seC, hx])
    clear hx
    go_enter Try.func29, Try.ntmps29
    go_wp2_with (go_at_call 43; refine (specNat _ ps _ HU.out).mono ?_; rintro e w' ⟨rfl, rfl⟩; rw [HX.out])
    go_ret2
    exact ⟨_, by rw [HR.out.2] <;> rfl, by rw [HR.out.1]; exact Ow.empty w, Below.refl _ _⟩
  have HX := Lib.hid hx
  have HP := Lib.hid (natB_can hx)
  obtain ⟨G, hG⟩ : ∃ G, G = dgN ps 2 := ⟨_, rfl⟩
  have HR : Hid (seL ps = ones G G.length ∧ seC ps = 0) := Lib.hid (by simp [seL, seC, hx, hG])
  have HGG := Lib.hid hG
  have hgl : G.length ≤ 800 := by rw [hG]; exact dg_small HP.out.1 HP.out.2 _ 2 (by omega)
  clear hx hG
  obtain ⟨i0, hi, hz0, hz1, hz2⟩ := info_parts infoE
  go_enter Try.func29, Try.ntmps29
  go_wp2_with fail
  refine (specNat _ ps _ HU.out).mono ?_
  rintro e w' ⟨rfl, rfl⟩
  rw [HX.out]
  go_wp2_with fail
  refine (specDgLoop _ ps 2 _ HU.out HP.out (by omega) (by omega)).mono ?_
  rintro e w1 ⟨r, rfl, ho, hb⟩
  rw [← HGG.out] at ho
  have HO := Lib.hid ho.rd
  have HB0 := Lib.hid hb
  obtain ⟨a, c, rfl⟩ := ho.shape
  have HB1 := Lib.hid ((Below.refl w1.heap.size w1).alloc (Nat.le_refl _) (Obj.cells #[] 2))
  clear ho hb
  go_wp2
  go_loopw [5, 6] (fun o s wr => ∃ (k : Nat) (ov : Value), o = ov ∧ k ≤ G.length ∧ s = .int .i64 k ∧ Ow wr w1.heap.size wr.heap.size ov (ones G k) ∧ Below w1.heap.size w1 wr) (fun _ s _ => G.length - (intOf s).toNat)
  case atStart => exact ⟨0, _, rfl, Nat.zero_le _, rfl, Ow.made w1, HB1.out⟩
  case round =>
    obtain ⟨k, ov, hov, hk, rfl, hown, hbel⟩ := hrel
    obtain rfl := hov.symm
    have HOV := Lib.hid hown
    have HW := Lib.hid hbel
    have hol := ones_len G k
    by_cases hlt : k < G.length
    · obtain ⟨_, _, a2, c2, he, _, hr⟩ := HO.out.below hbel (Nat.le_refl _)
      obtain ⟨b, o, ha, hb, hcell⟩ := hr (by intro h0; rw [h0] at hlt; simp at hlt)
      simp only [Value.slice.injEq] at he
      obtain ⟨rfl, _, rfl⟩ := he
      subst ha
      have hc := hcell k hlt
      obtain ⟨x, hx⟩ : ∃ x, x = G.getD k 0 := ⟨_, rfl⟩
      rw [← hx] at hc
      have i0' : (0 : Int) ≤ (k : Int) := by omega
      have i1 : (k : Int) < (G.length : Int) := by omega
      by_cases h1 : x = 1
      · have hb1 : (x == 1) = true := by simp [h1]
        have HE : Hid (ones G (k + 1) = ones G k ++ [(k : Int)]) := Lib.hid (by rw [ones, if_pos (by rw [← hx]; exact h1)])
        obtain ⟨xs, hxs⟩ : ∃ xs, xs = ones G k := ⟨_, rfl⟩
        rw [← hxs] at HOV HE hol hown
        have hrow := hown.row.alloc (Obj.cells #[Value.int IntKind.i64 (k : Int)] 2)
        have hbsz := hown.base
        clear hcell hr hx hown hbel hxs h1
        go_wp2_with (at_builtin; refine wpList_append_own _ rfl _ _ 22 rfl w1.heap.size 2 i0 (.int .i64 0) 1 8 Try.underlying22 hi hz0 hz1 hz2 rfl (by decide) _ _ _ rfl hrow ⟨_, 0, none⟩ 1 1 [.int .i64 (k : Int)] rfl rfl ?c1 ?c2 ?c3 ?c4 ?c5 ?_)
        case c2 => first | exact oneCell _ | rfl
        case c3 => unfold maxLen; omega
        case c4 => omega
        case c5 => first | omega | (simp; omega)
        intro v' w2 hown1 hgrow _
        obtain ⟨ho, hb2⟩ := HOV.out.snoc (by omega) (by omega) hown1 hgrow
        have HO2 := Lib.hid ho
        have HB2 := Lib.hid (HW.out.trans hb2)
        clear hown1 hgrow ho hb2 hrow
        go_wp2
        go_roundw
        case rel => exact ⟨k + 1, v', rfl, by omega, by go_num, by rw [HE.out]; exact HO2.out, HB2.out⟩
        case measure => simp [intOf]; omega
      · have hb1 : (x == 1) = false := by simp [h1]
        have HE : Hid (ones G (k + 1) = ones G k) := Lib.hid (by rw [ones, if_neg (by rw [← hx]; exact h1)])
        clear hcell hr hx hown hbel h1
        go_wp2
        go_roundw
        case rel => exact ⟨k + 1, ov, rfl, by omega, by go_num, by rw [HE.out]; exact HOV.out, HW.out⟩
        case measure => simp [intOf]; omega
    · obtain rfl : k = G.length := by omega
      obtain ⟨ga, gc, hg⟩ := hown.shape
      have HBF := Lib.hid (HB0.out.trans (hbel.mono HB0.out.size))
      have HOF := Lib.hid (hown.mono (B' := w.heap.size) HB0.out.size (Nat.le_refl _) (Nat.le_refl _))
      clear hown hbel HOV
      subst hg
      go_wp2
      go_ret2
      exact ⟨_, by rw [HR.out.2] <;> rfl, by rw [HR.out.1]; exact HOF.out, HBF.out⟩
set_option maxHeartbeats 2000000 in
theorem implSetOf (u : Value) (ps : List Int) (w : World) (hu : Rd w u ps) :
    Calls Try.prog 30 #[u] w fun e w' => ∃ r, e = .returned (.tuple #[r, .int .i64 (seC ps)]) ∧ Ow w' w.heap.size w'.heap.size r (seL ps) ∧ Below w.heap.size w w' := by
  have HU := Lib.hid hu
  clear hu
  rcases eqOr (natB ps) with hx | hx
  · have HR : Hid (seL ps = [] ∧ seC ps = 1) := Lib.hid (by simp [seL, seC, hx])
    have HD := Lib.hid (dg_bad (p := 2) hx)
    clear hx
    go_enter Try.func30, Try.ntmps30
    go_wp2_with fail
    refine (implDigitsOf _ ps 2 _ HU.out).mono ?_
    rintro e w1 ⟨r, rfl, ho, hb⟩
    rw [HD.out.2]
    have HB := Lib.hid hb
    clear ho hb
    go_wp2
    go_ret2
    exact ⟨_, by rw [HR.out.2] <;> rfl, by rw [HR.out.1]; exact Ow.emptyUp HB.out.size, HB.out⟩
  have HP := Lib.hid (natB_can hx)
  have HD := Lib.hid (dg_good (p := 2) hx (by omega))
  obtain ⟨G, hG⟩ : ∃ G, G = dgN ps 2 := ⟨_, rfl⟩
  have HR : Hid (seL ps = ones G G.length ∧ seC ps = 0) := Lib.hid (by simp [seL, seC, hx, hG])
  have HGG := Lib.hid hG
  have hgl : G.length ≤ 800 := by rw [hG]; exact dg_small HP.out.1 HP.out.2 _ 2 (by omega)
  clear hx hG
  obtain ⟨i0, hi, hz0, hz1, hz2⟩ := info_parts infoE
  go_enter Try.func30, Try.ntmps30
  go_wp2_with fail
  refine (implDigitsOf _ ps 2 _ HU.out).mono ?_
  rintro e w1 ⟨r, rfl, ho, hb⟩
  rw [HD.out.1, ← HGG.out] at ho
  rw [HD.out.2]
  have HO := Lib.hid ho.rd
  have HB0 := Lib.hid hb
  obtain ⟨a, c, rfl⟩ := ho.shape
  clear ho hb
  go_wp2
  go_loopw [6, 19] (fun o s wr => ∃ (k : Nat) (ov : Value), o = ov ∧ k ≤ G.length ∧ s = .int .i64 k ∧ Ow wr w1.heap.size wr.heap.size ov (ones G k) ∧ Below w1.heap.size w1 wr) (fun _ s _ => G.length - (intOf s).toNat)
  case atStart => exact ⟨0, _, rfl, Nat.zero_le _, rfl, Ow.empty w1, Below.refl _ _⟩
  case round =>
    obtain ⟨k, ov, hov, hk, rfl, hown, hbel⟩ := hrel
    obtain rfl := hov.symm
    have HOV := Lib.hid hown
    have HW := Lib.hid hbel
    have hol := ones_len G k
    by_cases hlt : k < G.length
    · obtain ⟨_, _, a2, c2, he, _, hr⟩ := HO.out.below hbel (Nat.le_refl _)
      obtain ⟨b, o, ha, hb, hcell⟩ := hr (by intro h0; rw [h0] at hlt; simp at hlt)
      simp only [Value.slice.injEq] at he
      obtain ⟨rfl, _, rfl⟩ := he
      subst ha
      have hc := hcell k hlt
      obtain ⟨x, hx⟩ : ∃ x, x = G.getD k 0 := ⟨_, rfl⟩
      rw [← hx] at hc
      have i0' : (0 : Int) ≤ (k : Int) := by omega
      have i1 : (k : Int) < (G.length : Int) := by omega
      by_cases h1 : x = 1
      · have hb1 : (x == 1) = true := by simp [h1]
        have HE : Hid (ones G (k + 1) = ones G k ++ [(k : Int)]) := Lib.hid (by rw [ones, if_pos (by rw [← hx]; exact h1)])
        obtain ⟨xs, hxs⟩ : ∃ xs, xs = ones G k := ⟨_, rfl⟩
        rw [← hxs] at HOV HE hol hown
        have hrow := hown.row.alloc (Obj.cells #[Value.int IntKind.i64 (k : Int)] 2)
        have hbsz := hown.base
        clear hcell hr hx hown hbel hxs h1
        go_wp2_with (at_builtin; refine wpList_append_own _ rfl _ _ 22 rfl w1.heap.size 2 i0 (.int .i64 0) 1 8 Try.underlying22 hi hz0 hz1 hz2 rfl (by decide) _ _ _ rfl hrow ⟨_, 0, none⟩ 1 1 [.int .i64 (k : Int)] rfl rfl ?c1 ?c2 ?c3 ?c4 ?c5 ?_)
        case c2 => first | exact oneCell _ | rfl
        case c3 => unfold maxLen; omega
        case c4 => omega
        case c5 => first | omega | (simp; omega)
        intro v' w2 hown1 hgrow _
        obtain ⟨ho, hb2⟩ := HOV.out.snoc (by omega) (by omega) hown1 hgrow
        have HO2 := Lib.hid ho
        have HB2 := Lib.hid (HW.out.trans hb2)
        clear hown1 hgrow ho hb2 hrow
        go_wp2
        go_roundw
        case rel => exact ⟨k + 1, v', rfl, by omega, by go_num, by rw [HE.out]; exact HO2.out, HB2.out⟩
        case measure => simp [intOf]; omega
      · have hb1 : (x == 1) = false := by simp [h1]
        have HE : Hid (ones G (k + 1) = ones G k) := Lib.hid (by rw [ones, if_neg (by rw [← hx]; exact h1)])
        clear hcell hr hx hown hbel h1
        go_wp2
        go_roundw
        case rel => exact ⟨k + 1, ov, rfl, by omega, by go_num, by rw [HE.out]; exact HOV.out, HW.out⟩
        case measure => simp [intOf]; omega
    · obtain rfl : k = G.length := by omega
      obtain ⟨ga, gc, hg⟩ := hown.shape
      have HBF := Lib.hid (HB0.out.trans (hbel.mono HB0.out.size))
      have HOF := Lib.hid (hown.mono (B' := w.heap.size) HB0.out.size (Nat.le_refl _) (Nat.le_refl _))
      clear hown hbel HOV
      subst hg
      go_wp2
      go_ret2
      exact ⟨_, by rw [HR.out.2] <;> rfl, by rw [HR.out.1]; exact HOF.out, HBF.out⟩
end Go.Proofs.Ytknlpoeolicinab.Ints
