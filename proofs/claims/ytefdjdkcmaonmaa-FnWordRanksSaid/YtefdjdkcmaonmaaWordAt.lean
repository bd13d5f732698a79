/- Contracts of WordAt, of the model and of the program. -/
import Derived.Test.YtefdjdkcmaonmaaRev
import Derived.Test.YtefdjdkcmaonmaaWord
namespace Go.Proofs.Ytefdjdkcmaonmaa.Ints
open Go.RowKit
set_option linter.unusedVariables false
/-- The letters of a word by its number, the last one first; none if there are more than the fuel. -/
def wdGo (b : Int) : Nat → Int → List Int → Option (List Int)
  | 0, r, xs => if 0 < r then none else some xs
  | f + 1, r, xs => if 0 < r then wdGo b f ((r - 1) / b) (xs ++ [(r - 1) % b]) else some xs
def wdOk (r b : Int) : Prop := (0 ≤ r ∧ r ≤ 1000000000000) ∧ (1 ≤ b ∧ b ≤ 10)
instance (r b : Int) : Decidable (wdOk r b) := by unfold wdOk; infer_instance
def wdR (r b : Int) : Option (List Int) := wdGo b 400 r []
def wdL (r b : Int) : List Int := if wdOk r b then (match wdR r b with | some xs => xs.reverse | none => []) else []
def wdC (r b : Int) : Int := if wdOk r b then (match wdR r b with | some _ => 0 | none => 5) else 2
theorem wdGo_end {b r : Int} (f : Nat) (xs : List Int) (h : ¬ 0 < r) : wdGo b f r xs = some xs := by cases f <;> simp [wdGo, h]
theorem wdGo_full {b r : Int} (xs : List Int) (h : 0 < r) : wdGo b 0 r xs = none := by simp [wdGo, h]
theorem wdGo_step {b r : Int} (f : Nat) (xs : List Int) (h : 0 < r) : wdGo b (f + 1) r xs = wdGo b f ((r - 1) / b) (xs ++ [(r - 1) % b]) := by simp [wdGo, h]
theorem wd_div {r b : Int} (r0 : 0 < r) (r1 : r ≤ 1000000000000) (h1 : 1 ≤ b) (h2 : b ≤ 10) : 0 ≤ (r - 1) / b ∧ (r - 1) / b < r ∧ 0 ≤ (r - 1) % b ∧ (r - 1) % b < b := by
  have a : 0 ≤ (r - 1) / b := Int.ediv_nonneg (by omega) (by omega)
  have c : (r - 1) / b ≤ r - 1 := Int.ediv_le_self _ (by omega)
  exact ⟨a, by omega, Int.emod_nonneg _ (by omega), Int.emod_lt_of_pos _ (by omega)⟩
structure WdInv (rank b : Int) (r : Int) (xs : List Int) : Prop where
  len : xs.length ≤ 400
  r0 : 0 ≤ r
  r1 : r ≤ 1000000000000
  fit : Fit xs
  eq : wdR rank b = wdGo b (400 - xs.length) r xs
theorem WdInv.step {rank b r : Int} {xs : List Int} (h : WdInv rank b r xs) (hr : 0 < r) (h1 : 1 ≤ b) (h2 : b ≤ 10) (hl : xs.length < 400) : WdInv rank b ((r - 1) / b) (xs ++ [(r - 1) % b]) := by
  obtain ⟨a, c, d, e⟩ := wd_div hr h.r1 h1 h2
  refine ⟨by simp; omega, a, by have := h.r1; omega, fun x hx => ?_, ?_⟩
  · rcases List.mem_append.1 hx with hx | hx
    · exact h.fit x hx
    · simp at hx; subst hx; omega
  · rw [h.eq, show 400 - xs.length = (400 - (xs ++ [(r - 1) % b]).length) + 1 by simp; omega, wdGo_step _ _ hr]

set_option maxHeartbeats 2000000 in
theorem implWordAt (rank b : Int) (w : World) :
    Calls Try.prog 7 #[.int .i64 rank, .int .i64 b] w fun e w' => ∃ u, e = .returned (.tuple #[u, .int .i64 (wdC rank b)]) ∧ Ow w' w.heap.size w'.heap.size u (wdL rank b) ∧ Below w.heap.size w w' := by
  by_cases r0 : 0 ≤ rank
  rotate_left
  · have e : Hid (wdL rank b = [] ∧ wdC rank b = 2) := Lib.hid (by simp [wdL, wdC, wdOk, r0])
    go_enter Try.func7, Try.ntmps7
    go_wp2_with go_in
    go_ret2
    exact ⟨_, by rw [e.out.2] <;> rfl, by rw [e.out.1]; exact Ow.empty w, Below.refl _ _⟩
  by_cases r1 : rank ≤ 1000000000000
  rotate_left
  · have e : Hid (wdL rank b = [] ∧ wdC rank b = 2) := Lib.hid (by simp [wdL, wdC, wdOk, r1])
    go_enter Try.func7, Try.ntmps7
    go_wp2_with go_in
    go_ret2
    exact ⟨_, by rw [e.out.2] <;> rfl, by rw [e.out.1]; exact Ow.empty w, Below.refl _ _⟩
  by_cases h1 : 1 ≤ b
  rotate_left
  · have e : Hid (wdL rank b = [] ∧ wdC rank b = 2) := Lib.hid (by simp [wdL, wdC, wdOk, h1])
    go_enter Try.func7, Try.ntmps7
    go_wp2_with go_in
    go_ret2
    exact ⟨_, by rw [e.out.2] <;> rfl, by rw [e.out.1]; exact Ow.empty w, Below.refl _ _⟩
  by_cases h2 : b ≤ 10
  rotate_left
  · have e : Hid (wdL rank b = [] ∧ wdC rank b = 2) := Lib.hid (by simp [wdL, wdC, wdOk, h2])
    go_enter Try.func7, Try.ntmps7
    go_wp2_with go_in
    go_ret2
    exact ⟨_, by rw [e.out.2] <;> rfl, by rw [e.out.1]; exact Ow.empty w, Below.refl _ _⟩
  have HOK : Hid (wdOk rank b) := Lib.hid ⟨⟨r0, r1⟩, h1, h2⟩
  obtain ⟨i0, hi, hz0, hz1, hz2⟩ := info_parts infoE
  have n0 : decide (rank < 0) = false := decide_eq_false (by omega)
  have n1 : decide (1000000000000 < rank) = false := decide_eq_false (by omega)
  go_enter Try.func7, Try.ntmps7
  go_wp2_with fail
  refine (alphaT _ _ h1 h2).mono ?_
  rintro e w' ⟨rfl, rfl⟩
  go_wp2
  clear n0 n1
  go_loopw [0, 6] (fun q o wr => ∃ (r : Int) (xs : List Int) (ov : Value), o = ov ∧ q = .int .i64 r ∧ WdInv rank b r xs ∧ wr.ownsRow w.heap.size 2 1 ov xs.length (xs.map (Value.int .i64)) ∧ Below w.heap.size w wr) (fun q _ _ => (intOf q).toNat)
  case atStart => exact ⟨rank, [], _, rfl, rfl, ⟨by simp, r0, r1, Fit.nil, rfl⟩, World.ownsRow_nil _ _ _ _, Below.refl _ _⟩
  case round =>
    obtain ⟨r, xs, ov, hov, rfl, hinv, hown, hbel⟩ := hrel
    obtain rfl := hov.symm
    have hsz := hbel.size
    have HI := Lib.hid hinv
    have HW := Lib.hid hbel
    have q0 := hinv.r0
    have q1 := hinv.r1
    have ql := hinv.len
    clear hinv hbel
    obtain ⟨gg, cc, hgg⟩ : ∃ g c, ov = .slice g xs.length c := by
      rcases hown.2 with ⟨rfl, h0⟩ | ⟨g, cp, cur, rfl, _⟩
      · exact ⟨none, 0, by rw [h0]⟩
      · exact ⟨_, _, rfl⟩
    by_cases hp : 0 < r
    · by_cases hfull : xs.length = 400
      · have e : Hid (wdL rank b = [] ∧ wdC rank b = 5) := Lib.hid (by
          have := HI.out.eq
          rw [hfull, wdGo_full _ hp] at this
          simp [wdL, wdC, HOK.out, this])
        have hb1 : ((xs.length : Int) == 400) = true := by simp [hfull]
        subst hgg
        clear hown hfull
        go_wp2
        go_ret2
        exact ⟨_, by rw [e.out.2] <;> rfl, by rw [e.out.1]; exact Ow.emptyUp HW.out.size, HW.out⟩
      · have hb1 : ((xs.length : Int) == 400) = false := by simp; omega
        have HN := Lib.hid (HI.out.step hp h1 h2 (by omega))
        obtain ⟨d0, d1, d2, d3⟩ := wd_div hp q1 h1 h2
        obtain ⟨x, hx⟩ : ∃ x, x = (r - 1) % b := ⟨_, rfl⟩
        obtain ⟨y, hy⟩ : ∃ y, y = (r - 1) / b := ⟨_, rfl⟩
        have tx : (r - 1).tmod b = x := by rw [Int.tmod_eq_emod_of_nonneg (by omega), hx]
        have ty : (r - 1).tdiv b = y := by rw [Int.tdiv_eq_ediv_of_nonneg (by omega), hy]
        rw [← hx, ← hy] at HN
        rw [← hy] at d0 d1
        rw [← hx] at d2 d3
        clear hx hy hfull
        subst hgg
        go_wp2_with (at_builtin; refine wpList_append_own _ rfl _ _ 24 rfl w.heap.size 2 i0 (.int .i64 0) 1 8 Try.underlying24 hi hz0 hz1 hz2 rfl (by decide) _ _ _ rfl (hown.alloc _) ⟨_, 0, none⟩ 1 1 [.int .i64 x] rfl rfl ?c1 ?c2 ?c3 ?c4 ?c5 ?_)
        case c1 => exact cellNew _ _ _
        case c2 => first | exact oneCell _ | rfl
        case c3 => unfold maxLen; omega
        case c4 => omega
        case c5 => first | omega | (simp; omega)
        intro v' w1 hown1 hgrow _
        have HO : Hid (w1.ownsRow w.heap.size 2 1 v' (xs ++ [x]).length ((xs ++ [x]).map (Value.int .i64))) := Lib.hid (by simpa using hown1)
        have HQ := Lib.hid ((HW.out.alloc hsz (Obj.cells #[Value.int IntKind.i64 x] 2)).grown hgrow (by simp; omega) (fun q hq => (hown.lt q hq).1))
        clear hown1 hgrow hown
        go_wp2
        go_roundw
        case rel => exact ⟨y, xs ++ [x], v', rfl, rfl, HN.out, HO.out, HQ.out⟩
        case measure => simp [intOf]; omega
    · have e : Hid (wdL rank b = xs.reverse ∧ wdC rank b = 0) := Lib.hid (by
        have := HI.out.eq
        rw [wdGo_end _ _ hp] at this
        simp [wdL, wdC, HOK.out, this])
      have HO : Hid (Ow wr w.heap.size wr.heap.size ov xs) := Lib.hid ⟨by omega, HI.out.fit, hown, fun k hk => (hown.lt k hk).2, Nat.le_refl _, hsz⟩
      clear hown hgg
      go_wp2_with (go_at_call 15; refine (libReverse _ xs _ _ _ HO.out).mono ?_; rintro e2 w2 ⟨rfl, ho, hg⟩; have HB2 := Lib.hid (HW.out.trans hg); have HO2 := Lib.hid ho; clear ho hg)
      go_ret2
      exact ⟨_, by rw [e.out.2] <;> rfl, by rw [e.out.1]; exact HO2.out.mono (Nat.le_refl _) HO2.out.size (Nat.le_refl _), HB2.out⟩
end Go.Proofs.Ytefdjdkcmaonmaa.Ints
