/- Contracts of the model's and the program's limbs of a number. -/
import Derived.Test.YtcpipakpkmfhlaaNat
namespace Go.Proofs.Ytcpipakpkmfhlaa.Ints
open Go.RowKit
set_option linter.unusedVariables false

/-- The limbs of a number, with fuel. -/
def limbsF : Nat → Int → List Int
  | 0, _ => []
  | f + 1, n => if 0 < n then (n % 1000000) :: limbsF f (n / 1000000) else []
def limbs (n : Int) : List Int := limbsF n.toNat n
theorem limbsF_step {f : Nat} {n : Int} (h : 0 < n) (hf : n ≤ f) : ∃ g, f = g + 1 ∧ limbsF f n = (n % 1000000) :: limbsF g (n / 1000000) := by
  cases f with
  | zero => simp at hf; omega
  | succ g => exact ⟨g, rfl, by simp [limbsF, h]⟩
theorem limbsF_stop {f : Nat} {n : Int} (h : ¬ 0 < n) : limbsF f n = [] := by
  cases f with
  | zero => rfl
  | succ g => simp [limbsF, h]
/-- How many limbs have been taken, and what is left. -/
def Left (j : Nat) (m : Int) : Prop := (j = 0 ∧ m ≤ 1000000000000000000) ∨ (j = 1 ∧ m ≤ 1000000000000) ∨ (j = 2 ∧ m ≤ 1000000) ∨ (j = 3 ∧ m ≤ 1) ∨ (j = 4 ∧ m ≤ 0)
theorem Left.step {j : Nat} {m : Int} (h : Left j m) (hm : 0 < m) : Left (j + 1) (m / 1000000) := by unfold Left at *; omega
theorem Left.le {j : Nat} {m : Int} (h : Left j m) : j ≤ 4 := by unfold Left at h; omega

/-- An owned row out of the law's parts. -/
theorem Ow.of_row {w : World} {B : Nat} {v : Value} {xs : List Int} (hr : w.ownsRow B 2 1 v xs.length (xs.map (Value.int .i64))) (hl : xs.length ≤ 16777216) (hf : Fit xs) (hB : B ≤ w.heap.size) : Ow w B w.heap.size v xs :=
  ⟨hl, hf, hr, fun k hk => (hr.lt k hk).2, Nat.le_refl _, hB⟩
theorem snoc_row {w : World} {B : Nat} {v : Value} {xs : List Int} {x : Int} (h : w.ownsRow B 2 1 v (xs.length + 1) (xs.map (Value.int .i64) ++ [.int .i64 x])) :
    w.ownsRow B 2 1 v (xs ++ [x]).length ((xs ++ [x]).map (Value.int .i64)) := by simpa using h
theorem cell_new (w : World) (v : Value) (t : TypeId) : ∀ j u, [v][j]? = some u → (w.alloc (.cells #[v] t)).cell? ((⟨w.heap.size, 0, none⟩ : Addr).add j) = some u := by
  intro j u h
  match j, h with
  | 0, h => simp at h; subst h; rw [Addr.add_lit]; simp [World.cell?_alloc_at]
  | j + 1, h => simp at h
theorem one_cell (x : Int) : ∀ u ∈ [Value.int .i64 x], u.oneCell' = true := ints_oneCell .i64 [x]

set_option maxHeartbeats 1000000 in
theorem implLimbs (N : Int) (w : World) (h0 : 0 ≤ N) (h1 : N ≤ 1000000000000000000) :
    Calls Try.prog 52 #[.int .i64 N] w fun e w' => ∃ u, e = .returned u ∧ Ow w' w.heap.size w'.heap.size u (limbs N) ∧ Below w.heap.size w w' := by
  obtain ⟨i0, hi, hz0, hz1, hz2⟩ := info_parts infoE
  go_enter Try.func52, Try.ntmps52
  go_wp2
  go_loopw [0, 3] (fun n o wr => ∃ (f : Nat) (m : Int) (xs : List Int), 0 ≤ m ∧ m ≤ 1000000000000000000 ∧ m ≤ f ∧ n = .int .i64 m ∧ limbs N = xs ++ limbsF f m ∧ Left xs.length m ∧ (∀ x ∈ xs, 0 ≤ x ∧ x < 1000000) ∧
      wr.ownsRow w.heap.size 2 1 o xs.length (xs.map (Value.int .i64)) ∧ Below w.heap.size w wr) (fun n _ _ => (intOf n).toNat)
  case atStart => exact ⟨N.toNat, N, [], h0, h1, by omega, rfl, rfl, .inl ⟨rfl, h1⟩, (fun x hx => by cases hx), World.ownsRow_nil _ _ _ _, Below.refl _ _⟩
  case round =>
    obtain ⟨f, m, xs, hm0, hm1, hmf, rfl, hL, hleft, hdig, hown, hbel⟩ := hrel
    have HL := Lib.hid hL
    have HD := Lib.hid hdig
    have HB := Lib.hid hbel
    have HJ := Lib.hid hleft
    have hsz := hbel.size
    have hle := hleft.le
    clear hL hdig hbel hleft
    by_cases hp : 0 < m
    · obtain ⟨g, hg, hs⟩ := limbsF_step hp hmf
      have HG := Lib.hid hg
      have HS := Lib.hid hs
      clear hg hs
      go_wp2_with (at_builtin; refine wpList_append_own _ rfl _ _ 24 rfl w.heap.size 2 i0 (.int .i64 0) 1 8 Try.underlying24 hi hz0 hz1 hz2 rfl (by decide) _ _ _ rfl (hown.alloc _) ⟨_, 0, none⟩ 1 1 [.int .i64 (m % 1000000)] rfl rfl ?c1 ?c2 ?c3 ?c4 ?c5 ?_)
      case c1 => exact Go.Proofs.Ytcpipakpkmfhlaa.Ints.cell_new _ _ _
      case c2 => exact one_cell _
      case c3 => unfold maxLen; omega
      case c4 => omega
      case c5 => simp; omega
      intro v' w1 hown1 hgrow _
      have HO := Lib.hid (snoc_row hown1)
      have HW := Lib.hid ((HB.out.alloc hsz (Obj.cells #[Value.int IntKind.i64 (m % 1000000)] 2)).grown hgrow (by simp; omega) (fun k hk => (hown.lt k hk).1))
      clear hown1 hgrow hown
      go_wp2
      go_roundw
      case rel => exact ⟨g, m / 1000000, xs ++ [m % 1000000], by omega, by omega, by have := HG.out; omega, rfl, by rw [HL.out, HS.out]; simp, by simpa using HJ.out.step hp, fun x hx => by
        rcases List.mem_append.1 hx with h | h
        · exact HD.out x h
        · simp at h; subst h; omega, HO.out, HW.out⟩
      case measure => simp [intOf]; omega
    · have HZ := Lib.hid (limbsF_stop (f := f) hp)
      have HO := Lib.hid hown
      clear hown
      go_wp2
      go_ret
      refine ⟨_, rfl, ?_, HB.out⟩
      have e : limbs N = xs := by rw [HL.out, HZ.out]; simp
      rw [e]
      exact Ow.of_row HO.out (by omega) (fun x hx => by have := HD.out x hx; omega) hsz
set_option maxHeartbeats 1000000 in
theorem specLimbs (N : Int) (w : World) (h0 : 0 ≤ N) (h1 : N ≤ 1000000000000000000) :
    Calls Try.prog 25 #[.int .i64 N] w fun e w' => ∃ u, e = .returned u ∧ Ow w' w.heap.size w'.heap.size u (limbs N) ∧ Below w.heap.size w w' := by
  obtain ⟨i0, hi, hz0, hz1, hz2⟩ := info_parts infoE
  go_enter Try.func25, Try.ntmps25
  go_wp2
  go_loopw [0, 3] (fun n o wr => ∃ (f : Nat) (m : Int) (xs : List Int), 0 ≤ m ∧ m ≤ 1000000000000000000 ∧ m ≤ f ∧ n = .int .i64 m ∧ limbs N = xs ++ limbsF f m ∧ Left xs.length m ∧ (∀ x ∈ xs, 0 ≤ x ∧ x < 1000000) ∧
      wr.ownsRow w.heap.size 2 1 o xs.length (xs.map (Value.int .i64)) ∧ Below w.heap.size w wr) (fun n _ _ => (intOf n).toNat)
  case atStart => exact ⟨N.toNat, N, [], h0, h1, by omega, rfl, rfl, .inl ⟨rfl, h1⟩, (fun x hx => by cases hx), World.ownsRow_made w #[] 0 (Nat.le_refl _) (by unfold maxLen; omega) (by simp), (Below.refl _ _).alloc (Nat.le_refl _) _⟩
  case round =>
    obtain ⟨f, m, xs, hm0, hm1, hmf, rfl, hL, hleft, hdig, hown, hbel⟩ := hrel
    have HL := Lib.hid hL
    have HD := Lib.hid hdig
    have HB := Lib.hid hbel
    have HJ := Lib.hid hleft
    have hsz := hbel.size
    have hle := hleft.le
    clear hL hdig hbel hleft
    by_cases hp : 0 < m
    · obtain ⟨g, hg, hs⟩ := limbsF_step hp hmf
      have HG := Lib.hid hg
      have HS := Lib.hid hs
      clear hg hs
      go_wp2_with (at_builtin; refine wpList_append_own _ rfl _ _ 24 rfl w.heap.size 2 i0 (.int .i64 0) 1 8 Try.underlying24 hi hz0 hz1 hz2 rfl (by decide) _ _ _ rfl (hown.alloc _) ⟨_, 0, none⟩ 1 1 [.int .i64 (m % 1000000)] rfl rfl ?c1 ?c2 ?c3 ?c4 ?c5 ?_)
      case c1 => exact Go.Proofs.Ytcpipakpkmfhlaa.Ints.cell_new _ _ _
      case c2 => exact one_cell _
      case c3 => unfold maxLen; omega
      case c4 => omega
      case c5 => simp; omega
      intro v' w1 hown1 hgrow _
      have HO := Lib.hid (snoc_row hown1)
      have HW := Lib.hid ((HB.out.alloc hsz (Obj.cells #[Value.int IntKind.i64 (m % 1000000)] 2)).grown hgrow (by simp; omega) (fun k hk => (hown.lt k hk).1))
      clear hown1 hgrow hown
      go_wp2
      go_roundw
      case rel => exact ⟨g, m / 1000000, xs ++ [m % 1000000], by omega, by omega, by have := HG.out; omega, rfl, by rw [HL.out, HS.out]; simp, by simpa using HJ.out.step hp, fun x hx => by
        rcases List.mem_append.1 hx with h | h
        · exact HD.out x h
        · simp at h; subst h; omega, HO.out, HW.out⟩
      case measure => simp [intOf]; omega
    · have HZ := Lib.hid (limbsF_stop (f := f) hp)
      have HO := Lib.hid hown
      clear hown
      go_wp2
      go_ret
      refine ⟨_, rfl, ?_, HB.out⟩
      have e : limbs N = xs := by rw [HL.out, HZ.out]; simp
      rw [e]
      exact Ow.of_row HO.out (by omega) (fun x hx => by have := HD.out x hx; omega) hsz

end Go.Proofs.Ytcpipakpkmfhlaa.Ints
