/- Contracts of ValidMulti: the model's. -/
import Derived.Test.YtepdjlhlcjkdkaaJmu
import Derived.Test.YtepdjlhlcjkdkaaBet
import Derived.Test.YtepdjlhlcjkdkaaCmp
import Derived.Deep.QuietTactic
import Derived.BigQuiet
namespace Go.Proofs.Ytepdjlhlcjkdkaa.Ints
open Go.RowKit
set_option linter.unusedVariables false
set_option linter.unusedSimpArgs false
theorem drn_step {w w' : World} (h : ∃ m, w' = w.drewN m) (n : Nat) : ∃ m, w'.drewN n = w.drewN m := by
  obtain ⟨m, rfl⟩ := h; exact ⟨_, World.drewN_drewN _ _ _⟩
set_option maxHeartbeats 2000000 in
theorem specCmpQ (u v : Value) (xs ys : List Int) (w : World) (hu : Rd w u xs) (hv : Rd w v ys) :
    Calls Try.prog 164 #[u, v] w fun e w' => e = .returned (.int .i64 (cmpL xs ys)) ∧ ∃ m, w' = w.drewN m := by
  obtain ⟨hl, hf, a, c, rfl, hcap, hr⟩ := hu
  obtain ⟨hl', hf', a', c', rfl, hcap', hr'⟩ := hv
  go_enter Try.func164, Try.ntmps164
  go_wp2
  go_loopw [5] (fun s wr => ∃ k : Nat, k ≤ xs.length ∧ k ≤ ys.length ∧ s = .int .i64 k ∧ cmpL xs ys = cmpL (xs.drop k) (ys.drop k) ∧ ∃ m, wr = w.drewN m) (fun s _ => xs.length - (intOf s).toNat)
  case atStart => exact ⟨0, Nat.zero_le _, Nat.zero_le _, rfl, by simp, 0, rfl⟩
  case round =>
    obtain ⟨k, hk, hk', rfl, he, hbel⟩ := hrel
    have hcw : ∀ p : Addr, wr.cell? p = w.cell? p := fun p => by obtain ⟨m, hm⟩ := hbel; rw [hm]; rfl
    have HCW := Lib.hid hcw
    clear hcw
    have HE := Lib.hid he
    clear he
    by_cases hlt : k < xs.length
    · by_cases hlt' : k < ys.length
      · obtain ⟨b, o, rfl, hb, hcell⟩ := hr (by intro h0; rw [h0] at hlt; simp at hlt)
        obtain ⟨b', o', rfl, hb', hcell'⟩ := hr' (by intro h0; rw [h0] at hlt'; simp at hlt')
        obtain ⟨x, hx⟩ : ∃ x, x = xs.getD k 0 := ⟨_, rfl⟩
        obtain ⟨y, hy⟩ : ∃ y, y = ys.getD k 0 := ⟨_, rfl⟩
        have hc : wr.cell? ⟨b, o + k, none⟩ = some (.int .i64 x) := by rw [hx, HCW.out]; exact hcell k hlt
        have hc' : wr.cell? ⟨b', o' + k, none⟩ = some (.int .i64 y) := by rw [hy, HCW.out]; exact hcell' k hlt'
        have i0 : (0 : Int) ≤ (k : Int) := by omega
        have i1 : (k : Int) < (xs.length : Int) := by omega
        have i2 : (k : Int) < (ys.length : Int) := by omega
        have HB := Lib.hid hbel
        have HX := Lib.hid hx
        have HY := Lib.hid hy
        clear hcell hcell' hbel hr hr' hx hy
        by_cases h1 : x < y
        · have HC := Lib.hid (cmp_lt hlt hlt' (by rw [← HX.out, ← HY.out]; exact h1))
          go_wp2
          go_quiet (fail)
          go_wp2
          go_ret
          exact ⟨by rw [HE.out, HC.out] <;> rfl, (by first | exact drn_step HB.out _ | exact drn_step (drn_step HB.out _) _)⟩
        · have h1' : decide (x < y) = false := by simpa using h1
          by_cases h2 : y < x
          · have HC := Lib.hid (cmp_gt hlt hlt' (by rw [← HX.out, ← HY.out]; exact h2))
            go_wp2
            go_quiet (fail)
            go_wp2
            go_quiet (fail)
            go_wp2
            go_ret
            exact ⟨by rw [HE.out, HC.out] <;> rfl, (by first | exact drn_step HB.out _ | exact drn_step (drn_step HB.out _) _)⟩
          · have HC := Lib.hid (cmp_eq hlt hlt' (by rw [← HX.out, ← HY.out]; exact h1) (by rw [← HX.out, ← HY.out]; exact h2))
            have h2' : decide (y < x) = false := by simpa using h2
            go_wp2
            go_quiet (fail)
            go_wp2
            go_quiet (fail)
            go_wp2
            go_roundw
            case rel => exact ⟨k + 1, by omega, by omega, by go_num, by rw [HE.out, HC.out], (by first | exact drn_step HB.out _ | exact drn_step (drn_step HB.out _) _)⟩
            case measure => simp [intOf]; omega
      · have HC := Lib.hid (cmp_end hk hk' (by omega))
        have HB := Lib.hid hbel
        have n1 : ¬ (xs.length : Int) < (ys.length : Int) := by omega
        have n2 : (ys.length : Int) < (xs.length : Int) := by omega
        clear hbel
        go_wp2
        go_ret
        exact ⟨by rw [HE.out, HC.out, if_neg (by omega), if_pos (by omega)] <;> rfl, HB.out⟩
    · have HC := Lib.hid (cmp_end hk hk' (by omega))
      have HB := Lib.hid hbel
      clear hbel
      by_cases h1 : xs.length < ys.length
      · have n1 : (xs.length : Int) < (ys.length : Int) := by omega
        go_wp2
        go_ret
        exact ⟨by rw [HE.out, HC.out, if_pos (by omega)] <;> rfl, HB.out⟩
      · have n1 : ¬ (xs.length : Int) < (ys.length : Int) := by omega
        have n2 : ¬ (ys.length : Int) < (xs.length : Int) := by omega
        go_wp2
        go_ret
        exact ⟨by rw [HE.out, HC.out, if_neg (by omega), if_neg (by omega)] <;> rfl, HB.out⟩
theorem specCmpV (c : Int) (u v : Value) (xs ys : List Int) (w : World) (hu : Rd w u xs) (hv : Rd w v ys) (h : cmpL xs ys = c) :
    Calls Try.prog 164 #[u, v] w fun e w' => e = .returned (.int .i64 c) ∧ ∃ m, w' = w.drewN m := by
  rw [← h]; exact specCmpQ u v xs ys w hu hv
/-- A rule stands before another one. -/
def Bef (a b : Mr) : Prop := a.st < b.st ∨ a.st = b.st ∧ cmpL a.rd b.rd < 0
open Classical in
noncomputable def befB (a b : Mr) : Bool := decide (Bef a b)
theorem befB_iff {a b : Mr} : befB a b = true ↔ Bef a b := by simp [befB]
theorem befB_no {a b : Mr} (h : ¬ Bef a b) : befB a b = false := by simp [befB, h]
theorem befB_yes {a b : Mr} (h : Bef a b) : befB a b = true := by simp [befB, h]
set_option maxHeartbeats 4000000 in
theorem specBefore (b : Bool) (g o g' o' : Nat) (x y : Mr) (u v : Value) (w : World) (hu : Rd w u x.rd) (hv : Rd w v y.rd) (a0 : w.cell? ⟨g, o, none⟩ = some (.int .i64 x.st)) (a1 : w.cell? ⟨g, o + 1, none⟩ = some u)
    (b0 : w.cell? ⟨g', o', none⟩ = some (.int .i64 y.st)) (b1 : w.cell? ⟨g', o' + 1, none⟩ = some v) (h : befB x y = b) :
    Calls Try.prog 120 #[.pointer (some ⟨g, o, none⟩), .pointer (some ⟨g', o', none⟩)] w fun e w' => e = .returned (.bool b) ∧ ∃ m, w' = w.drewN m := by
  obtain ⟨s1, r1, _, _, _⟩ := x
  obtain ⟨s2, r2, _, _, _⟩ := y
  dsimp only at hu hv a0 b0
  have HU : Hid (∀ n, Rd (w.drewN n) u r1) := Lib.hid (fun n => hu.below (below_drewN (Below.refl _ _) n) (Nat.le_refl _))
  have HV : Hid (∀ n, Rd (w.drewN n) v r2) := Lib.hid (fun n => hv.below (below_drewN (Below.refl _ _) n) (Nat.le_refl _))
  have H := Lib.hid h
  clear hu hv h
  by_cases h1 : s1 < s2
  · have e1 : decide (s1 < s2) = true := decide_eq_true h1
    have HF : Hid (b = true) := Lib.hid (by rw [← H.out]; exact befB_yes (.inl h1))
    clear h1
    go_enter Try.func120, Try.ntmps120
    go_wp2
    go_quiet (fail)
    go_wp2
    go_ret
    exact ⟨by rw [HF.out] <;> rfl, _, rfl⟩
  have e1 : decide (s1 < s2) = false := decide_eq_false h1
  by_cases h2 : s1 = s2
  rotate_left
  · have e2 : (s1 == s2) = false := by simpa using h2
    have HF : Hid (b = false) := Lib.hid (by rw [← H.out]; exact befB_no (fun h => by rcases h with h | h; exact h1 h; exact h2 h.1))
    clear h1 h2
    go_enter Try.func120, Try.ntmps120
    go_wp2
    go_quiet (fail)
    go_wp2
    go_ret
    exact ⟨by rw [HF.out] <;> rfl, _, rfl⟩
  have e2 : (s1 == s2) = true := by simpa using h2
  obtain ⟨c, hc⟩ : ∃ c, c = cmpL r1 r2 := ⟨_, rfl⟩
  have HC := Lib.hid hc
  obtain ⟨bb, hbb⟩ : ∃ bb, bb = decide (c < 0) := ⟨_, rfl⟩
  have HF : Hid (b = bb) := Lib.hid (by
    rw [← H.out, hbb]
    by_cases hn : c < 0
    · rw [decide_eq_true hn]; exact befB_yes (.inr ⟨h2, by show cmpL r1 r2 < 0; rw [← hc]; exact hn⟩)
    · rw [decide_eq_false hn]; exact befB_no (fun h => by rcases h with h | h; exact h1 h; exact hn (by rw [hc]; exact h.2)))
  have HBB := Lib.hid hbb
  clear h1 h2 hc hbb
  rcases eqOr bb with hb | hb
  all_goals
    subst hb
    have e3 := HBB.out.symm
    go_enter Try.func120, Try.ntmps120
    go_wp2
    go_quiet ((go_at_call 164; exact Calls.quiet_of (specCmpV c _ _ r1 r2 _ (HU.out _) (HV.out _) HC.out.symm)))
    go_wp2
    go_ret
    exact ⟨by rw [HF.out] <;> rfl, _, rfl⟩
/-- A rule of a valid machine. -/
noncomputable def rowB (tp lo hi : Int) (zs : List Int) : Bool := decide ((zs.length : Int) = tp) && betB lo hi zs
noncomputable def stB2 (st : Int) (m : Mr) : Bool := decide (0 ≤ m.st ∧ m.st ≤ st - 1) && decide (0 ≤ m.nx ∧ m.nx ≤ st - 1)
noncomputable def rwB (tp sy : Int) (m : Mr) : Bool := rowB tp 0 (sy - 1) m.rd && (rowB tp 0 (sy - 1) m.wr && rowB tp (-1) 1 m.mv)
structure MuHd (tp sy st : Int) (n : Nat) : Prop where
  t : 2 ≤ tp ∧ tp ≤ 3
  s : 2 ≤ sy ∧ sy ≤ 3
  q : 1 ≤ st ∧ st ≤ 16
  n : n ≤ 60
structure MuTo (tp sy st : Int) (ms : List Mr) (k : Nat) : Prop where
  a : ∀ i, i < k → stB2 st (ms.getD i mr0) = true ∧ rwB tp sy (ms.getD i mr0) = true
  o : ∀ i, i + 1 < k → Bef (ms.getD i mr0) (ms.getD (i + 1) mr0)
def MuOk (tp sy st : Int) (ms : List Mr) : Prop := MuHd tp sy st ms.length ∧ MuTo tp sy st ms ms.length
open Classical in
noncomputable def muB (tp sy st : Int) (ms : List Mr) : Bool := decide (MuOk tp sy st ms)
theorem muB_no {tp sy st : Int} {ms : List Mr} (h : ¬ MuOk tp sy st ms) : muB tp sy st ms = false := by simp [muB, h]
theorem muB_yes {tp sy st : Int} {ms : List Mr} (h : MuOk tp sy st ms) : muB tp sy st ms = true := by simp [muB, h]
theorem MuTo.step {tp sy st : Int} {ms : List Mr} {k : Nat} (h : MuTo tp sy st ms k) (h1 : stB2 st (ms.getD k mr0) = true) (h2 : rwB tp sy (ms.getD k mr0) = true) (h3 : 0 < k → Bef (ms.getD (k - 1) mr0) (ms.getD k mr0)) : MuTo tp sy st ms (k + 1) := by
  refine ⟨fun i hi => ?_, fun i hi => ?_⟩
  · by_cases e : i = k
    · subst e; exact ⟨h1, h2⟩
    · exact h.a i (by omega)
  · by_cases e : i + 1 = k
    · subst e; have := h3 (by omega); simpa using this
    · exact h.o i (by omega)
end Go.Proofs.Ytepdjlhlcjkdkaa.Ints
