/- ExponentsAt, of the model and of the program. -/
import Derived.Test.YtmbojhlcmgknbaaVl
import Derived.Test.YtmbojhlcmgknbaaSnI
import Derived.Test.YtmbojhlcmgknbaaPrm
import Derived.Test.YtmbojhlcmgknbaaCel
import Derived.Test.YtmbojhlcmgknbaaIn
import Derived.Maps.AppendAt
import Derived.BigQuiet
import Derived.Deep.QuietTactic
namespace Go.Proofs.Ytmbojhlcmgknbaa.Ints
open Go.RowKit
open Math (NoDiv primeB primeB_true primeB_false)
set_option linter.unusedVariables false
set_option linter.unusedSimpArgs false
def Bd (zs : List Int) : Prop := ∀ i, i < zs.length → 2 ≤ zs.getD i 0 ∧ zs.getD i 0 ≤ 999999
open Classical in
noncomputable def riseE (zs : List Int) : Bool := decide (Inc zs zs.length ∧ Bd zs)
theorem riseE_true {zs : List Int} (h : Inc zs zs.length) (k : ∀ i, i < zs.length → 2 ≤ zs.getD i 0 ∧ zs.getD i 0 ≤ 999999) : riseE zs = true := by simp only [riseE, decide_eq_true_eq]; exact ⟨h, k⟩
theorem riseE_inc {zs : List Int} (h : ¬ Inc zs zs.length) : riseE zs = false := by simp only [riseE, decide_eq_false_iff_not]; exact fun q => h q.1
theorem riseE_bd {zs : List Int} (h : ¬ Bd zs) : riseE zs = false := by simp only [riseE, decide_eq_false_iff_not]; exact fun q => h q.2
theorem riseE_ok {zs : List Int} (h : riseE zs = true) : Inc zs zs.length ∧ Bd zs := by simpa [riseE] using h
def AllP (zs : List Int) : Prop := ∀ i, i < zs.length → NoDiv (zs.getD i 0)
structure ExOk (zs : List Int) : Prop where
  len : zs.length ≤ 64
  inc : Inc zs zs.length
  bd : Bd zs
  pr : AllP zs
open Classical in
noncomputable def exB (zs : List Int) : Bool := decide (ExOk zs)
theorem exB_true {zs : List Int} (h : ExOk zs) : exB zs = true := by simp [exB, h]
theorem exB_false {zs : List Int} (h : ¬ ExOk zs) : exB zs = false := by simp [exB, h]
theorem exB_ok {zs : List Int} (h : exB zs = true) : ExOk zs := by simpa [exB] using h
noncomputable def posB (n : List Int) : Bool := natB n && decide (0 < n.length)
/-- The exponents of the first primes, and what is left. -/
noncomputable def exS (n ps : List Int) : Nat → List Int × List Int
  | 0 => ([], n)
  | k + 1 => ((exS n ps k).1 ++ [((vlN (exS n ps k).2 (ps.getD k 0) : Nat) : Int)], canOf (rsN (exS n ps k).2 (ps.getD k 0)))
noncomputable def exR (n ps : List Int) : List Int × List Int × Int :=
  if posB n = false then ([], [], 1) else if exB ps = false then ([], [], 2) else ((exS n ps ps.length).1, (exS n ps ps.length).2, 0)
theorem exS_len (n ps : List Int) (k : Nat) : (exS n ps k).1.length = k := by
  induction k with
  | zero => rfl
  | succ k ih => simp only [exS, List.length_append, ih, List.length_singleton]
theorem rsF_pos (f : Nat) : ∀ m p : Int, 0 < m → 2 ≤ p → 0 < rsF f m p ∧ rsF f m p ≤ m := by
  induction f with
  | zero => intro m p h _; exact ⟨h, Int.le_refl _⟩
  | succ f ih =>
    intro m p h hp
    rw [rsF]
    split
    · exact ⟨h, Int.le_refl _⟩
    · rename_i hz
      have h1 := div_exact h hp (by omega)
      have h2 := div_less h hp
      have h3 := ih (m / p) p h1 hp
      omega
theorem rs_fits {xs : List Int} {p : Int} (h : natB xs = true) (h0 : 0 < xs.length) (hp : 2 ≤ p) : natB (canOf (rsN xs p)) = true ∧ 0 < (canOf (rsN xs p)).length ∧ Can (canOf (rsN xs p)) ∧ (canOf (rsN xs p)).length ≤ 40 := by
  obtain ⟨hc, hl⟩ := natB_can h
  have hv := val_pos hc h0
  obtain ⟨r0, r1⟩ := rsF_pos (val xs).toNat (val xs) p hv hp
  obtain ⟨c1, c2⟩ := canOf_spec (v := rsN xs p) (by unfold rsN; omega)
  have hlen : (canOf (rsN xs p)).length ≤ xs.length := can_len c1 (by
    rw [c2]; have := val_lt hc.1; unfold rsN; omega)
  refine ⟨can_natB c1 (by omega), ?_, c1, by omega⟩
  rcases Nat.eq_zero_or_pos (canOf (rsN xs p)).length with hz | hz
  · exfalso
    have : canOf (rsN xs p) = [] := List.length_eq_zero_iff.1 hz
    rw [this] at c2
    have e : val ([] : List Int) = 0 := rfl
    rw [e] at c2
    unfold rsN at c2; omega
  · exact hz
theorem exS_ok {n ps : List Int} (hn : natB n = true) (h0 : 0 < n.length) (hp : Bd ps) : ∀ k, k ≤ ps.length → natB (exS n ps k).2 = true ∧ 0 < (exS n ps k).2.length := by
  intro k
  induction k with
  | zero => intro _; exact ⟨hn, h0⟩
  | succ k ih =>
    intro hk
    obtain ⟨i1, i2⟩ := ih (by omega)
    have h := rs_fits i1 i2 (hp k (by omega)).1
    exact ⟨h.1, h.2.1⟩
theorem vl_zero {f : Nat} {m p : Int} (h0 : 0 < m) (hf : m ≤ f) (h : vlF f m p = 0) : ¬ m % p = 0 := by
  intro hz
  obtain ⟨g, _, h2⟩ := vlF_step h0 hf hz
  omega
theorem vl_one {f : Nat} {m p : Int} (h : 0 < vlF f m p) : m % p = 0 := by
  rcases Int.decEq (m % p) 0 with hz | hz
  · rw [vlF_stop hz] at h; omega
  · exact hz
theorem Ow.snocAt {wr w1 : World} {B T : Nat} {ov v' rv : Value} {xs ys : List Int} {x : Int} (h : Ow wr B T ov xs) (hr : Ow wr B wr.heap.size rv ys) (hs : Sep ov rv)
    (hgrow : (wr.alloc (Obj.cells #[Value.int IntKind.i64 x] 2)).grownBy w1 ov.ownBlock) (hat : v'.ownBlock = ov.ownBlock ∨ v'.ownBlock = some (wr.heap.size + 1)) :
    Ow w1 B w1.heap.size rv ys ∧ Sep v' rv := by
  have h1 := hr.below ((Below.refl wr.heap.size wr).alloc (Nat.le_refl _) (Obj.cells #[Value.int IntKind.i64 x] 2)) (Nat.le_refl _)
  refine ⟨(h1.grown hgrow hs.2).up, ?_⟩
  rcases hat with e | e
  · exact ⟨by rw [e]; exact hs.1, by rw [e]; exact hs.2⟩
  · refine ⟨.inr ?_, .inr ?_⟩
    · rw [e]; intro q
      have := hr.top _ q.symm
      omega
    · rw [e]; intro q
      have := hr.top _ q
      omega
set_option maxRecDepth 100000 in
set_option maxHeartbeats 4000000 in
theorem specRisesE (v : Value) (zs : List Int) (w : World) (h : Rd w v zs) :
    Calls Try.prog 11 #[v, .int .i64 2, .int .i64 999999] w fun e w' => e = .returned (.bool (riseE zs)) ∧ Below w.heap.size w w' := by
  obtain ⟨hl, hf, a, c, rfl, hcap, hr⟩ := h
  have HR := Lib.hid hr
  clear hr
  go_enter Try.func11, Try.ntmps11
  go_wp2
  go_loopw [7] (fun s wr => ∃ k : Nat, k ≤ zs.length ∧ s = .int .i64 k ∧ (Inc zs k ∧ ∀ i, i < k → 2 ≤ zs.getD i 0 ∧ zs.getD i 0 ≤ 999999) ∧ Below w.heap.size w wr) (fun s _ => zs.length - (intOf s).toNat)
  case atStart => exact ⟨0, Nat.zero_le _, rfl, ⟨(fun i hi => by omega), (fun i hi => by omega)⟩, Below.refl _ _⟩
  case round =>
    obtain ⟨k, hk, rfl, hall, hbel⟩ := hrel
    have HA := Lib.hid hall
    have HB := Lib.hid hbel
    clear hall
    by_cases hlt : k < zs.length
    · obtain ⟨b, o, rfl, hb, hcell⟩ := HR.out (by intro h0; rw [h0] at hlt; simp at hlt)
      obtain ⟨x, hx⟩ : ∃ x, x = zs.getD k 0 := ⟨_, rfl⟩
      have hc : wr.cell? ⟨b, o + k, none⟩ = some (.int .i64 x) := by rw [hx]; exact (hbel.cell hb).trans (hcell k hlt)
      have i0 : (0 : Int) ≤ (k : Int) := by omega
      have i1 : (k : Int) < (zs.length : Int) := by omega
      have HX := Lib.hid hx
      by_cases hg : 2 ≤ x ∧ x ≤ 999999
      · have HG := Lib.hid hg
        by_cases hk0 : k = 0
        · have hN : Inc zs (k + 1) ∧ ∀ i, i < k + 1 → 2 ≤ zs.getD i 0 ∧ zs.getD i 0 ≤ 999999 := ⟨fun i hi => by omega, fun i hi => by
            obtain rfl : i = k := by omega
            rw [← HX.out]; have := HG.out; omega⟩
          have HN := Lib.hid hN
          have dz : decide ((0 : Int) < (k : Int)) = false := decide_eq_false (by omega)
          have dz2 : decide (0 < k) = false := decide_eq_false (by omega)
          clear hN hcell hbel hx hg hk0
          go_wp2
          go_quiet ((go_at_call 23; exact Calls.quiet_of_same (specInB _ _ _ true _ ⟨fun _ => HG.out, fun _ => rfl⟩)))
          go_wp2
          go_roundw
          case rel => exact ⟨k + 1, by omega, by go_num, HN.out, below_drewN HB.out _⟩
          case measure => simp [intOf]; omega
        · obtain ⟨y, hy⟩ : ∃ y, y = zs.getD (k - 1) 0 := ⟨_, rfl⟩
          have hc2 : wr.cell? ⟨b, o + (k - 1), none⟩ = some (.int .i64 y) := by rw [hy]; exact (hbel.cell hb).trans (hcell (k - 1) (by omega))
          have HY := Lib.hid hy
          have j0 : (0 : Int) ≤ (k : Int) - 1 := by omega
          have j1 : (k : Int) - 1 < (zs.length : Int) := by omega
          have j2 : ((k : Int) - 1).toNat = k - 1 := by omega
          have dz : (0 : Int) < (k : Int) := by omega
          have dz2 : 0 < k := by omega
          by_cases hxy : y < x
          · have hN : Inc zs (k + 1) ∧ ∀ i, i < k + 1 → 2 ≤ zs.getD i 0 ∧ zs.getD i 0 ≤ 999999 := ⟨HA.out.1.up (fun _ => by rw [← HX.out, ← HY.out]; exact hxy), fun i hi => by
              by_cases he : i = k
              · subst he; rw [← HX.out]; have := HG.out; omega
              · exact HA.out.2 i (by omega)⟩
            have HN := Lib.hid hN
            have dx : decide (x ≤ y) = false := decide_eq_false (by omega)
            clear hN hcell hbel hx hy hg hk0 hxy
            go_wp2
            go_quiet ((go_at_call 23; exact Calls.quiet_of_same (specInB _ _ _ true _ ⟨fun _ => HG.out, fun _ => rfl⟩)))
            go_wp2
            go_roundw
            case rel => exact ⟨k + 1, by omega, by go_num, HN.out, below_drewN HB.out _⟩
            case measure => simp [intOf]; omega
          · have hF : riseE zs = false := riseE_inc fun H => by
              have := H (k - 1) (by omega)
              rw [show k - 1 + 1 = k by omega, ← HX.out, ← HY.out] at this
              omega
            have HF := Lib.hid hF
            have dx : decide (x ≤ y) = true := decide_eq_true (by omega)
            clear hF hcell hbel hx hy hg hk0
            go_wp2
            go_quiet ((go_at_call 23; exact Calls.quiet_of_same (specInB _ _ _ true _ ⟨fun _ => HG.out, fun _ => rfl⟩)))
            go_wp2
            go_ret
            exact ⟨by rw [HF.out] <;> rfl, below_drewN HB.out _⟩
      · have HI : Hid (¬ (2 ≤ x ∧ x ≤ 999999)) := Lib.hid hg
        have hF : riseE zs = false := riseE_bd fun H => hg (by have := H k hlt; rw [← HX.out] at this; omega)
        have HF := Lib.hid hF
        clear hF hcell hbel hx hg
        go_wp2
        go_quiet ((go_at_call 23; exact Calls.quiet_of_same (specInB _ _ _ false _ ⟨fun h => (by cases h), fun h => (by have := HI.out; omega)⟩)))
        go_wp2
        go_ret
        exact ⟨by rw [HF.out] <;> rfl, below_drewN HB.out _⟩
    · obtain rfl : k = zs.length := by omega
      have HF : Hid (riseE zs = true) := Lib.hid (riseE_true HA.out.1 (fun i hi => HA.out.2 i hi))
      have i1 : ¬ (zs.length : Int) < (zs.length : Int) := by omega
      clear hbel
      go_wp2
      go_ret
      exact ⟨by rw [HF.out] <;> rfl, HB.out⟩
set_option maxRecDepth 100000 in
set_option maxHeartbeats 8000000 in
theorem specExp (u : Value) (n : List Int) (v : Value) (ps : List Int) (w : World) (hu : Rd w u n) (hv : Rd w v ps) :
    Calls Try.prog 4 #[u, v] w fun e w' => ∃ r q, e = .returned (.tuple #[r, q, .int .i64 (exR n ps).2.2]) ∧ Ow w' w.heap.size w'.heap.size r (exR n ps).1 ∧ Ow w' w.heap.size w'.heap.size q (exR n ps).2.1 ∧ Sep r q ∧ Below w.heap.size w w' := by
  have HU := Lib.hid hu
  have HV := Lib.hid hv
  have hpl := hv.len
  obtain ⟨a, c, rfl⟩ : ∃ a c, u = .slice a n.length c := by obtain ⟨_, _, a, c, e, _⟩ := hu; exact ⟨a, c, e⟩
  obtain ⟨_, _, a2, c2, rfl, hcap2, hr2⟩ := hv
  have HR2 := Lib.hid hr2
  clear hu hr2
  obtain ⟨i0, hi, hz0, hz1, hz2⟩ := info_parts infoE
  have HSE : Hid (Sep (.slice none 0 0) (.slice none 0 0)) := Lib.hid ⟨.inl rfl, .inl rfl⟩
  rcases eqOr (natB n) with hx | hx
  · have HX := Lib.hid hx
    have e0 : Hid (exR n ps = ([], [], 1)) := Lib.hid (by simp [exR, posB, hx])
    clear hx
    go_enter Try.func4, Try.ntmps4
    go_wp2_with (first | (go_at_call 22; refine (specNat _ n _ HU.out).mono ?_; rintro e w' ⟨rfl, rfl⟩; rw [HX.out]) | go_in)
    go_ret3
    exact ⟨_, _, by rw [e0.out] <;> rfl, by rw [e0.out]; exact Ow.empty w, by rw [e0.out]; exact Ow.empty w, HSE.out, Below.refl _ _⟩
  have HX := Lib.hid hx
  by_cases h0 : 0 < n.length
  rotate_left
  · have e0 : Hid (exR n ps = ([], [], 1)) := Lib.hid (by simp [exR, posB, h0])
    have h1 : ¬ (0 : Int) < (n.length : Int) := by omega
    clear hx
    go_enter Try.func4, Try.ntmps4
    go_wp2_with (first | (go_at_call 22; refine (specNat _ n _ HU.out).mono ?_; rintro e w' ⟨rfl, rfl⟩; rw [HX.out]) | go_in)
    go_ret3
    exact ⟨_, _, by rw [e0.out] <;> rfl, by rw [e0.out]; exact Ow.empty w, by rw [e0.out]; exact Ow.empty w, HSE.out, Below.refl _ _⟩
  have hpos : ¬ posB n = false := by simp [posB, hx, h0]
  have h1 : (0 : Int) < (n.length : Int) := by omega
  have HBAD : Hid (¬ ExOk ps → exR n ps = ([], [], 2)) := Lib.hid (fun h => by rw [exR, if_neg hpos, if_pos (exB_false h)])
  have HGOOD : Hid (ExOk ps → exR n ps = ((exS n ps ps.length).1, (exS n ps ps.length).2, 0)) := Lib.hid (fun h => by rw [exR, if_neg hpos, if_neg (by rw [exB_true h]; simp)])
  have HN := Lib.hid hx
  clear hx hpos
  by_cases h64 : ps.length ≤ 64
  rotate_left
  · have e0 := Lib.hid (HBAD.out fun h => h64 h.len)
    have h2 : (64 : Int) < (ps.length : Int) := by omega
    go_enter Try.func4, Try.ntmps4
    go_wp2_with (first | (go_at_call 22; refine (specNat _ n _ HU.out).mono ?_; rintro e w' ⟨rfl, rfl⟩; rw [HX.out]) | go_in)
    go_ret3
    exact ⟨_, _, by rw [e0.out] <;> rfl, by rw [e0.out]; exact Ow.empty w, by rw [e0.out]; exact Ow.empty w, HSE.out, Below.refl _ _⟩
  have h2 : ¬ (64 : Int) < (ps.length : Int) := by omega
  rcases eqOr (riseE ps) with hr | hr
  · have HRI := Lib.hid hr
    have e0 := Lib.hid (HBAD.out fun h => by rw [riseE_true h.inc h.bd] at hr; cases hr)
    clear hr
    go_enter Try.func4, Try.ntmps4
    go_wp2_with (first | (go_at_call 11; refine (specRisesE _ ps _ HV.out).mono ?_; rintro e w2 ⟨rfl, hb⟩; rw [HRI.out]; have HB := Lib.hid hb; clear hb) | (go_at_call 22; refine (specNat _ n _ HU.out).mono ?_; rintro e w' ⟨rfl, rfl⟩; rw [HX.out]) | go_in)
    go_ret3
    exact ⟨_, _, by rw [e0.out] <;> rfl, by rw [e0.out]; exact Ow.emptyUp HB.out.size, by rw [e0.out]; exact Ow.emptyUp HB.out.size, HSE.out, HB.out⟩
  have HRI := Lib.hid hr
  have HINC := Lib.hid (riseE_ok hr)
  clear hr
  go_enter Try.func4, Try.ntmps4
  go_wp2_with (first | (go_at_call 11; refine (specRisesE _ ps _ HV.out).mono ?_; rintro e w2 ⟨rfl, hb⟩; rw [HRI.out]; have HB := Lib.hid hb; clear hb) | (go_at_call 22; refine (specNat _ n _ HU.out).mono ?_; rintro e w' ⟨rfl, rfl⟩; rw [HX.out]) | go_in)
  go_loopw [7] (fun s wr => ∃ k : Nat, k ≤ ps.length ∧ s = .int .i64 k ∧ (∀ i, i < k → NoDiv (ps.getD i 0)) ∧ wr = w2) (fun s _ => ps.length - (intOf s).toNat)
  case atStart => exact ⟨0, Nat.zero_le _, rfl, fun i hi => by omega, rfl⟩
  case round =>
    obtain ⟨k, hk, rfl, hall, rfl⟩ := hrel
    have HA := Lib.hid hall
    clear hall
    by_cases hlt : k < ps.length
    · obtain ⟨b, o, rfl, hb, hcell⟩ := HR2.out (by intro q; rw [q] at hlt; simp at hlt)
      obtain ⟨x, hxe⟩ : ∃ x, x = ps.getD k 0 := ⟨_, rfl⟩
      have hc := (HB.out.cell (p := ⟨b, o + k, none⟩) hb).trans (hcell k hlt)
      rw [← hxe] at hc
      have HXE := Lib.hid hxe
      have hbd := HINC.out.2 k hlt
      rw [← hxe] at hbd
      have j0 : (0 : Int) ≤ (k : Int) := by omega
      have j1 : (k : Int) < (ps.length : Int) := by omega
      clear hcell hxe
      by_cases hnd : NoDiv x
      · have HP : Hid (primeB x = true) := Lib.hid (primeB_true hnd)
        have HA2 : Hid (∀ i, i < k + 1 → NoDiv (ps.getD i 0)) := Lib.hid (fun i hi => by
          by_cases he : i = k
          · subst he; rw [← HXE.out]; exact hnd
          · exact HA.out i (by omega))
        go_wp2_with fail
        refine (Math.spec_prime x _ (by omega) (by omega)).mono ?_
        rintro e w' ⟨rfl, rfl⟩
        rw [HP.out]
        go_wp2
        go_roundw
        case rel => exact ⟨k + 1, by omega, by go_num, HA2.out, by trivial⟩
        case measure => simp [intOf]; omega
      · have HP : Hid (primeB x = false) := Lib.hid (primeB_false hnd)
        have e0 := Lib.hid (HBAD.out fun h => hnd (by rw [HXE.out]; exact h.pr k hlt))
        go_wp2_with fail
        refine (Math.spec_prime x _ (by omega) (by omega)).mono ?_
        rintro e w' ⟨rfl, rfl⟩
        rw [HP.out]
        go_wp2
        go_ret3
        exact ⟨_, _, by rw [e0.out] <;> rfl, by rw [e0.out]; exact Ow.emptyUp HB.out.size, by rw [e0.out]; exact Ow.emptyUp HB.out.size, HSE.out, HB.out⟩
    obtain rfl : k = ps.length := by omega
    have HOK : Hid (ExOk ps) := Lib.hid ⟨h64, HINC.out.1, HINC.out.2, fun i hi => HA.out i hi⟩
    have E := Lib.hid (HGOOD.out HOK.out)
    have hnlt : ¬ ((ps.length : Int) < (ps.length : Int)) := by omega
    have HEX := Lib.hid (exS_ok HN.out h0 HOK.out.bd)
    obtain ⟨W3, hW3⟩ : ∃ W, W = wr.alloc (Obj.cells #[] 2) := ⟨_, rfl⟩
    have HB3 : Hid (Below w.heap.size w W3) := Lib.hid (by rw [hW3]; exact HB.out.alloc HB.out.size _)
    have HO3 : Hid (Ow W3 w.heap.size W3.heap.size (.slice (some ⟨wr.heap.size, 0, none⟩) 0 0) []) := Lib.hid (by rw [hW3]; exact (Ow.made wr).mono HB.out.size (Nat.le_refl _) (Nat.le_refl _))
    have HW3 := Lib.hid hW3.symm
    clear hlt hW3
    go_wp2_with fail
    rw [HW3.out]
    refine (specOwn _ n _ (HU.out.below HB3.out (Nat.le_refl _))).mono ?_
    rintro e w4 ⟨q0, rfl, ho4, hb4⟩
    have HB4 := Lib.hid (HB3.out.trans (hb4.mono HB3.out.size))
    have HS4 := Lib.hid (sep_of HO3.out.top ho4.row.lt HO3.out.size)
    have HO4 := Lib.hid ((HO3.out.below hb4 (Nat.le_refl _)).up)
    have HR4 : Hid (Ow w4 w.heap.size w4.heap.size q0 n) := Lib.hid (ho4.mono HB3.out.size (Nat.le_refl _) (Nat.le_refl _))
    clear ho4 hb4
    go_wp2
    go_loopw [8, 9, 10] (fun o r s wr => ∃ (k : Nat) (ov rv : Value), o = ov ∧ r = rv ∧ k ≤ ps.length ∧ s = .int .i64 k ∧ Ow wr w.heap.size wr.heap.size ov (exS n ps k).1 ∧ Ow wr w.heap.size wr.heap.size rv (exS n ps k).2 ∧ Sep ov rv ∧ Below w.heap.size w wr) (fun _ _ s _ => ps.length - (intOf s).toNat)
    case atStart => exact ⟨0, _, _, rfl, rfl, Nat.zero_le _, rfl, HO4.out, HR4.out, HS4.out, HB4.out⟩
    case round =>
      obtain ⟨k, ov, rv, hov, hrv, hk, rfl, ho, hr, hs, hbel⟩ := hrel
      obtain rfl := hov.symm
      obtain rfl := hrv.symm
      have HO := Lib.hid ho
      have HR := Lib.hid hr
      have HS := Lib.hid hs
      have HBB := Lib.hid hbel
      clear ho hr hs
      by_cases hlt : k < ps.length
      · obtain ⟨b, o, rfl, hb, hcell⟩ := HR2.out (by intro q; rw [q] at hlt; simp at hlt)
        obtain ⟨p, hpe⟩ : ∃ x, x = ps.getD k 0 := ⟨_, rfl⟩
        have hcw := hcell k hlt
        rw [← hpe] at hcw
        have hc := (hbel.cell (p := ⟨b, o + k, none⟩) hb).trans hcw
        have HCW : Hid (∀ W, Below w.heap.size w W → W.cell? ⟨b, o + k, none⟩ = some (.int .i64 p)) := Lib.hid (fun W hW => (hW.cell (p := ⟨b, o + k, none⟩) hb).trans hcw)
        have hbd := HOK.out.bd k hlt
        obtain ⟨hn1, hn2⟩ := HEX.out k (by omega)
        have hex : exS n ps (k + 1) = ((exS n ps k).1 ++ [((vlN (exS n ps k).2 p : Nat) : Int)], canOf (rsN (exS n ps k).2 p)) := by rw [hpe]; rfl
        have hxl := exS_len n ps k
        obtain ⟨A, hA⟩ : ∃ A, A = (exS n ps k).1 := ⟨_, rfl⟩
        obtain ⟨R, hR⟩ : ∃ R, R = (exS n ps k).2 := ⟨_, rfl⟩
        rw [← hR] at hn1 hn2 HR hex
        rw [← hA] at HO hex hxl
        rw [← hpe] at hbd
        have HEXS := Lib.hid hex
        obtain ⟨T, hT⟩ : ∃ T, T = vlN R p := ⟨_, rfl⟩
        obtain ⟨Sv, hSv⟩ : ∃ S, S = rsN R p := ⟨_, rfl⟩
        have hT8 : T < 800 := by rw [hT]; exact vl_small (natB_can hn1).1 (natB_can hn1).2 hn2 _ p hbd.1
        have HCAN := Lib.hid (natB_can hn1)
        have HVP := Lib.hid (val_pos (natB_can hn1).1 hn2)
        have HTF : Hid (vlF (val R).toNat (val R) p = T) := Lib.hid hT.symm
        have HSF : Hid (rsF (val R).toNat (val R) p = Sv) := Lib.hid hSv.symm
        rw [← hT, ← hSv] at HEXS
        have hvl := specVlLoop rv R p wr HR.out.rd (natB_can hn1) hn2 hbd.1 hbd.2
        rw [← hT] at hvl
        have HVL := Lib.hid hvl
        have j0 : (0 : Int) ≤ (k : Int) := by omega
        have j1 : (k : Int) < (ps.length : Int) := by omega
        clear hcell hpe hex hA hR hT hSv hn1 hn2 hcw hvl hbel
        go_wp2_with fail
        refine HVL.out.mono ?_
        rintro e w5 ⟨rfl, hb5⟩
        have HB5 := Lib.hid (HBB.out.trans (hb5.mono HBB.out.size))
        have HO5 := Lib.hid ((HO.out.below hb5 (Nat.le_refl _)).up)
        have HR5 := Lib.hid ((HR.out.below hb5 (Nat.le_refl _)).up)
        clear hb5 hc
        go_wp2
        go_loopw [9, 12] (fun r s wr => ∃ (j f : Nat) (xs : List Int) (rv : Value), r = rv ∧ s = .int .i64 j ∧ Ow wr w.heap.size wr.heap.size rv xs ∧ Can xs ∧ xs.length ≤ 40 ∧ 0 < val xs ∧ val xs ≤ f ∧ j + vlF f (val xs) p = T ∧ rsF f (val xs) p = Sv ∧ Sep ov rv ∧ Below w5.heap.size w5 wr) (fun _ s _ => T - (intOf s).toNat)
        case atStart => exact ⟨0, (val R).toNat, R, _, rfl, rfl, HR5.out, HCAN.out.1, HCAN.out.2, HVP.out, by have := HVP.out; omega, by rw [HTF.out]; omega, HSF.out, HS.out, Below.refl _ _⟩
        case round =>
          obtain ⟨j, f, xs, rv2, hrv2, rfl, hr, hcx, hl40, hv0, hvf, hjt, hrs, hs, hb6⟩ := hrel
          obtain rfl := hrv2.symm
          have HR6 := Lib.hid hr
          have HCX := Lib.hid hcx
          have HS6 := Lib.hid hs
          have HB6 := Lib.hid hb6
          have HBW := Lib.hid (HB5.out.trans (hb6.mono HB5.out.size))
          have HJT := Lib.hid hjt
          have HRS := Lib.hid hrs
          by_cases hjl : j < T
          · have hz : val xs % p = 0 := vl_one (f := f) (by omega)
            have hst := rsF_step hv0 hvf hz
            have hdv : Can (canOf (val xs / p)) ∧ val (canOf (val xs / p)) = val xs / p ∧ (canOf (val xs / p)).length ≤ xs.length := div_fits hcx (by omega)
            have hd2 := div_exact hv0 hbd.1 hz
            have hd3 := div_less hv0 hbd.1
            have HST := Lib.hid hst
            have HDV := Lib.hid hdv
            have HD2 := Lib.hid (And.intro hd2 hd3)
            have hcw := HCW.out _ HBW.out
            have j2 : (j : Int) < (T : Int) := by omega
            have j3 : (0 : Int) ≤ (j : Int) := by omega
            clear hr hcx hs hb6 hjt hrs hst hdv hd2 hd3 hz
            go_wp2_with fail
            refine (specBy _ xs p _ HR6.out.rd HCX.out.1 (by omega) (by omega) (by omega)).mono ?_
            rintro e w7 ⟨r7, rfl, ho7, hb7⟩
            have HO7 : Hid (Ow w7 w.heap.size w7.heap.size r7 (canOf (val xs / p))) := Lib.hid (ho7.mono HBW.out.size (Nat.le_refl _) (Nat.le_refl _))
            have HS7 := Lib.hid (sep_of (HO5.out.below HB6.out (Nat.le_refl _)).top ho7.row.lt (HB6.out.size))
            have HB7 := Lib.hid (HB6.out.trans (hb7.mono HB6.out.size))
            clear ho7 hb7 hcw
            go_wp2
            go_roundw
            case rel =>
              obtain ⟨g, hg, hs1, hs2⟩ := HST.out
              exact ⟨j + 1, g, _, _, rfl, by go_num, HO7.out, HDV.out.1, by have := HDV.out.2.2; omega, by rw [HDV.out.2.1]; exact HD2.out.1, by rw [HDV.out.2.1]; have := HD2.out.2; omega, by rw [HDV.out.2.1]; have := HJT.out; omega, by rw [HDV.out.2.1, ← hs2]; exact HRS.out, HS7.out, HB7.out⟩
            case measure => simp [intOf]; omega
          · have hz : vlF f (val xs) p = 0 := by omega
            obtain rfl : j = T := by omega
            have hnz := vl_zero hv0 hvf hz
            have HF : Hid (canOf Sv = xs) := Lib.hid (by rw [← hrs, rsF_stop hnz]; exact canOf_val hcx)
            have hnl : ¬ ((j : Int) < (j : Int)) := by omega
            have HO8 := Lib.hid ((HO5.out.below hb6 (Nat.le_refl _)).up)
            have hown8 := HO8.out.row.alloc (Obj.cells #[Value.int IntKind.i64 (j : Int)] 2)
            have hb8 := HBW.out.size
            clear hr hcx hs hb6 hjt hrs hz hnz hjl
            go_wp2_with (at_builtin; refine wpList_append_own_at _ rfl _ _ 22 rfl w.heap.size 2 i0 (.int .i64 0) 1 8 Try.underlying22 hi hz0 hz1 hz2 rfl (by decide) _ _ _ rfl hown8 ⟨_, 0, none⟩ 1 1 [.int .i64 (j : Int)] rfl rfl ?c1 ?c2 ?c3 ?c4 ?c5 ?_)
            try (case c1 => exact cellNew _ _ _)
            case c2 => first | exact oneCell _ | rfl
            case c3 => unfold maxLen; omega
            case c4 => omega
            case c5 => first | omega | (simp; omega)
            intro v' w9 hown9 hgrow _ hat
            obtain ⟨hr9, hs9⟩ := HO8.out.snocAt HR6.out HS6.out hgrow hat
            obtain ⟨ho9, hb9⟩ := HO8.out.snoc (by omega) (by omega) (by rw [hxl]; exact hown9) hgrow
            have HO9 : Hid (Ow w9 w.heap.size w9.heap.size v' (exS n ps (k + 1)).1) := Lib.hid (by rw [HEXS.out]; exact ho9)
            have HR9 : Hid (Ow w9 w.heap.size w9.heap.size rv2 (exS n ps (k + 1)).2) := Lib.hid (by rw [HEXS.out]; show Ow _ _ _ _ (canOf Sv); rw [HF.out]; exact hr9)
            have HS9 := Lib.hid hs9
            have HB9 := Lib.hid (HBW.out.trans hb9)
            clear hown9 hgrow hat hr9 hs9 ho9 hb9 hown8
            go_wp2
            go_roundw
            case rel => exact ⟨k + 1, _, _, rfl, rfl, by omega, by go_num, HO9.out, HR9.out, HS9.out, HB9.out⟩
            case measure => simp [intOf]; omega
      · obtain rfl : k = ps.length := by omega
        have hnlt : ¬ ((ps.length : Int) < (ps.length : Int)) := by omega
        clear hbel hlt
        go_wp2
        go_ret3
        exact ⟨_, _, by rw [E.out] <;> rfl, by rw [E.out]; exact HO.out, by rw [E.out]; exact HR.out, HS.out, HBB.out⟩
end Go.Proofs.Ytmbojhlcmgknbaa.Ints
