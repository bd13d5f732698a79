/- Contracts of the comparison of naturals, of the model and of the program, and of the program's test of two naturals. -/
import Derived.Test.YtcpipakpkmfhlaaBack
import Derived.Test.YtcpipakpkmfhlaaNats
namespace Go.Proofs.Ytcpipakpkmfhlaa.Ints
open Go.RowKit Go.Shelf
set_option linter.unusedVariables false
attribute [local go_sem] Oper.semAt_some

def cmpD (xs ys : List Int) : Nat → Int
  | 0 => 0
  | m + 1 => if xs.getD m 0 < ys.getD m 0 then -1 else if ys.getD m 0 < xs.getD m 0 then 1 else cmpD xs ys m
def cmpN (xs ys : List Int) : Int := if xs.length < ys.length then -1 else if ys.length < xs.length then 1 else cmpD xs ys xs.length
theorem cmpD_same (xs ys : List Int) (n m : Nat) (h : m ≤ n) (hs : ∀ j, m ≤ j → j < n → xs.getD j 0 = ys.getD j 0) : cmpD xs ys n = cmpD xs ys m := by
  induction n with
  | zero => rw [Nat.le_zero.1 h]
  | succ n ih =>
    by_cases he : m = n + 1
    · rw [he]
    · have e := hs n (by omega) (by omega)
      rw [cmpD, if_neg (by omega), if_neg (by omega)]
      exact ih (by omega) (fun j a b => hs j a (by omega))
def sgn (x y : Int) : Int := if x < y then -1 else if y < x then 1 else 0
theorem cmpD_top (xs ys : List Int) (n m : Nat) (h : m < n) (hs : ∀ j, m + 1 ≤ j → j < n → xs.getD j 0 = ys.getD j 0) (hne : xs.getD m 0 ≠ ys.getD m 0) : cmpD xs ys n = sgn (xs.getD m 0) (ys.getD m 0) := by
  rw [cmpD_same xs ys n (m + 1) (by omega) hs, cmpD, sgn]
  by_cases h1 : xs.getD m 0 < ys.getD m 0
  · rw [if_pos h1, if_pos h1]
  · rw [if_neg h1, if_neg h1, if_pos (by omega), if_pos (by omega)]
theorem mem_dnA (xs : List Int) (m j : Nat) (h : m ≤ j) (hj : j < xs.length) : (⟨(j, xs[j]?.getD 0), hj, rfl⟩ : At xs) ∈ dnA xs m := by
  induction hk : j - m generalizing m with
  | zero =>
    obtain rfl : m = j := by omega
    rw [dnA_succ xs m hj]; simp
  | succ k ih =>
    rw [dnA_succ xs m (by omega)]
    exact List.mem_append.2 (.inl (ih (m + 1) (by omega) (by omega)))

theorem cmp64 (x y : Int) (w : World) : Calls Try.prog 67 #[.int .i64 x, .int .i64 y] w fun e w' => e = .returned (.int .i64 (sgn x y)) ∧ w = w' := by
  have e1 : (x != x) = false := by simp
  have e2 : (y != y) = false := by simp
  by_cases h1 : x < y
  · have HS : Hid (sgn x y = -1) := Lib.hid (by simp [sgn, h1])
    go_enter Try.func67, Try.ntmps67
    go_wp2
    go_ret
    exact ⟨by rw [HS.out] <;> rfl, rfl⟩
  · by_cases h2 : y < x
    · have HS : Hid (sgn x y = 1) := Lib.hid (by simp [sgn, h1, h2])
      go_enter Try.func67, Try.ntmps67
      go_wp2
      go_ret
      exact ⟨by rw [HS.out] <;> rfl, rfl⟩
    · have HS : Hid (sgn x y = 0) := Lib.hid (by simp [sgn, h1, h2])
      go_enter Try.func67, Try.ntmps67
      go_wp2
      go_ret
      exact ⟨by rw [HS.out] <;> rfl, rfl⟩
theorem cmpInt (x y : Int) (w : World) : Calls Try.prog 66 #[.int .i64 x, .int .i64 y] w fun e w' => e = .returned (.int .i64 (sgn x y)) ∧ w = w' := by
  have e1 : (x != x) = false := by simp
  have e2 : (y != y) = false := by simp
  by_cases h1 : x < y
  · have HS : Hid (sgn x y = -1) := Lib.hid (by simp [sgn, h1])
    go_enter Try.func66, Try.ntmps66
    go_wp2
    go_ret
    exact ⟨by rw [HS.out] <;> rfl, rfl⟩
  · by_cases h2 : y < x
    · have HS : Hid (sgn x y = 1) := Lib.hid (by simp [sgn, h1, h2])
      go_enter Try.func66, Try.ntmps66
      go_wp2
      go_ret
      exact ⟨by rw [HS.out] <;> rfl, rfl⟩
    · have HS : Hid (sgn x y = 0) := Lib.hid (by simp [sgn, h1, h2])
      go_enter Try.func66, Try.ntmps66
      go_wp2
      go_ret
      exact ⟨by rw [HS.out] <;> rfl, rfl⟩

set_option maxRecDepth 100000 in
set_option maxHeartbeats 2000000 in
theorem implLimbs_in (u v : Value) (xs ys : List Int) (w : World) (hu : Rd w u xs) (hv : Rd w v ys) (hlen : xs.length = ys.length) :
    CallsIn Fence.wide 6 Try.prog 58 #[u, v] w fun e w' => e = .returned (.int .i64 (cmpN xs ys)) ∧ Below w.heap.size w w' := by
  have HL := Lib.hid hlen
  obtain ⟨hl, hf, a, c, rfl, hcap, hr⟩ := hu
  obtain ⟨hl', hf', a', c', rfl, hcap', hr'⟩ := hv
  rw [← hlen]
  have hne : ((xs.length : Int) != (xs.length : Int)) = false := by simp
  have HR := Lib.hid hr
  have HR' := Lib.hid hr'
  clear hr hr' hlen
  refine callsIn_of_wp_marks Try.func58 rfl trivial ?_ rfl
  simp only [Try.ntmps58, List.size_toArray, List.length_cons, List.length_nil, Nat.reduceAdd, Nat.reduceSub, Array.replicate_succ, Array.replicate_zero, List.push_toArray, List.append_toArray, List.nil_append, List.cons_append]
  gi_wp2_with (refine ⟨trivial, ?_⟩; gi_at_call 59; refine (back_in Fence.wide _ trivial rfl _ ⟨_, _, _, rfl⟩ _).mono ?_; rintro e w' ⟨rfl, rfl⟩)
  have bB := Boxed.new w 24 (.slice a' xs.length c')
  have bR := Boxed.new (w.alloc (.cells #[.slice a' xs.length c'] 24)) 2 (.int .i64 0)
  have bN := Boxed.new ((w.alloc (.cells #[.slice a' xs.length c'] 24)).alloc (.cells #[.int .i64 0] 2)) 24 (.slice a xs.length c)
  simp only [World.size_alloc] at bR bN
  have hB0 : Below w.heap.size w (((w.alloc (.cells #[.slice a' xs.length c'] 24)).alloc (.cells #[.int .i64 0] 2)).alloc (.cells #[.slice a xs.length c] 24)) :=
    (((Below.refl _ w).alloc (Nat.le_refl _) _).alloc (by simp) _).alloc (by simp; omega) _
  have hcs : xs ≠ [] → ∃ b o, a = some ⟨b, o, none⟩ ∧ b < w.heap.size ∧ ∀ j, j < xs.length → (((w.alloc (.cells #[.slice a' xs.length c'] 24)).alloc (.cells #[.int .i64 0] 2)).alloc (.cells #[.slice a xs.length c] 24)).cell? ⟨b, o + j, none⟩ = some (.int .i64 (xs[j]?.getD 0)) := fun hne => by
    obtain ⟨b, o, ha, hb, hc⟩ := HR.out hne
    refine ⟨b, o, ha, by omega, fun j hj => ?_⟩
    rw [hB0.cell (p := ⟨b, o + j, none⟩) hb, hc j hj, List.getD_eq_getElem?_getD]
  refine wpIn_rangeFunc_ownG rfl (by omega) (gf := 68) (lb := #[.pointer (some ⟨w.heap.size + 1 + 1, 0, none⟩)]) rfl trivial (enters_of Try.func68 (by kernel_rfl) rfl)
    (back_stops Fence.wide 5 trivial rfl (by omega) (w.heap.size + 1 + 1) w.heap.size a c xs hl _ (by simp) (by simp; omega) bN.cell hcs) KB.trans (KB.book (by simp; omega) (by simp)) (Below.refl _ _) (fun _ => rfl)
    (fun pre W => ((∀ p ∈ pre, p.1.2 = ys.getD p.1.1 0) ∧ W.cell? ⟨w.heap.size, 0, none⟩ = some (.slice a' xs.length c') ∧ W.cell? ⟨w.heap.size + 1, 0, none⟩ = some (.int .i64 0) ∧ W.frozen? ⟨w.heap.size + 1, 0, none⟩ = false) ∧ Below w.heap.size w W)
    (fun k pre W => (k = .ret ∧ ∃ ini last, pre = ini ++ [last] ∧ (∀ p ∈ ini, p.1.2 = ys.getD p.1.1 0) ∧ last.1.2 ≠ ys.getD last.1.1 0 ∧ W.cell? ⟨w.heap.size + 1, 0, none⟩ = some (.int .i64 (sgn last.1.2 (ys.getD last.1.1 0)))) ∧ Below w.heap.size w W)
    (OwnFrom.and (Own.from (fun s A B row hs hg hr => ⟨hs.1, cell_kept hs.2.1 hg hr, cell_kept hs.2.2.1 hg hr, (frozen_kept hs.2.2.1 hg hr).trans hs.2.2.2⟩) _) (ownFrom_below (Nat.le_refl _) (by simp; omega)))
    (fun k => OwnFrom.and (Own.from (fun s A B row hs hg hr => by obtain ⟨hc, ini, last, e1, e2, e3, e4⟩ := hs; exact ⟨hc, ini, last, e1, e2, e3, cell_kept e4 hg hr⟩) _) (ownFrom_below (Nat.le_refl _) (by simp; omega)))
    ⟨⟨by simp, ((bB.alloc _).alloc _).cell, (bR.alloc _).cell, (bR.alloc _).frozen⟩, hB0⟩
    (fun x => { tmps := #[Value.slice a xs.length c, Value.slice a' xs.length c', undef,
          Value.pointer (some { block := w.heap.size, off := 0 }),
          Value.pointer (some { block := w.heap.size + 1, off := 0 }), .int .i64 ((x.1.1 : Nat) : Int), .int .i64 x.1.2, Value.slice a xs.length c,
          Value.int IntKind.i64 xs.length, Value.slice a' xs.length c', Value.int IntKind.i64 xs.length,
          Value.bool false, undef, undef, undef, undef, undef, Value.slice a xs.length c,
          Value.func (Fn.func 68) #[] #[Value.pointer (some { block := w.heap.size + 1 + 1, off := 0 })], .int .i64 ((x.1.1 : Nat) : Int), .int .i64 x.1.2,
          undef, undef, undef, undef, undef, undef, undef, undef, undef, undef, undef, undef], defers := [] }) ?assign ?body ?done ?stop
  case assign =>
    intro l x W K hK
    gi_wp2
    exact hK
  case body =>
    rintro l pre x W ⟨⟨hp, hcb, hcr, hfr⟩, hB⟩ _
    have hx := x.2.1
    obtain ⟨b, o, rfl, hb, hcy⟩ := HR'.out (by intro h; have h2 := congrArg List.length h; have := HL.out; simp only [List.length_nil] at h2; omega)
    have hc : W.cell? ⟨b, o + x.1.1, none⟩ = some (.int .i64 (ys.getD x.1.1 0)) := (hB.cell (p := ⟨b, o + x.1.1, none⟩) hb).trans (hcy _ (by have := HL.out; omega))
    obtain ⟨y, hy⟩ : ∃ y, y = ys.getD x.1.1 0 := ⟨_, rfl⟩
    rw [← hy] at hc
    have i0 : (0 : Int) ≤ ((x.1.1 : Nat) : Int) := by omega
    have i1 : ((x.1.1 : Nat) : Int) < (xs.length : Int) := by omega
    have HY := Lib.hid hy
    have HP := Lib.hid hp
    have HB := Lib.hid hB
    clear hy hp hB hcy hcs hB0
    obtain ⟨z, hz⟩ : ∃ z, z = x.1.2 := ⟨_, rfl⟩
    rw [← hz]
    have HZ := Lib.hid hz
    clear hz
    by_cases he : z = y
    · have hb1 : (z != y) = false := by simp [he]
      have HE := Lib.hid he
      clear he
      gi_wp2
      exact ⟨KeepsFrom.refl _ _, KB.refl _ _ _, ⟨fun p hp' => (List.mem_append.1 hp').elim (HP.out p) (fun e => by simp at e; subst e; rw [← HZ.out, ← HY.out]; exact HE.out), hcb, hcr, hfr⟩, HB.out⟩
    · have hb1 : (z != y) = true := by simp [he]
      have HE := Lib.hid he
      clear he
      gi_wp2_with (refine ⟨trivial, ?_⟩; gi_at_call 67; refine (CallsIn.inRound l (callsIn_wide.2 (cmp64 _ _ _))).mono ?_; rintro e w' ⟨rfl, rfl⟩)
      exact ⟨(KeepsOthers.setCell _ _ _).from _, ⟨rfl, pre, x, rfl, HP.out, by rw [← HZ.out, ← HY.out]; exact HE.out, by rw [← HZ.out, ← HY.out]; exact World.cell?_setCell_same' _ _ _ (by rw [hcr]; rfl)⟩, HB.out.setCell (p := ⟨w.heap.size + 1, 0, none⟩) (by show w.heap.size ≤ w.heap.size + 1; omega) _⟩
  case done =>
    rintro D pre W hD rfl ⟨⟨hp, hcb, hcr, hfr⟩, hB⟩ hK
    have HP := Lib.hid hp
    have HB := Lib.hid hB
    clear hp hB hcs hB0
    gi_wp2
    have hK' := (KeepsOthers.setCell W ⟨w.heap.size + 1, 0, none⟩ (.int .i64 0)).same D _ hK rfl
    refine ⟨by simp, .inl ⟨_, _, rfl, run_takeDeferred hK', ?_⟩⟩
    have hc5 := cell_kept (World.cell?_setCell_same' W ⟨w.heap.size + 1, 0, none⟩ (.int .i64 0) (by rw [hcr]; rfl)) (grownBy_putObj' _ D (.deferred none)) (fun r e => by cases e; exact ⟨_, hK', rfl⟩)
    have hv : cmpN xs ys = 0 := by
      have hl0 := HL.out
      rw [cmpN, if_neg (by omega), if_neg (by omega), cmpD_same xs ys xs.length 0 (by omega) (fun j _ hj => ?_)]
      · rfl
      · have := HP.out _ (mem_dnA xs 0 j (by omega) hj)
        simpa [List.getD_eq_getElem?_getD] using this
    refine ⟨.int .i64 0, ?_, by rw [hv], (HB.out.setCell (p := ⟨w.heap.size + 1, 0, none⟩) (by show w.heap.size ≤ w.heap.size + 1; omega) _).trans (belowK_b (w := w) (Nat.le_refl _) _ D _ _ (by simp at hD; omega) hK' rfl rfl)⟩
    simp [results, Try.f58, go_sem, hc5]
  case stop =>
    rintro D k pre W hD ⟨m, hm, rfl⟩ ⟨⟨rfl, ini, last, e1, e2, e3, hcr⟩, hB⟩ hK
    have HB := Lib.hid hB
    clear hB hcs hB0
    gi_wp2
    refine ⟨by simp, .inl ⟨_, _, rfl, run_takeDeferred hK, ?_⟩⟩
    have hc5 := cell_kept hcr (grownBy_putObj' _ D (.deferred none)) (fun r e => by cases e; exact ⟨_, hK, rfl⟩)
    have hmlt : m < xs.length := by
      rcases Nat.lt_or_ge m xs.length with h | h
      · exact h
      · obtain rfl : m = xs.length := by omega
        rw [dnA_all] at e1; simp at e1
    rw [dnA_succ xs m hmlt] at e1
    obtain ⟨rfl, e5⟩ := List.append_inj' e1 rfl
    obtain rfl : (⟨(m, xs[m]?.getD 0), hmlt, rfl⟩ : At xs) = last := by simpa using e5
    have hv : cmpN xs ys = sgn (xs[m]?.getD 0) (ys.getD m 0) := by
      have hl0 := HL.out
      rw [cmpN, if_neg (by omega), if_neg (by omega), cmpD_top xs ys xs.length m hmlt (fun j a b => ?_) (by simpa [List.getD_eq_getElem?_getD] using e3)]
      · simp [List.getD_eq_getElem?_getD]
      · have := e2 _ (mem_dnA xs (m + 1) j a b)
        simpa [List.getD_eq_getElem?_getD] using this
    refine ⟨.int .i64 (sgn (xs[m]?.getD 0) (ys.getD m 0)), ?_, by rw [hv], HB.out.trans (belowK_b (w := w) (Nat.le_refl _) W D _ _ (by simp at hD; omega) hK rfl rfl)⟩
    simp [results, Try.f58, go_sem, hc5]
set_option maxHeartbeats 1000000 in
theorem implCmpLimbs (u v : Value) (xs ys : List Int) (w : World) (hu : Rd w u xs) (hv : Rd w v ys) :
    Calls Try.prog 58 #[u, v] w fun e w' => e = .returned (.int .i64 (cmpN xs ys)) ∧ Below w.heap.size w w' := by
  by_cases hlen : xs.length = ys.length
  · exact callsIn_wide.1 (implLimbs_in u v xs ys w hu hv hlen)
  · obtain ⟨hl, hf, a, c, rfl, hcap, hr⟩ := hu
    obtain ⟨hl', hf', a', c', rfl, hcap', hr'⟩ := hv
    have hne : ((xs.length : Int) != (ys.length : Int)) = true := by simp; omega
    have HC : Hid (cmpN xs ys = sgn xs.length ys.length) := Lib.hid (by
      rw [cmpN, sgn]
      by_cases h1 : xs.length < ys.length
      · rw [if_pos h1, if_pos (by omega)]
      · rw [if_neg h1, if_pos (by omega), if_neg (by omega), if_pos (by omega)])
    clear hr hr' hlen
    go_enter Try.func58, Try.ntmps58
    go_wp2_with (go_at_call 66; refine (cmpInt _ _ _).mono ?_; rintro e w' ⟨rfl, rfl⟩)
    refine bodyPost_ret (v := .int .i64 (sgn xs.length ys.length)) (by simp [results, Try.results58, go_sem]) rfl ⟨by rw [HC.out], ?_⟩
    exact (((Below.refl _ w).alloc (Nat.le_refl _) _).alloc (by simp) _)
theorem eq_or (b : Bool) : b = false ∨ b = true := by cases b <;> simp
theorem cell_old {w : World} {v : Value} {B : Nat} (o : Obj) (p : Addr) (h : w.cell? p = some v) (hp : p.block < w.heap.size) : (w.alloc o).cell? p = some v :=
  (((Below.refl w.heap.size w).alloc (Nat.le_refl _) o).cell hp).trans h
/-- The program's test of two lists that lie in a row of two. -/
theorem areTwo (g : Nat) (u v : Value) (xs ys : List Int) (w : World) (hu : Rd w u xs) (hv : Rd w v ys) (h0 : w.cell? ⟨g, 0, none⟩ = some u) (h1 : w.cell? ⟨g, 1, none⟩ = some v) (hg : g < w.heap.size) :
    Calls Try.prog 21 #[.slice (some ⟨g, 0, none⟩) 2 2] w fun e w' => e = .returned (.bool (natB xs && natB ys)) ∧ Below w.heap.size w w' := by
  refine (areNats_any _ [xs, ys] w ⟨by simp, _, _, rfl, by simp, fun _ => ⟨g, 0, rfl, hg, fun i hi => ?_⟩⟩).mono ?_
  · match i, hi with
    | 0, _ => exact ⟨u, h0, hu⟩
    | 1, _ => exact ⟨v, h1, hv⟩
  · rintro e w' ⟨rfl, hb⟩
    exact ⟨by rw [allN_two], hb⟩
end Go.Proofs.Ytcpipakpkmfhlaa.Ints
