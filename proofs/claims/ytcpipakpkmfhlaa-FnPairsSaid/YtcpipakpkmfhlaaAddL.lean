/- The contract of the program's sum of limbs. -/
import Derived.Test.YtcpipakpkmfhlaaTrim
namespace Go.Proofs.Ytcpipakpkmfhlaa.Ints
open Go.RowKit
set_option linter.unusedVariables false

theorem sizeE : (Try.prog.info? 2).map (·.size) = some 1 := by kernel_rfl
theorem row_full {w : World} {B g n : Nat} {xs : List Value} (h : w.ownsRow B 2 1 (.slice (some ⟨g, 0, none⟩) n n) n xs) : w.heap[g]? = some (.cells xs.toArray 2 (0, 0)) := by
  rcases h.2 with ⟨h', _⟩ | ⟨g', cap', cur, h', hb, hg, hn, hm, hs, hk⟩
  · simp at h'
  · simp only [Value.slice.injEq, Option.some.injEq, Addr.mk.injEq, and_true, true_and] at h'
    obtain ⟨rfl, rfl⟩ := h'
    rw [hg, ← hk, List.take_of_length_le (by simp; omega)]
theorem Pw_mono {a b : Nat} (h : a ≤ b) : Pw a ≤ Pw b := by
  induction b with
  | zero => rw [Nat.le_zero.1 h]; exact Int.le_refl _
  | succ b ih =>
    by_cases e : a = b + 1
    · rw [e]; exact Int.le_refl _
    · have := ih (by omega)
      have := Pw_pos b
      rw [Pw]; omega
theorem val_lt {zs : List Int} (h : Dig 1000000 zs) : val zs < Pw zs.length := by
  induction zs with
  | nil => simp [val, Pw]
  | cons d l ih =>
    have := ih (dig_cons h).2
    have := (dig_cons h).1
    rw [val, List.length_cons, Pw]; omega
theorem val_zeros (zs : List Int) (k : Nat) : val (zs ++ List.replicate k 0) = val zs := by
  have : ∀ k, val (List.replicate k 0) = 0 := by
    intro k
    induction k with
    | zero => rfl
    | succ k ih => rw [List.replicate_succ, val, ih]; rfl
  rw [val_append, this]; simp
theorem no_carry {V P c S : Int} (h : V + P * c = S) (v0 : 0 ≤ V) (v1 : V < P) (s0 : 0 ≤ S) (s1 : S < P) : c = 0 := by
  rcases Int.lt_trichotomy c 0 with hc | hc | hc
  · have : P * c ≤ P * (-1) := Int.mul_le_mul_of_nonneg_left (by omega) (by omega)
    omega
  · exact hc
  · have : P * 1 ≤ P * c := Int.mul_le_mul_of_nonneg_left (by omega) (by omega)
    omega
theorem dig_zeros {zs : List Int} (h : Dig 1000000 zs) (k : Nat) : ∀ j, 0 ≤ (zs ++ List.replicate k 0).getD j 0 ∧ (zs ++ List.replicate k 0).getD j 0 < 1000000 := by
  intro j
  by_cases hj : j < zs.length
  · have := h j hj
    simpa [List.getD_eq_getElem?_getD, List.getElem?_append_left hj] using this
  · rw [List.getD_eq_getElem?_getD, List.getElem?_append_right (by omega)]
    by_cases h2 : j - zs.length < k
    · simp [h2]
    · simp [h2]
theorem ti_dig {Z T : List Int} {t : Int} {n : Nat} {c : Int} {Y : List Int} (h : TI Z T t 0 n n c Y) (hl : Y.length = n) : Dig 1000000 Y := by
  intro i hi
  have := h.dig i (by omega)
  rwa [Nat.zero_add] at this
theorem sum_val {ps qs : List Int} {N : Nat} {c : Int} {Y : List Int} (h : TI (ps ++ List.replicate (N - ps.length) 0) qs 1 0 N N c Y) (hN : N = max ps.length qs.length + 1) (hp : Dig 1000000 ps) (hq : Dig 1000000 qs) :
    canOf (val ps + val qs) = trim Y ∧ Y.length = N ∧ Dig 1000000 Y := by
  have hl : Y.length = N := by rw [h.len]; simp; omega
  have hd := ti_dig h hl
  have hs := h.sum
  rw [sg_all Y N (by omega), sg_all _ N (by simp; omega), val_zeros, sg_all qs N (by omega)] at hs
  have a1 := val_nonneg hp
  have a2 := val_nonneg hq
  have a3 := val_nonneg hd
  have b1 := val_lt hp
  have b2 := val_lt hq
  have b3 := val_lt hd
  have c1 := Pw_mono (show ps.length ≤ max ps.length qs.length by omega)
  have c2 := Pw_mono (show qs.length ≤ max ps.length qs.length by omega)
  have hP : Pw N = Pw (max ps.length qs.length) * 1000000 := by rw [hN, Pw]
  rw [hl] at b3
  have hc : c = 0 := no_carry hs a3 b3 (by omega) (by omega)
  subst hc
  exact ⟨canOf_eq (trim_can hd) (by rw [trim_val]; omega), hl, hd⟩

set_option maxRecDepth 100000 in
set_option maxHeartbeats 4000000 in
theorem addLimbs_1 (u v : Value) (ps qs : List Int) (w : World) (hu : Rd w u ps) (hv : Rd w v qs) (hp : Can ps) (hq : Can qs) (hla : ps.length ≤ 1000) (hlb : qs.length ≤ 1000) (hm : qs.length ≤ ps.length) :
    Calls Try.prog 46 #[u, v] w fun e w' => ∃ r, e = .returned r ∧ Ow w' w.heap.size w'.heap.size r (canOf (val ps + val qs)) ∧ Below w.heap.size w w' := by
  have HV := Lib.hid hv
  have hvb : ∀ a l c, v = .slice (some a) l c → qs ≠ [] → a.block < w.heap.size := by
    intro a l c e hne
    obtain ⟨_, _, a', c', e', _, hr'⟩ := hv
    obtain ⟨b, o, ha, hb, _⟩ := hr' hne
    rw [e', ha] at e
    simp at e
    rw [← e.1]; exact hb
  obtain ⟨hl, hf, a, c, rfl, hcap, hr⟩ := hu
  obtain ⟨hl', hf', a', c', rfl, hcap', hr'⟩ := hv
  have HN : Hid (ps.length + 1 = max ps.length qs.length + 1) := Lib.hid (by omega)
  have k1 : (qs.length : Int) ≤ (ps.length : Int) := by omega
  have k2 : ¬ (ps.length : Int) < (qs.length : Int) := by omega
  have HP := Lib.hid hp
  have HQ := Lib.hid hq
  have HR := Lib.hid hr
  have HVB := Lib.hid hvb
  have HM := Lib.hid hm
  clear hp hq hr hr' hvb hm
  obtain ⟨i0, hi, hz0, hz1, hz2⟩ := info_parts infoE
  go_enter Try.func46, Try.ntmps46
  go_wp2_with (at_make; refine wpList_make_full _ rfl _ _ 24 rfl w.heap.size 2 i0 (.int .i64 0) 1 Try.underlying24 hi hz0 hz1 _ _ _ _ (ps.length + 1) rfl rfl ?hL ?hC ?b2 ?b3 (Nat.le_refl _) ?_)
  case b2 => first | omega | (rw [hz2]; omega)
  case b3 => unfold maxLen; omega
  intro w0 hown0 hgrow0
  have HG0 : Hid (w0.heap[w.heap.size]? = some (.cells ((List.replicate (ps.length + 1) (0 : Int)).map (Value.int .i64)).toArray 2 (0, 0))) := Lib.hid (by
    have := row_full hown0
    rw [toList_madeCells_one] at this
    simpa using this)
  have HB0 := Lib.hid ((Below.refl w.heap.size w).grown hgrow0 (Nat.le_refl _) (fun k h => by cases h))
  clear hown0 hgrow0
  go_wp2_with (with_reducible refine wpList_copy_splice rfl (.tmp 13) (.tmp 14) 24 24 rfl 2 Try.underlying24 sizeE _ _ _ _ _ _ rfl rfl w.heap.size 0 ((List.replicate (ps.length + 1) (0 : Int)).map (Value.int .i64)) 2 HG0.out (ps.map (Value.int .i64)) ?hn ?hpos ?hfit ?h1 w.heap.size w HB0.out (Nat.le_refl _) ?_)
  case hn => rw [List.length_map]; exact (Nat.min_eq_left (by omega)).symm
  case hpos =>
    intro hpos
    have hpos' : 0 < ps.length := by simpa using hpos
    obtain ⟨b, o, ha, hb, hc⟩ := HR.out (by intro h0; rw [h0] at hpos'; simp at hpos')
    have fin : ∀ (j : Nat) (x : Int), ps[j]? = some x → w0.cell? ((⟨b, o, none⟩ : Addr).add j) = some (.int .i64 x) := fun j x hx => by
      have hj : j < ps.length := (List.getElem?_eq_some_iff.1 hx).1
      rw [Addr.add_lit, HB0.out.cell (p := ⟨b, o + j, none⟩) hb, hc j hj, List.getD_eq_getElem?_getD, hx]; rfl
    first
      | exact ⟨_, ha, fin⟩
      | exact ⟨rfl, _, ha, fun j x hx => by
          simp only [List.getElem?_map, Option.map_eq_some_iff] at hx
          obtain ⟨y, hy, rfl⟩ := hx
          exact fin j y hy⟩
  case hfit => first | (simp; done) | (simp; omega)
  case h1 => exact ints_oneCell .i64 ps
  intro w1 hg1 hb1
  have HK : Hid (Blk w1 w.heap.size (ps.length + 1) (ps ++ List.replicate (ps.length + 1 - ps.length) 0)) := Lib.hid ⟨[], by first | (simp; done) | (simp; omega), by
    rw [hg1.out]
    congr 3
    simp [splice, List.drop_replicate]⟩
  have HB1 := Lib.hid hb1
  clear hg1 hb1
  have HV1 := Lib.hid (HV.out.below HB1.out (Nat.le_refl _))
  have HD : Hid (∀ j, j < ps.length + 1 → 0 ≤ (ps ++ List.replicate (ps.length + 1 - ps.length) 0).getD (0 + j) 0 ∧ (ps ++ List.replicate (ps.length + 1 - ps.length) 0).getD (0 + j) 0 < 1000000) :=
    Lib.hid (fun j _ => by rw [Nat.zero_add]; exact dig_zeros HP.out.1 _ j)
  have HL : Hid (0 + (ps.length + 1) ≤ (ps ++ List.replicate (ps.length + 1 - ps.length) 0).length) := Lib.hid (by first | (simp; done) | (simp; omega))
  have HNE : Hid (qs ≠ [] → ∀ x l d, Value.slice a' qs.length c' = .slice (some x) l d → x.block ≠ w.heap.size) := Lib.hid (fun hq0 x l d e => by have := HVB.out x l d e hq0; omega)
  go_wp2_with fail
  refine (addTimes_any w.heap.size (ps.length + 1) 0 (ps.length + 1) (ps.length + 1) _ _ qs 1 _ HK.out HV1.out HNE.out HL.out (by omega) HD.out HQ.out.1 (by omega) (by omega) (by omega)).mono ?_
  rintro e w2 ⟨cr, Y, rfl, hti, hblk, hgr⟩
  have HS := Lib.hid (sum_val hti HN.out HP.out.1 HQ.out.1)
  have HY : Hid (Ow w2 w.heap.size w2.heap.size (.slice (some ⟨w.heap.size, 0, none⟩) (ps.length + 1) (ps.length + 1)) Y) := Lib.hid (by
    have h1 := hblk.ow (Nat.le_refl w.heap.size) (by unfold maxLen; omega) (by rw [HS.out.2.1]; omega) HS.out.2.2.fit
    rwa [HS.out.2.1] at h1)
  have HB2 := Lib.hid (HB1.out.grown hgr HB1.out.size (fun k e => by cases e; exact Nat.le_refl _))
  clear hti hblk hgr
  go_wp2_with fail
  refine (implTrim _ Y w.heap.size w2.heap.size _ HY.out).mono ?_
  rintro e w3 ⟨u, rfl, ho, rfl⟩
  have HO := Lib.hid ho
  clear ho
  go_wp2
  go_ret
  exact ⟨_, rfl, by rw [HS.out.1]; exact HO.out, HB2.out⟩
set_option maxRecDepth 100000 in
set_option maxHeartbeats 4000000 in
theorem addLimbs_2 (u v : Value) (ps qs : List Int) (w : World) (hu : Rd w u ps) (hv : Rd w v qs) (hp : Can ps) (hq : Can qs) (hla : ps.length ≤ 1000) (hlb : qs.length ≤ 1000) (hm : ps.length < qs.length) :
    Calls Try.prog 46 #[u, v] w fun e w' => ∃ r, e = .returned r ∧ Ow w' w.heap.size w'.heap.size r (canOf (val ps + val qs)) ∧ Below w.heap.size w w' := by
  have HV := Lib.hid hv
  have hvb : ∀ a l c, v = .slice (some a) l c → qs ≠ [] → a.block < w.heap.size := by
    intro a l c e hne
    obtain ⟨_, _, a', c', e', _, hr'⟩ := hv
    obtain ⟨b, o, ha, hb, _⟩ := hr' hne
    rw [e', ha] at e
    simp at e
    rw [← e.1]; exact hb
  obtain ⟨hl, hf, a, c, rfl, hcap, hr⟩ := hu
  obtain ⟨hl', hf', a', c', rfl, hcap', hr'⟩ := hv
  have HN : Hid (qs.length + 1 = max ps.length qs.length + 1) := Lib.hid (by omega)
  have k1 : (ps.length : Int) < (qs.length : Int) := by omega
  have k2 : ¬ (qs.length : Int) ≤ (ps.length : Int) := by omega
  have HP := Lib.hid hp
  have HQ := Lib.hid hq
  have HR := Lib.hid hr
  have HVB := Lib.hid hvb
  have HM := Lib.hid hm
  clear hp hq hr hr' hvb hm
  obtain ⟨i0, hi, hz0, hz1, hz2⟩ := info_parts infoE
  go_enter Try.func46, Try.ntmps46
  go_wp2_with (at_make; refine wpList_make_full _ rfl _ _ 24 rfl w.heap.size 2 i0 (.int .i64 0) 1 Try.underlying24 hi hz0 hz1 _ _ _ _ (qs.length + 1) rfl rfl ?hL ?hC ?b2 ?b3 (Nat.le_refl _) ?_)
  case b2 => first | omega | (rw [hz2]; omega)
  case b3 => unfold maxLen; omega
  intro w0 hown0 hgrow0
  have HG0 : Hid (w0.heap[w.heap.size]? = some (.cells ((List.replicate (qs.length + 1) (0 : Int)).map (Value.int .i64)).toArray 2 (0, 0))) := Lib.hid (by
    have := row_full hown0
    rw [toList_madeCells_one] at this
    simpa using this)
  have HB0 := Lib.hid ((Below.refl w.heap.size w).grown hgrow0 (Nat.le_refl _) (fun k h => by cases h))
  clear hown0 hgrow0
  go_wp2_with (with_reducible refine wpList_copy_splice rfl (.tmp 13) (.tmp 14) 24 24 rfl 2 Try.underlying24 sizeE _ _ _ _ _ _ rfl rfl w.heap.size 0 ((List.replicate (qs.length + 1) (0 : Int)).map (Value.int .i64)) 2 HG0.out (ps.map (Value.int .i64)) ?hn ?hpos ?hfit ?h1 w.heap.size w HB0.out (Nat.le_refl _) ?_)
  case hn => rw [List.length_map]; exact (Nat.min_eq_left (by omega)).symm
  case hpos =>
    intro hpos
    have hpos' : 0 < ps.length := by simpa using hpos
    obtain ⟨b, o, ha, hb, hc⟩ := HR.out (by intro h0; rw [h0] at hpos'; simp at hpos')
    have fin : ∀ (j : Nat) (x : Int), ps[j]? = some x → w0.cell? ((⟨b, o, none⟩ : Addr).add j) = some (.int .i64 x) := fun j x hx => by
      have hj : j < ps.length := (List.getElem?_eq_some_iff.1 hx).1
      rw [Addr.add_lit, HB0.out.cell (p := ⟨b, o + j, none⟩) hb, hc j hj, List.getD_eq_getElem?_getD, hx]; rfl
    first
      | exact ⟨_, ha, fin⟩
      | exact ⟨rfl, _, ha, fun j x hx => by
          simp only [List.getElem?_map, Option.map_eq_some_iff] at hx
          obtain ⟨y, hy, rfl⟩ := hx
          exact fin j y hy⟩
  case hfit => first | (simp; done) | (simp; omega)
  case h1 => exact ints_oneCell .i64 ps
  intro w1 hg1 hb1
  have HK : Hid (Blk w1 w.heap.size (qs.length + 1) (ps ++ List.replicate (qs.length + 1 - ps.length) 0)) := Lib.hid ⟨[], by first | (simp; done) | (simp; omega), by
    rw [hg1.out]
    congr 3
    simp [splice, List.drop_replicate]⟩
  have HB1 := Lib.hid hb1
  clear hg1 hb1
  have HV1 := Lib.hid (HV.out.below HB1.out (Nat.le_refl _))
  have HD : Hid (∀ j, j < qs.length + 1 → 0 ≤ (ps ++ List.replicate (qs.length + 1 - ps.length) 0).getD (0 + j) 0 ∧ (ps ++ List.replicate (qs.length + 1 - ps.length) 0).getD (0 + j) 0 < 1000000) :=
    Lib.hid (fun j _ => by rw [Nat.zero_add]; exact dig_zeros HP.out.1 _ j)
  have HL : Hid (0 + (qs.length + 1) ≤ (ps ++ List.replicate (qs.length + 1 - ps.length) 0).length) := Lib.hid (by first | (simp; done) | (simp; omega))
  have HNE : Hid (qs ≠ [] → ∀ x l d, Value.slice a' qs.length c' = .slice (some x) l d → x.block ≠ w.heap.size) := Lib.hid (fun hq0 x l d e => by have := HVB.out x l d e hq0; omega)
  go_wp2_with fail
  refine (addTimes_any w.heap.size (qs.length + 1) 0 (qs.length + 1) (qs.length + 1) _ _ qs 1 _ HK.out HV1.out HNE.out HL.out (by omega) HD.out HQ.out.1 (by omega) (by omega) (by omega)).mono ?_
  rintro e w2 ⟨cr, Y, rfl, hti, hblk, hgr⟩
  have HS := Lib.hid (sum_val hti HN.out HP.out.1 HQ.out.1)
  have HY : Hid (Ow w2 w.heap.size w2.heap.size (.slice (some ⟨w.heap.size, 0, none⟩) (qs.length + 1) (qs.length + 1)) Y) := Lib.hid (by
    have h1 := hblk.ow (Nat.le_refl w.heap.size) (by unfold maxLen; omega) (by rw [HS.out.2.1]; omega) HS.out.2.2.fit
    rwa [HS.out.2.1] at h1)
  have HB2 := Lib.hid (HB1.out.grown hgr HB1.out.size (fun k e => by cases e; exact Nat.le_refl _))
  clear hti hblk hgr
  go_wp2_with fail
  refine (implTrim _ Y w.heap.size w2.heap.size _ HY.out).mono ?_
  rintro e w3 ⟨u, rfl, ho, rfl⟩
  have HO := Lib.hid ho
  clear ho
  go_wp2
  go_ret
  exact ⟨_, rfl, by rw [HS.out.1]; exact HO.out, HB2.out⟩
theorem implAddLimbs (u v : Value) (ps qs : List Int) (w : World) (hu : Rd w u ps) (hv : Rd w v qs) (hp : Can ps) (hq : Can qs) (hla : ps.length ≤ 1000) (hlb : qs.length ≤ 1000) :
    Calls Try.prog 46 #[u, v] w fun e w' => ∃ r, e = .returned r ∧ Ow w' w.heap.size w'.heap.size r (canOf (val ps + val qs)) ∧ Below w.heap.size w w' := by
  rcases Nat.lt_or_ge ps.length qs.length with h | h
  · exact addLimbs_2 u v ps qs w hu hv hp hq hla hlb h
  · exact addLimbs_1 u v ps qs w hu hv hp hq hla hlb h
end Go.Proofs.Ytcpipakpkmfhlaa.Ints
