/- The text of a machine, of the model and of the program. (gen_mct.py) -/
import Derived.Test.YtmbojhlcmgknbaaDoorTurI
import Derived.Test.YtmbojhlcmgknbaaDoorStr
import Derived.Deep.RegionHeld3
import Derived.Lib.Hide
namespace Go.Proofs.YtmbojhlcmgknbaaDoor.Ints
open Go.RowKit
set_option linter.unusedVariables false
set_option linter.unusedSimpArgs false
def NoRu (r : Ru) : Prop := r.wr = 0 ∧ r.mv = 0 ∧ r.nx = -1
instance (r : Ru) : Decidable (NoRu r) := inferInstanceAs (Decidable (_ ∧ _ ∧ _))
/-- A rule's text. -/
def rlT (r : Ru) : List UInt8 := if NoRu r then [45, 45, 45] else Lib.itoa r.wr ++ (if r.mv < 0 then [76] else [82]) ++ Lib.itoa r.nx
theorem nor_cases {x y z : Int} (h : ¬ NoRu ⟨x, y, z⟩) : (x == 0) = false ∨ ((x == 0) = true ∧ (y == 0) = false) ∨ ((x == 0) = true ∧ (y == 0) = true ∧ (z == -1) = false) := by
  simp only [NoRu] at h
  simp only [beq_eq_false_iff_ne, beq_iff_eq]; omega
def RuR (rs : List Ru) : Prop := ∀ r ∈ rs, -1000000 ≤ r.wr ∧ r.wr ≤ 1000000 ∧ -1000000 ≤ r.nx ∧ r.nx ≤ 1000000
theorem rlT_small {r : Ru} (h : -1000000 ≤ r.wr ∧ r.wr ≤ 1000000 ∧ -1000000 ≤ r.nx ∧ r.nx ≤ 1000000) : (rlT r).length ≤ 50 := by
  unfold rlT
  split
  · simp
  · have h3 := Lib.itoa_length_le r.wr (by omega) (by omega)
    have h4 := Lib.itoa_length_le r.nx (by omega) (by omega)
    simp only [List.length_append]
    split <;> simp <;> omega
/-- The text of the first rules, with what stands between them. -/
def mtA (sy : Nat) (rs : List Ru) : Nat → List UInt8
  | 0 => []
  | k + 1 => mtA sy rs k ++ (if k = 0 then [] else if k % sy = 0 then [59] else [44]) ++ rlT (rs.getD k ru0)
def rowT (sy : Nat) (rs : List Ru) (s : Nat) : List UInt8 := Lib.join (((rs.drop (s * sy)).take sy).map rlT) [44]
def mtX (sy st : Nat) (rs : List Ru) : List UInt8 := Lib.join ((List.range st).map (rowT sy rs)) [59]
noncomputable def mtV (sy st : Int) (rs : List Ru) : List UInt8 := if machB sy st rs = true then mtX sy.toNat st.toNat rs else []
theorem RuR.one {rs : List Ru} (h : RuR rs) (k : Nat) (hk : k < rs.length) : -1000000 ≤ (rs.getD k ru0).wr ∧ (rs.getD k ru0).wr ≤ 1000000 ∧ -1000000 ≤ (rs.getD k ru0).nx ∧ (rs.getD k ru0).nx ≤ 1000000 := by
  rw [List.getD_eq_getElem?_getD, List.getElem?_eq_getElem hk]
  exact h _ (List.getElem_mem hk)
theorem mok_rur {sy st : Int} {rs : List Ru} (h : Mok sy st rs) : RuR rs := fun r hr => by
  obtain ⟨i, hi, rfl⟩ := List.getElem_of_mem hr
  have h1 := h.all i hi
  rw [List.getD_eq_getElem?_getD, List.getElem?_eq_getElem hi] at h1
  have := h.s1
  have := h.t1
  rcases h1 with ⟨q1, q2, q3⟩ | ⟨q1, q2, q3, q4, q5⟩
  · simp only [Option.getD_some] at q1 q2 q3
    omega
  · simp only [Option.getD_some] at q1 q2 q3 q4 q5
    omega
theorem mtA_small {sy : Nat} {rs : List Ru} (h : RuR rs) : ∀ k, k ≤ rs.length → (mtA sy rs k).length ≤ 51 * k := by
  intro k
  induction k with
  | zero => intro _; simp [mtA]
  | succ k ih =>
    intro hk
    have h1 := ih (by omega)
    have h2 := rlT_small (h.one k (by omega))
    rw [mtA]
    simp only [List.length_append]
    split
    · simp only [List.length_nil]; omega
    · split <;> simp only [List.length_singleton] <;> omega
theorem getD_drop_take {rs : List Ru} {a j n : Nat} (hj : j < n) (h : a + j < rs.length) : ((rs.drop a).take n).getD j ru0 = rs.getD (a + j) ru0 := by
  simp only [List.getD_eq_getElem?_getD, List.getElem?_take, List.getElem?_drop, if_pos hj]
theorem mtA_in {sy : Nat} {rs : List Ru} (s : Nat) (hs : 1 ≤ sy) : ∀ j, j < sy → s * sy + j < rs.length →
    mtA sy rs (s * sy + (j + 1)) = (if s = 0 then [] else mtA sy rs (s * sy) ++ [59]) ++ Lib.join (((rs.drop (s * sy)).take (j + 1)).map rlT) [44] := by
  intro j
  induction j with
  | zero =>
    intro _ h
    have e : (rs.drop (s * sy)).take 1 = [rs.getD (s * sy) ru0] := by
      rw [List.drop_eq_getElem_cons (by omega), List.getD_eq_getElem?_getD, List.getElem?_eq_getElem (by omega), List.take_succ_cons, List.take_zero]; rfl
    rw [show s * sy + (0 + 1) = (s * sy) + 1 by omega, mtA, Nat.zero_add, e, List.map_singleton, Lib.join_one]
    by_cases h0 : s = 0
    · subst h0; simp [mtA]
    · have h1 : s * sy ≠ 0 := Nat.mul_ne_zero h0 (by omega)
      rw [if_neg h1, if_pos (Nat.mul_mod_left s sy), if_neg h0]
  | succ j ih =>
    intro hj h
    have h1 := ih (by omega) (by omega)
    have e : (rs.drop (s * sy)).take (j + 1 + 1) = (rs.drop (s * sy)).take (j + 1) ++ [rs.getD (s * sy + (j + 1)) ru0] := by
      rw [List.take_succ_eq_append_getElem (by rw [List.length_drop]; omega), List.getElem_drop, List.getD_eq_getElem?_getD, List.getElem?_eq_getElem (by omega)]; rfl
    have hne : ¬ (s * sy + (j + 1) = 0) := by omega
    have hm : (s * sy + (j + 1)) % sy ≠ 0 := by rw [Nat.mul_add_mod_of_lt hj]; omega
    rw [show s * sy + (j + 1 + 1) = (s * sy + (j + 1)) + 1 by omega, mtA, h1, if_neg hne, if_neg hm, e, List.map_append, List.map_singleton,
      join_snoc _ _ _ (by intro hn; have h2 := congrArg List.length hn; rw [List.length_map, List.length_take, List.length_drop, List.length_nil] at h2; omega)]
    simp only [List.append_assoc]
theorem mtA_rows {sy st : Nat} {rs : List Ru} (hs : 1 ≤ sy) (hl : rs.length = st * sy) : ∀ s, s ≤ st → mtA sy rs (s * sy) = Lib.join ((List.range s).map (rowT sy rs)) [59] := by
  intro s
  induction s with
  | zero => intro _; rw [Nat.zero_mul, mtA, List.range_zero, List.map_nil, Lib.join_nil]
  | succ s ih =>
    intro h
    have hle : (s + 1) * sy ≤ st * sy := Nat.mul_le_mul_right sy h
    have he : (s + 1) * sy = s * sy + ((sy - 1) + 1) := by rw [Nat.add_mul, Nat.one_mul]; omega
    rw [he, mtA_in s hs (sy - 1) (by omega) (by omega), show sy - 1 + 1 = sy by omega, List.range_succ, List.map_append, List.map_singleton]
    by_cases h0 : s = 0
    · subst h0; simp [Lib.join_one, rowT]
    · rw [if_neg h0, ih (by omega), join_snoc _ _ _ (by intro hn; have h2 := congrArg List.length hn; rw [List.length_map, List.length_range, List.length_nil] at h2; omega)]
      rfl
theorem mtA_all {sy st : Nat} {rs : List Ru} (hs : 1 ≤ sy) (hl : rs.length = st * sy) : mtA sy rs rs.length = mtX sy st rs := by
  rw [hl]; exact mtA_rows hs hl st (Nat.le_refl _)
theorem specDecM (n : Int) (t : ByteArray) (hb : -9223372036854775808 ≤ n ∧ n ≤ 9223372036854775807) (ht : t = bs (Lib.itoa n)) (w : World) :
    Calls Tryd.prog 79 #[.int .i64 n] w fun e w' => e = .returned (.string t) ∧ Below w.heap.size w w' := by
  subst ht; exact specDec n hb.1 hb.2 w
set_option maxRecDepth 100000 in
set_option maxHeartbeats 16000000 in
theorem specMcT (g : Nat) (sy st : Int) (v : Value) (rs : List Ru) (w : World) (hv : RdR w v rs) (hm : Mok sy st rs) (hc : Cels w g 29 [.int .i64 sy, .int .i64 st, v]) :
    Calls Tryd.prog 41 #[.pointer (some ⟨g, 0, none⟩)] w fun e w' => e = .returned (.string (bs (mtX sy.toNat st.toNat rs))) ∧ Below w.heap.size w w' := by
  obtain ⟨hl, hf, a, c, rfl, hcap, hr⟩ := hv
  obtain ⟨sn, rfl⟩ : ∃ n : Nat, sy = n := ⟨sy.toNat, by have := hm.s0; omega⟩
  obtain ⟨tn, rfl⟩ : ∃ n : Nat, st = n := ⟨st.toNat, by have := hm.t0; omega⟩
  have HRU := Lib.hid (mok_rur hm)
  have hs0 : 2 ≤ sn := by have := hm.s0; omega
  have hs1 : sn ≤ 6 := by have := hm.s1; omega
  have ht1 : tn ≤ 1000 := by have := hm.t1; omega
  have hll : rs.length = tn * sn := by have h := hm.len; rw [Int.mul_comm] at h; exact_mod_cast h
  have hmul : tn * sn ≤ 1000 * 6 := Nat.mul_le_mul ht1 hs1
  have HEND : Hid (bs (mtX sn tn rs) = bs (mtA sn rs rs.length)) := Lib.hid (by rw [mtA_all (by omega) hll])
  have hl6 : rs.length ≤ 6000 := by omega
  have HR := Lib.hid hr
  have HC := Lib.hid hc
  clear hr hm hf hll hmul hc
  go_enter Tryd.func41, Tryd.ntmps41
  go_wp2
  go_loopw [3, 4] (fun o s wr => ∃ k : Nat, k ≤ rs.length ∧ s = .int .i64 k ∧ o = .string (bs (mtA sn rs k)) ∧ Below w.heap.size w wr) (fun _ s _ => rs.length - (intOf s).toNat)
  case atStart => exact ⟨0, Nat.zero_le _, rfl, rfl, Below.refl _ _⟩
  case round =>
    obtain ⟨k, hk, rfl, ho, hbel⟩ := hrel
    have HB := Lib.hid hbel
    have HCR := Lib.hid (HC.out.below hbel HC.out.lt)
    have a0 := HCR.out.cell 0 rfl
    have a2 := HCR.out.cell 2 rfl
    by_cases hlt : k < rs.length
    · obtain ⟨b, o, rfl, hb, hcell⟩ := HR.out (by intro h0; rw [h0] at hlt; simp at hlt)
      obtain ⟨c0, c1, c2⟩ := hcell k hlt
      replace c0 := (hbel.cell (p := ⟨b, o + k * 3, none⟩) hb).trans c0
      replace c1 := (hbel.cell (p := ⟨b, o + k * 3 + 1, none⟩) hb).trans c1
      replace c2 := (hbel.cell (p := ⟨b, o + k * 3 + 2, none⟩) hb).trans c2
      have j0 : (0 : Int) ≤ (k : Int) := by omega
      have j1 : (k : Int) < (rs.length : Int) := by omega
      have hbd := HRU.out.one k hlt
      obtain ⟨r, hr0⟩ : ∃ r, r = rs.getD k ru0 := ⟨_, rfl⟩
      have hsm := mtA_small (sy := sn) HRU.out k (by omega)
      have hst : mtA sn rs (k + 1) = mtA sn rs k ++ (if k = 0 then [] else if k % sn = 0 then [59] else [44]) ++ rlT r := by rw [hr0]; rfl
      rw [← hr0] at c0 c1 c2 hbd
      obtain ⟨x, y, z⟩ := r
      dsimp only at c0 c1 c2 hbd
      obtain ⟨s0, hs0e⟩ : ∃ s, s = bs (mtA sn rs k) := ⟨_, rfl⟩
      obtain ⟨tx, htx⟩ : ∃ t, t = bs (Lib.itoa x) := ⟨_, rfl⟩
      obtain ⟨ty, hty⟩ : ∃ t, t = bs (Lib.itoa z) := ⟨_, rfl⟩
      have hss : s0.size ≤ 400000 := by rw [hs0e, bs_size]; omega
      have sx : tx.size ≤ 21 := by rw [htx, bs_size]; exact Lib.itoa_length_le x (by omega) (by omega)
      have sy' : ty.size ≤ 21 := by rw [hty, bs_size]; exact Lib.itoa_length_le z (by omega) (by omega)
      have HX := Lib.hid htx
      have HY := Lib.hid hty
      have HBX : Hid (-9223372036854775808 ≤ x ∧ x ≤ 9223372036854775807) := Lib.hid (by omega)
      have HBZ : Hid (-9223372036854775808 ≤ z ∧ z ≤ 9223372036854775807) := Lib.hid (by omega)
      have HNX : Hid (bs (mtA sn rs (k + 1)) = (if k = 0 then s0 else if k % sn = 0 then s0 ++ bs [59] else s0 ++ bs [44]) ++ bs (rlT ⟨x, y, z⟩)) := Lib.hid (by
        rw [hst, hs0e]
        by_cases h0 : k = 0
        · rw [if_pos h0, if_pos h0, List.append_nil, bs_append]
        · by_cases h1 : k % sn = 0
          · rw [if_neg h0, if_neg h0, if_pos h1, if_pos h1, bs_append, bs_append]
          · rw [if_neg h0, if_neg h0, if_neg h1, if_neg h1, bs_append, bs_append])
      have HRL : Hid (bs (rlT ⟨x, y, z⟩) = if NoRu ⟨x, y, z⟩ then bs [45, 45, 45] else if y < 0 then tx ++ bs [76] ++ ty else tx ++ bs [82] ++ ty) := Lib.hid (by
        rw [rlT]
        by_cases h0 : NoRu ⟨x, y, z⟩
        · rw [if_pos h0, if_pos h0]
        · rw [if_neg h0, if_neg h0, htx, hty]
          by_cases h1 : y < 0
          · rw [if_pos h1, if_pos h1, bs_append, bs_append]
          · rw [if_neg h1, if_neg h1, bs_append, bs_append])
      rw [← hs0e] at ho
      subst ho
      obtain ⟨W1, hW1⟩ : ∃ W, W = wr.alloc (Obj.cells #[.int .i64 x, .int .i64 y, .int .i64 z] 86) := ⟨_, rfl⟩
      have HB1 : Hid (Below w.heap.size w W1) := Lib.hid (by rw [hW1]; exact hbel.alloc hbel.size _)
      have HK1 : Hid (Cels W1 wr.heap.size 86 [.int .i64 x, .int .i64 y, .int .i64 z]) := Lib.hid (by rw [hW1]; exact Cels.new _ _ _)
      have HW1 := Lib.hid hW1.symm
      have HS : Hid (∀ W, Below W1.heap.size W1 W → W.cell? ⟨wr.heap.size, 0, none⟩ = some (.int .i64 x) ∧ W.cell? ⟨wr.heap.size, 1, none⟩ = some (.int .i64 y) ∧ W.cell? ⟨wr.heap.size, 2, none⟩ = some (.int .i64 z)) := Lib.hid (fun W hW => by
        have h := HK1.out.below hW HK1.out.lt
        exact ⟨h.cell 0 rfl, h.cell 1 rfl, h.cell 2 rfl⟩)
      have HD : Hid (Below W1.heap.size W1 W1.drew) := Lib.hid (Below.refl _ _).drew
      obtain ⟨rm, hrm⟩ : ∃ m : Int, m = (k : Int).tmod (sn : Int) := ⟨_, rfl⟩
      have hrm2 : rm = ((k % sn : Nat) : Int) := by rw [hrm, Int.tmod_eq_emod_of_nonneg (by omega)]; exact (Int.natCast_emod k sn).symm
      have hsz0 : ((sn : Int) == 0) = false := by rw [beq_eq_false_iff_ne]; omega
      have hsz1 : ¬ (sn : Int) = 0 := by omega
      have hsz2 : ((sn : Int) == -1) = false := by rw [beq_eq_false_iff_ne]; omega
      clear hcell hbel hr0 hst hsm hs0e htx hty hW1 hb hbd
      by_cases hk0 : k = 0
      · have HSEP : Hid (bs (mtA sn rs (k + 1)) = s0 ++ bs (rlT ⟨x, y, z⟩)) := Lib.hid (by rw [HNX.out, if_pos hk0])
        have hk1 : ¬ (0 : Int) < (k : Int) := by omega
        have hk2 : decide ((0 : Int) < (k : Int)) = false := decide_eq_false hk1
        clear hk0 hrm hrm2
        have q5 : ¬ (9223372036854775807 ≤ s0.size) := by omega
        have q6 : ¬ (9223372036854775807 < s0.size + 1) := by omega
        have q7 : ¬ (9223372036854775807 < tx.size + 1) := by omega
        have q8 : ¬ (9223372036854775807 ≤ tx.size) := by omega
        have q9 : ¬ (9223372036854775807 < tx.size + 1 + ty.size) := by omega
        have q10 : ¬ (9223372036854775807 < s0.size + (tx.size + 1 + ty.size)) := by omega
        have q11 : ¬ (9223372036854775807 < s0.size + 1 + (tx.size + 1 + ty.size)) := by omega
        have q12 : ¬ (9223372036854775807 < s0.size + 3) := by omega
        have q13 : ¬ (9223372036854775804 < s0.size) := by omega
        have q14 : ¬ (9223372036854775807 < s0.size + 1 + 3) := by omega
        have q15 : ¬ (9223372036854775804 < s0.size + 1) := by omega
        have q16 : ¬ (9223372036854775803 < s0.size) := by omega
        have q17 : ¬ (9223372036854775804 ≤ s0.size) := by omega
        by_cases hno : NoRu ⟨x, y, z⟩
        · have HF : Hid (bs (mtA sn rs (k + 1)) = s0 ++ bs [45, 45, 45]) := Lib.hid (by rw [HSEP.out, HRL.out, if_pos hno])
          obtain ⟨hx, hy, hz⟩ := hno
          dsimp only at hx hy hz
          subst hx hy hz
          go_wp2_with fail
          rw [HW1.out]
          go_region_held3 (fun W => W.cell? ⟨wr.heap.size, 0, none⟩ = some (.int .i64 0) ∧ W.cell? ⟨wr.heap.size, 1, none⟩ = some (.int .i64 0) ∧ W.cell? ⟨wr.heap.size, 2, none⟩ = some (.int .i64 (-1)))
            (exact HS.out _ HD.out)
            (first | (go_at_call 78; with_reducible refine (specNone _).mono ?_; rintro e w3 ⟨rfl, bq⟩; replace HD := Lib.hid (HD.out.trans (bq.mono HD.out.size)); clear bq))
          all_goals
            go_wp2
            go_roundw
            case rel => exact ⟨k + 1, by omega, by go_num, by rw [HF.out], HB1.out.trans (HD.out.mono HB1.out.size)⟩
            case measure => simp [intOf]; omega
        have hnc := nor_cases hno
        by_cases hyn : y < 0
        · have HF : Hid (bs (mtA sn rs (k + 1)) = s0 ++ (tx ++ bs [76] ++ ty)) := Lib.hid (by rw [HSEP.out, HRL.out, if_neg hno, if_pos hyn])
          clear hno
          rcases hnc with q | ⟨q, q'⟩ | ⟨q, q', q''⟩
          all_goals
            go_wp2_with fail
            rw [HW1.out]
            go_region_held3 (fun W => W.cell? ⟨wr.heap.size, 0, none⟩ = some (.int .i64 x) ∧ W.cell? ⟨wr.heap.size, 1, none⟩ = some (.int .i64 y) ∧ W.cell? ⟨wr.heap.size, 2, none⟩ = some (.int .i64 z))
              (exact HS.out _ HD.out)
              (first | (go_at_call 78; with_reducible refine (specNone _).mono ?_; rintro e w3 ⟨rfl, bq⟩; replace HD := Lib.hid (HD.out.trans (bq.mono HD.out.size)); clear bq))
            obtain ⟨w5, hw5⟩ : ∃ x, x = w3 := ⟨_, rfl⟩
            have HB5 := Lib.hid (HB1.out.trans (HD.out.mono HB1.out.size))
            have HS5 : Hid (∀ W, Below w3.heap.size w3 W → W.cell? ⟨wr.heap.size, 0, none⟩ = some (.int .i64 x) ∧ W.cell? ⟨wr.heap.size, 1, none⟩ = some (.int .i64 y) ∧ W.cell? ⟨wr.heap.size, 2, none⟩ = some (.int .i64 z)) := Lib.hid (fun W hW => HS.out W (HD.out.trans (hW.mono HD.out.size)))
            have hz1 := (HS5.out w3 (Below.refl _ _)).2.1
            have HE5 : Hid (Below w3.heap.size w3 w3.drew) := Lib.hid (Below.refl _ _).drew
            clear hw5
            go_wp2_with fail
            clear hz1
            go_region_held3 (fun W => W.cell? ⟨wr.heap.size, 0, none⟩ = some (.int .i64 x) ∧ W.cell? ⟨wr.heap.size, 1, none⟩ = some (.int .i64 y) ∧ W.cell? ⟨wr.heap.size, 2, none⟩ = some (.int .i64 z))
              (exact HS5.out _ HE5.out)
              (first | (go_at_call 79; with_reducible refine (specDecM x tx HBX.out HX.out _).mono ?_; rintro e1 w1 ⟨rfl, bq⟩; replace HE5 := Lib.hid (HE5.out.trans (bq.mono HE5.out.size)); clear bq) | (go_at_call 79; with_reducible refine (specDecM z ty HBZ.out HY.out _).mono ?_; rintro e1 w1 ⟨rfl, bq⟩; replace HE5 := Lib.hid (HE5.out.trans (bq.mono HE5.out.size)); clear bq))
            all_goals
              go_wp2
              go_roundw
              case rel => exact ⟨k + 1, by omega, by go_num, by rw [HF.out], HB5.out.trans (HE5.out.mono HB5.out.size)⟩
              case measure => simp [intOf]; omega
        have HF : Hid (bs (mtA sn rs (k + 1)) = s0 ++ (tx ++ bs [82] ++ ty)) := Lib.hid (by rw [HSEP.out, HRL.out, if_neg hno, if_neg hyn])
        clear hno
        rcases hnc with q | ⟨q, q'⟩ | ⟨q, q', q''⟩
        all_goals
          go_wp2_with fail
          rw [HW1.out]
          go_region_held3 (fun W => W.cell? ⟨wr.heap.size, 0, none⟩ = some (.int .i64 x) ∧ W.cell? ⟨wr.heap.size, 1, none⟩ = some (.int .i64 y) ∧ W.cell? ⟨wr.heap.size, 2, none⟩ = some (.int .i64 z))
            (exact HS.out _ HD.out)
            (first | (go_at_call 78; with_reducible refine (specNone _).mono ?_; rintro e w3 ⟨rfl, bq⟩; replace HD := Lib.hid (HD.out.trans (bq.mono HD.out.size)); clear bq))
          obtain ⟨w5, hw5⟩ : ∃ x, x = w3 := ⟨_, rfl⟩
          have HB5 := Lib.hid (HB1.out.trans (HD.out.mono HB1.out.size))
          have HS5 : Hid (∀ W, Below w3.heap.size w3 W → W.cell? ⟨wr.heap.size, 0, none⟩ = some (.int .i64 x) ∧ W.cell? ⟨wr.heap.size, 1, none⟩ = some (.int .i64 y) ∧ W.cell? ⟨wr.heap.size, 2, none⟩ = some (.int .i64 z)) := Lib.hid (fun W hW => HS.out W (HD.out.trans (hW.mono HD.out.size)))
          have hz1 := (HS5.out w3 (Below.refl _ _)).2.1
          have HE5 : Hid (Below w3.heap.size w3 w3.drew) := Lib.hid (Below.refl _ _).drew
          clear hw5
          go_wp2_with fail
          clear hz1
          go_region_held3 (fun W => W.cell? ⟨wr.heap.size, 0, none⟩ = some (.int .i64 x) ∧ W.cell? ⟨wr.heap.size, 1, none⟩ = some (.int .i64 y) ∧ W.cell? ⟨wr.heap.size, 2, none⟩ = some (.int .i64 z))
            (exact HS5.out _ HE5.out)
            (first | (go_at_call 79; with_reducible refine (specDecM x tx HBX.out HX.out _).mono ?_; rintro e1 w1 ⟨rfl, bq⟩; replace HE5 := Lib.hid (HE5.out.trans (bq.mono HE5.out.size)); clear bq) | (go_at_call 79; with_reducible refine (specDecM z ty HBZ.out HY.out _).mono ?_; rintro e1 w1 ⟨rfl, bq⟩; replace HE5 := Lib.hid (HE5.out.trans (bq.mono HE5.out.size)); clear bq))
          all_goals
            go_wp2
            go_roundw
            case rel => exact ⟨k + 1, by omega, by go_num, by rw [HF.out], HB5.out.trans (HE5.out.mono HB5.out.size)⟩
            case measure => simp [intOf]; omega
      have hk1 : (0 : Int) < (k : Int) := by omega
      by_cases hk3 : k % sn = 0
      · have HSEP : Hid (bs (mtA sn rs (k + 1)) = s0 ++ bs [59] ++ bs (rlT ⟨x, y, z⟩)) := Lib.hid (by rw [HNX.out, if_neg hk0, if_pos hk3])
        have hrz : (k : Int).tmod (sn : Int) = 0 := by rw [← hrm, hrm2, hk3]; rfl
        clear hk0 hk3 hrm hrm2
        have q90 : ¬ (9223372036854775807 ≤ s0.size) := by omega
        have q91 : ¬ (9223372036854775807 < s0.size + 1) := by omega
        have q92 : ¬ (9223372036854775807 < tx.size + 1) := by omega
        have q93 : ¬ (9223372036854775807 ≤ tx.size) := by omega
        have q94 : ¬ (9223372036854775807 < tx.size + 1 + ty.size) := by omega
        have q95 : ¬ (9223372036854775807 < s0.size + (tx.size + 1 + ty.size)) := by omega
        have q96 : ¬ (9223372036854775807 < s0.size + 1 + (tx.size + 1 + ty.size)) := by omega
        have q97 : ¬ (9223372036854775807 < s0.size + 3) := by omega
        have q98 : ¬ (9223372036854775804 < s0.size) := by omega
        have q99 : ¬ (9223372036854775807 < s0.size + 1 + 3) := by omega
        have q100 : ¬ (9223372036854775804 < s0.size + 1) := by omega
        have q101 : ¬ (9223372036854775803 < s0.size) := by omega
        have q102 : ¬ (9223372036854775804 ≤ s0.size) := by omega
        by_cases hno : NoRu ⟨x, y, z⟩
        · have HF : Hid (bs (mtA sn rs (k + 1)) = s0 ++ bs [59] ++ bs [45, 45, 45]) := Lib.hid (by rw [HSEP.out, HRL.out, if_pos hno])
          obtain ⟨hx, hy, hz⟩ := hno
          dsimp only at hx hy hz
          subst hx hy hz
          go_wp2_with fail
          rw [HW1.out]
          go_region_held3 (fun W => W.cell? ⟨wr.heap.size, 0, none⟩ = some (.int .i64 0) ∧ W.cell? ⟨wr.heap.size, 1, none⟩ = some (.int .i64 0) ∧ W.cell? ⟨wr.heap.size, 2, none⟩ = some (.int .i64 (-1)))
            (exact HS.out _ HD.out)
            (first | (go_at_call 78; with_reducible refine (specNone _).mono ?_; rintro e w3 ⟨rfl, bq⟩; replace HD := Lib.hid (HD.out.trans (bq.mono HD.out.size)); clear bq))
          all_goals
            go_wp2
            go_roundw
            case rel => exact ⟨k + 1, by omega, by go_num, by rw [HF.out], HB1.out.trans (HD.out.mono HB1.out.size)⟩
            case measure => simp [intOf]; omega
        have hnc := nor_cases hno
        by_cases hyn : y < 0
        · have HF : Hid (bs (mtA sn rs (k + 1)) = s0 ++ bs [59] ++ (tx ++ bs [76] ++ ty)) := Lib.hid (by rw [HSEP.out, HRL.out, if_neg hno, if_pos hyn])
          clear hno
          rcases hnc with q | ⟨q, q'⟩ | ⟨q, q', q''⟩
          all_goals
            go_wp2_with fail
            rw [HW1.out]
            go_region_held3 (fun W => W.cell? ⟨wr.heap.size, 0, none⟩ = some (.int .i64 x) ∧ W.cell? ⟨wr.heap.size, 1, none⟩ = some (.int .i64 y) ∧ W.cell? ⟨wr.heap.size, 2, none⟩ = some (.int .i64 z))
              (exact HS.out _ HD.out)
              (first | (go_at_call 78; with_reducible refine (specNone _).mono ?_; rintro e w3 ⟨rfl, bq⟩; replace HD := Lib.hid (HD.out.trans (bq.mono HD.out.size)); clear bq))
            obtain ⟨w5, hw5⟩ : ∃ x, x = w3 := ⟨_, rfl⟩
            have HB5 := Lib.hid (HB1.out.trans (HD.out.mono HB1.out.size))
            have HS5 : Hid (∀ W, Below w3.heap.size w3 W → W.cell? ⟨wr.heap.size, 0, none⟩ = some (.int .i64 x) ∧ W.cell? ⟨wr.heap.size, 1, none⟩ = some (.int .i64 y) ∧ W.cell? ⟨wr.heap.size, 2, none⟩ = some (.int .i64 z)) := Lib.hid (fun W hW => HS.out W (HD.out.trans (hW.mono HD.out.size)))
            have hz1 := (HS5.out w3 (Below.refl _ _)).2.1
            have HE5 : Hid (Below w3.heap.size w3 w3.drew) := Lib.hid (Below.refl _ _).drew
            clear hw5
            go_wp2_with fail
            clear hz1
            go_region_held3 (fun W => W.cell? ⟨wr.heap.size, 0, none⟩ = some (.int .i64 x) ∧ W.cell? ⟨wr.heap.size, 1, none⟩ = some (.int .i64 y) ∧ W.cell? ⟨wr.heap.size, 2, none⟩ = some (.int .i64 z))
              (exact HS5.out _ HE5.out)
              (first | (go_at_call 79; with_reducible refine (specDecM x tx HBX.out HX.out _).mono ?_; rintro e1 w1 ⟨rfl, bq⟩; replace HE5 := Lib.hid (HE5.out.trans (bq.mono HE5.out.size)); clear bq) | (go_at_call 79; with_reducible refine (specDecM z ty HBZ.out HY.out _).mono ?_; rintro e1 w1 ⟨rfl, bq⟩; replace HE5 := Lib.hid (HE5.out.trans (bq.mono HE5.out.size)); clear bq))
            all_goals
              go_wp2
              go_roundw
              case rel => exact ⟨k + 1, by omega, by go_num, by rw [HF.out], HB5.out.trans (HE5.out.mono HB5.out.size)⟩
              case measure => simp [intOf]; omega
        have HF : Hid (bs (mtA sn rs (k + 1)) = s0 ++ bs [59] ++ (tx ++ bs [82] ++ ty)) := Lib.hid (by rw [HSEP.out, HRL.out, if_neg hno, if_neg hyn])
        clear hno
        rcases hnc with q | ⟨q, q'⟩ | ⟨q, q', q''⟩
        all_goals
          go_wp2_with fail
          rw [HW1.out]
          go_region_held3 (fun W => W.cell? ⟨wr.heap.size, 0, none⟩ = some (.int .i64 x) ∧ W.cell? ⟨wr.heap.size, 1, none⟩ = some (.int .i64 y) ∧ W.cell? ⟨wr.heap.size, 2, none⟩ = some (.int .i64 z))
            (exact HS.out _ HD.out)
            (first | (go_at_call 78; with_reducible refine (specNone _).mono ?_; rintro e w3 ⟨rfl, bq⟩; replace HD := Lib.hid (HD.out.trans (bq.mono HD.out.size)); clear bq))
          obtain ⟨w5, hw5⟩ : ∃ x, x = w3 := ⟨_, rfl⟩
          have HB5 := Lib.hid (HB1.out.trans (HD.out.mono HB1.out.size))
          have HS5 : Hid (∀ W, Below w3.heap.size w3 W → W.cell? ⟨wr.heap.size, 0, none⟩ = some (.int .i64 x) ∧ W.cell? ⟨wr.heap.size, 1, none⟩ = some (.int .i64 y) ∧ W.cell? ⟨wr.heap.size, 2, none⟩ = some (.int .i64 z)) := Lib.hid (fun W hW => HS.out W (HD.out.trans (hW.mono HD.out.size)))
          have hz1 := (HS5.out w3 (Below.refl _ _)).2.1
          have HE5 : Hid (Below w3.heap.size w3 w3.drew) := Lib.hid (Below.refl _ _).drew
          clear hw5
          go_wp2_with fail
          clear hz1
          go_region_held3 (fun W => W.cell? ⟨wr.heap.size, 0, none⟩ = some (.int .i64 x) ∧ W.cell? ⟨wr.heap.size, 1, none⟩ = some (.int .i64 y) ∧ W.cell? ⟨wr.heap.size, 2, none⟩ = some (.int .i64 z))
            (exact HS5.out _ HE5.out)
            (first | (go_at_call 79; with_reducible refine (specDecM x tx HBX.out HX.out _).mono ?_; rintro e1 w1 ⟨rfl, bq⟩; replace HE5 := Lib.hid (HE5.out.trans (bq.mono HE5.out.size)); clear bq) | (go_at_call 79; with_reducible refine (specDecM z ty HBZ.out HY.out _).mono ?_; rintro e1 w1 ⟨rfl, bq⟩; replace HE5 := Lib.hid (HE5.out.trans (bq.mono HE5.out.size)); clear bq))
          all_goals
            go_wp2
            go_roundw
            case rel => exact ⟨k + 1, by omega, by go_num, by rw [HF.out], HB5.out.trans (HE5.out.mono HB5.out.size)⟩
            case measure => simp [intOf]; omega
      have HSEP : Hid (bs (mtA sn rs (k + 1)) = s0 ++ bs [44] ++ bs (rlT ⟨x, y, z⟩)) := Lib.hid (by rw [HNX.out, if_neg hk0, if_neg hk3])
      have hrz : (rm == 0) = false := by rw [hrm2, beq_eq_false_iff_ne]; exact_mod_cast hk3
      have hrq : (k : Int).tmod (sn : Int) = rm := hrm.symm
      clear hk0 hk3 hrm hrm2
      have q174 : ¬ (9223372036854775807 ≤ s0.size) := by omega
      have q175 : ¬ (9223372036854775807 < s0.size + 1) := by omega
      have q176 : ¬ (9223372036854775807 < tx.size + 1) := by omega
      have q177 : ¬ (9223372036854775807 ≤ tx.size) := by omega
      have q178 : ¬ (9223372036854775807 < tx.size + 1 + ty.size) := by omega
      have q179 : ¬ (9223372036854775807 < s0.size + (tx.size + 1 + ty.size)) := by omega
      have q180 : ¬ (9223372036854775807 < s0.size + 1 + (tx.size + 1 + ty.size)) := by omega
      have q181 : ¬ (9223372036854775807 < s0.size + 3) := by omega
      have q182 : ¬ (9223372036854775804 < s0.size) := by omega
      have q183 : ¬ (9223372036854775807 < s0.size + 1 + 3) := by omega
      have q184 : ¬ (9223372036854775804 < s0.size + 1) := by omega
      have q185 : ¬ (9223372036854775803 < s0.size) := by omega
      have q186 : ¬ (9223372036854775804 ≤ s0.size) := by omega
      by_cases hno : NoRu ⟨x, y, z⟩
      · have HF : Hid (bs (mtA sn rs (k + 1)) = s0 ++ bs [44] ++ bs [45, 45, 45]) := Lib.hid (by rw [HSEP.out, HRL.out, if_pos hno])
        obtain ⟨hx, hy, hz⟩ := hno
        dsimp only at hx hy hz
        subst hx hy hz
        go_wp2_with fail
        rw [HW1.out]
        go_region_held3 (fun W => W.cell? ⟨wr.heap.size, 0, none⟩ = some (.int .i64 0) ∧ W.cell? ⟨wr.heap.size, 1, none⟩ = some (.int .i64 0) ∧ W.cell? ⟨wr.heap.size, 2, none⟩ = some (.int .i64 (-1)))
          (exact HS.out _ HD.out)
          (first | (go_at_call 78; with_reducible refine (specNone _).mono ?_; rintro e w3 ⟨rfl, bq⟩; replace HD := Lib.hid (HD.out.trans (bq.mono HD.out.size)); clear bq))
        all_goals
          go_wp2
          go_roundw
          case rel => exact ⟨k + 1, by omega, by go_num, by rw [HF.out], HB1.out.trans (HD.out.mono HB1.out.size)⟩
          case measure => simp [intOf]; omega
      have hnc := nor_cases hno
      by_cases hyn : y < 0
      · have HF : Hid (bs (mtA sn rs (k + 1)) = s0 ++ bs [44] ++ (tx ++ bs [76] ++ ty)) := Lib.hid (by rw [HSEP.out, HRL.out, if_neg hno, if_pos hyn])
        clear hno
        rcases hnc with q | ⟨q, q'⟩ | ⟨q, q', q''⟩
        all_goals
          go_wp2_with fail
          rw [HW1.out]
          go_region_held3 (fun W => W.cell? ⟨wr.heap.size, 0, none⟩ = some (.int .i64 x) ∧ W.cell? ⟨wr.heap.size, 1, none⟩ = some (.int .i64 y) ∧ W.cell? ⟨wr.heap.size, 2, none⟩ = some (.int .i64 z))
            (exact HS.out _ HD.out)
            (first | (go_at_call 78; with_reducible refine (specNone _).mono ?_; rintro e w3 ⟨rfl, bq⟩; replace HD := Lib.hid (HD.out.trans (bq.mono HD.out.size)); clear bq))
          obtain ⟨w5, hw5⟩ : ∃ x, x = w3 := ⟨_, rfl⟩
          have HB5 := Lib.hid (HB1.out.trans (HD.out.mono HB1.out.size))
          have HS5 : Hid (∀ W, Below w3.heap.size w3 W → W.cell? ⟨wr.heap.size, 0, none⟩ = some (.int .i64 x) ∧ W.cell? ⟨wr.heap.size, 1, none⟩ = some (.int .i64 y) ∧ W.cell? ⟨wr.heap.size, 2, none⟩ = some (.int .i64 z)) := Lib.hid (fun W hW => HS.out W (HD.out.trans (hW.mono HD.out.size)))
          have hz1 := (HS5.out w3 (Below.refl _ _)).2.1
          have HE5 : Hid (Below w3.heap.size w3 w3.drew) := Lib.hid (Below.refl _ _).drew
          clear hw5
          go_wp2_with fail
          clear hz1
          go_region_held3 (fun W => W.cell? ⟨wr.heap.size, 0, none⟩ = some (.int .i64 x) ∧ W.cell? ⟨wr.heap.size, 1, none⟩ = some (.int .i64 y) ∧ W.cell? ⟨wr.heap.size, 2, none⟩ = some (.int .i64 z))
            (exact HS5.out _ HE5.out)
            (first | (go_at_call 79; with_reducible refine (specDecM x tx HBX.out HX.out _).mono ?_; rintro e1 w1 ⟨rfl, bq⟩; replace HE5 := Lib.hid (HE5.out.trans (bq.mono HE5.out.size)); clear bq) | (go_at_call 79; with_reducible refine (specDecM z ty HBZ.out HY.out _).mono ?_; rintro e1 w1 ⟨rfl, bq⟩; replace HE5 := Lib.hid (HE5.out.trans (bq.mono HE5.out.size)); clear bq))
          all_goals
            go_wp2
            go_roundw
            case rel => exact ⟨k + 1, by omega, by go_num, by rw [HF.out], HB5.out.trans (HE5.out.mono HB5.out.size)⟩
            case measure => simp [intOf]; omega
      have HF : Hid (bs (mtA sn rs (k + 1)) = s0 ++ bs [44] ++ (tx ++ bs [82] ++ ty)) := Lib.hid (by rw [HSEP.out, HRL.out, if_neg hno, if_neg hyn])
      clear hno
      rcases hnc with q | ⟨q, q'⟩ | ⟨q, q', q''⟩
      all_goals
        go_wp2_with fail
        rw [HW1.out]
        go_region_held3 (fun W => W.cell? ⟨wr.heap.size, 0, none⟩ = some (.int .i64 x) ∧ W.cell? ⟨wr.heap.size, 1, none⟩ = some (.int .i64 y) ∧ W.cell? ⟨wr.heap.size, 2, none⟩ = some (.int .i64 z))
          (exact HS.out _ HD.out)
          (first | (go_at_call 78; with_reducible refine (specNone _).mono ?_; rintro e w3 ⟨rfl, bq⟩; replace HD := Lib.hid (HD.out.trans (bq.mono HD.out.size)); clear bq))
        obtain ⟨w5, hw5⟩ : ∃ x, x = w3 := ⟨_, rfl⟩
        have HB5 := Lib.hid (HB1.out.trans (HD.out.mono HB1.out.size))
        have HS5 : Hid (∀ W, Below w3.heap.size w3 W → W.cell? ⟨wr.heap.size, 0, none⟩ = some (.int .i64 x) ∧ W.cell? ⟨wr.heap.size, 1, none⟩ = some (.int .i64 y) ∧ W.cell? ⟨wr.heap.size, 2, none⟩ = some (.int .i64 z)) := Lib.hid (fun W hW => HS.out W (HD.out.trans (hW.mono HD.out.size)))
        have hz1 := (HS5.out w3 (Below.refl _ _)).2.1
        have HE5 : Hid (Below w3.heap.size w3 w3.drew) := Lib.hid (Below.refl _ _).drew
        clear hw5
        go_wp2_with fail
        clear hz1
        go_region_held3 (fun W => W.cell? ⟨wr.heap.size, 0, none⟩ = some (.int .i64 x) ∧ W.cell? ⟨wr.heap.size, 1, none⟩ = some (.int .i64 y) ∧ W.cell? ⟨wr.heap.size, 2, none⟩ = some (.int .i64 z))
          (exact HS5.out _ HE5.out)
          (first | (go_at_call 79; with_reducible refine (specDecM x tx HBX.out HX.out _).mono ?_; rintro e1 w1 ⟨rfl, bq⟩; replace HE5 := Lib.hid (HE5.out.trans (bq.mono HE5.out.size)); clear bq) | (go_at_call 79; with_reducible refine (specDecM z ty HBZ.out HY.out _).mono ?_; rintro e1 w1 ⟨rfl, bq⟩; replace HE5 := Lib.hid (HE5.out.trans (bq.mono HE5.out.size)); clear bq))
        all_goals
          go_wp2
          go_roundw
          case rel => exact ⟨k + 1, by omega, by go_num, by rw [HF.out], HB5.out.trans (HE5.out.mono HB5.out.size)⟩
          case measure => simp [intOf]; omega
    · obtain rfl : k = rs.length := by omega
      have hnlt : ¬ ((rs.length : Int) < (rs.length : Int)) := by omega
      subst ho
      clear hbel hlt
      go_wp2
      go_ret
      exact ⟨by rw [HEND.out] <;> rfl, HB.out⟩
end Go.Proofs.YtmbojhlcmgknbaaDoor.Ints
