/- The text of a program of fractions, of the model and of the program. -/
import Derived.Test.YtbifkjmmhfnblaaDoorCtT
import Derived.Test.YtbifkjmmhfnblaaDoorFrcS
import Derived.Test.YtbifkjmmhfnblaaDoorFrcI
namespace Go.Proofs.YtbifkjmmhfnblaaDoor.Ints
open Go.RowKit
set_option linter.unusedVariables false
set_option linter.unusedSimpArgs false

/-- A fraction's text. -/
def frT (f : Fra) : List UInt8 := Lib.itoa f.up ++ [47] ++ Lib.itoa f.dn
def frX (rs : List Fra) : List UInt8 := Lib.join (rs.map frT) [32]
noncomputable def frV (rs : List Fra) : List UInt8 := if frsB rs = true then frX rs else []
def FrR (rs : List Fra) : Prop := rs.length ≤ 100 ∧ ∀ f ∈ rs, (1 ≤ f.up ∧ f.up ≤ 999999) ∧ (1 ≤ f.dn ∧ f.dn ≤ 999999)
theorem frsB_r {rs : List Fra} (h : frsB rs = true) : FrR rs := by
  have h1 := frsB_ok h
  refine ⟨h1.hi, fun f hf => ?_⟩
  obtain ⟨i, hi, rfl⟩ := List.getElem_of_mem hf
  have h2 := h1.all i hi
  rw [List.getD_eq_getElem?_getD, List.getElem?_eq_getElem hi] at h2
  exact ⟨h2.1, h2.2⟩
theorem FrR.one {rs : List Fra} (h : FrR rs) (k : Nat) (hk : k < rs.length) : (1 ≤ (rs.getD k zFra).up ∧ (rs.getD k zFra).up ≤ 999999) ∧ (1 ≤ (rs.getD k zFra).dn ∧ (rs.getD k zFra).dn ≤ 999999) := by
  rw [List.getD_eq_getElem?_getD, List.getElem?_eq_getElem hk]
  exact h.2 _ (List.getElem_mem hk)
theorem FrR.small {rs : List Fra} (h : FrR rs) : (frX rs).length ≤ 10000 := by
  have h1 := join_small (rs.map frT) [32] 43 (fun y hy => by
    obtain ⟨f, hf, rfl⟩ := List.mem_map.1 hy
    have h2 := h.2 f hf
    have h3 := Lib.itoa_length_le f.up (by omega) (by omega)
    have h4 := Lib.itoa_length_le f.dn (by omega) (by omega)
    simp [frT]; omega)
  simp only [List.length_map, List.length_singleton] at h1
  have h2 := h.1
  unfold frX
  omega
theorem FrR.take {rs : List Fra} (h : FrR rs) (k : Nat) : FrR (rs.take k) := ⟨by have := h.1; rw [List.length_take]; omega, fun f hf => h.2 f (List.mem_of_mem_take hf)⟩
theorem mapF_succ (rs : List Fra) (k : Nat) (h : k < rs.length) : (rs.take (k + 1)).map frT = (rs.take k).map frT ++ [frT (rs.getD k zFra)] := by
  rw [List.take_succ_eq_append_getElem h, List.map_append, List.getD_eq_getElem?_getD, List.getElem?_eq_getElem h]; rfl
set_option maxHeartbeats 8000000 in
theorem specFrT (v : Value) (rs : List Fra) (w : World) (h : RdFra w v rs) (hg : FrR rs) :
    Calls Tryd.prog 60 #[v] w fun e w' => e = .returned (.string (bs (frX rs))) ∧ Below w.heap.size w w' := by
  have HG := Lib.hid hg
  have hl8 := hg.1
  obtain ⟨hl, hf, a, c, rfl, hcap, hr⟩ := h
  have HC := Lib.hid hr
  clear hr hg hf
  go_enter Tryd.func60, Tryd.ntmps60
  go_wp2
  go_loopw [3, 4] (fun s i wr => ∃ k : Nat, k ≤ rs.length ∧ i = .int .i64 k ∧ s = .string (bs (Lib.join ((rs.take k).map frT) [32])) ∧ Below w.heap.size w wr) (fun _ i _ => rs.length - (intOf i).toNat)
  case atStart => exact ⟨0, Nat.zero_le _, rfl, rfl, Below.refl _ _⟩
  case round =>
    obtain ⟨k, hk, rfl, hs, hbel⟩ := hrel
    have HW := Lib.hid hbel
    by_cases hlt : k < rs.length
    · obtain ⟨b, o, rfl, hb, hcell⟩ := HC.out (by intro h0; rw [h0] at hlt; simp at hlt)
      obtain ⟨c0, c1⟩ := hcell k hlt
      obtain ⟨⟨x0, x1⟩, ⟨y0, y1⟩⟩ := HG.out.one k hlt
      obtain ⟨r, hr0⟩ : ∃ r, r = rs.getD k zFra := ⟨_, rfl⟩
      rw [← hr0] at c0 c1 x0 x1 y0 y1
      obtain ⟨x, y⟩ := r
      dsimp only at c0 c1 x0 x1 y0 y1
      have hm := mapF_succ rs k hlt
      rw [← hr0] at hm
      have i0' : (0 : Int) ≤ (k : Int) := by omega
      have i1 : (k : Int) < (rs.length : Int) := by omega
      obtain ⟨s0, hs0⟩ : ∃ s, s = bs (Lib.join ((rs.take k).map frT) [32]) := ⟨_, rfl⟩
      obtain ⟨tx, htx⟩ : ∃ t, t = bs (Lib.itoa x) := ⟨_, rfl⟩
      obtain ⟨ty, hty⟩ : ∃ t, t = bs (Lib.itoa y) := ⟨_, rfl⟩
      have HE : Hid (bs (Lib.join ((rs.take (k + 1)).map frT) [32]) = if k = 0 then s0 ++ (tx ++ bs [47] ++ ty) else s0 ++ bs [32] ++ (tx ++ bs [47] ++ ty)) := Lib.hid (by
        rw [hs0, htx, hty, hm, bs_append, bs_append]
        by_cases hk0 : k = 0
        · subst hk0; rw [if_pos rfl, bs_append]; simp [Lib.join_one, Lib.join_nil, frT]
        · rw [if_neg hk0, bs_append, bs_append, join_snoc _ _ _ (by intro hn; have h1 := congrArg List.length hn; rw [List.length_map, List.length_take, List.length_nil] at h1; omega)]; rfl)
      have hss : s0.size ≤ 10000 := by rw [hs0, bs_size]; exact (HG.out.take k).small
      have sx : tx.size ≤ 21 := by rw [htx, bs_size]; exact Lib.itoa_length_le x (by omega) (by omega)
      have sy : ty.size ≤ 21 := by rw [hty, bs_size]; exact Lib.itoa_length_le y (by omega) (by omega)
      rw [← hs0] at hs
      subst hs
      have HX := Lib.hid htx
      have HY := Lib.hid hty
      have HS : Hid (∀ W, Below wr.heap.size wr W → W.cell? ⟨b, o + k * 2, none⟩ = some (.int .i64 x) ∧ W.cell? ⟨b, o + k * 2 + 1, none⟩ = some (.int .i64 y)) := Lib.hid (fun W hW => by
        have hbb : b < wr.heap.size := Nat.lt_of_lt_of_le hb hbel.size
        exact ⟨(hW.cell (p := ⟨b, o + k * 2, none⟩) hbb).trans ((hbel.cell (p := ⟨b, o + k * 2, none⟩) hb).trans c0), (hW.cell (p := ⟨b, o + k * 2 + 1, none⟩) hbb).trans ((hbel.cell (p := ⟨b, o + k * 2 + 1, none⟩) hb).trans c1)⟩)
      have HD : Hid (Below wr.heap.size wr wr.drew) := Lib.hid (Below.refl _ _).drew
      have q1 : ¬ (9223372036854775807 < tx.size + 1) := by omega
      have q2 : ¬ (9223372036854775807 < tx.size + 1 + ty.size) := by omega
      have q5 : ¬ (9223372036854775807 ≤ tx.size) := by omega
      have q6 : ¬ (9223372036854775807 < s0.size + (tx.size + 1 + ty.size)) := by omega
      have q7 : ¬ (9223372036854775807 < s0.size + 1 + (tx.size + 1 + ty.size)) := by omega
      have q8 : ¬ (9223372036854775807 ≤ s0.size) := by omega
      have q9 : ¬ (9223372036854775807 < s0.size + 1) := by omega
      clear hbel hcell c0 c1 htx hty hs0 hm hr0 hb
      by_cases hk0 : k = 0
      · 
        have HE2 : Hid (bs (Lib.join ((rs.take (k + 1)).map frT) [32]) = s0 ++ (tx ++ bs [47] ++ ty)) := Lib.hid (by rw [HE.out, if_pos hk0])
        have hk1 : ¬ (0 : Int) < (k : Int) := by omega
        clear hk0
        go_wp2
        go_region_held3 (fun W => W.cell? ⟨b, o + k * 2, none⟩ = some (.int .i64 x) ∧ W.cell? ⟨b, o + k * 2 + 1, none⟩ = some (.int .i64 y))
          (exact HS.out _ HD.out)
          (first | (go_at_call 98; with_reducible refine (specDecT _ _ (by omega) (by omega) (by first | exact HX.out | exact HY.out) _).mono ?_; rintro e1 w1 ⟨rfl, bq⟩; replace HD := Lib.hid (HD.out.trans (bq.mono HD.out.size)); clear bq))
        all_goals
          go_wp2
          go_roundw
          case rel => exact ⟨k + 1, by omega, by go_num, by rw [HE2.out], HW.out.trans (HD.out.mono HW.out.size)⟩
          case measure => simp [intOf]; omega
      · 
        have HE2 : Hid (bs (Lib.join ((rs.take (k + 1)).map frT) [32]) = s0 ++ bs [32] ++ (tx ++ bs [47] ++ ty)) := Lib.hid (by rw [HE.out, if_neg hk0])
        have hk1 : (0 : Int) < (k : Int) := by omega
        clear hk0
        go_wp2
        go_region_held3 (fun W => W.cell? ⟨b, o + k * 2, none⟩ = some (.int .i64 x) ∧ W.cell? ⟨b, o + k * 2 + 1, none⟩ = some (.int .i64 y))
          (exact HS.out _ HD.out)
          (first | (go_at_call 98; with_reducible refine (specDecT _ _ (by omega) (by omega) (by first | exact HX.out | exact HY.out) _).mono ?_; rintro e1 w1 ⟨rfl, bq⟩; replace HD := Lib.hid (HD.out.trans (bq.mono HD.out.size)); clear bq))
        all_goals
          go_wp2
          go_roundw
          case rel => exact ⟨k + 1, by omega, by go_num, by rw [HE2.out], HW.out.trans (HD.out.mono HW.out.size)⟩
          case measure => simp [intOf]; omega
    · obtain rfl : k = rs.length := by omega
      have hnlt : ¬ ((rs.length : Int) < (rs.length : Int)) := by omega
      rw [List.take_length] at hs
      subst hs
      clear hbel hlt
      go_wp2
      go_ret
      exact ⟨rfl, HW.out⟩
end Go.Proofs.YtbifkjmmhfnblaaDoor.Ints
