/- The text of a list of rewriting rules, of the model and of the program. -/
import Derived.Test.YtbigoljfanendaaDoorStq
import Derived.Test.YtbigoljfanendaaDoorLetS
import Derived.Test.YtbigoljfanendaaDoorRwV
import Derived.Deep.RegionHeld3
namespace Go.Proofs.YtbigoljfanendaaDoor.Ints
open Go.RowKit
set_option linter.unusedVariables false
set_option linter.unusedSimpArgs false
/-- A rule's text. -/
noncomputable def rwT (t : Tp) : List UInt8 := wdT t.l ++ [62] ++ wdT t.r
noncomputable def rwX (ts : List Tp) : List UInt8 := Lib.join (ts.map rwT) [32]
def RwR (ts : List Tp) : Prop := ts.length ≤ 60 ∧ ∀ t ∈ ts, Word t.l ∧ Word t.r
theorem rw_r {ts : List Tp} (h : rwsB ts = true) : RwR ts := by
  refine ⟨(rwsB_len h).2, fun t ht => ?_⟩
  obtain ⟨i, hi, rfl⟩ := List.getElem_of_mem ht
  have h2 := rwB_both (rwA_at (rwsB_all h) hi)
  rw [List.getD_eq_getElem?_getD, List.getElem?_eq_getElem hi] at h2
  exact ⟨h2.1, h2.2.1⟩
theorem RwR.one {ts : List Tp} (h : RwR ts) (k : Nat) (hk : k < ts.length) : Word (ts.getD k tp0).l ∧ Word (ts.getD k tp0).r := by
  rw [List.getD_eq_getElem?_getD, List.getElem?_eq_getElem hk]
  exact h.2 _ (List.getElem_mem hk)
theorem wdT_small {zs : List Int} (h : Word zs) : (wdT zs).length ≤ 401 := by
  unfold wdT
  have := h.1
  split
  · simp
  · rw [dgT_length]; omega
theorem RwR.small {ts : List Tp} (h : RwR ts) : (rwX ts).length ≤ 60000 := by
  have h1 := join_small (ts.map rwT) [32] 804 (fun y hy => by
    obtain ⟨t, ht, rfl⟩ := List.mem_map.1 hy
    have h2 := h.2 t ht
    have h3 := wdT_small h2.1
    have h4 := wdT_small h2.2
    simp [rwT]; omega)
  simp only [List.length_map, List.length_singleton] at h1
  have h2 := h.1
  unfold rwX
  omega
theorem RwR.take {ts : List Tp} (h : RwR ts) (k : Nat) : RwR (ts.take k) := ⟨by have := h.1; rw [List.length_take]; omega, fun f hf => h.2 f (List.mem_of_mem_take hf)⟩
theorem mapRw_succ (ts : List Tp) (k : Nat) (h : k < ts.length) : (ts.take (k + 1)).map rwT = (ts.take k).map rwT ++ [rwT (ts.getD k tp0)] := by
  rw [List.take_succ_eq_append_getElem h, List.map_append, List.getD_eq_getElem?_getD, List.getElem?_eq_getElem h]; rfl
theorem specText3T (v : Value) (zs : List Int) (t : ByteArray) (w : World) (h : Rd w v zs) (hd : Dig 10 zs) (ht : t = bs (wdT zs)) :
    Calls Tryd.prog 109 #[v] w fun e w' => e = .returned (.string t) ∧ Below w.heap.size w w' := by
  subst ht; exact specText3 v zs w h hd
set_option maxRecDepth 100000 in
set_option maxHeartbeats 8000000 in
theorem specRwT (v : Value) (ts : List Tp) (w : World) (h : RdT w v ts) (hg : RwR ts) :
    Calls Tryd.prog 68 #[v] w fun e w' => e = .returned (.string (bs (rwX ts))) ∧ Below w.heap.size w w' := by
  have HG := Lib.hid hg
  have hl8 := hg.1
  obtain ⟨hl, a, c, rfl, hcap, hr⟩ := h
  have HC := Lib.hid hr
  clear hr hg
  go_enter Tryd.func68, Tryd.ntmps68
  go_wp2
  go_loopw [3, 4] (fun s i wr => ∃ k : Nat, k ≤ ts.length ∧ i = .int .i64 k ∧ s = .string (bs (Lib.join ((ts.take k).map rwT) [32])) ∧ Below w.heap.size w wr) (fun _ i _ => ts.length - (intOf i).toNat)
  case atStart => exact ⟨0, Nat.zero_le _, rfl, rfl, Below.refl _ _⟩
  case round =>
    obtain ⟨k, hk, rfl, hs, hbel⟩ := hrel
    have HW := Lib.hid hbel
    by_cases hlt : k < ts.length
    · obtain ⟨b, o, rfl, hb, hcell⟩ := HC.out (by intro h0; rw [h0] at hlt; simp at hlt)
      obtain ⟨xv, yv, c0, c1, hx, hy⟩ := hcell k hlt
      obtain ⟨wl, wr2⟩ := HG.out.one k hlt
      have hm := mapRw_succ ts k hlt
      obtain ⟨r, hr0⟩ : ∃ r, r = ts.getD k tp0 := ⟨_, rfl⟩
      rw [← hr0] at hx hy wl wr2 hm 
      obtain ⟨x, y⟩ := r
      dsimp only at hx hy wl wr2 
      have HDX := Lib.hid wl.2
      have HDY := Lib.hid wr2.2
      have hlx := wdT_small wl
      have hly := wdT_small wr2
      replace hx := hx.below hbel (Nat.le_refl _)
      replace hy := hy.below hbel (Nat.le_refl _)
      have HRX := Lib.hid hx
      have HRY := Lib.hid hy
      obtain ⟨_, _, ax, cx, rfl, _, _⟩ := hx
      obtain ⟨_, _, ay, cy, rfl, _, _⟩ := hy
      have i0' : (0 : Int) ≤ (k : Int) := by omega
      have i1 : (k : Int) < (ts.length : Int) := by omega
      obtain ⟨s0, hs0⟩ : ∃ s, s = bs (Lib.join ((ts.take k).map rwT) [32]) := ⟨_, rfl⟩
      obtain ⟨tx, htx⟩ : ∃ t, t = bs (wdT x) := ⟨_, rfl⟩
      obtain ⟨ty, hty⟩ : ∃ t, t = bs (wdT y) := ⟨_, rfl⟩
      have HE : Hid (bs (Lib.join ((ts.take (k + 1)).map rwT) [32]) = if k = 0 then s0 ++ (tx ++ bs [62] ++ ty) else s0 ++ bs [32] ++ (tx ++ bs [62] ++ ty)) := Lib.hid (by
        rw [hs0, htx, hty, hm]
        by_cases hk0 : k = 0
        
        · subst hk0; rw [if_pos rfl]; simp [Lib.join_one, Lib.join_nil, rwT, bs_append]
        · rw [if_neg hk0, join_snoc _ _ _ (by intro hn; have h1 := congrArg List.length hn; rw [List.length_map, List.length_take, List.length_nil] at h1; omega)]; simp [rwT, bs_append])
      have hss : s0.size ≤ 60000 := by rw [hs0, bs_size]; exact (HG.out.take k).small
      have sx : tx.size ≤ 401 := by rw [htx, bs_size]; exact hlx
      have sy : ty.size ≤ 401 := by rw [hty, bs_size]; exact hly
      rw [← hs0] at hs
      subst hs
      have HX := Lib.hid htx
      have HY := Lib.hid hty
      have HS : Hid (∀ W, Below wr.heap.size wr W → W.cell? ⟨b, o + k * 2, none⟩ = some (.slice ax x.length cx) ∧ W.cell? ⟨b, o + k * 2 + 1, none⟩ = some (.slice ay y.length cy)) := Lib.hid (fun W hW => by
        have hbb : b < wr.heap.size := Nat.lt_of_lt_of_le hb hbel.size
        exact ⟨(hW.cell (p := ⟨b, o + k * 2, none⟩) hbb).trans ((hbel.cell (p := ⟨b, o + k * 2, none⟩) hb).trans c0), (hW.cell (p := ⟨b, o + k * 2 + 1, none⟩) hbb).trans ((hbel.cell (p := ⟨b, o + k * 2 + 1, none⟩) hb).trans c1)⟩)
      have HD : Hid (Below wr.heap.size wr wr.drew) := Lib.hid (Below.refl _ _).drew
      have q1 : ¬ (9223372036854775807 < tx.size + 1) := by omega
      have q2 : ¬ (9223372036854775807 < tx.size + 1 + ty.size) := by omega
      have q5 : ¬ (9223372036854775807 ≤ tx.size) := by omega
      have q6 : ¬ (9223372036854775807 < s0.size + (tx.size + 1 + ty.size)) := by omega
      have q7 : ¬ (9223372036854775807 < s0.size + 1 + (tx.size + 1 + ty.size)) := by omega
      have q8 : ¬ (9223372036854775807 ≤ s0.size) := by omega
      have q9 : ¬ (9223372036854775807 < s0.size + 1) := by omega
      have q10 : ¬ (9223372036854775807 < s0.size + (tx.size + 1 + ty.size) + 1) := by omega
      have q11 : ¬ (9223372036854775807 < s0.size + 1 + (tx.size + 1 + ty.size) + 1) := by omega
      have q12 : ¬ (9223372036854775807 ≤ s0.size + (tx.size + 1 + ty.size)) := by omega
      have q13 : ¬ (9223372036854775807 ≤ s0.size + 1 + (tx.size + 1 + ty.size)) := by omega
      clear hbel hcell c0 c1 htx hty hs0 hm hr0 hb wl wr2 
      by_cases hk0 : k = 0
      · have HE2 : Hid (bs (Lib.join ((ts.take (k + 1)).map rwT) [32]) = s0 ++ (tx ++ bs [62] ++ ty)) := Lib.hid (by rw [HE.out, if_pos hk0])
        have hk1 : ¬ (0 : Int) < (k : Int) := by omega
        clear hk0
        go_wp2
        go_region_held3 (fun W => W.cell? ⟨b, o + k * 2, none⟩ = some (.slice ax x.length cx) ∧ W.cell? ⟨b, o + k * 2 + 1, none⟩ = some (.slice ay y.length cy))
          (exact HS.out _ HD.out)
          (first | (go_at_call 109; with_reducible refine (specText3T _ x tx _ (HRX.out.below HD.out (Nat.le_refl _)) HDX.out HX.out).mono ?_; rintro e1 w1 ⟨rfl, bq⟩; replace HD := Lib.hid (HD.out.trans (bq.mono HD.out.size)); clear bq) | (go_at_call 109; with_reducible refine (specText3T _ y ty _ (HRY.out.below HD.out (Nat.le_refl _)) HDY.out HY.out).mono ?_; rintro e1 w1 ⟨rfl, bq⟩; replace HD := Lib.hid (HD.out.trans (bq.mono HD.out.size)); clear bq))
        all_goals
          go_wp2
          go_roundw
          case rel => exact ⟨k + 1, by omega, by go_num, by rw [HE2.out], HW.out.trans (HD.out.mono HW.out.size)⟩
          case measure => simp [intOf]; omega
      · have HE2 : Hid (bs (Lib.join ((ts.take (k + 1)).map rwT) [32]) = s0 ++ bs [32] ++ (tx ++ bs [62] ++ ty)) := Lib.hid (by rw [HE.out, if_neg hk0])
        have hk1 : (0 : Int) < (k : Int) := by omega
        clear hk0
        go_wp2
        go_region_held3 (fun W => W.cell? ⟨b, o + k * 2, none⟩ = some (.slice ax x.length cx) ∧ W.cell? ⟨b, o + k * 2 + 1, none⟩ = some (.slice ay y.length cy))
          (exact HS.out _ HD.out)
          (first | (go_at_call 109; with_reducible refine (specText3T _ x tx _ (HRX.out.below HD.out (Nat.le_refl _)) HDX.out HX.out).mono ?_; rintro e1 w1 ⟨rfl, bq⟩; replace HD := Lib.hid (HD.out.trans (bq.mono HD.out.size)); clear bq) | (go_at_call 109; with_reducible refine (specText3T _ y ty _ (HRY.out.below HD.out (Nat.le_refl _)) HDY.out HY.out).mono ?_; rintro e1 w1 ⟨rfl, bq⟩; replace HD := Lib.hid (HD.out.trans (bq.mono HD.out.size)); clear bq))
        all_goals
          go_wp2
          go_roundw
          case rel => exact ⟨k + 1, by omega, by go_num, by rw [HE2.out], HW.out.trans (HD.out.mono HW.out.size)⟩
          case measure => simp [intOf]; omega
    · obtain rfl : k = ts.length := by omega
      have hnlt : ¬ ((ts.length : Int) < (ts.length : Int)) := by omega
      rw [List.take_length] at hs
      subst hs
      clear hbel hlt
      go_wp2
      go_ret
      exact ⟨rfl, HW.out⟩
end Go.Proofs.YtbigoljfanendaaDoor.Ints
