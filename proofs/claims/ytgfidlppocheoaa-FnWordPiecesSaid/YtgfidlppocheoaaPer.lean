/- The program's table of borders and least period, and the model's period. -/
import Derived.Test.YtgfidlppocheoaaKmp
import Derived.Test.YtgfidlppocheoaaOcc
import Derived.StillTailTactics
namespace Go.Proofs.Ytgfidlppocheoaa.Ints
open Go.RowKit
set_option linter.unusedVariables false

theorem infoI : (Try.prog.info? 3).map (fun i => (i.zero, i.size, i.bytes)) = some (some (.int .i64 0), 1, 8) := by kernel_rfl
/-- The value v is a slice of ints of the call's own, in a block from B on, that reads zs. -/
structure Oi (w : World) (B : Nat) (v : Value) (zs : List Int) : Prop where
  ex : ∃ g, v = .slice (some ⟨g, 0, none⟩) zs.length zs.length ∧ B ≤ g ∧ g < w.heap.size ∧ w.ownsRow B 3 1 (.slice (some ⟨g, 0, none⟩) zs.length zs.length) zs.length (zs.map (Value.int .i64))
theorem tab_set (w : List Int) (n k : Nat) (h : k < n) :
    ((tabL w k ++ List.replicate (n - k) 0).map (Value.int .i64)).set k (.int .i64 (mb w k)) = (tabL w (k + 1) ++ List.replicate (n - (k + 1)) 0).map (Value.int .i64) := by
  obtain ⟨m, hm⟩ : ∃ m, n - k = m + 1 := ⟨n - k - 1, by omega⟩
  rw [hm, show n - (k + 1) = m by omega, List.replicate_succ, List.map_append, List.set_append_right _ _ (by simp [tabL_length]), tabL_succ, List.append_assoc, List.map_append]
  simp [tabL_length]
theorem tab_at (w : List Int) (n k i : Nat) (h : i < k) (hk : k ≤ n) : (tabL w k ++ List.replicate (n - k) 0).getD i 0 = mb w i := by
  rw [← tabL_at w k i h, List.getD_eq_getElem?_getD, List.getD_eq_getElem?_getD, List.getElem?_append_left (by rw [tabL_length]; exact h)]
theorem tab_len (w : List Int) (n k : Nat) (h : k ≤ n) : (tabL w k ++ List.replicate (n - k) 0).length = n := by simp [tabL_length]; omega
theorem tab_zero (w : List Int) (n k : Nat) (h : k < n) : (tabL w k ++ List.replicate (n - k) 0).getD k 0 = 0 := by
  obtain ⟨m, hm⟩ : ∃ m, n - k = m + 1 := ⟨n - k - 1, by omega⟩
  rw [hm, List.getD_eq_getElem?_getD, List.getElem?_append_right (by rw [tabL_length]; exact Nat.le_refl _), tabL_length, Nat.sub_self, List.replicate_succ]
  rfl
theorem mapAt' {zs : List Int} {i : Nat} {x : Int} (h : i < zs.length) (e : zs.getD i 0 = x) : (zs.map (Value.int .i64))[i]? = some (.int .i64 x) := by
  subst e; simp [List.getD_eq_getElem?_getD, List.getElem?_eq_getElem h]
set_option maxHeartbeats 4000000 in
theorem implTable (v : Value) (zs : List Int) (w : World) (h : Rd w v zs) (hz : zs.length ≤ 400) :
    Calls Try.prog 42 #[v] w fun e w' => ∃ r, e = .returned r ∧ Oi w' w.heap.size r (tabL zs (zs.length + 1)) ∧ Below w.heap.size w w' := by
  obtain ⟨hl, hf, a, c, rfl, hcap, hr⟩ := h
  obtain ⟨i0, hi, hz0, hz1, hz2⟩ := info_parts infoI
  have HR := Lib.hid hr
  clear hr
  go_enter Try.func42, Try.ntmps42
  go_wp2_with (at_make; refine wpList_make_full _ rfl _ _ 50 rfl w.heap.size 3 i0 (.int .i64 0) 1 Try.underlying50 hi hz0 hz1 _ _ _ _ (zs.length + 1) rfl rfl ?hL ?hC ?b2 ?b3 (Nat.le_refl _) ?_)
  case hL => omega
  case hC => omega
  case b2 => first | omega | (rw [hz2]; omega)
  case b3 => unfold maxLen; omega
  intro w0 hown0 hgrow0
  have hown0' : w0.ownsRow w.heap.size 3 1 (.slice (some ⟨w.heap.size, 0, none⟩) (zs.length + 1) (zs.length + 1)) (zs.length + 1) ((tabL zs 0 ++ List.replicate (zs.length + 1 - 0) 0).map (Value.int .i64)) := by
    have := hown0
    rw [toList_madeCells_one] at this
    simpa [tabL] using this
  have hc0 : w0.cell? ⟨w.heap.size, 0, none⟩ = some (.int .i64 0) := by
    rw [hown0'.cellAt 0 (by omega)]
    exact mapAt' (by rw [tab_len _ _ _ (by omega)]; omega) (by simp [tabL, List.getD_eq_getElem?_getD])
  have hf0 := hown0'.frozenAt 0
  have hst := hown0'.stored 0 (.int .i64 (-1))
  rw [← mb_zero zs, tab_set zs (zs.length + 1) 0 (by omega), mb_zero] at hst
  have HS0 := Lib.hid hst
  have HB0 := Lib.hid (((Below.refl w.heap.size w).grown hgrow0 (Nat.le_refl _) (fun k h => by cases h)).grown hst.2 (by have := hgrow0.size; omega) (fun k h => by cases h; exact Nat.le_refl _))
  have HZ0 : Hid (w.heap.size < (w0.setCell ⟨w.heap.size, 0, none⟩ (.int .i64 (-1))).heap.size) := Lib.hid (by have := (hown0'.lt _ rfl).2; simpa using this)
  have j0 : (0 : Int) < (zs.length : Int) + 1 := by omega
  clear hown0 hown0' hgrow0 hst
  go_wp2
  go_loopw [4, 16] (fun q s wr => ∃ k : Nat, k ≤ zs.length ∧ s = .int .i64 k ∧ q = .int .i64 (mb zs k) ∧ w.heap.size < wr.heap.size ∧
      wr.ownsRow w.heap.size 3 1 (.slice (some ⟨w.heap.size, 0, none⟩) (zs.length + 1) (zs.length + 1)) (zs.length + 1) ((tabL zs (k + 1) ++ List.replicate (zs.length + 1 - (k + 1)) 0).map (Value.int .i64)) ∧ Below w.heap.size w wr) (fun _ s _ => zs.length - (intOf s).toNat)
  case atStart => exact ⟨0, Nat.zero_le _, rfl, by rw [mb_zero], HZ0.out, HS0.out.1, HB0.out⟩
  case round =>
    obtain ⟨k, hk, rfl, rfl, hsz, hown, hbel⟩ := hrel
    have HW := Lib.hid hbel
    have HOWN := Lib.hid hown
    obtain ⟨c0, hc0⟩ : ∃ c, c = mb zs k := ⟨_, rfl⟩
    rw [← hc0]
    have HC0 := Lib.hid hc0
    by_cases hlt : k < zs.length
    · obtain ⟨b, o, rfl, hb, hcell⟩ := HR.out (by intro h0; rw [h0] at hlt; simp at hlt)
      have hcells : ∀ i, i < zs.length → wr.cell? ⟨b, o + i, none⟩ = some (.int .i64 (zs.getD i 0)) := fun i hi => (hbel.cell hb).trans (hcell i hi)
      have HCE := Lib.hid hcells
      obtain ⟨x, hx⟩ : ∃ x, x = zs.getD k 0 := ⟨_, rfl⟩
      have hc : wr.cell? ⟨b, o + k, none⟩ = some (.int .i64 x) := by rw [hx]; exact hcells k hlt
      have HX := Lib.hid hx
      have i0' : (0 : Int) ≤ (k : Int) := by omega
      have i1 : (k : Int) < (zs.length : Int) := by omega
      have hcr := mb_range zs k
      rw [← hc0] at hcr
      clear hcells hcell hx hown hbel hc0
      go_wp2
      go_loop [4] (fun q => ∃ cc : Int, q = .int .i64 cc ∧ Cand zs k cc) (fun q => (intOf q + 1).toNat)
      case atStart => exact ⟨c0, rfl, by rw [HC0.out]; exact Cand.start zs k⟩
      case round =>
        obtain ⟨cc, rfl, hcand⟩ := hrel
        by_cases h0 : 0 ≤ cc
        · obtain ⟨j, rfl, hj⟩ := hcand.nat h0
          have hjk := hj.1
          obtain ⟨y, hy⟩ : ∃ y, y = zs.getD j 0 := ⟨_, rfl⟩
          have hcy : wr.cell? ⟨b, o + j, none⟩ = some (.int .i64 y) := by rw [hy]; exact HCE.out j (by omega)
          have j1 : (0 : Int) ≤ (j : Int) := by omega
          have j2 : (j : Int) < (zs.length : Int) := by omega
          have j3 : (j : Int) < (zs.length : Int) + 1 := by omega
          by_cases he : y = x
          · have hb1 : (y != x) = false := by simp [he]
            have HD := Lib.hid (hcand.done (.inr ⟨j, rfl, by rw [← hy, ← HX.out]; exact he⟩))
            have hstc : wr.cell? ⟨w.heap.size, k + 1, none⟩ = some (.int .i64 0) := by
              rw [HOWN.out.cellAt (k + 1) (by omega)]
              exact mapAt' (by rw [tab_len _ _ _ (by omega)]; omega) (tab_zero zs (zs.length + 1) (k + 1) (by omega))
            have hfz := HOWN.out.frozenAt (k + 1)
            have hst := HOWN.out.stored (k + 1) (.int .i64 (mb zs (k + 1)))
            rw [tab_set zs (zs.length + 1) (k + 1) (by omega), HD.out] at hst
            have HST := Lib.hid hst
            have i3 : (0 : Int) ≤ (k : Int) + 1 := by omega
            have i4 : (k : Int) + 1 < (zs.length : Int) + 1 := by omega
            have i5 : ((k : Int) + 1).toNat = k + 1 := by omega
            clear he hy hcand hj hst h0
            go_wp2
            go_roundw
            case rel => exact ⟨k + 1, by omega, by go_num, by first | (rw [HD.out]; done) | (rw [HD.out]; rfl), by simpa using hsz, HST.out.1, HW.out.grown HST.out.2 (Nat.le_of_lt hsz) (fun q hq => by cases hq; exact Nat.le_refl _)⟩
            case measure => simp [intOf]; omega
          · have hb1 : (y != x) = true := by simp [he]
            obtain ⟨m, hm⟩ : ∃ m, m = mb zs j := ⟨_, rfl⟩
            have hct : wr.cell? ⟨w.heap.size, j, none⟩ = some (.int .i64 m) := by
              rw [HOWN.out.cellAt j (by omega)]
              exact mapAt' (by rw [tab_len _ _ _ (by omega)]; omega) (by rw [tab_at _ _ _ _ (by omega) (by omega), hm])
            have HN : Hid (Cand zs k m) := Lib.hid (by rw [hm]; exact hcand.step hj (by rw [← hy, ← HX.out]; exact he))
            have hmr := mb_range zs j
            rw [← hm] at hmr
            clear he hy hcand hj hm h0
            go_wp2
            go_round
            case rel => exact ⟨m, rfl, HN.out⟩
            case measure => simp [intOf]; omega
        · have hb0 : decide (0 ≤ cc) = false := decide_eq_false h0
          have hcc : cc = -1 := by
            rcases hcand.isb with g | ⟨q, g, _⟩
            · exact g
            · omega
          have HD := Lib.hid (hcand.done (.inl (by omega)))
          have hstc : wr.cell? ⟨w.heap.size, k + 1, none⟩ = some (.int .i64 0) := by
            rw [HOWN.out.cellAt (k + 1) (by omega)]
            exact mapAt' (by rw [tab_len _ _ _ (by omega)]; omega) (tab_zero zs (zs.length + 1) (k + 1) (by omega))
          have hfz := HOWN.out.frozenAt (k + 1)
          have hst := HOWN.out.stored (k + 1) (.int .i64 (mb zs (k + 1)))
          rw [tab_set zs (zs.length + 1) (k + 1) (by omega), HD.out] at hst
          have HST := Lib.hid hst
          have i3 : (0 : Int) ≤ (k : Int) + 1 := by omega
          have i4 : (k : Int) + 1 < (zs.length : Int) + 1 := by omega
          have i5 : ((k : Int) + 1).toNat = k + 1 := by omega
          subst hcc
          clear hcand hst h0 hb0
          go_wp2
          go_roundw
          case rel => exact ⟨k + 1, by omega, by go_num, by first | (rw [HD.out]; done) | (rw [HD.out]; rfl), by simpa using hsz, HST.out.1, HW.out.grown HST.out.2 (Nat.le_of_lt hsz) (fun q hq => by cases hq; exact Nat.le_refl _)⟩
          case measure => simp [intOf]; omega
    · obtain rfl : k = zs.length := by omega
      have HOI : Hid (Oi wr w.heap.size (.slice (some ⟨w.heap.size, 0, none⟩) (zs.length + 1) (zs.length + 1)) (tabL zs (zs.length + 1))) := Lib.hid ⟨w.heap.size, by rw [tabL_length], Nat.le_refl _, hsz, by rw [tabL_length]; simpa using hown⟩
      have i1 : ¬ (zs.length : Int) < (zs.length : Int) := by omega
      clear hown hbel
      go_wp2
      go_ret
      exact ⟨_, rfl, HOI.out, HW.out⟩
end Go.Proofs.Ytgfidlppocheoaa.Ints
