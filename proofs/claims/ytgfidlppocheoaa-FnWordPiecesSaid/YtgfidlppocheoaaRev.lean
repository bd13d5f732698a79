/- Letters in opposite order: the model's loop, slices.Clone and slices.Reverse. -/
import Derived.Test.YtgfidlppocheoaaInts
import Derived.Test.YtgfidlppocheoaaOwn
import Derived.BigRegion
namespace Go.Proofs.Ytgfidlppocheoaa.Ints
open Go.RowKit
set_option linter.unusedVariables false

theorem rev_snoc (zs : List Int) (k : Nat) (h : k < zs.length) : zs.reverse.take (k + 1) = zs.reverse.take k ++ [zs.getD (zs.length - 1 - k) 0] := by
  rw [List.take_succ_eq_append_getElem (by simpa using h)]
  congr 2
  rw [List.getElem_reverse, List.getD_eq_getElem?_getD, List.getElem?_eq_getElem (by omega)]; rfl
theorem Fit.rev {zs : List Int} (h : Fit zs) : Fit zs.reverse := fun z hz => h z (List.mem_reverse.1 hz)


theorem mapAt {zs : List Int} {i : Nat} {x : Int} (h : i < zs.length) (e : zs.getD i 0 = x) : (zs.map (Value.int .i64))[i]? = some (.int .i64 x) := by
  subst e; simp [List.getD_eq_getElem?_getD, List.getElem?_eq_getElem h]
/-- The first k and the last k elements exchanged. -/
def revK (zs : List Int) (k : Nat) : List Int := (List.range zs.length).map fun i => if i < k ∨ zs.length - k ≤ i then zs.getD (zs.length - 1 - i) 0 else zs.getD i 0
theorem revK_length (zs : List Int) (k : Nat) : (revK zs k).length = zs.length := by simp [revK]
theorem revK_at (zs : List Int) (k i : Nat) (h : i < zs.length) : (revK zs k).getD i 0 = if i < k ∨ zs.length - k ≤ i then zs.getD (zs.length - 1 - i) 0 else zs.getD i 0 := by
  simp [revK, List.getD_eq_getElem?_getD, h]
theorem getD_inj {xs ys : List Int} (hl : xs.length = ys.length) (h : ∀ i, i < xs.length → xs.getD i 0 = ys.getD i 0) : xs = ys := by
  apply List.ext_getElem hl
  intro i h1 h2
  have := h i h1
  simpa [List.getD_eq_getElem?_getD, List.getElem?_eq_getElem h1, List.getElem?_eq_getElem h2] using this
theorem getD_set0 (Z : List Int) (i j : Nat) (x : Int) (h : i < Z.length) : (Z.set i x).getD j 0 = if i = j then x else Z.getD j 0 := by
  simp only [List.getD_eq_getElem?_getD, List.getElem?_set]
  by_cases e : i = j
  · subst e; simp [h]
  · simp [e]
theorem revK_zero (zs : List Int) : revK zs 0 = zs := by
  refine getD_inj (revK_length _ _) fun i hi => ?_
  rw [revK_length] at hi
  rw [revK_at _ _ _ hi, if_neg (by omega)]
theorem revK_end (zs : List Int) (k : Nat) (h : zs.length ≤ 2 * k + 1) : revK zs k = zs.reverse := by
  refine getD_inj (by simp [revK_length]) fun i hi => ?_
  rw [revK_length] at hi
  rw [revK_at _ _ _ hi]
  have e : zs.reverse.getD i 0 = zs.getD (zs.length - 1 - i) 0 := by
    simp only [List.getD_eq_getElem?_getD]
    rw [List.getElem?_reverse hi]
  rw [e]
  by_cases hc : i < k ∨ zs.length - k ≤ i
  · rw [if_pos hc]
  · rw [if_neg hc, show zs.length - 1 - i = i by omega]
theorem revK_step (zs : List Int) (k : Nat) (h : 2 * k + 1 < zs.length) :
    ((revK zs k).set k (zs.getD (zs.length - 1 - k) 0)).set (zs.length - 1 - k) (zs.getD k 0) = revK zs (k + 1) := by
  refine getD_inj (by simp [revK_length]) fun i hi => ?_
  simp only [List.length_set, revK_length] at hi
  rw [getD_set0 _ _ _ _ (by simp [revK_length]; omega), getD_set0 _ _ _ _ (by simp [revK_length]; omega), revK_at _ _ _ hi, revK_at _ _ _ hi]
  by_cases e1 : zs.length - 1 - k = i
  · rw [if_pos e1, if_pos (by omega), show zs.length - 1 - i = k by omega]
  · rw [if_neg e1]
    by_cases e2 : k = i
    · subst e2; rw [if_pos rfl, if_pos (by omega)]
    · rw [if_neg e2]
      by_cases e3 : i < k ∨ zs.length - k ≤ i
      · rw [if_pos e3, if_pos (by omega)]
      · rw [if_neg e3, if_neg (by omega)]
set_option maxHeartbeats 2000000 in
theorem libReverse (v : Value) (zs : List Int) (B T : Nat) (w : World) (h : Ow w B T v zs) :
    Calls Try.prog 31 #[v] w fun e w' => e = .returned (.tuple #[]) ∧ Ow w' B T v zs.reverse ∧ Below B w w' := by
  have hl := h.len
  rcases h.form with ⟨rfl, rfl⟩ | ⟨g, c, rfl, hb, hg, hn, hm, hr⟩
  · have H := Lib.hid h
    clear h hl
    go_enter Try.func31, Try.ntmps31
    go_wp2
    refine wp_loop_rounds 1 ?_
    rw [rounds_succ]
    go_wp2
    go_end0
    exact ⟨rfl, H.out, Below.refl _ _⟩
  · have HF := Lib.hid h.fit
    have HS := Lib.hid h.size
    have HO : Hid (w.ownsRow B 2 1 (.slice (some ⟨g, 0, none⟩) zs.length c) zs.length ((revK zs 0).map (Value.int .i64))) := Lib.hid (by rw [revK_zero]; exact hr)
    clear h hr
    go_enter Try.func31, Try.ntmps31
    go_wp2
    go_loopw [2, 3] (fun s t wr => ∃ k : Nat, 2 * k ≤ zs.length + 1 ∧ s = .int .i64 k ∧ t = .int .i64 ((zs.length : Int) - 1 - k) ∧ wr.ownsRow B 2 1 (.slice (some ⟨g, 0, none⟩) zs.length c) zs.length ((revK zs k).map (Value.int .i64)) ∧ Below B w wr) (fun s _ _ => zs.length - (intOf s).toNat)
    case atStart => exact ⟨0, by omega, rfl, by simp, HO.out, Below.refl _ _⟩
    case round =>
      obtain ⟨k, hk, rfl, rfl, hown, hgr⟩ := hrel
      have HG := Lib.hid hgr
      clear hgr HO
      by_cases hlt : 2 * k + 1 < zs.length
      · obtain ⟨j, hj⟩ : ∃ j, j = zs.length - 1 - k := ⟨_, rfl⟩
        have hj1 : (zs.length : Int) - 1 - (k : Int) = (j : Int) := by omega
        obtain ⟨x, hx⟩ : ∃ x, x = zs.getD k 0 := ⟨_, rfl⟩
        obtain ⟨y, hy⟩ : ∃ y, y = zs.getD j 0 := ⟨_, rfl⟩
        have hc1 : wr.cell? ⟨g, k, none⟩ = some (.int .i64 x) := by
          rw [hown.cellAt k (by omega)]
          exact mapAt (by rw [revK_length]; omega) (by rw [revK_at zs k k (by omega), if_neg (by omega), ← hx])
        have hc2 : wr.cell? ⟨g, j, none⟩ = some (.int .i64 y) := by
          rw [hown.cellAt j (by omega)]
          exact mapAt (by rw [revK_length]; omega) (by rw [revK_at zs k j (by omega), if_neg (by omega), ← hy])
        have hf1 := hown.frozenAt k
        have hf2 := hown.frozenAt j
        obtain ⟨s1, g1⟩ := hown.stored k (.int .i64 y)
        have hf3 := s1.frozenAt j
        obtain ⟨s2, g2⟩ := s1.stored j (.int .i64 x)
        have HN : Hid (((wr.setCell ⟨g, k, none⟩ (.int .i64 y)).setCell ⟨g, j, none⟩ (.int .i64 x)).ownsRow B 2 1 (.slice (some ⟨g, 0, none⟩) zs.length c) zs.length ((revK zs (k + 1)).map (Value.int .i64))) := Lib.hid (by
          rw [← revK_step zs k hlt, ← hj, List.map_set, List.map_set, ← hx, ← hy]
          exact s2)
        have HGG := Lib.hid ((HG.out.grown g1 (by have := HG.out.size; have := HS.out; omega) (fun q hq => by cases hq; exact hb)).grown g2 (by simp; have := HG.out.size; have := HS.out; omega) (fun q hq => by cases hq; exact hb))
        have i0 : (0 : Int) ≤ (k : Int) := by omega
        have i1 : (k : Int) < (zs.length : Int) := by omega
        have i2 : (k : Int) < (j : Int) := by omega
        have i3 : (j : Int) < (zs.length : Int) := by omega
        have HJ := Lib.hid hj
        rw [hj1]
        clear hown s1 s2 g1 g2 hx hy hj hj1
        go_wp2
        go_region
        go_wp2
        go_roundw
        case rel => exact ⟨k + 1, by omega, by go_num, by have := HJ.out; first | (go_num; done) | (go_num; omega), HN.out, (by first | exact below_drewN HGG.out 1 | exact HGG.out.drew)⟩
        case measure => simp [intOf]; omega
      · have HE := Lib.hid (revK_end zs k (by omega))
        have HO2 : Hid (Ow wr B T (.slice (some ⟨g, 0, none⟩) zs.length c) zs.reverse) := Lib.hid ⟨by simpa using hl, HF.out.rev, by rw [← HE.out]; simpa [revK_length] using hown, fun q hq => by cases hq; exact hg, Nat.le_trans HS.out HG.out.size, by omega⟩
        have hn1 : ¬ (k : Int) < (zs.length : Int) - 1 - (k : Int) := by omega
        clear hown
        go_wp2
        go_end0
        exact ⟨rfl, HO2.out, HG.out⟩
end Go.Proofs.Ytgfidlppocheoaa.Ints
