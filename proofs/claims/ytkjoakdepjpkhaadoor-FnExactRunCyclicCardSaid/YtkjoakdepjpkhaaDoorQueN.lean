/- A new queue. -/
import Derived.Test.YtkjoakdepjpkhaaDoorRng
import Derived.Test.YtkjoakdepjpkhaaDoorCel
import Derived.Deep.DeepCutAuto
namespace Go.Proofs.YtkjoakdepjpkhaaDoor.Ints
open Go.RowKit
set_option linter.unusedVariables false
set_option linter.unusedSimpArgs false
set_option maxRecDepth 100000 in
set_option maxHeartbeats 4000000 in
theorem implNewQueue (v : Value) (xs : List Int) (w : World) (h : Rd w v xs) :
    Calls Tryd.prog 101 #[v] w fun e w' => ∃ n : Nat, e = .returned (.agg #[.slice (some ⟨w.heap.size + 1, 0, none⟩) 1000 1000, .int .i64 0, .int .i64 (n : Int)]) ∧ n = min xs.length 1000 ∧ Cels w' (w.heap.size + 1) 2 ((nq xs).map (.int .i64)) ∧ Below w.heap.size w w' := by
  obtain ⟨n0, hi, hz0, hz1, hz2⟩ := info_parts infoE
  have H := Lib.hid h
  obtain ⟨hl, hf, a, c, rfl, hcap, hr⟩ := h
  obtain ⟨Z, hZ⟩ : ∃ Z, Z = (List.replicate 1000 (0 : Int)).map (Value.int .i64) := ⟨_, rfl⟩
  have HZZ : Hid (Z = (List.replicate 1000 (0 : Int)).map (Value.int .i64) ∧ Z.length = 1000) := Lib.hid ⟨hZ, by rw [hZ, List.length_map, List.length_replicate]⟩
  obtain ⟨X1, hX1⟩ : ∃ X, X = (xs.take 1000).map (Value.int .i64) := ⟨_, rfl⟩
  obtain ⟨n, hn⟩ : ∃ n, n = min xs.length 1000 := ⟨_, rfl⟩
  have HX1 : Hid (X1 = (xs.take 1000).map (Value.int .i64) ∧ X1.length = n) := Lib.hid ⟨hX1, by rw [hX1, hn, List.length_map, List.length_take]; omega⟩
  have HN := Lib.hid hn
  obtain ⟨W0, hW0⟩ : ∃ W, W = w.alloc (Obj.cells #[.slice none 0 0, .int .i64 0, .int .i64 0] 107) := ⟨_, rfl⟩
  have k0 : Cels W0 w.heap.size 107 [.slice none 0 0, .int .i64 0, .int .i64 0] := by rw [hW0]; exact Cels.new _ _ _
  have hb0 : Below w.heap.size w W0 := by rw [hW0]; exact (Below.refl _ _).alloc (Nat.le_refl _) _
  have hs0 : W0.heap.size = w.heap.size + 1 := by rw [hW0]; simp
  have K0 := Lib.hid k0
  have HB0 := Lib.hid hb0
  have HS0 := Lib.hid hs0
  have HW0 := Lib.hid hW0.symm
  clear hZ hX1 hn hr k0 hb0 hs0 hW0 hcap
  go_enter Tryd.func101, Tryd.ntmps101
  go_upto_region 1 with fail
  rw [HW0.out]
  go_wp2_with (at_make; refine wpList_make_full _ rfl _ _ 23 rfl W0.heap.size 2 n0 (.int .i64 0) 1 Tryd.underlying23 hi hz0 hz1 _ _ _ _ 1000 rfl rfl ?hL ?hC ?b2 ?b3 (Nat.le_refl _) ?_)
  case hL => rfl
  case hC => rfl
  case b2 => first | omega | (rw [hz2]; omega)
  case b3 => unfold maxLen; omega
  intro w1 hown hgrow
  have HG1 : Hid (w1.heap[w.heap.size + 1]? = some (.cells Z.toArray 2 (0, 0))) := Lib.hid (by
    have := row_fullQ hown
    rw [toList_madeCells_one] at this
    rw [HZZ.out.1, List.map_replicate, ← HS0.out]
    exact this)
  have hb1 : Below W0.heap.size W0 w1 := (Below.refl _ _).grown hgrow (Nat.le_refl _) (fun k h => by cases h)
  have K1 := Lib.hid (K0.out.below hb1 K0.out.lt)
  have HB1 := Lib.hid (HB0.out.trans (hb1.mono HB0.out.size))
  clear hown hgrow hb1
  rw [HS0.out]
  obtain ⟨W2, hW2⟩ : ∃ W, W = w1.alloc (Obj.cells #[.slice (some ⟨w.heap.size + 1, 0, none⟩) 1000 1000, .int .i64 0, .int .i64 0] 107) := ⟨_, rfl⟩
  have hb2 : Below w1.heap.size w1 W2 := by rw [hW2]; exact (Below.refl _ _).alloc (Nat.le_refl _) _
  have HSZ1 : Hid (w.heap.size + 1 < w1.heap.size) := Lib.hid (Array.getElem?_eq_some_iff.1 HG1.out).1
  have HG2 : Hid (W2.heap[w.heap.size + 1]? = some (.cells Z.toArray 2 (0, 0))) := Lib.hid ((hb2.block _ HSZ1.out).trans HG1.out)
  have HL2 : Hid (Cels W2 w1.heap.size 107 [.slice (some ⟨w.heap.size + 1, 0, none⟩) 1000 1000, .int .i64 0, .int .i64 0]) := Lib.hid (by rw [hW2]; exact Cels.new _ _ _)
  have K2 := Lib.hid (K1.out.below hb2 K1.out.lt)
  have HB2 := Lib.hid (HB1.out.trans (hb2.mono HB1.out.size))
  have HH2 := Lib.hid (H.out.below HB2.out (Nat.le_refl _))
  have HW2 := Lib.hid hW2.symm
  have y0 := HL2.out.cell 0 rfl
  rw [← HW2.out] at y0
  clear hb2 hW2
  go_wp2_with (with_reducible refine copyOnly rfl (.tmp 7) (.tmp 8) 23 23 rfl 2 Tryd.underlying23 sizeQ _ _ _ _ _ _ rfl rfl (w.heap.size + 1) 0 Z 2 ?hg X1 ?hn1 ?hpos1 ?hfit1 ?hone1 ?_)
  case hg => rw [HW2.out]; exact HG2.out
  case hn1 => have h1 := HX1.out.2; have h2 := HN.out; rw [h1]; show n = min xs.length 1000; omega
  case hpos1 =>
    intro hpos
    rw [HX1.out.2] at hpos
    obtain ⟨_, _, a9, c9, ea, _, hr9⟩ := HH2.out
    obtain ⟨b, o, ha, _, hc9⟩ := hr9 (by intro h0; have := HN.out; rw [h0] at this; simp at this; omega)
    have ea' : a = a9 := by injection ea
    subst ea'
    have fin : ∃ ad, a = some ad ∧ ∀ j v, X1[j]? = some v → W2.cell? (ad.add j) = some v := by
      refine ⟨_, ha, fun j x hx => ?_⟩
      rw [HX1.out.1, List.getElem?_map, List.getElem?_take] at hx
      split at hx
      · obtain ⟨y, hy, rfl⟩ := Option.map_eq_some_iff.1 hx
        have hj := (List.getElem?_eq_some_iff.1 hy).1
        rw [Addr.add_lit, hc9 j hj, List.getD_eq_getElem?_getD, hy]; rfl
      · simp at hx
    rw [← HW2.out] at fin
    first | exact fin | exact ⟨rfl, fin⟩
  case hfit1 => have h1 := HX1.out.2; have h2 := HN.out; rw [h1, HZZ.out.2]; omega
  case hone1 => rw [HX1.out.1]; exact ints_oneCell .i64 _
  rw [HW2.out]
  intro w4 hg4 ho4
  have hX1l : X1.length = n := HX1.out.2
  have K4 := Lib.hid (show Cels w4 w.heap.size 107 _ from ho4.out.1.kept K2.out (by omega))
  have L4 := Lib.hid (show Cels w4 w1.heap.size 107 _ from ho4.out.1.kept HL2.out (by have := HSZ1.out; omega))
  have HB4 : Hid (Below w.heap.size w w4) := Lib.hid (HB2.out.trans (ho4.out.1.below (fun j h => by rw [h]; exact Nat.le_succ _) HB2.out.size))
  have HR4 : Hid (Cels w4 (w.heap.size + 1) 2 ((nq xs).map (.int .i64))) := Lib.hid (by
    have h := hg4.out
    rw [HX1.out.1, HZZ.out.1, splice_map] at h
    exact h)
  have L5 := Lib.hid (L4.out.set 2 (.int .i64 (n : Int)))
  have hne : w.heap.size ≠ w1.heap.size := by have := HSZ1.out; omega
  have hne2 : w.heap.size + 1 ≠ w1.heap.size := by have := HSZ1.out; omega
  have K5 := Lib.hid (K4.out.other (p := ⟨w1.heap.size, 2, none⟩) hne (.int .i64 (n : Int)))
  have R5 := Lib.hid (HR4.out.other (p := ⟨w1.heap.size, 2, none⟩) hne2 (.int .i64 (n : Int)))
  have z0 := L4.out.cell 0 rfl
  have y1 := L4.out.cell 2 rfl
  have y2 := L4.out.frozen 2
  have u0 := L5.out.cell 0 rfl
  have u1 := L5.out.cell 1 rfl
  have u2 := L5.out.cell 2 rfl
  obtain ⟨f1, f2, f3, f4, f5, f6, f7⟩ := put3 K5.out (.slice (some ⟨w.heap.size + 1, 0, none⟩) 1000 1000) (.int .i64 0) (.int .i64 (n : Int))
  have HF7 := Lib.hid f7
  clear hg4 ho4 f7 y0 hne hne2
  go_wp2
  obtain ⟨W, hW⟩ : ∃ W, W = (((w4.setCell ⟨w1.heap.size, 2, none⟩ (.int .i64 (n : Int))).setCell ⟨w.heap.size, 0, none⟩ (.slice (some ⟨w.heap.size + 1, 0, none⟩) 1000 1000)).setCell ⟨w.heap.size, 1, none⟩ (.int .i64 0)).setCell ⟨w.heap.size, 2, none⟩ (.int .i64 (n : Int)) := ⟨_, rfl⟩
  have hB : Below w.heap.size w W := by
    rw [hW]
    exact below_set (below_set (below_set (below_set HB4.out (by have := HSZ1.out; omega) _ _) (Nat.le_refl _) _ _) (Nat.le_refl _) _ _) (Nat.le_refl _) _ _
  have hR : Cels W (w.heap.size + 1) 2 ((nq xs).map (.int .i64)) := by
    rw [hW]
    exact ((R5.out.other (p := ⟨w.heap.size, 0, none⟩) (by show w.heap.size + 1 ≠ w.heap.size; omega) _).other (p := ⟨w.heap.size, 1, none⟩) (by show w.heap.size + 1 ≠ w.heap.size; omega) _).other (p := ⟨w.heap.size, 2, none⟩) (by show w.heap.size + 1 ≠ w.heap.size; omega) _
  have f7 := HF7.out
  rw [← hW] at f7 ⊢
  have z0 := f7.cell 0 rfl
  have z1 := f7.cell 1 rfl
  have z2 := f7.cell 2 rfl
  clear f1 f2 f3 f4 f5 f6 hW
  refine bodyPost_ret (v := .agg #[.slice (some ⟨w.heap.size + 1, 0, none⟩) 1000 1000, .int .i64 0, .int .i64 (n : Int)]) (by simp [results, Tryd.f101, go_sem, z0, z1, z2]) rfl ⟨n, rfl, HN.out, hR, hB⟩
end Go.Proofs.YtkjoakdepjpkhaaDoor.Ints
