/- The contract of the model's UnweaveNatural. -/
import Derived.Test.YtknlpoeolicinacUw
import Derived.Deep.RegionHeld3
import Derived.Deep.AppendLies
import Derived.Deep.DrawnRows
import Derived.StillTailTactics
import Derived.Maps.AppendAt
import Derived.Deep.RegionLaw
namespace Go.Proofs.Ytknlpoeolicinac.Ints
open Go.RowKit
set_option linter.unusedVariables false
attribute [local go_sem ↓] Go.wp_at_zero Go.wp_at_succ

/-- The block of the two lists. -/
def Two (w : World) (g : Nat) (u v : Value) : Prop := w.heap[g]? = some (.cells #[u, v] 22 (0, 0))
theorem Two.c0 {w : World} {g : Nat} {u v : Value} (h : Two w g u v) : w.cell? ⟨g, 0, none⟩ = some u := by simp [World.cell?, show w.heap[g]? = _ from h]
theorem Two.c1 {w : World} {g : Nat} {u v : Value} (h : Two w g u v) : w.cell? ⟨g, 1, none⟩ = some v := by simp [World.cell?, show w.heap[g]? = _ from h]
theorem Two.f {w : World} {g : Nat} {u v : Value} (h : Two w g u v) (j : Nat) : w.frozen? ⟨g, j, none⟩ = false := by simp [World.frozen?, show w.heap[g]? = _ from h]
theorem Two.lt {w : World} {g : Nat} {u v : Value} (h : Two w g u v) : g < w.heap.size := (Array.getElem?_eq_some_iff.1 h).1
theorem Two.far {w : World} {g : Nat} {u v : Value} (h : Two w g u v) {B T : Nat} {o : Value} {zs : List Int} (ho : Ow w B T o zs) : o.ownBlock ≠ some g := by
  rcases ho.row.2 with ⟨rfl, _⟩ | ⟨k, cap, cur, rfl, _, hgb, _⟩
  · simp [Value.ownBlock]
  · intro e'
    obtain rfl : k = g := by simpa [Value.ownBlock] using e'
    have := (show w.heap[k]? = _ from h).symm.trans hgb
    simp at this
theorem Two.grown {w w' : World} {g : Nat} {u v : Value} (h : Two w g u v) {row : Option Nat} (hg : w.grownBy w' row) (hne : row ≠ some g) : Two w' g u v := (hg.block g h.lt (fun e => hne e.symm)).trans h
theorem Two.set0 {w : World} {g : Nat} {u v : Value} (h : Two w g u v) (x : Value) : Two (w.setCell ⟨g, 0, none⟩ x) g x v := by
  rw [Two, heap_setCell_same w g 0 _ _ _ h]; rfl
theorem Two.set1 {w : World} {g : Nat} {u v : Value} (h : Two w g u v) (x : Value) : Two (w.setCell ⟨g, 1, none⟩ x) g u x := by
  rw [Two, heap_setCell_same w g 1 _ _ _ h]; rfl
theorem grown_setAt (w : World) (g j : Nat) (x : Value) : w.grownBy (w.setCell ⟨g, j, none⟩ x) (some g) :=
  ⟨rfl, rfl, rfl, by simp, fun k _ hk => heap_setCell_other w ⟨g, j, none⟩ k _ (fun e => hk (by simp [e]))⟩
/-- The lists once a digit has been laid to one of them. -/
theorem two_step {wr wd w3 : World} {N : Nat} {o p v' : Value} {xs ys : List Int} {x : Int} (hwd : wd = wr.drew) (hO : Ow wr N wr.heap.size o xs) (hP : Ow wr N wr.heap.size p ys)
    (hA : p.ownBlock = none ∨ p.ownBlock ≠ o.ownBlock) (hx : -9223372036854775808 ≤ x ∧ x ≤ 9223372036854775807) (hl : xs.length < 16777216)
    (hown1 : w3.ownsRow N 2 1 v' (xs.length + 1) (xs.map (Value.int .i64) ++ [.int .i64 x])) (hgrow : (wd.alloc (Obj.cells #[Value.int IntKind.i64 x] 2)).grownBy w3 o.ownBlock)
    (hat : v'.ownBlock = o.ownBlock ∨ v'.ownBlock = some (wd.alloc (Obj.cells #[Value.int IntKind.i64 x] 2)).heap.size) :
    Ow w3 N w3.heap.size v' (xs ++ [x]) ∧ Ow w3 N w3.heap.size p ys ∧ (p.ownBlock = none ∨ p.ownBlock ≠ v'.ownBlock) ∧ (v'.ownBlock = none ∨ v'.ownBlock ≠ p.ownBlock) ∧ Below N wr w3 := by
  have hbd : Below wr.heap.size wr wd := by rw [hwd]; exact (Below.refl _ _).drew
  have hO2 := (hO.below hbd (Nat.le_refl _)).up
  have hP2 := (hP.below hbd (Nat.le_refl _)).up
  obtain ⟨s1, s2⟩ := hO2.snoc hx hl hown1 hgrow
  have hp0 : p.ownBlock = none ∨ p.ownBlock ≠ none := by cases p.ownBlock <;> simp
  have hP3 := ((hP2.grown (World.grownBy_alloc wd (Obj.cells #[Value.int IntKind.i64 x] 2) none) hp0).grown hgrow hA).up
  have hA2 : p.ownBlock = none ∨ p.ownBlock ≠ v'.ownBlock := by
    rcases hA with h | h
    · exact .inl h
    · rcases hat with e | e
      · exact .inr (by rw [e]; exact h)
      · refine .inr fun h2 => ?_
        have := hP2.top _ (h2.trans e)
        simp at this
        omega
  refine ⟨s1, hP3, hA2, ?_, (hbd.mono (Nat.le_trans hO.base hO.size)).trans s2⟩
  cases hv : v'.ownBlock with
  | none => exact .inl rfl
  | some q =>
    refine .inr fun h2 => ?_
    rcases hA2 with h | h
    · rw [h] at h2; cases h2
    · exact h (h2.symm.trans hv.symm)
/-- A store into the block of the two lists leaves a list as it lay. -/
theorem Ow.storeTwo {w : World} {B T g j : Nat} {o x : Value} {zs : List Int} (h : Ow w B T o zs) (hg : o.ownBlock ≠ some g) : Ow (w.setCell ⟨g, j, none⟩ x) B (w.setCell ⟨g, j, none⟩ x).heap.size o zs :=
  (h.grown (grown_setAt w g j x) (.inr hg)).up

set_option maxRecDepth 100000 in
set_option maxHeartbeats 8000000 in
theorem specUnweave (u : Value) (ps : List Int) (w : World) (hu : Rd w u ps) :
    Calls Try.prog 39 #[u] w fun e w' => ∃ r0 r1 M, e = .returned (.tuple #[r0, r1, .int .i64 (uwC ps)]) ∧ Ow w' w.heap.size M r0 (uwL ps 0) ∧ Ow w' M w'.heap.size r1 (uwL ps 1) ∧ Below w.heap.size w w' := by
  have HU := Lib.hid hu
  clear hu
  rcases eqOr (natB ps) with hx | hx
  · have HR := Lib.hid (uw_bad hx)
    have HX := Lib.hid hx
    clear hx
    go_enter Try.func39, Try.ntmps39
    go_wp2_with fail
    refine (specNat _ ps _ HU.out).mono ?_
    rintro e w' ⟨rfl, rfl⟩
    rw [HX.out]
    go_wp2
    go_ret3
    exact ⟨_, _, w.heap.size, by rw [HR.out.2.2] <;> rfl, by rw [HR.out.1]; exact Ow.empty w, by rw [HR.out.2.1]; exact Ow.empty w, Below.refl _ _⟩
  have HX := Lib.hid hx
  have HR := Lib.hid (uw_good hx)
  have HP := Lib.hid (natB_can hx)
  obtain ⟨G, hG⟩ : ∃ G, G = dgN ps 10 := ⟨_, rfl⟩
  have HGG := Lib.hid hG
  have hgl : G.length ≤ 240 := by rw [hG]; exact dg_ten HP.out.1 HP.out.2
  have HDG : Hid (Dig 10 G) := Lib.hid (by rw [hG]; exact dgN_dig ps (by omega))
  clear hx hG
  obtain ⟨i0, hi, hz0, hz1, hz2⟩ := info_parts infoE
  go_enter Try.func39, Try.ntmps39
  go_wp2_with fail
  refine (specNat _ ps _ HU.out).mono ?_
  rintro e w' ⟨rfl, rfl⟩
  rw [HX.out]
  go_wp2_with fail
  refine (specDgLoop _ ps 10 _ HU.out HP.out (by omega) (by omega)).mono ?_
  rintro e w1 ⟨r, rfl, ho, hb⟩
  rw [← HGG.out] at ho
  have HO := Lib.hid ho.rd
  have HB1 := Lib.hid hb
  obtain ⟨a, c, rfl⟩ := ho.shape
  clear ho hb
  go_wp2
  obtain ⟨w3, hw3⟩ : ∃ w3, w3 = (((w1.alloc (Obj.cells #[] 2)).alloc (Obj.cells #[] 2)).alloc (Obj.cells #[Value.slice (some ⟨w1.heap.size, 0, none⟩) 0 0, Value.slice (some ⟨w1.heap.size + 1, 0, none⟩) 0 0] 22)) := ⟨_, rfl⟩
  have HT0 : Hid (Two w3 (w1.heap.size + 1 + 1) (.slice (some ⟨w1.heap.size, 0, none⟩) 0 0) (.slice (some ⟨w1.heap.size + 1, 0, none⟩) 0 0)) := Lib.hid (by
    have := World.alloc_heap_new ((w1.alloc (Obj.cells #[] 2)).alloc (Obj.cells #[] 2)) (Obj.cells #[Value.slice (some ⟨w1.heap.size, 0, none⟩) 0 0, Value.slice (some ⟨w1.heap.size + 1, 0, none⟩) 0 0] 22)
    rw [World.size_alloc, World.size_alloc] at this
    rw [hw3]; exact this)
  have HB3 : Hid (Below w1.heap.size w1 w3) := Lib.hid (by rw [hw3]; exact (((Below.refl w1.heap.size w1).alloc (Nat.le_refl _) _).alloc (by simp) _).alloc (by simp; omega) _)
  have HE0 : Hid (Ow w3 w1.heap.size w3.heap.size (.slice (some ⟨w1.heap.size, 0, none⟩) 0 0) (ev G 0 ((0 + 1) / 2))) := Lib.hid (by
    have h1 : Below (w1.alloc (Obj.cells #[] 2)).heap.size (w1.alloc (Obj.cells #[] 2)) w3 := by rw [hw3]; exact ((Below.refl _ _).alloc (Nat.le_refl _) _).alloc (by simp) _
    exact ((Ow.made w1).below h1 (Nat.le_refl _)).up)
  have HE1 : Hid (Ow w3 w1.heap.size w3.heap.size (.slice (some ⟨w1.heap.size + 1, 0, none⟩) 0 0) (ev G 1 (0 / 2))) := Lib.hid (by
    have h1 : Below ((w1.alloc (Obj.cells #[] 2)).alloc (Obj.cells #[] 2)).heap.size ((w1.alloc (Obj.cells #[] 2)).alloc (Obj.cells #[] 2)) w3 := by rw [hw3]; exact (Below.refl _ _).alloc (Nat.le_refl _) _
    have h2 := Ow.made (w1.alloc (Obj.cells #[] 2))
    simp only [World.size_alloc] at h2 h1
    exact ((h2.below h1 (Nat.le_refl _)).mono (B' := w1.heap.size) (by omega) (by have := h1.size; rw [World.size_alloc, World.size_alloc] at this; omega) (Nat.le_refl _)))
  rw [← hw3]
  clear hw3
  go_loopw [7] (fun s wr => ∃ (k : Nat) (o0 o1 : Value), k ≤ G.length ∧ s = .int .i64 k ∧ Two wr (w1.heap.size + 1 + 1) o0 o1 ∧ Ow wr w1.heap.size wr.heap.size o0 (ev G 0 ((k + 1) / 2)) ∧ Ow wr w1.heap.size wr.heap.size o1 (ev G 1 (k / 2)) ∧ (o0.ownBlock = none ∨ o0.ownBlock ≠ o1.ownBlock) ∧ (o1.ownBlock = none ∨ o1.ownBlock ≠ o0.ownBlock) ∧ Below w1.heap.size w1 wr) (fun s _ => G.length - (intOf s).toNat)
  case atStart => exact ⟨0, _, _, Nat.zero_le _, rfl, HT0.out, HE0.out, HE1.out, .inr (by simp [Value.ownBlock]), .inr (by simp [Value.ownBlock]), HB3.out⟩
  case round =>
    obtain ⟨k, o0, o1, hk, rfl, hT, h0, h1, hA01, hA10, hbel⟩ := hrel
    have HTW := Lib.hid hT
    have HW := Lib.hid hbel
    have Ho0 := Lib.hid h0
    have Ho1 := Lib.hid h1
    have HA01 := Lib.hid hA01
    have HA10 := Lib.hid hA10
    have t0 := hT.c0
    have t1 := hT.c1
    by_cases hlt : k < G.length
    · obtain ⟨_, _, a2, c2, he, _, hr⟩ := HO.out.below hbel (Nat.le_refl _)
      obtain ⟨gx, ox, ha, hbx, hcell⟩ := hr (by intro h0; rw [h0] at hlt; simp at hlt)
      simp only [Value.slice.injEq] at he
      obtain ⟨rfl, _, rfl⟩ := he
      subst ha
      have cx := hcell k hlt
      obtain ⟨x, hx⟩ : ∃ x, x = G.getD k 0 := ⟨_, rfl⟩
      rw [← hx] at cx
      have dx := HDG.out k hlt
      rw [← hx] at dx
      obtain ⟨d0, d1⟩ := dx
      have j0 : (0 : Int) ≤ (k : Int) := by omega
      have j1 : (k : Int) < (G.length : Int) := by omega
      obtain ⟨xs, hxs⟩ : ∃ xs, xs = ev G 0 ((k + 1) / 2) := ⟨_, rfl⟩
      obtain ⟨ys, hys⟩ : ∃ ys, ys = ev G 1 (k / 2) := ⟨_, rfl⟩
      have hlx : xs.length ≤ 240 := by rw [hxs, ev_len]; omega
      have hly : ys.length ≤ 240 := by rw [hys, ev_len]; omega
      rw [← hxs] at Ho0
      rw [← hys] at Ho1
      clear h0 h1 hA01 hA10 hT
      by_cases hpar : k % 2 = 0
      · skip
        have e2 : (k : Int) % 2 = 0 := by omega
        have HN : Hid (ev G 0 ((k + 1 + 1) / 2) = xs ++ [x]) := Lib.hid (by rw [show (k + 1 + 1) / 2 = (k + 1) / 2 + 1 by omega, ev_succ, hxs, hx, show 0 + 2 * ((k + 1) / 2) = k by omega])
        have HM : Hid (ev G 1 ((k + 1) / 2) = ys) := Lib.hid (by rw [hys, show (k + 1) / 2 = k / 2 by omega])
        have hTa : Two (wr.alloc (Obj.cells #[Value.int IntKind.i64 x] 2)) (w1.heap.size + 1 + 1) o0 o1 := HTW.out.grown (World.grownBy_alloc wr _ none) (by simp)
        have y0 := hTa.c0
        clear hTa
        have hrowD := (Ho0.out.row.alloc (Obj.cells #[Value.int IntKind.i64 x] 2)).drew
        have hsz : w1.heap.size ≤ wr.heap.size := HW.out.size
        clear hx hxs hys hcell hbel
        go_wp2_with fail
        rw [e2]
        clear e2
        go_region_law ((refine step_append_lies _ (by rfl) _ _ _ (by rfl) w1.heap.size 2 i0 _ 1 8 Try.underlying22 hi hz0 hz1 hz2 rfl (by omega) o0 xs.length (xs.map (Value.int .i64)) (by rfl) hrowD ⟨wr.heap.size, 0, none⟩ 1 1 [.int .i64 x] (by rfl) (by rfl) (World.news_of_block (cs := #[.int .i64 x]) (t := 2) (fr := (0, 0)) (heap_alloc_new wr _)) (oneCell _) (by omega) (by unfold maxLen; omega) (by omega) (by simp; omega) (wr.heap.size + 1) (by simp) ?_; intro gg cap w4 hown1 hgrow hat hlt4; have hT3 : Two w4 (w1.heap.size + 1 + 1) o0 o1 := ((show Two wr.drew (w1.heap.size + 1 + 1) o0 o1 from HTW.out).grown (World.grownBy_alloc wr.drew _ none) (by simp)).grown hgrow (HTW.out.far Ho0.out); have u0 := hT3.c0; have f0 := hT3.f 0))
        all_goals
          obtain ⟨q1, q2, q3, q4, q5⟩ := two_step rfl Ho0.out Ho1.out HA10.out (by omega) (by omega) hown1 hgrow (by
            rcases hat with h | h
            · exact .inl (by rw [h]; rfl)
            · exact .inr (by rw [h]; simp [Value.ownBlock]))
          have fa := hT3.far q1
          have fb := hT3.far q2
          have HT3 := Lib.hid hT3
          have HBF := Lib.hid (HW.out.trans q5)
          clear hown1 hgrow hat hrowD hT3 q5
          go_wp2
          go_roundw
          case rel => exact ⟨k + 1, _, o1, by omega, by go_num, HT3.out.set0 _, by rw [HN.out]; exact q1.storeTwo fa, by rw [HM.out]; exact q2.storeTwo fb, q4, q3, HBF.out.setCell (p := ⟨w1.heap.size + 1 + 1, 0, none⟩) (by show w1.heap.size ≤ w1.heap.size + 1 + 1; omega) _⟩
          case measure => simp [intOf]; omega
      · skip
        have e2 : (k : Int) % 2 = 1 := by omega
        have HN : Hid (ev G 1 ((k + 1) / 2) = ys ++ [x]) := Lib.hid (by rw [show (k + 1) / 2 = k / 2 + 1 by omega, ev_succ, hys, hx, show 1 + 2 * (k / 2) = k by omega])
        have HM : Hid (ev G 0 ((k + 1 + 1) / 2) = xs) := Lib.hid (by rw [hxs, show (k + 1 + 1) / 2 = (k + 1) / 2 by omega])
        have hTa : Two (wr.alloc (Obj.cells #[Value.int IntKind.i64 x] 2)) (w1.heap.size + 1 + 1) o0 o1 := HTW.out.grown (World.grownBy_alloc wr _ none) (by simp)
        have y1 := hTa.c1
        clear hTa
        have hrowD := (Ho1.out.row.alloc (Obj.cells #[Value.int IntKind.i64 x] 2)).drew
        have hsz : w1.heap.size ≤ wr.heap.size := HW.out.size
        clear hx hxs hys hcell hbel
        go_wp2_with fail
        rw [e2]
        clear e2
        go_region_law ((refine step_append_lies _ (by rfl) _ _ _ (by rfl) w1.heap.size 2 i0 _ 1 8 Try.underlying22 hi hz0 hz1 hz2 rfl (by omega) o1 ys.length (ys.map (Value.int .i64)) (by rfl) hrowD ⟨wr.heap.size, 0, none⟩ 1 1 [.int .i64 x] (by rfl) (by rfl) (World.news_of_block (cs := #[.int .i64 x]) (t := 2) (fr := (0, 0)) (heap_alloc_new wr _)) (oneCell _) (by omega) (by unfold maxLen; omega) (by omega) (by simp; omega) (wr.heap.size + 1) (by simp) ?_; intro gg cap w4 hown1 hgrow hat hlt4; have hT3 : Two w4 (w1.heap.size + 1 + 1) o0 o1 := ((show Two wr.drew (w1.heap.size + 1 + 1) o0 o1 from HTW.out).grown (World.grownBy_alloc wr.drew _ none) (by simp)).grown hgrow (HTW.out.far Ho1.out); have u1 := hT3.c1; have f1 := hT3.f 1))
        all_goals
          obtain ⟨q1, q2, q3, q4, q5⟩ := two_step rfl Ho1.out Ho0.out HA01.out (by omega) (by omega) hown1 hgrow (by
            rcases hat with h | h
            · exact .inl (by rw [h]; rfl)
            · exact .inr (by rw [h]; simp [Value.ownBlock]))
          have fa := hT3.far q1
          have fb := hT3.far q2
          have HT3 := Lib.hid hT3
          have HBF := Lib.hid (HW.out.trans q5)
          clear hown1 hgrow hat hrowD hT3 q5
          go_wp2
          go_roundw
          case rel => exact ⟨k + 1, o0, _, by omega, by go_num, HT3.out.set1 _, by rw [HM.out]; exact q2.storeTwo fb, by rw [HN.out]; exact q1.storeTwo fa, q3, q4, HBF.out.setCell (p := ⟨w1.heap.size + 1 + 1, 1, none⟩) (by show w1.heap.size ≤ w1.heap.size + 1 + 1; omega) _⟩
          case measure => simp [intOf]; omega
    · obtain rfl : k = G.length := by omega
      have i1 : ¬ (G.length : Int) < (G.length : Int) := by omega
      have HZ0 : Hid (uwE G 0 = ev G 0 ((G.length + 1) / 2)) := Lib.hid rfl
      have HZ1 : Hid (uwE G 1 = ev G 1 (G.length / 2)) := Lib.hid (by rw [uwE, show G.length + 1 - 1 = G.length by omega])
      obtain ⟨Z0, hz0'⟩ : ∃ Z, Z = ev G 0 ((G.length + 1) / 2) := ⟨_, rfl⟩
      obtain ⟨Z1, hz1'⟩ : ∃ Z, Z = ev G 1 (G.length / 2) := ⟨_, rfl⟩
      have hd0 : Dig 10 Z0 := by rw [hz0']; exact ev_dig HDG.out _ _
      have hd1 : Dig 10 Z1 := by rw [hz1']; exact ev_dig HDG.out _ _
      have HD0 := Lib.hid hd0
      have HD1 := Lib.hid hd1
      rw [← hz0'] at Ho0 HZ0 h0
      rw [← hz1'] at Ho1 HZ1 h1
      obtain ⟨p0, c0, hs0⟩ := h0.shape
      obtain ⟨p1, c1, hs1⟩ := h1.shape
      have HGS := Lib.hid hT.lt
      clear hz0' hz1' hd0 hd1 h0 h1 hA01 hA10 hT hbel
      subst hs0
      subst hs1
      go_wp2_with fail
      refine (specJoin _ Z0 10 _ Ho0.out.rd (by omega) (by omega) HD0.out).mono ?_
      rintro e w4 ⟨r0, rfl, ho, hb⟩
      have t1' := (hb.cell (p := ⟨w1.heap.size + 1 + 1, 1, none⟩) HGS.out).trans HTW.out.c1
      have HO1 := Lib.hid (Ho1.out.rd.below hb (Nat.le_refl _))
      have HBS : Hid (w.heap.size ≤ wr.heap.size) := Lib.hid (by have := HB1.out.size; have := HW.out.size; omega)
      have HR0 := Lib.hid (ho.mono (B' := w.heap.size) HBS.out (Nat.le_refl _) (Nat.le_refl _))
      have HB4 := Lib.hid (((HB1.out.trans (HW.out.mono HB1.out.size))).trans (hb.mono HBS.out))
      obtain ⟨a0, d0, hr0⟩ := ho.shape
      obtain ⟨Q0, hQ0⟩ : ∃ Q, Q = fdL Z0 10 := ⟨_, rfl⟩
      obtain ⟨q0, hq0⟩ : ∃ q, q = fdB Z0 10 := ⟨_, rfl⟩
      have HQ0 := Lib.hid hQ0
      rw [← hQ0] at hr0 HR0
      rw [← hq0]
      clear ho hb hQ0 hq0 t0 t1
      subst hr0
      go_wp2_with fail
      refine (specJoin _ Z1 10 _ HO1.out (by omega) (by omega) HD1.out).mono ?_
      rintro e w5 ⟨r1, rfl, ho, hb⟩
      have HR0b := Lib.hid ((HR0.out.below hb (Nat.le_refl _)))
      have HR1 := Lib.hid ho
      have HB5 := Lib.hid (HB4.out.trans (hb.mono HB4.out.size))
      obtain ⟨a1, d1, hr1⟩ := ho.shape
      obtain ⟨Q1, hQ1⟩ : ∃ Q, Q = fdL Z1 10 := ⟨_, rfl⟩
      obtain ⟨q1, hq1⟩ : ∃ q, q = fdB Z1 10 := ⟨_, rfl⟩
      have HQ1 := Lib.hid hQ1
      rw [← hQ1] at hr1 HR1
      rw [← hq1]
      clear ho hb hQ1 hq1 t1'
      subst hr1
      go_wp2
      go_ret3
      exact ⟨_, _, w4.heap.size, by rw [HR.out.2.2] <;> rfl, by rw [HR.out.1, ← HGG.out, HZ0.out, ← HQ0.out]; exact HR0b.out, by rw [HR.out.2.1, ← HGG.out, HZ1.out, ← HQ1.out]; exact HR1.out, HB5.out⟩
end Go.Proofs.Ytknlpoeolicinac.Ints
