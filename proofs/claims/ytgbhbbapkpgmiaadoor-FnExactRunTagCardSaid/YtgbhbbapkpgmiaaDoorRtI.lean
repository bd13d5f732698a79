/- RunTag: the program's. (gen_rt.py) -/
import Derived.Test.YtgbhbbapkpgmiaaDoorEnT
namespace Go.Proofs.YtgbhbbapkpgmiaaDoor.Ints
open Go.RowKit
set_option linter.unusedVariables false
set_option linter.unusedSimpArgs false
set_option maxHeartbeats 2000000 in
theorem implRunTag (d : Int) (vz vh x : Value) (zss : List (List Int)) (hs xs : List Int) (bu : Int) (w : World) (hz : RdL w vz zss) (hh : Rd w vh hs) (hx : Rd w x xs) (he : EtV w) :
    Calls Tryd.prog 48 #[.agg #[.int .i64 d, vz, vh], x, .int .i64 bu] w fun e w' => ∃ u, e = .returned (.tuple #[u, .int .i64 (rtR d zss hs xs bu).n, .bool (rtR d zss hs xs bu).h, .int .i64 (rtR d zss hs xs bu).code]) ∧ Ow w' w.heap.size w'.heap.size u (rtR d zss hs xs bu).cs ∧ Below w.heap.size w w' := by
  have HZ := Lib.hid hz
  have HH := Lib.hid hh
  have HX := Lib.hid hx
  have HE := Lib.hid he
  obtain ⟨_, az, cz, rfl, _, _⟩ := hz
  obtain ⟨_, _, ah, ch, rfl, _, _⟩ := hh
  obtain ⟨_, _, ax, cx, rfl, _, _⟩ := hx
  obtain ⟨W0, hW0⟩ : ∃ W, W = w.alloc (Obj.cells #[.int .i64 d, .slice az zss.length cz, .slice ah hs.length ch] 58) := ⟨_, rfl⟩
  have HB : Hid (Below w.heap.size w W0) := Lib.hid (by rw [hW0]; exact (Below.refl w.heap.size w).alloc (Nat.le_refl _) _)
  have K0 : Hid (Cels W0 w.heap.size 58 [.int .i64 d, .slice az zss.length cz, .slice ah hs.length ch]) := Lib.hid (by rw [hW0]; exact Cels.new _ _ _)
  have HW0 := Lib.hid hW0.symm
  obtain ⟨R, hR⟩ : ∃ R, R = rtR d zss hs xs bu := ⟨_, rfl⟩
  rw [← hR]
  have HR := Lib.hid hR.symm
  obtain ⟨x0, x1, x2, x3⟩ := R
  dsimp only
  clear hW0 he hR
  go_enter Tryd.func48, Tryd.ntmps48
  go_wp2_with fail
  rw [HW0.out]
  refine (implNewTag d _ _ _ zss hs xs _ (HZ.out.below HB.out (Nat.le_refl _)) (HH.out.below HB.out (Nat.le_refl _)) (HX.out.below HB.out (Nat.le_refl _))).mono ?_
  rintro e w1 ⟨g, q, n, rfl, hr, hn, hb⟩
  have HRr := Lib.hid hr
  have HN := Lib.hid hn
  have HB1 := Lib.hid hb
  clear hr hn hb
  go_wp2_with fail
  refine (callsIn_wide.1 (implEnT_in W0 w1 g q n d _ _ zss hs xs bu HRr.out HN.out (HE.out.below HB.out (Nat.le_refl _)) HB1.out)).mono ?_
  rintro e w2 ⟨u, rfl, ho, hb2⟩
  rw [HR.out] at ho
  rw [HR.out]
  dsimp only at ho ⊢
  have HO := Lib.hid (ho.mono (B' := w.heap.size) HB.out.size (Nat.le_refl _) (Nat.le_refl _))
  have HB2 := Lib.hid (HB.out.trans (hb2.mono HB.out.size))
  clear ho hb2
  go_wp2
  (try simp only [Exit.inBlock, Exit.then]); refine bodyPost_ret (results_tmp4 rfl _ _ _) rfl ?_
  exact ⟨_, rfl, HO.out, HB2.out⟩
end Go.Proofs.YtgbhbbapkpgmiaaDoor.Ints
