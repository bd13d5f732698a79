/- RunCyclic: the program's. (out of XCyB) -/
import Derived.Test.YtkjoakdepjpkhaaDoorEnY
namespace Go.Proofs.YtkjoakdepjpkhaaDoor.Ints
open Go.RowKit
set_option linter.unusedVariables false
set_option linter.unusedSimpArgs false
set_option maxRecDepth 100000 in
set_option maxHeartbeats 2000000 in
theorem implRunCyc (vz x : Value) (zss : List (List Int)) (at' : Int) (xs : List Int) (bu : Int) (w : World) (hz : RdL w vz zss) (hx : Rd w x xs) (he : EtV w) :
    Calls Tryd.prog 29 #[.agg #[vz], .agg #[.int .i64 at', x], .int .i64 bu] w fun e w' => ∃ u, e = .returned (.tuple #[.agg #[.int .i64 (ryR zss at' xs bu).at', u], .int .i64 (ryR zss at' xs bu).n, .bool (ryR zss at' xs bu).h, .int .i64 (ryR zss at' xs bu).code]) ∧ Ow w' w.heap.size w'.heap.size u (ryR zss at' xs bu).cs ∧ Below w.heap.size w w' := by
  have HZ := Lib.hid hz
  have HX := Lib.hid hx
  have HE := Lib.hid he
  obtain ⟨_, az, cz, rfl, _, _⟩ := hz
  obtain ⟨_, _, ax, cx, rfl, _, _⟩ := hx
  obtain ⟨W0, hW0⟩ : ∃ W, W = ((w.alloc (Obj.cells #[.slice az zss.length cz] 44)).alloc (Obj.cells #[.int .i64 at', .slice ax xs.length cx] 41)).alloc (Obj.cells #[.int .i64 0, .slice none 0 0] 41) := ⟨_, rfl⟩
  have HB : Hid (Below w.heap.size w W0) := Lib.hid (by rw [hW0]; exact (((Below.refl w.heap.size w).alloc (Nat.le_refl _) _).alloc (by simp) _).alloc (by simp; omega) _)
  have KR : Hid (Cels W0 (w.heap.size + 1 + 1) 41 [.int .i64 0, .slice none 0 0]) := Lib.hid (by
    rw [hW0]
    have := Cels.new ((w.alloc (Obj.cells #[.slice az zss.length cz] 44)).alloc (Obj.cells #[.int .i64 at', .slice ax xs.length cx] 41)) 41 [.int .i64 0, .slice none 0 0]
    rwa [World.size_alloc, World.size_alloc] at this)
  have HW0 := Lib.hid hW0.symm
  obtain ⟨R, hR⟩ : ∃ R, R = ryR zss at' xs bu := ⟨_, rfl⟩
  rw [← hR]
  have HR := Lib.hid hR.symm
  obtain ⟨x0, x1, x2, x4, x5⟩ := R
  dsimp only
  clear hW0 he hR
  go_enter Tryd.func29, Tryd.ntmps29
  go_wp2_with fail
  rw [HW0.out]
  refine (implNewCyc _ _ zss at' xs _ (HZ.out.below HB.out (Nat.le_refl _)) (HX.out.below HB.out (Nat.le_refl _))).mono ?_
  rintro e w1 ⟨g, q, n, rfl, hr, hn, hb⟩
  have HKEY := Lib.hid (callsIn_wide.1 (implEnY_in W0 w1 g q n _ zss at' xs bu hr hn (HE.out.below HB.out (Nat.le_refl _)) hb))
  rw [HR.out] at HKEY
  dsimp only at HKEY
  clear hr hn hb
  go_wp2_with fail
  refine HKEY.out.mono ?_
  rintro e w3 ⟨r, rfl, or, hb3⟩
  have HO := Lib.hid or
  obtain ⟨ga, gc, hr⟩ := or.shape
  subst hr
  have HS1 := Lib.hid HB.out.size
  have HL1 := Lib.hid KR.out.lt
  have KR3 := Lib.hid (KR.out.below hb3 KR.out.lt)
  have HB3 := Lib.hid (HB.out.trans (hb3.mono HB.out.size))
  have HF := Lib.hid (put2y KR3.out (.int .i64 x1) (.slice ga x2.length gc))
  obtain ⟨f1, f2, f3, f4, f7⟩ := HF.out
  have HF7 := Lib.hid f7
  clear or hb3 f7
  go_wp2
  obtain ⟨W, hW⟩ : ∃ W, W = (w3.setCell ⟨w.heap.size + 1 + 1, 0, none⟩ (.int .i64 x1)).setCell ⟨w.heap.size + 1 + 1, 1, none⟩ (.slice ga x2.length gc) := ⟨_, rfl⟩
  have f7 := HF7.out
  have hB : Below w.heap.size w W := by
    rw [hW]
    exact below_set (below_set HB3.out (by omega) _ _) (by omega) _ _
  have hO : Ow W w.heap.size W.heap.size (.slice ga x2.length gc) x2 := by
    have h1 := (HO.out.apartCell HL1.out 0 (.int .i64 x1)).apartCell HL1.out 1 (.slice ga x2.length gc)
    rw [← hW] at h1
    exact h1.mono HS1.out (by rw [hW]; simp) (Nat.le_refl _)
  rw [← hW] at f7 ⊢
  have z0 := f7.cell 0 rfl
  have z1 := f7.cell 1 rfl
  clear f1 f2 f3 f4 hW
  refine bodyPost_ret (v := .tuple #[.agg #[.int .i64 x1, .slice ga x2.length gc], .int .i64 x4, .bool x5, .int .i64 x0]) (by simp [results, Tryd.f29, go_sem, z0, z1]) rfl ⟨_, rfl, hO, hB⟩
end Go.Proofs.YtkjoakdepjpkhaaDoor.Ints
