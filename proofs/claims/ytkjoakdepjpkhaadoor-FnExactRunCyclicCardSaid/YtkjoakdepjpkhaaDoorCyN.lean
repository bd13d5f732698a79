/- A new run of a cyclic tag system; how its methods are found. -/
import Derived.Test.YtkjoakdepjpkhaaDoorCyR
import Derived.Test.YtkjoakdepjpkhaaDoorErr
namespace Go.Proofs.YtkjoakdepjpkhaaDoor.Ints
open Go.RowKit
set_option linter.unusedVariables false
set_option linter.unusedSimpArgs false
theorem implNewQC (v : Value) (xs : List Int) (w : World) (h : Rd w v xs) :
    Calls Tryd.prog 101 #[v] w fun e w' => ∃ q n : Nat, e = .returned (.agg #[.slice (some ⟨q, 0, none⟩) 1000 1000, .int .i64 0, .int .i64 (n : Int)]) ∧ w.heap.size ≤ q ∧ n = min xs.length 1000 ∧ Cels w' q 2 ((nq xs).map (.int .i64)) ∧ Below w.heap.size w w' :=
  (implNewQueue v xs w h).mono fun _ _ ⟨n, h1, h2, h3, h4⟩ => ⟨_, n, h1, Nat.le_succ _, h2, h3, h4⟩
theorem cy_new {w w' : World} {q g : Nat} {n : Nat} {vz : Value} {zss : List (List Int)} {xs : List Int} {ok : Bool} {at' : Int} (hz : RdL w vz zss) (hfx : Fit xs) (hn : n = min xs.length 1000) (hq : w.heap.size ≤ q) (hg : w.heap.size ≤ g) (hne : q ≠ g) (hb : Below w.heap.size w w')
    (hc : Cels w' g 172 [vz, .slice (some ⟨q, 0, none⟩) 1000 1000, .int .i64 0, .int .i64 (n : Int), .bool ok, .int .i64 at']) (hr : Cels w' q 2 ((nq xs).map (.int .i64))) : CyR w w' g q vz zss (nq xs) 0 n ok at' :=
  ⟨hc, hr, nq_len xs, nq_fit hfx, by omega, by omega, hne, hz, ⟨hb.size, fun k hk hT => hb.block k hT⟩, hg, hq⟩
set_option maxRecDepth 100000 in
set_option maxHeartbeats 4000000 in
theorem implNewCyc (vz x : Value) (zss : List (List Int)) (at' : Int) (xs : List Int) (w : World) (hz : RdL w vz zss) (hx : Rd w x xs) :
    Calls Tryd.prog 78 #[.agg #[vz], .agg #[.int .i64 at', x]] w fun e w' => ∃ g q n, e = .returned (.pointer (some ⟨g, 0, none⟩)) ∧ CyR w w' g q vz zss (nq xs) 0 n (turnB zss at' xs) at' ∧ n = min xs.length 1000 ∧ Below w.heap.size w w' := by
  have HZ := Lib.hid hz
  have HX := Lib.hid hx
  obtain ⟨_, az, cz, rfl, _, _⟩ := hz
  obtain ⟨_, _, ax, cx, rfl, _, _⟩ := hx
  obtain ⟨W0, hW0⟩ : ∃ W, W = (w.alloc (Obj.cells #[.slice az zss.length cz] 44)).alloc (Obj.cells #[.int .i64 at', .slice ax xs.length cx] 41) := ⟨_, rfl⟩
  have HB : Hid (Below w.heap.size w W0) := Lib.hid (by rw [hW0]; exact ((Below.refl w.heap.size w).alloc (Nat.le_refl _) _).alloc (by simp) _)
  have K0 : Hid (Cels W0 w.heap.size 44 [.slice az zss.length cz]) := Lib.hid (by rw [hW0]; exact (Cels.new _ _ _).alloc _)
  have K1 : Hid (Cels W0 (w.heap.size + 1) 41 [.int .i64 at', .slice ax xs.length cx]) := Lib.hid (by
    rw [hW0]
    have := Cels.new (w.alloc (Obj.cells #[.slice az zss.length cz] 44)) 41 [.int .i64 at', .slice ax xs.length cx]
    rwa [World.size_alloc] at this)
  have HW0 := Lib.hid hW0.symm
  have HZ0 := Lib.hid (HZ.out.below HB.out (Nat.le_refl _))
  have HX0 := Lib.hid (HX.out.below HB.out (Nat.le_refl _))
  have HS0 := Lib.hid HB.out.size
  clear hW0
  obtain ⟨bt, hbt⟩ : ∃ b, b = turnB zss at' xs := ⟨_, rfl⟩
  have HBT := Lib.hid hbt
  rw [← hbt]
  clear hbt
  have HS : Hid (∀ W, Below W0.heap.size W0 W → W.cell? ⟨w.heap.size, 0, none⟩ = some (.slice az zss.length cz) ∧ W.cell? ⟨w.heap.size + 1, 0, none⟩ = some (.int .i64 at') ∧ W.cell? ⟨w.heap.size + 1, 1, none⟩ = some (.slice ax xs.length cx)) := Lib.hid (fun W h => ⟨(K0.out.below h K0.out.lt).cell 0 rfl, (K1.out.below h K1.out.lt).cell 0 rfl, (K1.out.below h K1.out.lt).cell 1 rfl⟩)
  go_enter Tryd.func78, Tryd.ntmps78
  go_wp2_with fail
  rw [HW0.out]
  have HD : Hid (Below W0.heap.size W0 W0.drew) := Lib.hid (Below.refl _ _).drew
  go_region_held3 (fun W => W.cell? ⟨w.heap.size, 0, none⟩ = some (.slice az zss.length cz) ∧ W.cell? ⟨w.heap.size + 1, 0, none⟩ = some (.int .i64 at') ∧ W.cell? ⟨w.heap.size + 1, 1, none⟩ = some (.slice ax xs.length cx)) (first | exact HS.out _ HD.out | exact HS.out _ (HD.out.alloc HD.out.size _))
    (first
      | (go_at_call 101; with_reducible refine (implNewQC _ xs _ (HX0.out.below HD.out (Nat.le_refl _))).mono ?_; rintro e3 w3 ⟨q, n, rfl, hq, hn, hr, hb3⟩; have HQ := Lib.hid (Nat.le_trans HD.out.size hq); have HN := Lib.hid hn; have HR := Lib.hid hr; replace HD := Lib.hid (HD.out.trans (hb3.mono HD.out.size)); clear hq hn hr hb3)
      | (go_at_call 109; with_reducible refine (implValidTurn _ zss at' _ xs _ (HZ0.out.below HD.out (Nat.le_refl _)) (HX0.out.below HD.out (Nat.le_refl _))).mono ?_; rintro e3 w3 ⟨rfl, hb3⟩; rw [← HBT.out]; replace HD := Lib.hid (HD.out.trans (hb3.mono HD.out.size)); (try (replace HR := Lib.hid (HR.out.below hb3 HR.out.lt))); clear hb3))
  all_goals
    go_wp2
    go_ret
    have hbz := (HB.out.trans (HD.out.mono HS0.out)).alloc (Nat.le_trans HS0.out HD.out.size) (Obj.cells #[.slice az zss.length cz, .slice (some ⟨q, 0, none⟩) 1000 1000, .int .i64 0, .int .i64 (n : Int), .bool bt, .int .i64 at'] 172)
    have hlt := HR.out.lt
    exact ⟨_, q, n, rfl, cy_new HZ.out HX.out.fit HN.out (Nat.le_trans HS0.out HQ.out) (Nat.le_trans HS0.out HD.out.size) (by omega) hbz (Cels.new _ _ _) (HR.out.alloc _), HN.out, hbz⟩
end Go.Proofs.YtkjoakdepjpkhaaDoor.Ints
