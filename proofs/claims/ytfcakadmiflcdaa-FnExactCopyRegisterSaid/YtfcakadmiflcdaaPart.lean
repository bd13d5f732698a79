/- The builder's parts: programs placed behind others. -/
import Derived.Test.YtfcakadmiflcdaaBld
namespace Go.Proofs.Ytfcakadmiflcdaa.Ints
open Go.RowKit
set_option linter.unusedVariables false
set_option linter.unusedSimpArgs false
theorem implPlacing (p : Value) (first exit : Int) (w : World) (ps : List Ins) (hp : RdIns w p ps) :
    Calls Try.prog 111 #[p, .int .i64 first, .int .i64 exit] w fun e w' => e = .returned (.func (.func 119) #[] #[.pointer (some ⟨w.heap.size, 0, none⟩), .pointer (some ⟨w.heap.size + 1 + 1, 0, none⟩), .pointer (some ⟨w.heap.size + 1, 0, none⟩)]) ∧
      w' = ((w.alloc (Obj.cells #[p] 25)).alloc (Obj.cells #[.int .i64 first] 2)).alloc (Obj.cells #[.int .i64 exit] 2) := by
  obtain ⟨_, _, a, c, rfl, _, _⟩ := hp
  go_enter Try.func111, Try.ntmps111
  go_wp2
  go_ret
  exact ⟨by simp, rfl⟩
theorem place_world (w : World) (p : Value) (first exit : Int) {W : World} (hW : W = ((w.alloc (Obj.cells #[p] 25)).alloc (Obj.cells #[.int .i64 first] 2)).alloc (Obj.cells #[.int .i64 exit] 2)) :
    Cels W w.heap.size 25 [p] ∧ Cels W (w.heap.size + 1) 2 [.int .i64 first] ∧ Cels W (w.heap.size + 1 + 1) 2 [.int .i64 exit] ∧ Below w.heap.size w W := by
  subst hW
  have h1 := Cels.new (w.alloc (Obj.cells #[p] 25)) 2 [.int .i64 first]
  have h2 := Cels.new ((w.alloc (Obj.cells #[p] 25)).alloc (Obj.cells #[.int .i64 first] 2)) 2 [.int .i64 exit]
  simp only [World.size_alloc] at h1 h2
  exact ⟨((Cels.new w _ [p]).alloc _).alloc _, h1.alloc _, h2, (((Below.refl w.heap.size w).alloc (Nat.le_refl _) _).alloc (by simp) _).alloc (by simp; omega) _⟩
theorem implPlc (t first exit : Int) (gp ge gf : Nat) (a : Option Addr) (n c : Nat) (w : World) (kp : w.cell? ⟨gp, 0, none⟩ = some (.slice a n c)) (ke : w.cell? ⟨ge, 0, none⟩ = some (.int .i64 exit)) (kf : w.cell? ⟨gf, 0, none⟩ = some (.int .i64 first))
    (h0 : 0 ≤ t) (h1 : t ≤ 1000) (h2 : 0 ≤ first) (h3 : first ≤ 1000) (hn : n ≤ 16777216) :
    Calls Try.prog 119 #[.int .i64 t, .pointer (some ⟨gp, 0, none⟩), .pointer (some ⟨ge, 0, none⟩), .pointer (some ⟨gf, 0, none⟩)] w fun e w' => e = .returned (.int .i64 (mvT n first exit t)) ∧ w = w' := by
  have e1 : IntKind.i64.wrap (first + t) = first + t := by rw [IntKind.wrap_i64]; omega
  by_cases h : t = (n : Int)
  · have hb : ((t : Int) == (n : Int)) = true := by simp [h]
    have e := Lib.hid (show mvT n first exit t = exit by simp [mvT, h])
    clear h
    go_enter Try.func119, Try.ntmps119
    go_wp2
    go_ret
    exact ⟨by rw [e.out]; rfl, rfl⟩
  · have hb : ((t : Int) == (n : Int)) = false := by simp [h]
    have e := Lib.hid (show mvT n first exit t = first + t by simp [mvT, h]; omega)
    clear h
    go_enter Try.func119, Try.ntmps119
    go_wp2
    go_ret
    exact ⟨by rw [e.out]; rfl, rfl⟩
set_option maxHeartbeats 2000000 in
theorem implGoing (x y z u first exit : Int) (gp ge gf : Nat) (a : Option Addr) (n c : Nat) (w : World) (kp : w.cell? ⟨gp, 0, none⟩ = some (.slice a n c)) (ke : w.cell? ⟨ge, 0, none⟩ = some (.int .i64 exit)) (kf : w.cell? ⟨gf, 0, none⟩ = some (.int .i64 first))
    (hok : InsOk n ⟨x, y, z, u⟩) (hn : n ≤ 400) (h2 : 0 ≤ first) (h3 : first ≤ 1000) :
    Calls Try.prog 82 #[.agg #[.int .i64 x, .int .i64 y, .int .i64 z, .int .i64 u], .func (.func 119) #[] #[.pointer (some ⟨gp, 0, none⟩), .pointer (some ⟨ge, 0, none⟩), .pointer (some ⟨gf, 0, none⟩)]] w fun e w' =>
      e = .returned (shI n first exit ⟨x, y, z, u⟩).agg ∧ Below w.heap.size w w' := by
  obtain ⟨_, ⟨z0, z1⟩, hk⟩ := hok
  dsimp only at z0 z1 hk
  have HC : Hid (∀ W, Below w.heap.size w W → W.cell? ⟨gp, 0, none⟩ = some (.slice a n c) ∧ W.cell? ⟨ge, 0, none⟩ = some (.int .i64 exit) ∧ W.cell? ⟨gf, 0, none⟩ = some (.int .i64 first)) := Lib.hid (fun W hW =>
    ⟨(hW.cell (p := ⟨gp, 0, none⟩) (World.block_lt_of_cell? w _ kp)).trans kp, (hW.cell (p := ⟨ge, 0, none⟩) (World.block_lt_of_cell? w _ ke)).trans ke, (hW.cell (p := ⟨gf, 0, none⟩) (World.block_lt_of_cell? w _ kf)).trans kf⟩)
  have HB : ∀ o o' : Obj, Hid (Below w.heap.size w ((w.alloc o).alloc o')) := fun o o' => Lib.hid (((Below.refl w.heap.size w).alloc (Nat.le_refl _) _).alloc (by simp) _)
  obtain ⟨m, hm⟩ : ∃ m, m = mvT n first exit z := ⟨_, rfl⟩
  have HM := Lib.hid hm
  clear kp ke kf hm
  rcases hk with ⟨rfl, rfl⟩ | ⟨rfl, u0, u1⟩
  · have k1 : ((0 : Int) == 1) = false := rfl
    go_enter Try.func82, Try.ntmps82
    go_wp2_with fail
    refine (implPlc z first exit gp ge gf a n c _ (HC.out _ (HB _ _).out).1 (HC.out _ (HB _ _).out).2.1 (HC.out _ (HB _ _).out).2.2 z0 (by omega) h2 h3 (by omega)).mono ?_
    rintro e w1 ⟨rfl, rfl⟩
    rw [← HM.out]
    go_wp2
    refine bodyPost_ret (v := .agg #[.int .i64 0, .int .i64 y, .int .i64 m, .int .i64 0]) (by simp [results, Try.f82, go_sem]) rfl ⟨by rw [HM.out]; rfl, ?_⟩
    exact (((Below.refl w.heap.size w).alloc (Nat.le_refl _) _).alloc (by simp) _)
  · have k1 : ((1 : Int) == 1) = true := rfl
    obtain ⟨q, hq⟩ : ∃ q, q = mvT n first exit u := ⟨_, rfl⟩
    have HQ := Lib.hid hq
    clear hq
    go_enter Try.func82, Try.ntmps82
    go_wp2_with fail
    refine (implPlc z first exit gp ge gf a n c _ (HC.out _ (HB _ _).out).1 (HC.out _ (HB _ _).out).2.1 (HC.out _ (HB _ _).out).2.2 z0 (by omega) h2 h3 (by omega)).mono ?_
    rintro e w1 ⟨rfl, rfl⟩
    rw [← HM.out]
    go_wp2_with fail
    refine (implPlc u first exit gp ge gf a n c _ (HC.out _ (HB _ _).out).1 (HC.out _ (HB _ _).out).2.1 (HC.out _ (HB _ _).out).2.2 u0 (by omega) h2 h3 (by omega)).mono ?_
    rintro e w1 ⟨rfl, rfl⟩
    rw [← HQ.out]
    go_wp2
    refine bodyPost_ret (v := .agg #[.int .i64 1, .int .i64 y, .int .i64 m, .int .i64 q]) (by simp [results, Try.f82, go_sem]) rfl ⟨by rw [HM.out, HQ.out]; rfl, ?_⟩
    exact (((Below.refl w.heap.size w).alloc (Nat.le_refl _) _).alloc (by simp) _)
theorem implLen (g : Nat) (a : Option Addr) (n c : Nat) (w : World) (k : w.cell? ⟨g, 0, none⟩ = some (.slice a n c)) (hn : n ≤ 16777216) :
    Calls Try.prog 112 #[.pointer (some ⟨g, 0, none⟩)] w fun e w' => e = .returned (.int .i64 n) ∧ w = w' := by
  go_enter Try.func112, Try.ntmps112
  go_wp2
  go_ret
  exact ⟨rfl, rfl⟩
end Go.Proofs.Ytfcakadmiflcdaa.Ints
