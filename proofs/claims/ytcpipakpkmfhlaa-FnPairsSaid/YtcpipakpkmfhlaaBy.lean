/- The contract of the model's division by a small number. -/
import Derived.Test.YtcpipakpkmfhlaaByV
import Derived.Test.YtcpipakpkmfhlaaMul
namespace Go.Proofs.Ytcpipakpkmfhlaa.Ints
open Go.RowKit
set_option linter.unusedVariables false

set_option maxHeartbeats 4000000 in
theorem specBy (u : Value) (ps : List Int) (d : Int) (w : World) (hu : Rd w u ps) (hp : Dig 1000000 ps) (hl0 : ps.length ≤ 1000) (d0 : 1 ≤ d) (d1 : d ≤ 1000000) :
    Calls Try.prog 50 #[u, .int .i64 d] w fun e w' => ∃ r, e = .returned (.tuple #[r, .int .i64 (val ps % d)]) ∧ Ow w' w.heap.size w'.heap.size r (canOf (val ps / d)) ∧ Below w.heap.size w w' := by
  obtain ⟨hl, hf, a, c, rfl, hcap, hr⟩ := hu
  have HP := Lib.hid hp
  have HR := Lib.hid hr
  clear hp hr
  obtain ⟨i0, hi, hz0, hz1, hz2⟩ := info_parts infoE
  go_enter Try.func50, Try.ntmps50
  go_wp2_with (at_make; refine wpList_make_full _ rfl _ _ 24 rfl w.heap.size 2 i0 (.int .i64 0) 1 Try.underlying24 hi hz0 hz1 _ _ _ _ ps.length rfl rfl rfl rfl ?b2 ?b3 (Nat.le_refl _) ?_)
  case b2 => first | omega | (rw [hz2]; omega)
  case b3 => unfold maxLen; omega
  intro w0 hown0 hgrow0
  have HK0 := Lib.hid (Blk.zeros hown0)
  have HB0 := Lib.hid ((Below.refl w.heap.size w).grown hgrow0 (Nat.le_refl _) (fun k h => by cases h))
  clear hown0 hgrow0
  go_wp2
  go_loopw [7, 8] (fun q s wr => ∃ (m : Nat) (R : Int) (Y : List Int), m ≤ ps.length ∧ s = .int .i64 ((m : Int) - 1) ∧ q = .int .i64 R ∧ DI ps Y d m R ∧ Blk wr w.heap.size ps.length Y ∧ Below w.heap.size w wr) (fun _ s _ => (intOf s + 1).toNat)
  case atStart => exact ⟨ps.length, 0, _, Nat.le_refl _, rfl, rfl, DI.start ps d, HK0.out, HB0.out⟩
  case round =>
    obtain ⟨m, R, Y, hm, hs, rfl, hdi, hblk, hbel⟩ := hrel
    cases m with
    | zero =>
      obtain rfl := hs
      have HD := Lib.hid hdi.done
      have HY : Hid (Ow wr w.heap.size wr.heap.size (.slice (some ⟨w.heap.size, 0, none⟩) ps.length ps.length) Y) := Lib.hid (by
        have h1 := hblk.ow (Nat.le_refl w.heap.size) (by unfold maxLen; omega) (by rw [hdi.len]; omega) hdi.done.2.2.2.fit
        rwa [hdi.len] at h1)
      have HB := Lib.hid hbel
      clear hdi hblk hbel
      go_wp2_with fail
      refine (specTrim _ Y w.heap.size wr.heap.size _ HY.out).mono ?_
      rintro e w3 ⟨u, rfl, ho, rfl⟩
      have HO := Lib.hid ho
      clear ho
      go_wp2
      go_ret2
      exact ⟨_, by rw [← HD.out.2.1] <;> rfl, by rw [HD.out.1]; exact HO.out, HB.out⟩
    | succ m =>
      rw [show (((m + 1 : Nat) : Int) - 1) = (m : Int) by omega] at hs
      obtain rfl := hs
      obtain ⟨b, o, rfl, hb, hcell⟩ := HR.out (by intro h0; rw [h0] at hm; simp at hm)
      obtain ⟨x, hx⟩ : ∃ x, x = ps.getD m 0 := ⟨_, rfl⟩
      have hc : wr.cell? ⟨b, o + m, none⟩ = some (.int .i64 x) := by rw [hx]; exact (hbel.cell hb).trans (hcell m (by omega))
      have hst := hdi.step (by omega) HP.out d0 d1 (R * 1000000 + x) (by rw [hx])
      obtain ⟨hdi2, s0, s1, q0, q1⟩ := hst
      obtain ⟨r0, r1⟩ := hdi.rb d0
      have x0 := (HP.out m (by omega)).1
      have x1 := (HP.out m (by omega)).2
      rw [← hx] at x0 x1
      have hlt2 : m < Y.length := by rw [hdi.len]; omega
      have hc2 : wr.cell? ⟨w.heap.size, m, none⟩ = some (.int .i64 (Y.getD m 0)) := hblk.cell m hlt2
      obtain ⟨y, hy⟩ : ∃ y, y = Y.getD m 0 := ⟨_, rfl⟩
      rw [← hy] at hc2
      have hfz := hblk.frozen m
      have HDI := Lib.hid hdi2
      have HS : Hid (∀ x, Blk (wr.setCell ⟨w.heap.size, m, none⟩ (.int .i64 x)) w.heap.size ps.length (Y.set m x) ∧ Below w.heap.size w (wr.setCell ⟨w.heap.size, m, none⟩ (.int .i64 x))) := Lib.hid (fun x =>
        ⟨(hblk.set _ hlt2 x).1, hbel.setCell (p := ⟨w.heap.size, m, none⟩) (Nat.le_refl _) _⟩)
      have i0' : (0 : Int) ≤ (m : Int) := by omega
      have i1 : (m : Int) < (ps.length : Int) := by omega
      have dz : (d == 0) = false := by simp; omega
      clear hx hdi hdi2 hblk hbel hlt2 hcell hy
      go_wp2
      go_roundw
      case rel => exact ⟨m, (R * 1000000 + x) % d, Y.set m ((R * 1000000 + x) / d), by omega, rfl, by first | rfl | go_num, HDI.out, (HS.out _).1, (HS.out _).2⟩
      case measure => simp [intOf]
end Go.Proofs.Ytcpipakpkmfhlaa.Ints
