/- The contract of the model's product of limbs. -/
import Derived.Test.YtcpipakpkmfhlaaMul
namespace Go.Proofs.Ytcpipakpkmfhlaa.Ints
open Go.RowKit
set_option linter.unusedVariables false

theorem mulArg (t y c z : Int) (t0 : 0 ≤ t) (t1 : t < 1000000) (y0 : 0 ≤ y) (y1 : y < 1000000) : 0 ≤ t * y ∧ t * y ≤ 999999000000 := by
  have := Int.mul_nonneg t0 y0
  have := (mul_bd t y (by omega) (by omega) y0 (by omega)).2
  omega
set_option maxHeartbeats 4000000 in
theorem specMul (u v : Value) (ps qs : List Int) (w : World) (hu : Rd w u ps) (hv : Rd w v qs) (hp : Can ps) (hq : Can qs) (hla : ps.length ≤ 1000) (hlb : qs.length ≤ 1000) :
    Calls Try.prog 49 #[u, v] w fun e w' => ∃ r, e = .returned r ∧ Ow w' w.heap.size w'.heap.size r (canOf (val ps * val qs)) ∧ Below w.heap.size w w' := by
  obtain ⟨hl, hf, a, c, rfl, hcap, hr⟩ := hu
  obtain ⟨hl', hf', a', c', rfl, hcap', hr'⟩ := hv
  obtain ⟨N, n1, n2⟩ : ∃ N, N ≤ ps.length + qs.length + 1 ∧ ps.length + qs.length + 1 ≤ N := ⟨_, Nat.le_refl _, Nat.le_refl _⟩
  have HP := Lib.hid hp
  have HQ := Lib.hid hq
  have HR := Lib.hid hr
  have HR' := Lib.hid hr'
  clear hp hq hr hr'
  obtain ⟨i0, hi, hz0, hz1, hz2⟩ := info_parts infoE
  go_enter Try.func49, Try.ntmps49
  go_wp2_with (at_make; refine wpList_make_full _ rfl _ _ 24 rfl w.heap.size 2 i0 (.int .i64 0) 1 Try.underlying24 hi hz0 hz1 _ _ _ _ N rfl rfl ?hL ?hC ?b2 ?b3 (Nat.le_refl _) ?_)
  case hL => omega
  case hC => omega
  case b2 => first | omega | (rw [hz2]; omega)
  case b3 => unfold maxLen; omega
  intro w0 hown0 hgrow0
  have HK0 := Lib.hid (Blk.zeros hown0)
  have HB0 := Lib.hid ((Below.refl w.heap.size w).grown hgrow0 (Nat.le_refl _) (fun k h => by cases h))
  clear hown0 hgrow0
  go_wp2
  go_loopw [6] (fun s wr => ∃ (i : Nat) (Z : List Int), i ≤ ps.length ∧ s = .int .i64 i ∧ MI ps qs Z N i ∧ Blk wr w.heap.size N Z ∧ Below w.heap.size w wr) (fun s _ => ps.length - (intOf s).toNat)
  case atStart => exact ⟨0, _, Nat.zero_le _, rfl, MI.start ps qs N, HK0.out, HB0.out⟩
  case round =>
    obtain ⟨i, Z, hik, rfl, hmi, hblk, hbel⟩ := hrel
    by_cases hlt : i < ps.length
    · obtain ⟨b, o, rfl, hb, hcell⟩ := HR.out (by intro h0; rw [h0] at hlt; simp at hlt)
      obtain ⟨t, ht⟩ : ∃ t, t = ps.getD i 0 := ⟨_, rfl⟩
      have HC : Hid (∀ W, Below w.heap.size w W → W.cell? ⟨b, o + i, none⟩ = some (.int .i64 t)) := Lib.hid (fun W hW => by rw [ht]; exact (hW.cell hb).trans (hcell i hlt))
      have htb := HP.out.1 i hlt
      rw [← ht] at htb
      obtain ⟨t0, t1⟩ := htb
      have HM : Hid (∀ c Y, TI Z qs t i (N - i) (N - i) c Y → c = 0 ∧ MI ps qs Y N (i + 1)) := Lib.hid (fun c Y h => hmi.row hlt (by omega) HP.out.1 HQ.out.1 (by rw [← ht]; exact h))
      have HIn : Hid (∀ k c Y, TI Z qs t i (N - i) k c Y → k ≤ N - i → qs.length + 1 ≤ k → 0 ≤ c → c = 0) := Lib.hid (fun k c Y h hk hk1 c0 => hmi.inner hlt (by omega) HP.out.1 HQ.out.1 (by rw [← ht]; exact h) hk hk1 c0)
      have HMI := Lib.hid hmi
      have HK := Lib.hid hblk
      have HB := Lib.hid hbel
      have hsz := hbel.size
      have hN1 : i + (qs.length + 1) ≤ N - 0 := by omega
      clear ht hblk hbel hmi hcell
      go_wp2
      go_loopw [7, 8] (fun q s wx => ∃ (k : Nat) (c : Int) (Y : List Int), k ≤ qs.length + 1 ∧ s = .int .i64 k ∧ q = .int .i64 c ∧ 0 ≤ c ∧ TI Z qs t i (N - i) k c Y ∧ Blk wx w.heap.size N Y ∧ Below w.heap.size w wx) (fun _ s _ => qs.length + 2 - (intOf s).toNat)
      case atStart => exact ⟨0, 0, Z, Nat.zero_le _, rfl, rfl, Int.le_refl _, TI.start Z qs t i (N - i), HK.out, HB.out⟩
      case round =>
        obtain ⟨k, cy, Y, hk, rfl, rfl, c0, hti, hblk, hbel⟩ := hrel
        have c1 := hti.c1
        have hkN : k ≤ N - i := by omega
        have HT := Lib.hid hti
        have HK2 := Lib.hid hblk
        have HB2 := Lib.hid hbel
        by_cases hgo : k < qs.length ∨ 0 < cy
        · have hkl : k ≤ qs.length := by
            rcases Nat.lt_or_ge qs.length k with h | h
            · have := HIn.out k cy Y hti hkN (by omega) c0
              omega
            · exact h
          have hlt2 : i + k < Y.length := by rw [hti.len, HMI.out.len]; omega
          obtain ⟨z, hz⟩ : ∃ z, z = Z.getD (i + k) 0 := ⟨_, rfl⟩
          have hzb := dig_all HMI.out.dig (i + k)
          rw [← hz] at hzb
          obtain ⟨z0, z1⟩ := hzb
          have hc : wr.cell? ⟨w.heap.size, i + k, none⟩ = some (.int .i64 z) := by rw [hblk.cell _ hlt2, hti.out (i + k) (by omega), hz]
          have hfz := hblk.frozen (i + k)
          have HX : Hid (∀ s, s = z + cy + t * qs.getD k 0 → TI Z qs t i (N - i) (k + 1) (s / 1000000) (Y.set (i + k) (s % 1000000))) := Lib.hid (fun s hs =>
            hti.step (by omega) (by rw [HMI.out.len]; omega) (fun j _ => dig_all HMI.out.dig _) HQ.out.1 (by omega) (by omega) s (by rw [hs, hz]))
          have HS : Hid (∀ n x, Blk ((wr.drewN n).setCell ⟨w.heap.size, i + k, none⟩ (.int .i64 x)) w.heap.size N (Y.set (i + k) x) ∧ Below w.heap.size w ((wr.drewN n).setCell ⟨w.heap.size, i + k, none⟩ (.int .i64 x))) := Lib.hid (fun n x =>
            ⟨((hblk.drewN n).set _ hlt2 x).1, (below_drewN hbel n).setCell (p := ⟨w.heap.size, i + k, none⟩) (Nat.le_refl _) _⟩)
          have hct := HC.out _ hbel
          have j0 : (0 : Int) ≤ (i : Int) + (k : Int) := by omega
          have j1 : (i : Int) + (k : Int) < (N : Int) := by omega
          have j2 : ((i : Int) + (k : Int)).toNat = i + k := by omega
          have HGO := Lib.hid hgo
          clear hz hti hblk hbel hlt2 hgo
          by_cases hkt : k < qs.length
          · obtain ⟨b2, o2, rfl, hb2, hcell2⟩ := HR'.out (by intro h0; rw [h0] at hkt; simp at hkt)
            obtain ⟨y, hy⟩ : ∃ y, y = qs.getD k 0 := ⟨_, rfl⟩
            have hc2 : wr.cell? ⟨b2, o2 + k, none⟩ = some (.int .i64 y) := by rw [hy]; exact (HB2.out.cell hb2).trans (hcell2 k hkt)
            have hyb := HQ.out.1 k hkt
            rw [← hy] at hyb
            obtain ⟨y0, y1⟩ := hyb
            obtain ⟨m0, m1⟩ := mulArg t y cy z t0 t1 y0 y1
            have HXX : Hid (TI Z qs t i (N - i) (k + 1) ((z + cy + t * y) / 1000000) (Y.set (i + k) ((z + cy + t * y) % 1000000))) := Lib.hid (HX.out _ (by rw [hy]))
            clear hy hcell2
            have ia : (k : Int) < (qs.length : Int) := by omega
            go_wp2
            go_quiet (fail)
            go_wp2
            go_roundw
            case rel => exact ⟨k + 1, (z + cy + t * y) / 1000000, Y.set (i + k) ((z + cy + t * y) % 1000000), by omega, by go_num, rfl, by omega, HXX.out, (HS.out _ _).1, (HS.out _ _).2⟩
            case measure => simp [intOf]; omega
          · have ia : ¬ (k : Int) < (qs.length : Int) := by omega
            have cp : 0 < cy := by have := HGO.out; omega
            have HXX : Hid (TI Z qs t i (N - i) (k + 1) ((z + cy) / 1000000) (Y.set (i + k) ((z + cy) % 1000000))) := Lib.hid (HX.out _ (by rw [List.getD_eq_getElem?_getD, List.getElem?_eq_none (by omega)]; simp))
            go_wp2
            go_roundw
            case rel => exact ⟨k + 1, (z + cy) / 1000000, Y.set (i + k) ((z + cy) % 1000000), by omega, by go_num, rfl, by omega, HXX.out, (HS.out 0 _).1, (HS.out 0 _).2⟩
            case measure => simp [intOf]; omega
        · have hc0 : cy = 0 := by omega
          subst hc0
          have HF := Lib.hid (HM.out _ _ (HT.out.zero hkN (by omega) (fun j _ => dig_all HMI.out.dig _))).2
          have ia : ¬ (k : Int) < (qs.length : Int) := by omega
          clear hti hblk hbel hgo
          go_wp2
          go_roundw
          case rel => exact ⟨i + 1, Y, by omega, by go_num, HF.out, HK2.out, HB2.out⟩
          case measure => simp [intOf]; omega
    · obtain rfl : i = ps.length := by omega
      have HS := Lib.hid hmi.done
      have HY : Hid (Ow wr w.heap.size wr.heap.size (.slice (some ⟨w.heap.size, 0, none⟩) N N) Z) := Lib.hid (by
        have h1 := hblk.ow (Nat.le_refl w.heap.size) (by unfold maxLen; omega) (by rw [hmi.len]; omega) hmi.dig.fit
        rwa [hmi.len] at h1)
      have HB := Lib.hid hbel
      clear hmi hblk hbel
      go_wp2_with fail
      refine (specTrim _ Z w.heap.size wr.heap.size _ HY.out).mono ?_
      rintro e w3 ⟨u, rfl, ho, rfl⟩
      have HO := Lib.hid ho
      clear ho
      go_wp2
      go_ret
      exact ⟨_, rfl, by rw [HS.out]; exact HO.out, HB.out⟩
end Go.Proofs.Ytcpipakpkmfhlaa.Ints
