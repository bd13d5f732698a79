/- addTimes for numbers of times up to a square of the base. -/
import Derived.Test.YtcpipakpkmfhlaaTimes
import Derived.Test.YtcpipakpkmfhlaaMulV
namespace Go.Proofs.Ytcpipakpkmfhlaa.Ints
open Go.RowKit
set_option linter.unusedVariables false

/-- What holds behind k limbs. -/
structure TIw (Z T : List Int) (t : Int) (o n k : Nat) (c : Int) (Y : List Int) : Prop where
  len : Y.length = Z.length
  out : ∀ j, j < o ∨ o + k ≤ j → Y.getD j 0 = Z.getD j 0
  dig : ∀ j, j < k → 0 ≤ Y.getD (o + j) 0 ∧ Y.getD (o + j) 0 < 1000000
  c0 : -1000000000001 ≤ c
  c1 : c ≤ 1000000000001
  sum : sg Y o k + Pw k * c = sg Z o k + t * sg T 0 k
theorem TIw.start (Z T : List Int) (t : Int) (o n : Nat) : TIw Z T t o n 0 0 Z :=
  ⟨rfl, fun j _ => rfl, fun j hj => by omega, by omega, by omega, by simp [sg]⟩
theorem mul_bdw (t y : Int) (t0 : -1000000000000 ≤ t) (t1 : t ≤ 1000000000000) (y0 : 0 ≤ y) (y1 : y ≤ 999999) : -999999000000000000 ≤ t * y ∧ t * y ≤ 999999000000000000 := by
  have a : t * y ≤ 1000000000000 * y := Int.mul_le_mul_of_nonneg_right t1 y0
  have b : -1000000000000 * y ≤ t * y := Int.mul_le_mul_of_nonneg_right t0 y0
  omega
theorem TIw.step {Z T : List Int} {t : Int} {o n k : Nat} {c : Int} {Y : List Int} (h : TIw Z T t o n k c Y) (hk : k < n) (hn : o + n ≤ Z.length)
    (hZ : ∀ j, j < n → 0 ≤ Z.getD (o + j) 0 ∧ Z.getD (o + j) 0 < 1000000) (hT : Dig 1000000 T) (t0 : -1000000000000 ≤ t) (t1 : t ≤ 1000000000000)
    (s : Int) (hs : s = Z.getD (o + k) 0 + c + t * T.getD k 0) : TIw Z T t o n (k + 1) (s / 1000000) (Y.set (o + k) (s % 1000000)) := by
  have hz := hZ k hk
  have hy : 0 ≤ T.getD k 0 ∧ T.getD k 0 ≤ 999999 := by
    by_cases hkt : k < T.length
    · have := hT k hkt; omega
    · rw [List.getD_eq_getElem?_getD, List.getElem?_eq_none (by omega)]; simp
  have hp := mul_bdw t (T.getD k 0) t0 t1 hy.1 hy.2
  have c0 := h.c0
  have c1 := h.c1
  have hlt : o + k < Y.length := by rw [h.len]; omega
  refine ⟨by rw [List.length_set, h.len], fun j hj => ?_, fun j hj => ?_, by omega, by omega, ?_⟩
  · rw [getD_set _ _ _ _ hlt, if_neg (by omega)]
    exact h.out j (by omega)
  · rw [getD_set _ _ _ _ hlt]
    by_cases e : o + k = o + j
    · rw [if_pos e]; omega
    · rw [if_neg e]; exact h.dig j (by omega)
  · rw [sg, sg_same (Y := Y.set (o + k) (s % 1000000)) (Z := Y) (fun j hj => by rw [getD_set _ _ _ _ hlt, if_neg (by omega)]), getD_set _ _ _ _ hlt, if_pos rfl, Pw,
      carry_step (sg Y o k) (sg Y o k) (Pw k) s rfl, hs, sg, sg, Nat.zero_add, Int.mul_add, Int.mul_add, Int.mul_add, Int.mul_left_comm t (Pw k)]
    have := h.sum
    omega
theorem TIw.zero {Z T : List Int} {t : Int} {o n k : Nat} {Y : List Int} (h : TIw Z T t o n k 0 Y) (hk : k ≤ n) (hT : T.length ≤ k)
    (hZ : ∀ j, j < n → 0 ≤ Z.getD (o + j) 0 ∧ Z.getD (o + j) 0 < 1000000) : TIw Z T t o n n 0 Y := by
  have hsum : ∀ m, k + m ≤ n → sg Y o (k + m) + Pw (k + m) * 0 = sg Z o (k + m) + t * sg T 0 (k + m) := by
    intro m hm
    induction m with
    | zero => exact h.sum
    | succ m ih =>
      have i := ih (by omega)
      rw [show k + (m + 1) = k + m + 1 by omega, sg, sg, sg, h.out (o + (k + m)) (by omega), Nat.zero_add, List.getD_eq_getElem?_getD (l := T), List.getElem?_eq_none (by omega)]
      simp only [Option.getD_none, Int.mul_zero, Int.add_zero] at i ⊢
      omega
  refine ⟨h.len, fun j hj => h.out j (by omega), fun j hj => ?_, by omega, by omega, ?_⟩
  · by_cases hjk : j < k
    · exact h.dig j hjk
    · rw [h.out (o + j) (by omega)]; exact hZ j hj
  · have := hsum (n - k) (by omega)
    rwa [show k + (n - k) = n by omega] at this
theorem tnegw (s : Int) (h : s < 0) (hb : -2000000000000000000 ≤ s) : -1000000 < s.tmod 1000000 ∧ s.tmod 1000000 ≤ 0 ∧ -3000000000000 ≤ s.tdiv 1000000 ∧ s.tdiv 1000000 ≤ 0 ∧
    (s.tmod 1000000 < 0 → s % 1000000 = s.tmod 1000000 + 1000000 ∧ s / 1000000 = s.tdiv 1000000 - 1) ∧ (¬ s.tmod 1000000 < 0 → s % 1000000 = s.tmod 1000000 ∧ s / 1000000 = s.tdiv 1000000) := by
  obtain ⟨m, rfl⟩ : ∃ m : Int, s = -m := ⟨-s, by omega⟩
  rw [Int.neg_tmod, Int.neg_tdiv, Int.tmod_eq_emod_of_nonneg (by omega), Int.tdiv_eq_ediv_of_nonneg (by omega)]
  omega

def TPostw (Z T : List Int) (t : Int) (o n g K : Nat) (w : World) (e : Ending) (w' : World) : Prop :=
  ∃ (c : Int) (Y : List Int), e = .returned (.int .i64 c) ∧ TIw Z T t o n n c Y ∧ Blk w' g K Y ∧ w.grownBy w' (some g)
set_option maxHeartbeats 4000000 in
theorem addTimesW (g K o n cp : Nat) (v : Value) (Z T : List Int) (t : Int) (w : World) (hB : Blk w g K Z) (hv : Rd w v T) (hne : T ≠ [] → ∀ a l c, v = .slice (some a) l c → a.block ≠ g)
    (hn : o + n ≤ Z.length) (hn2 : n ≤ 100000) (hZ : ∀ j, j < n → 0 ≤ Z.getD (o + j) 0 ∧ Z.getD (o + j) 0 < 1000000) (hT : Dig 1000000 T) (hTn : T.length ≤ n) (t0 : -1000000000000 ≤ t) (t1 : t ≤ 1000000000000) :
    Calls Try.prog 61 #[.slice (some ⟨g, o, none⟩) n cp, v, .int .i64 t] w (TPostw Z T t o n g K w) := by
  obtain ⟨hl, hf, a, cc, rfl, hcap, hr⟩ := hv
  have HN : Hid (T ≠ [] → ∀ (b p : Nat), a = some ⟨b, p, none⟩ → b ≠ g) := Lib.hid (fun h b p e => by subst e; exact hne h _ _ _ rfl)
  have HZ := Lib.hid hZ
  have HT := Lib.hid hT
  have HR := Lib.hid hr
  have HB := Lib.hid hB
  clear hne hZ hT hr hB
  go_enter Try.func61, Try.ntmps61
  go_wp2
  go_loopw [7, 12] (fun q s wr => ∃ (k : Nat) (c : Int) (Y : List Int), k ≤ n ∧ s = .int .i64 k ∧ q = .int .i64 c ∧ TIw Z T t o n k c Y ∧ Blk wr g K Y ∧ w.grownBy wr (some g)) (fun _ s _ => n - (intOf s).toNat)
  case atStart => exact ⟨0, 0, Z, Nat.zero_le _, rfl, rfl, TIw.start Z T t o n, HB.out, World.grownBy.refl _ _⟩
  case round =>
    obtain ⟨k, c, Y, hk, rfl, rfl, hti, hblk, hgr⟩ := hrel
    have c0 := hti.c0
    have c1 := hti.c1
    have HI := Lib.hid hti
    have HK := Lib.hid hblk
    have HG := Lib.hid hgr
    by_cases hkn : k < n
    · have hlt : o + k < Y.length := by rw [hti.len]; omega
      obtain ⟨z, hz⟩ : ∃ z, z = Z.getD (o + k) 0 := ⟨_, rfl⟩
      have hzb := HZ.out k hkn
      rw [← hz] at hzb
      obtain ⟨z0, z1⟩ := hzb
      have hc : wr.cell? ⟨g, o + k, none⟩ = some (.int .i64 z) := by rw [hblk.cell _ hlt, hti.out (o + k) (by omega), hz]
      have hfz := hblk.frozen (o + k)
      have hnext := fun s hs => hti.step hkn hn HZ.out HT.out t0 t1 s hs
      rw [← hz] at hnext
      have HX := Lib.hid hnext
      have HS : Hid (∀ x, Blk (wr.setCell ⟨g, o + k, none⟩ (.int .i64 x)) g K (Y.set (o + k) x) ∧ w.grownBy (wr.setCell ⟨g, o + k, none⟩ (.int .i64 x)) (some g)) :=
        Lib.hid (fun x => ⟨(hblk.set _ hlt x).1, grown_trans hgr (hblk.set _ hlt x).2⟩)
      have HS2 : Hid (∀ x y, Blk ((wr.setCell ⟨g, o + k, none⟩ (.int .i64 x)).setCell ⟨g, o + k, none⟩ (.int .i64 y)) g K (Y.set (o + k) y) ∧ w.grownBy ((wr.setCell ⟨g, o + k, none⟩ (.int .i64 x)).setCell ⟨g, o + k, none⟩ (.int .i64 y)) (some g)) :=
        Lib.hid (fun x y => by
          obtain ⟨b1, g1⟩ := hblk.set _ hlt x
          obtain ⟨b2, g2⟩ := b1.set (o + k) (by rw [List.length_set]; exact hlt) y
          rw [List.set_set] at b2
          exact ⟨b2, grown_trans (grown_trans hgr g1) g2⟩)
      clear hz hti hblk hgr hnext hlt
      by_cases hkt : k < T.length
      · obtain ⟨b, p, rfl, hb, hcell⟩ := HR.out (by intro h0; rw [h0] at hkt; simp at hkt)
        obtain ⟨y, hy⟩ : ∃ y, y = T.getD k 0 := ⟨_, rfl⟩
        have hc2 : wr.cell? ⟨b, p + k, none⟩ = some (.int .i64 y) := by rw [hy]; exact HG.out.cell (hcell k hkt) (by intro e; exact HN.out (by intro h0; rw [h0] at hkt; simp at hkt) b p rfl (by simpa using e))
        have hyb := HT.out k hkt
        rw [← hy] at hyb
        obtain ⟨m0, m1⟩ := mul_bdw t y t0 t1 hyb.1 (by omega)
        obtain ⟨y0, y1⟩ := hyb
        rw [← hy] at HX
        have ia : (k : Int) < (T.length : Int) := by omega
        have ib : ¬ (T.length : Int) ≤ (k : Int) := by omega
        clear hy hcell
        by_cases hneg : z + c + t * y < 0
        · obtain ⟨r0, r1, q0, q1, hr1, hr2⟩ := tnegw (z + c + t * y) hneg (by omega)
          have HR1 := Lib.hid hr1
          have HR2 := Lib.hid hr2
          have HXX := Lib.hid (HX.out (z + c + t * y) rfl)
          clear hr1 hr2
          by_cases hm : (z + c + t * y).tmod 1000000 < 0
          · have HM := Lib.hid (HR1.out hm)
            go_wp2
            go_roundw
            case rel => exact ⟨k + 1, (z + c + t * y) / 1000000, Y.set (o + k) ((z + c + t * y) % 1000000), by omega, by go_num, by rw [HM.out.2], HXX.out, by rw [HM.out.1]; exact (HS2.out _ _).1, (HS2.out _ _).2⟩
            case measure => simp [intOf]; omega
          · have HM := Lib.hid (HR2.out hm)
            go_wp2
            go_roundw
            case rel => exact ⟨k + 1, (z + c + t * y) / 1000000, Y.set (o + k) ((z + c + t * y) % 1000000), by omega, by go_num, by rw [HM.out.2], HXX.out, by rw [HM.out.1]; exact (HS.out _).1, (HS.out _).2⟩
            case measure => simp [intOf]; omega
        · have HXX := Lib.hid (HX.out (z + c + t * y) rfl)
          go_wp2
          go_roundw
          case rel => exact ⟨k + 1, (z + c + t * y) / 1000000, Y.set (o + k) ((z + c + t * y) % 1000000), by omega, by go_num, rfl, HXX.out, (HS.out _).1, (HS.out _).2⟩
          case measure => simp [intOf]; omega
      · have ia : ¬ (k : Int) < (T.length : Int) := by omega
        have ib : (T.length : Int) ≤ (k : Int) := by omega
        have HE : Hid (T.getD k 0 = 0) := Lib.hid (by rw [List.getD_eq_getElem?_getD, List.getElem?_eq_none (by omega)]; rfl)
        by_cases hc0 : c = 0
        · subst hc0
          have HF := Lib.hid (HI.out.zero hk (by omega) HZ.out)
          go_wp2
          go_ret
          exact ⟨0, Y, rfl, HF.out, HK.out, HG.out⟩
        · have hcb : (c == 0) = false := by simp [hc0]
          have HX0 : Hid (z + c = z + c + t * T.getD k 0) := Lib.hid (by rw [HE.out]; simp)
          clear hc0
          by_cases hneg : z + c < 0
          · obtain ⟨r0, r1, q0, q1, hr1, hr2⟩ := tnegw (z + c) hneg (by omega)
            have HR1 := Lib.hid hr1
            have HR2 := Lib.hid hr2
            have HXX := Lib.hid (HX.out (z + c) HX0.out)
            clear hr1 hr2
            by_cases hm : (z + c).tmod 1000000 < 0
            · have HM := Lib.hid (HR1.out hm)
              go_wp2
              go_roundw
              case rel => exact ⟨k + 1, (z + c) / 1000000, Y.set (o + k) ((z + c) % 1000000), by omega, by go_num, by rw [HM.out.2], HXX.out, by rw [HM.out.1]; exact (HS2.out _ _).1, (HS2.out _ _).2⟩
              case measure => simp [intOf]; omega
            · have HM := Lib.hid (HR2.out hm)
              go_wp2
              go_roundw
              case rel => exact ⟨k + 1, (z + c) / 1000000, Y.set (o + k) ((z + c) % 1000000), by omega, by go_num, by rw [HM.out.2], HXX.out, by rw [HM.out.1]; exact (HS.out _).1, (HS.out _).2⟩
              case measure => simp [intOf]; omega
          · have HXX := Lib.hid (HX.out (z + c) HX0.out)
            go_wp2
            go_roundw
            case rel => exact ⟨k + 1, (z + c) / 1000000, Y.set (o + k) ((z + c) % 1000000), by omega, by go_num, rfl, HXX.out, (HS.out _).1, (HS.out _).2⟩
            case measure => simp [intOf]; omega
    · obtain rfl : k = n := by omega
      clear hti hblk hgr
      go_wp2
      go_ret
      exact ⟨c, Y, rfl, HI.out, HK.out, HG.out⟩
end Go.Proofs.Ytcpipakpkmfhlaa.Ints
