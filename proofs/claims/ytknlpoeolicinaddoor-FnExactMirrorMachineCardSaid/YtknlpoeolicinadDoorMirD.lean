/- MirrorMachine: the contract of the program. -/
import Derived.Test.YtknlpoeolicinadDoorMirC
namespace Go.Proofs.YtknlpoeolicinadDoor.Ints
open Go.RowKit
set_option linter.unusedVariables false
set_option linter.unusedSimpArgs false
set_option maxHeartbeats 4000000 in
theorem implMirrorMachine (sy st : Int) (v : Value) (rs : List Ru) (w : World) (hv : RdR w v rs) (hnr : NoR w) :
    Calls Tryd.prog 42 #[.agg #[.int .i64 sy, .int .i64 st, v]] w fun e w' => ∃ u, e = .returned (.tuple #[.agg #[.int .i64 (mmI sy st rs sy), .int .i64 (mmI sy st rs st), u], .int .i64 (mmC sy st rs)]) ∧ OwR w' w.heap.size w'.heap.size u (mmR sy st rs) ∧ Below w.heap.size w w' := by
  have HV := Lib.hid hv
  obtain ⟨hl, hfit, a, c, rfl, _, _⟩ := hv
  have HFT := Lib.hid hfit
  obtain ⟨W0, hW0⟩ : ∃ W, W = (w.alloc (Obj.cells #[.int .i64 sy, .int .i64 st, .slice a rs.length c] 29)).alloc (Obj.cells #[.int .i64 0, .int .i64 0, .slice none 0 0] 29) := ⟨_, rfl⟩
  have HB : Hid (Below w.heap.size w W0) := Lib.hid (by rw [hW0]; exact ((Below.refl w.heap.size w).alloc (Nat.le_refl _) _).alloc (by simp) _)
  have K1 : Hid (Cels W0 w.heap.size 29 [.int .i64 sy, .int .i64 st, .slice a rs.length c]) := Lib.hid (by rw [hW0]; exact (Cels.new _ _ _).alloc _)
  have K2 : Hid (Cels W0 (w.heap.size + 1) 29 [.int .i64 0, .int .i64 0, .slice none 0 0]) := Lib.hid (by rw [hW0]; have h := Cels.new (w.alloc (Obj.cells #[.int .i64 sy, .int .i64 st, .slice a rs.length c] 29)) 29 [.int .i64 0, .int .i64 0, .slice none 0 0]; rw [World.size_alloc] at h; exact h)
  have HSZ : Hid (w.heap.size + 2 = W0.heap.size) := Lib.hid (by rw [hW0]; simp)
  have HN := Lib.hid (hnr.below HB.out (Nat.le_refl _))
  have HW0 := Lib.hid hW0.symm
  obtain ⟨bm, hbm⟩ : ∃ b, b = machB sy st rs := ⟨_, rfl⟩
  have HM := Lib.hid hbm
  clear hbm hW0 hnr hfit
  go_enter Tryd.func42, Tryd.ntmps42
  go_wp2_with fail
  rw [HW0.out]
  refine (implValidMachine sy st _ rs _ (HV.out.below HB.out (Nat.le_refl _)) HN.out).mono ?_
  rintro e w1 ⟨rfl, hb1⟩
  rw [← HM.out]
  have HK := Lib.hid (K1.out.below hb1 K1.out.lt)
  have HK2 := Lib.hid (K2.out.below hb1 K2.out.lt)
  have HB1 := Lib.hid (HB.out.trans (hb1.mono HB.out.size))
  have HSZ1 : Hid (w.heap.size + 2 ≤ w1.heap.size) := Lib.hid (by have := hb1.size; have := HSZ.out; omega)
  clear hb1
  rcases eqOr bm with hb | hb
  · subst hb
    have e := Lib.hid (show mmR sy st rs = [] ∧ mmC sy st rs = 1 ∧ mmI sy st rs sy = 0 ∧ mmI sy st rs st = 0 by simp [mmR, mmC, mmI, ← HM.out])
    have HF3 := Lib.hid (put3 HK2.out (.int .i64 0) (.int .i64 0) (.slice none 0 0))
    obtain ⟨f1, f2, f3, f4, f5, f6, f7⟩ := HF3.out
    go_wp2
    obtain ⟨W, hW⟩ : ∃ W, W = ((w1.setCell ⟨w.heap.size + 1, 0, none⟩ (.int .i64 0)).setCell ⟨w.heap.size + 1, 1, none⟩ (.int .i64 0)).setCell ⟨w.heap.size + 1, 2, none⟩ (.slice none 0 0) := ⟨_, rfl⟩
    have hB : Below w.heap.size w W := by
      rw [hW]
      exact below_set (below_set (below_set HB1.out (by omega) _ _) (by omega) _ _) (by omega) _ _
    rw [← hW] at f7 ⊢
    have z0 := f7.cell 0 rfl
    have z1 := f7.cell 1 rfl
    have z2 := f7.cell 2 rfl
    clear f1 f2 f3 f4 f5 f6 hW
    rw [e.out.1, e.out.2.1, e.out.2.2.1, e.out.2.2.2]
    refine bodyPost_ret (v := .tuple #[.agg #[.int .i64 0, .int .i64 0, .slice none 0 0], .int .i64 1]) (by simp [results, Tryd.f42, go_sem, z0, z1, z2]) rfl ⟨_, rfl, OwR.emptyUp hB.size, hB⟩
  · subst hb
    have e := Lib.hid (show mmR sy st rs = mirR rs ∧ mmC sy st rs = 0 ∧ mmI sy st rs sy = sy ∧ mmI sy st rs st = st by simp [mmR, mmC, mmI, ← HM.out])
    have y2 := HK.out.cell 2 rfl
    go_wp2_with fail
    refine (libCloneR _ rs _ (HV.out.below HB1.out (Nat.le_refl _))).mono ?_
    rintro e2 w2 ⟨u, rfl, ho, hb2⟩
    obtain ⟨ga, gc, rfl⟩ := ho.shape
    have q1 := HK.out.below hb2 HK.out.lt
    have q2 := HK2.out.below hb2 HK2.out.lt
    have HO := Lib.hid (ho.mono HSZ1.out (Nat.le_refl _) (Nat.le_refl _))
    have HB2 := Lib.hid (HB1.out.trans (hb2.mono HB1.out.size))
    have c2 := q1.cell 2 rfl
    have c3 := q1.frozen 2
    have Q1 := Lib.hid (q1.set 2 (.slice ga rs.length gc))
    have Q2 := Lib.hid (q2.other (p := ⟨w.heap.size, 2, none⟩) (by show w.heap.size + 1 ≠ w.heap.size; omega) (.slice ga rs.length gc))
    have c4 := Q1.out.cell 2 rfl
    have HO3 := Lib.hid (HO.out.apartCell (g := w.heap.size) (by omega) 2 (.slice ga rs.length gc))
    have HB3 := Lib.hid (below_set HB2.out (Nat.le_refl _) 2 (.slice ga rs.length gc))
    clear ho hb2 q1 q2 y2
    go_wp2
    go_loopw [16] (fun s wr => ∃ k : Nat, k ≤ rs.length ∧ s = .int .i64 k ∧ Cels wr w.heap.size 29 [.int .i64 sy, .int .i64 st, .slice ga rs.length gc] ∧ Cels wr (w.heap.size + 1) 29 [.int .i64 0, .int .i64 0, .slice none 0 0] ∧ OwR wr (w.heap.size + 2) w2.heap.size (.slice ga rs.length gc) (midR rs k) ∧ Below w.heap.size w wr) (fun s _ => rs.length - (intOf s).toNat)
    case atStart => exact ⟨0, Nat.zero_le _, rfl, Q1.out, Q2.out, by simpa [midR] using HO3.out, HB3.out⟩
    case round =>
      obtain ⟨k, hk, rfl, hk1, hk2, hown, hbel⟩ := hrel
      clear c2 c3 c4
      have l2 := hk1.cell 2 rfl
      have HW := Lib.hid hbel
      by_cases hlt : k < rs.length
      · obtain ⟨gg, rfl, hb1, hb2, -, hc, hf, ho'⟩ := hown.one (k := k) (by rw [midR_length rs k hk]; exact hlt) (by rw [midR_at rs k hlt]; exact mir1_fit (HFT.out.at k))
        rw [midR_at rs k hlt] at hc ho'
        rw [midR_step rs k hlt] at ho'
        obtain ⟨q, hq⟩ : ∃ q, q = rs.getD k ru0 := ⟨_, rfl⟩
        rw [← hq] at hc ho'
        have i0 : (0 : Int) ≤ (k : Int) := by omega
        have i1 : (k : Int) < (rs.length : Int) := by omega
        have HN : Hid (∀ x, Cels (wr.setCell ⟨gg, k * 3 + 1, none⟩ x) w.heap.size 29 [.int .i64 sy, .int .i64 st, .slice (some ⟨gg, 0, none⟩) rs.length gc] ∧ Cels (wr.setCell ⟨gg, k * 3 + 1, none⟩ x) (w.heap.size + 1) 29 [.int .i64 0, .int .i64 0, .slice none 0 0]) := Lib.hid (fun x =>
          ⟨hk1.other (p := ⟨gg, k * 3 + 1, none⟩) (by show w.heap.size ≠ gg; omega) x, hk2.other (p := ⟨gg, k * 3 + 1, none⟩) (by show w.heap.size + 1 ≠ gg; omega) x⟩)
        have HB4 : Hid (∀ x, Below w.heap.size w (wr.setCell ⟨gg, k * 3 + 1, none⟩ x)) := Lib.hid (fun x => below_set hbel (by omega) _ _)
        have hwx : (mir1 q).mv = wrap64 (-q.mv) := by show IntKind.i64.wrap (-q.mv) = wrap64 (-q.mv); rw [IntKind.wrap_i64]; unfold wrap64; rfl
        rw [hwx] at ho'
        have HO4 := Lib.hid ho'
        clear hk1 hk2 hown hbel ho' hb1 hb2 hq hwx
        go_wp2
        go_roundw
        case rel => exact ⟨k + 1, by omega, by go_num, (HN.out _).1, (HN.out _).2, HO4.out, HB4.out _⟩
        case measure => simp [intOf]; omega
      · obtain rfl : k = rs.length := by omega
        have HO' := Lib.hid hown
        have l0 := hk1.cell 0 rfl
        have l1 := hk1.cell 1 rfl
        have HF3 := Lib.hid (put3 hk2 (.int .i64 sy) (.int .i64 st) (.slice ga rs.length gc))
        obtain ⟨f1, f2, f3, f4, f5, f6, f7⟩ := HF3.out
        clear hown hbel hk1 hk2
        go_wp2
        obtain ⟨W, hW⟩ : ∃ W, W = ((wr.setCell ⟨w.heap.size + 1, 0, none⟩ (.int .i64 sy)).setCell ⟨w.heap.size + 1, 1, none⟩ (.int .i64 st)).setCell ⟨w.heap.size + 1, 2, none⟩ (.slice ga rs.length gc) := ⟨_, rfl⟩
        have hB : Below w.heap.size w W ∧ OwR W (w.heap.size + 2) W.heap.size (.slice ga rs.length gc) (midR rs rs.length) := by
          rw [hW]
          exact ⟨below_set (below_set (below_set HW.out (by omega) _ _) (by omega) _ _) (by omega) _ _,
            (((HO'.out.apartCell (by omega) _ _).apartCell (by omega) _ _).apartCell (by omega) _ _).up⟩
        rw [← hW] at f7 ⊢
        have z0 := f7.cell 0 rfl
        have z1 := f7.cell 1 rfl
        have z2 := f7.cell 2 rfl
        clear f1 f2 f3 f4 f5 f6 hW
        rw [show midR rs rs.length = mirR rs by simp [midR, mirR]] at hB
        rw [e.out.1, e.out.2.1, e.out.2.2.1, e.out.2.2.2]
        refine bodyPost_ret (v := .tuple #[.agg #[.int .i64 sy, .int .i64 st, .slice ga rs.length gc], .int .i64 0]) (by simp [results, Tryd.f42, go_sem, z0, z1, z2]) rfl ⟨_, rfl, hB.2.mono (by omega) (Nat.le_refl _) (Nat.le_refl _), hB.1⟩
end Go.Proofs.YtknlpoeolicinadDoor.Ints
