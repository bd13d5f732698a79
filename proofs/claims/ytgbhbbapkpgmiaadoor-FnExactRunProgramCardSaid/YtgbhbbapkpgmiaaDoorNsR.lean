/- A store at work: copied, newStoreRun, config. -/
import Derived.Test.YtgbhbbapkpgmiaaDoorStR
import Derived.Test.YtgbhbbapkpgmiaaDoorStv
import Derived.Deep.RegionHeld3
namespace Go.Proofs.YtgbhbbapkpgmiaaDoor.Ints
open Go.RowKit
set_option linter.unusedVariables false
set_option linter.unusedSimpArgs false
theorem put2s {w : World} {g : Nat} {t : TypeId} {a0 a1 : Value} (h : Cels w g t [a0, a1]) (b0 b1 : Value) :
    w.cell? ⟨g, 0, none⟩ = some a0 ∧ w.frozen? ⟨g, 0, none⟩ = false ∧ (w.setCell ⟨g, 0, none⟩ b0).cell? ⟨g, 1, none⟩ = some a1 ∧ (w.setCell ⟨g, 0, none⟩ b0).frozen? ⟨g, 1, none⟩ = false ∧
    Cels ((w.setCell ⟨g, 0, none⟩ b0).setCell ⟨g, 1, none⟩ b1) g t [b0, b1] := by
  have r2 := h.set 0 b0
  have r3 := r2.set 1 b1
  exact ⟨h.cell 0 rfl, h.frozen 0, r2.cell 1 rfl, r2.frozen 1, r3⟩
set_option maxHeartbeats 2000000 in
theorem implCopied (at' : Int) (v : Value) (cs : List Int) (w : World) (hv : Rd w v cs) :
    Calls Tryd.prog 113 #[.agg #[.int .i64 at', v]] w fun e w' => ∃ u, e = .returned (.agg #[.int .i64 at', u]) ∧ Ow w' w.heap.size w'.heap.size u cs ∧ Below w.heap.size w w' := by
  have HV := Lib.hid hv
  obtain ⟨hl, hf, a, c, rfl, hcap, hr⟩ := hv
  obtain ⟨W0, hW0⟩ : ∃ W, W = ((w.alloc (Obj.cells #[.int .i64 at', .slice a cs.length c] 39)).alloc (Obj.cells #[.int .i64 0, .slice none 0 0] 39)) := ⟨_, rfl⟩
  have hB0 : Below w.heap.size w W0 := by rw [hW0]; exact ((Below.refl _ _).alloc (Nat.le_refl _) _).alloc (by simp) _
  have k0 : Cels W0 w.heap.size 39 [.int .i64 at', .slice a cs.length c] := by rw [hW0]; exact (Cels.new _ _ _).alloc _
  have k1 : Cels W0 (w.heap.size + 1) 39 [.int .i64 0, .slice none 0 0] := by
    rw [hW0]
    have := (Cels.new (w.alloc (Obj.cells #[.int .i64 at', .slice a cs.length c] 39)) 39 [.int .i64 0, .slice none 0 0])
    rwa [World.size_alloc] at this
  have HB0 := Lib.hid hB0
  have K1 := Lib.hid k1
  have HL1 := Lib.hid k1.lt
  have K0 := Lib.hid k0
  have HNE : Hid (w.heap.size ≠ w.heap.size + 1) := Lib.hid (by omega)
  have HS : Hid (∀ W', Cels W' w.heap.size 39 [.int .i64 at', .slice a cs.length c] → W'.cell? ⟨w.heap.size, 0, none⟩ = some (.int .i64 at') ∧ W'.cell? ⟨w.heap.size, 1, none⟩ = some (.slice a cs.length c)) := Lib.hid (fun W' h => ⟨h.cell 0 rfl, h.cell 1 rfl⟩)
  have HW0 := Lib.hid hW0.symm
  clear hW0 k0 k1 hB0 hr
  go_enter Tryd.func113, Tryd.ntmps113
  go_wp2
  rw [HW0.out]
  have HD : Hid (Below W0.heap.size W0 W0.drew) := Lib.hid (Below.refl _ _).drew
  go_region_held3 (fun W' => W'.cell? ⟨w.heap.size, 0, none⟩ = some (.int .i64 at') ∧ W'.cell? ⟨w.heap.size, 1, none⟩ = some (.slice a cs.length c)) (first | exact HS.out _ (K0.out.below HD.out K0.out.lt) | exact HS.out _ (((K0.out.below HD.out K0.out.lt).other (p := ⟨w.heap.size + 1, 0, none⟩) HNE.out _).other (p := ⟨w.heap.size + 1, 1, none⟩) HNE.out _))
    (first | (go_at_call 138; with_reducible refine (libClone _ cs _ (HV.out.below (HB0.out.trans (HD.out.mono HB0.out.size)) (Nat.le_refl _))).mono ?_; rintro e3 w3 ⟨u, rfl, ou, bq⟩; have HO := Lib.hid (ou.mono (B' := W0.heap.size) HD.out.size (Nat.le_refl _) (Nat.le_refl _)); obtain ⟨ga, gc, hu⟩ := ou.shape; subst hu; replace HD := Lib.hid (HD.out.trans (bq.mono HD.out.size)); have HF := Lib.hid (put2s (K1.out.below HD.out K1.out.lt) (.int .i64 at') (.slice ga cs.length gc)); obtain ⟨f0, f1, f2, f3, f4⟩ := HF.out; have HF4 := Lib.hid f4; clear ou bq f4))
  all_goals
    go_wp2
    obtain ⟨W, hW⟩ : ∃ W, W = (w3.setCell ⟨w.heap.size + 1, 0, none⟩ (.int .i64 at')).setCell ⟨w.heap.size + 1, 1, none⟩ (.slice ga cs.length gc) := ⟨_, rfl⟩
    have f4 := HF4.out
    have hB : Below w.heap.size w W := by
      rw [hW]
      exact below_set (below_set (HB0.out.trans (HD.out.mono HB0.out.size)) (by omega) _ _) (by omega) _ _
    have hO : Ow W w.heap.size W.heap.size (.slice ga cs.length gc) cs := by
      have h1 := (HO.out.apartCell HL1.out 0 (.int .i64 at')).apartCell HL1.out 1 (.slice ga cs.length gc)
      rw [← hW] at h1
      exact h1.mono HB0.out.size (by rw [hW]; simp) (Nat.le_refl _)
    rw [← hW] at f4 ⊢
    have z0 := f4.cell 0 rfl
    have z1 := f4.cell 1 rfl
    clear f0 f1 f2 f3 hW
    refine bodyPost_ret (v := .agg #[.int .i64 at', .slice ga cs.length gc]) (by simp [results, Tryd.f113, go_sem, z0, z1]) rfl ⟨_, rfl, hO, hB⟩
theorem strOfS {w0 W' : World} {rs : List Ins} {pa : Option Addr} {pc : Nat} {at' most : Int} {cs : List Int} {ok : Bool} {t : TypeId} {gb c0 : Nat} (hv : RdIns w0 (.slice pa rs.length pc) rs) (hk : Below w0.heap.size w0 W') (ho : Ow W' w0.heap.size W'.heap.size (.slice (some ⟨gb, 0, none⟩) cs.length c0) cs) :
    StR w0 (W'.alloc (.cells #[.int .i64 at', .slice (some ⟨gb, 0, none⟩) cs.length c0, .slice pa rs.length pc, .bool ok, .int .i64 most] t)) W'.heap.size t gb c0 pa pc rs at' cs ok most := by
  have ha1 : Below W'.heap.size W' (W'.alloc (.cells #[.int .i64 at', .slice (some ⟨gb, 0, none⟩) cs.length c0, .slice pa rs.length pc, .bool ok, .int .i64 most] t)) := (Below.refl _ _).alloc (Nat.le_refl _) _
  have hlt := ho.top gb rfl
  refine ⟨Cels.new _ _ _, (ho.below ha1 (Nat.le_refl _)).mono (Nat.le_refl _) ha1.size (Nat.le_refl _), by omega, hk.size, hv, ?_⟩
  exact ⟨Nat.le_trans hk.size ha1.size, fun i hi q => (ha1.block i (by have := hk.size; omega)).trans (hk.block i hi)⟩
set_option maxHeartbeats 2000000 in
theorem implNewSRun (at' : Int) (v : Value) (cs : List Int) (pa : Option Addr) (pc : Nat) (rs : List Ins) (w : World) (hv : RdIns w (.slice pa rs.length pc) rs) (hu : Rd w v cs) :
    Calls Tryd.prog 76 #[.slice pa rs.length pc, .agg #[.int .i64 at', v]] w fun e w' => ∃ g u, e = .returned (.pointer (some ⟨g, 0, none⟩)) ∧ w.heap.size ≤ g ∧ Cels w' g 169 [.int .i64 at', u, .slice pa rs.length pc, .bool (vsB rs at' cs), .int .i64 1000000] ∧
      (∀ gb c0, u = .slice (some ⟨gb, 0, none⟩) cs.length c0 → StR w w' g 169 gb c0 pa pc rs at' cs (vsB rs at' cs) 1000000) ∧ ((∃ gb c0, u = .slice (some ⟨gb, 0, none⟩) cs.length c0) ∨ cs = []) ∧ Below w.heap.size w w' := by
  have HV := Lib.hid hv
  have HU := Lib.hid hu
  obtain ⟨hl, hf, a, c, rfl, hcap, hr⟩ := hu
  obtain ⟨W0, hW0⟩ : ∃ W, W = (w.alloc (Obj.cells #[.int .i64 at', .slice a cs.length c] 39)) := ⟨_, rfl⟩
  have hB0 : Below w.heap.size w W0 := by rw [hW0]; exact (Below.refl _ _).alloc (Nat.le_refl _) _
  have k0 : Cels W0 w.heap.size 39 [.int .i64 at', .slice a cs.length c] := by rw [hW0]; exact Cels.new _ _ _
  have HB0 := Lib.hid hB0
  have HS : Hid (∀ W', Below W0.heap.size W0 W' → W'.cell? ⟨w.heap.size, 0, none⟩ = some (.int .i64 at') ∧ W'.cell? ⟨w.heap.size, 1, none⟩ = some (.slice a cs.length c)) := Lib.hid (fun W' h => ⟨(k0.below h k0.lt).cell 0 rfl, (k0.below h k0.lt).cell 1 rfl⟩)
  have HW0 := Lib.hid hW0.symm
  obtain ⟨bv, hbv⟩ : ∃ x, x = vsB rs at' cs := ⟨_, rfl⟩
  have HBV := Lib.hid hbv
  clear hW0 k0 hB0 hr hbv hv
  go_enter Tryd.func76, Tryd.ntmps76
  go_wp2
  rw [HW0.out]
  have HD : Hid (Below W0.heap.size W0 W0.drew) := Lib.hid (Below.refl _ _).drew
  go_region_held3 (fun W' => W'.cell? ⟨w.heap.size, 0, none⟩ = some (.int .i64 at') ∧ W'.cell? ⟨w.heap.size, 1, none⟩ = some (.slice a cs.length c)) (first | exact HS.out _ HD.out | exact HS.out _ (HD.out.alloc HD.out.size _))
    (first
      | (go_at_call 113; with_reducible refine (implCopied at' _ cs _ (HU.out.below (HB0.out.trans (HD.out.mono HB0.out.size)) (Nat.le_refl _))).mono ?_; rintro e3 w3 ⟨u, rfl, ou, bq⟩; have HO := Lib.hid (ou.mono (B' := W0.heap.size) HD.out.size (Nat.le_refl _) (Nat.le_refl _)); obtain ⟨ga, gc, hu⟩ := ou.shape; subst hu; replace HD := Lib.hid (HD.out.trans (bq.mono HD.out.size)); clear ou bq)
      | (go_at_call 114; with_reducible refine (implValidStore _ rs at' _ cs _ (HV.out.below (HB0.out.trans (HD.out.mono HB0.out.size)) (Nat.le_refl _)) (HU.out.below (HB0.out.trans (HD.out.mono HB0.out.size)) (Nat.le_refl _))).mono ?_; rintro e4 w4 ⟨rfl, bq⟩; rw [← HBV.out]; (try replace HO := Lib.hid ((HO.out.below bq HO.out.size).mono (Nat.le_refl _) bq.size (Nat.le_refl _))); replace HD := Lib.hid (HD.out.trans (bq.mono HD.out.size)); clear bq))
  all_goals
    go_wp2
    go_ret
    rw [← HBV.out]
    have hB4 := HB0.out.trans (HD.out.mono HB0.out.size)
    have hO4 := HO.out.mono HB0.out.size (Nat.le_refl _) (Nat.le_refl _)
    refine ⟨_, _, rfl, hB4.size, Cels.new _ _ _, ?_, ?_, hB4.alloc hB4.size _⟩
    · intro gb c0 he
      simp only [Value.slice.injEq] at he
      obtain ⟨rfl, _, rfl⟩ := he
      exact strOfS HV.out hB4 hO4
    · rcases hO4.form with ⟨_, h⟩ | ⟨q, c', h, _⟩
      · exact .inr h
      · exact .inl ⟨q, c', h⟩
theorem strConfig {w0 w : World} {g : Nat} {t : TypeId} {gb c0 : Nat} {pa : Option Addr} {pc : Nat} {rs : List Ins} {at' : Int} {cs : List Int} {ok : Bool} {most : Int} (h : StR w0 w g t gb c0 pa pc rs at' cs ok most) :
    Calls Tryd.prog 193 #[.pointer (some ⟨g, 0, none⟩)] w fun e w' => ∃ u, e = .returned (.agg #[.int .i64 at', u]) ∧ Ow w' w.heap.size w'.heap.size u cs ∧ Below w.heap.size w w' := by
  obtain ⟨W0, hW0⟩ : ∃ W, W = w.alloc (Obj.cells #[.int .i64 0, .slice none 0 0] 39) := ⟨_, rfl⟩
  have hB0 : Below w.heap.size w W0 := by rw [hW0]; exact (Below.refl _ _).alloc (Nat.le_refl _) _
  have k1 : Cels W0 w.heap.size 39 [.int .i64 0, .slice none 0 0] := by rw [hW0]; exact Cels.new _ _ _
  have hd := h.head.below hB0 h.head.lt
  have z0 := hd.cell 0 rfl
  have z1 := hd.cell 1 rfl
  have HR := Lib.hid (h.row.rd.below hB0 (Nat.le_refl _))
  have HB0 := Lib.hid hB0
  have K1 := Lib.hid k1
  rw [hW0] at z0 z1
  have HW0 := Lib.hid hW0.symm
  clear h hW0 k1 hB0 hd
  go_enter Tryd.func193, Tryd.ntmps193
  go_wp2_with fail
  rw [HW0.out]
  refine (implCopied at' _ cs _ HR.out).mono ?_
  rintro e w3 ⟨u, rfl, ou, hb⟩
  have HO := Lib.hid ou
  obtain ⟨ga, gc, hu⟩ := ou.shape
  subst hu
  have HB3 := Lib.hid (HB0.out.trans (hb.mono HB0.out.size))
  have HL1 := Lib.hid K1.out.lt
  have HF := Lib.hid (put2s (K1.out.below hb K1.out.lt) (.int .i64 at') (.slice ga cs.length gc))
  obtain ⟨f0, f1, f2, f3, f4⟩ := HF.out
  have HF4 := Lib.hid f4
  clear ou hb f4 z0 z1
  go_wp2
  obtain ⟨W, hW⟩ : ∃ W, W = (w3.setCell ⟨w.heap.size, 0, none⟩ (.int .i64 at')).setCell ⟨w.heap.size, 1, none⟩ (.slice ga cs.length gc) := ⟨_, rfl⟩
  have f4 := HF4.out
  have hB : Below w.heap.size w W := by
    rw [hW]
    exact below_set (below_set HB3.out (by omega) _ _) (by omega) _ _
  have hO : Ow W w.heap.size W.heap.size (.slice ga cs.length gc) cs := by
    have h1 := (HO.out.apartCell HL1.out 0 (.int .i64 at')).apartCell HL1.out 1 (.slice ga cs.length gc)
    rw [← hW] at h1
    exact h1.mono HB0.out.size (by rw [hW]; simp) (Nat.le_refl _)
  rw [← hW] at f4 ⊢
  have z0 := f4.cell 0 rfl
  have z1 := f4.cell 1 rfl
  clear f0 f1 f2 f3 hW
  refine bodyPost_ret (v := .agg #[.int .i64 at', .slice ga cs.length gc]) (by simp [results, Tryd.f193, go_sem, z0, z1]) rfl ⟨_, rfl, hO, hB⟩
end Go.Proofs.YtgbhbbapkpgmiaaDoor.Ints
