/- RunProgram: the run of the model. -/
import Derived.Test.YtgbhbbapkpgmiaaDoorSpS
import Derived.Test.YtgbhbbapkpgmiaaDoorRpC
namespace Go.Proofs.YtgbhbbapkpgmiaaDoor.Ints
open Go.RowKit
set_option linter.unusedVariables false
set_option linter.unusedSimpArgs false
theorem Ow.setO {w : World} {B g : Nat} {v : Value} {cs : List Int} {t : TypeId} {xs : List Value} (h : Ow w B w.heap.size v cs) (k : Cels w g t xs) (hne : t ≠ 2) (j : Nat) (x : Value) : Ow (w.setCell ⟨g, j, none⟩ x) B (w.setCell ⟨g, j, none⟩ x).heap.size v cs :=
  (h.grown (put1g w g j x) (.inr (h.nblk k hne))).up
theorem st_ne : (39 : TypeId) ≠ 2 := by decide
theorem Cels.drewK {w : World} {g : Nat} {t : TypeId} {xs : List Value} (h : Cels w g t xs) : Cels w.drew g t xs := h.below (Below.refl _ _).drew h.lt
set_option maxHeartbeats 8000000 in
set_option maxRecDepth 100000 in
theorem specPRun (k0 B : Nat) (u : Value) (cs : List Int) (v : Value) (rs : List Ins) (w : World) (hv : RdIns w v rs) (hu : Rd w u cs) (hp : Pok rs) (hc : SOk rs.length (k0 : Int) cs) (hB : B ≤ 20000)
    (R : Rse) (hR : R = rpF rs B (k0 : Int) cs 0) :
    Calls Tryd.prog 74 #[v, .agg #[.int .i64 (k0 : Int), u], .int .i64 (B : Int)] w fun e w' => ∃ r, e = .returned (.tuple #[.agg #[.int .i64 R.at', r], .int .i64 R.n, .bool R.h, .bool (decide (R.code = 0))]) ∧ Ow w' w.heap.size w'.heap.size r R.cs ∧ Below w.heap.size w w' := by
  have HV := Lib.hid hv
  have HU := Lib.hid hu
  obtain ⟨hl, _, a0, c0, rfl, _, _⟩ := hv
  obtain ⟨_, _, au, cu, rfl, _, _⟩ := hu
  have HP := Lib.hid hp
  have HC := Lib.hid hc
  have HR := Lib.hid hR.symm
  obtain ⟨W1, hW1⟩ : ∃ W, W = (w.alloc (Obj.cells #[.int .i64 (k0 : Int), .slice au cs.length cu] 39)).alloc (Obj.cells #[.int .i64 0, .slice none 0 0] 39) := ⟨_, rfl⟩
  have hB1 : Below w.heap.size w W1 := by rw [hW1]; exact ((Below.refl _ _).alloc (Nat.le_refl _) _).alloc (by simp) _
  have kx : Cels W1 w.heap.size 39 [.int .i64 (k0 : Int), .slice au cs.length cu] := by rw [hW1]; exact (Cels.new _ _ _).alloc _
  have kr : Cels W1 (w.heap.size + 1) 39 [.int .i64 0, .slice none 0 0] := by
    rw [hW1]
    have := Cels.new (w.alloc (Obj.cells #[.int .i64 (k0 : Int), .slice au cs.length cu] 39)) 39 [.int .i64 0, .slice none 0 0]
    rwa [World.size_alloc] at this
  have hsz : W1.heap.size = w.heap.size + 2 := by rw [hW1]; simp
  have KX := Lib.hid kx
  have KR1 := Lib.hid kr
  have HB1 := Lib.hid hB1
  have HW1 := Lib.hid hW1.symm
  have HSZ := Lib.hid hsz
  have HU2 := Lib.hid (HU.out.below hB1 (Nat.le_refl _))
  clear hW1 kx kr hB1 hp hc hR hsz
  go_enter Tryd.func74, Tryd.ntmps74
  go_upto_region 1 with fail
  rw [HW1.out]
  go_cut [10] (fun s10 wx => ∃ (b7 : Nat) (r : Value), s10 = .pointer (some ⟨b7, 0, none⟩) ∧ w.heap.size + 1 < b7 ∧ Cels wx b7 39 [.int .i64 (k0 : Int), r] ∧ Ow wx W1.heap.size wx.heap.size r cs ∧ Below W1.heap.size W1 wx)
  case first =>
    have HS1 : Hid (∀ W', Below W1.heap.size W1 W' → W'.cell? ⟨w.heap.size, 0, none⟩ = some (.int .i64 (k0 : Int)) ∧ W'.cell? ⟨w.heap.size, 1, none⟩ = some (.slice au cs.length cu)) := Lib.hid (fun W' h => ⟨(KX.out.below h KX.out.lt).cell 0 rfl, (KX.out.below h KX.out.lt).cell 1 rfl⟩)
    have HD : Hid (Below W1.heap.size W1 W1.drew) := Lib.hid (Below.refl _ _).drew
    go_region_held3 (fun w' => w'.cell? ⟨w.heap.size, 0, none⟩ = some (.int .i64 (k0 : Int)) ∧ w'.cell? ⟨w.heap.size, 1, none⟩ = some (.slice au cs.length cu)) (first | exact HS1.out _ HD.out | exact HS1.out _ (HD.out.alloc HD.out.size _) | exact HS1.out _ (((Below.refl _ _).alloc (Nat.le_refl _) _).drew) | exact HS1.out _ (below_set (below_set HD.out HZb.out _ _) HZb.out _ _) | exact HS1.out _ (below_set (below_set (HD.out.alloc HD.out.size _) HD.out.size _ _) HD.out.size _ _)) (first | (go_at_call 89; with_reducible refine (specOwn _ cs _ (by first | exact HU2.out.below HD.out (Nat.le_refl _) | exact HU2.out.below (HD.out.alloc HD.out.size _) (Nat.le_refl _) | exact HU2.out.below (((Below.refl _ _).alloc (Nat.le_refl _) _).drew) (Nat.le_refl _))).mono ?_; rintro e w1 ⟨r, rfl, or, bq⟩; (try (with_reducible have KZ := Lib.hid (cels_pre bq); have HZb := Lib.hid HD.out.size)); (try (with_reducible have KZ := Lib.hid (cels_preD bq); have HZb := Lib.hid (Nat.le_refl W1.heap.size))); have HO := Lib.hid (or.mono (B' := W1.heap.size) (by first | exact HD.out.size | exact (HD.out.alloc HD.out.size _).size | exact (((Below.refl _ _).alloc (Nat.le_refl _) _).drew).size) (Nat.le_refl _) (Nat.le_refl _)); obtain ⟨ga, gc, hu⟩ := or.shape; subst hu; (try (with_reducible have HOz := Lib.hid (ow_pre or))); (try (with_reducible have HOz := Lib.hid (ow_preD or))); clear or; (try with_reducible replace bq := below_pre bq); (try with_reducible replace bq := below_preD bq); replace HD := Lib.hid (HD.out.trans (bq.mono HD.out.size)); clear bq; (try (have HF := Lib.hid (put2s KZ.out (.int .i64 (k0 : Int)) (.slice ga cs.length gc)); obtain ⟨f1, f2, f3, f4, f7⟩ := HF.out; have HF7 := Lib.hid f7; clear f7))))
    all_goals (go_wp2_with fail; go_meet)
    all_goals first
      | exact ⟨_, _, rfl, by have := HSZ.out; have := HD.out.size; omega, Cels.new _ _ _, own7a HD.out HO.out, HD.out.alloc HD.out.size _⟩
      | exact ⟨_, _, rfl, by have := HSZ.out; have := HZb.out; omega, HF7.out, (((HOz.out.apartCell (Nat.lt_succ_self _) 0 (.int .i64 (k0 : Int))).apartCell (Nat.lt_succ_self _) 1 _).mono (Nat.le_succ_of_le HZb.out) (by simp) (Nat.le_refl _)), below_set (below_set HD.out HZb.out _ _) HZb.out _ _⟩
  obtain ⟨b7, r, rfl, hb7, k7, ho, hb⟩ := hcut
  obtain ⟨W3, hW3⟩ : ∃ x, x = wc := ⟨_, rfl⟩
  subst hW3
  have HO0 := Lib.hid (ho.mono (B' := w.heap.size) HB1.out.size (Nat.le_refl _) (Nat.le_refl _))
  have HBB := Lib.hid (HB1.out.trans (hb.mono HB1.out.size))
  have K70 := Lib.hid k7
  have KR3 := Lib.hid (KR1.out.below hb KR1.out.lt)
  have HN7 : Hid (w.heap.size + 1 < b7) := Lib.hid hb7
  have HL := Lib.hid hl
  obtain ⟨ga0, gc0, hr0⟩ := ho.shape
  subst hr0
  clear ho hb k7 hb7 HW1 HU2
  go_wp2
  go_loopw [11] (fun s wr => ∃ (k m : Nat) (r : Value) (xs : List Int), s = .int .i64 (m : Int) ∧ m ≤ B ∧ SOk rs.length (k : Int) xs ∧ rpF rs (B - m) (k : Int) xs (m : Int) = R ∧ Cels wr b7 39 [.int .i64 (k : Int), r] ∧ Ow wr w.heap.size wr.heap.size r xs ∧ Cels wr (w.heap.size + 1) 39 [.int .i64 0, .slice none 0 0] ∧ Below w.heap.size w wr) (fun s _ => B + 1 - (intOf s).toNat)
  case atStart => exact ⟨k0, 0, _, cs, rfl, Nat.zero_le _, HC.out, HR.out, K70.out, HO0.out, KR3.out, HBB.out⟩
  case round =>
    obtain ⟨k, m, r, xs, rfl, hm, hc, hr, kc, ho, kr, hb⟩ := hrel
    obtain ⟨ga, gc, hr0⟩ := ho.shape
    subst hr0
    have HCk := Lib.hid hc
    have HRr := Lib.hid hr
    have KC := Lib.hid kc
    have KR := Lib.hid kr
    have HB := Lib.hid hb
    have HO := Lib.hid ho
    have hkl : k ≤ rs.length := by have := hc.1.2; omega
    have hne : b7 ≠ w.heap.size + 1 := by have := HN7.out; omega
    have HNE := Lib.hid hne
    clear hc hr kc kr hb ho K70 KR3 HBB HO0 HC HR hne
    have fin : ∀ (wz : World) (x : Int) (h : Cels wz b7 39 [.int .i64 x, .slice ga xs.length gc]) (kz : Cels wz (w.heap.size + 1) 39 [.int .i64 0, .slice none 0 0]) (oz : Ow wz w.heap.size wz.heap.size (.slice ga xs.length gc) xs) (bz : Below w.heap.size w wz),
        Hid (Cels ((wz.setCell ⟨w.heap.size + 1, 0, none⟩ (.int .i64 x)).setCell ⟨w.heap.size + 1, 1, none⟩ (.slice ga xs.length gc)) (w.heap.size + 1) 39 [.int .i64 x, .slice ga xs.length gc] ∧
          Ow ((wz.setCell ⟨w.heap.size + 1, 0, none⟩ (.int .i64 x)).setCell ⟨w.heap.size + 1, 1, none⟩ (.slice ga xs.length gc)) w.heap.size ((wz.setCell ⟨w.heap.size + 1, 0, none⟩ (.int .i64 x)).setCell ⟨w.heap.size + 1, 1, none⟩ (.slice ga xs.length gc)).heap.size (.slice ga xs.length gc) xs ∧
          Below w.heap.size w ((wz.setCell ⟨w.heap.size + 1, 0, none⟩ (.int .i64 x)).setCell ⟨w.heap.size + 1, 1, none⟩ (.slice ga xs.length gc))) := fun wz x h kz oz bz => Lib.hid
      ⟨(kz.set 0 _).set 1 _, (oz.setO kz st_ne 0 _).setO (kz.set 0 _) st_ne 1 _, below_set (below_set bz (by omega) _ _) (by omega) _ _⟩
    have HFIN := Lib.hid fin
    clear fin
    by_cases hmB : m = B
    · have k2 : decide ((m : Int) < (B : Int)) = false := by simp [hmB]
      obtain ⟨hq, hhq⟩ : ∃ q, q = ((k : Int) == (rs.length : Int)) := ⟨_, rfl⟩
      have HRE : Hid (R = ⟨0, (k : Int), xs, (m : Int), hq⟩) := Lib.hid (by have := HRr.out; rw [← hmB, Nat.sub_self] at this; rw [← this, hhq]; rfl)
      have HHQ := Lib.hid hhq.symm
      have HMB := Lib.hid hmB
      have y0 := KC.out.cell 0 rfl
      have y1 := KC.out.cell 1 rfl
      have HS : Hid (∀ W', Cels W' b7 39 [.int .i64 (k : Int), .slice ga xs.length gc] → W'.cell? ⟨b7, 0, none⟩ = some (.int .i64 (k : Int)) ∧ W'.cell? ⟨b7, 1, none⟩ = some (.slice ga xs.length gc)) := Lib.hid (fun W' h => ⟨h.cell 0 rfl, h.cell 1 rfl⟩)
      obtain ⟨f1, f2, f3, f4, f7⟩ := put2s KR.out (.int .i64 (k : Int)) (.slice ga xs.length gc)
      have hlt : ¬ ((m : Int) < (B : Int)) := by omega
      clear hkl hmB hhq f7
      go_upto_region 11 with fail
      go_region_held3 (fun w' => w'.cell? ⟨b7, 0, none⟩ = some (.int .i64 (k : Int)) ∧ w'.cell? ⟨b7, 1, none⟩ = some (.slice ga xs.length gc))
        (first | exact HS.out _ KC.out.drewK | exact HS.out _ KC.out | exact HS.out _ (KC.out.drewK.other HNE.out _) | exact HS.out _ ((KC.out.drewK.other HNE.out _).other HNE.out _) | exact HS.out _ ((KC.out.other HNE.out _).other HNE.out _) | exact HS.out _ ((KC.out.other HNE.out _).other HNE.out _).drewK)
        (first | (go_at_call 90; with_reducible refine (specHaltsP _ _ _ (k : Int) _ b7 _ (by first | exact KC.out.drewK | exact KC.out | exact (KC.out.drewK.other HNE.out _).other HNE.out _ | exact ((KC.out.other HNE.out _).other HNE.out _).drewK | exact (KC.out.other HNE.out _).other HNE.out _) hq HHQ.out).mono ?_; rintro e w1 ⟨rfl, rfl⟩))
      all_goals go_wp2
      all_goals
        have HF := HFIN.out wr (k : Int) KC.out KR.out HO.out HB.out
        obtain ⟨W, hW⟩ : ∃ W, W = ((wr.setCell ⟨w.heap.size + 1, 0, none⟩ (.int .i64 (k : Int))).setCell ⟨w.heap.size + 1, 1, none⟩ (.slice ga xs.length gc)) := ⟨_, rfl⟩
        rw [← hW] at HF
        have hd := HF.out.2.2.trans ((Below.refl W.heap.size W).drew.mono HF.out.2.2.size)
        have z0 := HF.out.1.drewK.cell 0 rfl
        have z1 := HF.out.1.drewK.cell 1 rfl
        have ho := (HF.out.2.1.below (Below.refl _ _).drew (Nat.le_refl _)).up
        rw [hW] at z0 z1 ho hd
        refine bodyPost_ret (v := .tuple #[.agg #[.int .i64 (k : Int), .slice ga xs.length gc], .int .i64 (m : Int), .bool hq, .bool true]) (by simp [results, Tryd.f74, go_sem, z0, z1, HMB.out]) rfl ⟨_, by rw [HRE.out]; rfl, by rw [HRE.out]; exact ho, hd⟩
    have k2 : decide ((m : Int) < (B : Int)) = true := decide_eq_true (by omega)
    have hmlt : m < B := by omega
    have HMLT := Lib.hid hmlt
    by_cases hk : k = rs.length
    · have k1 : ((k : Int) == (rs.length : Int)) = true := by simp [hk]
      have K1 := Lib.hid k1
      have HRE : Hid (R = ⟨0, (k : Int), xs, (m : Int), true⟩) := Lib.hid (by have := HRr.out; rw [hk] at this ⊢; rw [rpF_halt] at this; exact this.symm)
      have y0 := KC.out.cell 0 rfl
      have y1 := KC.out.cell 1 rfl
      obtain ⟨f1, f2, f3, f4, f7⟩ := put2s KR.out (.int .i64 (k : Int)) (.slice ga xs.length gc)
      clear hkl hmB f7 k1 hk
      go_wp2_with fail
      refine (specHaltsP _ _ _ (k : Int) _ b7 _ KC.out true K1.out).mono ?_
      rintro e w1 ⟨rfl, rfl⟩
      go_wp2
      have HF := HFIN.out wr (k : Int) KC.out KR.out HO.out HB.out
      obtain ⟨W, hW⟩ : ∃ W, W = ((wr.setCell ⟨w.heap.size + 1, 0, none⟩ (.int .i64 (k : Int))).setCell ⟨w.heap.size + 1, 1, none⟩ (.slice ga xs.length gc)) := ⟨_, rfl⟩
      rw [← hW] at HF ⊢
      have z0 := HF.out.1.cell 0 rfl
      have z1 := HF.out.1.cell 1 rfl
      clear f1 f2 f3 f4 hW y0 y1
      refine bodyPost_ret (v := .tuple #[.agg #[.int .i64 (k : Int), .slice ga xs.length gc], .int .i64 (m : Int), .bool true, .bool true]) (by simp [results, Tryd.f74, go_sem, z0, z1]) rfl ⟨_, by rw [HRE.out]; rfl, by rw [HRE.out]; exact HF.out.2.1, HF.out.2.2⟩
    have k1 : ((k : Int) == (rs.length : Int)) = false := by simp; omega
    have K1 := Lib.hid k1
    have HKL : Hid (k < rs.length) := Lib.hid (by omega)
    obtain ⟨bo, hbo⟩ : ∃ b : Bool, (b = false ↔ fullP rs k xs) := by
      by_cases h : fullP rs k xs
      · exact ⟨false, by simp [h]⟩
      · exact ⟨true, by simp [h]⟩
    have HBO : ∀ x, Hid (bo = x → (x = false ↔ fullP rs k xs)) := fun x => Lib.hid (by rintro rfl; exact hbo)
    have HBO1 := Lib.hid hbo
    have y0 := KC.out.cell 0 rfl
    have y1 := KC.out.cell 1 rfl
    clear hk hkl hmB k1 hbo hmlt
    go_wp2_with fail
    refine (specHaltsP _ _ _ (k : Int) _ b7 _ KC.out false K1.out).mono ?_
    rintro e w1 ⟨rfl, rfl⟩
    go_wp2_with fail
    refine (specPStep _ rs k _ xs b7 _ (HV.out.below HB.out (Nat.le_refl _)) HO.out.rd KC.out HKL.out HP.out HCk.out.2.1 HCk.out.2.2 bo ((HBO bo).out rfl)).mono ?_
    rintro e w3 ⟨r3, rfl, o3, hb3⟩
    obtain ⟨g3, c3, hr3⟩ := o3.shape
    subst hr3
    obtain ⟨u1, hu1⟩ : ∃ u, u = stAt rs k xs := ⟨_, rfl⟩
    obtain ⟨us, hus⟩ : ∃ u, u = stCs rs k xs := ⟨_, rfl⟩
    have HU1 : Hid (stAt rs k xs = u1 ∧ stCs rs k xs = us) := Lib.hid ⟨hu1.symm, hus.symm⟩
    rw [← hus] at o3
    rw [← hu1, ← hus]
    have KR3 := Lib.hid (KR.out.below hb3 KR.out.lt)
    have KC3 := Lib.hid (KC.out.below hb3 KC.out.lt)
    have HB3 := Lib.hid (HB.out.trans (hb3.mono HB.out.size))
    have O3 := Lib.hid (o3.mono (B' := w.heap.size) HB.out.size (Nat.le_refl _) (Nat.le_refl _))
    clear hu1 hus hb3 o3 y0 y1 k2
    have hA : Below w3.heap.size w3 (w3.alloc (Obj.cells #[.int .i64 u1, .slice g3 us.length c3] 39)) := (Below.refl _ _).alloc (Nat.le_refl _) _
    obtain ⟨W4, hW4⟩ : ∃ W, W = w3.alloc (Obj.cells #[.int .i64 u1, .slice g3 us.length c3] 39) := ⟨_, rfl⟩
    have KR4 := Lib.hid (KR3.out.below hA KR3.out.lt)
    have KC4 := Lib.hid (KC3.out.below hA KC3.out.lt)
    have HB4 := Lib.hid (HB3.out.trans (hA.mono HB3.out.size))
    have O4 := Lib.hid (O3.out.below hA (Nat.le_refl _)).up
    have KN4 : Hid (Cels W4 w3.heap.size 39 [.int .i64 u1, .slice g3 us.length c3]) := Lib.hid (by rw [hW4]; exact Cels.new _ _ _)
    rw [← hW4] at KR4 KC4 HB4 O4
    have HW4 := Lib.hid hW4.symm
    clear hA hW4
    have HFF : Hid (B - m = (B - m - 1) + 1) := Lib.hid (by have := HMLT.out; omega)
    rcases eqOr bo with hb | hb
    · subst hb
      have HRE : Hid (R = ⟨5, 0, [], 0, false⟩) := Lib.hid (by
        have := HRr.out
        rw [HFF.out, rpF_full (B - m - 1) xs (m : Int) HKL.out (HBO1.out.1 rfl)] at this
        exact this.symm)
      obtain ⟨f1, f2, f3, f4, f7⟩ := put2s KR4.out (.int .i64 0) (.slice none 0 0)
      have HF7 := Lib.hid f7
      have HBF := Lib.hid (below_set (below_set HB4.out (g := w.heap.size + 1) (by omega) 0 (.int .i64 0)) (g := w.heap.size + 1) (by omega) 1 (.slice none 0 0))
      rw [← HW4.out] at f1 f2 f3 f4
      clear f7
      go_wp2
      rw [HW4.out]
      obtain ⟨W, hW⟩ : ∃ W, W = (W4.setCell ⟨w.heap.size + 1, 0, none⟩ (.int .i64 0)).setCell ⟨w.heap.size + 1, 1, none⟩ (.slice none 0 0) := ⟨_, rfl⟩
      rw [← hW] at HF7 HBF ⊢
      have z0 := HF7.out.cell 0 rfl
      have z1 := HF7.out.cell 1 rfl
      clear f1 f2 f3 f4 hW
      refine bodyPost_ret (v := .tuple #[.agg #[.int .i64 0, .slice none 0 0], .int .i64 0, .bool false, .bool false]) (by simp [results, Tryd.f74, go_sem, z0, z1]) rfl ⟨_, by rw [HRE.out]; rfl, by rw [HRE.out]; exact Ow.emptyUp HBF.out.size, HBF.out⟩
    subst hb
    have hqq : ¬ fullP rs k xs := fun h => by have := HBO1.out.2 h; cases this
    have hok := sp_ok HP.out HKL.out HCk.out hqq
    have hrn := HRr.out
    rw [HFF.out, rpF_next (B - m - 1) xs (m : Int) HKL.out hqq, HU1.out.1, HU1.out.2] at hrn
    rw [HU1.out.1, HU1.out.2] at hok
    obtain ⟨k', rfl⟩ : ∃ k' : Nat, u1 = (k' : Int) := ⟨u1.toNat, by have := hok.1.1; omega⟩
    have HOK2 := Lib.hid hok
    have HRN := Lib.hid hrn
    obtain ⟨f1, f2, f3, f4, f7⟩ := put2s KC4.out (.int .i64 (k' : Int)) (.slice g3 us.length c3)
    have HF7 := Lib.hid f7
    have n0 := KN4.out.cell 0 rfl
    have n1 := KN4.out.cell 1 rfl
    have HKR := Lib.hid ((KR4.out.other (p := ⟨b7, 0, none⟩) (by show w.heap.size + 1 ≠ b7; have := HN7.out; omega) (.int .i64 (k' : Int))).other (p := ⟨b7, 1, none⟩) (by show w.heap.size + 1 ≠ b7; have := HN7.out; omega) (.slice g3 us.length c3))
    have HBN := Lib.hid (below_set (below_set HB4.out (g := b7) (by have := HN7.out; omega) 0 (.int .i64 (k' : Int))) (g := b7) (by have := HN7.out; omega) 1 (.slice g3 us.length c3))
    have HON := Lib.hid ((O4.out.setO KC4.out st_ne 0 (.int .i64 (k' : Int))).setO (KC4.out.set 0 (.int .i64 (k' : Int))) st_ne 1 (.slice g3 us.length c3))
    rw [← HW4.out] at f1 f2 f3 f4 n0 n1
    clear f7 hok hrn hqq
    go_wp2
    rw [HW4.out]
    go_roundw
    case rel => exact ⟨k', m + 1, _, us, by go_num, by have := HMLT.out; omega, HOK2.out, by rw [show B - (m + 1) = B - m - 1 from by omega]; push_cast; exact HRN.out, HF7.out, HON.out, HKR.out, HBN.out⟩
    case measure => have := HMLT.out; simp [intOf]; omega
end Go.Proofs.YtgbhbbapkpgmiaaDoor.Ints
