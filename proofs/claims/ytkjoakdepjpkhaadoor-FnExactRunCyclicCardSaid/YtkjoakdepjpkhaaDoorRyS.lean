/- RunCyclic: the run of the model. (out of XRpS) -/
import Derived.Test.YtkjoakdepjpkhaaDoorCyW
import Derived.Test.YtkjoakdepjpkhaaDoorRyC
namespace Go.Proofs.YtkjoakdepjpkhaaDoor.Ints
open Go.RowKit
set_option linter.unusedVariables false
set_option linter.unusedSimpArgs false
theorem Ow.setY {w : World} {B g : Nat} {v : Value} {cs : List Int} {t : TypeId} {xs : List Value} (h : Ow w B w.heap.size v cs) (k : Cels w g t xs) (hne : t ≠ 2) (j : Nat) (x : Value) : Ow (w.setCell ⟨g, j, none⟩ x) B (w.setCell ⟨g, j, none⟩ x).heap.size v cs :=
  (h.grown (put1g w g j x) (.inr (h.nblk k hne))).up
theorem tu_ne : (41 : TypeId) ≠ 2 := by decide
theorem Cels.drewY {w : World} {g : Nat} {t : TypeId} {xs : List Value} (h : Cels w g t xs) : Cels w.drew g t xs := h.below (Below.refl _ _).drew h.lt
set_option maxHeartbeats 8000000 in
set_option maxRecDepth 100000 in
theorem specRunY (gc k0 B : Nat) (u : Value) (cs : List Int) (vz : Value) (zss : List (List Int)) (w : World) (hv : RdL w vz zss) (hu : Rd w u cs) (hg : Cels w gc 44 [vz]) (hp : cycB zss = true) (hc : k0 < zss.length ∧ overB 2 cs = true) (hB : B ≤ 20000)
    (R : RyE) (hR : R = ryF zss B k0 cs 0) :
    Calls Tryd.prog 80 #[.pointer (some ⟨gc, 0, none⟩), .agg #[.int .i64 (k0 : Int), u], .int .i64 (B : Int)] w fun e w' => ∃ r, e = .returned (.tuple #[.agg #[.int .i64 R.at', r], .int .i64 R.n, .bool R.h, .bool (decide (R.code = 0))]) ∧ Ow w' w.heap.size w'.heap.size r R.cs ∧ Below w.heap.size w w' := by
  have HV := Lib.hid hv
  have HU := Lib.hid hu
  have HGC := Lib.hid hg
  obtain ⟨_, _, au, cu, rfl, _, _⟩ := hu
  have HP := Lib.hid hp
  have HC := Lib.hid hc
  have HR := Lib.hid hR.symm
  have HBB := Lib.hid hB
  obtain ⟨W1, hW1⟩ : ∃ W, W = (w.alloc (Obj.cells #[.int .i64 (k0 : Int), .slice au cs.length cu] 41)).alloc (Obj.cells #[.int .i64 0, .slice none 0 0] 41) := ⟨_, rfl⟩
  have hB1 : Below w.heap.size w W1 := by rw [hW1]; exact ((Below.refl _ _).alloc (Nat.le_refl _) _).alloc (by simp) _
  have kx : Cels W1 w.heap.size 41 [.int .i64 (k0 : Int), .slice au cs.length cu] := by rw [hW1]; exact (Cels.new _ _ _).alloc _
  have kr : Cels W1 (w.heap.size + 1) 41 [.int .i64 0, .slice none 0 0] := by
    rw [hW1]
    have := Cels.new (w.alloc (Obj.cells #[.int .i64 (k0 : Int), .slice au cs.length cu] 41)) 41 [.int .i64 0, .slice none 0 0]
    rwa [World.size_alloc] at this
  have hsz : W1.heap.size = w.heap.size + 2 := by rw [hW1]; simp
  have KX := Lib.hid kx
  have KR1 := Lib.hid kr
  have HB1 := Lib.hid hB1
  have HW1 := Lib.hid hW1.symm
  have HSZ := Lib.hid hsz
  have HU2 := Lib.hid (HU.out.below hB1 (Nat.le_refl _))
  clear hW1 kx kr hB1 hp hc hR hsz hv hg
  go_enter Tryd.func80, Tryd.ntmps80
  go_upto_region 1 with fail
  rw [HW1.out]
  go_cut [10] (fun s10 wx => ∃ (b7 : Nat) (r : Value), s10 = .pointer (some ⟨b7, 0, none⟩) ∧ w.heap.size + 1 < b7 ∧ Cels wx b7 41 [.int .i64 (k0 : Int), r] ∧ Ow wx W1.heap.size wx.heap.size r cs ∧ Below W1.heap.size W1 wx)
  case first =>
    have HS1 : Hid (∀ w', Below W1.heap.size W1 w' → w'.cell? ⟨w.heap.size, 0, none⟩ = some (.int .i64 (k0 : Int)) ∧ w'.cell? ⟨w.heap.size, 1, none⟩ = some (.slice au cs.length cu)) := Lib.hid (fun W' h => ⟨(KX.out.below h KX.out.lt).cell 0 rfl, (KX.out.below h KX.out.lt).cell 1 rfl⟩)
    have HD : Hid (Below W1.heap.size W1 W1.drew) := Lib.hid (Below.refl _ _).drew
    go_region_held3 (fun w' => w'.cell? ⟨w.heap.size, 0, none⟩ = some (.int .i64 (k0 : Int)) ∧ w'.cell? ⟨w.heap.size, 1, none⟩ = some (.slice au cs.length cu)) (first | exact HS1.out _ HD.out | exact HS1.out _ (HD.out.alloc HD.out.size _) | exact HS1.out _ (((Below.refl _ _).alloc (Nat.le_refl _) _).drew) | exact HS1.out _ (below_set (below_set HD.out HZb.out _ _) HZb.out _ _) | exact HS1.out _ (below_set (below_set (HD.out.alloc HD.out.size _) HD.out.size _ _) HD.out.size _ _)) (first | (go_at_call 65; with_reducible refine (specOwn _ cs _ (by first | exact HU2.out.below HD.out (Nat.le_refl _) | exact HU2.out.below (HD.out.alloc HD.out.size _) (Nat.le_refl _) | exact HU2.out.below (((Below.refl _ _).alloc (Nat.le_refl _) _).drew) (Nat.le_refl _))).mono ?_; rintro e w1 ⟨r, rfl, or, bq⟩; (try (with_reducible have KZ := Lib.hid (cels_pre bq); have HZb := Lib.hid HD.out.size)); (try (with_reducible have KZ := Lib.hid (cels_preD bq); have HZb := Lib.hid (Nat.le_refl W1.heap.size))); have HO := Lib.hid (or.mono (B' := W1.heap.size) (by first | exact HD.out.size | exact (HD.out.alloc HD.out.size _).size | exact (((Below.refl _ _).alloc (Nat.le_refl _) _).drew).size) (Nat.le_refl _) (Nat.le_refl _)); obtain ⟨ga, gc', hu⟩ := or.shape; subst hu; (try (with_reducible have HOz := Lib.hid (owY_pre or))); (try (with_reducible have HOz := Lib.hid (owY_preD or))); clear or; (try with_reducible replace bq := below_pre bq); (try with_reducible replace bq := below_preD bq); replace HD := Lib.hid (HD.out.trans (bq.mono HD.out.size)); clear bq; (try (have HF := Lib.hid (put2y KZ.out (.int .i64 (k0 : Int)) (.slice ga cs.length gc')); obtain ⟨f1, f2, f3, f4, f7⟩ := HF.out; have HF7 := Lib.hid f7; clear f7))))
    all_goals (go_wp2_with fail; go_meet)
    all_goals first
      | exact ⟨_, _, rfl, by have := HSZ.out; have := HD.out.size; omega, Cels.new _ _ _, ownYa HD.out HO.out, HD.out.alloc HD.out.size _⟩
      | exact ⟨_, _, rfl, by have := HSZ.out; have := HZb.out; omega, HF7.out, (((HOz.out.apartCell (Nat.lt_succ_self _) 0 (.int .i64 (k0 : Int))).apartCell (Nat.lt_succ_self _) 1 _).mono (Nat.le_succ_of_le HZb.out) (by simp) (Nat.le_refl _)), below_set (below_set HD.out HZb.out _ _) HZb.out _ _⟩
  obtain ⟨b7, r, rfl, hb7, k7, ho, hb⟩ := hcut
  obtain ⟨W3, hW3⟩ : ∃ x, x = wc := ⟨_, rfl⟩
  subst hW3
  have HO0 := Lib.hid (ho.mono (B' := w.heap.size) HB1.out.size (Nat.le_refl _) (Nat.le_refl _))
  have HBB0 := Lib.hid (HB1.out.trans (hb.mono HB1.out.size))
  have K70 := Lib.hid k7
  have KR3 := Lib.hid (KR1.out.below hb KR1.out.lt)
  have HN7 : Hid (w.heap.size + 1 < b7) := Lib.hid hb7
  obtain ⟨ga0, gc0, hr0⟩ := ho.shape
  subst hr0
  clear ho hb k7 hb7 HW1 HU2
  go_wp2
  go_loopw [11] (fun s wr => ∃ (k m : Nat) (r : Value) (xs : List Int), s = .int .i64 (m : Int) ∧ m ≤ B ∧ (k < zss.length ∧ overB 2 xs = true) ∧ ryF zss (B - m) k xs (m : Int) = R ∧ Cels wr b7 41 [.int .i64 (k : Int), r] ∧ Ow wr w.heap.size wr.heap.size r xs ∧ Cels wr (w.heap.size + 1) 41 [.int .i64 0, .slice none 0 0] ∧ Below w.heap.size w wr) (fun s _ => B + 1 - (intOf s).toNat)
  case atStart => exact ⟨k0, 0, _, cs, rfl, Nat.zero_le _, HC.out, HR.out, K70.out, HO0.out, KR3.out, HBB0.out⟩
  case round =>
    obtain ⟨k, m, r, xs, rfl, hm, hc, hr, kc, ho, kr, hb⟩ := hrel
    obtain ⟨ga, gc1, hr0⟩ := ho.shape
    subst hr0
    have HCk := Lib.hid hc
    have HRr := Lib.hid hr
    have KC := Lib.hid kc
    have KR := Lib.hid kr
    have HB := Lib.hid hb
    have HO := Lib.hid ho
    have hne : b7 ≠ w.heap.size + 1 := by have := HN7.out; omega
    have HNE := Lib.hid hne
    clear hc hr kc kr hb ho K70 KR3 HBB0 HO0 HC HR hne
    have fin : ∀ (wz : World) (x : Int) (h : Cels wz b7 41 [.int .i64 x, .slice ga xs.length gc1]) (kz : Cels wz (w.heap.size + 1) 41 [.int .i64 0, .slice none 0 0]) (oz : Ow wz w.heap.size wz.heap.size (.slice ga xs.length gc1) xs) (bz : Below w.heap.size w wz),
        Hid (Cels ((wz.setCell ⟨w.heap.size + 1, 0, none⟩ (.int .i64 x)).setCell ⟨w.heap.size + 1, 1, none⟩ (.slice ga xs.length gc1)) (w.heap.size + 1) 41 [.int .i64 x, .slice ga xs.length gc1] ∧
          Ow ((wz.setCell ⟨w.heap.size + 1, 0, none⟩ (.int .i64 x)).setCell ⟨w.heap.size + 1, 1, none⟩ (.slice ga xs.length gc1)) w.heap.size ((wz.setCell ⟨w.heap.size + 1, 0, none⟩ (.int .i64 x)).setCell ⟨w.heap.size + 1, 1, none⟩ (.slice ga xs.length gc1)).heap.size (.slice ga xs.length gc1) xs ∧
          Below w.heap.size w ((wz.setCell ⟨w.heap.size + 1, 0, none⟩ (.int .i64 x)).setCell ⟨w.heap.size + 1, 1, none⟩ (.slice ga xs.length gc1))) := fun wz x h kz oz bz => Lib.hid
      ⟨(kz.set 0 _).set 1 _, (oz.setY kz tu_ne 0 _).setY (kz.set 0 _) tu_ne 1 _, below_set (below_set bz (by omega) _ _) (by omega) _ _⟩
    have HFIN := Lib.hid fin
    clear fin
    by_cases hmB : m = B
    · obtain ⟨hq, hhq⟩ : ∃ q : Bool, q = decide (xs.length = 0) := ⟨_, rfl⟩
      have HRE : Hid (R = ⟨0, (k : Int), xs, (m : Int), hq⟩) := Lib.hid (by have := HRr.out; rw [← hmB, Nat.sub_self] at this; rw [← this, hhq]; rfl)
      have hq2 : ((xs.length : Int) == 0) = hq := by rw [hhq, Bool.eq_iff_iff]; simp
      have HMB := Lib.hid hmB
      have y0 := KC.out.cell 0 rfl
      have y1 := KC.out.cell 1 rfl
      have y2 := ((KC.out.other (p := ⟨w.heap.size + 1, 0, none⟩) HNE.out (.int .i64 (k : Int))).other (p := ⟨w.heap.size + 1, 1, none⟩) HNE.out (.slice ga xs.length gc1)).cell 1 rfl
      obtain ⟨f1, f2, f3, f4, f7⟩ := put2y KR.out (.int .i64 (k : Int)) (.slice ga xs.length gc1)
      have hlt : ¬ ((m : Int) < (B : Int)) := by omega
      clear hmB hhq f7
      go_upto_region 11 with fail
      go_region
      all_goals go_wp2
      all_goals
        have HF := HFIN.out wr (k : Int) KC.out KR.out HO.out HB.out
        obtain ⟨W, hW⟩ : ∃ W, W = ((wr.setCell ⟨w.heap.size + 1, 0, none⟩ (.int .i64 (k : Int))).setCell ⟨w.heap.size + 1, 1, none⟩ (.slice ga xs.length gc1)) := ⟨_, rfl⟩
        rw [← hW] at HF
        have hd := HF.out.2.2.trans ((Below.refl W.heap.size W).drew.mono HF.out.2.2.size)
        have z0 := HF.out.1.drewY.cell 0 rfl
        have z1 := HF.out.1.drewY.cell 1 rfl
        have ho := (HF.out.2.1.below (Below.refl _ _).drew (Nat.le_refl _)).up
        rw [hW] at z0 z1 ho hd
        refine bodyPost_ret (v := .tuple #[.agg #[.int .i64 (k : Int), .slice ga xs.length gc1], .int .i64 (m : Int), .bool hq, .bool true]) (by simp [results, Tryd.f80, go_sem, z0, z1, HMB.out]) rfl ⟨_, by rw [HRE.out]; rfl, by rw [HRE.out]; exact ho, hd⟩
    have k2 : decide ((m : Int) < (B : Int)) = true := decide_eq_true (by omega)
    have hmlt : m < B := by omega
    have HMLT := Lib.hid hmlt
    by_cases hk : xs.length = 0
    · have k1 : ((xs.length : Int) == 0) = true := by simp [hk]
      have HRE : Hid (R = ⟨0, (k : Int), xs, (m : Int), true⟩) := Lib.hid (by have := HRr.out; rw [ryF_halt _ _ _ hk] at this; exact this.symm)
      have y0 := KC.out.cell 0 rfl
      have y1 := KC.out.cell 1 rfl
      obtain ⟨f1, f2, f3, f4, f7⟩ := put2y KR.out (.int .i64 (k : Int)) (.slice ga xs.length gc1)
      clear hmB f7 hk
      go_wp2
      have HF := HFIN.out wr (k : Int) KC.out KR.out HO.out HB.out
      obtain ⟨W, hW⟩ : ∃ W, W = ((wr.setCell ⟨w.heap.size + 1, 0, none⟩ (.int .i64 (k : Int))).setCell ⟨w.heap.size + 1, 1, none⟩ (.slice ga xs.length gc1)) := ⟨_, rfl⟩
      rw [← hW] at HF ⊢
      have z0 := HF.out.1.cell 0 rfl
      have z1 := HF.out.1.cell 1 rfl
      clear f1 f2 f3 f4 hW y0 y1
      refine bodyPost_ret (v := .tuple #[.agg #[.int .i64 (k : Int), .slice ga xs.length gc1], .int .i64 (m : Int), .bool true, .bool true]) (by simp [results, Tryd.f80, go_sem, z0, z1]) rfl ⟨_, by rw [HRE.out]; rfl, by rw [HRE.out]; exact HF.out.2.1, HF.out.2.2⟩
    have k1 : ((xs.length : Int) == 0) = false := by simp [hk]
    have HKL : Hid (¬ xs.length = 0) := Lib.hid hk
    obtain ⟨bo, hbo⟩ : ∃ b : Bool, b = decide ((apC zss k xs).length ≤ 1000) := ⟨_, rfl⟩
    have HBO := Lib.hid hbo
    have y0 := KC.out.cell 0 rfl
    have y1 := KC.out.cell 1 rfl
    have HFX := Lib.hid (And.intro (cycB_ok HP.out).1.2 (And.intro (overB_ok HCk.out.2).1 ((cycB_ok HP.out).2 k HCk.out.1).1))
    clear hk hmB hbo hmlt
    go_wp2_with fail
    refine (specNextY gc b7 _ zss k _ xs _ (HV.out.below HB.out (Nat.le_refl _)) HO.out.rd (HGC.out.below HB.out HGC.out.lt) KC.out HCk.out.1 HFX.out.1 (by have := HKL.out; omega) HFX.out.2.1 HFX.out.2.2).mono ?_
    rintro e w3 ⟨r3, rfl, o3, hb3⟩
    rw [← HBO.out]
    obtain ⟨g3, c3, hr3⟩ := o3.shape
    subst hr3
    obtain ⟨k', hk'⟩ : ∃ u, u = nxJ zss k := ⟨_, rfl⟩
    obtain ⟨us, hus⟩ : ∃ u, u = apC zss k xs := ⟨_, rfl⟩
    have HU1 : Hid (nxJ zss k = k' ∧ apC zss k xs = us) := Lib.hid ⟨hk'.symm, hus.symm⟩
    rw [← hus] at o3 HBO
    rw [← hk', ← hus]
    have KR3 := Lib.hid (KR.out.below hb3 KR.out.lt)
    have KC3 := Lib.hid (KC.out.below hb3 KC.out.lt)
    have HB3 := Lib.hid (HB.out.trans (hb3.mono HB.out.size))
    have O3 := Lib.hid (o3.mono (B' := w.heap.size) HB.out.size (Nat.le_refl _) (Nat.le_refl _))
    clear hk' hus hb3 o3 y0 y1 k2
    have hA : Below w3.heap.size w3 (w3.alloc (Obj.cells #[.int .i64 (k' : Int), .slice g3 us.length c3] 41)) := (Below.refl _ _).alloc (Nat.le_refl _) _
    obtain ⟨W4, hW4⟩ : ∃ W, W = w3.alloc (Obj.cells #[.int .i64 (k' : Int), .slice g3 us.length c3] 41) := ⟨_, rfl⟩
    have KR4 := Lib.hid (KR3.out.below hA KR3.out.lt)
    have KC4 := Lib.hid (KC3.out.below hA KC3.out.lt)
    have HB4 := Lib.hid (HB3.out.trans (hA.mono HB3.out.size))
    have O4 := Lib.hid (O3.out.below hA (Nat.le_refl _)).up
    have KN4 : Hid (Cels W4 w3.heap.size 41 [.int .i64 (k' : Int), .slice g3 us.length c3]) := Lib.hid (by rw [hW4]; exact Cels.new _ _ _)
    rw [← hW4] at KR4 KC4 HB4 O4
    have HW4 := Lib.hid hW4.symm
    clear hA hW4
    have HFF : Hid (B - m = (B - m - 1) + 1) := Lib.hid (by have := HMLT.out; omega)
    rcases eqOr bo with hb | hb
    · subst hb
      have HRE : Hid (R = ⟨5, 0, [], 0, false⟩) := Lib.hid (by
        have := HRr.out
        rw [HFF.out, ryF_full (B - m - 1) k (m : Int) HKL.out (by rw [HU1.out.2]; have := HBO.out; intro h; rw [decide_eq_true h] at this; cases this)] at this
        exact this.symm)
      obtain ⟨f1, f2, f3, f4, f7⟩ := put2y KR4.out (.int .i64 0) (.slice none 0 0)
      have HF7 := Lib.hid f7
      have HBF := Lib.hid (below_set (below_set HB4.out (g := w.heap.size + 1) (by omega) 0 (.int .i64 0)) (g := w.heap.size + 1) (by omega) 1 (.slice none 0 0))
      rw [← HW4.out] at f1 f2 f3 f4
      clear f7
      go_wp2
      rw [HW4.out]
      obtain ⟨W, hW⟩ : ∃ W, W = (W4.setCell ⟨w.heap.size + 1, 0, none⟩ (.int .i64 0)).setCell ⟨w.heap.size + 1, 1, none⟩ (.slice none 0 0) := ⟨_, rfl⟩
      rw [← hW] at HF7 HBF ⊢
      have z0 := HF7.out.cell 0 rfl
      have z1 := HF7.out.cell 1 rfl
      clear f1 f2 f3 f4 hW
      refine bodyPost_ret (v := .tuple #[.agg #[.int .i64 0, .slice none 0 0], .int .i64 0, .bool false, .bool false]) (by simp [results, Tryd.f80, go_sem, z0, z1]) rfl ⟨_, by rw [HRE.out]; rfl, by rw [HRE.out]; exact Ow.emptyUp HBF.out.size, HBF.out⟩
    subst hb
    have hle : us.length ≤ 1000 := of_decide_eq_true HBO.out.symm
    have hrn := HRr.out
    rw [HFF.out, ryF_next (B - m - 1) k (m : Int) HKL.out (by rw [HU1.out.2]; exact hle), HU1.out.1, HU1.out.2] at hrn
    have HOK2 : Hid (k' < zss.length ∧ overB 2 us = true) := Lib.hid ⟨by rw [← HU1.out.1]; exact nxJ_lt HP.out _, by rw [← HU1.out.2]; exact apC_ok HP.out HCk.out.1 HCk.out.2 (by rw [HU1.out.2]; exact hle)⟩
    have HRN := Lib.hid hrn
    obtain ⟨f1, f2, f3, f4, f7⟩ := put2y KC4.out (.int .i64 (k' : Int)) (.slice g3 us.length c3)
    have HF7 := Lib.hid f7
    have n0 := KN4.out.cell 0 rfl
    have n1 := KN4.out.cell 1 rfl
    have HKR := Lib.hid ((KR4.out.other (p := ⟨b7, 0, none⟩) (by show w.heap.size + 1 ≠ b7; have := HN7.out; omega) (.int .i64 (k' : Int))).other (p := ⟨b7, 1, none⟩) (by show w.heap.size + 1 ≠ b7; have := HN7.out; omega) (.slice g3 us.length c3))
    have HBN := Lib.hid (below_set (below_set HB4.out (g := b7) (by have := HN7.out; omega) 0 (.int .i64 (k' : Int))) (g := b7) (by have := HN7.out; omega) 1 (.slice g3 us.length c3))
    have HON := Lib.hid ((O4.out.setY KC4.out tu_ne 0 (.int .i64 (k' : Int))).setY (KC4.out.set 0 (.int .i64 (k' : Int))) tu_ne 1 (.slice g3 us.length c3))
    rw [← HW4.out] at f1 f2 f3 f4 n0 n1
    clear f7 hrn hle
    go_wp2
    rw [HW4.out]
    go_roundw
    case rel => exact ⟨k', m + 1, _, us, by go_num, by have := HMLT.out; omega, HOK2.out, by rw [show B - (m + 1) = B - m - 1 from by omega]; push_cast; exact HRN.out, HF7.out, HON.out, HKR.out, HBN.out⟩
    case measure => have := HMLT.out; simp [intOf]; omega
end Go.Proofs.YtkjoakdepjpkhaaDoor.Ints
