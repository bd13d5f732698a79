/- A step of a cyclic tag system: the model's. -/
import Derived.Test.YtkjoakdepjpkhaaDoorCyT
import Derived.Deep.RegionHeld3
import Derived.Deep.DeepCutAuto
namespace Go.Proofs.YtkjoakdepjpkhaaDoor.Ints
open Go.RowKit
set_option linter.unusedVariables false
set_option linter.unusedSimpArgs false
set_option maxHeartbeats 2000000 in
theorem specTurnY (gc gx : Nat) (v : Value) (zss : List (List Int)) (at' : Int) (u : Value) (xs : List Int) (w : World) (hv : RdL w v zss) (hu : Rd w u xs) (hc : Cels w gc 44 [v]) (hx : Cels w gx 41 [.int .i64 at', u]) :
    Calls Tryd.prog 108 #[.pointer (some ⟨gc, 0, none⟩), .pointer (some ⟨gx, 0, none⟩)] w fun e w' => e = .returned (.bool (decide (0 ≤ at' ∧ at' < (zss.length : Int)) && overB 2 xs)) ∧ Below w.heap.size w w' := by
  have HU := Lib.hid hu
  have hl := hv.len
  obtain ⟨_, a, c, rfl, hcap, _⟩ := hv
  obtain ⟨_, _, a2, c2, rfl, _, _⟩ := hu
  have x0 := hc.cell 0 rfl
  have y0 := hx.cell 0 rfl
  have y1 := hx.cell 1 rfl
  clear hx hc
  obtain ⟨m, hm⟩ : ∃ m : Int, m = (zss.length : Int) - 1 := ⟨_, rfl⟩
  have ew : IntKind.i64.wrap ((zss.length : Int) - 1) = m := by rw [IntKind.wrap_i64]; omega
  have HUU : Hid (∀ W : World, W = w → Rd W (.slice a2 xs.length c2) xs) := Lib.hid (fun W h => h ▸ HU.out)
  by_cases h1 : 0 ≤ at' ∧ at' < (zss.length : Int)
  · have HI : Hid (0 ≤ at' ∧ at' ≤ m) := Lib.hid (by omega)
    have HE : Hid ((decide (0 ≤ at' ∧ at' < (zss.length : Int)) && overB 2 xs) = overB 2 xs) := Lib.hid (by rw [decide_eq_true h1, Bool.true_and])
    clear h1 hm
    go_enter Tryd.func108, Tryd.ntmps108
    go_wp2
    go_quiet (first | (go_at_call 82; exact Calls.quiet_of_same (specInB _ _ _ true _ ⟨fun _ => HI.out, fun _ => rfl⟩)) | (go_at_call 131; exact Calls.quiet_of_same ((specBits _ xs _ (HU.out.below (below_drewN (Below.refl _ _) _) (Nat.le_refl _))).mono fun _ _ h => ⟨h.1, h.2.symm⟩)))
    go_wp2
    go_ret
    exact ⟨by rw [HE.out] <;> rfl, below_drewN (Below.refl _ _) _⟩
  · have HI : Hid (¬ (0 ≤ at' ∧ at' ≤ m)) := Lib.hid (by omega)
    have HE : Hid ((decide (0 ≤ at' ∧ at' < (zss.length : Int)) && overB 2 xs) = false) := Lib.hid (by rw [decide_eq_false h1, Bool.false_and])
    clear h1 hm
    go_enter Tryd.func108, Tryd.ntmps108
    go_wp2
    go_quiet ((go_at_call 82; exact Calls.quiet_of_same (specInB _ _ _ false _ ⟨fun h => (by cases h), fun h => (by have := HI.out; omega)⟩)))
    go_wp2
    go_ret
    exact ⟨by rw [HE.out] <;> rfl, below_drewN (Below.refl _ _) _⟩
theorem specTurnB (gc gx : Nat) (v : Value) (zss : List (List Int)) (at' : Int) (u : Value) (xs : List Int) (w : World) (hv : RdL w v zss) (hu : Rd w u xs) (hc : Cels w gc 44 [v]) (hx : Cels w gx 41 [.int .i64 at', u]) (b : Bool) (hb : b = (decide (0 ≤ at' ∧ at' < (zss.length : Int)) && overB 2 xs)) :
    Calls Tryd.prog 108 #[.pointer (some ⟨gc, 0, none⟩), .pointer (some ⟨gx, 0, none⟩)] w fun e w' => e = .returned (.bool b) ∧ Below w.heap.size w w' := hb ▸ specTurnY gc gx v zss at' u xs w hv hu hc hx
set_option maxHeartbeats 1000000 in
theorem specAskY (gc gx : Nat) (v : Value) (zss : List (List Int)) (at' : Int) (x : Value) (xs : List Int) (w : World) (hv : RdL w v zss) (hxs : Rd w x xs) (hc : Cels w gc 44 [v]) (hx : Cels w gx 41 [.int .i64 at', x])
    (ok : Bool) (hok : ok = turnB zss at' xs) (cd : Int) (hc0 : ok = true → cd = 0) (hc1 : ok = false → cd = 1) :
    Calls Tryd.prog 75 #[.pointer (some ⟨gc, 0, none⟩), .pointer (some ⟨gx, 0, none⟩)] w fun e w' => e = .returned (.int .i64 cd) ∧ Below w.heap.size w w' := by
  have HV := Lib.hid hv
  have HXS := Lib.hid hxs
  have HC := Lib.hid hc
  have HX := Lib.hid hx
  obtain ⟨_, a, c, rfl, _, _⟩ := hv
  obtain ⟨_, _, a3, c3, rfl, _, _⟩ := hxs
  obtain ⟨b1, hb1⟩ : ∃ b, b = cycB zss := ⟨_, rfl⟩
  obtain ⟨b2, hb2⟩ : ∃ b, b = (decide (0 ≤ at' ∧ at' < (zss.length : Int)) && overB 2 xs) := ⟨_, rfl⟩
  have HB1 := Lib.hid hb1
  have HB2 := Lib.hid hb2
  have HOK : Hid (ok = (b1 && b2)) := Lib.hid (by rw [hok, hb1, hb2]; rfl)
  have HC0 := Lib.hid hc0
  have HC1 := Lib.hid hc1
  clear hb1 hb2 hok hc0 hc1 hx hc
  rcases eqOr b1 with hb | hb
  · subst hb
    obtain rfl : cd = 1 := HC1.out (by rw [HOK.out]; rfl)
    go_enter Tryd.func75, Tryd.ntmps75
    go_wp2_with fail
    refine (specCycIs gc _ zss _ HV.out HC.out).mono ?_
    rintro e w1 ⟨rfl, rfl⟩
    rw [← HB1.out]
    go_wp2
    go_ret
    exact ⟨rfl, Below.refl _ _⟩
  subst hb
  rcases eqOr b2 with hb | hb
  · subst hb
    obtain rfl : cd = 1 := HC1.out (by rw [HOK.out]; rfl)
    go_enter Tryd.func75, Tryd.ntmps75
    go_wp2_with fail
    refine (specCycIs gc _ zss _ HV.out HC.out).mono ?_
    rintro e w1 ⟨rfl, rfl⟩
    rw [← HB1.out]
    go_wp2_with (go_at_call 108; refine (specTurnB gc gx _ zss at' _ xs _ HV.out HXS.out HC.out HX.out _ HB2.out).mono ?_; rintro e w2 ⟨rfl, hb2⟩; have HBB := Lib.hid hb2; clear hb2)
    go_ret
    exact ⟨rfl, HBB.out⟩
  subst hb
  obtain rfl : cd = 0 := HC0.out (by rw [HOK.out]; rfl)
  go_enter Tryd.func75, Tryd.ntmps75
  go_wp2_with fail
  refine (specCycIs gc _ zss _ HV.out HC.out).mono ?_
  rintro e w1 ⟨rfl, rfl⟩
  rw [← HB1.out]
  go_wp2_with (go_at_call 108; refine (specTurnB gc gx _ zss at' _ xs _ HV.out HXS.out HC.out HX.out _ HB2.out).mono ?_; rintro e w2 ⟨rfl, hb2⟩; have HBB := Lib.hid hb2; clear hb2)
  go_ret
  exact ⟨rfl, HBB.out⟩
theorem ow_cut1 {w : World} {a : Option Addr} {c : Nat} {xs : List Int} (h : Rd w (.slice a xs.length c) xs) (h0 : 0 < xs.length) :
    Rd w (.slice (if c = 1 then a else a.map (·.add 1)) (xs.length - 1) (c - 1)) (xs.drop 1) := by
  have := h.cutT 1 xs.length h0 (Nat.le_refl _)
  rwa [List.take_length] at this
theorem ownYa {w0 w1 : World} {t : TypeId} {th : Int} {r : Value} {cs : List Int} (hb : Below w0.heap.size w0 w1) (ho : Ow w1 w0.heap.size w1.heap.size r cs) :
    Ow (w1.alloc (.cells #[.int .i64 th, r] t)) w0.heap.size (w1.alloc (.cells #[.int .i64 th, r] t)).heap.size r cs :=
  (ho.below ((Below.refl w1.heap.size w1).alloc (Nat.le_refl _) (.cells #[.int .i64 th, r] t)) (Nat.le_refl _)).mono (Nat.le_refl _) (by simp) (Nat.le_refl _)
theorem owY_preD {w w1 : World} {o : Obj} {r : Value} {cs : List Int} (h : Ow w1 (w.alloc o).drew.heap.size w1.heap.size r cs) : Ow w1 (w.heap.size + 1) w1.heap.size r cs := h.mono (by simp) (Nat.le_refl _) (Nat.le_refl _)
theorem owY_pre {w w1 : World} {o : Obj} {r : Value} {cs : List Int} (h : Ow w1 (w.alloc o).heap.size w1.heap.size r cs) : Ow w1 (w.heap.size + 1) w1.heap.size r cs := h.mono (by simp) (Nat.le_refl _) (Nat.le_refl _)
/-- Behind an append to a turn's word: what the store into the turn asks, and what it leaves. -/
theorem yAfter {w W w4 : World} {B g : Nat} {v v' : Value} {at' : Value} {xs ys : List Int} (hk : Cels w g 41 [at', v]) (ho : Ow w B w.heap.size v xs) (hB : B ≤ g) (hl : xs.length + ys.length ≤ 2000) (hy : Fit ys)
    (hb : Below w.heap.size w W) (hown : w4.ownsRow B 2 1 v' (xs.length + ys.length) ((xs ++ ys).map (Value.int .i64))) (hgr : W.grownBy w4 v.ownBlock) :
    w4.cell? ⟨g, 1, none⟩ = some v ∧ w4.frozen? ⟨g, 1, none⟩ = false ∧ Cels (w4.setCell ⟨g, 1, none⟩ v') g 41 [at', v'] ∧
    Ow (w4.setCell ⟨g, 1, none⟩ v') B (w4.setCell ⟨g, 1, none⟩ v').heap.size v' (xs ++ ys) ∧ Below B w (w4.setCell ⟨g, 1, none⟩ v') := by
  have hk1 := hk.below hb hk.lt
  have ho1 := ho.below hb (Nat.le_refl _)
  have hk4 := hk1.grown hgr (ho1.nblk hk1 (by decide))
  have hBw : B ≤ w.heap.size := ho.base
  have hb4 : Below B w w4 := (hb.mono hBw).grown hgr (Nat.le_trans hBw hb.size) (fun q hq => (ho.row.lt q hq).1)
  have ho4 : Ow w4 B w4.heap.size v' (xs ++ ys) := ⟨by rw [List.length_append]; omega, fun z hz => by
    rcases List.mem_append.1 hz with hz | hz
    · exact ho.fit z hz
    · exact hy z hz, by rw [List.length_append]; exact hown, fun k hk => (hown.lt k hk).2, Nat.le_refl _, Nat.le_trans hBw hb4.size⟩
  exact ⟨hk4.cell 1 rfl, hk4.frozen 1, hk4.set 1 v', (ho4.grown (put1g w4 g 1 v') (.inr (ho4.nblk hk4 (by decide)))).up, below_set hb4 hB 1 v'⟩
set_option maxRecDepth 100000 in
set_option maxHeartbeats 8000000 in
theorem specNextY (gc gx : Nat) (v : Value) (zss : List (List Int)) (j : Nat) (x : Value) (xs : List Int) (w : World) (hv : RdL w v zss) (hxs : Rd w x xs) (hc : Cels w gc 44 [v]) (hx : Cels w gx 41 [.int .i64 (j : Int), x]) (hj : j < zss.length) (hzl : zss.length ≤ 400) (h0 : 0 < xs.length) (h1 : xs.length ≤ 1000) (h2 : (zss.getD j []).length ≤ 1000) :
    Calls Tryd.prog 76 #[.pointer (some ⟨gc, 0, none⟩), .pointer (some ⟨gx, 0, none⟩)] w fun e w' => ∃ r, e = .returned (.tuple #[.agg #[.int .i64 ((nxJ zss j : Nat) : Int), r], .bool (decide ((apC zss j xs).length ≤ 1000))]) ∧ Ow w' w.heap.size w'.heap.size r (apC zss j xs) ∧ Below w.heap.size w w' := by
  have HXS := Lib.hid hxs
  obtain ⟨_, az, cz, rfl, _, hrz⟩ := hv
  obtain ⟨bz, oz, rfl, hbz, hcz⟩ := hrz (by intro h; rw [h] at hj; simp at hj)
  obtain ⟨yv, hcy, hyr⟩ := hcz j hj
  obtain ⟨ys, hys⟩ : ∃ ys, ys = zss.getD j [] := ⟨_, rfl⟩
  rw [← hys] at hyr h2
  have HYR := Lib.hid hyr
  obtain ⟨_, _, ay, cy, rfl, _, _⟩ := hyr
  obtain ⟨_, _, a, c, rfl, hcap, hr⟩ := hxs
  obtain ⟨b, o, rfl, hb, hcell⟩ := hr (by intro h; rw [h] at h0; simp at h0)
  have hc0 := hcell 0 h0
  rw [Nat.add_zero] at hc0
  have hbz' := World.block_lt_of_cell? w _ hcy
  obtain ⟨y, hy⟩ : ∃ y, y = xs.getD 0 0 := ⟨_, rfl⟩
  rw [← hy] at hc0
  obtain ⟨D, hD⟩ : ∃ D, D = xs.drop 1 := ⟨_, rfl⟩
  have hcut1 := ow_cut1 HXS.out h0
  rw [← hD] at hcut1
  have HDL : Hid (D.length + 1 = xs.length ∧ D.length ≤ 1000) := Lib.hid (by rw [hD, List.length_drop]; omega)
  have HY1 : Hid (y = 1 → apC zss j xs = D ++ ys) := Lib.hid (fun h => by rw [apC_one (by rw [← hy]; exact h), ← hD, ← hys])
  have HY0 : Hid (¬ y = 1 → apC zss j xs = D) := Lib.hid (fun h => by rw [apC_not (by rw [← hy]; exact h), ← hD])
  obtain ⟨L, hL⟩ : ∃ L, L = zss.length := ⟨_, rfl⟩
  rw [← hL] at hc hj hzl
  obtain ⟨W0, hW0⟩ : ∃ W, W = w.alloc (Obj.cells #[.int .i64 0, .slice none 0 0] 41) := ⟨_, rfl⟩
  have hB0 : Below w.heap.size w W0 := by rw [hW0]; exact (Below.refl _ _).alloc (Nat.le_refl _) _
  have HB0 := Lib.hid hB0
  have K4 : Hid (Cels W0 w.heap.size 41 [.int .i64 0, .slice none 0 0]) := Lib.hid (by rw [hW0]; exact Cels.new _ _ _)
  have HSZ : Hid (W0.heap.size = w.heap.size + 1) := Lib.hid (by rw [hW0]; simp)
  have HX0 := Lib.hid (hx.below hB0 hx.lt)
  have HC0 := Lib.hid (hc.below hB0 hc.lt)
  have HC1 : Hid (∀ W, Below w.heap.size w W → W.cell? ⟨b, o, none⟩ = some (.int .i64 y) ∧ W.cell? ⟨bz, oz + j, none⟩ = some (.slice ay ys.length cy)) := Lib.hid (fun W h => ⟨(h.cell (p := ⟨b, o, none⟩) hb).trans hc0, (h.cell (p := ⟨bz, oz + j, none⟩) hbz').trans hcy⟩)
  have HCUT1 := Lib.hid (hcut1.below hB0 (Nat.le_refl _))
  have HW0 := Lib.hid hW0.symm
  obtain ⟨nx, hnx⟩ : ∃ n : Nat, n = (j + 1) % L := ⟨_, rfl⟩
  have i1 : IntKind.i64.wrap ((j : Int) + 1) = (j : Int) + 1 := by rw [IntKind.wrap_i64]; omega
  have i2 := nxJ_tmod j L
  have i3 : ¬ ((L : Int) = 0) := by omega
  have i4 : ¬ (L = 0) := by omega
  have j0 : (0 : Int) ≤ (j : Int) := by omega
  have j1 : (j : Int) < (L : Int) := by omega
  have j2 : (1 : Int) ≤ (xs.length : Int) := by omega
  have j3 : (1 : Int) ≤ (c : Int) := by omega
  have j4 : (0 : Int) < (xs.length : Int) := by omega
  have j5 : (xs.length : Int) ≤ (c : Int) := by omega
  rw [← hnx] at i2
  have HNX : Hid (nxJ zss j = nx) := Lib.hid (by rw [hnx, hL]; rfl)
  obtain ⟨bo, hbo⟩ : ∃ bo, bo = decide ((apC zss j xs).length ≤ 1000) := ⟨_, rfl⟩
  rw [← hbo]
  have HBO := Lib.hid hbo
  have HL := Lib.hid (And.intro h1 (And.intro h2 h0))
  clear hc hx hcz hrz hcy hys hcell hr hc0 hy hD hcut1 hB0 hW0 hnx hbo h0 h1 h2 hj hzl hb hbz hbz' hL
  go_enter Tryd.func76, Tryd.ntmps76
  go_upto_region 1 with fail
  rw [HW0.out]
  go_cut [6] (fun s6 wx => ∃ (b6 : Nat) (u : Value), s6 = .pointer (some ⟨b6, 0, none⟩) ∧ W0.heap.size ≤ b6 ∧ Cels wx b6 41 [.int .i64 (nx : Int), u] ∧ Ow wx W0.heap.size wx.heap.size u D ∧ Below W0.heap.size W0 wx)
  case first =>
    have HS1 : Hid (∀ w', Below W0.heap.size W0 w' → w'.cell? ⟨gc, 0, none⟩ = some (.slice (some ⟨bz, oz, none⟩) L cz) ∧ w'.cell? ⟨gx, 0, none⟩ = some (.int .i64 (j : Int)) ∧ w'.cell? ⟨gx, 1, none⟩ = some (.slice (some ⟨b, o, none⟩) xs.length c)) := Lib.hid (fun W' h => ⟨(HC0.out.below h HC0.out.lt).cell 0 rfl, (HX0.out.below h HX0.out.lt).cell 0 rfl, (HX0.out.below h HX0.out.lt).cell 1 rfl⟩)
    have HD : Hid (Below W0.heap.size W0 W0.drew) := Lib.hid (Below.refl _ _).drew
    by_cases hgd : c = 1
    · subst hgd
      have HCUT : Hid (Rd W0 (.slice (some ⟨b, o, none⟩) 0 0) D) := Lib.hid (by have := HCUT1.out; rw [if_pos rfl, show xs.length = 1 by omega] at this; exact this)
      clear HCUT1
      go_region_held3 (fun w' => w'.cell? ⟨gc, 0, none⟩ = some (.slice (some ⟨bz, oz, none⟩) L cz) ∧ w'.cell? ⟨gx, 0, none⟩ = some (.int .i64 (j : Int)) ∧ w'.cell? ⟨gx, 1, none⟩ = some (.slice (some ⟨b, o, none⟩) xs.length 1)) (first | exact HS1.out _ HD.out | exact HS1.out _ (HD.out.alloc HD.out.size _) | exact HS1.out _ (((Below.refl _ _).alloc (Nat.le_refl _) _).drew) | exact HS1.out _ (below_set (below_set HD.out HZb.out _ _) HZb.out _ _) | exact HS1.out _ (below_set (below_set (HD.out.alloc HD.out.size _) HD.out.size _ _) HD.out.size _ _)) (first | (go_at_call 65; refine (specOwn _ D _ (by first | exact HCUT.out.below HD.out (Nat.le_refl _) | exact HCUT.out.below (HD.out.alloc HD.out.size _) (Nat.le_refl _) | exact HCUT.out.below (((Below.refl _ _).alloc (Nat.le_refl _) _).drew) (Nat.le_refl _))).mono ?_; rintro e w1 ⟨r, rfl, or, bq⟩; (try (with_reducible have KZ := Lib.hid (cels_pre bq); have HZb := Lib.hid HD.out.size)); (try (with_reducible have KZ := Lib.hid (cels_preD bq); have HZb := Lib.hid (Nat.le_refl W0.heap.size))); have HO := Lib.hid (or.mono (B' := W0.heap.size) (by first | exact HD.out.size | exact (HD.out.alloc HD.out.size _).size | exact (((Below.refl _ _).alloc (Nat.le_refl _) _).drew).size) (Nat.le_refl _) (Nat.le_refl _)); obtain ⟨ga, gc', hu⟩ := or.shape; subst hu; (try (with_reducible have HOz := Lib.hid (owY_pre or))); (try (with_reducible have HOz := Lib.hid (owY_preD or))); clear or; (try with_reducible replace bq := below_pre bq); (try with_reducible replace bq := below_preD bq); replace HD := Lib.hid (HD.out.trans (bq.mono HD.out.size)); clear bq; (try (have HF := Lib.hid (put2y KZ.out (.int .i64 (nx : Int)) (.slice ga D.length gc')); obtain ⟨f1, f2, f3, f4, f7⟩ := HF.out; have HF7 := Lib.hid f7; clear f7))))
      all_goals (go_wp2_with fail; go_meet)
      all_goals first
        | exact ⟨_, _, rfl, HD.out.size, Cels.new _ _ _, ownYa HD.out HO.out, HD.out.alloc HD.out.size _⟩
        | exact ⟨_, _, rfl, HZb.out, HF7.out, (((HOz.out.apartCell (Nat.lt_succ_self _) 0 (.int .i64 (nx : Int))).apartCell (Nat.lt_succ_self _) 1 _).mono (Nat.le_succ_of_le HZb.out) (by simp) (Nat.le_refl _)), below_set (below_set HD.out HZb.out _ _) HZb.out _ _⟩
    · have HCUT : Hid (Rd W0 (.slice (some ⟨b, o + 1, none⟩) (xs.length - 1) (c - 1)) D) := Lib.hid (by have := HCUT1.out; rw [if_neg hgd] at this; exact this)
      have hgd2 : ¬ ((c : Int) = 1) := by omega
      clear HCUT1
      go_region_held3 (fun w' => w'.cell? ⟨gc, 0, none⟩ = some (.slice (some ⟨bz, oz, none⟩) L cz) ∧ w'.cell? ⟨gx, 0, none⟩ = some (.int .i64 (j : Int)) ∧ w'.cell? ⟨gx, 1, none⟩ = some (.slice (some ⟨b, o, none⟩) xs.length c)) (first | exact HS1.out _ HD.out | exact HS1.out _ (HD.out.alloc HD.out.size _) | exact HS1.out _ (((Below.refl _ _).alloc (Nat.le_refl _) _).drew) | exact HS1.out _ (below_set (below_set HD.out HZb.out _ _) HZb.out _ _) | exact HS1.out _ (below_set (below_set (HD.out.alloc HD.out.size _) HD.out.size _ _) HD.out.size _ _)) (first | (go_at_call 65; refine (specOwn _ D _ (by first | exact HCUT.out.below HD.out (Nat.le_refl _) | exact HCUT.out.below (HD.out.alloc HD.out.size _) (Nat.le_refl _) | exact HCUT.out.below (((Below.refl _ _).alloc (Nat.le_refl _) _).drew) (Nat.le_refl _))).mono ?_; rintro e w1 ⟨r, rfl, or, bq⟩; (try (with_reducible have KZ := Lib.hid (cels_pre bq); have HZb := Lib.hid HD.out.size)); (try (with_reducible have KZ := Lib.hid (cels_preD bq); have HZb := Lib.hid (Nat.le_refl W0.heap.size))); have HO := Lib.hid (or.mono (B' := W0.heap.size) (by first | exact HD.out.size | exact (HD.out.alloc HD.out.size _).size | exact (((Below.refl _ _).alloc (Nat.le_refl _) _).drew).size) (Nat.le_refl _) (Nat.le_refl _)); obtain ⟨ga, gc', hu⟩ := or.shape; subst hu; (try (with_reducible have HOz := Lib.hid (owY_pre or))); (try (with_reducible have HOz := Lib.hid (owY_preD or))); clear or; (try with_reducible replace bq := below_pre bq); (try with_reducible replace bq := below_preD bq); replace HD := Lib.hid (HD.out.trans (bq.mono HD.out.size)); clear bq; (try (have HF := Lib.hid (put2y KZ.out (.int .i64 (nx : Int)) (.slice ga D.length gc')); obtain ⟨f1, f2, f3, f4, f7⟩ := HF.out; have HF7 := Lib.hid f7; clear f7))))
      all_goals (go_wp2_with fail; go_meet)
      all_goals first
        | exact ⟨_, _, rfl, HD.out.size, Cels.new _ _ _, ownYa HD.out HO.out, HD.out.alloc HD.out.size _⟩
        | exact ⟨_, _, rfl, HZb.out, HF7.out, (((HOz.out.apartCell (Nat.lt_succ_self _) 0 (.int .i64 (nx : Int))).apartCell (Nat.lt_succ_self _) 1 _).mono (Nat.le_succ_of_le HZb.out) (by simp) (Nat.le_refl _)), below_set (below_set HD.out HZb.out _ _) HZb.out _ _⟩
  obtain ⟨b6, u, rfl, hb6, k6, ho6, hb1⟩ := hcut
  obtain ⟨w1, hw1⟩ : ∃ x, x = wc := ⟨_, rfl⟩
  subst hw1
  obtain ⟨gu, cu', hu⟩ := ho6.shape
  subst hu
  have K6 := Lib.hid k6
  have HO6 := Lib.hid ho6
  have HB1 := Lib.hid (HB0.out.trans (hb1.mono HB0.out.size))
  have K41 := Lib.hid (K4.out.below hb1 K4.out.lt)
  have HX1 := Lib.hid (HX0.out.below hb1 HX0.out.lt)
  have HC2 := Lib.hid (HC0.out.below hb1 HC0.out.lt)
  have HQ : Hid (W0.heap.size = w.heap.size + 1 ∧ W0.heap.size ≤ b6) := Lib.hid ⟨HSZ.out, hb6⟩
  have z0 := HX1.out.cell 1 rfl
  have z1 := (HC1.out _ HB1.out).1
  clear k6 ho6 hb1 hb6
  by_cases hy1 : y = 1
  · subst hy1
    have HE := Lib.hid (HY1.out rfl)
    have z2 := HX1.out.cell 0 rfl
    have z3 := HC2.out.cell 0 rfl
    have z4 := (HC1.out _ HB1.out).2
    have z5 := K6.out.cell 1 rfl
    go_wp2_with fail
    have HD : Hid (Below w1.heap.size w1 w1.drew) := Lib.hid (Below.refl _ _).drew
    go_cut [] from 32 to 45 (fun wx => ∃ v' : Value, Cels wx b6 41 [.int .i64 (nx : Int), v'] ∧ Ow wx W0.heap.size wx.heap.size v' (D ++ ys) ∧ Below W0.heap.size w1 wx)
    case first =>
      go_region_law ((refine step_append_rdT (by rfl) _ _ (by rfl) W0.heap.size _ _ D ys (by rfl) (HO6.out.below HD.out (Nat.le_refl _)).row (by rfl) (HYR.out.below (HB1.out.trans (HD.out.mono HB1.out.size)) (Nat.le_refl _)) (by have := HL.out; have := HDL.out; omega) (Nat.le_trans HO6.out.base HD.out.size) ?_; intro v' w4 hown4 hgrow4; have HA := Lib.hid (yAfter K6.out HO6.out HQ.out.2 (by have := HL.out; have := HDL.out; omega) HYR.out.fit HD.out hown4 hgrow4); obtain ⟨ga, gc', hv'⟩ := ownsRow_shape hown4; subst hv'; obtain ⟨q0, q1, _⟩ := HA.out; clear hown4 hgrow4))
      all_goals (go_wp2_with fail; go_meet)
      all_goals exact ⟨_, HA.out.2.2.1, HA.out.2.2.2.1, HA.out.2.2.2.2⟩
    obtain ⟨v', k7, ho7, hb7⟩ := hcut
    obtain ⟨w2, hw2⟩ : ∃ x, x = wc := ⟨_, rfl⟩
    subst hw2
    obtain ⟨Z, hZ⟩ : ∃ Z, Z = D ++ ys := ⟨_, rfl⟩
    rw [← hZ] at ho7 HE
    obtain ⟨gw, cw, hu⟩ := ho7.shape
    subst hu
    have K7 := Lib.hid k7
    have HO7 := Lib.hid ho7
    have HB7 := Lib.hid (HB1.out.trans (hb7.mono (by have := HQ.out; omega)))
    have K47 := Lib.hid (K41.out.below hb7 K4.out.lt)
    clear k7 ho7 hb7 hZ z0 z1 z2 z3 z4 z5
    have ne4 : b6 ≠ w.heap.size := by have := HQ.out; omega
    obtain ⟨p0, p1, p2, p3, p4⟩ := put2y K47.out (.int .i64 (nx : Int)) (.slice gw Z.length cw)
    have s0 := K7.out.cell 0 rfl
    have s1 := K7.out.cell 1 rfl
    have t1 := ((K7.out.other (p := ⟨w.heap.size, 0, none⟩) ne4 (.int .i64 (nx : Int))).other (p := ⟨w.heap.size, 1, none⟩) ne4 (.slice gw Z.length cw)).cell 1 rfl
    have o6 := (HO7.out.apartCell (g := w.heap.size) (by have := HQ.out; omega) 0 (.int .i64 (nx : Int))).apartCell (g := w.heap.size) (by have := HQ.out; omega) 1 (.slice gw Z.length cw)
    have HP4 := Lib.hid (p4.below (Below.refl _ _).drew p4.lt)
    have HO6 := Lib.hid ((o6.up.below (Below.refl _ _).drew (Nat.le_refl _)).mono (B' := w.heap.size) (by have := HQ.out; omega) (Below.refl 0 _).drew.size (Nat.le_refl _))
    have HB6 := Lib.hid (below_set (below_set HB7.out (Nat.le_refl _) 0 (.int .i64 (nx : Int))) (Nat.le_refl _) 1 (.slice gw Z.length cw)).drew
    have hbo2 : decide ((Z.length : Int) ≤ 1000) = bo := by rw [HBO.out, HE.out, decide_eq_decide]; omega
    clear p4 o6 ne4
    go_wp2_with fail
    go_region
    all_goals
      go_wp2
      obtain ⟨W, hW⟩ : ∃ W, W = ((w2.setCell ⟨w.heap.size, 0, none⟩ (.int .i64 (nx : Int))).setCell ⟨w.heap.size, 1, none⟩ (.slice gw Z.length cw)).drew := ⟨_, rfl⟩
      have hp := HP4.out
      have hO := HO6.out
      have hB := HB6.out
      rw [← hW] at hp hO hB ⊢
      have z0 := hp.cell 0 rfl
      have z1 := hp.cell 1 rfl
      refine bodyPost_ret (v := .tuple #[.agg #[.int .i64 (nx : Int), .slice gw Z.length cw], .bool bo]) (by simp [results, Tryd.f76, go_sem, z0, z1]) rfl ⟨_, by rw [HNX.out], by rw [HE.out]; exact hO, hB⟩
  · have HE := Lib.hid (HY0.out hy1)
    have hq1 : ((y : Int) == 1) = false := by simp [hy1]
    clear hy1
    have ne4 : b6 ≠ w.heap.size := by have := HQ.out; omega
    obtain ⟨p0, p1, p2, p3, p4⟩ := put2y K41.out (.int .i64 (nx : Int)) (.slice gu D.length cu')
    have s0 := K6.out.cell 0 rfl
    have s1 := K6.out.cell 1 rfl
    have t1 := ((K6.out.other (p := ⟨w.heap.size, 0, none⟩) ne4 (.int .i64 (nx : Int))).other (p := ⟨w.heap.size, 1, none⟩) ne4 (.slice gu D.length cu')).cell 1 rfl
    have o6 := (HO6.out.apartCell (g := w.heap.size) (by have := HQ.out; omega) 0 (.int .i64 (nx : Int))).apartCell (g := w.heap.size) (by have := HQ.out; omega) 1 (.slice gu D.length cu')
    have HP4 := Lib.hid (p4.below (Below.refl _ _).drew p4.lt)
    have HO6 := Lib.hid ((o6.up.below (Below.refl _ _).drew (Nat.le_refl _)).mono (B' := w.heap.size) (by have := HQ.out; omega) (Below.refl 0 _).drew.size (Nat.le_refl _))
    have HB6 := Lib.hid (below_set (below_set HB1.out (Nat.le_refl _) 0 (.int .i64 (nx : Int))) (Nat.le_refl _) 1 (.slice gu D.length cu')).drew
    have hbo2 : decide ((D.length : Int) ≤ 1000) = bo := by rw [HBO.out, HE.out, decide_eq_decide]; omega
    clear p4 o6 ne4
    go_wp2_with fail
    go_region
    all_goals
      go_wp2
      obtain ⟨W, hW⟩ : ∃ W, W = ((w1.setCell ⟨w.heap.size, 0, none⟩ (.int .i64 (nx : Int))).setCell ⟨w.heap.size, 1, none⟩ (.slice gu D.length cu')).drew := ⟨_, rfl⟩
      have hp := HP4.out
      have hO := HO6.out
      have hB := HB6.out
      rw [← hW] at hp hO hB ⊢
      have z0 := hp.cell 0 rfl
      have z1 := hp.cell 1 rfl
      refine bodyPost_ret (v := .tuple #[.agg #[.int .i64 (nx : Int), .slice gu D.length cu'], .bool bo]) (by simp [results, Tryd.f76, go_sem, z0, z1]) rfl ⟨_, by rw [HNX.out], by rw [HE.out]; exact hO, hB⟩
end Go.Proofs.YtkjoakdepjpkhaaDoor.Ints
