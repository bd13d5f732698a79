/- A tag system at work on its word: the run in memory, and its methods. -/
import Derived.Test.YtkjoakdepjpkhaaDoorQue3
import Derived.Test.YtkjoakdepjpkhaaDoorQueN
import Derived.Test.YtkjoakdepjpkhaaDoorTgS
import Derived.Deep.RegionHeld3
import Derived.Deep.RegionWith
namespace Go.Proofs.YtkjoakdepjpkhaaDoor.Ints
open Go.RowKit
set_option linter.unusedVariables false
set_option linter.unusedSimpArgs false
theorem Rd.keptQ {w0 w : World} {v : Value} {zs : List Int} (h : Rd w0 v zs) (k : Kept (fun k => k < w0.heap.size) w0 w) : Rd w v zs := by
  obtain ⟨l, f, a, c, rfl, hc, hr⟩ := h
  refine ⟨l, f, a, c, rfl, hc, fun hne => ?_⟩
  obtain ⟨b, o, ha, hb, hcell⟩ := hr hne
  exact ⟨b, o, ha, Nat.lt_of_lt_of_le hb k.size, fun i hi => k.cell (hcell i hi) hb⟩
theorem RdL.keptQ {w0 w : World} {v : Value} {zss : List (List Int)} (h : RdL w0 v zss) (k : Kept (fun k => k < w0.heap.size) w0 w) : RdL w v zss := by
  obtain ⟨l, a, c, rfl, hc, hr⟩ := h
  refine ⟨l, a, c, rfl, hc, fun hne => ?_⟩
  obtain ⟨b, o, ha, hb, hcell⟩ := hr hne
  refine ⟨b, o, ha, Nat.lt_of_lt_of_le hb k.size, fun i hi => ?_⟩
  obtain ⟨x, h1, h2⟩ := hcell i hi
  exact ⟨x, k.cell h1 hb, h2.keptQ k⟩
/-- The run at the address g, its ring at q, for a tag system that lay in the world w0. -/
structure TgR (w0 w : World) (g q : Nat) (d : Int) (vz vh : Value) (zss : List (List Int)) (hs zs : List Int) (f l : Nat) (ok : Bool) : Prop where
  head : Cels w g 109 [.int .i64 d, vz, vh, .slice (some ⟨q, 0, none⟩) 1000 1000, .int .i64 (f : Int), .int .i64 (l : Int), .bool ok]
  ring : Cels w q 2 (zs.map (.int .i64))
  zl : zs.length = 1000
  fit : Fit zs
  fl : f < 1000
  ll : l ≤ 1000
  ne : q ≠ g
  hz : RdL w0 vz zss
  hh : Rd w0 vh hs
  old : Kept (fun k => k < w0.heap.size) w0 w
  bg : w0.heap.size ≤ g
  bq : w0.heap.size ≤ q
theorem TgR.kept {w0 w w' : World} {g q : Nat} {d : Int} {vz vh : Value} {zss : List (List Int)} {hs zs : List Int} {f l : Nat} {ok : Bool} (h : TgR w0 w g q d vz vh zss hs zs f l ok)
    (k : Kept (fun k => k < w0.heap.size ∨ k = g ∨ k = q) w w') : TgR w0 w' g q d vz vh zss hs zs f l ok :=
  ⟨h.head.kept k (.inr (.inl rfl)), h.ring.kept k (.inr (.inr rfl)), h.zl, h.fit, h.fl, h.ll, h.ne, h.hz, h.hh, h.old.trans ⟨k.size, fun i hi q => k.block i hi (.inl q)⟩, h.bg, h.bq⟩
theorem TgR.below {w0 w w' : World} {g q : Nat} {d : Int} {vz vh : Value} {zss : List (List Int)} {hs zs : List Int} {f l : Nat} {ok : Bool} (h : TgR w0 w g q d vz vh zss hs zs f l ok)
    (k : Below w.heap.size w w') : TgR w0 w' g q d vz vh zss hs zs f l ok := h.kept ⟨k.size, fun i hi _ => k.block i hi⟩
theorem tgValid {w : World} {g : Nat} {a b c r e h : Value} {ok : Bool} (k : Cels w g 109 [a, b, c, r, e, h, .bool ok]) :
    Calls Tryd.prog 185 #[.pointer (some ⟨g, 0, none⟩)] w fun e w' => e = .returned (.bool ok) ∧ w = w' := by
  have z6 := k.cell 6 rfl
  clear k
  go_enter Tryd.func185, Tryd.ntmps185
  go_wp2
  go_ret
  exact ⟨rfl, rfl⟩
theorem queHeadY3 (g q f l : Nat) (t : TypeId) (cs : List Value) (zs : List Int) (w : World) (y : Int) (hc : Cels w g t cs) (hq : QAt3 cs q f l) (hr : Cels w q 2 (zs.map (.int .i64))) (hz : zs.length = 1000) (hf : f < 1000) (hy : zs.getD f 0 = y) :
    Calls Tryd.prog 188 #[.pointer (some ⟨g, 3, none⟩)] w fun e w' => e = .returned (.int .i64 y) ∧ ∃ m, w' = w.drewN m := hy ▸ queHead3 g q f l t cs zs w hc hq hr hz hf
set_option maxHeartbeats 1000000 in
theorem tgHalts {w0 w : World} {g q : Nat} {d : Int} {vz vh : Value} {zss : List (List Int)} {hs zs : List Int} {f l : Nat} {ok : Bool} (h : TgR w0 w g q d vz vh zss hs zs f l ok) (h1 : 1 ≤ d) (b : Bool) (hb : b = true ↔ hlT d hs (rg zs f l)) :
    Calls Tryd.prog 183 #[.pointer (some ⟨g, 0, none⟩)] w fun e w' => e = .returned (.bool b) ∧ Below w.heap.size w w' := by
  have H := Lib.hid h
  have HBB := Lib.hid hb
  have HH1 := Lib.hid h1
  have z0 := h.head.cell 0 rfl
  have z2 := h.head.cell 2 rfl
  have z5 := h.head.cell 5 rfl
  obtain ⟨_, _, a2, c2, hv, _, _⟩ := h.hh
  subst hv
  clear h hb h1
  by_cases hd : (l : Int) < d
  · have HE : Hid (b = true) := Lib.hid (HBB.out.2 (.inl (by rw [rg_len]; exact hd)))
    have hd' : decide ((l : Int) < d) = true := decide_eq_true hd
    go_enter Tryd.func183, Tryd.ntmps183
    go_wp2
    go_quiet (fail)
    go_wp2
    go_ret
    exact ⟨by rw [HE.out] <;> rfl, below_drewN (Below.refl _ _) _⟩
  · have HM : Hid (b = true ↔ zs.getD f 0 ∈ hs) := Lib.hid (by
      rw [HBB.out]
      have e : (rg zs f l).getD 0 0 = zs.getD f 0 := by rw [rg_at _ _ _ (by have := HH1.out; omega), Nat.add_zero, Nat.mod_eq_of_lt H.out.fl]
      unfold hlT
      rw [e, rg_len]
      exact ⟨fun h => h.resolve_left hd, .inr⟩)
    have hd' : decide ((l : Int) < d) = false := decide_eq_false hd
    obtain ⟨y, hy⟩ : ∃ y, y = zs.getD f 0 := ⟨_, rfl⟩
    have HY := Lib.hid hy.symm
    clear hd hy
    go_enter Tryd.func183, Tryd.ntmps183
    go_wp2
    go_quiet (first
      | (go_at_call 188; exact Calls.quiet_of (queHeadY3 g q f l _ _ zs _ y (H.out.head.below (below_drewN (Below.refl _ _) _) H.out.head.lt) ⟨rfl, rfl, rfl⟩ (H.out.ring.below (below_drewN (Below.refl _ _) _) H.out.ring.lt) H.out.zl H.out.fl HY.out))
      | (go_at_call 187; exact Calls.quiet_of_same ((libContainsT _ hs y _ ((H.out.hh.keptQ H.out.old).below (below_drewN (Below.refl _ _) _) (Nat.le_refl _)) b (by rw [HM.out, HY.out])).mono fun _ _ h => ⟨h.1, h.2.symm⟩)))
    go_wp2
    go_ret
    exact ⟨rfl, below_drewN (Below.refl _ _) _⟩
theorem tgStepHalt {w0 w : World} {g q : Nat} {d : Int} {vz vh : Value} {zss : List (List Int)} {hs zs : List Int} {f l : Nat} {ok : Bool} (h : TgR w0 w g q d vz vh zss hs zs f l ok) (h1 : 1 ≤ d) (hh : hlT d hs (rg zs f l)) :
    Calls Tryd.prog 184 #[.pointer (some ⟨g, 0, none⟩)] w fun e w' => e = .returned (.iface 162 (.int .i64 6)) ∧ Below w.heap.size w w' := by
  have HH := Lib.hid (tgHalts h h1 true (by simp [hh]))
  clear h hh h1
  go_enter Tryd.func184, Tryd.ntmps184
  go_wp2_with fail
  refine HH.out.mono ?_
  rintro e w1 ⟨rfl, hb1⟩
  have HB1 := Lib.hid hb1
  clear hb1
  go_wp2
  go_ret
  exact ⟨rfl, HB1.out⟩
/-- What a step of a run that does not halt finds: the first letter and its word. -/
theorem TgR.found {w0 w : World} {g q : Nat} {d : Int} {vz vh : Value} {zss : List (List Int)} {hs zs : List Int} {f l : Nat} {ok : Bool} (h : TgR w0 w g q d vz vh zss hs zs f l ok) (ht : tagB d zss hs = true) (hw : overB zss.length (rg zs f l) = true) (hn : ¬ hlT d hs (rg zs f l)) :
    0 < l ∧ d ≤ (l : Int) ∧ ∃ m : Nat, zs.getD f 0 = (m : Int) ∧ m < zss.length ∧ (rg zs f l).getD 0 0 = (m : Int) ∧ (zss.getD m []).length ≤ 1000 ∧
      ∃ bz oz cz yv, vz = .slice (some ⟨bz, oz, none⟩) zss.length cz ∧ bz < w0.heap.size ∧ w0.cell? ⟨bz, oz + m, none⟩ = some yv ∧ Rd w0 yv (zss.getD m []) := by
  obtain ⟨hd, _, hws⟩ := tagB_ok ht
  obtain ⟨_, hdg⟩ := overB_ok hw
  have hl : ¬ ((l : Int) < d) := fun q => hn (.inl (by rw [rg_len]; exact q))
  have h0 : 0 < l := by omega
  have e : (rg zs f l).getD 0 0 = zs.getD f 0 := by rw [rg_at _ _ _ h0, Nat.add_zero, Nat.mod_eq_of_lt h.fl]
  have hm := dig_head hdg (by rw [rg_len]; exact h0)
  obtain ⟨m, hme⟩ : ∃ m : Nat, zs.getD f 0 = (m : Int) := ⟨(zs.getD f 0).toNat, by rw [← e]; omega⟩
  have hmz : m < zss.length := by rw [e, hme] at hm; omega
  obtain ⟨_, az, cz, hv, _, hr⟩ := h.hz
  obtain ⟨bz, oz, rfl, hb, hc⟩ := hr (by intro h; rw [h] at hmz; simp at hmz)
  obtain ⟨yv, hy1, hy2⟩ := hc m hmz
  exact ⟨h0, by omega, m, hme, hmz, e.trans hme, (hws m hmz).1, bz, oz, cz, yv, hv, hb, hy1, hy2⟩
set_option maxRecDepth 100000 in
set_option maxHeartbeats 4000000 in
theorem tgStepFull {w0 w : World} {g q : Nat} {d : Int} {vz vh : Value} {zss : List (List Int)} {hs zs : List Int} {f l : Nat} {ok : Bool} (h : TgR w0 w g q d vz vh zss hs zs f l ok) (ht : tagB d zss hs = true) (hw : overB zss.length (rg zs f l) = true) (hn : ¬ hlT d hs (rg zs f l)) (hf : 1000 < (apT zss (rg zs f l)).length) :
    Calls Tryd.prog 184 #[.pointer (some ⟨g, 0, none⟩)] w fun e w' => e = .returned (.iface 162 (.int .i64 5)) ∧ Below w.heap.size w w' := by
  have HH := Lib.hid (tgHalts h (tagB_ok ht).1.1 false (by simp [hn]))
  obtain ⟨h0, hd, m, hm, hml, hx0, hyl, bz, oz, cz, yv, rfl, hbz, hcy, hyr⟩ := h.found ht hw hn
  obtain ⟨ys, hys⟩ : ∃ ys, ys = zss.getD m [] := ⟨_, rfl⟩
  rw [← hys] at hyl hyr
  have hfull : 1000 < l + ys.length := by
    rw [apT, List.length_append, rg_len, hx0, show ((m : Int)).toNat = m from rfl, ← hys] at hf
    exact hf
  have HYR := Lib.hid hyr
  obtain ⟨_, _, ay, cy, rfl, _, _⟩ := hyr
  have H := Lib.hid h
  have HF := Lib.hid hfull
  have HM := Lib.hid hm
  have HBZ := Lib.hid hbz
  have HCY := Lib.hid hcy
  have i0 : (0 : Int) ≤ (m : Int) := by omega
  have i1 : (m : Int) < (zss.length : Int) := by omega
  clear h ht hw hn hf hfull hys hm hbz hcy hx0 hd
  go_enter Tryd.func184, Tryd.ntmps184
  go_wp2_with fail
  refine HH.out.mono ?_
  rintro e w1 ⟨rfl, hb1⟩
  have H1 := Lib.hid (H.out.below hb1)
  have HB1 := Lib.hid hb1
  clear hb1 HH
  go_upto_region 3 with fail
  have HS : Hid (∀ W, TgR w0 W g q d (.slice (some ⟨bz, oz, none⟩) zss.length cz) vh zss hs zs f l ok → W.cell? ⟨g, 1, none⟩ = some (.slice (some ⟨bz, oz, none⟩) zss.length cz) ∧ W.cell? ⟨bz, oz + m, none⟩ = some (.slice ay ys.length cy)) := Lib.hid (fun W k => ⟨k.head.cell 1 rfl, k.old.cell HCY.out HBZ.out⟩)
  have HD : Hid (Below w1.heap.size w1 w1.drew) := Lib.hid (Below.refl _ _).drew
  go_region_held3 (fun W => W.cell? ⟨g, 1, none⟩ = some (.slice (some ⟨bz, oz, none⟩) zss.length cz) ∧ W.cell? ⟨bz, oz + m, none⟩ = some (.slice ay ys.length cy)) (exact HS.out _ (H1.out.below HD.out))
    (first
      | (go_at_call 188; with_reducible refine (queHeadY3 g q f l _ _ zs _ (m : Int) (H1.out.below HD.out).head ⟨rfl, rfl, rfl⟩ (H1.out.below HD.out).ring H.out.zl H.out.fl HM.out).mono ?_; rintro e3 w3 ⟨rfl, mm, hmm⟩; have hq3 : Below w1.heap.size w1 w3 := (by rw [hmm]; exact below_drewN HD.out mm); replace HD := Lib.hid hq3; clear hmm hq3)
      | (go_at_call 189; with_reducible refine (quePutFull3 g q f l _ _ _ ys _ (H1.out.below HD.out).head ⟨rfl, rfl, rfl⟩ (HYR.out.keptQ (H1.out.below HD.out).old) H.out.ll HF.out).mono ?_; rintro e4 w4 ⟨rfl, hb4⟩; replace HD := Lib.hid (HD.out.trans (hb4.mono HD.out.size)); clear hb4))
  have HB4 := Lib.hid (HB1.out.trans (HD.out.mono HB1.out.size))
  go_wp2
  go_ret
  exact ⟨rfl, HB4.out⟩
set_option maxRecDepth 100000 in
set_option maxHeartbeats 4000000 in
theorem tgStepGo {w0 w : World} {g q : Nat} {d : Int} {vz vh : Value} {zss : List (List Int)} {hs zs : List Int} {f l : Nat} {ok : Bool} (h : TgR w0 w g q d vz vh zss hs zs f l ok) (ht : tagB d zss hs = true) (hw : overB zss.length (rg zs f l) = true) (hn : ¬ hlT d hs (rg zs f l)) (hf : (apT zss (rg zs f l)).length ≤ 1000) :
    Calls Tryd.prog 184 #[.pointer (some ⟨g, 0, none⟩)] w fun e w' => ∃ zs' f' l', e = .returned .nilIface ∧ TgR w0 w' g q d vz vh zss hs zs' f' l' ok ∧ rg zs' f' l' = nxT d zss (rg zs f l) ∧ Only (fun k => k = g ∨ k = q) w w' := by
  have HH := Lib.hid (tgHalts h (tagB_ok ht).1.1 false (by simp [hn]))
  have hd1 := (tagB_ok ht).1
  obtain ⟨h0, hd, m, hm, hml, hx0, hyl, bz, oz, cz, yv, rfl, hbz, hcy, hyr⟩ := h.found ht hw hn
  obtain ⟨ys, hys⟩ : ∃ ys, ys = zss.getD m [] := ⟨_, rfl⟩
  rw [← hys] at hyl hyr
  have hap : apT zss (rg zs f l) = rg zs f l ++ ys := by rw [apT, hx0, show ((m : Int)).toNat = m from rfl, ← hys]
  have hfull : l + ys.length ≤ 1000 := by rw [hap, List.length_append, rg_len] at hf; exact hf
  obtain ⟨dn, rfl⟩ : ∃ dn : Nat, d = (dn : Int) := ⟨d.toNat, by omega⟩
  have hnx : nxT (dn : Int) zss (rg zs f l) = (rg zs f l ++ ys).drop dn := by rw [nxT, hap]; rfl
  have HYR := Lib.hid hyr
  obtain ⟨_, _, ay, cy, rfl, _, _⟩ := hyr
  have H := Lib.hid h
  have HF := Lib.hid hfull
  have HM := Lib.hid hm
  have HBZ := Lib.hid hbz
  have HCY := Lib.hid hcy
  have HNX := Lib.hid hnx
  have HDL : Hid (dn ≤ l) := Lib.hid (by omega)
  have i0 : (0 : Int) ≤ (m : Int) := by omega
  have i1 : (m : Int) < (zss.length : Int) := by omega
  clear h ht hw hn hf hfull hys hm hbz hcy hx0 hd hd1 hap hnx
  go_enter Tryd.func184, Tryd.ntmps184
  go_wp2_with fail
  refine HH.out.mono ?_
  rintro e w1 ⟨rfl, hb1⟩
  have H1 := Lib.hid (H.out.below hb1)
  have HB1 := Lib.hid hb1
  clear hb1 HH
  go_upto_region 3 with fail
  have HS : Hid (∀ W, W.cell? ⟨g, 1, none⟩ = some (.slice (some ⟨bz, oz, none⟩) zss.length cz) → Kept (fun k => k < w0.heap.size) w0 W → W.cell? ⟨g, 1, none⟩ = some (.slice (some ⟨bz, oz, none⟩) zss.length cz) ∧ W.cell? ⟨bz, oz + m, none⟩ = some (.slice ay ys.length cy)) := Lib.hid (fun W k j => ⟨k, j.cell HCY.out HBZ.out⟩)
  have HD : Hid (Below w1.heap.size w1 w1.drew) := Lib.hid (Below.refl _ _).drew
  go_cut [3] (fun s3 wx => s3 = .nilIface ∧ Cels wx g 109 [.int .i64 (dn : Int), .slice (some ⟨bz, oz, none⟩) zss.length cz, vh, .slice (some ⟨q, 0, none⟩) 1000 1000, .int .i64 (f : Int), .int .i64 ((l + ys.length : Nat) : Int), .bool ok] ∧ Cels wx q 2 ((pg zs ys ((f + l) % 1000)).map (.int .i64)) ∧ Only (fun k => k = g ∨ k = q) w wx)
  case first =>
    go_region_held3 (fun W => W.cell? ⟨g, 1, none⟩ = some (.slice (some ⟨bz, oz, none⟩) zss.length cz) ∧ W.cell? ⟨bz, oz + m, none⟩ = some (.slice ay ys.length cy)) (first | exact HS.out _ (HC4.out.cell 1 rfl) HK4.out | exact HS.out _ ((H1.out.below HD.out).head.cell 1 rfl) (H1.out.below HD.out).old)
      (first
        | (go_at_call 188; with_reducible refine (queHeadY3 g q f l _ _ zs _ (m : Int) (H1.out.below HD.out).head ⟨rfl, rfl, rfl⟩ (H1.out.below HD.out).ring H.out.zl H.out.fl HM.out).mono ?_; rintro e3 w3 ⟨rfl, mm, hmm⟩; have hq3 : Below w1.heap.size w1 w3 := (by rw [hmm]; exact below_drewN HD.out mm); replace HD := Lib.hid hq3; clear hmm hq3)
        | (go_at_call 189; with_reducible refine (quePut3 g q f l _ _ _ zs ys _ (H1.out.below HD.out).head ⟨rfl, rfl, rfl⟩ (H1.out.below HD.out).ring H.out.ne (fun W k => HYR.out.keptQ ((H1.out.below HD.out).old.trans (Kept.of_only k (fun j hj hq => by have := H.out.bg; have := H.out.bq; rcases hq with rfl | rfl <;> omega)))) H.out.zl H.out.fl HF.out).mono ?_; rintro e4 w4 ⟨rfl, hc4, hr4, ho4⟩; have HC4 := Lib.hid hc4; have HR4 := Lib.hid hr4; have HK4 := Lib.hid ((H1.out.below HD.out).old.trans (Kept.of_only ho4 (fun j hj hq => by have := H.out.bg; have := H.out.bq; rcases hq with rfl | rfl <;> omega))); have HO4 := Lib.hid ((Only.of_below (HB1.out.trans (HD.out.mono HB1.out.size))).trans ho4); clear hc4 hr4 ho4))
    all_goals (go_wp2_with fail; go_meet)
    all_goals exact ⟨rfl, HC4.out, HR4.out, HO4.out⟩
  obtain ⟨rfl, hc4, hr4, ho4⟩ := hcut
  obtain ⟨w4, hw4⟩ : ∃ x, x = wc := ⟨_, rfl⟩
  subst hw4
  have z0 := hc4.cell 0 rfl
  obtain ⟨wd, hwd⟩ : ∃ x, x = w4.drew := ⟨_, rfl⟩
  have hbd : Below w4.heap.size w4 wd := by rw [hwd]; exact (Below.refl _ _).drew
  have HWD := Lib.hid hwd
  have HC5 := Lib.hid (hc4.below hbd hc4.lt)
  have HR5 := Lib.hid (hr4.below hbd hr4.lt)
  have HO5 : Hid (Only (fun k => k = g ∨ k = q) w wd) := Lib.hid (ho4.trans (Only.of_below hbd))
  clear hc4 hr4 ho4 hwd hbd
  go_wp2_with fail
  go_still_tail 8, (by kernel_rfl)
  change wpList _ _ _ _ _ w4.drew
  rw [← HWD.out]
  go_wp2_with fail
  refine (queTake3 g q f (l + ys.length) dn _ _ _ HC5.out ⟨rfl, rfl, rfl⟩ H.out.fl HF.out (by have := HDL.out; omega)).mono ?_
  rintro e6 w6 ⟨⟨v6, rfl⟩, hc6, ho6⟩
  have HC6 : Hid (Cels w6 g 109 [.int .i64 (dn : Int), .slice (some ⟨bz, oz, none⟩) zss.length cz, vh, .slice (some ⟨q, 0, none⟩) 1000 1000, .int .i64 (((f + dn) % 1000 : Nat) : Int), .int .i64 ((l + ys.length - dn : Nat) : Int), .bool ok]) := Lib.hid hc6
  have HR6 : Hid (Cels w6 q 2 ((pg zs ys ((f + l) % 1000)).map (.int .i64))) := Lib.hid (ho6.kept HR5.out H.out.ne)
  have HO6 : Hid (Only (fun k => k = g ∨ k = q) w w6) := Lib.hid (HO5.out.trans (ho6.mono (fun _ _ h => .inl h)))
  clear hc6 ho6 z0
  go_wp2
  go_ret
  have hzl := H.out.zl
  have hfl := H.out.fl
  have hle := HF.out
  refine ⟨_, (f + dn) % 1000, l + ys.length - dn, rfl, ⟨HC6.out, HR6.out, pg_len hzl (by omega) (by omega), (H.out.fit.splice (HYR.out.fit.takeQ _)).splice (HYR.out.fit.dropQ _), by omega, by omega, H.out.ne, H.out.hz, H.out.hh, H.out.old.trans (Kept.of_only HO6.out (fun j hj hq => by have := H.out.bg; have := H.out.bq; rcases hq with rfl | rfl <;> omega)), H.out.bg, H.out.bq⟩, ?_, HO6.out⟩
  rw [HNX.out, rg_drop (by have := HDL.out; omega), rg_put hzl hfl hle]
theorem tgConfig {w0 w : World} {g q : Nat} {d : Int} {vz vh : Value} {zss : List (List Int)} {hs zs : List Int} {f l : Nat} {ok : Bool} (h : TgR w0 w g q d vz vh zss hs zs f l ok) :
    Calls Tryd.prog 182 #[.pointer (some ⟨g, 0, none⟩)] w fun e w' => ∃ u, e = .returned u ∧ Ow w' w.heap.size w'.heap.size u (rg zs f l) ∧ Below w.heap.size w w' := by
  have H := Lib.hid h
  clear h
  go_enter Tryd.func182, Tryd.ntmps182
  go_wp2_with fail
  refine (queLetters3 g q f l _ _ zs _ H.out.head ⟨rfl, rfl, rfl⟩ H.out.ring H.out.zl H.out.fit H.out.fl H.out.ll).mono ?_
  rintro e w1 ⟨u, rfl, ho, hb⟩
  have HO := Lib.hid ho
  have HB := Lib.hid hb
  clear ho hb
  go_wp2
  go_ret
  exact ⟨_, rfl, HO.out, HB.out⟩
end Go.Proofs.YtkjoakdepjpkhaaDoor.Ints
