/- A cyclic tag system at work on its queue: the values; the run in memory, and its methods. -/
import Derived.Test.YtkjoakdepjpkhaaDoorQue1
import Derived.Test.YtkjoakdepjpkhaaDoorQueN
import Derived.Test.YtkjoakdepjpkhaaDoorTgR
import Derived.Deep.RegionHeld3
import Derived.Deep.RegionWith
namespace Go.Proofs.YtkjoakdepjpkhaaDoor.Ints
open Go.RowKit
set_option linter.unusedVariables false
set_option linter.unusedSimpArgs false
/-- The queue behind a step from xs at the word j. -/
def apC (zss : List (List Int)) (j : Nat) (xs : List Int) : List Int := xs.drop 1 ++ (if xs.getD 0 0 = 1 then zss.getD j [] else [])
def nxJ (zss : List (List Int)) (j : Nat) : Nat := (j + 1) % zss.length
theorem cycB_ok {zss : List (List Int)} (h : cycB zss = true) : (1 ≤ zss.length ∧ zss.length ≤ 400) ∧ ∀ i, i < zss.length → (zss.getD i []).length ≤ 1000 ∧ Dig 2 (zss.getD i []) := by
  unfold cycB at h
  simp only [Bool.and_eq_true, decide_eq_true_eq] at h
  exact ⟨by omega, fun i hi => overB_ok (allQ_at h.2 hi)⟩
theorem turnB_ok {zss : List (List Int)} {at' : Int} {xs : List Int} (h : turnB zss at' xs = true) : cycB zss = true ∧ (0 ≤ at' ∧ at' < (zss.length : Int)) ∧ overB 2 xs = true := by
  unfold turnB at h
  simp only [Bool.and_eq_true, decide_eq_true_eq] at h
  exact ⟨h.1, h.2.1, h.2.2⟩
theorem nxJ_lt {zss : List (List Int)} (h : cycB zss = true) (j : Nat) : nxJ zss j < zss.length := Nat.mod_lt _ (by have := (cycB_ok h).1; omega)
theorem apC_ok {zss : List (List Int)} {j : Nat} {xs : List Int} (h : cycB zss = true) (hj : j < zss.length) (hx : overB 2 xs = true) (hf : (apC zss j xs).length ≤ 1000) : overB 2 (apC zss j xs) = true := by
  obtain ⟨_, hd⟩ := overB_ok hx
  obtain ⟨_, hdm⟩ := (cycB_ok h).2 j hj
  refine overB_true hf (fun i hi => ?_)
  unfold apC at hi ⊢
  rw [List.length_append, List.length_drop] at hi
  by_cases hlt : i < xs.length - 1
  · rw [List.getD_eq_getElem?_getD, List.getElem?_append_left (by rw [List.length_drop]; exact hlt), List.getElem?_drop, ← List.getD_eq_getElem?_getD]
    exact hd _ (by omega)
  · by_cases h1 : xs.getD 0 0 = 1
    · rw [if_pos h1] at hi ⊢
      rw [List.getD_eq_getElem?_getD, List.getElem?_append_right (by rw [List.length_drop]; omega), ← List.getD_eq_getElem?_getD, List.length_drop]
      exact hdm _ (by omega)
    · rw [if_neg h1] at hi
      simp at hi
      omega
theorem apC_one {zss : List (List Int)} {j : Nat} {xs : List Int} (h : xs.getD 0 0 = 1) : apC zss j xs = xs.drop 1 ++ zss.getD j [] := by rw [apC, if_pos h]
theorem apC_not {zss : List (List Int)} {j : Nat} {xs : List Int} (h : ¬ xs.getD 0 0 = 1) : apC zss j xs = xs.drop 1 := by rw [apC, if_neg h, List.append_nil]
/-- The run at the address g, its ring at q, for a cyclic tag system that lay in the world w0. -/
structure CyR (w0 w : World) (g q : Nat) (vz : Value) (zss : List (List Int)) (zs : List Int) (f l : Nat) (ok : Bool) (at' : Int) : Prop where
  head : Cels w g 172 [vz, .slice (some ⟨q, 0, none⟩) 1000 1000, .int .i64 (f : Int), .int .i64 (l : Int), .bool ok, .int .i64 at']
  ring : Cels w q 2 (zs.map (.int .i64))
  zl : zs.length = 1000
  fit : Fit zs
  fl : f < 1000
  ll : l ≤ 1000
  ne : q ≠ g
  hz : RdL w0 vz zss
  old : Kept (fun k => k < w0.heap.size) w0 w
  bg : w0.heap.size ≤ g
  bq : w0.heap.size ≤ q
theorem CyR.kept {w0 w w' : World} {g q : Nat} {vz : Value} {zss : List (List Int)} {zs : List Int} {f l : Nat} {ok : Bool} {at' : Int} (h : CyR w0 w g q vz zss zs f l ok at')
    (k : Kept (fun k => k < w0.heap.size ∨ k = g ∨ k = q) w w') : CyR w0 w' g q vz zss zs f l ok at' :=
  ⟨h.head.kept k (.inr (.inl rfl)), h.ring.kept k (.inr (.inr rfl)), h.zl, h.fit, h.fl, h.ll, h.ne, h.hz, h.old.trans ⟨k.size, fun i hi q => k.block i hi (.inl q)⟩, h.bg, h.bq⟩
theorem CyR.below {w0 w w' : World} {g q : Nat} {vz : Value} {zss : List (List Int)} {zs : List Int} {f l : Nat} {ok : Bool} {at' : Int} (h : CyR w0 w g q vz zss zs f l ok at')
    (k : Below w.heap.size w w') : CyR w0 w' g q vz zss zs f l ok at' := h.kept ⟨k.size, fun i hi _ => k.block i hi⟩
theorem cyValid {w : World} {g : Nat} {a b c r h : Value} {ok : Bool} (k : Cels w g 172 [a, b, c, r, .bool ok, h]) :
    Calls Tryd.prog 195 #[.pointer (some ⟨g, 0, none⟩)] w fun e w' => e = .returned (.bool ok) ∧ w = w' := by
  have z4 := k.cell 4 rfl
  clear k
  go_enter Tryd.func195, Tryd.ntmps195
  go_wp2
  go_ret
  exact ⟨rfl, rfl⟩
theorem cyHalts {w0 w : World} {g q : Nat} {vz : Value} {zss : List (List Int)} {zs : List Int} {f l : Nat} {ok : Bool} {at' : Int} (h : CyR w0 w g q vz zss zs f l ok at') (b : Bool) (hb : b = true ↔ l = 0) :
    Calls Tryd.prog 193 #[.pointer (some ⟨g, 0, none⟩)] w fun e w' => e = .returned (.bool b) ∧ w = w' := by
  have z3 := h.head.cell 3 rfl
  have hq : ((l : Int) == 0) = b := by rw [Bool.eq_iff_iff, hb]; simp
  clear h hb
  go_enter Tryd.func193, Tryd.ntmps193
  go_wp2
  go_ret
  exact ⟨rfl, rfl⟩
theorem cyStepHalt {w0 w : World} {g q : Nat} {vz : Value} {zss : List (List Int)} {zs : List Int} {f l : Nat} {ok : Bool} {at' : Int} (h : CyR w0 w g q vz zss zs f l ok at') (hh : l = 0) :
    Calls Tryd.prog 194 #[.pointer (some ⟨g, 0, none⟩)] w fun e w' => e = .returned (.iface 162 (.int .i64 6)) ∧ Below w.heap.size w w' := by
  have HH := Lib.hid (cyHalts h true (by simp [hh]))
  clear h hh
  go_enter Tryd.func194, Tryd.ntmps194
  go_wp2_with fail
  refine HH.out.mono ?_
  rintro e w1 ⟨rfl, rfl⟩
  go_wp2
  go_ret
  exact ⟨rfl, Below.refl _ _⟩
theorem queHeadY1 (g q f l : Nat) (t : TypeId) (cs : List Value) (zs : List Int) (w : World) (y : Int) (hc : Cels w g t cs) (hq : QAt1 cs q f l) (hr : Cels w q 2 (zs.map (.int .i64))) (hz : zs.length = 1000) (hf : f < 1000) (hy : zs.getD f 0 = y) :
    Calls Tryd.prog 188 #[.pointer (some ⟨g, 1, none⟩)] w fun e w' => e = .returned (.int .i64 y) ∧ ∃ m, w' = w.drewN m := hy ▸ queHead1 g q f l t cs zs w hc hq hr hz hf
theorem CyR.word {w0 w : World} {g q : Nat} {vz : Value} {zss : List (List Int)} {zs : List Int} {f l : Nat} {ok : Bool} {j : Nat} (h : CyR w0 w g q vz zss zs f l ok (j : Int)) (hc : cycB zss = true) (hj : j < zss.length) :
    (zss.getD j []).length ≤ 1000 ∧ ∃ bz oz cz yv, vz = .slice (some ⟨bz, oz, none⟩) zss.length cz ∧ bz < w0.heap.size ∧ w0.cell? ⟨bz, oz + j, none⟩ = some yv ∧ Rd w0 yv (zss.getD j []) := by
  obtain ⟨_, az, cz, hv, _, hr⟩ := h.hz
  obtain ⟨bz, oz, rfl, hb, hcl⟩ := hr (by intro h; rw [h] at hj; simp at hj)
  obtain ⟨yv, hy1, hy2⟩ := hcl j hj
  exact ⟨((cycB_ok hc).2 j hj).1, bz, oz, cz, yv, hv, hb, hy1, hy2⟩
theorem CyR.first {w0 w : World} {g q : Nat} {vz : Value} {zss : List (List Int)} {zs : List Int} {f l : Nat} {ok : Bool} {j : Nat} (h : CyR w0 w g q vz zss zs f l ok (j : Int)) (h0 : 0 < l) : (rg zs f l).getD 0 0 = zs.getD f 0 := by
  rw [rg_at _ _ _ h0, Nat.add_zero, Nat.mod_eq_of_lt h.fl]
theorem nxJ_tmod (j n : Nat) : ((j : Int) + 1).tmod (n : Int) = (((j + 1) % n : Nat) : Int) := by
  rw [Int.tmod_eq_emod_of_nonneg (by omega)]
  exact (Int.natCast_emod (j + 1) n).symm
set_option maxRecDepth 100000 in
set_option maxHeartbeats 4000000 in
theorem cyStepSkip {w0 w : World} {g q : Nat} {vz : Value} {zss : List (List Int)} {zs : List Int} {f l : Nat} {ok : Bool} {j : Nat} (h : CyR w0 w g q vz zss zs f l ok (j : Int)) (hc : cycB zss = true) (hj : j < zss.length) (h0 : 0 < l) (h1 : ¬ (rg zs f l).getD 0 0 = 1) :
    Calls Tryd.prog 194 #[.pointer (some ⟨g, 0, none⟩)] w fun e w' => ∃ zs' f' l', e = .returned .nilIface ∧ CyR w0 w' g q vz zss zs' f' l' ok ((nxJ zss j : Nat) : Int) ∧ rg zs' f' l' = apC zss j (rg zs f l) ∧ Only (fun k => k = g ∨ k = q) w w' := by
  have HH := Lib.hid (cyHalts h false (by simp; omega))
  have hap := apC_not (zss := zss) (j := j) h1
  have HL := Lib.hid (And.intro (cycB_ok hc).1 hj)
  rw [h.first h0] at h1
  obtain ⟨y, hy⟩ : ∃ y, y = zs.getD f 0 := ⟨_, rfl⟩
  rw [← hy] at h1
  have hq : ((y : Int) == 1) = false := by simp [h1]
  have HY := Lib.hid hy.symm
  have H := Lib.hid h
  have H0 := Lib.hid h0
  have HAP := Lib.hid hap
  obtain ⟨_, az, cz, rfl, _, _⟩ := h.hz
  clear h hc hj h0 h1 hy hap
  go_enter Tryd.func194, Tryd.ntmps194
  go_wp2_with fail
  refine HH.out.mono ?_
  rintro e w1 ⟨rfl, rfl⟩
  go_wp2_with fail
  refine (queHeadY1 g q f l _ _ zs _ y H.out.head ⟨rfl, rfl, rfl⟩ H.out.ring H.out.zl H.out.fl HY.out).mono ?_
  rintro e w1 ⟨rfl, mm, hmm⟩
  have hb1 : Below w.heap.size w w1 := by rw [hmm]; exact below_drewN (Below.refl _ _) mm
  have H1 := Lib.hid (H.out.below hb1)
  have HO1 : Hid (Only (fun k => k = g ∨ k = q) w w1) := Lib.hid (Only.of_below hb1)
  clear hmm hb1
  go_wp2_with fail
  refine (queTake1 g q f l 1 _ _ _ H1.out.head ⟨rfl, rfl, rfl⟩ H.out.fl H.out.ll H0.out).mono ?_
  rintro e w2 ⟨⟨v2, rfl⟩, hc2, ho2⟩
  have HC2 : Hid (Cels w2 g 172 [.slice az zss.length cz, .slice (some ⟨q, 0, none⟩) 1000 1000, .int .i64 (((f + 1) % 1000 : Nat) : Int), .int .i64 ((l - 1 : Nat) : Int), .bool ok, .int .i64 (j : Int)]) := Lib.hid hc2
  have HR2 : Hid (Cels w2 q 2 (zs.map (.int .i64))) := Lib.hid (ho2.kept H1.out.ring H.out.ne)
  have HO2 : Hid (Only (fun k => k = g ∨ k = q) w w2) := Lib.hid (HO1.out.trans (ho2.mono (fun _ _ h => .inl h)))
  have z0 := HC2.out.cell 0 rfl
  have z5 := HC2.out.cell 5 rfl
  have v5 := HC2.out.frozen 5
  have i1 : IntKind.i64.wrap ((j : Int) + 1) = (j : Int) + 1 := by have := HL.out; rw [IntKind.wrap_i64]; omega
  have i2 := nxJ_tmod j zss.length
  have i3 : ¬ ((zss.length : Int) = 0) := by have := HL.out; omega
  obtain ⟨nx, hnx⟩ : ∃ n : Nat, n = (j + 1) % zss.length := ⟨_, rfl⟩
  rw [← hnx] at i2
  have HNX : Hid (nxJ zss j = nx) := Lib.hid (by rw [hnx]; rfl)
  clear hc2 ho2 hnx
  go_wp2_with fail
  go_region
  all_goals
    go_wp2
    go_ret
    have hfl := H.out.fl
    have hll := H.out.ll
    have s5 := HC2.out.set 5 (.int .i64 (nx : Int))
    have hd : Below (w2.setCell ⟨g, 5, none⟩ (.int .i64 (nx : Int))).heap.size (w2.setCell ⟨g, 5, none⟩ (.int .i64 (nx : Int))) (w2.setCell ⟨g, 5, none⟩ (.int .i64 (nx : Int))).drew := (Below.refl _ _).drew
    have hon : Only (fun k => k = g ∨ k = q) w (w2.setCell ⟨g, 5, none⟩ (.int .i64 (nx : Int))).drew := (HO2.out.set (p := ⟨g, 5, none⟩) (.inl rfl) _).trans (Only.of_below hd)
    exact ⟨zs, (f + 1) % 1000, l - 1, rfl, ⟨by rw [HNX.out]; exact s5.below hd s5.lt, (HR2.out.other (p := ⟨g, 5, none⟩) H.out.ne _).below hd (by simpa using HR2.out.lt), H.out.zl, H.out.fit, by omega, by omega, H.out.ne, H.out.hz, H.out.old.trans (Kept.of_only hon (fun k hk hq => by have := H.out.bg; have := H.out.bq; rcases hq with rfl | rfl <;> omega)), H.out.bg, H.out.bq⟩, by rw [HAP.out, rg_drop (by have := H0.out; omega)], hon⟩
set_option maxRecDepth 100000 in
set_option maxHeartbeats 4000000 in
theorem cyStepFull {w0 w : World} {g q : Nat} {vz : Value} {zss : List (List Int)} {zs : List Int} {f l : Nat} {ok : Bool} {j : Nat} (h : CyR w0 w g q vz zss zs f l ok (j : Int)) (hc : cycB zss = true) (hj : j < zss.length) (h0 : 0 < l) (hf : 1000 < (apC zss j (rg zs f l)).length) :
    Calls Tryd.prog 194 #[.pointer (some ⟨g, 0, none⟩)] w fun e w' => e = .returned (.iface 162 (.int .i64 5)) ∧ Only (fun k => k = g ∨ k = q) w w' := by
  have HH := Lib.hid (cyHalts h false (by simp; omega))
  have h1 : (rg zs f l).getD 0 0 = 1 := by
    by_cases h1 : (rg zs f l).getD 0 0 = 1
    · exact h1
    · rw [apC_not h1, List.length_drop, rg_len] at hf; have := h.ll; omega
  obtain ⟨hyl, bz, oz, cz, yv, rfl, hbz, hcy, hyr⟩ := h.word hc hj
  obtain ⟨ys, hys⟩ : ∃ ys, ys = zss.getD j [] := ⟨_, rfl⟩
  rw [apC_one h1, List.length_append, List.length_drop, rg_len, ← hys] at hf
  rw [← hys] at hyr
  rw [h.first h0] at h1
  have HYR := Lib.hid hyr
  obtain ⟨_, _, ay, cy, rfl, _, _⟩ := hyr
  have H := Lib.hid h
  have H0 := Lib.hid h0
  have H1Y := Lib.hid h1
  have HF := Lib.hid hf
  have HBZ := Lib.hid hbz
  have HCY := Lib.hid hcy
  have i0 : (0 : Int) ≤ (j : Int) := by omega
  have i1 : (j : Int) < (zss.length : Int) := by omega
  clear h hc hj h0 h1 hf hys hyl hbz hcy
  go_enter Tryd.func194, Tryd.ntmps194
  go_wp2_with fail
  refine HH.out.mono ?_
  rintro e w1 ⟨rfl, rfl⟩
  go_wp2_with fail
  refine (queHeadY1 g q f l _ _ zs _ 1 H.out.head ⟨rfl, rfl, rfl⟩ H.out.ring H.out.zl H.out.fl H1Y.out).mono ?_
  rintro e w1 ⟨rfl, mm, hmm⟩
  have hb1 : Below w.heap.size w w1 := by rw [hmm]; exact below_drewN (Below.refl _ _) mm
  have H1 := Lib.hid (H.out.below hb1)
  have HO1 : Hid (Only (fun k => k = g ∨ k = q) w w1) := Lib.hid (Only.of_below hb1)
  clear hmm hb1
  go_wp2_with fail
  refine (queTake1 g q f l 1 _ _ _ H1.out.head ⟨rfl, rfl, rfl⟩ H.out.fl H.out.ll H0.out).mono ?_
  rintro e w2 ⟨⟨v2, rfl⟩, hc2, ho2⟩
  have HC2 : Hid (Cels w2 g 172 [.slice (some ⟨bz, oz, none⟩) zss.length cz, .slice (some ⟨q, 0, none⟩) 1000 1000, .int .i64 (((f + 1) % 1000 : Nat) : Int), .int .i64 ((l - 1 : Nat) : Int), .bool ok, .int .i64 (j : Int)]) := Lib.hid hc2
  have HO2 : Hid (Only (fun k => k = g ∨ k = q) w w2) := Lib.hid (HO1.out.trans (ho2.mono (fun _ _ h => .inl h)))
  have HK2 := Lib.hid (H.out.old.trans (Kept.of_only HO2.out (fun k hk hq => by have := H.out.bg; have := H.out.bq; rcases hq with rfl | rfl <;> omega)))
  have HSZ2 := Lib.hid HO2.out.size
  clear hc2 ho2
  go_upto_region 6 with fail
  have HS : Hid (∀ W, Below w2.heap.size w2 W → W.cell? ⟨g, 0, none⟩ = some (.slice (some ⟨bz, oz, none⟩) zss.length cz) ∧ W.cell? ⟨g, 5, none⟩ = some (.int .i64 (j : Int)) ∧ W.cell? ⟨bz, oz + j, none⟩ = some (.slice ay ys.length cy)) := Lib.hid (fun W k => ⟨(HC2.out.below k HC2.out.lt).cell 0 rfl, (HC2.out.below k HC2.out.lt).cell 5 rfl, (k.cell (p := ⟨bz, oz + j, none⟩) (Nat.lt_of_lt_of_le HBZ.out HK2.out.size)).trans (HK2.out.cell HCY.out HBZ.out)⟩)
  have HD : Hid (Below w2.heap.size w2 w2.drew) := Lib.hid (Below.refl _ _).drew
  go_region_held3 (fun W => W.cell? ⟨g, 0, none⟩ = some (.slice (some ⟨bz, oz, none⟩) zss.length cz) ∧ W.cell? ⟨g, 5, none⟩ = some (.int .i64 (j : Int)) ∧ W.cell? ⟨bz, oz + j, none⟩ = some (.slice ay ys.length cy)) (exact HS.out _ HD.out)
    (first
      | (go_at_call 189; with_reducible refine (quePutFull1 g q ((f + 1) % 1000) (l - 1) _ _ _ ys _ (HC2.out.below HD.out HC2.out.lt) ⟨rfl, rfl, rfl⟩ ((HYR.out.keptQ HK2.out).below HD.out (Nat.le_refl _)) (by have := H.out.ll; omega) HF.out).mono ?_; rintro e4 w4 ⟨rfl, hb4⟩; replace HD := Lib.hid (HD.out.trans (hb4.mono HD.out.size)); clear hb4))
  have HO4 := Lib.hid (HO2.out.trans (Only.of_below HD.out))
  go_wp2
  go_ret
  exact ⟨rfl, HO4.out⟩
set_option maxRecDepth 100000 in
set_option maxHeartbeats 4000000 in
theorem cyStepPut {w0 w : World} {g q : Nat} {vz : Value} {zss : List (List Int)} {zs : List Int} {f l : Nat} {ok : Bool} {j : Nat} (h : CyR w0 w g q vz zss zs f l ok (j : Int)) (hc : cycB zss = true) (hj : j < zss.length) (h0 : 0 < l) (h1 : (rg zs f l).getD 0 0 = 1) (hf : (apC zss j (rg zs f l)).length ≤ 1000) :
    Calls Tryd.prog 194 #[.pointer (some ⟨g, 0, none⟩)] w fun e w' => ∃ zs' f' l', e = .returned .nilIface ∧ CyR w0 w' g q vz zss zs' f' l' ok ((nxJ zss j : Nat) : Int) ∧ rg zs' f' l' = apC zss j (rg zs f l) ∧ Only (fun k => k = g ∨ k = q) w w' := by
  have HH := Lib.hid (cyHalts h false (by simp; omega))
  have HL := Lib.hid (And.intro (cycB_ok hc).1 hj)
  obtain ⟨hyl, bz, oz, cz, yv, rfl, hbz, hcy, hyr⟩ := h.word hc hj
  obtain ⟨ys, hys⟩ : ∃ ys, ys = zss.getD j [] := ⟨_, rfl⟩
  have hap : apC zss j (rg zs f l) = (rg zs f l).drop 1 ++ ys := by rw [apC_one h1, ← hys]
  rw [hap, List.length_append, List.length_drop, rg_len] at hf
  rw [← hys] at hyr
  rw [h.first h0] at h1
  have HYR := Lib.hid hyr
  obtain ⟨_, _, ay, cy, rfl, _, _⟩ := hyr
  have H := Lib.hid h
  have H0 := Lib.hid h0
  have H1Y := Lib.hid h1
  have HF := Lib.hid hf
  have HBZ := Lib.hid hbz
  have HCY := Lib.hid hcy
  have HAP := Lib.hid hap
  have i0 : (0 : Int) ≤ (j : Int) := by omega
  have i1 : (j : Int) < (zss.length : Int) := by omega
  clear h hc hj h0 h1 hf hys hyl hbz hcy hap
  go_enter Tryd.func194, Tryd.ntmps194
  go_wp2_with fail
  refine HH.out.mono ?_
  rintro e w1 ⟨rfl, rfl⟩
  go_wp2_with fail
  refine (queHeadY1 g q f l _ _ zs _ 1 H.out.head ⟨rfl, rfl, rfl⟩ H.out.ring H.out.zl H.out.fl H1Y.out).mono ?_
  rintro e w1 ⟨rfl, mm, hmm⟩
  have hb1 : Below w.heap.size w w1 := by rw [hmm]; exact below_drewN (Below.refl _ _) mm
  have H1 := Lib.hid (H.out.below hb1)
  have HO1 : Hid (Only (fun k => k = g ∨ k = q) w w1) := Lib.hid (Only.of_below hb1)
  clear hmm hb1
  go_wp2_with fail
  refine (queTake1 g q f l 1 _ _ _ H1.out.head ⟨rfl, rfl, rfl⟩ H.out.fl H.out.ll H0.out).mono ?_
  rintro e w2 ⟨⟨v2, rfl⟩, hc2, ho2⟩
  have HC2 : Hid (Cels w2 g 172 [.slice (some ⟨bz, oz, none⟩) zss.length cz, .slice (some ⟨q, 0, none⟩) 1000 1000, .int .i64 (((f + 1) % 1000 : Nat) : Int), .int .i64 ((l - 1 : Nat) : Int), .bool ok, .int .i64 (j : Int)]) := Lib.hid hc2
  have HR2 : Hid (Cels w2 q 2 (zs.map (.int .i64))) := Lib.hid (ho2.kept H1.out.ring H.out.ne)
  have HO2 : Hid (Only (fun k => k = g ∨ k = q) w w2) := Lib.hid (HO1.out.trans (ho2.mono (fun _ _ h => .inl h)))
  have HK2 := Lib.hid (H.out.old.trans (Kept.of_only HO2.out (fun k hk hq => by have := H.out.bg; have := H.out.bq; rcases hq with rfl | rfl <;> omega)))
  clear hc2 ho2
  go_upto_region 6 with fail
  have HS : Hid (∀ W, W.cell? ⟨g, 0, none⟩ = some (.slice (some ⟨bz, oz, none⟩) zss.length cz) → W.cell? ⟨g, 5, none⟩ = some (.int .i64 (j : Int)) → Kept (fun k => k < w0.heap.size) w0 W → W.cell? ⟨g, 0, none⟩ = some (.slice (some ⟨bz, oz, none⟩) zss.length cz) ∧ W.cell? ⟨g, 5, none⟩ = some (.int .i64 (j : Int)) ∧ W.cell? ⟨bz, oz + j, none⟩ = some (.slice ay ys.length cy)) := Lib.hid (fun W k1 k2 j => ⟨k1, k2, j.cell HCY.out HBZ.out⟩)
  have HD : Hid (Below w2.heap.size w2 w2.drew) := Lib.hid (Below.refl _ _).drew
  have HKD : Hid (∀ W, Below w2.heap.size w2 W → Kept (fun k => k < w0.heap.size) w0 W) := Lib.hid (fun W h => HK2.out.trans ⟨h.size, fun i hi _ => h.block i hi⟩)
  go_cut [4] (fun s4 wx => s4 = .nilIface ∧ Cels wx g 172 [.slice (some ⟨bz, oz, none⟩) zss.length cz, .slice (some ⟨q, 0, none⟩) 1000 1000, .int .i64 (((f + 1) % 1000 : Nat) : Int), .int .i64 ((l - 1 + ys.length : Nat) : Int), .bool ok, .int .i64 (j : Int)] ∧ Cels wx q 2 ((pg zs ys (((f + 1) % 1000 + (l - 1)) % 1000)).map (.int .i64)) ∧ Only (fun k => k = g ∨ k = q) w wx)
  case first =>
    go_region_held3 (fun W => W.cell? ⟨g, 0, none⟩ = some (.slice (some ⟨bz, oz, none⟩) zss.length cz) ∧ W.cell? ⟨g, 5, none⟩ = some (.int .i64 (j : Int)) ∧ W.cell? ⟨bz, oz + j, none⟩ = some (.slice ay ys.length cy)) (first | exact HS.out _ (HC4.out.cell 0 rfl) (HC4.out.cell 5 rfl) HK4.out | exact HS.out _ ((HC2.out.below HD.out HC2.out.lt).cell 0 rfl) ((HC2.out.below HD.out HC2.out.lt).cell 5 rfl) (HKD.out _ HD.out))
      (first
        | (go_at_call 189; with_reducible refine (quePut1 g q ((f + 1) % 1000) (l - 1) _ _ _ zs ys _ (HC2.out.below HD.out HC2.out.lt) ⟨rfl, rfl, rfl⟩ (HR2.out.below HD.out HR2.out.lt) H.out.ne (fun W k => HYR.out.keptQ ((HKD.out _ HD.out).trans (Kept.of_only k (fun j hj hq => by have := H.out.bg; have := H.out.bq; rcases hq with rfl | rfl <;> omega)))) H.out.zl (Nat.mod_lt _ (by omega)) HF.out).mono ?_; rintro e4 w4 ⟨rfl, hc4, hr4, ho4⟩; have HC4 := Lib.hid hc4; have HR4 := Lib.hid hr4; have HK4 := Lib.hid ((HKD.out _ HD.out).trans (Kept.of_only ho4 (fun j hj hq => by have := H.out.bg; have := H.out.bq; rcases hq with rfl | rfl <;> omega))); have HO4 := Lib.hid ((HO2.out.trans (Only.of_below HD.out)).trans ho4); clear hc4 hr4 ho4))
    all_goals (go_wp2_with fail; go_meet)
    all_goals exact ⟨rfl, HC4.out, HR4.out, HO4.out⟩
  obtain ⟨rfl, hc4, hr4, ho4⟩ := hcut
  obtain ⟨w4, hw4⟩ : ∃ x, x = wc := ⟨_, rfl⟩
  subst hw4
  have z0 := hc4.cell 0 rfl
  have z5 := hc4.cell 5 rfl
  have v5 := hc4.frozen 5
  have HC4 := Lib.hid hc4
  have HR4 := Lib.hid hr4
  have HO4 := Lib.hid ho4
  have i2 : IntKind.i64.wrap ((j : Int) + 1) = (j : Int) + 1 := by have := HL.out; rw [IntKind.wrap_i64]; omega
  have i3 := nxJ_tmod j zss.length
  have i4 : ¬ ((zss.length : Int) = 0) := by have := HL.out; omega
  obtain ⟨nx, hnx⟩ : ∃ n : Nat, n = (j + 1) % zss.length := ⟨_, rfl⟩
  rw [← hnx] at i3
  have HNX : Hid (nxJ zss j = nx) := Lib.hid (by rw [hnx]; rfl)
  clear hc4 hr4 ho4 hnx HS HD
  go_wp2_with fail
  go_region
  all_goals
    go_wp2
    go_ret
    have hfl := H.out.fl
    have hll := H.out.ll
    have hzl := H.out.zl
    have hle := HF.out
    have h00 := H0.out
    have s5 := HC4.out.set 5 (.int .i64 (nx : Int))
    have hd : Below (w4.setCell ⟨g, 5, none⟩ (.int .i64 (nx : Int))).heap.size (w4.setCell ⟨g, 5, none⟩ (.int .i64 (nx : Int))) (w4.setCell ⟨g, 5, none⟩ (.int .i64 (nx : Int))).drew := (Below.refl _ _).drew
    have hon : Only (fun k => k = g ∨ k = q) w (w4.setCell ⟨g, 5, none⟩ (.int .i64 (nx : Int))).drew := (HO4.out.set (p := ⟨g, 5, none⟩) (.inl rfl) _).trans (Only.of_below hd)
    exact ⟨_, (f + 1) % 1000, l - 1 + ys.length, rfl, ⟨by rw [HNX.out]; exact s5.below hd s5.lt, (HR4.out.other (p := ⟨g, 5, none⟩) H.out.ne _).below hd (by simpa using HR4.out.lt), pg_len hzl (by omega) (by omega), (H.out.fit.splice (HYR.out.fit.takeQ _)).splice (HYR.out.fit.dropQ _), by omega, by omega, H.out.ne, H.out.hz, H.out.old.trans (Kept.of_only hon (fun k hk hq => by have := H.out.bg; have := H.out.bq; rcases hq with rfl | rfl <;> omega)), H.out.bg, H.out.bq⟩, by rw [HAP.out, rg_put hzl (by omega) hle, rg_drop (by omega)], hon⟩
theorem cyStepGo {w0 w : World} {g q : Nat} {vz : Value} {zss : List (List Int)} {zs : List Int} {f l : Nat} {ok : Bool} {j : Nat} (h : CyR w0 w g q vz zss zs f l ok (j : Int)) (hc : cycB zss = true) (hj : j < zss.length) (h0 : 0 < l) (hf : (apC zss j (rg zs f l)).length ≤ 1000) :
    Calls Tryd.prog 194 #[.pointer (some ⟨g, 0, none⟩)] w fun e w' => ∃ zs' f' l', e = .returned .nilIface ∧ CyR w0 w' g q vz zss zs' f' l' ok ((nxJ zss j : Nat) : Int) ∧ rg zs' f' l' = apC zss j (rg zs f l) ∧ Only (fun k => k = g ∨ k = q) w w' := by
  by_cases h1 : (rg zs f l).getD 0 0 = 1
  · exact cyStepPut h hc hj h0 h1 hf
  · exact cyStepSkip h hc hj h0 h1
end Go.Proofs.YtkjoakdepjpkhaaDoor.Ints
