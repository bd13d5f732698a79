/- The text of a store, of the model and of the program. -/
import Derived.Test.YtemooadcjdngdaaDoorLtI
import Derived.Test.YtemooadcjdngdaaDoorCtT
import Derived.Test.YtemooadcjdngdaaDoorStv
import Derived.Deep.RegionHeld3
namespace Go.Proofs.YtemooadcjdngdaaDoor.Ints
open Go.RowKit
set_option linter.unusedVariables false
set_option linter.unusedSimpArgs false
def shX (at' : Int) (cs : List Int) : List UInt8 := Lib.itoa at' ++ [58] ++ txtL 44 cs
noncomputable def shV (rs : List Ins) (at' : Int) (cs : List Int) : List UInt8 := if vsB rs at' cs = true then shX at' cs else []
theorem vsB_fit {rs : List Ins} {at' : Int} {cs : List Int} (h : vsB rs at' cs = true) : (0 ≤ at' ∧ at' ≤ (rs.length : Int)) ∧ cs.length = 24 ∧ Dig 1000001 cs := by
  simp only [vsB, stoB, Bool.and_eq_true, decide_eq_true_eq] at h
  refine ⟨h.2.1, h.2.2.1, ?_⟩
  by_cases k : Dig 1000001 cs
  · exact k
  · have := h.2.2.2; rw [digB_false k] at this; cases this
theorem vsB_lt {rs : List Ins} {at' : Int} {cs : List Int} (h : vsB rs at' cs = true) : ltV cs = txtL 44 cs := by
  obtain ⟨_, h2, h3⟩ := vsB_fit h
  have : fitB cs = true := by
    rw [fitB, decide_eq_true (by omega), betB_true fun i hi => by have := h3 i hi; omega]; rfl
  rw [ltV, if_pos this]
theorem specListTT (v : Value) (zs : List Int) (t : ByteArray) (w : World) (h : Rd w v zs) (hl8 : zs.length ≤ 2000) (ht : t = bs (txtL 44 zs)) :
    Calls Tryd.prog 45 #[v] w fun e w' => e = .returned (.string t) ∧ Below w.heap.size w w' := by subst ht; exact specListT v zs w h hl8
theorem implDecS (n : Int) (t : ByteArray) (w : World) (n0 : -9223372036854775808 ≤ n) (n1 : n ≤ 9223372036854775807) (htb : TabV w) (ht : t = bs (Lib.itoa n)) :
    Calls Tryd.prog 11 #[.int .i64 n] w fun e w' => e = .returned (.string t) ∧ Below w.heap.size w w' := by
  subst ht; exact implDec n n0 n1 w htb
theorem implListTT (v : Value) (zs : List Int) (t : ByteArray) (w : World) (h : Rd w v zs) (htb : TabV w) (ht : t = bs (ltV zs)) :
    Calls Tryd.prog 14 #[v] w fun e w' => e = .returned (.string t) ∧ Below w.heap.size w w' := by subst ht; exact implListText v zs w h htb
set_option maxHeartbeats 4000000 in
theorem specShow (g : Nat) (rs : List Ins) (at' : Int) (u : Value) (cs : List Int) (w : World) (hrl : rs.length ≤ 16777216) (hu : Rd w u cs) (hc : Cels w g 67 [.int .i64 at', u]) (hv : vsB rs at' cs = true) :
    Calls Tryd.prog 73 #[.pointer (some ⟨g, 0, none⟩)] w fun e w' => e = .returned (.string (bs (shX at' cs))) ∧ Below w.heap.size w w' := by
  obtain ⟨⟨x0, x1⟩, hl, _⟩ := vsB_fit hv
  have x2 : at' ≤ 16777216 := by omega
  have HU := Lib.hid hu
  have HK := Lib.hid hc
  have HL : Hid (cs.length ≤ 2000) := Lib.hid (by omega)
  obtain ⟨_, hfu, a1, c1, rfl, _, _⟩ := hu
  have HD : Hid (Below w.heap.size w w.drew) := Lib.hid (Below.refl _ _).drew
  have HS : Hid (∀ W, Below w.heap.size w W → W.cell? ⟨g, 0, none⟩ = some (.int .i64 at') ∧ W.cell? ⟨g, 1, none⟩ = some (.slice a1 cs.length c1)) := Lib.hid (fun W hW => by
    have h := HK.out.below hW HK.out.lt
    exact ⟨h.cell 0 rfl, h.cell 1 rfl⟩)
  obtain ⟨tx, htx⟩ : ∃ t, t = bs (Lib.itoa at') := ⟨_, rfl⟩
  obtain ⟨ty, hty⟩ : ∃ t, t = bs (txtL 44 cs) := ⟨_, rfl⟩
  have sx : tx.size ≤ 21 := by rw [htx, bs_size]; exact Lib.itoa_length_le at' (by omega) (by omega)
  have sy : ty.size ≤ 1000 := by rw [hty, bs_size]; have := txtL_small 44 cs hfu; omega
  have HX := Lib.hid htx
  have HY := Lib.hid hty
  have HE : Hid (tx ++ bs [58] ++ ty = bs (shX at' cs)) := Lib.hid (by rw [htx, hty, bs_append, bs_append]; rfl)
  have q1 : ¬ (9223372036854775807 < tx.size + 1) := by omega
  have q2 : ¬ (9223372036854775807 < tx.size + 1 + ty.size) := by omega
  have q5 : ¬ (9223372036854775807 ≤ tx.size) := by omega
  clear hc htx hty hfu hl hv
  go_enter Tryd.func73, Tryd.ntmps73
  go_wp2
  go_region_held3 (fun W => W.cell? ⟨g, 0, none⟩ = some (.int .i64 at') ∧ W.cell? ⟨g, 1, none⟩ = some (.slice a1 cs.length c1))
    (exact HS.out _ HD.out)
    (first | (go_at_call 42; with_reducible refine (specDecT _ tx (by omega) (by omega) HX.out _).mono ?_; rintro e1 w1 ⟨rfl, bq⟩; replace HD := Lib.hid (HD.out.trans (bq.mono HD.out.size)); clear bq) | (go_at_call 45; with_reducible refine (specListTT _ cs ty _ (HU.out.below HD.out (Nat.le_refl _)) HL.out HY.out).mono ?_; rintro e1 w1 ⟨rfl, bq⟩; replace HD := Lib.hid (HD.out.trans (bq.mono HD.out.size)); clear bq))
  all_goals
    go_wp2
    go_ret
    exact ⟨by rw [← HE.out]; rfl, HD.out⟩
set_option maxHeartbeats 2000000 in
theorem specStText (v : Value) (rs : List Ins) (at' : Int) (u : Value) (cs : List Int) (t : ByteArray) (w : World) (hv : RdIns w v rs) (hu : Rd w u cs) (ht : t = bs (shV rs at' cs)) :
    Calls Tryd.prog 36 #[v, .agg #[.int .i64 at', u]] w fun e w' => e = .returned (.string t) ∧ Below w.heap.size w w' := by
  have HV := Lib.hid hv
  have HU := Lib.hid hu
  have HTx := Lib.hid ht
  obtain ⟨hrl, _, a, c, rfl, _, _⟩ := hv
  have HRL := Lib.hid hrl
  obtain ⟨W0, hW0⟩ : ∃ W, W = w.alloc (Obj.cells #[.int .i64 at', u] 67) := ⟨_, rfl⟩
  have HK : Hid (Cels W0 w.heap.size 67 [.int .i64 at', u]) := Lib.hid (by rw [hW0]; exact Cels.new _ _ _)
  have HB0 : Hid (Below w.heap.size w W0) := Lib.hid (by rw [hW0]; exact (Below.refl _ _).alloc (Nat.le_refl _) _)
  have HW0 := Lib.hid hW0.symm
  clear hW0 hu ht hrl
  rcases eqOr (progB rs) with hp | hp
  · have e := Lib.hid (vsB_bad (a := at') (cs := cs) hp)
    go_enter Tryd.func36, Tryd.ntmps36
    go_wp2_with fail
    rw [HW0.out]
    refine (specPIs _ rs _ (HV.out.below HB0.out (Nat.le_refl _))).mono ?_
    rintro e1 w1 ⟨rfl, hb1⟩
    rw [hp]
    have HB1 := Lib.hid (HB0.out.trans (hb1.mono HB0.out.size))
    clear hb1
    go_wp2_with fail
    go_ret
    exact ⟨by rw [HTx.out, shV, e.out]; rfl, HB1.out⟩
  have e := Lib.hid (vsB_good (a := at') (cs := cs) hp)
  obtain ⟨ok, hok⟩ : ∃ b, b = vsB rs at' cs := ⟨_, rfl⟩
  have HOK := Lib.hid hok
  clear hok
  go_enter Tryd.func36, Tryd.ntmps36
  go_wp2_with fail
  rw [HW0.out]
  refine (specPIs _ rs _ (HV.out.below HB0.out (Nat.le_refl _))).mono ?_
  rintro e1 w1 ⟨rfl, hb1⟩
  rw [hp]
  have HB1 := Lib.hid (HB0.out.trans (hb1.mono HB0.out.size))
  replace HK := Lib.hid (HK.out.below hb1 HK.out.lt)
  clear hb1
  go_wp2_with fail
  refine (specGood a rs.length c w.heap.size _ at' u cs _ (HU.out.below HB1.out (Nat.le_refl _)) HK.out).mono ?_
  rintro e1 w2 ⟨rfl, hb1⟩
  have HB2 := Lib.hid (HB1.out.trans (hb1.mono HB1.out.size))
  replace HK := Lib.hid (HK.out.below hb1 HK.out.lt)
  clear hb1
  rw [← e.out, ← HOK.out]
  rcases eqOr ok with hb | hb
  · subst hb
    go_wp2_with fail
    go_ret
    exact ⟨by rw [HTx.out, shV, ← HOK.out]; rfl, HB2.out⟩
  subst hb
  go_wp2_with fail
  refine (specShow _ rs at' _ cs _ HRL.out (HU.out.below HB2.out (Nat.le_refl _)) HK.out HOK.out.symm).mono ?_
  rintro e1 w3 ⟨rfl, hb1⟩
  have HB3 := Lib.hid (HB2.out.trans (hb1.mono HB2.out.size))
  clear hb1
  go_wp2
  go_ret
  exact ⟨by rw [HTx.out, shV, ← HOK.out]; rfl, HB3.out⟩
set_option maxHeartbeats 4000000 in
theorem implStText (v : Value) (rs : List Ins) (at' : Int) (u : Value) (cs : List Int) (w : World) (hv : RdIns w v rs) (hu : Rd w u cs) (ht : TabV w) :
    Calls Tryd.prog 39 #[v, .agg #[.int .i64 at', u]] w fun e w' => e = .returned (.string (bs (shV rs at' cs))) ∧ Below w.heap.size w w' := by
  have HV := Lib.hid hv
  have HU := Lib.hid hu
  obtain ⟨hrl, _, a, c, rfl, _, _⟩ := hv
  obtain ⟨_, hfu, a1, c1, rfl, _, _⟩ := hu
  have HFu := Lib.hid hfu
  have HRL := Lib.hid hrl
  obtain ⟨W0, hW0⟩ : ∃ W, W = w.alloc (Obj.cells #[.int .i64 at', .slice a1 cs.length c1] 67) := ⟨_, rfl⟩
  have K1 : Hid (Cels W0 w.heap.size 67 [.int .i64 at', .slice a1 cs.length c1]) := Lib.hid (by rw [hW0]; exact Cels.new _ _ _)
  have HB : Hid (Below w.heap.size w W0) := Lib.hid (by rw [hW0]; exact (Below.refl _ _).alloc (Nat.le_refl _) _)
  have HW0 := Lib.hid hW0.symm
  have HTb := Lib.hid ht
  obtain ⟨ok, hok⟩ : ∃ b, b = vsB rs at' cs := ⟨_, rfl⟩
  have HOK := Lib.hid hok
  clear hok hW0 ht hfu hrl
  have k0 := K1.out.cell 0 rfl
  have k1 := K1.out.cell 1 rfl
  go_enter Tryd.func39, Tryd.ntmps39
  go_wp2_with fail
  rw [HW0.out]
  go_wp2_with fail
  refine (implValidStore _ rs at' _ cs _ (HV.out.below HB.out (Nat.le_refl _)) (HU.out.below HB.out (Nat.le_refl _))).mono ?_
  rintro e w1 ⟨rfl, hb1⟩
  rw [← HOK.out]
  replace K1 := Lib.hid (K1.out.below hb1 K1.out.lt)
  have HB1 := Lib.hid (HB.out.trans (hb1.mono HB.out.size))
  clear hb1 k0 k1
  rcases eqOr ok with hb | hb
  · subst hb
    go_wp2_with fail
    go_ret
    exact ⟨by rw [shV, ← HOK.out]; rfl, HB1.out⟩
  subst hb
  have HF := Lib.hid (vsB_fit HOK.out.symm)
  have x0 : 0 ≤ at' := HF.out.1.1
  have x2 : at' ≤ 16777216 := by have := HF.out.1.2; have := HRL.out; omega
  replace HU : Hid (Rd w1 (.slice a1 cs.length c1) cs) := Lib.hid (HU.out.below HB1.out (Nat.le_refl _))
  replace HTb : Hid (TabV w1) := Lib.hid (HTb.out.below HB1.out (Nat.le_refl _))
  have HD : Hid (Below w1.heap.size w1 w1.drew) := Lib.hid (Below.refl _ _).drew
  have HS : Hid (∀ W, Below w1.heap.size w1 W → W.cell? ⟨w.heap.size, 0, none⟩ = some (.int .i64 at') ∧ W.cell? ⟨w.heap.size, 1, none⟩ = some (.slice a1 cs.length c1)) := Lib.hid (fun W hW => by
    have h := K1.out.below hW K1.out.lt
    exact ⟨h.cell 0 rfl, h.cell 1 rfl⟩)
  obtain ⟨tx, htx⟩ : ∃ t, t = bs (Lib.itoa at') := ⟨_, rfl⟩
  obtain ⟨ty, hty⟩ : ∃ t, t = bs (ltV cs) := ⟨_, rfl⟩
  have hlv := vsB_lt HOK.out.symm
  have sx : tx.size ≤ 21 := by rw [htx, bs_size]; exact Lib.itoa_length_le at' (by omega) (by omega)
  have sy : ty.size ≤ 1000 := by rw [hty, hlv, bs_size]; have := txtL_small 44 cs HFu.out; have := HF.out.2.1; omega
  have HX := Lib.hid htx
  have HY := Lib.hid hty
  have HE : Hid (tx ++ bs [58] ++ ty = bs (shV rs at' cs)) := Lib.hid (by rw [htx, hty, hlv, shV, if_pos HOK.out.symm, bs_append, bs_append]; rfl)
  have q1 : ¬ (9223372036854775807 < tx.size + 1) := by omega
  have q2 : ¬ (9223372036854775807 < tx.size + 1 + ty.size) := by omega
  have q5 : ¬ (9223372036854775807 ≤ tx.size) := by omega
  have HLT : Hid (w.heap.size ≤ w1.heap.size) := Lib.hid HB1.out.size
  clear htx hty hlv
  go_wp2
  go_region_held3 (fun W => W.cell? ⟨w.heap.size, 0, none⟩ = some (.int .i64 at') ∧ W.cell? ⟨w.heap.size, 1, none⟩ = some (.slice a1 cs.length c1))
    (exact HS.out _ HD.out)
    (first | (go_at_call 11; with_reducible refine (implDecS _ tx _ (by omega) (by omega) (HTb.out.below HD.out (Nat.le_refl _)) HX.out).mono ?_; rintro e1 w2 ⟨rfl, bq⟩; replace HD := Lib.hid (HD.out.trans (bq.mono HD.out.size)); clear bq) | (go_at_call 14; with_reducible refine (implListTT _ cs ty _ (HU.out.below HD.out (Nat.le_refl _)) (HTb.out.below HD.out (Nat.le_refl _)) HY.out).mono ?_; rintro e1 w2 ⟨rfl, bq⟩; replace HD := Lib.hid (HD.out.trans (bq.mono HD.out.size)); clear bq))
  all_goals
    go_wp2
    go_ret
    exact ⟨by rw [← HE.out]; rfl, HB1.out.trans (HD.out.mono HLT.out)⟩
end Go.Proofs.YtemooadcjdngdaaDoor.Ints
