/- The text of a tag system, of the model and of the program. -/
import Derived.Test.YtemooadcjdngdaaDoorWdI
import Derived.Test.YtemooadcjdngdaaDoorCtT
namespace Go.Proofs.YtemooadcjdngdaaDoor.Ints
open Go.RowKit
set_option linter.unusedVariables false
set_option linter.unusedSimpArgs false

theorem dig_inc {zs : List Int} {n : Nat} (h1 : IncQ zs zs.length) (h2 : Dig n zs) : zs.length ≤ n := by
  have h : ∀ i, i < zs.length → (i : Int) ≤ zs.getD i 0 := by
    intro i
    induction i with
    | zero => intro hi; exact (h2 0 hi).1
    | succ i ih =>
      intro hi
      have := ih (by omega)
      have := h1 i hi
      omega
  by_cases h0 : zs.length = 0
  · omega
  · have h3 := h (zs.length - 1) (by omega)
    have h4 := (h2 (zs.length - 1) (by omega)).2
    omega
theorem tag_wds {w : World} {v u : Value} {d : Int} {zss : List (List Int)} {hs : List Int} (h : RdL w v zss) (ht : tagB d zss hs = true) : (1 ≤ d ∧ d ≤ 4) ∧ Wds zss ∧ hs.length ≤ 200 := by
  simp only [tagB, Bool.and_eq_true, decide_eq_true_eq] at ht
  have hr : riseN zss.length hs = true := by
    first | exact ht.2.2.1 | exact ht.1.2 | exact ht.2.1.2 | (obtain ⟨_, _, q, _⟩ := ht; exact q)
  have hq : allQ zss.length zss = true := by
    first | exact ht.2.2.2 | exact ht.2 | (obtain ⟨_, _, _, q⟩ := ht; exact q)
  have hd : 1 ≤ d ∧ d ≤ 4 := by first | exact ht.1 | exact ht.1.1 | exact ht.1.1.1
  have hn : (zss.length : Int) ≤ 200 := by first | exact ht.2.1.2 | exact ht.1.2.2 | exact ht.1.1.2.2
  have hr2 : IncQ hs hs.length ∧ Dig zss.length hs := by simpa [riseN] using hr
  have h3 := dig_inc hr2.1 hr2.2
  exact ⟨hd, ⟨by omega, fun zs hz => ⟨h.fit zs hz, allQ_len hq zs hz⟩⟩, by omega⟩
def tgTx (d : Int) (zss : List (List Int)) (hs : List Int) : List UInt8 := Lib.itoa d ++ [58] ++ txtW zss ++ [58] ++ txtL 46 hs
noncomputable def tgV (d : Int) (zss : List (List Int)) (hs : List Int) : List UInt8 := if tagB d zss hs = true then tgTx d zss hs else []
theorem specWordsT (v : Value) (zss : List (List Int)) (t : ByteArray) (w : World) (h : RdL w v zss) (hw : Wds zss) (ht : t = bs (txtW zss)) :
    Calls Tryd.prog 69 #[v] w fun e w' => e = .returned (.string t) ∧ Below w.heap.size w w' := by subst ht; exact specWords v zss w h hw
theorem implWordsT (v : Value) (zss : List (List Int)) (t : ByteArray) (w : World) (h : RdL w v zss) (htb : TabV w) (hw : Wds zss) (ht : t = bs (txtW zss)) :
    Calls Tryd.prog 65 #[v] w fun e w' => e = .returned (.string t) ∧ Below w.heap.size w w' := by subst ht; exact implTagWords v zss w h htb hw
theorem implLettersT (v : Value) (zs : List Int) (t : ByteArray) (w : World) (h : Rd w v zs) (htb : TabV w) (hl : zs.length ≤ 1000) (ht : t = bs (txtL 46 zs)) :
    Calls Tryd.prog 66 #[v] w fun e w' => e = .returned (.string t) ∧ Below w.heap.size w w' := by subst ht; exact implTagWord' v zs w h htb hl
theorem implDecT (n : Int) (t : ByteArray) (w : World) (n0 : -9223372036854775808 ≤ n) (n1 : n ≤ 9223372036854775807) (htb : TabV w) (ht : t = bs (Lib.itoa n)) :
    Calls Tryd.prog 11 #[.int .i64 n] w fun e w' => e = .returned (.string t) ∧ Below w.heap.size w w' := by
  subst ht; exact implDec n n0 n1 w htb
theorem join3 (W : World) (tx ty tz r : ByteArray) (x y z sep : List UInt8) (hx : tx = bs x) (hy : ty = bs y) (hz : tz = bs z) (hl : (Lib.join [x, y, z] sep).length ≤ 100000000) (hr : r = bs (Lib.join [x, y, z] sep)) :
    Calls Tryd.prog 47 #[.slice (some ⟨W.heap.size, 0, none⟩) 3 3, .string (bs sep)] (W.alloc (.cells #[.string tx, .string ty, .string tz] 9)) fun e w' => e = .returned (.string r) ∧ Below W.heap.size W w' := by
  subst hx; subst hy; subst hz; subst hr
  have h := World.ownsRow_lit (base := W.heap.size) (e := 9) (size := 1) W #[.string (bs x), .string (bs y), .string (bs z)] 3 (Nat.le_refl _) (by unfold maxLen; omega) (by simp)
  refine (joinRow _ W.heap.size [x, y, z] sep _ h (by simp) hl).mono fun e w' ⟨he, hb⟩ => ⟨he, ?_⟩
  exact ((Below.refl W.heap.size W).alloc (Nat.le_refl _) _).trans (hb.mono (by simp))
set_option maxHeartbeats 4000000 in
theorem specTagT (gx : Nat) (d : Int) (v : Value) (zss : List (List Int)) (u : Value) (hs : List Int) (w : World) (hv : RdL w v zss) (hu : Rd w u hs) (hx : Cels w gx 47 [.int .i64 d, v, u]) (ht : tagB d zss hs = true) :
    Calls Tryd.prog 62 #[.pointer (some ⟨gx, 0, none⟩)] w fun e w' => e = .returned (.string (bs (tgTx d zss hs))) ∧ Below w.heap.size w w' := by
  obtain ⟨⟨d0, d1⟩, hwds, hh⟩ := tag_wds (u := u) hv ht
  have HV := Lib.hid hv
  have HU := Lib.hid hu
  have HK := Lib.hid hx
  have HWd := Lib.hid hwds
  have HH : Hid (hs.length ≤ 2000) := Lib.hid (by omega)
  obtain ⟨_, a, c, rfl, hcap, _⟩ := hv
  obtain ⟨_, hfu, a2, c2, rfl, _, _⟩ := hu
  have HD : Hid (Below w.heap.size w w.drew) := Lib.hid (Below.refl _ _).drew
  have HS : Hid (∀ W, Below w.heap.size w W → W.cell? ⟨gx, 0, none⟩ = some (.int .i64 d) ∧ W.cell? ⟨gx, 1, none⟩ = some (.slice a zss.length c) ∧ W.cell? ⟨gx, 2, none⟩ = some (.slice a2 hs.length c2)) := Lib.hid (fun W hW => by
    have h := HK.out.below hW HK.out.lt
    exact ⟨h.cell 0 rfl, h.cell 1 rfl, h.cell 2 rfl⟩)
  obtain ⟨tx, htx⟩ : ∃ t, t = bs (Lib.itoa d) := ⟨_, rfl⟩
  obtain ⟨ty, hty⟩ : ∃ t, t = bs (txtW zss) := ⟨_, rfl⟩
  obtain ⟨tz, htz⟩ : ∃ t, t = bs (txtL 46 hs) := ⟨_, rfl⟩
  have sx : tx.size ≤ 21 := by rw [htx, bs_size]; exact Lib.itoa_length_le d (by omega) (by omega)
  have sy : ty.size ≤ 9000000 := by rw [hty, bs_size]; exact hwds.small
  have sz : tz.size ≤ 9000000 := by rw [htz, bs_size]; have := txtL_small 46 hs hfu; omega
  have HX := Lib.hid htx
  have HY := Lib.hid hty
  have HZ := Lib.hid htz
  have HE : Hid (tx ++ bs [58] ++ ty ++ bs [58] ++ tz = bs (tgTx d zss hs)) := Lib.hid (by rw [htx, hty, htz, bs_append, bs_append, bs_append, bs_append]; rfl)
  have q1 : ¬ (9223372036854775807 < tx.size + 1) := by omega
  have q2 : ¬ (9223372036854775807 < tx.size + 1 + ty.size) := by omega
  have q3 : ¬ (9223372036854775807 < tx.size + 1 + ty.size + 1) := by omega
  have q4 : ¬ (9223372036854775807 < tx.size + 1 + ty.size + 1 + tz.size) := by omega
  have q5 : ¬ (9223372036854775807 ≤ tx.size) := by omega
  have q6 : ¬ (9223372036854775807 ≤ tx.size + 1 + ty.size) := by omega
  clear hx htx hty htz ht hwds hfu hh hcap
  go_enter Tryd.func62, Tryd.ntmps62
  go_wp2
  go_region_held3 (fun W => W.cell? ⟨gx, 0, none⟩ = some (.int .i64 d) ∧ W.cell? ⟨gx, 1, none⟩ = some (.slice a zss.length c) ∧ W.cell? ⟨gx, 2, none⟩ = some (.slice a2 hs.length c2))
    (exact HS.out _ HD.out)
    (first | (go_at_call 42; with_reducible refine (specDecT _ tx (by omega) (by omega) HX.out _).mono ?_; rintro e1 w1 ⟨rfl, bq⟩; replace HD := Lib.hid (HD.out.trans (bq.mono HD.out.size)); clear bq) | (go_at_call 69; with_reducible refine (specWordsT _ zss ty _ (HV.out.below HD.out (Nat.le_refl _)) HWd.out HY.out).mono ?_; rintro e1 w1 ⟨rfl, bq⟩; replace HD := Lib.hid (HD.out.trans (bq.mono HD.out.size)); clear bq) | (go_at_call 88; with_reducible refine (specLettersT _ hs tz _ (HU.out.below HD.out (Nat.le_refl _)) HH.out HZ.out).mono ?_; rintro e1 w1 ⟨rfl, bq⟩; replace HD := Lib.hid (HD.out.trans (bq.mono HD.out.size)); clear bq))
  all_goals
    go_wp2
    go_ret
    exact ⟨by rw [← HE.out]; rfl, HD.out⟩
set_option maxHeartbeats 2000000 in
theorem specTgText (d : Int) (v : Value) (zss : List (List Int)) (u : Value) (hs : List Int) (w : World) (hv : RdL w v zss) (hu : Rd w u hs) :
    Calls Tryd.prog 25 #[.agg #[.int .i64 d, v, u]] w fun e w' => e = .returned (.string (bs (tgV d zss hs))) ∧ Below w.heap.size w w' := by
  have HV := Lib.hid hv
  have HU := Lib.hid hu
  obtain ⟨_, a, c, rfl, _, _⟩ := hv
  obtain ⟨_, _, a2, c2, rfl, _, _⟩ := hu
  obtain ⟨W0, hW0⟩ : ∃ W, W = w.alloc (Obj.cells #[.int .i64 d, .slice a zss.length c, .slice a2 hs.length c2] 47) := ⟨_, rfl⟩
  have HB : Hid (Below w.heap.size w W0) := Lib.hid (by rw [hW0]; exact (Below.refl w.heap.size w).alloc (Nat.le_refl _) _)
  have K1 : Hid (Cels W0 w.heap.size 47 [.int .i64 d, .slice a zss.length c, .slice a2 hs.length c2]) := Lib.hid (by rw [hW0]; exact Cels.new _ _ _)
  have HW0 := Lib.hid hW0.symm
  obtain ⟨ok, hok⟩ : ∃ b, b = tagB d zss hs := ⟨_, rfl⟩
  have HOK := Lib.hid hok
  clear hok hW0
  go_enter Tryd.func25, Tryd.ntmps25
  go_wp2_with fail
  rw [HW0.out]
  go_wp2_with fail
  refine (specTagIs _ d _ zss _ hs _ (HV.out.below HB.out (Nat.le_refl _)) (HU.out.below HB.out (Nat.le_refl _)) K1.out).mono ?_
  rintro e w1 ⟨rfl, hb1⟩
  rw [← HOK.out]
  replace K1 := Lib.hid (K1.out.below hb1 K1.out.lt)
  have HB1 := Lib.hid (HB.out.trans (hb1.mono HB.out.size))
  clear hb1
  rcases eqOr ok with hb | hb
  · subst hb
    go_wp2_with fail
    go_ret
    exact ⟨by rw [tgV, ← HOK.out]; rfl, HB1.out⟩
  subst hb
  go_wp2_with fail
  refine (specTagT _ d _ zss _ hs _ (HV.out.below HB1.out (Nat.le_refl _)) (HU.out.below HB1.out (Nat.le_refl _)) K1.out HOK.out.symm).mono ?_
  rintro e w2 ⟨rfl, hb2⟩
  have HB2 := Lib.hid (HB1.out.trans (hb2.mono HB1.out.size))
  clear hb2
  go_wp2
  go_ret
  exact ⟨by rw [tgV, ← HOK.out]; rfl, HB2.out⟩
set_option maxHeartbeats 4000000 in
theorem implTgText (d : Int) (v : Value) (zss : List (List Int)) (u : Value) (hs : List Int) (w : World) (hv : RdL w v zss) (hu : Rd w u hs) (ht : TabV w) :
    Calls Tryd.prog 27 #[.agg #[.int .i64 d, v, u]] w fun e w' => e = .returned (.string (bs (tgV d zss hs))) ∧ Below w.heap.size w w' := by
  have HV := Lib.hid hv
  have HU := Lib.hid hu
  have HTb := Lib.hid ht
  obtain ⟨_, a, c, rfl, _, _⟩ := hv
  obtain ⟨_, hfu, a2, c2, rfl, _, _⟩ := hu
  have HFu := Lib.hid hfu
  obtain ⟨W0, hW0⟩ : ∃ W, W = w.alloc (Obj.cells #[.int .i64 d, .slice a zss.length c, .slice a2 hs.length c2] 47) := ⟨_, rfl⟩
  have HB : Hid (Below w.heap.size w W0) := Lib.hid (by rw [hW0]; exact (Below.refl w.heap.size w).alloc (Nat.le_refl _) _)
  have K1 : Hid (Cels W0 w.heap.size 47 [.int .i64 d, .slice a zss.length c, .slice a2 hs.length c2]) := Lib.hid (by rw [hW0]; exact Cels.new _ _ _)
  have HW0 := Lib.hid hW0.symm
  obtain ⟨ok, hok⟩ : ∃ b, b = tagB d zss hs := ⟨_, rfl⟩
  have HOK := Lib.hid hok
  clear hok hW0 ht hfu
  have k0 := K1.out.cell 0 rfl
  have k1 := K1.out.cell 1 rfl
  have k2 := K1.out.cell 2 rfl
  go_enter Tryd.func27, Tryd.ntmps27
  go_wp2_with fail
  rw [HW0.out]
  go_wp2_with fail
  refine (implValidTag d _ zss _ hs _ (HV.out.below HB.out (Nat.le_refl _)) (HU.out.below HB.out (Nat.le_refl _))).mono ?_
  rintro e w1 ⟨rfl, hb1⟩
  rw [← HOK.out]
  replace K1 := Lib.hid (K1.out.below hb1 K1.out.lt)
  have HB1 := Lib.hid (HB.out.trans (hb1.mono HB.out.size))
  clear hb1 k0 k1 k2
  rcases eqOr ok with hb | hb
  · subst hb
    go_wp2_with fail
    go_ret
    exact ⟨by rw [tgV, ← HOK.out]; rfl, HB1.out⟩
  subst hb
  have HWH := Lib.hid (tag_wds (u := .slice a2 hs.length c2) HV.out HOK.out.symm)
  obtain ⟨⟨d0, d1⟩, _, _⟩ := HWH.out
  have HL : Hid (hs.length ≤ 1000) := Lib.hid (by have := HWH.out.2.2; omega)
  replace HV : Hid (RdL w1 (.slice a zss.length c) zss) := Lib.hid (HV.out.below HB1.out (Nat.le_refl _))
  replace HU : Hid (Rd w1 (.slice a2 hs.length c2) hs) := Lib.hid (HU.out.below HB1.out (Nat.le_refl _))
  replace HTb : Hid (TabV w1) := Lib.hid (HTb.out.below HB1.out (Nat.le_refl _))
  have HD : Hid (Below w1.heap.size w1 w1.drew) := Lib.hid (Below.refl _ _).drew
  have HS : Hid (∀ W, Below w1.heap.size w1 W → W.cell? ⟨w.heap.size, 0, none⟩ = some (.int .i64 d) ∧ W.cell? ⟨w.heap.size, 1, none⟩ = some (.slice a zss.length c) ∧ W.cell? ⟨w.heap.size, 2, none⟩ = some (.slice a2 hs.length c2)) := Lib.hid (fun W hW => by
    have h := K1.out.below hW K1.out.lt
    exact ⟨h.cell 0 rfl, h.cell 1 rfl, h.cell 2 rfl⟩)
  obtain ⟨tx, htx⟩ : ∃ t, t = bs (Lib.itoa d) := ⟨_, rfl⟩
  obtain ⟨ty, hty⟩ : ∃ t, t = bs (txtW zss) := ⟨_, rfl⟩
  obtain ⟨tz, htz⟩ : ∃ t, t = bs (txtL 46 hs) := ⟨_, rfl⟩
  obtain ⟨r, hr⟩ : ∃ t, t = bs (Lib.join [Lib.itoa d, txtW zss, txtL 46 hs] [58]) := ⟨_, rfl⟩
  have HX := Lib.hid htx
  have HY := Lib.hid hty
  have HZ := Lib.hid htz
  have HR := Lib.hid hr
  have HJ : Hid ((Lib.join [Lib.itoa d, txtW zss, txtL 46 hs] [58]).length ≤ 100000000) := Lib.hid (by
    have := join_small [Lib.itoa d, txtW zss, txtL 46 hs] [58] 9000000 (fun t ht => by
      simp at ht
      rcases ht with rfl | rfl | rfl
      · have := Lib.itoa_length_le d (by omega) (by omega); omega
      · exact HWH.out.2.1.small
      · have := txtL_small 46 hs HFu.out; have := HL.out; omega)
    simp only [List.length_cons, List.length_nil] at this
    omega)
  have HE : Hid (r = bs (tgV d zss hs)) := Lib.hid (by rw [hr, tgV, if_pos HOK.out.symm, Lib.join_cons]; congr 1; simp [Lib.joinTail, tgTx, List.append_assoc])
  have HLT : Hid (w.heap.size ≤ w1.heap.size) := Lib.hid HB1.out.size
  clear htx hty htz hr
  go_wp2
  go_region_held3 (fun W => W.cell? ⟨w.heap.size, 0, none⟩ = some (.int .i64 d) ∧ W.cell? ⟨w.heap.size, 1, none⟩ = some (.slice a zss.length c) ∧ W.cell? ⟨w.heap.size, 2, none⟩ = some (.slice a2 hs.length c2))
    (first | exact HS.out _ HD.out | exact HS.out _ (HD.out.alloc HD.out.size _))
    (first | (go_at_call 11; with_reducible refine (implDecT _ tx _ (by omega) (by omega) (HTb.out.below HD.out (Nat.le_refl _)) HX.out).mono ?_; rintro e1 w2 ⟨rfl, bq⟩; replace HD := Lib.hid (HD.out.trans (bq.mono HD.out.size)); clear bq) | (go_at_call 65; with_reducible refine (implWordsT _ zss ty _ (HV.out.below HD.out (Nat.le_refl _)) (HTb.out.below HD.out (Nat.le_refl _)) HWH.out.2.1 HY.out).mono ?_; rintro e1 w2 ⟨rfl, bq⟩; replace HD := Lib.hid (HD.out.trans (bq.mono HD.out.size)); clear bq) | (go_at_call 66; with_reducible refine (implLettersT _ hs tz _ (HU.out.below HD.out (Nat.le_refl _)) (HTb.out.below HD.out (Nat.le_refl _)) HL.out HZ.out).mono ?_; rintro e1 w2 ⟨rfl, bq⟩; replace HD := Lib.hid (HD.out.trans (bq.mono HD.out.size)); clear bq) | (go_at_call 47; with_reducible refine (join3 _ tx ty tz r _ _ _ [58] HX.out HY.out HZ.out HJ.out HR.out).mono ?_; rintro e1 w2 ⟨rfl, bq⟩; replace HD := Lib.hid (HD.out.trans (bq.mono HD.out.size)); clear bq))
  all_goals
    go_wp2
    go_ret
    exact ⟨by rw [← HE.out]; rfl, HB1.out.trans (HD.out.mono HLT.out)⟩
end Go.Proofs.YtemooadcjdngdaaDoor.Ints
