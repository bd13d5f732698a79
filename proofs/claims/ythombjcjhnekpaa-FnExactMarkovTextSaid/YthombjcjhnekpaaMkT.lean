/- The text of a list of Markov rules, of the model and of the program. -/
import Derived.Test.YthombjcjhnekpaaStq
import Derived.Test.YthombjcjhnekpaaWtT
import Derived.Test.YthombjcjhnekpaaRwT
import Derived.Test.YthombjcjhnekpaaMkV
import Derived.Deep.RegionHeld3
namespace Go.Proofs.Ythombjcjhnekpaa.Ints
open Go.RowKit
set_option linter.unusedVariables false
set_option linter.unusedSimpArgs false
/-- A rule's text. -/
def addB (b : Bool) (s : ByteArray) : ByteArray := if b = true then s ++ bs [46] else s
noncomputable def mkT (t : Mk) : List UInt8 := rwT ⟨t.l, t.r⟩ ++ (if t.b = true then [46] else [])
noncomputable def mkX (ts : List Mk) : List UInt8 := Lib.join (ts.map mkT) [32]
noncomputable def mkV (ts : List Mk) : List UInt8 := if mksB ts = true then mkX ts else []
def MkR (ts : List Mk) : Prop := ts.length ≤ 60 ∧ ∀ t ∈ ts, Word t.l ∧ Word t.r
theorem mk_r {ts : List Mk} (h : mksB ts = true) : MkR ts := by
  refine ⟨(mksB_len h).2, fun t ht => ?_⟩
  obtain ⟨i, hi, rfl⟩ := List.getElem_of_mem ht
  have h2 := mkB_both (mkA_at (mksB_all h) hi)
  rw [List.getD_eq_getElem?_getD, List.getElem?_eq_getElem hi] at h2
  exact ⟨h2.1, h2.2⟩
theorem MkR.one {ts : List Mk} (h : MkR ts) (k : Nat) (hk : k < ts.length) : Word (ts.getD k mk0).l ∧ Word (ts.getD k mk0).r := by
  rw [List.getD_eq_getElem?_getD, List.getElem?_eq_getElem hk]
  exact h.2 _ (List.getElem_mem hk)
theorem MkR.small {ts : List Mk} (h : MkR ts) : (mkX ts).length ≤ 60000 := by
  have h1 := join_small (ts.map mkT) [32] 804 (fun y hy => by
    obtain ⟨t, ht, rfl⟩ := List.mem_map.1 hy
    have h2 := h.2 t ht
    have h3 := wdT_small h2.1
    have h4 := wdT_small h2.2
    have h5 : (if t.b = true then ([46] : List UInt8) else []).length ≤ 1 := by split <;> simp
    simp only [mkT, rwT, List.length_append, List.length_singleton]; omega)
  simp only [List.length_map, List.length_singleton] at h1
  have h2 := h.1
  unfold mkX
  omega
theorem MkR.take {ts : List Mk} (h : MkR ts) (k : Nat) : MkR (ts.take k) := ⟨by have := h.1; rw [List.length_take]; omega, fun f hf => h.2 f (List.mem_of_mem_take hf)⟩
theorem mapMk_succ (ts : List Mk) (k : Nat) (h : k < ts.length) : (ts.take (k + 1)).map mkT = (ts.take k).map mkT ++ [mkT (ts.getD k mk0)] := by
  rw [List.take_succ_eq_append_getElem h, List.map_append, List.getD_eq_getElem?_getD, List.getElem?_eq_getElem h]; rfl
set_option maxRecDepth 100000 in
set_option maxHeartbeats 8000000 in
theorem specMkT (v : Value) (ts : List Mk) (w : World) (h : RdM w v ts) (hg : MkR ts) :
    Calls Try.prog 74 #[v] w fun e w' => e = .returned (.string (bs (mkX ts))) ∧ Below w.heap.size w w' := by
  have HG := Lib.hid hg
  have hl8 := hg.1
  obtain ⟨hl, a, c, rfl, hcap, hr⟩ := h
  have HC := Lib.hid hr
  clear hr hg
  go_enter Try.func74, Try.ntmps74
  go_wp2
  go_loopw [3, 4] (fun s i wr => ∃ k : Nat, k ≤ ts.length ∧ i = .int .i64 k ∧ s = .string (bs (Lib.join ((ts.take k).map mkT) [32])) ∧ Below w.heap.size w wr) (fun _ i _ => ts.length - (intOf i).toNat)
  case atStart => exact ⟨0, Nat.zero_le _, rfl, rfl, Below.refl _ _⟩
  case round =>
    obtain ⟨k, hk, rfl, hs, hbel⟩ := hrel
    have HW := Lib.hid hbel
    by_cases hlt : k < ts.length
    · obtain ⟨b, o, rfl, hb, hcell⟩ := HC.out (by intro h0; rw [h0] at hlt; simp at hlt)
      obtain ⟨xv, yv, c0, c1, c2, hx, hy⟩ := hcell k hlt
      obtain ⟨wl, wr2⟩ := HG.out.one k hlt
      have hm := mapMk_succ ts k hlt
      obtain ⟨r, hr0⟩ : ∃ r, r = ts.getD k mk0 := ⟨_, rfl⟩
      rw [← hr0] at hx hy wl wr2 hm c2
      obtain ⟨x, y, bb⟩ := r
      dsimp only at hx hy wl wr2 c2
      have HDX := Lib.hid wl.2
      have HDY := Lib.hid wr2.2
      have hlx := wdT_small wl
      have hly := wdT_small wr2
      replace hx := hx.below hbel (Nat.le_refl _)
      replace hy := hy.below hbel (Nat.le_refl _)
      have HRX := Lib.hid hx
      have HRY := Lib.hid hy
      obtain ⟨_, _, ax, cx, rfl, _, _⟩ := hx
      obtain ⟨_, _, ay, cy, rfl, _, _⟩ := hy
      have i0' : (0 : Int) ≤ (k : Int) := by omega
      have i1 : (k : Int) < (ts.length : Int) := by omega
      obtain ⟨s0, hs0⟩ : ∃ s, s = bs (Lib.join ((ts.take k).map mkT) [32]) := ⟨_, rfl⟩
      obtain ⟨tx, htx⟩ : ∃ t, t = bs (wdT x) := ⟨_, rfl⟩
      obtain ⟨ty, hty⟩ : ∃ t, t = bs (wdT y) := ⟨_, rfl⟩
      have HE : Hid (bs (Lib.join ((ts.take (k + 1)).map mkT) [32]) = addB bb (if k = 0 then s0 ++ (tx ++ bs [62] ++ ty) else s0 ++ bs [32] ++ (tx ++ bs [62] ++ ty))) := Lib.hid (by
        rw [hs0, htx, hty, hm]
        rcases eqOr bb with hbb | hbb <;> subst hbb <;> by_cases hk0 : k = 0
        · subst hk0; rw [if_pos rfl]; simp [Lib.join_one, Lib.join_nil, mkT, rwT, addB, bs_append]
        · rw [if_neg hk0, join_snoc _ _ _ (by intro hn; have h1 := congrArg List.length hn; rw [List.length_map, List.length_take, List.length_nil] at h1; omega)]; simp [mkT, rwT, addB, bs_append]
        · subst hk0; rw [if_pos rfl]; simp [Lib.join_one, Lib.join_nil, mkT, rwT, addB, bs_append]
        · rw [if_neg hk0, join_snoc _ _ _ (by intro hn; have h1 := congrArg List.length hn; rw [List.length_map, List.length_take, List.length_nil] at h1; omega)]; simp [mkT, rwT, addB, bs_append])
      have hss : s0.size ≤ 60000 := by rw [hs0, bs_size]; exact (HG.out.take k).small
      have sx : tx.size ≤ 401 := by rw [htx, bs_size]; exact hlx
      have sy : ty.size ≤ 401 := by rw [hty, bs_size]; exact hly
      rw [← hs0] at hs
      subst hs
      have HX := Lib.hid htx
      have HY := Lib.hid hty
      have HS : Hid (∀ W, Below wr.heap.size wr W → W.cell? ⟨b, o + k * 3, none⟩ = some (.slice ax x.length cx) ∧ W.cell? ⟨b, o + k * 3 + 1, none⟩ = some (.slice ay y.length cy)) := Lib.hid (fun W hW => by
        have hbb : b < wr.heap.size := Nat.lt_of_lt_of_le hb hbel.size
        exact ⟨(hW.cell (p := ⟨b, o + k * 3, none⟩) hbb).trans ((hbel.cell (p := ⟨b, o + k * 3, none⟩) hb).trans c0), (hW.cell (p := ⟨b, o + k * 3 + 1, none⟩) hbb).trans ((hbel.cell (p := ⟨b, o + k * 3 + 1, none⟩) hb).trans c1)⟩)
      have HS2 : Hid (∀ W, Below wr.heap.size wr W → W.cell? ⟨b, o + k * 3 + 2, none⟩ = some (.bool bb)) := Lib.hid (fun W hW => by
        have hbb : b < wr.heap.size := Nat.lt_of_lt_of_le hb hbel.size
        exact (hW.cell (p := ⟨b, o + k * 3 + 2, none⟩) hbb).trans ((hbel.cell (p := ⟨b, o + k * 3 + 2, none⟩) hb).trans c2))
      have HD : Hid (Below wr.heap.size wr wr.drew) := Lib.hid (Below.refl _ _).drew
      have q1 : ¬ (9223372036854775807 < tx.size + 1) := by omega
      have q2 : ¬ (9223372036854775807 < tx.size + 1 + ty.size) := by omega
      have q5 : ¬ (9223372036854775807 ≤ tx.size) := by omega
      have q6 : ¬ (9223372036854775807 < s0.size + (tx.size + 1 + ty.size)) := by omega
      have q7 : ¬ (9223372036854775807 < s0.size + 1 + (tx.size + 1 + ty.size)) := by omega
      have q8 : ¬ (9223372036854775807 ≤ s0.size) := by omega
      have q9 : ¬ (9223372036854775807 < s0.size + 1) := by omega
      have q10 : ¬ (9223372036854775807 < s0.size + (tx.size + 1 + ty.size) + 1) := by omega
      have q11 : ¬ (9223372036854775807 < s0.size + 1 + (tx.size + 1 + ty.size) + 1) := by omega
      have q12 : ¬ (9223372036854775807 ≤ s0.size + (tx.size + 1 + ty.size)) := by omega
      have q13 : ¬ (9223372036854775807 ≤ s0.size + 1 + (tx.size + 1 + ty.size)) := by omega
      clear hbel hcell c0 c1 htx hty hs0 hm hr0 hb wl wr2 c2
      rcases eqOr bb with hbb | hbb
      all_goals
        subst hbb
        by_cases hk0 : k = 0
        · have HE2 : Hid (bs (Lib.join ((ts.take (k + 1)).map mkT) [32]) = addB _ (s0 ++ (tx ++ bs [62] ++ ty))) := Lib.hid (by rw [HE.out, if_pos hk0])
          have hk1 : ¬ (0 : Int) < (k : Int) := by omega
          clear hk0
          go_wp2
          go_region_held3 (fun W => W.cell? ⟨b, o + k * 3, none⟩ = some (.slice ax x.length cx) ∧ W.cell? ⟨b, o + k * 3 + 1, none⟩ = some (.slice ay y.length cy))
            (exact HS.out _ HD.out)
            (first | (go_at_call 90; with_reducible refine (specText3T _ x tx _ (HRX.out.below HD.out (Nat.le_refl _)) HDX.out HX.out).mono ?_; rintro e1 w1 ⟨rfl, bq⟩; replace HD := Lib.hid (HD.out.trans (bq.mono HD.out.size)); clear bq) | (go_at_call 90; with_reducible refine (specText3T _ y ty _ (HRY.out.below HD.out (Nat.le_refl _)) HDY.out HY.out).mono ?_; rintro e1 w1 ⟨rfl, bq⟩; replace HD := Lib.hid (HD.out.trans (bq.mono HD.out.size)); clear bq))
          all_goals
            have z2 := HS2.out _ HD.out
            go_wp2
            go_roundw
            case rel => exact ⟨k + 1, by omega, by go_num, by rw [HE2.out] <;> rfl, HW.out.trans (HD.out.mono HW.out.size)⟩
            case measure => simp [intOf]; omega
        · have HE2 : Hid (bs (Lib.join ((ts.take (k + 1)).map mkT) [32]) = addB _ (s0 ++ bs [32] ++ (tx ++ bs [62] ++ ty))) := Lib.hid (by rw [HE.out, if_neg hk0])
          have hk1 : (0 : Int) < (k : Int) := by omega
          clear hk0
          go_wp2
          go_region_held3 (fun W => W.cell? ⟨b, o + k * 3, none⟩ = some (.slice ax x.length cx) ∧ W.cell? ⟨b, o + k * 3 + 1, none⟩ = some (.slice ay y.length cy))
            (exact HS.out _ HD.out)
            (first | (go_at_call 90; with_reducible refine (specText3T _ x tx _ (HRX.out.below HD.out (Nat.le_refl _)) HDX.out HX.out).mono ?_; rintro e1 w1 ⟨rfl, bq⟩; replace HD := Lib.hid (HD.out.trans (bq.mono HD.out.size)); clear bq) | (go_at_call 90; with_reducible refine (specText3T _ y ty _ (HRY.out.below HD.out (Nat.le_refl _)) HDY.out HY.out).mono ?_; rintro e1 w1 ⟨rfl, bq⟩; replace HD := Lib.hid (HD.out.trans (bq.mono HD.out.size)); clear bq))
          all_goals
            have z2 := HS2.out _ HD.out
            go_wp2
            go_roundw
            case rel => exact ⟨k + 1, by omega, by go_num, by rw [HE2.out] <;> rfl, HW.out.trans (HD.out.mono HW.out.size)⟩
            case measure => simp [intOf]; omega
    · obtain rfl : k = ts.length := by omega
      have hnlt : ¬ ((ts.length : Int) < (ts.length : Int)) := by omega
      rw [List.take_length] at hs
      subst hs
      clear hbel hlt
      go_wp2
      go_ret
      exact ⟨rfl, HW.out⟩
theorem specMkText (v : Value) (ts : List Mk) (w : World) (h : RdM w v ts) :
    Calls Try.prog 38 #[v] w fun e w' => e = .returned (.string (bs (mkV ts))) ∧ Below w.heap.size w w' := by
  have H := Lib.hid h
  clear h
  obtain ⟨ok, hok⟩ : ∃ b, b = mksB ts := ⟨_, rfl⟩
  have HOK := Lib.hid hok
  clear hok
  go_enter Try.func38, Try.ntmps38
  go_wp2_with fail
  refine (specMks _ ts _ H.out).mono ?_
  rintro e w' ⟨rfl, rfl⟩
  rw [← HOK.out]
  rcases eqOr ok with hb | hb
  · subst hb
    go_wp2
    go_ret
    exact ⟨by rw [mkV, ← HOK.out]; rfl, Below.refl _ _⟩
  subst hb
  go_wp2_with fail
  refine (specMkT _ ts _ H.out (mk_r HOK.out.symm)).mono ?_
  rintro e w2 ⟨rfl, hb2⟩
  have HB2 := Lib.hid hb2
  clear hb2
  go_wp2
  go_ret
  exact ⟨by rw [mkV, ← HOK.out]; rfl, HB2.out⟩
set_option maxRecDepth 100000 in
set_option maxHeartbeats 4000000 in
theorem implMkOne (bb : Bool) (u v : Value) (x y : List Int) (w : World) (hu : Rd w u x) (hv : Rd w v y) (wx : Word x) (wy : Word y) :
    Calls Try.prog 76 #[.agg #[u, v, .bool bb]] w fun e w' => e = .returned (.string (bs (mkT ⟨x, y, bb⟩))) ∧ Below w.heap.size w w' := by
  have HU := Lib.hid hu
  have HV := Lib.hid hv
  have hlx := wdT_small wx
  have hly := wdT_small wy
  have HWX := Lib.hid wx
  have HWY := Lib.hid wy
  obtain ⟨_, _, ax, cx, rfl, _, _⟩ := hu
  obtain ⟨_, _, ay, cy, rfl, _, _⟩ := hv
  obtain ⟨W0, hW0⟩ : ∃ W, W = w.alloc (Obj.cells #[.slice ax x.length cx, .slice ay y.length cy, .bool bb] 73) := ⟨_, rfl⟩
  have HB : Hid (Below w.heap.size w W0) := Lib.hid (by rw [hW0]; exact (Below.refl w.heap.size w).alloc (Nat.le_refl _) _)
  have K1 : Cels W0 w.heap.size 73 [.slice ax x.length cx, .slice ay y.length cy, .bool bb] := by rw [hW0]; exact Cels.new _ _ _
  have z0 := K1.cell 0 rfl
  have z1 := K1.cell 1 rfl
  have z2 := K1.cell 2 rfl
  have HW0 := Lib.hid hW0.symm
  obtain ⟨tx, htx⟩ : ∃ t, t = bs (rwT ⟨x, y⟩) := ⟨_, rfl⟩
  have sx : tx.size ≤ 803 := by rw [htx, bs_size]; simp [rwT]; omega
  have HX := Lib.hid htx
  have q1 : ¬ (9223372036854775807 < tx.size + 1) := by omega
  have q5 : ¬ (9223372036854775807 ≤ tx.size) := by omega
  have HU0 := Lib.hid (HU.out.below HB.out (Nat.le_refl _))
  have HV0 := Lib.hid (HV.out.below HB.out (Nat.le_refl _))
  have HE : Hid (bs (mkT ⟨x, y, bb⟩) = if bb = true then tx ++ bs [46] else tx) := Lib.hid (by rw [htx]; cases bb <;> simp [mkT, bs_append])
  clear hW0 htx K1
  rcases eqOr bb with hb | hb
  all_goals
    subst hb
    go_enter Try.func76, Try.ntmps76
    go_wp2_with fail
    rw [HW0.out]
    go_wp2_with fail
    refine (implSides _ _ _ x y _ HU0.out HV0.out).mono ?_
    rintro e w1 ⟨rfl, hb1⟩
    have HB1 := Lib.hid (HB.out.trans (hb1.mono HB.out.size))
    clear hb1
    go_wp2_with fail
    refine (implRwOne _ _ x y _ (HU.out.below HB1.out (Nat.le_refl _)) (HV.out.below HB1.out (Nat.le_refl _)) HWX.out HWY.out).mono ?_
    rintro e w2 ⟨rfl, hb2⟩
    rw [← HX.out]
    have HB2 := Lib.hid (HB1.out.trans (hb2.mono HB1.out.size))
    clear hb2
    go_wp2
    go_ret
    exact ⟨by rw [HE.out] <;> rfl, HB2.out⟩
set_option maxRecDepth 100000 in
set_option maxHeartbeats 4000000 in
theorem mapMk (v : Value) (ts : List Mk) (w : World) (h : RdM w v ts) (hg : MkR ts) :
    Calls Try.prog 75 #[v, .func (Fn.func 76) #[] #[]] w fun e w' => ∃ u, e = .returned u ∧ w'.ownsRow w.heap.size 9 1 u ts.length (strs (ts.map mkT)) ∧ Below w.heap.size w w' := by
  have HG := Lib.hid hg
  have hl8 := hg.1
  obtain ⟨hl, a, c, rfl, hcap, hr⟩ := h
  have HC := Lib.hid hr
  obtain ⟨i0, hi, hz0, hz1, hz2⟩ := info_parts infoS
  clear hr hg
  go_enter Try.func75, Try.ntmps75
  go_wp2
  go_loopw [5, 10] (fun o s wr => ∃ (k : Nat) (ov : Value), o = ov ∧ k ≤ ts.length ∧ s = .int .i64 k ∧ wr.ownsRow w.heap.size 9 1 ov k (strs ((ts.take k).map mkT)) ∧ Below w.heap.size w wr) (fun _ s _ => ts.length - (intOf s).toNat)
  case atStart => exact ⟨0, _, rfl, Nat.zero_le _, rfl, by simpa [strs] using World.ownsRow_nil w w.heap.size 9 1, Below.refl _ _⟩
  case round =>
    obtain ⟨k, ov, hov, hk, rfl, hown, hbel⟩ := hrel
    obtain rfl := hov.symm
    have HW := Lib.hid hbel
    by_cases hlt : k < ts.length
    · obtain ⟨b, o, rfl, hb, hcell⟩ := HC.out (by intro h0; rw [h0] at hlt; simp at hlt)
      obtain ⟨xv, yv, c0, c1, c2, hx, hy⟩ := hcell k hlt
      obtain ⟨wl, wr2⟩ := HG.out.one k hlt
      have hm := mapMk_succ ts k hlt
      obtain ⟨r, hr0⟩ : ∃ r, r = ts.getD k mk0 := ⟨_, rfl⟩
      rw [← hr0] at hx hy wl wr2 hm c2
      obtain ⟨x, y, bb⟩ := r
      dsimp only at hx hy wl wr2 c2
      have HWX := Lib.hid wl
      have HWY := Lib.hid wr2
      have HRX := Lib.hid (hx.below hbel (Nat.le_refl _))
      have HRY := Lib.hid (hy.below hbel (Nat.le_refl _))
      obtain ⟨_, _, ax, cx, rfl, _, _⟩ := hx
      obtain ⟨_, _, ay, cy, rfl, _, _⟩ := hy
      replace c0 := (hbel.cell (p := ⟨b, o + k * 3, none⟩) hb).trans c0
      replace c1 := (hbel.cell (p := ⟨b, o + k * 3 + 1, none⟩) hb).trans c1
      replace c2 := (hbel.cell (p := ⟨b, o + k * 3 + 2, none⟩) hb).trans c2
      have i0' : (0 : Int) ≤ (k : Int) := by omega
      have i1 : (k : Int) < (ts.length : Int) := by omega
      have HS := Lib.hid hm
      have hb0 : ∀ ob : Obj, Hid (Below w.heap.size w (wr.alloc ob)) := fun ob => Lib.hid (hbel.alloc hbel.size ob)
      have hb9 : ∀ ob : Obj, Hid (Below wr.heap.size wr (wr.alloc ob)) := fun ob => Lib.hid ((Below.refl _ _).alloc (Nat.le_refl _) ob)
      have hown0 : ∀ ob : Obj, Hid ((wr.alloc ob).ownsRow w.heap.size 9 1 ov k (strs ((ts.take k).map mkT))) := fun ob => Lib.hid (hown.alloc ob)
      clear hbel hcell hm hr0 hown wl wr2
      go_wp2_with fail
      refine (implMkOne bb _ _ x y _ (HRX.out.below (hb9 _).out (Nat.le_refl _)) (HRY.out.below (hb9 _).out (Nat.le_refl _)) HWX.out HWY.out).mono ?_
      rintro e w1 ⟨rfl, hb1⟩
      have HO1 : Hid (w1.ownsRow w.heap.size 9 1 ov k (strs ((ts.take k).map mkT))) := Lib.hid (ownB_below (hown0 _).out hb1 (Nat.le_refl _))
      replace HW := Lib.hid ((hb0 _).out.trans (hb1.mono (hb0 _).out.size))
      have hsz := HW.out.size
      have hown1 := HO1.out
      obtain ⟨t, ht⟩ : ∃ t, t = bs (mkT ⟨x, y, bb⟩) := ⟨_, rfl⟩
      have HTt := Lib.hid ht
      rw [← ht]
      clear hb1 ht c0 c1 hb0 hb9 hown0 c2
      go_wp2_with (at_builtin; refine wpList_append_own _ rfl _ _ 83 rfl w.heap.size 9 i0 (.string ⟨#[]⟩) 1 16 Try.underlying83 hi hz0 hz1 hz2 rfl (by decide) _ _ _ rfl (hown1.alloc _) ⟨_, 0, none⟩ 1 1 [.string t] rfl rfl ?c1 ?c2 ?c3 ?c4 ?c5 ?_)
      try (case c1 => exact cellNewB _)
      case c2 => first | rfl | (intro u hu; simp at hu; subst hu; rfl)
      case c3 => unfold maxLen; omega
      case c4 => omega
      case c5 => first | omega | (simp; omega)
      intro v' w2 hown2 hgrow _
      have HO : Hid (w2.ownsRow w.heap.size 9 1 v' (k + 1) (strs ((ts.take (k + 1)).map mkT))) := Lib.hid (by rw [HS.out, strs_snoc, ← HTt.out]; first | exact hown2 | (rw [List.map_take]; exact hown2))
      have HQ := Lib.hid ((HW.out.alloc hsz (Obj.cells #[Value.string t] 9)).grown hgrow (by simp; omega) (fun q hq => (hown1.lt q hq).1))
      clear hown2 hgrow hown1 HO1
      go_wp2
      go_roundw
      case rel => exact ⟨k + 1, v', rfl, by omega, by go_num, HO.out, HQ.out⟩
      case measure => simp [intOf]; omega
    · obtain rfl : k = ts.length := by omega
      have HO : Hid (wr.ownsRow w.heap.size 9 1 ov ts.length (strs (ts.map mkT))) := Lib.hid (by rw [List.take_length] at hown; exact hown)
      have hnlt : ¬ ((ts.length : Int) < (ts.length : Int)) := by omega
      clear hown hbel hlt
      go_wp2
      go_ret
      exact ⟨_, rfl, HO.out, HW.out⟩
theorem implMkText (v : Value) (ts : List Mk) (w : World) (h : RdM w v ts) :
    Calls Try.prog 39 #[v] w fun e w' => e = .returned (.string (bs (mkV ts))) ∧ Below w.heap.size w w' := by
  have H := Lib.hid h
  clear h
  obtain ⟨ok, hok⟩ : ∃ b, b = mksB ts := ⟨_, rfl⟩
  have HOK := Lib.hid hok
  clear hok
  go_enter Try.func39, Try.ntmps39
  go_wp2_with fail
  refine (implValidMks _ ts _ H.out).mono ?_
  rintro e w1 ⟨rfl, hb1⟩
  rw [← HOK.out]
  have HB1 := Lib.hid hb1
  clear hb1
  rcases eqOr ok with hb | hb
  · subst hb
    go_wp2
    go_ret
    exact ⟨by rw [mkV, ← HOK.out]; rfl, HB1.out⟩
  subst hb
  have HG := Lib.hid (mk_r HOK.out.symm)
  have hl8 := HG.out.1
  have HJ : Hid ((Lib.join (ts.map mkT) [32]).length ≤ 100000000) := Lib.hid (by have := HG.out.small; unfold mkX at this; omega)
  go_wp2_with fail
  refine (mapMk _ ts _ (H.out.below HB1.out (Nat.le_refl _)) HG.out).mono ?_
  rintro e w2 ⟨u, rfl, hr2, hb2⟩
  have HR2 : Hid (w2.ownsRow w1.heap.size 9 1 u (ts.map mkT).length (strs (ts.map mkT))) := Lib.hid (by rw [List.length_map]; exact hr2)
  have HB2 := Lib.hid (HB1.out.trans (hb2.mono HB1.out.size))
  clear hb2 hr2
  go_wp2_with fail
  refine (joinRow _ _ (ts.map mkT) [32] _ HR2.out (by rw [List.length_map]; omega) HJ.out).mono ?_
  rintro e w3 ⟨rfl, hb3⟩
  have HB3 := Lib.hid (HB2.out.trans (hb3.mono HB2.out.size))
  clear hb3
  go_wp2
  go_ret
  exact ⟨by rw [mkV, ← HOK.out]; rfl, HB3.out⟩
end Go.Proofs.Ythombjcjhnekpaa.Ints
