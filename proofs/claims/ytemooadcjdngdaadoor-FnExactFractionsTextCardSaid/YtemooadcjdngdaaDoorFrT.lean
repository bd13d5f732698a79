/- The text of a program of fractions, of the model and of the program. -/
import Derived.Test.YtemooadcjdngdaaDoorCtT
import Derived.Test.YtemooadcjdngdaaDoorFrcS
import Derived.Test.YtemooadcjdngdaaDoorFrcI
namespace Go.Proofs.YtemooadcjdngdaaDoor.Ints
open Go.RowKit
set_option linter.unusedVariables false
set_option linter.unusedSimpArgs false

/-- A fraction's text. -/
def frT (f : Fra) : List UInt8 := Lib.itoa f.up ++ [47] ++ Lib.itoa f.dn
def frX (rs : List Fra) : List UInt8 := Lib.join (rs.map frT) [32]
noncomputable def frV (rs : List Fra) : List UInt8 := if frsB rs = true then frX rs else []
def FrR (rs : List Fra) : Prop := rs.length ≤ 100 ∧ ∀ f ∈ rs, (1 ≤ f.up ∧ f.up ≤ 999999) ∧ (1 ≤ f.dn ∧ f.dn ≤ 999999)
theorem frsB_r {rs : List Fra} (h : frsB rs = true) : FrR rs := by
  have h1 := frsB_ok h
  refine ⟨h1.hi, fun f hf => ?_⟩
  obtain ⟨i, hi, rfl⟩ := List.getElem_of_mem hf
  have h2 := h1.all i hi
  rw [List.getD_eq_getElem?_getD, List.getElem?_eq_getElem hi] at h2
  exact ⟨h2.1, h2.2⟩
theorem FrR.one {rs : List Fra} (h : FrR rs) (k : Nat) (hk : k < rs.length) : (1 ≤ (rs.getD k zFra).up ∧ (rs.getD k zFra).up ≤ 999999) ∧ (1 ≤ (rs.getD k zFra).dn ∧ (rs.getD k zFra).dn ≤ 999999) := by
  rw [List.getD_eq_getElem?_getD, List.getElem?_eq_getElem hk]
  exact h.2 _ (List.getElem_mem hk)
theorem FrR.small {rs : List Fra} (h : FrR rs) : (frX rs).length ≤ 10000 := by
  have h1 := join_small (rs.map frT) [32] 43 (fun y hy => by
    obtain ⟨f, hf, rfl⟩ := List.mem_map.1 hy
    have h2 := h.2 f hf
    have h3 := Lib.itoa_length_le f.up (by omega) (by omega)
    have h4 := Lib.itoa_length_le f.dn (by omega) (by omega)
    simp [frT]; omega)
  simp only [List.length_map, List.length_singleton] at h1
  have h2 := h.1
  unfold frX
  omega
theorem FrR.take {rs : List Fra} (h : FrR rs) (k : Nat) : FrR (rs.take k) := ⟨by have := h.1; rw [List.length_take]; omega, fun f hf => h.2 f (List.mem_of_mem_take hf)⟩
theorem mapF_succ (rs : List Fra) (k : Nat) (h : k < rs.length) : (rs.take (k + 1)).map frT = (rs.take k).map frT ++ [frT (rs.getD k zFra)] := by
  rw [List.take_succ_eq_append_getElem h, List.map_append, List.getD_eq_getElem?_getD, List.getElem?_eq_getElem h]; rfl
set_option maxHeartbeats 8000000 in
theorem specFrT (v : Value) (rs : List Fra) (w : World) (h : RdFra w v rs) (hg : FrR rs) :
    Calls Tryd.prog 53 #[v] w fun e w' => e = .returned (.string (bs (frX rs))) ∧ Below w.heap.size w w' := by
  have HG := Lib.hid hg
  have hl8 := hg.1
  obtain ⟨hl, hf, a, c, rfl, hcap, hr⟩ := h
  have HC := Lib.hid hr
  clear hr hg hf
  go_enter Tryd.func53, Tryd.ntmps53
  go_wp2
  go_loopw [3, 4] (fun s i wr => ∃ k : Nat, k ≤ rs.length ∧ i = .int .i64 k ∧ s = .string (bs (Lib.join ((rs.take k).map frT) [32])) ∧ Below w.heap.size w wr) (fun _ i _ => rs.length - (intOf i).toNat)
  case atStart => exact ⟨0, Nat.zero_le _, rfl, rfl, Below.refl _ _⟩
  case round =>
    obtain ⟨k, hk, rfl, hs, hbel⟩ := hrel
    have HW := Lib.hid hbel
    by_cases hlt : k < rs.length
    · obtain ⟨b, o, rfl, hb, hcell⟩ := HC.out (by intro h0; rw [h0] at hlt; simp at hlt)
      obtain ⟨c0, c1⟩ := hcell k hlt
      obtain ⟨⟨x0, x1⟩, ⟨y0, y1⟩⟩ := HG.out.one k hlt
      obtain ⟨r, hr0⟩ : ∃ r, r = rs.getD k zFra := ⟨_, rfl⟩
      rw [← hr0] at c0 c1 x0 x1 y0 y1
      obtain ⟨x, y⟩ := r
      dsimp only at c0 c1 x0 x1 y0 y1
      have hm := mapF_succ rs k hlt
      rw [← hr0] at hm
      have i0' : (0 : Int) ≤ (k : Int) := by omega
      have i1 : (k : Int) < (rs.length : Int) := by omega
      obtain ⟨s0, hs0⟩ : ∃ s, s = bs (Lib.join ((rs.take k).map frT) [32]) := ⟨_, rfl⟩
      obtain ⟨tx, htx⟩ : ∃ t, t = bs (Lib.itoa x) := ⟨_, rfl⟩
      obtain ⟨ty, hty⟩ : ∃ t, t = bs (Lib.itoa y) := ⟨_, rfl⟩
      have HE : Hid (bs (Lib.join ((rs.take (k + 1)).map frT) [32]) = if k = 0 then s0 ++ (tx ++ bs [47] ++ ty) else s0 ++ bs [32] ++ (tx ++ bs [47] ++ ty)) := Lib.hid (by
        rw [hs0, htx, hty, hm, bs_append, bs_append]
        by_cases hk0 : k = 0
        · subst hk0; rw [if_pos rfl, bs_append]; simp [Lib.join_one, Lib.join_nil, frT]
        · rw [if_neg hk0, bs_append, bs_append, join_snoc _ _ _ (by intro hn; have h1 := congrArg List.length hn; rw [List.length_map, List.length_take, List.length_nil] at h1; omega)]; rfl)
      have hss : s0.size ≤ 10000 := by rw [hs0, bs_size]; exact (HG.out.take k).small
      have sx : tx.size ≤ 21 := by rw [htx, bs_size]; exact Lib.itoa_length_le x (by omega) (by omega)
      have sy : ty.size ≤ 21 := by rw [hty, bs_size]; exact Lib.itoa_length_le y (by omega) (by omega)
      rw [← hs0] at hs
      subst hs
      have HX := Lib.hid htx
      have HY := Lib.hid hty
      have HS : Hid (∀ W, Below wr.heap.size wr W → W.cell? ⟨b, o + k * 2, none⟩ = some (.int .i64 x) ∧ W.cell? ⟨b, o + k * 2 + 1, none⟩ = some (.int .i64 y)) := Lib.hid (fun W hW => by
        have hbb : b < wr.heap.size := Nat.lt_of_lt_of_le hb hbel.size
        exact ⟨(hW.cell (p := ⟨b, o + k * 2, none⟩) hbb).trans ((hbel.cell (p := ⟨b, o + k * 2, none⟩) hb).trans c0), (hW.cell (p := ⟨b, o + k * 2 + 1, none⟩) hbb).trans ((hbel.cell (p := ⟨b, o + k * 2 + 1, none⟩) hb).trans c1)⟩)
      have HD : Hid (Below wr.heap.size wr wr.drew) := Lib.hid (Below.refl _ _).drew
      have q1 : ¬ (9223372036854775807 < tx.size + 1) := by omega
      have q2 : ¬ (9223372036854775807 < tx.size + 1 + ty.size) := by omega
      have q5 : ¬ (9223372036854775807 ≤ tx.size) := by omega
      have q6 : ¬ (9223372036854775807 < s0.size + (tx.size + 1 + ty.size)) := by omega
      have q7 : ¬ (9223372036854775807 < s0.size + 1 + (tx.size + 1 + ty.size)) := by omega
      have q8 : ¬ (9223372036854775807 ≤ s0.size) := by omega
      have q9 : ¬ (9223372036854775807 < s0.size + 1) := by omega
      clear hbel hcell c0 c1 htx hty hs0 hm hr0 hb
      by_cases hk0 : k = 0
      · 
        have HE2 : Hid (bs (Lib.join ((rs.take (k + 1)).map frT) [32]) = s0 ++ (tx ++ bs [47] ++ ty)) := Lib.hid (by rw [HE.out, if_pos hk0])
        have hk1 : ¬ (0 : Int) < (k : Int) := by omega
        clear hk0
        go_wp2
        go_region_held3 (fun W => W.cell? ⟨b, o + k * 2, none⟩ = some (.int .i64 x) ∧ W.cell? ⟨b, o + k * 2 + 1, none⟩ = some (.int .i64 y))
          (exact HS.out _ HD.out)
          (first | (go_at_call 42; with_reducible refine (specDecT _ _ (by omega) (by omega) (by first | exact HX.out | exact HY.out) _).mono ?_; rintro e1 w1 ⟨rfl, bq⟩; replace HD := Lib.hid (HD.out.trans (bq.mono HD.out.size)); clear bq))
        all_goals
          go_wp2
          go_roundw
          case rel => exact ⟨k + 1, by omega, by go_num, by rw [HE2.out], HW.out.trans (HD.out.mono HW.out.size)⟩
          case measure => simp [intOf]; omega
      · 
        have HE2 : Hid (bs (Lib.join ((rs.take (k + 1)).map frT) [32]) = s0 ++ bs [32] ++ (tx ++ bs [47] ++ ty)) := Lib.hid (by rw [HE.out, if_neg hk0])
        have hk1 : (0 : Int) < (k : Int) := by omega
        clear hk0
        go_wp2
        go_region_held3 (fun W => W.cell? ⟨b, o + k * 2, none⟩ = some (.int .i64 x) ∧ W.cell? ⟨b, o + k * 2 + 1, none⟩ = some (.int .i64 y))
          (exact HS.out _ HD.out)
          (first | (go_at_call 42; with_reducible refine (specDecT _ _ (by omega) (by omega) (by first | exact HX.out | exact HY.out) _).mono ?_; rintro e1 w1 ⟨rfl, bq⟩; replace HD := Lib.hid (HD.out.trans (bq.mono HD.out.size)); clear bq))
        all_goals
          go_wp2
          go_roundw
          case rel => exact ⟨k + 1, by omega, by go_num, by rw [HE2.out], HW.out.trans (HD.out.mono HW.out.size)⟩
          case measure => simp [intOf]; omega
    · obtain rfl : k = rs.length := by omega
      have hnlt : ¬ ((rs.length : Int) < (rs.length : Int)) := by omega
      rw [List.take_length] at hs
      subst hs
      clear hbel hlt
      go_wp2
      go_ret
      exact ⟨rfl, HW.out⟩
theorem specFrText (v : Value) (rs : List Fra) (w : World) (h : RdFra w v rs) :
    Calls Tryd.prog 20 #[v] w fun e w' => e = .returned (.string (bs (frV rs))) ∧ Below w.heap.size w w' := by
  have H := Lib.hid h
  clear h
  obtain ⟨ok, hok⟩ : ∃ b, b = frsB rs := ⟨_, rfl⟩
  have HOK := Lib.hid hok
  clear hok
  go_enter Tryd.func20, Tryd.ntmps20
  go_wp2_with fail
  refine (specFIs _ rs _ H.out).mono ?_
  rintro e w' ⟨rfl, rfl⟩
  rw [← HOK.out]
  rcases eqOr ok with hb | hb
  · subst hb
    go_wp2
    go_ret
    exact ⟨by rw [frV, ← HOK.out]; rfl, Below.refl _ _⟩
  subst hb
  go_wp2_with fail
  refine (specFrT _ rs _ H.out (frsB_r HOK.out.symm)).mono ?_
  rintro e w2 ⟨rfl, hb2⟩
  have HB2 := Lib.hid hb2
  clear hb2
  go_wp2
  go_ret
  exact ⟨by rw [frV, ← HOK.out]; rfl, HB2.out⟩
theorem implDecF (n : Int) (t : ByteArray) (w : World) (n0 : -9223372036854775808 ≤ n) (n1 : n ≤ 9223372036854775807) (htb : TabV w) (ht : t = bs (Lib.itoa n)) :
    Calls Tryd.prog 11 #[.int .i64 n] w fun e w' => e = .returned (.string t) ∧ Below w.heap.size w w' := by
  subst ht; exact implDec n n0 n1 w htb
set_option maxHeartbeats 4000000 in
theorem implFrOne (x y : Int) (w : World) (x0 : 1 ≤ x) (x1 : x ≤ 999999) (y0 : 1 ≤ y) (y1 : y ≤ 999999) (ht : TabV w) :
    Calls Tryd.prog 57 #[.agg #[.int .i64 x, .int .i64 y]] w fun e w' => e = .returned (.string (bs (frT ⟨x, y⟩))) ∧ Below w.heap.size w w' := by
  obtain ⟨W0, hW0⟩ : ∃ W, W = w.alloc (Obj.cells #[.int .i64 x, .int .i64 y] 82) := ⟨_, rfl⟩
  have HB : Hid (Below w.heap.size w W0) := Lib.hid (by rw [hW0]; exact (Below.refl w.heap.size w).alloc (Nat.le_refl _) _)
  have K1 : Hid (Cels W0 w.heap.size 82 [.int .i64 x, .int .i64 y]) := Lib.hid (by rw [hW0]; exact Cels.new _ _ _)
  have HTb : Hid (TabV W0) := Lib.hid (ht.below HB.out (Nat.le_refl _))
  have HW0 := Lib.hid hW0.symm
  obtain ⟨tx, htx⟩ : ∃ t, t = bs (Lib.itoa x) := ⟨_, rfl⟩
  obtain ⟨ty, hty⟩ : ∃ t, t = bs (Lib.itoa y) := ⟨_, rfl⟩
  have sx : tx.size ≤ 21 := by rw [htx, bs_size]; exact Lib.itoa_length_le x (by omega) (by omega)
  have sy : ty.size ≤ 21 := by rw [hty, bs_size]; exact Lib.itoa_length_le y (by omega) (by omega)
  have HX := Lib.hid htx
  have HY := Lib.hid hty
  have HE : Hid (tx ++ bs [47] ++ ty = bs (frT ⟨x, y⟩)) := Lib.hid (by rw [htx, hty, bs_append, bs_append]; rfl)
  have HS : Hid (∀ W, Below W0.heap.size W0 W → W.cell? ⟨w.heap.size, 0, none⟩ = some (.int .i64 x) ∧ W.cell? ⟨w.heap.size, 1, none⟩ = some (.int .i64 y)) := Lib.hid (fun W hW => by
    have h := K1.out.below hW K1.out.lt
    exact ⟨h.cell 0 rfl, h.cell 1 rfl⟩)
  have q1 : ¬ (9223372036854775807 < tx.size + 1) := by omega
  have q2 : ¬ (9223372036854775807 < tx.size + 1 + ty.size) := by omega
  have q5 : ¬ (9223372036854775807 ≤ tx.size) := by omega
  have HLT : Hid (w.heap.size ≤ W0.heap.size) := Lib.hid HB.out.size
  clear hW0 htx hty ht
  have HD : Hid (Below W0.heap.size W0 W0.drew) := Lib.hid (Below.refl _ _).drew
  go_enter Tryd.func57, Tryd.ntmps57
  go_wp2_with fail
  rw [HW0.out]
  go_wp2_with fail
  go_region_held3 (fun W => W.cell? ⟨w.heap.size, 0, none⟩ = some (.int .i64 x) ∧ W.cell? ⟨w.heap.size, 1, none⟩ = some (.int .i64 y))
    (exact HS.out _ HD.out)
    (first | (go_at_call 11; with_reducible refine (implDecF _ _ _ (by omega) (by omega) (HTb.out.below HD.out (Nat.le_refl _)) (by first | exact HX.out | exact HY.out)).mono ?_; rintro e1 w1 ⟨rfl, bq⟩; replace HD := Lib.hid (HD.out.trans (bq.mono HD.out.size)); clear bq))
  all_goals
    go_wp2
    go_ret
    exact ⟨by rw [← HE.out]; rfl, HB.out.trans (HD.out.mono HLT.out)⟩
set_option maxHeartbeats 4000000 in
theorem mapFra (v : Value) (rs : List Fra) (w : World) (h : RdFra w v rs) (ht : TabV w) (hg : FrR rs) :
    Calls Tryd.prog 56 #[v, .func (Fn.func 57) #[] #[]] w fun e w' => ∃ u, e = .returned u ∧ w'.ownsRow w.heap.size 9 1 u rs.length (strs (rs.map frT)) ∧ Below w.heap.size w w' := by
  have HG := Lib.hid hg
  have hl8 := hg.1
  have HT := Lib.hid ht
  obtain ⟨hl, hf, a, c, rfl, hcap, hr⟩ := h
  have HC := Lib.hid hr
  obtain ⟨i0, hi, hz0, hz1, hz2⟩ := info_parts infoS
  clear ht hf hr hg
  go_enter Tryd.func56, Tryd.ntmps56
  go_wp2
  go_loopw [5, 10] (fun o s wr => ∃ (k : Nat) (ov : Value), o = ov ∧ k ≤ rs.length ∧ s = .int .i64 k ∧ wr.ownsRow w.heap.size 9 1 ov k (strs ((rs.take k).map frT)) ∧ Below w.heap.size w wr) (fun _ s _ => rs.length - (intOf s).toNat)
  case atStart => exact ⟨0, _, rfl, Nat.zero_le _, rfl, by simpa [strs] using World.ownsRow_nil w w.heap.size 9 1, Below.refl _ _⟩
  case round =>
    obtain ⟨k, ov, hov, hk, rfl, hown, hbel⟩ := hrel
    obtain rfl := hov.symm
    have HW := Lib.hid hbel
    by_cases hlt : k < rs.length
    · obtain ⟨b, o, rfl, hb, hcell⟩ := HC.out (by intro h0; rw [h0] at hlt; simp at hlt)
      obtain ⟨c0, c1⟩ := hcell k hlt
      have HXY := Lib.hid (HG.out.one k hlt)
      have hm := mapF_succ rs k hlt
      obtain ⟨r, hr0⟩ : ∃ r, r = rs.getD k zFra := ⟨_, rfl⟩
      rw [← hr0] at c0 c1 HXY hm
      obtain ⟨x, y⟩ := r
      dsimp only at c0 c1 HXY
      replace c0 := (hbel.cell (p := ⟨b, o + k * 2, none⟩) hb).trans c0
      replace c1 := (hbel.cell (p := ⟨b, o + k * 2 + 1, none⟩) hb).trans c1
      have i0' : (0 : Int) ≤ (k : Int) := by omega
      have i1 : (k : Int) < (rs.length : Int) := by omega
      have HS := Lib.hid hm
      have hb0 : ∀ ob : Obj, Hid (Below w.heap.size w (wr.alloc ob)) := fun ob => Lib.hid (hbel.alloc hbel.size ob)
      have hown0 : ∀ ob : Obj, Hid ((wr.alloc ob).ownsRow w.heap.size 9 1 ov k (strs ((rs.take k).map frT))) := fun ob => Lib.hid (hown.alloc ob)
      clear hbel hcell hm hr0 hown
      go_wp2_with fail
      refine (implFrOne x y _ HXY.out.1.1 HXY.out.1.2 HXY.out.2.1 HXY.out.2.2 (HT.out.below (hb0 _).out (Nat.le_refl _))).mono ?_
      rintro e w1 ⟨rfl, hb1⟩
      have HO1 : Hid (w1.ownsRow w.heap.size 9 1 ov k (strs ((rs.take k).map frT))) := Lib.hid (ownB_below (hown0 _).out hb1 (Nat.le_refl _))
      replace HW := Lib.hid ((hb0 _).out.trans (hb1.mono (hb0 _).out.size))
      have hsz := HW.out.size
      have hown1 := HO1.out
      obtain ⟨t, ht⟩ : ∃ t, t = bs (frT ⟨x, y⟩) := ⟨_, rfl⟩
      have HTt := Lib.hid ht
      rw [← ht]
      clear hb1 ht c0 c1 hb0 hown0
      go_wp2_with (at_builtin; refine wpList_append_own _ rfl _ _ 73 rfl w.heap.size 9 i0 (.string ⟨#[]⟩) 1 16 Tryd.underlying73 hi hz0 hz1 hz2 rfl (by decide) _ _ _ rfl (hown1.alloc _) ⟨_, 0, none⟩ 1 1 [.string t] rfl rfl ?c1 ?c2 ?c3 ?c4 ?c5 ?_)
      try (case c1 => exact cellNewB _)
      case c2 => first | rfl | (intro u hu; simp at hu; subst hu; rfl)
      case c3 => unfold maxLen; omega
      case c4 => omega
      case c5 => first | omega | (simp; omega)
      intro v' w2 hown2 hgrow _
      have HO : Hid (w2.ownsRow w.heap.size 9 1 v' (k + 1) (strs ((rs.take (k + 1)).map frT))) := Lib.hid (by rw [HS.out, strs_snoc, ← HTt.out]; first | exact hown2 | (rw [List.map_take]; exact hown2))
      have HQ := Lib.hid ((HW.out.alloc hsz (Obj.cells #[Value.string t] 9)).grown hgrow (by simp; omega) (fun q hq => (hown1.lt q hq).1))
      clear hown2 hgrow hown1 HO1
      go_wp2
      go_roundw
      case rel => exact ⟨k + 1, v', rfl, by omega, by go_num, HO.out, HQ.out⟩
      case measure => simp [intOf]; omega
    · obtain rfl : k = rs.length := by omega
      have HO : Hid (wr.ownsRow w.heap.size 9 1 ov rs.length (strs (rs.map frT))) := Lib.hid (by rw [List.take_length] at hown; exact hown)
      have hnlt : ¬ ((rs.length : Int) < (rs.length : Int)) := by omega
      clear hown hbel hlt
      go_wp2
      go_ret
      exact ⟨_, rfl, HO.out, HW.out⟩
theorem implFrText (v : Value) (rs : List Fra) (w : World) (h : RdFra w v rs) (ht : TabV w) :
    Calls Tryd.prog 22 #[v] w fun e w' => e = .returned (.string (bs (frV rs))) ∧ Below w.heap.size w w' := by
  have H := Lib.hid h
  have HT := Lib.hid ht
  clear h ht
  obtain ⟨ok, hok⟩ : ∃ b, b = frsB rs := ⟨_, rfl⟩
  have HOK := Lib.hid hok
  clear hok
  go_enter Tryd.func22, Tryd.ntmps22
  go_wp2_with fail
  refine (implValidFractions _ rs _ H.out).mono ?_
  rintro e w1 ⟨rfl, hb1⟩
  rw [← HOK.out]
  have HB1 := Lib.hid hb1
  clear hb1
  rcases eqOr ok with hb | hb
  · subst hb
    go_wp2
    go_ret
    exact ⟨by rw [frV, ← HOK.out]; rfl, HB1.out⟩
  subst hb
  have HG := Lib.hid (frsB_r HOK.out.symm)
  have hl8 := HG.out.1
  have HJ : Hid ((Lib.join (rs.map frT) [32]).length ≤ 100000000) := Lib.hid (by have := HG.out.small; unfold frX at this; omega)
  go_wp2_with fail
  refine (mapFra _ rs _ (H.out.below HB1.out (Nat.le_refl _)) (HT.out.below HB1.out (Nat.le_refl _)) HG.out).mono ?_
  rintro e w2 ⟨u, rfl, hr2, hb2⟩
  have HR2 : Hid (w2.ownsRow w1.heap.size 9 1 u (rs.map frT).length (strs (rs.map frT))) := Lib.hid (by rw [List.length_map]; exact hr2)
  have HB2 := Lib.hid (HB1.out.trans (hb2.mono HB1.out.size))
  clear hb2 hr2
  go_wp2_with fail
  refine (joinRow _ _ (rs.map frT) [32] _ HR2.out (by rw [List.length_map]; omega) HJ.out).mono ?_
  rintro e w3 ⟨rfl, hb3⟩
  have HB3 := Lib.hid (HB2.out.trans (hb3.mono HB2.out.size))
  clear hb3
  go_wp2
  go_ret
  exact ⟨by rw [frV, ← HOK.out]; rfl, HB3.out⟩
end Go.Proofs.YtemooadcjdngdaaDoor.Ints
