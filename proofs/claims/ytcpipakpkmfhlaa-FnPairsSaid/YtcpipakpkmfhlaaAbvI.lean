/- A number not less than a root, of the program. -/
import Derived.Test.YtcpipakpkmfhlaaAbv
import Derived.Deep.OwnRows
namespace Go.Proofs.Ytcpipakpkmfhlaa.Ints
open Go.RowKit Go.Shelf
set_option linter.unusedVariables false
set_option linter.unusedSimpArgs false
attribute [local go_sem] Oper.semAt_some
attribute [local go_sem, local simp] wide_fn
theorem madeOw (w : World) (p : Nat) (hp : p ≤ 16777216) : Ow (w.alloc (.cells (madeCells #[Value.int .i64 0] p) 2)) w.heap.size (w.alloc (.cells (madeCells #[Value.int .i64 0] p) 2)).heap.size (.slice (some ⟨w.heap.size, 0, none⟩) p p) (List.replicate p 0) := by
  have h1 : Blk (w.alloc (.cells (madeCells #[Value.int .i64 0] p) 2)) w.heap.size p (List.replicate p 0) := by
    refine ⟨[], by simp, ?_⟩
    rw [World.alloc_heap_new]
    congr 2
    apply Array.ext'
    rw [toList_madeCells_one]
    simp
  have h2 := h1.ow (Nat.le_refl w.heap.size) (by unfold maxLen; omega) (by simp; omega) (fun z hz => by simp at hz; omega)
  simpa using h2
theorem val_reps (p : Nat) (zs : List Int) : val (List.replicate p 0 ++ zs) = Pw p * val zs := by
  rw [val_append, val_rep, List.length_replicate]; omega
theorem can_reps {p : Nat} {zs : List Int} (h : Can zs) (hn : zs ≠ []) : Can (List.replicate p 0 ++ zs) := by
  have hl : 0 < zs.length := List.length_pos_iff.2 hn
  refine ⟨fun i hi => ?_, .inr ?_⟩
  · rw [List.length_append, List.length_replicate] at hi
    rw [List.getD_eq_getElem?_getD]
    by_cases hip : i < p
    · rw [List.getElem?_append_left (by simpa using hip)]
      simp [hip]
    · rw [List.getElem?_append_right (by simp; omega), List.length_replicate, ← List.getD_eq_getElem?_getD]
      exact h.1 (i - p) (by omega)
  · rw [List.length_append, List.length_replicate, List.getD_eq_getElem?_getD, List.getElem?_append_right (by simp; omega), List.length_replicate, ← List.getD_eq_getElem?_getD]
    have := h.2
    rcases this with h0 | h0
    · omega
    · rwa [show p + zs.length - 1 - p = zs.length - 1 by omega]
theorem step_append_rdA {w : World} {ops : Array Oper} {o : Oper} {a : Act} {K : Act → World → Prop} {Q : Exit → Act → World → Prop} {E : Prop} (hgd : o.guard = none) (s x : Operand)
    (ho : o.op = .call { callee := .builtin .append, args := #[s, x], argTypes := #[24, 24] })
    (base : Nat) (v u : Value) (xs ys : List Int) (hs : a.eval s = v) (hown : w.ownsRow base 2 1 v xs.length (xs.map (Value.int .i64))) (hx : a.eval x = u) (hu : Rd w u ys)
    (hn : xs.length + ys.length ≤ 33554432) (hbase : base ≤ w.heap.size)
    (h : ∀ v' w', w'.ownsRow base 2 1 v' (xs.length + ys.length) ((xs ++ ys).map (Value.int .i64)) → w.grownBy w' v.ownBlock → K (a.put o.dst v') w') :
    if Region.wanted o (yielded ops a.tmps) = true then Oper.wp Try.prog o a w K Q else E := by
  have hw : Region.wanted o (yielded ops a.tmps) = true := by simp [Region.wanted, hgd]
  rw [if_pos hw]
  obtain ⟨i0, hi, hz0, hz1, hz2⟩ := info_parts infoE
  obtain ⟨hl, hf, ad, c, rfl, hcap, hr⟩ := hu
  cases ad with
  | some ad =>
    have hc : ∀ j y, (ys.map (Value.int .i64))[j]? = some y → w.cell? (ad.add j) = some y := fun j y hy => by
      simp only [List.getElem?_map, Option.map_eq_some_iff] at hy
      obtain ⟨z, hz, rfl⟩ := hy
      have hj : j < ys.length := (List.getElem?_eq_some_iff.1 hz).1
      obtain ⟨b, o, ha, hb, hcell⟩ := hr (by intro h0; rw [h0] at hj; simp at hj)
      cases ha
      rw [Addr.add_lit, hcell j hj, List.getD_eq_getElem?_getD, hz]; rfl
    exact wp_append_own w s x 24 ho base 2 i0 (.int .i64 0) 1 8 Try.underlying24 hi hz0 hz1 hz2 rfl (by decide) v xs.length (xs.map (Value.int .i64)) hs hown ad ys.length c (ys.map (Value.int .i64)) hx (by simp) hc (ints_oneCell .i64 ys)
      (by unfold maxLen; omega) (by omega) hbase (fun v' w' h1 h2 _ => h v' w' (by simpa using h1) h2)
  | none =>
    obtain rfl : ys = [] := by
      cases ys with
      | nil => rfl
      | cons z zs => obtain ⟨b, o, h, _⟩ := hr (by simp); cases h
    have hfin := h v w (by simpa using hown) (grown_refl _ _)
    have hv : ∃ ao n cp, v = .slice ao n cp ∧ n ≤ cp := by
      rcases hown.2 with ⟨rfl, _⟩ | ⟨g, cp, cur, rfl, _, _, hnc, _⟩
      · exact ⟨none, 0, 0, rfl, Nat.le_refl _⟩
      · exact ⟨_, _, _, rfl, hnc⟩
    obtain ⟨ao, n, cp, rfl, hle⟩ := hv
    have hrun := run_append_nothing w 24 24 o.type 2 i0 Try.underlying24 hi ao n cp hle (.slice none 0 c) (Src.ofNil w Try.underlying24 c)
    unfold Oper.wp
    simp [execOp, ho, resolve, invoke, builtin, hs, hx, hrun, Result.andThen]
    exact hfin
theorem abvAl {W W1 : World} {p : Nat} (h : Below W.heap.size W W1) : Below W.heap.size W (W1.alloc (.cells (madeCells #[Value.int .i64 0] p) 2)) := h.alloc h.size _
theorem abvDr {W W1 : World} (h : Below W.drew.heap.size W.drew W1) : Below W.heap.size W W1 := (Below.refl W.heap.size W).drew.trans h
theorem abvSz (w : World) (p : Nat) : w.heap.size ≤ (w.alloc (.cells (madeCells #[Value.int .i64 0] p) 2)).heap.size := by simp
theorem abvTail {W W1 w5 : World} {g p c l : Nat} {v5 : Value} {zs : List Int} (hb : Below W.heap.size W W1) (hg : W.heap.size ≤ g) (hg1 : g ≤ W1.heap.size)
    (ho : w5.ownsRow g 2 1 v5 l (zs.map (Value.int .i64))) (hgr : W1.grownBy w5 (Value.slice (some ⟨g, 0, none⟩) p c).ownBlock) (hl : zs.length ≤ 16777216) (hf : Fit zs) (e : l = zs.length := by simp) :
    Below W.heap.size W w5 ∧ Ow w5 W.heap.size w5.heap.size v5 zs := by
  have h1 : Below W.heap.size W w5 := hb.grown hgr hb.size (fun k hk => by cases hk; exact hg)
  subst e
  exact ⟨h1, (Ow.of_row ho hl hf (Nat.le_trans hg1 hgr.size)).mono hg (Nat.le_refl _) (Nat.le_refl _)⟩
set_option maxRecDepth 100000 in
set_option maxHeartbeats 8000000 in
theorem implAbv_in (u : Value) (ps : List Int) (w : World) (hu : Rd w u ps) (hp : Can ps) (h1 : 1 ≤ ps.length) (hla : ps.length ≤ 100) :
    CallsIn Fence.wide 6 Try.prog 56 #[u] w fun e w' => ∃ r X, e = .returned r ∧ Ow w' w.heap.size w'.heap.size r (canOf X) ∧ 0 < X ∧ isq (val ps) ≤ X ∧ (canOf X).length ≤ 60 ∧ Below w.heap.size w w' := by
  have HP := Lib.hid hp
  obtain ⟨_, _, a, c, rfl, hcap, hr⟩ := hu
  obtain ⟨b, o, rfl, hb, hcell⟩ := hr (by intro h0; rw [h0] at h1; simp at h1)
  obtain ⟨p, hp0⟩ : ∃ p, p = (ps.length - 1) / 2 := ⟨_, rfl⟩
  have hp1 : ((ps.length : Int) - 1) / 2 = (p : Int) := by omega
  obtain ⟨M, hM⟩ : ∃ M, M = 2 * p := ⟨_, rfl⟩
  have hM1 : (2 : Int) * (p : Int) = (M : Int) := by omega
  have hM2 : M < ps.length := by omega
  have hM3 : ps.length ≤ M + 2 := by omega
  have hp50 : p ≤ 50 := by omega
  have HM := Lib.hid hM
  obtain ⟨zs, hzs⟩ : ∃ zs, zs = ps.drop M := ⟨_, rfl⟩
  have hzl : zs.length = ps.length - M := by rw [hzs, List.length_drop]
  have HZ := Lib.hid hzs
  have hzd : Dig 1000000 zs := fun i hi => by
    have := hp.1 (M + i) (by omega)
    rw [hzs]
    simpa [List.getD_eq_getElem?_getD] using this
  have HZD := Lib.hid hzd
  have hz2 : zs.length ≤ 2 := by omega
  have hsl : ∀ W' : World, (Instr.slice 24 (.slice (some ⟨b, o, none⟩) ps.length c) (some (.int .i64 (M : Int))) none none).run Try.prog W' = .ok (.slice (some ⟨b, o + M, none⟩) zs.length (c - M)) W' := fun W' => by
    rw [run_slice_l W' 24 (some ⟨b, o, none⟩) ps.length c Try.underlying24 .i64 (M : Int) (by omega) (by omega)]
    rw [show Try.prog.elem 24 = 2 by kernel_rfl, show (sizeOf 2).run Try.prog W' = .ok 1 W' by kernel_rfl]
    have e9 : ¬ c = M := by omega
    simp [Result.andThen, sliced, e9, Addr.add, hzl]
  have mixed : Try.prog.follows .mixedOrders = true := by kernel_rfl
  obtain ⟨wi, hwi⟩ : ∃ wi, wi = (w.alloc (.cells #[.int .i64 0] 2)).alloc (.cells #[.slice (some ⟨b, o + M, none⟩) zs.length (c - M)] 24) := ⟨_, rfl⟩
  have si : wi.heap.size = w.heap.size + 2 := by rw [hwi]; simp
  have bT : Boxed wi w.heap.size 2 (.int .i64 0) := by rw [hwi]; exact (Boxed.new w _ _).alloc _
  have bI : Boxed wi (w.heap.size + 1) 24 (.slice (some ⟨b, o + M, none⟩) zs.length (c - M)) := by
    rw [hwi]
    have := Boxed.new (w.alloc (.cells #[.int .i64 0] 2)) 24 (.slice (some ⟨b, o + M, none⟩) zs.length (c - M))
    simpa using this
  have hBI : Below w.heap.size w wi := by rw [hwi]; exact ((Below.refl _ _).alloc (Nat.le_refl _) _).alloc (by simp) _
  have hcs : zs ≠ [] → ∃ b' o', (some ⟨b, o + M, none⟩ : Option Addr) = some ⟨b', o', none⟩ ∧ b' < w.heap.size ∧ ∀ j, j < zs.length → wi.cell? ⟨b', o' + j, none⟩ = some (.int .i64 (zs[j]?.getD 0)) := fun _ =>
    ⟨b, o + M, rfl, hb, fun j hj => by
      rw [hBI.cell (p := ⟨b, o + M + j, none⟩) hb]
      have := hcell (M + j) (by omega)
      rw [show o + M + j = o + (M + j) by omega, this, hzs]
      simp [List.getD_eq_getElem?_getD]⟩
  have HZL := Lib.hid hzl
  clear hr hcell hp hzs hzd hM hp0 hzl
  refine callsIn_of_wp_marks Try.func56 rfl trivial ?_ rfl
  simp only [Try.ntmps56, List.size_toArray, List.length_cons, List.length_nil, Nat.reduceAdd, Nat.reduceSub, Array.replicate_succ, Array.replicate_zero, List.push_toArray, List.append_toArray, List.nil_append, List.cons_append]
  gi_wp2_with (gi_at_call 59; refine (back_in Fence.wide _ trivial rfl _ ⟨_, _, _, rfl⟩ _).mono ?_; rintro e w' ⟨rfl, rfl⟩)
  rw [← hwi]
  refine wpIn_rangeFunc_ownG rfl (by omega) (gf := 68) (lb := #[.pointer (some ⟨w.heap.size + 1, 0, none⟩)]) rfl trivial (enters_of Try.func68 (by kernel_rfl) rfl)
    (back_stops Fence.wide 5 trivial rfl (by omega) (w.heap.size + 1) w.heap.size (some ⟨b, o + M, none⟩) (c - M) zs (by omega) wi (by omega) (by omega) bI.cell hcs) KB.trans (KB.book (by omega) (by omega)) (Below.refl _ _) (fun _ => rfl)
    (fun pre W => Boxed W w.heap.size 2 (.int .i64 (abF zs pre)) ∧ Below w.heap.size w W)
    (fun _ _ _ => False)
    (OwnFrom.and (Own.from (boxed_own _ _ _) _) (ownFrom_below (Nat.le_refl _) (by omega)))
    (fun _ _ _ _ _ hs _ _ => hs)
    ⟨bT, hBI⟩
    (fun x => { tmps := #[Value.slice (some { block := b, off := o }) ps.length c, undef, Value.slice none 0 0,
          Value.int IntKind.i64 p, Value.pointer (some { block := w.heap.size, off := 0 }), undef, .int .i64 x.1.2, undef,
          Value.slice (some { block := b, off := o }) ps.length c, Value.int IntKind.i64 ps.length,
          Value.int IntKind.i64 ((ps.length : Int) - 1), Value.int IntKind.i64 p,
          Value.slice (some { block := b, off := o }) ps.length c, Value.int IntKind.i64 p, Value.int IntKind.i64 M,
          Value.slice (some { block := b, off := o + M }) zs.length (c - M),
          Value.func (Fn.func 68) #[] #[Value.pointer (some { block := w.heap.size + 1, off := 0 })], .int .i64 ((x.1.1 : Nat) : Int), .int .i64 x.1.2,
          undef, undef, undef, undef, undef, undef, undef, undef, undef, undef, undef, undef, undef, undef, undef], defers := [] }) ?assign ?body ?done ?stop
  case assign =>
    intro l x W K hK
    gi_wp2
    exact hK
  case body =>
    rintro l pre x W ⟨h1', h2'⟩ _
    have HD := Lib.hid (abF_snoc zs pre x)
    obtain ⟨st, hst⟩ : ∃ st, st = abF zs pre := ⟨_, rfl⟩
    rw [← hst] at h1' HD
    obtain ⟨P2, hP2⟩ : ∃ P2, P2 = pre ++ [x] := ⟨_, rfl⟩
    rw [← hP2] at HD ⊢
    clear hst hP2
    obtain ⟨⟨i, z⟩, hx1, hx2⟩ := x
    dsimp only at HD ⊢
    clear hx2
    have c1 := h1'.cell
    have f1 := h1'.frozen
    have HB1 := Lib.hid h1'
    have HB2 := Lib.hid h2'
    have HE : Hid (abF zs P2 = wrap64 (wrap64 (st * 1000000) + z)) := Lib.hid (by rw [HD.out, abS])
    clear HD h1' h2'
    gi_wp2
    exact ⟨(KeepsOthers.setCell _ _ _).from _, kbSet _ (by show w.heap.size ≤ w.heap.size; omega) (by show w.heap.size + 1 ≠ w.heap.size; omega) _, by rw [HE.out]; exact HB1.out.set _, HB2.out.setCell (p := ⟨w.heap.size, 0, none⟩) (Nat.le_refl _) _⟩
  case done =>
    rintro D ys W hD rfl ⟨h1', h2'⟩ hK
    rw [abF_done HZD.out hz2] at h1'
    have HB := Lib.hid h2'
    obtain ⟨V, hV⟩ : ∃ V, V = val zs := ⟨_, rfl⟩
    rw [← hV] at h1'
    have HV := Lib.hid hV
    have c1 := h1'.cell
    have v0 : 0 ≤ V := by rw [hV]; exact val_nonneg HZD.out
    have v1 : V < 1000000000000 := by
      rw [hV]
      have h8 := val_lt HZD.out
      have h9 := Pw_mono (a := zs.length) (b := 2) hz2
      have h10 : Pw 2 = 1000000000000 := by decide
      omega
    have e1 : IntKind.u64.wrap V = V := by simp [IntKind.wrap, IntKind.bits, IntKind.signed]; omega
    have HK := Lib.hid hK
    clear h1' h2' hK hV
    gi_wp2_with fail
    refine (callsIn_wide.2 (len64 V _ v0 v1)).mono ?_
    rintro e w' ⟨r, rfl, hr40, hlt, rfl⟩
    have HR := Lib.hid hlt
    obtain ⟨h, hh⟩ : ∃ h, h = (r + 1) / 2 := ⟨_, rfl⟩
    have hh1 : ((r : Int) + 1) / 2 = (h : Int) := by omega
    have hh2 : r ≤ h + h := by omega
    have hh3 : h ≤ 20 := by omega
    clear hlt hh
    gi_wp2_with fail
    refine wpIn_wide.2 ?_
    have hmk := run_make_row' (P := Try.prog) 24 2 (.int .i64 0) 8 Try.underlying24 infoE rfl .i64 .i64 p (by omega) (by omega)
    obtain ⟨S, hS⟩ : ∃ S : Int, S = 2 ^ h := ⟨_, rfl⟩
    have hS0 : 0 < S := by rw [hS]; exact pow_pos2 h
    have hS1 : S ≤ 1048576 := by rw [hS]; have := pow_le2 hh3; have e9 : (2 : Int) ^ 20 = 1048576 := by decide
                                 omega
    have hsh : IntKind.i64.wrap (2 ^ h) = S := by rw [← hS, IntKind.wrap_i64]; omega
    have HS := Lib.hid hS
    have HSb : Hid (0 ≤ S ∧ S ≤ 1000000000000000000) := Lib.hid ⟨by omega, by omega⟩
    have HLS := Lib.hid (limbs_can (n := S) (by omega))
    have HLn : Hid ((limbs S).length ≤ 2 ∧ limbs S ≠ []) := Lib.hid (by
      have h8 := (limbs_can (n := S) (by omega))
      refine ⟨can_len h8.1 (by rw [h8.2]; have h10 : Pw 2 = 1000000000000 := by decide
                               omega), fun h9 => ?_⟩
      rw [h9] at h8
      have := h8.2
      simp [val] at this
      omega)
    have HLe : Hid ((List.replicate p (0 : Int)).length + (limbs S).length ≤ 33554432) := Lib.hid (by rw [List.length_replicate]; have := HLn.out.1; omega)
    have HM0 := Lib.hid ((madeOw W p (by omega)).below (Below.refl _ _).drew (Nat.le_refl _))
    have HBW : Hid (Below W.heap.size W (W.alloc (.cells (madeCells #[Value.int .i64 0] p) 2)).drew) := Lib.hid ((Below.refl _ _).alloc (Nat.le_refl _) _).drew
    have HP16 : Hid (p ≤ 16777216) := Lib.hid (by omega)
    have HLx : Hid ((List.replicate p (0 : Int) ++ limbs S).length ≤ 16777216) := Lib.hid (by have := HLn.out.1; simp; omega)
    have HLf : Hid (Fit (List.replicate p (0 : Int) ++ limbs S)) := Lib.hid (can_reps HLS.out.1 HLn.out.2).1.fit
    have hWs : w.heap.size ≤ W.heap.size := HB.out.size
    clear hS
    go_region_held3 (fun _ => True) (trivial)
      (first
        | (go_at_call 52; refine (implLimbs S _ HSb.out.1 HSb.out.2).mono ?_; rintro e3 w3 ⟨ua, rfl, ho3, hb3⟩; have XL := Lib.hid ho3; have HB3 := Lib.hid (hb3.mono HBW.out.size); have HRw := Lib.hid (HM0.out.below hb3 (Nat.le_refl _)); clear ho3 hb3)
        | (go_at_call 52; refine (implLimbs S W.drew HSb.out.1 HSb.out.2).mono ?_; rintro e4 w4 ⟨ub, rfl, ho4, hb4⟩; have XM := Lib.hid (ho4.rd.below (abvAl (p := p) (Below.refl w4.heap.size w4)) (Nat.le_refl _)); have HB4 := Lib.hid hb4; have HRx := Lib.hid (madeOw w4 p HP16.out); clear ho4 hb4)
        | (refine step_append_rdA (by rfl) _ _ (by rfl) W.heap.size _ _ (List.replicate p 0) (limbs S) (by rfl) HRw.out.row (by rfl) XL.out.rd HLe.out (Nat.le_trans HBW.out.size HB3.out.size) ?_; intro v5 w5 hown5 hgrow5; have HT := Lib.hid (abvTail (HBW.out.trans HB3.out) (Nat.le_refl _) (Nat.le_trans HBW.out.size HB3.out.size) hown5 hgrow5 HLx.out HLf.out); clear hown5 hgrow5)
        | (refine step_append_rdA (by rfl) _ _ (by rfl) w4.heap.size _ _ (List.replicate p 0) (limbs S) (by rfl) HRx.out.row (by rfl) XM.out HLe.out (abvSz w4 p) ?_; intro v5 w5 hown5 hgrow5; have HT := Lib.hid (abvTail (abvAl (abvDr HB4.out)) (abvDr HB4.out).size (abvSz w4 p) hown5 hgrow5 HLx.out HLf.out); clear hown5 hgrow5)
        | fail)
    all_goals
      have HB5 := Lib.hid HT.out.1
      have hDW : D < W.heap.size := (Array.getElem?_eq_some_iff.1 HK.out).1
      have hk2 : w5.heap[D]? = some (.deferred (some [])) := by rw [HB5.out.block D hDW]; exact HK.out
      have HX : Hid (Can (List.replicate p 0 ++ limbs S) ∧ val (List.replicate p 0 ++ limbs S) = Pw p * S) := Lib.hid ⟨can_reps HLS.out.1 HLn.out.2, by rw [val_reps, HLS.out.2]⟩
      have HO6 : Hid (Ow (w5.putObj D (.deferred none)) w.heap.size (w5.putObj D (.deferred none)).heap.size v5 (canOf (Pw p * S))) := Lib.hid (by
        have h7 := HT.out.2
        have h8 := (h7.grown (grownBy_putObj' w5 D (.deferred none)) (.inr (fun e => by have := (h7.row.lt D e).1; omega))).up
        rw [canOf_eq HX.out.1 HX.out.2]
        exact h8.mono hWs (Nat.le_refl _) (Nat.le_refl _))
      have HB7 : Hid (Below w.heap.size w (w5.putObj D (.deferred none))) := Lib.hid ((HB.out.trans (HB5.out.mono hWs)).trans ((belowK_b (w := wi) (Nat.le_refl _) w5 D _ (.deferred none) hD hk2 rfl rfl).mono (by omega)))
      have HF : Hid (0 < Pw p * S ∧ isq (val ps) ≤ Pw p * S ∧ (canOf (Pw p * S)).length ≤ 60) := Lib.hid ⟨Int.mul_pos (Pw_pos p) hS0, by
        rw [HS.out]
        exact abv_ge HP.out (by have := HM.out; omega) (by have h8 := HR.out; rw [HV.out, HZ.out, HM.out] at h8; exact h8) hh2, by
        rw [canOf_eq HX.out.1 HX.out.2]; have := HLn.out.1; simp; omega⟩
      clear hmk
      gi_wp2
      refine ⟨by simp, .inl ⟨_, _, rfl, run_takeDeferred hk2, ?_⟩⟩
      exact ⟨_, results_tmp rfl _ _ _, v5, Pw p * S, by rfl, HO6.out, HF.out.1, HF.out.2.1, HF.out.2.2, HB7.out⟩
  case stop =>
    rintro D c pre W _ _ h _
    exact h.elim
end Go.Proofs.Ytcpipakpkmfhlaa.Ints
