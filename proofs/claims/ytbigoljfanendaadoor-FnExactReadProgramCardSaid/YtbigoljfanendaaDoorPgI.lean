/- A program read from a text, of the program. -/
import Derived.Test.YtbigoljfanendaaDoorPgP
import Derived.Test.YtbigoljfanendaaDoorPrgI
import Derived.Test.YtbigoljfanendaaDoorInsL
import Derived.Test.YtbigoljfanendaaDoorGup
import Derived.Test.YtbigoljfanendaaDoorAttG
import Derived.Test.YtbigoljfanendaaDoorPgV
namespace Go.Proofs.YtbigoljfanendaaDoor.Ints
open Go.RowKit
set_option linter.unusedVariables false
set_option linter.unusedSimpArgs false
theorem implDec7 (r t o : Int) (w : World) : Calls Tryd.prog 91 #[.int .i64 r, .int .i64 t, .int .i64 o] w fun e w' => e = .returned (.agg #[.int .i64 1, .int .i64 r, .int .i64 t, .int .i64 o]) ∧ Below w.heap.size w w' := by
  go_enter Tryd.func91, Tryd.ntmps91
  go_wp2
  refine bodyPost_ret (v := .agg #[.int .i64 1, .int .i64 r, .int .i64 t, .int .i64 o]) (by simp [results, Tryd.f91, go_sem]) rfl ⟨rfl, ?_⟩
  exact (Below.refl _ _).alloc (Nat.le_refl _) _
def KindIs (c0 : Nat) (k : Int) : Prop := (c0 = 43 ∧ k = 0) ∨ (c0 = 45 ∧ k = 1) ∨ (c0 ≠ 43 ∧ c0 ≠ 45 ∧ k = -1)
theorem libKind (c0 : Nat) (k : Int) (w : World) (hc : c0 < 256) (hk : KindIs c0 k) :
    Calls Tryd.prog 88 #[.string ⟨#[43, 45]⟩, .int .u8 (c0 : Int)] w fun e w' => e = .returned (.int .i64 k) ∧ w' = w := by
  refine (Tryd.strings_IndexByte ⟨#[43, 45]⟩ (c0 : Int) w).mono ?_
  rintro e w' ⟨rfl, rfl⟩
  refine ⟨?_, rfl⟩
  have e1 : Lib.indexByte [43, 45] ((c0 : Int)).toNat.toUInt8 = k := by
    rw [Int.toNat_natCast]
    have h8 : (c0.toUInt8).toNat = c0 := by
      show c0 % 256 = c0
      omega
    rcases hk with ⟨rfl, rfl⟩ | ⟨rfl, rfl⟩ | ⟨h1, h2, rfl⟩
    · decide
    · decide
    · have n1 : ¬ (43 : UInt8) = c0.toUInt8 := fun h => h1 (by rw [← h8, ← h]; rfl)
      have n2 : ¬ (45 : UInt8) = c0.toUInt8 := fun h => h2 (by rw [← h8, ← h]; rfl)
      simp [Lib.indexByte, n1, n2]
  show Ending.returned (Value.int .i64 (Lib.indexByte [43, 45] ((c0 : Int)).toNat.toUInt8)) = _
  rw [e1]
def InsPost (l : List UInt8) (w : World) (e : Ending) (w' : World) : Prop :=
  ((insOne l ∧ e = .returned (.agg #[.int .i64 (insV l).kd, .int .i64 (insV l).rg, .int .i64 (insV l).th, .int .i64 (insV l).el])) ∨ (¬ insOne l ∧ e = .panicked [gaveUp 8])) ∧ Below w.heap.size w w'
set_option maxRecDepth 100000 in
set_option maxHeartbeats 8000000 in
theorem implInstr (s : ByteArray) (w : World) (hs : s.size ≤ 1048576) (ht : TabV w) (he : ErrV w) (hm : MaxV w) :
    Calls Tryd.prog 45 #[.string s] w (InsPost s.data.toList w) := by
  obtain ⟨W0, hW0⟩ : ∃ W, W = w.alloc (Obj.cells #[.int .i64 0, .int .i64 0, .int .i64 0, .int .i64 0] 74) := ⟨_, rfl⟩
  have HB0 : Hid (Below w.heap.size w W0) := Lib.hid (by rw [hW0]; exact (Below.refl w.heap.size w).alloc (Nat.le_refl _) _)
  have K0 : Hid (Cels W0 w.heap.size 74 [.int .i64 0, .int .i64 0, .int .i64 0, .int .i64 0]) := Lib.hid (by rw [hW0]; exact Cels.new _ _ _)
  have HW0 := Lib.hid hW0.symm
  have HTab := Lib.hid (ht.below HB0.out (Nat.le_refl _))
  have HErr := Lib.hid (he.below HB0.out (Nat.le_refl _))
  have HMax := Lib.hid (hm.below HB0.out (Nat.le_refl _))
  have HS := Lib.hid hs
  clear hW0 ht he hm hs
  by_cases z : s.size = 0
  · have hl : s.data.toList = [] := List.length_eq_zero_iff.1 (by simpa using z)
    have HF : Hid (¬ insOne s.data.toList) := Lib.hid (fun h => by rcases ins_head h with h | h <;> (rw [hl] at h; cases h))
    have e0 : (s.toList == []) = true := by simp [size_nil z]
    have e0' : s.toList = [] := size_nil z
    clear hl
    go_enter Tryd.func45, Tryd.ntmps45
    go_wp2_with fail
    rw [HW0.out]
    refine (implGiveN _).mono ?_
    rintro e w1 ⟨rfl, rfl⟩
    go_wp2
    exact ⟨rfl, .inr ⟨HF.out, rfl⟩, HB0.out⟩
  have hpos : 0 < s.size := by omega
  obtain ⟨x, r, hxr, hxb⟩ := head_bt hpos
  obtain ⟨c0, hc0⟩ : ∃ c, c = bt s 0 := ⟨_, rfl⟩
  have hid0 := idxS (k := 0) hpos hc0
  have hck0 : (s[0]'hpos).toNat = c0 := by rw [hc0, bt_at hpos]
  simp only [Int.natCast_zero] at hid0
  rw [← hc0] at hxb
  have HC8 : Hid (c0 < 256) := Lib.hid (by rw [← hxb]; exact x.toNat_lt)
  have e0 : s.toList ≠ [] := size_pos z
  have e0' : (s.toList == []) = false := by simpa using e0
  have e0'' : s.toList.isEmpty = false := by simpa using e0
  have i1 : (1 : Int) ≤ (s.size : Int) := by omega
  have i1' : 1 ≤ s.size := by omega
  obtain ⟨u, hu⟩ : ∃ u, u = bs r := ⟨_, rfl⟩
  have hx1 : s.extract 1 s.size = u := by rw [bs_tail i1', hxr, hu]; rfl
  have HU := Lib.hid hu
  have HSu : Hid (u.size ≤ 1048576) := Lib.hid (by rw [hu, bs_size]; have h2 := Lib.size_eq s; have h3 := HS.out; rw [hxr] at h2; simp at h2; omega)
  have HXR := Lib.hid hxr
  have HXB := Lib.hid hxb
  clear hu hxr hxb hc0 z
  obtain ⟨k, hk⟩ : ∃ k : Int, KindIs c0 k := by
    by_cases h1 : c0 = 43
    · exact ⟨0, .inl ⟨h1, rfl⟩⟩
    · by_cases h2 : c0 = 45
      · exact ⟨1, .inr (.inl ⟨h2, rfl⟩)⟩
      · exact ⟨-1, .inr (.inr ⟨h1, h2, rfl⟩)⟩
  have HK := Lib.hid hk
  clear hk
  by_cases hk0 : 0 ≤ k
  rotate_left
  · have HF : Hid (¬ insOne s.data.toList) := Lib.hid (fun h => by
      have hk := HK.out
      unfold KindIs at hk
      rcases ins_head h with h | h
      · rw [HXR.out] at h; simp at h
        have := (u8_eq HXB.out).1 h
        have h43 : (43 : UInt8).toNat = 43 := rfl
        omega
      · rw [HXR.out] at h; simp at h
        have := (u8_eq HXB.out).1 h
        have h45 : (45 : UInt8).toNat = 45 := rfl
        omega)
    have d1 : decide (0 ≤ k) = false := decide_eq_false hk0
    clear hk0
    go_enter Tryd.func45, Tryd.ntmps45
    go_wp2_with fail
    rw [HW0.out]
    refine (implGiveY _).mono ?_
    rintro e w1 ⟨rfl, rfl⟩
    go_wp2_with fail
    refine (libKind c0 k _ HC8.out HK.out).mono ?_
    rintro e w2 ⟨rfl, hw2⟩
    rw [hw2]
    clear hw2 w2
    go_wp2_with fail
    refine (implGiveN _).mono ?_
    rintro e w2 ⟨rfl, rfl⟩
    go_wp2
    exact ⟨rfl, .inr ⟨HF.out, rfl⟩, HB0.out⟩
  have d1 : decide (0 ≤ k) = true := decide_eq_true hk0
  obtain ⟨rg, hrg⟩ : ∃ t, t = bs (Lib.cut r [62]).1 := ⟨_, rfl⟩
  obtain ⟨pl, hpl⟩ : ∃ t, t = bs (Lib.cut r [62]).2.1 := ⟨_, rfl⟩
  have HRg := Lib.hid hrg
  have HPl := Lib.hid hpl
  have HCut := Lib.hid (implCut u 62 ⟨#[62]⟩ W0 HSu.out rfl HMax.out)
  have cutS : ∀ (c : UInt8) (t : List UInt8), t.length ≤ 1048576 → (bs (Lib.cut t [c]).1).size ≤ 1048576 ∧ (bs (Lib.cut t [c]).2.1).size ≤ 1048576 := fun c t hlt => by
    rw [bs_size, bs_size]
    rcases cut_pcs c t with ⟨_, _, e⟩ | ⟨a, b, _, e2, _, e⟩
    · rw [e]; exact ⟨hlt, by simp⟩
    · rw [e]; have h3 := congrArg List.length e2; simp at h3; exact ⟨by show a.length ≤ _; omega, by show b.length ≤ _; omega⟩
  have hrl : r.length ≤ 1048576 := by have := HSu.out; rw [HU.out, bs_size] at this; exact this
  have HSr : Hid (rg.size ≤ 1048576) := Lib.hid (by rw [hrg]; exact (cutS 62 r hrl).1)
  have HSp : Hid (pl.size ≤ 1048576) := Lib.hid (by rw [hpl]; exact (cutS 62 r hrl).2)
  have HCs := Lib.hid cutS
  clear hrg hpl cutS hrl
  by_cases hz : k = 0
  · subst hz
    have hx : x = 43 := (u8_eq HXB.out).2 (by have := HK.out; unfold KindIs at this; have h43 : (43 : UInt8).toNat = 43 := rfl; omega)
    have HOne : Hid (insOne s.data.toList ↔ NumOk rg.data.toList ∧ NumOk pl.data.toList) := Lib.hid (by rw [HXR.out, hx, HRg.out, HPl.out, bs_list, bs_list, inc_one]; exact pr_cut 62 r (by decide) (by decide))
    have HVal : Hid (insOne s.data.toList → insV s.data.toList = ⟨0, valL rg.data.toList, valL pl.data.toList, 0⟩) := Lib.hid (fun h => by
      rw [HXR.out, hx, inc_one] at h
      rw [HXR.out, hx, inc_val, HRg.out, HPl.out, bs_list, bs_list, (pr_val 62 r h).1, (pr_val 62 r h).2])
    clear hx hk0 d1
    by_cases hp0 : NumOk rg.data.toList
    rotate_left
    · have HP0 := Lib.hid hp0
      have HF : Hid (¬ insOne s.data.toList) := Lib.hid (fun h => hp0 (HOne.out.1 h).1)
      clear hp0
      go_enter Tryd.func45, Tryd.ntmps45
      go_wp2_with fail
      rw [HW0.out]
      refine (implGiveY _).mono ?_
      rintro e w1 ⟨rfl, rfl⟩
      go_wp2_with fail
      refine (libKind c0 0 _ HC8.out HK.out).mono ?_
      rintro e w2 ⟨rfl, hw2⟩
      rw [hw2]
      clear hw2 w2
      go_wp2_with fail
      refine (implGiveY _).mono ?_
      rintro e w2 ⟨rfl, rfl⟩
      go_wp2_with fail
      refine HCut.out.mono ?_
      rintro e w3 ⟨rfl, bb⟩
      rw [HU.out, bs_list, ← HRg.out, ← HPl.out, ← HU.out]
      have HX3 := Lib.hid bb
      clear bb
      go_wp2_with fail
      refine (implNumN rg _ HSr.out (HTab.out.below HX3.out (Nat.le_refl _)) (HErr.out.below HX3.out (Nat.le_refl _)) HP0.out).mono ?_
      rintro e w4 ⟨rfl, bb⟩
      have HX4 := Lib.hid (HX3.out.trans (bb.mono HX3.out.size))
      clear bb
      go_wp2
      exact ⟨rfl, .inr ⟨HF.out, rfl⟩, HB0.out.trans (HX4.out.mono HB0.out.size)⟩
    have HP0 := Lib.hid hp0
    obtain ⟨v0, hv0⟩ : ∃ v, v = valL rg.data.toList := ⟨_, rfl⟩
    have HV0 := Lib.hid hv0
    clear hp0 hv0
    by_cases hp1 : NumOk pl.data.toList
    rotate_left
    · have HP1 := Lib.hid hp1
      have HF : Hid (¬ insOne s.data.toList) := Lib.hid (fun h => hp1 (HOne.out.1 h).2)
      clear hp1
      go_enter Tryd.func45, Tryd.ntmps45
      go_wp2_with fail
      rw [HW0.out]
      refine (implGiveY _).mono ?_
      rintro e w1 ⟨rfl, rfl⟩
      go_wp2_with fail
      refine (libKind c0 0 _ HC8.out HK.out).mono ?_
      rintro e w2 ⟨rfl, hw2⟩
      rw [hw2]
      clear hw2 w2
      go_wp2_with fail
      refine (implGiveY _).mono ?_
      rintro e w2 ⟨rfl, rfl⟩
      go_wp2_with fail
      refine HCut.out.mono ?_
      rintro e w3 ⟨rfl, bb⟩
      rw [HU.out, bs_list, ← HRg.out, ← HPl.out, ← HU.out]
      have HX3 := Lib.hid bb
      clear bb
      go_wp2_with fail
      refine (implNumY rg _ HSr.out (HTab.out.below HX3.out (Nat.le_refl _)) (HErr.out.below HX3.out (Nat.le_refl _)) HP0.out).mono ?_
      rintro e w4 ⟨rfl, bb⟩
      rw [← HV0.out]
      have HX4 := Lib.hid (HX3.out.trans (bb.mono HX3.out.size))
      clear bb
      go_wp2_with fail
      refine (implNumN pl _ HSp.out (HTab.out.below HX4.out (Nat.le_refl _)) (HErr.out.below HX4.out (Nat.le_refl _)) HP1.out).mono ?_
      rintro e w5 ⟨rfl, bb⟩
      have HX5 := Lib.hid (HX4.out.trans (bb.mono HX4.out.size))
      clear bb
      go_wp2
      exact ⟨rfl, .inr ⟨HF.out, rfl⟩, HB0.out.trans (HX5.out.mono HB0.out.size)⟩
    have HP1 := Lib.hid hp1
    obtain ⟨v1, hv1⟩ : ∃ v, v = valL pl.data.toList := ⟨_, rfl⟩
    have HV1 := Lib.hid hv1
    clear hp1 hv1
    go_enter Tryd.func45, Tryd.ntmps45
    go_wp2_with fail
    rw [HW0.out]
    refine (implGiveY _).mono ?_
    rintro e w1 ⟨rfl, rfl⟩
    go_wp2_with fail
    refine (libKind c0 0 _ HC8.out HK.out).mono ?_
    rintro e w2 ⟨rfl, hw2⟩
    rw [hw2]
    clear hw2 w2
    go_wp2_with fail
    refine (implGiveY _).mono ?_
    rintro e w2 ⟨rfl, rfl⟩
    go_wp2_with fail
    refine HCut.out.mono ?_
    rintro e w3 ⟨rfl, bb⟩
    rw [HU.out, bs_list, ← HRg.out, ← HPl.out, ← HU.out]
    have HX3 := Lib.hid bb
    clear bb
    go_wp2_with fail
    refine (implNumY rg _ HSr.out (HTab.out.below HX3.out (Nat.le_refl _)) (HErr.out.below HX3.out (Nat.le_refl _)) HP0.out).mono ?_
    rintro e w4 ⟨rfl, bb⟩
    rw [← HV0.out]
    have HX4 := Lib.hid (HX3.out.trans (bb.mono HX3.out.size))
    clear bb
    go_wp2_with fail
    refine (implNumY pl _ HSp.out (HTab.out.below HX4.out (Nat.le_refl _)) (HErr.out.below HX4.out (Nat.le_refl _)) HP1.out).mono ?_
    rintro e w5 ⟨rfl, bb⟩
    rw [← HV1.out]
    have HX5 := Lib.hid (HX4.out.trans (bb.mono HX4.out.size))
    clear bb
    have HOk : Hid (insOne s.data.toList) := Lib.hid (HOne.out.2 ⟨HP0.out, HP1.out⟩)
    have HVf : Hid (insV s.data.toList = ⟨0, v0, v1, 0⟩) := Lib.hid (by rw [HVal.out HOk.out, HV0.out, HV1.out])
    go_wp2_with fail
    refine (implInc v0 v1 _).mono ?_
    rintro e w9 ⟨rfl, bb⟩
    have HX9 := Lib.hid (HX5.out.trans (bb.mono HX5.out.size))
    have K9 := Lib.hid (K0.out.below HX9.out K0.out.lt)
    have HB9 := Lib.hid (HB0.out.trans (HX9.out.mono HB0.out.size))
    clear bb
    have r1 := K9.out.set 0 (.int .i64 0)
    have r2 := r1.set 1 (.int .i64 v0)
    have r3 := r2.set 2 (.int .i64 v1)
    have f1 := K9.out.cell 0 rfl
    have f2 := K9.out.frozen 0
    have f3 := r1.cell 1 rfl
    have f4 := r1.frozen 1
    have f5 := r2.cell 2 rfl
    have f6 := r2.frozen 2
    have f8 := r3.cell 3 rfl
    have f9 := r3.frozen 3
    have F7 := Lib.hid (r3.set 3 (.int .i64 0))
    clear r1 r2 r3
    go_wp2
    have f7 := F7.out
    obtain ⟨Wf, hWf⟩ : ∃ Wf, Wf = ((((w9.setCell ⟨w.heap.size, 0, none⟩ (.int .i64 0)).setCell ⟨w.heap.size, 1, none⟩ (.int .i64 v0)).setCell ⟨w.heap.size, 2, none⟩ (.int .i64 v1)).setCell ⟨w.heap.size, 3, none⟩ (.int .i64 0)) := ⟨_, rfl⟩
    have hB : Below w.heap.size w Wf := by rw [hWf]; exact below_set (below_set (below_set (below_set HB9.out (Nat.le_refl _) _ _) (Nat.le_refl _) _ _) (Nat.le_refl _) _ _) (Nat.le_refl _) _ _
    rw [← hWf] at f7 ⊢
    have z0 := f7.cell 0 rfl
    have z1 := f7.cell 1 rfl
    have z2 := f7.cell 2 rfl
    have z3 := f7.cell 3 rfl
    clear f1 f2 f3 f4 f5 f6 f8 f9 hWf
    refine bodyPost_ret (v := .agg #[.int .i64 0, .int .i64 v0, .int .i64 v1, .int .i64 0]) (by simp [results, Tryd.f45, go_sem, z0, z1, z2, z3]) rfl ?_
    exact ⟨.inl ⟨HOk.out, by rw [HVf.out]⟩, hB⟩
  have hk1 : k = 1 := by have := HK.out; unfold KindIs at this; omega
  subst hk1
  have hx : x = 45 := (u8_eq HXB.out).2 (by have := HK.out; unfold KindIs at this; have h45 : (45 : UInt8).toNat = 45 := rfl; omega)
  obtain ⟨th, hth⟩ : ∃ t, t = bs (Lib.cut pl.data.toList [58]).1 := ⟨_, rfl⟩
  obtain ⟨ot, hot⟩ : ∃ t, t = bs (Lib.cut pl.data.toList [58]).2.1 := ⟨_, rfl⟩
  have HTh := Lib.hid hth
  have HOt := Lib.hid hot
  have hpl8 : pl.data.toList.length ≤ 1048576 := by have h2 := Lib.size_eq pl; have := HSp.out; omega
  have HSt : Hid (th.size ≤ 1048576) := Lib.hid (by rw [hth]; exact (HCs.out 58 _ hpl8).1)
  have HSo : Hid (ot.size ≤ 1048576) := Lib.hid (by rw [hot]; exact (HCs.out 58 _ hpl8).2)
  have HOne : Hid (insOne s.data.toList ↔ NumOk rg.data.toList ∧ NumOk th.data.toList ∧ NumOk ot.data.toList) := Lib.hid (by rw [HXR.out, hx, HTh.out, HOt.out, HRg.out, HPl.out, bs_list, bs_list, bs_list, bs_list]; exact insd_cut r)
  have HVal : Hid (insOne s.data.toList → insV s.data.toList = ⟨1, valL rg.data.toList, valL th.data.toList, valL ot.data.toList⟩) := Lib.hid (fun h => by
    rw [HXR.out, hx] at h
    rw [HXR.out, hx, insd_val r h, HTh.out, HOt.out, HRg.out, HPl.out, bs_list, bs_list, bs_list, bs_list])
  clear hx hk0 hz d1 hth hot hpl8
  by_cases hp0 : NumOk rg.data.toList
  rotate_left
  · have HP0 := Lib.hid hp0
    have HF : Hid (¬ insOne s.data.toList) := Lib.hid (fun h => hp0 (HOne.out.1 h).1)
    clear hp0
    go_enter Tryd.func45, Tryd.ntmps45
    go_wp2_with fail
    rw [HW0.out]
    refine (implGiveY _).mono ?_
    rintro e w1 ⟨rfl, rfl⟩
    go_wp2_with fail
    refine (libKind c0 1 _ HC8.out HK.out).mono ?_
    rintro e w2 ⟨rfl, hw2⟩
    rw [hw2]
    clear hw2 w2
    go_wp2_with fail
    refine (implGiveY _).mono ?_
    rintro e w2 ⟨rfl, rfl⟩
    go_wp2_with fail
    refine HCut.out.mono ?_
    rintro e w3 ⟨rfl, bb⟩
    rw [HU.out, bs_list, ← HRg.out, ← HPl.out, ← HU.out]
    have HX3 := Lib.hid bb
    clear bb
    go_wp2_with fail
    refine (implCut pl 58 ⟨#[58]⟩ _ HSp.out rfl (HMax.out.below HX3.out (Nat.le_refl _))).mono ?_
    rintro e w4 ⟨rfl, bb⟩
    rw [← HTh.out, ← HOt.out]
    have HX4 := Lib.hid (HX3.out.trans (bb.mono HX3.out.size))
    clear bb
    go_wp2_with fail
    refine (implNumN rg _ HSr.out (HTab.out.below HX4.out (Nat.le_refl _)) (HErr.out.below HX4.out (Nat.le_refl _)) HP0.out).mono ?_
    rintro e w5 ⟨rfl, bb⟩
    have HX5 := Lib.hid (HX4.out.trans (bb.mono HX4.out.size))
    clear bb
    go_wp2
    exact ⟨rfl, .inr ⟨HF.out, rfl⟩, HB0.out.trans (HX5.out.mono HB0.out.size)⟩
  have HP0 := Lib.hid hp0
  obtain ⟨v0, hv0⟩ : ∃ v, v = valL rg.data.toList := ⟨_, rfl⟩
  have HV0 := Lib.hid hv0
  clear hp0 hv0
  by_cases hp1 : NumOk th.data.toList
  rotate_left
  · have HP1 := Lib.hid hp1
    have HF : Hid (¬ insOne s.data.toList) := Lib.hid (fun h => hp1 (HOne.out.1 h).2.1)
    clear hp1
    go_enter Tryd.func45, Tryd.ntmps45
    go_wp2_with fail
    rw [HW0.out]
    refine (implGiveY _).mono ?_
    rintro e w1 ⟨rfl, rfl⟩
    go_wp2_with fail
    refine (libKind c0 1 _ HC8.out HK.out).mono ?_
    rintro e w2 ⟨rfl, hw2⟩
    rw [hw2]
    clear hw2 w2
    go_wp2_with fail
    refine (implGiveY _).mono ?_
    rintro e w2 ⟨rfl, rfl⟩
    go_wp2_with fail
    refine HCut.out.mono ?_
    rintro e w3 ⟨rfl, bb⟩
    rw [HU.out, bs_list, ← HRg.out, ← HPl.out, ← HU.out]
    have HX3 := Lib.hid bb
    clear bb
    go_wp2_with fail
    refine (implCut pl 58 ⟨#[58]⟩ _ HSp.out rfl (HMax.out.below HX3.out (Nat.le_refl _))).mono ?_
    rintro e w4 ⟨rfl, bb⟩
    rw [← HTh.out, ← HOt.out]
    have HX4 := Lib.hid (HX3.out.trans (bb.mono HX3.out.size))
    clear bb
    go_wp2_with fail
    refine (implNumY rg _ HSr.out (HTab.out.below HX4.out (Nat.le_refl _)) (HErr.out.below HX4.out (Nat.le_refl _)) HP0.out).mono ?_
    rintro e w5 ⟨rfl, bb⟩
    rw [← HV0.out]
    have HX5 := Lib.hid (HX4.out.trans (bb.mono HX4.out.size))
    clear bb
    go_wp2_with fail
    refine (implNumN th _ HSt.out (HTab.out.below HX5.out (Nat.le_refl _)) (HErr.out.below HX5.out (Nat.le_refl _)) HP1.out).mono ?_
    rintro e w6 ⟨rfl, bb⟩
    have HX6 := Lib.hid (HX5.out.trans (bb.mono HX5.out.size))
    clear bb
    go_wp2
    exact ⟨rfl, .inr ⟨HF.out, rfl⟩, HB0.out.trans (HX6.out.mono HB0.out.size)⟩
  have HP1 := Lib.hid hp1
  obtain ⟨v1, hv1⟩ : ∃ v, v = valL th.data.toList := ⟨_, rfl⟩
  have HV1 := Lib.hid hv1
  clear hp1 hv1
  by_cases hp2 : NumOk ot.data.toList
  rotate_left
  · have HP2 := Lib.hid hp2
    have HF : Hid (¬ insOne s.data.toList) := Lib.hid (fun h => hp2 (HOne.out.1 h).2.2)
    clear hp2
    go_enter Tryd.func45, Tryd.ntmps45
    go_wp2_with fail
    rw [HW0.out]
    refine (implGiveY _).mono ?_
    rintro e w1 ⟨rfl, rfl⟩
    go_wp2_with fail
    refine (libKind c0 1 _ HC8.out HK.out).mono ?_
    rintro e w2 ⟨rfl, hw2⟩
    rw [hw2]
    clear hw2 w2
    go_wp2_with fail
    refine (implGiveY _).mono ?_
    rintro e w2 ⟨rfl, rfl⟩
    go_wp2_with fail
    refine HCut.out.mono ?_
    rintro e w3 ⟨rfl, bb⟩
    rw [HU.out, bs_list, ← HRg.out, ← HPl.out, ← HU.out]
    have HX3 := Lib.hid bb
    clear bb
    go_wp2_with fail
    refine (implCut pl 58 ⟨#[58]⟩ _ HSp.out rfl (HMax.out.below HX3.out (Nat.le_refl _))).mono ?_
    rintro e w4 ⟨rfl, bb⟩
    rw [← HTh.out, ← HOt.out]
    have HX4 := Lib.hid (HX3.out.trans (bb.mono HX3.out.size))
    clear bb
    go_wp2_with fail
    refine (implNumY rg _ HSr.out (HTab.out.below HX4.out (Nat.le_refl _)) (HErr.out.below HX4.out (Nat.le_refl _)) HP0.out).mono ?_
    rintro e w5 ⟨rfl, bb⟩
    rw [← HV0.out]
    have HX5 := Lib.hid (HX4.out.trans (bb.mono HX4.out.size))
    clear bb
    go_wp2_with fail
    refine (implNumY th _ HSt.out (HTab.out.below HX5.out (Nat.le_refl _)) (HErr.out.below HX5.out (Nat.le_refl _)) HP1.out).mono ?_
    rintro e w6 ⟨rfl, bb⟩
    rw [← HV1.out]
    have HX6 := Lib.hid (HX5.out.trans (bb.mono HX5.out.size))
    clear bb
    go_wp2_with fail
    refine (implNumN ot _ HSo.out (HTab.out.below HX6.out (Nat.le_refl _)) (HErr.out.below HX6.out (Nat.le_refl _)) HP2.out).mono ?_
    rintro e w7 ⟨rfl, bb⟩
    have HX7 := Lib.hid (HX6.out.trans (bb.mono HX6.out.size))
    clear bb
    go_wp2
    exact ⟨rfl, .inr ⟨HF.out, rfl⟩, HB0.out.trans (HX7.out.mono HB0.out.size)⟩
  have HP2 := Lib.hid hp2
  obtain ⟨v2, hv2⟩ : ∃ v, v = valL ot.data.toList := ⟨_, rfl⟩
  have HV2 := Lib.hid hv2
  clear hp2 hv2
  go_enter Tryd.func45, Tryd.ntmps45
  go_wp2_with fail
  rw [HW0.out]
  refine (implGiveY _).mono ?_
  rintro e w1 ⟨rfl, rfl⟩
  go_wp2_with fail
  refine (libKind c0 1 _ HC8.out HK.out).mono ?_
  rintro e w2 ⟨rfl, hw2⟩
  rw [hw2]
  clear hw2 w2
  go_wp2_with fail
  refine (implGiveY _).mono ?_
  rintro e w2 ⟨rfl, rfl⟩
  go_wp2_with fail
  refine HCut.out.mono ?_
  rintro e w3 ⟨rfl, bb⟩
  rw [HU.out, bs_list, ← HRg.out, ← HPl.out, ← HU.out]
  have HX3 := Lib.hid bb
  clear bb
  go_wp2_with fail
  refine (implCut pl 58 ⟨#[58]⟩ _ HSp.out rfl (HMax.out.below HX3.out (Nat.le_refl _))).mono ?_
  rintro e w4 ⟨rfl, bb⟩
  rw [← HTh.out, ← HOt.out]
  have HX4 := Lib.hid (HX3.out.trans (bb.mono HX3.out.size))
  clear bb
  go_wp2_with fail
  refine (implNumY rg _ HSr.out (HTab.out.below HX4.out (Nat.le_refl _)) (HErr.out.below HX4.out (Nat.le_refl _)) HP0.out).mono ?_
  rintro e w5 ⟨rfl, bb⟩
  rw [← HV0.out]
  have HX5 := Lib.hid (HX4.out.trans (bb.mono HX4.out.size))
  clear bb
  go_wp2_with fail
  refine (implNumY th _ HSt.out (HTab.out.below HX5.out (Nat.le_refl _)) (HErr.out.below HX5.out (Nat.le_refl _)) HP1.out).mono ?_
  rintro e w6 ⟨rfl, bb⟩
  rw [← HV1.out]
  have HX6 := Lib.hid (HX5.out.trans (bb.mono HX5.out.size))
  clear bb
  go_wp2_with fail
  refine (implNumY ot _ HSo.out (HTab.out.below HX6.out (Nat.le_refl _)) (HErr.out.below HX6.out (Nat.le_refl _)) HP2.out).mono ?_
  rintro e w7 ⟨rfl, bb⟩
  rw [← HV2.out]
  have HX7 := Lib.hid (HX6.out.trans (bb.mono HX6.out.size))
  clear bb
  have HOk : Hid (insOne s.data.toList) := Lib.hid (HOne.out.2 ⟨HP0.out, HP1.out, HP2.out⟩)
  have HVf : Hid (insV s.data.toList = ⟨1, v0, v1, v2⟩) := Lib.hid (by rw [HVal.out HOk.out, HV0.out, HV1.out, HV2.out])
  go_wp2_with fail
  refine (implDec7 v0 v1 v2 _).mono ?_
  rintro e w9 ⟨rfl, bb⟩
  have HX9 := Lib.hid (HX7.out.trans (bb.mono HX7.out.size))
  have K9 := Lib.hid (K0.out.below HX9.out K0.out.lt)
  have HB9 := Lib.hid (HB0.out.trans (HX9.out.mono HB0.out.size))
  clear bb
  have r1 := K9.out.set 0 (.int .i64 1)
  have r2 := r1.set 1 (.int .i64 v0)
  have r3 := r2.set 2 (.int .i64 v1)
  have f1 := K9.out.cell 0 rfl
  have f2 := K9.out.frozen 0
  have f3 := r1.cell 1 rfl
  have f4 := r1.frozen 1
  have f5 := r2.cell 2 rfl
  have f6 := r2.frozen 2
  have f8 := r3.cell 3 rfl
  have f9 := r3.frozen 3
  have F7 := Lib.hid (r3.set 3 (.int .i64 v2))
  clear r1 r2 r3
  go_wp2
  have f7 := F7.out
  obtain ⟨Wf, hWf⟩ : ∃ Wf, Wf = ((((w9.setCell ⟨w.heap.size, 0, none⟩ (.int .i64 1)).setCell ⟨w.heap.size, 1, none⟩ (.int .i64 v0)).setCell ⟨w.heap.size, 2, none⟩ (.int .i64 v1)).setCell ⟨w.heap.size, 3, none⟩ (.int .i64 v2)) := ⟨_, rfl⟩
  have hB : Below w.heap.size w Wf := by rw [hWf]; exact below_set (below_set (below_set (below_set HB9.out (Nat.le_refl _) _ _) (Nat.le_refl _) _ _) (Nat.le_refl _) _ _) (Nat.le_refl _) _ _
  rw [← hWf] at f7 ⊢
  have z0 := f7.cell 0 rfl
  have z1 := f7.cell 1 rfl
  have z2 := f7.cell 2 rfl
  have z3 := f7.cell 3 rfl
  clear f1 f2 f3 f4 f5 f6 f8 f9 hWf
  refine bodyPost_ret (v := .agg #[.int .i64 1, .int .i64 v0, .int .i64 v1, .int .i64 v2]) (by simp [results, Tryd.f45, go_sem, z0, z1, z2, z3]) rfl ?_
  exact ⟨.inl ⟨HOk.out, by rw [HVf.out]⟩, hB⟩
def MapIPost (ts : List (List UInt8)) (w : World) (e : Ending) (w' : World) : Prop :=
  ((AllIns ts ∧ ∃ u, e = .returned u ∧ OwIns w' w.heap.size w'.heap.size u (ts.map insV)) ∨ (¬ AllIns ts ∧ e = .panicked [gaveUp 8])) ∧ Below w.heap.size w w'
theorem all_takeJ {ts : List (List UInt8)} {k : Nat} (h : ∀ j, j < k → insOne (ts.getD j [])) (hk : insOne (ts.getD k [])) : ∀ j, j < k + 1 → insOne (ts.getD j []) := fun j hj => by
  by_cases he : j = k
  · subst he; exact hk
  · exact h j (by omega)
set_option maxHeartbeats 4000000 in
theorem mapInstr (v : Value) (ts : List (List UInt8)) (w : World) (hr : RdS w v ts) (hp : ∀ j, j < ts.length → (ts.getD j []).length ≤ 1048576) (hl : ts.length ≤ 1048577) (ht : TabV w) (he : ErrV w) (hm : MaxV w) :
    Calls Tryd.prog 43 #[v, .func (Fn.func 45) #[] #[]] w (MapIPost ts w) := by
  have HTab := Lib.hid ht
  have HErr := Lib.hid he
  have HMax := Lib.hid hm
  have HPz := Lib.hid hp
  have HLn := Lib.hid hl
  obtain ⟨b, c, rfl, hcap, hbl, hcell⟩ := hr
  have HC := Lib.hid hcell
  clear ht he hm hp hl hcell
  go_enter Tryd.func43, Tryd.ntmps43
  go_wp2
  go_loopw [5, 10] (fun o i wr => ∃ (k : Nat), k ≤ ts.length ∧ i = .int .i64 (k : Int) ∧ (∀ j, j < k → insOne (ts.getD j [])) ∧ OwIns wr w.heap.size wr.heap.size o ((ts.take k).map insV) ∧ Below w.heap.size w wr) (fun _ i _ => ts.length - (intOf i).toNat)
  case atStart => exact ⟨0, Nat.zero_le _, rfl, fun j hj => by omega, OwIns.emptyUp (Nat.le_refl _), Below.refl _ _⟩
  case round =>
    obtain ⟨k, hk, rfl, hall, hown, hbel⟩ := hrel
    obtain ⟨go, co, hso⟩ := hown.shape
    have HA := Lib.hid hall
    have HW := Lib.hid hbel
    have HO := Lib.hid hown
    by_cases hlt : k < ts.length
    · obtain ⟨n, hn⟩ : ∃ n, n = ((ts.take k).map insV).length := ⟨_, rfl⟩
      rw [← hn] at hso
      subst hso
      obtain ⟨t, ht⟩ : ∃ t, t = ts.getD k [] := ⟨_, rfl⟩
      have hc : wr.cell? ⟨b, k, none⟩ = some (.string (bs t)) := by rw [ht]; exact (hbel.cell hbl).trans (HC.out k hlt)
      have i0' : (0 : Int) ≤ (k : Int) := by omega
      have i1 : (k : Int) < (ts.length : Int) := by omega
      have HT := Lib.hid ht
      have HSz : Hid ((bs t).size ≤ 1048576) := Lib.hid (by rw [bs_size, ht]; exact HPz.out k hlt)
      have hln8 := HLn.out
      clear hbel ht hall hown hn
      go_wp2_with fail
      refine (implInstr (bs t) _ HSz.out (HTab.out.below HW.out (Nat.le_refl _)) (HErr.out.below HW.out (Nat.le_refl _)) (HMax.out.below HW.out (Nat.le_refl _))).mono ?_
      rintro e w2 ⟨⟨hone, rfl⟩ | ⟨hno, rfl⟩, hb2⟩
      rotate_left
      · have HNo : Hid (¬ AllIns ts) := Lib.hid (fun h => hno (by rw [bs_list, HT.out]; exact h k hlt))
        have HW2 := Lib.hid (HW.out.trans (hb2.mono HW.out.size))
        clear hb2 hno
        go_wp2
        exact ⟨rfl, .inr ⟨HNo.out, rfl⟩, HW2.out⟩
      rw [bs_list] at hone ⊢
      obtain ⟨r, hr⟩ : ∃ r, r = insV t := ⟨_, rfl⟩
      rw [← hr]
      have HRt := Lib.hid hr
      have HOne := Lib.hid hone
      obtain ⟨kd, rg, th, el⟩ := r
      dsimp only
      have HFit : Hid ((⟨kd, rg, th, el⟩ : Ins).fit) := Lib.hid (by rw [HRt.out]; exact ins_fit HOne.out)
      have HSn : Hid ((ts.take (k + 1)).map insV = (ts.take k).map insV ++ [⟨kd, rg, th, el⟩]) := Lib.hid (by rw [map_takeS insV ts k hlt, ← HT.out, HRt.out])
      have HAn : Hid (∀ j, j < k + 1 → insOne (ts.getD j [])) := Lib.hid (all_takeJ HA.out (by rw [← HT.out]; exact HOne.out))
      have HO2 := Lib.hid (HO.out.below hb2 (Nat.le_refl _)).up
      have HW2 := Lib.hid (HW.out.trans (hb2.mono HW.out.size))
      clear hb2 hr hone
      obtain ⟨Z, hZ⟩ : ∃ Z, Z = (ts.take k).map insV := ⟨_, rfl⟩
      have hor := HO2.out
      rw [← hZ] at hor
      have HOR := Lib.hid hor
      have HZ := Lib.hid hZ
      have hlz : Z.length ≤ 1048577 := by rw [hZ]; simp; omega
      have hb6 : ∀ ob : Obj, Hid (Below w2.heap.size w2 (w2.alloc ob)) := fun ob => Lib.hid ((Below.refl _ _).alloc (Nat.le_refl _) ob)
      clear hor hZ
      go_wp2_with (at_builtin; refine wpList_append_Ins rfl _ _ rfl w.heap.size _ _ Z [⟨kd, rg, th, el⟩] rfl (HOR.out.below (hb6 _).out (Nat.le_refl _)).row rfl (rdIns_one (Cels.new _ _ _) HFit.out) (by simp; omega) (Nat.le_trans HOR.out.base (hb6 _).out.size) ?_)
      intro v5 w5 hown6 hgrow6
      have HX := Lib.hid (HOR.out.snoc HFit.out (by omega) (by simpa [csIns_append, csIns_cons, Ins.cs] using hown6) hgrow6)
      have HB6 := Lib.hid (HW2.out.trans (HX.out.2.mono (Nat.le_refl _)))
      clear hown6 hgrow6
      go_wp2
      go_roundw
      case rel => exact ⟨k + 1, by omega, by go_num, HAn.out, by rw [HSn.out, ← HZ.out]; exact HX.out.1, HB6.out⟩
      case measure => simp [intOf]; omega
    · obtain rfl : k = ts.length := by omega
      have hnlt : ¬ ((ts.length : Int) < (ts.length : Int)) := by omega
      have ho5 := HO.out
      rw [List.take_length] at ho5
      have HO5 := Lib.hid ho5
      clear hlt hbel hown hall hso ho5
      go_wp2
      go_ret
      exact ⟨.inl ⟨HA.out, _, rfl, HO5.out⟩, HW.out⟩
def ClIPost (ts : List (List UInt8)) (w : World) (e : Ending) (w' : World) : Prop := MapIPost ts w e w'
theorem clRp (sb : Nat) (s : ByteArray) (w : World) (hc : Cels w sb 9 [.string s]) (hs : s.size ≤ 1048576) (ht : TabV w) (he : ErrV w) (hm : MaxV w) :
    Calls Tryd.prog 42 #[.pointer (some ⟨sb, 0, none⟩)] w (MapIPost (pcs 59 s.data.toList) w) := by
  have k0 := hc.cell 0 rfl
  have HSm := Lib.hid (pcs_small 59 s hs)
  have HSp := Lib.hid (implSplit s 59 ⟨#[59]⟩ w hs rfl hm)
  have HTab := Lib.hid ht
  have HErr := Lib.hid he
  have HMax := Lib.hid hm
  clear hc hs ht he hm
  go_enter Tryd.func42, Tryd.ntmps42
  go_wp2_with fail
  refine HSp.out.mono ?_
  rintro e w1 ⟨u, rfl, hr, hb1⟩
  have HR := Lib.hid hr
  have HB1 := Lib.hid hb1
  obtain ⟨b, c, rfl, _, _, _⟩ := hr
  clear hb1
  go_wp2_with fail
  refine (mapInstr _ _ _ HR.out HSm.out.1 HSm.out.2 (HTab.out.below HB1.out (Nat.le_refl _)) (HErr.out.below HB1.out (Nat.le_refl _)) (HMax.out.below HB1.out (Nat.le_refl _))).mono ?_
  rintro e w2 ⟨⟨hall, v, rfl, ho⟩ | ⟨hno, rfl⟩, hb2⟩
  · have HO := Lib.hid (ho.mono HB1.out.size (Nat.le_refl _) (Nat.le_refl _))
    have HB2 := Lib.hid (HB1.out.trans (hb2.mono HB1.out.size))
    have HA := Lib.hid hall
    clear ho hb2 hall
    go_wp2
    go_ret
    exact ⟨.inl ⟨HA.out, _, rfl, HO.out⟩, HB2.out⟩
  · have HB2 := Lib.hid (HB1.out.trans (hb2.mono HB1.out.size))
    have HA := Lib.hid hno
    clear hb2 hno
    go_wp2
    exact ⟨rfl, .inr ⟨HA.out, rfl⟩, HB2.out⟩
set_option maxRecDepth 100000 in
set_option maxHeartbeats 4000000 in
theorem implReadPg (s : ByteArray) (w : World) (hs : s.size ≤ 1048576) (ht : TabV w) (he : ErrV w) (hm : MaxV w) :
    Calls Tryd.prog 8 #[.string s] w fun e w' => ∃ u, e = .returned (.tuple #[u, .bool (rpB s.data.toList)]) ∧ OwIns w' w.heap.size w'.heap.size u (rpV s.data.toList) ∧ Below w.heap.size w w' := by
  have hmf : ∀ (fn : Fn) (first cap : Array Value) (w : World), (Instr.makeFunc fn first cap).run Tryd.prog w = .ok (.func fn first cap) w := fun _ _ _ _ => rfl
  obtain ⟨l, hl⟩ : ∃ l, l = s.data.toList := ⟨_, rfl⟩
  have HL := Lib.hid hl
  obtain ⟨W0, hW0⟩ : ∃ W, W = w.alloc (Obj.cells #[.string s] 9) := ⟨_, rfl⟩
  have HB0 : Hid (Below w.heap.size w W0) := Lib.hid (by rw [hW0]; exact (Below.refl _ _).alloc (Nat.le_refl _) _)
  have KS : Hid (Cels W0 w.heap.size 9 [.string s]) := Lib.hid (by rw [hW0]; exact Cels.new _ _ _)
  have HTab := Lib.hid (ht.below HB0.out (Nat.le_refl _))
  have HErr := Lib.hid (he.below HB0.out (Nat.le_refl _))
  have HMax := Lib.hid (hm.below HB0.out (Nat.le_refl _))
  have HW0 := Lib.hid hW0.symm
  have HS := Lib.hid hs
  have HUp : Hid (∀ W, Below (W0.heap.size + 1) (W0.alloc (.cells #[.nilIface] 69)) W → Below W0.heap.size W0 W) := Lib.hid (fun W hW => ((Below.refl W0.heap.size W0).alloc (Nat.le_refl _) _).trans (hW.mono (Nat.le_succ _)))
  rw [← hl]
  by_cases hd : s.toList = [46]
  · have HF := Lib.hid (rp_dot (l := l) (by rw [hl, ← ByteArray.toList_eq s]; exact hd))
    have e1 : (s.toList == [46]) = true := by simp [hd]
    have k0 := KS.out.cell 0 rfl
    clear hd hl hW0 ht he hm hs
    go_enter Tryd.func8, Tryd.ntmps8
    go_wp2_with fail
    go_ret2
    exact ⟨_, by rw [HF.out.1] <;> rfl, by rw [HF.out.2, HW0.out]; exact OwIns.emptyUp HB0.out.size, by rw [HW0.out]; exact HB0.out⟩
  have e1 : (s.toList == [46]) = false := by simpa using hd
  have HDs : Hid (l ≠ [46]) := Lib.hid (by rw [hl, ← ByteArray.toList_eq s]; exact hd)
  clear ht he hm hs hl hW0 hd
  by_cases hall : AllIns (pcs 59 l)
  rotate_left
  · have HF := Lib.hid (rp_bad HDs.out (fun h => hall h.1))
    have HC := Lib.hid (attNRdP (.pointer (some ⟨w.heap.size, 0, none⟩)) 8 W0 (fun W hW => (clRp w.heap.size s W (KS.out.below (HUp.out W hW) KS.out.lt) HS.out (HTab.out.below (HUp.out W hW) (Nat.le_refl _)) (HErr.out.below (HUp.out W hW) (Nat.le_refl _)) (HMax.out.below (HUp.out W hW) (Nat.le_refl _)) ).mono (fun e W' h => by
      obtain ⟨⟨ha, _⟩ | ⟨_, he⟩, hb⟩ := h
      · rw [← HL.out] at ha; exact absurd ha hall
      · exact ⟨he, hb.mono (by have := hW.size; simp at this; omega)⟩)))
    clear hall
    go_enter Tryd.func8, Tryd.ntmps8
    go_wp2_with fail
    rw [HW0.out]
    refine HC.out.mono ?_
    rintro e w1 ⟨rfl, hb1⟩
    have HB1 := Lib.hid (HB0.out.trans (hb1.mono HB0.out.size))
    clear hb1
    go_wp2
    go_ret2
    exact ⟨_, by rw [HF.out.1] <;> rfl, by rw [HF.out.2]; exact OwIns.emptyUp HB1.out.size, HB1.out⟩
  obtain ⟨ts, hts⟩ : ∃ ts, ts = pcs 59 l := ⟨_, rfl⟩
  have HTs := Lib.hid hts
  obtain ⟨zs, hzs⟩ : ∃ zs, zs = ts.map insV := ⟨_, rfl⟩
  have HZs := Lib.hid hzs
  have HC := Lib.hid (attYRdP (.pointer (some ⟨w.heap.size, 0, none⟩)) (fun v W => OwIns W (W0.heap.size + 1) W.heap.size v zs) W0 (fun W hW => (clRp w.heap.size s W (KS.out.below (HUp.out W hW) KS.out.lt) HS.out (HTab.out.below (HUp.out W hW) (Nat.le_refl _)) (HErr.out.below (HUp.out W hW) (Nat.le_refl _)) (HMax.out.below (HUp.out W hW) (Nat.le_refl _)) ).mono (fun e W' h => by
      obtain ⟨⟨_, v, he, ho⟩ | ⟨hn, _⟩, hb⟩ := h
      rotate_left
      · rw [← HL.out] at hn; exact absurd hall hn
      have hsz : W0.heap.size + 1 ≤ W.heap.size := by have := hW.size; simp at this; omega
      rw [← HL.out, ← hts, ← hzs] at ho
      exact ⟨v, he, ho.mono hsz (Nat.le_refl _) (Nat.le_refl _), hb.mono hsz⟩))
    (fun v W hg _ => by
      have := hg.apartCell (g := W0.heap.size) (Nat.lt_succ_self _) 0 .nilIface
      simpa using this))
  have HAll := Lib.hid hall
  clear hall hts hzs
  go_enter Tryd.func8, Tryd.ntmps8
  go_wp2_with fail
  rw [HW0.out]
  refine HC.out.mono ?_
  rintro e w1 ⟨v, rfl, ho, hb1⟩
  have HB1 := Lib.hid (HB0.out.trans (hb1.mono HB0.out.size))
  have HO := Lib.hid ho
  obtain ⟨av, cv, hsh⟩ := ho.shape
  obtain ⟨n, hn⟩ : ∃ n, n = zs.length := ⟨_, rfl⟩
  rw [← hn] at hsh
  subst hsh
  obtain ⟨q, hq⟩ : ∃ q, q = progB zs := ⟨_, rfl⟩
  have HQ := Lib.hid hq
  clear hb1 ho hn hq
  go_wp2_with fail
  refine (implValidProgram _ zs _ HO.out.rd).mono ?_
  rintro e w2 ⟨rfl, bb⟩
  rw [← HQ.out]
  have HB2 := Lib.hid (HB1.out.trans (bb.mono HB1.out.size))
  have HO2 := Lib.hid (HO.out.below bb (Nat.le_refl _)).up
  clear bb
  rcases eqOr q with hb | hb
  · subst hb
    have HF := Lib.hid (rp_bad HDs.out (fun h => by have := h.2; rw [← HTs.out, ← HZs.out, ← HQ.out] at this; cases this))
    go_wp2
    go_ret2
    exact ⟨_, by rw [HF.out.1] <;> rfl, by rw [HF.out.2]; exact OwIns.emptyUp HB2.out.size, HB2.out⟩
  subst hb
  have HF := Lib.hid (rp_good HDs.out ⟨HAll.out, by rw [← HTs.out, ← HZs.out]; exact HQ.out.symm⟩)
  go_wp2
  go_ret2
  exact ⟨_, by rw [HF.out.1] <;> rfl, by rw [HF.out.2, ← HTs.out, ← HZs.out]; exact HO2.out.mono (by have := HB0.out.size; omega) (Nat.le_refl _) (Nat.le_refl _), HB2.out⟩
end Go.Proofs.YtbigoljfanendaaDoor.Ints
