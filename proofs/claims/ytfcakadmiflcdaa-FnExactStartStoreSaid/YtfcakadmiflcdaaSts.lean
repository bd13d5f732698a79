/- StartStore: the model's padding of a list with zeros, in a store's own cell. -/
import Derived.Test.YtfcakadmiflcdaaStv
import Derived.Deep.LoopGhost
import Derived.Laws.CopyOwn
namespace Go.Proofs.Ytfcakadmiflcdaa.Ints
open Go.RowKit
set_option linter.unusedVariables false
set_option linter.unusedSimpArgs false
def pd (cs : List Int) (j : Nat) : List Int := cs ++ List.replicate j 0
theorem pd_succ (cs : List Int) (j : Nat) : pd cs j ++ [0] = pd cs (j + 1) := by simp [pd, List.replicate_succ', List.append_assoc]
theorem pd_len (cs : List Int) (j : Nat) : (pd cs j).length = cs.length + j := by simp [pd]
theorem put2 {w : World} {g : Nat} {t : TypeId} {a0 a1 : Value} (h : Cels w g t [a0, a1]) (b0 b1 : Value) :
    w.cell? ⟨g, 0, none⟩ = some a0 ∧ w.frozen? ⟨g, 0, none⟩ = false ∧ (w.setCell ⟨g, 0, none⟩ b0).cell? ⟨g, 1, none⟩ = some a1 ∧ (w.setCell ⟨g, 0, none⟩ b0).frozen? ⟨g, 1, none⟩ = false ∧
    Cels ((w.setCell ⟨g, 0, none⟩ b0).setCell ⟨g, 1, none⟩ b1) g t [b0, b1] := by
  have r2 := h.set 0 b0
  have r3 := r2.set 1 b1
  exact ⟨h.cell 0 rfl, h.frozen 0, r2.cell 1 rfl, r2.frozen 1, r3⟩
theorem put2g {w : World} {g : Nat} {t : TypeId} {cs : List Value} (h : Cels w g t cs) (b0 b1 : Value) :
    w.grownBy ((w.setCell ⟨g, 0, none⟩ b0).setCell ⟨g, 1, none⟩ b1) (some g) := grown_trans (put1g _ _ _ _) (put1g _ _ _ _)
set_option maxHeartbeats 4000000 in
theorem specPad (v : Value) (cs : List Int) (w : World) (hv : Rd w v cs) (hl : cs.length ≤ 24) :
    Calls Try.prog 64 #[v] w fun e w' => ∃ u, e = .returned (.agg #[.int .i64 0, u]) ∧ Ow w' w.heap.size w'.heap.size u (pd cs (24 - cs.length)) ∧ Below w.heap.size w w' := by
  obtain ⟨n0, hi, hz0, hz1, hz2⟩ := info_parts infoE
  have HV := Lib.hid hv
  have HLN := Lib.hid hl
  clear hv hl
  obtain ⟨W0, hW0⟩ : ∃ W, W = w.alloc (Obj.cells #[.int .i64 0, .slice none 0 0] 34) := ⟨_, rfl⟩
  have K0 : Hid (Cels W0 w.heap.size 34 [.int .i64 0, .slice none 0 0]) := Lib.hid (by rw [hW0]; exact Cels.new _ _ _)
  have HB0 : Hid (Below w.heap.size w W0) := Lib.hid (by rw [hW0]; exact (Below.refl _ _).alloc (Nat.le_refl _) _)
  have HW0 := Lib.hid hW0.symm
  clear hW0
  go_enter Try.func64, Try.ntmps64
  go_wp2_with fail
  rw [HW0.out]
  refine (specOwn _ cs _ (HV.out.below HB0.out (Nat.le_refl _))).mono ?_
  rintro e w1 ⟨u, rfl, ho, hb⟩
  obtain ⟨ga, gc, hu⟩ := ho.shape
  subst hu
  replace K0 := Lib.hid (K0.out.below hb K0.out.lt)
  have HS1 : Hid (w.heap.size < w1.heap.size) := Lib.hid K0.out.lt
  obtain ⟨W1, hW1⟩ : ∃ W, W = w1.alloc (Obj.cells #[.int .i64 0, .slice ga cs.length gc] 34) := ⟨_, rfl⟩
  have hb1 : Below w1.heap.size w1 W1 := by rw [hW1]; exact (Below.refl _ _).alloc (Nat.le_refl _) _
  have HB1 := Lib.hid ((HB0.out.trans (hb.mono HB0.out.size)).trans (hb1.mono (HB0.out.trans (hb.mono HB0.out.size)).size))
  have K1 : Hid (Cels W1 w1.heap.size 34 [.int .i64 0, .slice ga cs.length gc]) := Lib.hid (by rw [hW1]; exact Cels.new _ _ _)
  have HO : Hid (Ow W1 w.heap.size W1.heap.size (.slice ga cs.length gc) cs) := Lib.hid ((ho.below hb1 (Nat.le_refl _)).up.mono HB0.out.size (Nat.le_refl _) (Nat.le_refl _))
  replace K0 := Lib.hid (K0.out.below hb1 K0.out.lt)
  have HW1 := Lib.hid hW1.symm
  clear ho hb hb1 hW1
  go_wp2_with fail
  go_loopg [8] (24 - cs.length) (fun k s wr => ∃ (n : Nat) (a : Option Addr) (c : Nat), n + k = 24 ∧ cs.length ≤ n ∧ Cels wr w1.heap.size 34 [.int .i64 0, .slice a n c] ∧ Ow wr w.heap.size wr.heap.size (.slice a n c) (pd cs (n - cs.length)) ∧ Cels wr w.heap.size 34 [.int .i64 0, .slice none 0 0] ∧ Below w.heap.size w wr)
  case atStart =>
    first | rw [HW1.out] | skip
    exact ⟨cs.length, ga, gc, by have := HLN.out; omega, Nat.le_refl _, K1.out, by simpa [pd] using HO.out, K0.out, HB1.out⟩
  case round =>
    clear K1 HO K0 HB1 HW1 HW0 HB0
    obtain ⟨n, a, c, hk, hn, hc1, ho1, hc0, hbel⟩ := hrel
    have KT := Lib.hid hc1
    have KR := Lib.hid hc0
    have HO := Lib.hid ho1
    have HB := Lib.hid hbel
    have y0 := hc1.cell 0 rfl
    have y1 := hc1.cell 1 rfl
    cases gk with
    | zero =>
      obtain rfl : n = 24 := by omega
      have HF := Lib.hid (put2 hc0 (.int .i64 0) (.slice a 24 c))
      obtain ⟨f0, f1, f2, f3, f4⟩ := HF.out
      clear hk hn hc1 ho1 hc0 hbel
      go_wp2
      obtain ⟨W, hW⟩ : ∃ W, W = (wr.setCell ⟨w.heap.size, 0, none⟩ (.int .i64 0)).setCell ⟨w.heap.size, 1, none⟩ (.slice a 24 c) := ⟨_, rfl⟩
      have hB : Below w.heap.size w W ∧ Ow W w.heap.size W.heap.size (.slice a 24 c) (pd cs (24 - cs.length)) := by
        rw [hW]
        exact ⟨below_set (below_set HB.out (Nat.le_refl _) _ _) (Nat.le_refl _) _ _, (HO.out.grown (put2g KR.out _ _) (.inr (HO.out.nblk KR.out (by decide)))).up⟩
      rw [← hW] at f4 ⊢
      have z0 := f4.cell 0 rfl
      have z1 := f4.cell 1 rfl
      clear f0 f1 f2 f3 HF hW
      refine bodyPost_ret (v := .agg #[.int .i64 0, .slice a 24 c]) (by simp [results, Try.f64, go_sem, z0, z1]) rfl ⟨_, rfl, hB.2, hB.1⟩
    | succ gk =>
      have hlt : (n : Int) < 24 := by omega
      have hrow := ho1.row.alloc (Obj.cells #[Value.int IntKind.i64 0] 2)
      have hL : (pd cs (n - cs.length)).length = n := by rw [pd_len]; omega
      have HL := Lib.hid hL
      have HE : Hid (pd cs (n - cs.length) ++ [0] = pd cs (n + 1 - cs.length)) := Lib.hid (by rw [pd_succ, show n - cs.length + 1 = n + 1 - cs.length by omega])
      have HK := Lib.hid (And.intro hk hn)
      have hx : (pd cs (n - cs.length)).length < 100 := by omega
      clear hk hn hc1 ho1 hc0 hbel hL
      go_wp2_with (at_builtin; refine wpList_append_own _ rfl _ _ 29 rfl w.heap.size 2 n0 (.int .i64 0) 1 8 Try.underlying29 hi hz0 hz1 hz2 rfl (by decide) _ _ _ rfl hrow ⟨_, 0, none⟩ 1 1 [.int .i64 0] rfl rfl ?c1 ?c2 ?c3 ?c4 ?c5 ?_)
      case c1 => exact cellNew _ _ _
      case c2 => first | exact oneCell _ | rfl
      case c3 => unfold maxLen; omega
      case c4 => omega
      case c5 => have := HB.out.size; first | omega | (simp; omega)
      intro v' w3 hown1 hgrow _
      have kt := (KT.out.alloc (Obj.cells #[Value.int IntKind.i64 0] 2)).grown hgrow (HO.out.nblk KT.out (by decide))
      have kr := (KR.out.alloc (Obj.cells #[Value.int IntKind.i64 0] 2)).grown hgrow (HO.out.nblk KR.out (by decide))
      obtain ⟨ho3, hb3⟩ := HO.out.snoc (x := (0 : Int)) (by omega) (by omega) hown1 hgrow
      rw [HE.out] at ho3
      obtain ⟨a3, c3, hv3⟩ := ho3.shape
      have hL3 : (pd cs (n + 1 - cs.length)).length = n + 1 := by rw [pd_len]; have := HK.out; omega
      rw [hL3] at hv3
      subst hv3
      have HO3 := Lib.hid ho3
      have HB3 := Lib.hid (HB.out.trans hb3)
      have KT3 := Lib.hid kt
      have KR3 := Lib.hid kr
      have z1 := kt.cell 1 rfl
      have z2 := kt.frozen 1
      clear hown1 hgrow hrow ho3 hb3 kt kr hL3 y0 y1 hx
      go_wp2
      go_roundg gk
      case measure => omega
      case rel => exact ⟨n + 1, a3, c3, by have := HK.out; omega, by have := HK.out; omega, KT3.out.set 1 _, (HO3.out.grown (put1g _ _ _ _) (.inr (HO3.out.nblk KT3.out (by decide)))).up, KR3.out.other (p := ⟨w1.heap.size, 1, none⟩) (Nat.ne_of_lt HS1.out) _, below_set HB3.out (Nat.le_of_lt HS1.out) _ _⟩
open Classical in
noncomputable def ssC (rs : List Ins) (cs : List Int) : Int := if progB rs = false then 1 else if ¬ cs.length ≤ 24 then 2 else if digB 1000001 cs = false then 2 else 0
open Classical in
noncomputable def ssL (rs : List Ins) (cs : List Int) : List Int := if ssC rs cs = 0 then pd cs (24 - cs.length) else []
theorem ss_bad1 {rs : List Ins} {cs : List Int} (h : progB rs = false) : ssL rs cs = [] ∧ ssC rs cs = 1 := by
  have : ssC rs cs = 1 := by rw [ssC, if_pos h]
  exact ⟨by rw [ssL, this, if_neg (by decide)], this⟩
theorem ss_bad2 {rs : List Ins} {cs : List Int} (h : progB rs = true) (k : ¬ cs.length ≤ 24) : ssL rs cs = [] ∧ ssC rs cs = 2 := by
  have : ssC rs cs = 2 := by rw [ssC, if_neg (by rw [h]; decide), if_pos k]
  exact ⟨by rw [ssL, this, if_neg (by decide)], this⟩
theorem ss_bad3 {rs : List Ins} {cs : List Int} (h : progB rs = true) (k : cs.length ≤ 24) (d : digB 1000001 cs = false) : ssL rs cs = [] ∧ ssC rs cs = 2 := by
  have : ssC rs cs = 2 := by rw [ssC, if_neg (by rw [h]; decide), if_neg (by simpa using k), if_pos d]
  exact ⟨by rw [ssL, this, if_neg (by decide)], this⟩
theorem ss_good {rs : List Ins} {cs : List Int} (h : progB rs = true) (k : cs.length ≤ 24) (d : digB 1000001 cs = true) : ssL rs cs = pd cs (24 - cs.length) ∧ ssC rs cs = 0 := by
  have : ssC rs cs = 0 := by rw [ssC, if_neg (by rw [h]; decide), if_neg (by simpa using k), if_neg (by rw [d]; decide)]
  exact ⟨by rw [ssL, this, if_pos rfl], this⟩
theorem ssL_len (rs : List Ins) (cs : List Int) : (ssL rs cs).length ≤ 24 ∨ (ssL rs cs).length ≤ 16777216 := by
  by_cases h : ssC rs cs = 0
  · rw [ssL, if_pos h]
    by_cases h1 : cs.length ≤ 24
    · left; rw [pd_len]; omega
    · exfalso
      simp only [ssC, if_pos h1] at h
      split at h <;> cases h
  · left; rw [ssL, if_neg h]; exact Nat.zero_le _

set_option maxHeartbeats 4000000 in
set_option maxRecDepth 100000 in
theorem specStartStore (v : Value) (rs : List Ins) (u : Value) (cs : List Int) (w : World) (hv : RdIns w v rs) (hu : Rd w u cs) :
    Calls Try.prog 25 #[v, u] w fun e w' => ∃ r, e = .returned (.tuple #[.agg #[.int .i64 0, r], .int .i64 (ssC rs cs)]) ∧ Ow w' w.heap.size w'.heap.size r (ssL rs cs) ∧ Below w.heap.size w w' := by
  have HV := Lib.hid hv
  have HU := Lib.hid hu
  obtain ⟨hl, _, a, c, rfl, _, _⟩ := hv
  obtain ⟨_, _, a1, c1, rfl, _, _⟩ := hu
  obtain ⟨n0, hi, hz0, hz1, hz2⟩ := info_parts infoE
  clear hl
  obtain ⟨W0, hW0⟩ : ∃ W, W = w.alloc (Obj.cells #[.int .i64 0, .slice none 0 0] 34) := ⟨_, rfl⟩
  have HK : Hid (Cels W0 w.heap.size 34 [.int .i64 0, .slice none 0 0]) := Lib.hid (by rw [hW0]; exact Cels.new _ _ _)
  have HB0 : Hid (Below w.heap.size w W0) := Lib.hid (by rw [hW0]; exact (Below.refl _ _).alloc (Nat.le_refl _) _)
  have HW0 := Lib.hid hW0.symm
  clear hW0
  rcases eqOr (progB rs) with hp | hp
  · have e := Lib.hid (ss_bad1 (cs := cs) hp)
    go_enter Try.func25, Try.ntmps25
    go_wp2_with fail
    rw [HW0.out]
    refine (specPIs _ rs _ (HV.out.below HB0.out (Nat.le_refl _))).mono ?_
    rintro e1 w1 ⟨rfl, hb1⟩
    rw [hp]
    have HB1 := Lib.hid (HB0.out.trans (hb1.mono HB0.out.size))
    replace HK := Lib.hid (HK.out.below hb1 HK.out.lt)
    clear hb1
    have HF := Lib.hid (put2 HK.out (.int .i64 0) (.slice none 0 0))
    obtain ⟨f0, f1, f2, f3, f4⟩ := HF.out
    go_wp2
    obtain ⟨W, hW⟩ : ∃ W, W = (w1.setCell ⟨w.heap.size, 0, none⟩ (.int .i64 0)).setCell ⟨w.heap.size, 1, none⟩ (.slice none 0 0) := ⟨_, rfl⟩
    have hB : Below w.heap.size w W := by
      rw [hW]
      exact below_set (below_set HB1.out (Nat.le_refl _) _ _) (Nat.le_refl _) _ _
    rw [← hW] at f4 ⊢
    have z0 := f4.cell 0 rfl
    have z1 := f4.cell 1 rfl
    clear f0 f1 f2 f3 HF hW
    rw [e.out.1, e.out.2]
    refine bodyPost_ret (v := .tuple #[.agg #[.int .i64 0, .slice none 0 0], .int .i64 1]) (by simp [results, Try.f25, go_sem, z0, z1]) rfl ⟨_, rfl, Ow.emptyUp hB.size, hB⟩
  by_cases h1 : cs.length ≤ 24
  rotate_left
  · have e := Lib.hid (ss_bad2 hp h1)
    have hc : (24 : Int) < (cs.length : Int) := by omega
    clear h1
    go_enter Try.func25, Try.ntmps25
    go_wp2_with fail
    rw [HW0.out]
    refine (specPIs _ rs _ (HV.out.below HB0.out (Nat.le_refl _))).mono ?_
    rintro e1 w1 ⟨rfl, hb1⟩
    rw [hp]
    have HB1 := Lib.hid (HB0.out.trans (hb1.mono HB0.out.size))
    replace HK := Lib.hid (HK.out.below hb1 HK.out.lt)
    clear hb1
    have HF := Lib.hid (put2 HK.out (.int .i64 0) (.slice none 0 0))
    obtain ⟨f0, f1, f2, f3, f4⟩ := HF.out
    go_wp2
    obtain ⟨W, hW⟩ : ∃ W, W = (w1.setCell ⟨w.heap.size, 0, none⟩ (.int .i64 0)).setCell ⟨w.heap.size, 1, none⟩ (.slice none 0 0) := ⟨_, rfl⟩
    have hB : Below w.heap.size w W := by
      rw [hW]
      exact below_set (below_set HB1.out (Nat.le_refl _) _ _) (Nat.le_refl _) _ _
    rw [← hW] at f4 ⊢
    have z0 := f4.cell 0 rfl
    have z1 := f4.cell 1 rfl
    clear f0 f1 f2 f3 HF hW
    rw [e.out.1, e.out.2]
    refine bodyPost_ret (v := .tuple #[.agg #[.int .i64 0, .slice none 0 0], .int .i64 2]) (by simp [results, Try.f25, go_sem, z0, z1]) rfl ⟨_, rfl, Ow.emptyUp hB.size, hB⟩
  have hc : ¬ (24 : Int) < (cs.length : Int) := by omega
  have HL := Lib.hid h1
  rcases eqOr (digB 1000001 cs) with hd | hd
  · have e := Lib.hid (ss_bad3 hp h1 hd)
    clear h1
    go_enter Try.func25, Try.ntmps25
    go_wp2_with fail
    rw [HW0.out]
    refine (specPIs _ rs _ (HV.out.below HB0.out (Nat.le_refl _))).mono ?_
    rintro e1 w1 ⟨rfl, hb1⟩
    rw [hp]
    have HB1 := Lib.hid (HB0.out.trans (hb1.mono HB0.out.size))
    replace HK := Lib.hid (HK.out.below hb1 HK.out.lt)
    clear hb1
    go_wp2_with fail
    refine (specCounts _ cs _ (HU.out.below HB1.out (Nat.le_refl _))).mono ?_
    rintro e1 w2 ⟨rfl, hb1⟩
    rw [hd]
    have HB2 := Lib.hid (HB1.out.trans (hb1.mono HB1.out.size))
    replace HK := Lib.hid (HK.out.below hb1 HK.out.lt)
    clear hb1 hd hp
    have HF := Lib.hid (put2 HK.out (.int .i64 0) (.slice none 0 0))
    obtain ⟨f0, f1, f2, f3, f4⟩ := HF.out
    go_wp2
    obtain ⟨W, hW⟩ : ∃ W, W = (w2.setCell ⟨w.heap.size, 0, none⟩ (.int .i64 0)).setCell ⟨w.heap.size, 1, none⟩ (.slice none 0 0) := ⟨_, rfl⟩
    have hB : Below w.heap.size w W := by
      rw [hW]
      exact below_set (below_set HB2.out (Nat.le_refl _) _ _) (Nat.le_refl _) _ _
    rw [← hW] at f4 ⊢
    have z0 := f4.cell 0 rfl
    have z1 := f4.cell 1 rfl
    clear f0 f1 f2 f3 HF hW
    rw [e.out.1, e.out.2]
    refine bodyPost_ret (v := .tuple #[.agg #[.int .i64 0, .slice none 0 0], .int .i64 2]) (by simp [results, Try.f25, go_sem, z0, z1]) rfl ⟨_, rfl, Ow.emptyUp hB.size, hB⟩
  have e := Lib.hid (ss_good hp h1 hd)
  clear h1
  go_enter Try.func25, Try.ntmps25
  go_wp2_with fail
  rw [HW0.out]
  refine (specPIs _ rs _ (HV.out.below HB0.out (Nat.le_refl _))).mono ?_
  rintro e1 w1 ⟨rfl, hb1⟩
  rw [hp]
  have HB1 := Lib.hid (HB0.out.trans (hb1.mono HB0.out.size))
  replace HK := Lib.hid (HK.out.below hb1 HK.out.lt)
  clear hb1
  go_wp2_with fail
  refine (specCounts _ cs _ (HU.out.below HB1.out (Nat.le_refl _))).mono ?_
  rintro e1 w2 ⟨rfl, hb1⟩
  rw [hd]
  have HB2 := Lib.hid (HB1.out.trans (hb1.mono HB1.out.size))
  replace HK := Lib.hid (HK.out.below hb1 HK.out.lt)
  clear hb1 hd hp
  go_wp2_with fail
  refine (specPad _ cs _ (HU.out.below HB2.out (Nat.le_refl _)) HL.out).mono ?_
  rintro e1 w3 ⟨r, rfl, ho, hb1⟩
  obtain ⟨ga, gc, hr⟩ := ho.shape
  rw [pd_len, Nat.add_sub_cancel' HL.out] at hr
  subst hr
  have HO := Lib.hid (ho.mono HB2.out.size (Nat.le_refl _) (Nat.le_refl _))
  have HB3 := Lib.hid (HB2.out.trans (hb1.mono HB2.out.size))
  replace HK := Lib.hid (HK.out.below hb1 HK.out.lt)
  clear hb1 ho
  have HF := Lib.hid (put2 HK.out (.int .i64 0) (.slice ga 24 gc))
  obtain ⟨f0, f1, f2, f3, f4⟩ := HF.out
  go_wp2
  obtain ⟨W, hW⟩ : ∃ W, W = (w3.setCell ⟨w.heap.size, 0, none⟩ (.int .i64 0)).setCell ⟨w.heap.size, 1, none⟩ (.slice ga 24 gc) := ⟨_, rfl⟩
  have hB : Below w.heap.size w W := by
    rw [hW]
    exact below_set (below_set HB3.out (Nat.le_refl _) _ _) (Nat.le_refl _) _ _
  have hO : Ow W w.heap.size W.heap.size (.slice ga 24 gc) (pd cs (24 - cs.length)) := by
    rw [hW]
    exact (HO.out.grown (put2g HK.out _ _) (.inr (HO.out.nblk HK.out (by decide)))).up
  rw [← hW] at f4 ⊢
  have z0 := f4.cell 0 rfl
  have z1 := f4.cell 1 rfl
  clear f0 f1 f2 f3 HF hW
  rw [e.out.1, e.out.2]
  refine bodyPost_ret (v := .tuple #[.agg #[.int .i64 0, .slice ga 24 gc], .int .i64 0]) (by simp [results, Try.f25, go_sem, z0, z1]) rfl ⟨_, rfl, hO, hB⟩
theorem row_fullS {w : World} {B g n : Nat} {xs : List Value} (h : w.ownsRow B 2 1 (.slice (some ⟨g, 0, none⟩) n n) n xs) : w.heap[g]? = some (.cells xs.toArray 2 (0, 0)) := by
  rcases h.2 with ⟨h', _⟩ | ⟨g', cap', cur, h', hb, hg, hn, hm, hs, hk⟩
  · simp at h'
  · simp only [Value.slice.injEq, Option.some.injEq, Addr.mk.injEq, and_true, true_and] at h'
    obtain ⟨rfl, rfl⟩ := h'
    rw [hg, ← hk, List.take_of_length_le (by simp; omega)]
theorem padTake (cs : List Int) (N : Nat) (h : cs.length ≤ N) : List.take N (List.map (Value.int .i64) cs ++ List.drop cs.length (List.replicate N (Value.int .i64 0))) = List.map (Value.int .i64) cs ++ List.replicate (N - cs.length) (Value.int .i64 0) := by
  rw [List.drop_replicate, List.take_of_length_le (by simp; omega)]
theorem sizeE' : (Try.prog.info? 2).map (·.size) = some 1 := by kernel_rfl
set_option maxHeartbeats 4000000 in
set_option maxRecDepth 100000 in
theorem implStartStore (v : Value) (rs : List Ins) (u : Value) (cs : List Int) (w : World) (hv : RdIns w v rs) (hu : Rd w u cs) :
    Calls Try.prog 27 #[v, u] w fun e w' => ∃ r, e = .returned (.tuple #[.agg #[.int .i64 0, r], .int .i64 (ssC rs cs)]) ∧ Ow w' w.heap.size w'.heap.size r (ssL rs cs) ∧ Below w.heap.size w w' := by
  have HV := Lib.hid hv
  have HU := Lib.hid hu
  obtain ⟨hl, _, a, c, rfl, _, _⟩ := hv
  obtain ⟨_, _, a1, c1, rfl, _, _⟩ := hu
  obtain ⟨n0, hi, hz0, hz1, hz2⟩ := info_parts infoE
  clear hl
  obtain ⟨W0, hW0⟩ : ∃ W, W = w.alloc (Obj.cells #[.int .i64 0, .slice none 0 0] 34) := ⟨_, rfl⟩
  have HK : Hid (Cels W0 w.heap.size 34 [.int .i64 0, .slice none 0 0]) := Lib.hid (by rw [hW0]; exact Cels.new _ _ _)
  have HB0 : Hid (Below w.heap.size w W0) := Lib.hid (by rw [hW0]; exact (Below.refl _ _).alloc (Nat.le_refl _) _)
  have HW0 := Lib.hid hW0.symm
  clear hW0
  rcases eqOr (progB rs) with hp | hp
  · have e := Lib.hid (ss_bad1 (cs := cs) hp)
    go_enter Try.func27, Try.ntmps27
    go_wp2_with fail
    rw [HW0.out]
    refine (implValidProgram _ rs _ (HV.out.below HB0.out (Nat.le_refl _))).mono ?_
    rintro e1 w1 ⟨rfl, hb1⟩
    rw [hp]
    have HB1 := Lib.hid (HB0.out.trans (hb1.mono HB0.out.size))
    replace HK := Lib.hid (HK.out.below hb1 HK.out.lt)
    clear hb1
    have HF := Lib.hid (put2 HK.out (.int .i64 0) (.slice none 0 0))
    obtain ⟨f0, f1, f2, f3, f4⟩ := HF.out
    go_wp2
    obtain ⟨W, hW⟩ : ∃ W, W = (w1.setCell ⟨w.heap.size, 0, none⟩ (.int .i64 0)).setCell ⟨w.heap.size, 1, none⟩ (.slice none 0 0) := ⟨_, rfl⟩
    have hB : Below w.heap.size w W := by
      rw [hW]
      exact below_set (below_set HB1.out (Nat.le_refl _) _ _) (Nat.le_refl _) _ _
    rw [← hW] at f4 ⊢
    have z0 := f4.cell 0 rfl
    have z1 := f4.cell 1 rfl
    clear f0 f1 f2 f3 HF hW
    rw [e.out.1, e.out.2]
    refine bodyPost_ret (v := .tuple #[.agg #[.int .i64 0, .slice none 0 0], .int .i64 1]) (by simp [results, Try.f27, go_sem, z0, z1]) rfl ⟨_, rfl, Ow.emptyUp hB.size, hB⟩
  by_cases h1 : cs.length ≤ 24
  rotate_left
  · have e := Lib.hid (ss_bad2 hp h1)
    have hc : (24 : Int) < (cs.length : Int) := by omega
    clear h1
    go_enter Try.func27, Try.ntmps27
    go_wp2_with fail
    rw [HW0.out]
    refine (implValidProgram _ rs _ (HV.out.below HB0.out (Nat.le_refl _))).mono ?_
    rintro e1 w1 ⟨rfl, hb1⟩
    rw [hp]
    have HB1 := Lib.hid (HB0.out.trans (hb1.mono HB0.out.size))
    replace HK := Lib.hid (HK.out.below hb1 HK.out.lt)
    clear hb1
    have HF := Lib.hid (put2 HK.out (.int .i64 0) (.slice none 0 0))
    obtain ⟨f0, f1, f2, f3, f4⟩ := HF.out
    go_wp2
    obtain ⟨W, hW⟩ : ∃ W, W = (w1.setCell ⟨w.heap.size, 0, none⟩ (.int .i64 0)).setCell ⟨w.heap.size, 1, none⟩ (.slice none 0 0) := ⟨_, rfl⟩
    have hB : Below w.heap.size w W := by
      rw [hW]
      exact below_set (below_set HB1.out (Nat.le_refl _) _ _) (Nat.le_refl _) _ _
    rw [← hW] at f4 ⊢
    have z0 := f4.cell 0 rfl
    have z1 := f4.cell 1 rfl
    clear f0 f1 f2 f3 HF hW
    rw [e.out.1, e.out.2]
    refine bodyPost_ret (v := .tuple #[.agg #[.int .i64 0, .slice none 0 0], .int .i64 2]) (by simp [results, Try.f27, go_sem, z0, z1]) rfl ⟨_, rfl, Ow.emptyUp hB.size, hB⟩
  have hc : ¬ (24 : Int) < (cs.length : Int) := by omega
  have HL := Lib.hid h1
  rcases eqOr (digB 1000001 cs) with hd | hd
  · have e := Lib.hid (ss_bad3 hp h1 hd)
    clear h1
    go_enter Try.func27, Try.ntmps27
    go_wp2_with fail
    rw [HW0.out]
    refine (implValidProgram _ rs _ (HV.out.below HB0.out (Nat.le_refl _))).mono ?_
    rintro e1 w1 ⟨rfl, hb1⟩
    rw [hp]
    have HB1 := Lib.hid (HB0.out.trans (hb1.mono HB0.out.size))
    replace HK := Lib.hid (HK.out.below hb1 HK.out.lt)
    clear hb1
    go_wp2_with fail
    refine (implAre _ cs _ (HU.out.below HB1.out (Nat.le_refl _))).mono ?_
    rintro e1 w2 ⟨rfl, hb1⟩
    rw [hd]
    have HB2 := Lib.hid (HB1.out.trans (hb1.mono HB1.out.size))
    replace HK := Lib.hid (HK.out.below hb1 HK.out.lt)
    clear hb1 hd hp
    have HF := Lib.hid (put2 HK.out (.int .i64 0) (.slice none 0 0))
    obtain ⟨f0, f1, f2, f3, f4⟩ := HF.out
    go_wp2
    obtain ⟨W, hW⟩ : ∃ W, W = (w2.setCell ⟨w.heap.size, 0, none⟩ (.int .i64 0)).setCell ⟨w.heap.size, 1, none⟩ (.slice none 0 0) := ⟨_, rfl⟩
    have hB : Below w.heap.size w W := by
      rw [hW]
      exact below_set (below_set HB2.out (Nat.le_refl _) _ _) (Nat.le_refl _) _ _
    rw [← hW] at f4 ⊢
    have z0 := f4.cell 0 rfl
    have z1 := f4.cell 1 rfl
    clear f0 f1 f2 f3 HF hW
    rw [e.out.1, e.out.2]
    refine bodyPost_ret (v := .tuple #[.agg #[.int .i64 0, .slice none 0 0], .int .i64 2]) (by simp [results, Try.f27, go_sem, z0, z1]) rfl ⟨_, rfl, Ow.emptyUp hB.size, hB⟩
  have e := Lib.hid (ss_good hp h1 hd)
  clear h1
  go_enter Try.func27, Try.ntmps27
  go_wp2_with fail
  rw [HW0.out]
  refine (implValidProgram _ rs _ (HV.out.below HB0.out (Nat.le_refl _))).mono ?_
  rintro e1 w1 ⟨rfl, hb1⟩
  rw [hp]
  have HB1 := Lib.hid (HB0.out.trans (hb1.mono HB0.out.size))
  replace HK := Lib.hid (HK.out.below hb1 HK.out.lt)
  clear hb1
  go_wp2_with fail
  refine (implAre _ cs _ (HU.out.below HB1.out (Nat.le_refl _))).mono ?_
  rintro e1 w2 ⟨rfl, hb1⟩
  rw [hd]
  have HB2 := Lib.hid (HB1.out.trans (hb1.mono HB1.out.size))
  replace HK := Lib.hid (HK.out.below hb1 HK.out.lt)
  clear hb1 hd hp
  go_wp2_with (at_make; refine wpList_make_full _ rfl _ _ 29 rfl w2.heap.size 2 n0 (.int .i64 0) 1 Try.underlying29 hi hz0 hz1 _ _ _ _ 24 rfl rfl ?hL ?hC ?b2 ?b3 (Nat.le_refl _) ?_)
  case hL => rfl
  case hC => rfl
  case b2 => first | omega | (rw [hz2]; omega)
  case b3 => unfold maxLen; omega
  intro w3 hown0 hgrow0
  have hg0 : w3.heap[w2.heap.size]? = some (.cells ((List.replicate 24 (0 : Int)).map (Value.int .i64)).toArray 2 (0, 0)) := by
    have := row_fullS hown0
    rw [toList_madeCells_one] at this
    simpa using this
  have HG0 := Lib.hid hg0
  have HB0' := Lib.hid ((Below.refl w2.heap.size w2).grown hgrow0 (Nat.le_refl _) (fun k h => by cases h))
  clear hown0 hgrow0 hg0
  have HU2 := Lib.hid (HU.out.below (HB2.out.trans (HB0'.out.mono HB2.out.size)) (Nat.le_refl _))
  have HSZ : Hid (w2.heap.size < w3.heap.size) := Lib.hid (by have := HG0.out; exact (Array.getElem?_eq_some_iff.1 this).1)
  go_wp2_with (with_reducible refine wpList_copy_splice rfl (.tmp 21) (.tmp 22) 29 29 rfl 2 Try.underlying29 sizeE' _ _ _ _ _ _ rfl rfl w2.heap.size 0 ((List.replicate 24 (0 : Int)).map (Value.int .i64)) 2 HG0.out (cs.map (Value.int .i64)) ?hn ?hpos ?hfit ?h1 w2.heap.size w2 HB0'.out (Nat.le_refl _) ?_)
  case hn => rw [List.length_map]; exact (Nat.min_eq_left HL.out).symm
  case hpos =>
    intro hpos
    have hpos' : 0 < cs.length := by simpa using hpos
    obtain ⟨_, _, a9, c9, ea, _, hr⟩ := HU2.out
    obtain ⟨b, o, ha, hb, hc⟩ := hr (by intro h0; rw [h0] at hpos'; simp at hpos')
    have ea' : a1 = a9 := by injection ea
    subst ea'
    have fin : ∀ (j : Nat) (x : Int), cs[j]? = some x → w3.cell? ((⟨b, o, none⟩ : Addr).add j) = some (.int .i64 x) := fun j x hx => by
      have hj : j < cs.length := (List.getElem?_eq_some_iff.1 hx).1
      rw [Addr.add_lit, hc j hj, List.getD_eq_getElem?_getD, hx]; rfl
    first
      | exact ⟨_, ha, fin⟩
      | exact ⟨rfl, _, ha, fun j x hx => by
          simp only [List.getElem?_map, Option.map_eq_some_iff] at hx
          obtain ⟨y, hy, rfl⟩ := hx
          exact fin j y hy⟩
  case hfit => have := HL.out; first | (simp; done) | (simp; omega)
  case h1 => exact ints_oneCell .i64 cs
  intro w4 hg1 hb1
  have hfit : Fit (pd cs (24 - cs.length)) := fun z hz => by
    rcases List.mem_append.1 hz with hz | hz
    · exact HU.out.fit z hz
    · have := (List.mem_replicate.1 hz).2; omega
  have HO : Hid (Ow w4 w.heap.size w4.heap.size (.slice (some ⟨w2.heap.size, 0, none⟩) 24 24) (pd cs (24 - cs.length))) := Lib.hid (by
    have hp24 : (pd cs (24 - cs.length)).length = 24 := by rw [pd_len]; have := HL.out; omega
    have hsz : w2.heap.size < w4.heap.size := (Array.getElem?_eq_some_iff.1 hg1).1
    refine ⟨by omega, hfit, ?_, fun k hk => by cases hk; exact hsz, Nat.le_refl _, Nat.le_trans HB2.out.size (Nat.le_of_lt hsz)⟩
    rw [hp24]
    refine ⟨by simp [hp24], .inr ⟨w2.heap.size, 24, _, rfl, HB2.out.size, hg1, Nat.le_refl _, by unfold maxLen; omega, ?_, ?_⟩⟩
    · have := HL.out; simp [splice]; omega
    · have := HL.out; simp [splice, pd, List.drop_replicate]; exact padTake cs 24 HL.out)
  have HB3 := Lib.hid (HB2.out.trans (hb1.mono HB2.out.size))
  replace HK := Lib.hid (HK.out.below hb1 HK.out.lt)
  clear hg1 hb1 hfit HU2 HG0
  have HF := Lib.hid (put2 HK.out (.int .i64 0) (.slice (some ⟨w2.heap.size, 0, none⟩) 24 24))
  obtain ⟨f0, f1, f2, f3, f4⟩ := HF.out
  go_wp2
  obtain ⟨W, hW⟩ : ∃ W, W = (w4.setCell ⟨w.heap.size, 0, none⟩ (.int .i64 0)).setCell ⟨w.heap.size, 1, none⟩ (.slice (some ⟨w2.heap.size, 0, none⟩) 24 24) := ⟨_, rfl⟩
  have hB : Below w.heap.size w W := by
    rw [hW]
    exact below_set (below_set HB3.out (Nat.le_refl _) _ _) (Nat.le_refl _) _ _
  have hO : Ow W w.heap.size W.heap.size (.slice (some ⟨w2.heap.size, 0, none⟩) 24 24) (pd cs (24 - cs.length)) := by
    rw [hW]
    exact (HO.out.grown (put2g HK.out _ _) (.inr (HO.out.nblk HK.out (by decide)))).up
  rw [← hW] at f4 ⊢
  have z0 := f4.cell 0 rfl
  have z1 := f4.cell 1 rfl
  clear f0 f1 f2 f3 HF hW
  rw [e.out.1, e.out.2]
  refine bodyPost_ret (v := .tuple #[.agg #[.int .i64 0, .slice (some ⟨w2.heap.size, 0, none⟩) 24 24], .int .i64 0]) (by simp [results, Try.f27, go_sem, z0, z1]) rfl ⟨_, rfl, hO, hB⟩
end Go.Proofs.Ytfcakadmiflcdaa.Ints
