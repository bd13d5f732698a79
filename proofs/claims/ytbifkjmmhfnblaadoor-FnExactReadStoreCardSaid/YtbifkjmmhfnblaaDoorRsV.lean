/- A store read from a text, of the model. -/
import Derived.Test.YtbifkjmmhfnblaaDoorRkV
import Derived.Test.YtbifkjmmhfnblaaDoorRlS
import Derived.Test.YtbifkjmmhfnblaaDoorStv
namespace Go.Proofs.YtbifkjmmhfnblaaDoor.Ints
open Go.RowKit
set_option linter.unusedVariables false
set_option linter.unusedSimpArgs false
theorem Ow.lowCell {w : World} {B T : Nat} {v : Value} {zs : List Int} (h : Ow w B T v zs) (k j : Nat) (x : Value) (hk : k < B) : Ow (w.setCell ⟨k, j, none⟩ x) B T v zs := by
  refine ⟨h.len, h.fit, ?_, h.top, by simpa using h.size, h.base⟩
  rcases h.row.2 with ⟨rfl, h0⟩ | ⟨g, cp, cur, rfl, h1, h2, h3⟩
  · exact ⟨h.row.1, .inl ⟨rfl, h0⟩⟩
  · exact ⟨h.row.1, .inr ⟨g, cp, cur, rfl, h1, by rw [Below.heap_setCell w ⟨k, j, none⟩ x g (by show g ≠ k; omega)]; exact h2, h3⟩⟩
def rsOk (rs : List Ins) (l : List UInt8) : Prop := progB rs = true ∧ (pcs 58 l).length = 2 ∧ NumOk ((pcs 58 l).getD 0 []) ∧ rlsB ((pcs 58 l).getD 1 []) = true ∧ stoB rs.length (valL ((pcs 58 l).getD 0 [])) (rlsV ((pcs 58 l).getD 1 [])) = true
open Classical in
noncomputable def rsB (rs : List Ins) (l : List UInt8) : Bool := decide (rsOk rs l)
open Classical in
noncomputable def rsX (rs : List Ins) (l : List UInt8) : Int := if rsOk rs l then valL ((pcs 58 l).getD 0 []) else 0
open Classical in
noncomputable def rsL (rs : List Ins) (l : List UInt8) : List Int := if rsOk rs l then rlsV ((pcs 58 l).getD 1 []) else []
theorem rs_bad {rs : List Ins} {l : List UInt8} (h : ¬ rsOk rs l) : rsX rs l = 0 ∧ rsB rs l = false ∧ rsL rs l = [] := by simp [rsB, rsX, rsL, h]
theorem rs_good {rs : List Ins} {l : List UInt8} (h : rsOk rs l) : rsX rs l = valL ((pcs 58 l).getD 0 []) ∧ rsB rs l = true ∧ rsL rs l = rlsV ((pcs 58 l).getD 1 []) := by simp [rsB, rsX, rsL, h]
theorem rsL_len (rs : List Ins) (l : List UInt8) : (rsL rs l).length ≤ 64 := by
  unfold rsL
  split
  · exact rlsV_len _
  · simp
set_option maxRecDepth 100000 in
set_option maxHeartbeats 8000000 in
theorem specReadSt (v : Value) (rs : List Ins) (s : ByteArray) (w : World) (hv : RdIns w v rs) (hs : s.size ≤ 1048576) :
    Calls Tryd.prog 18 #[v, .string s] w fun e w' => ∃ r, e = .returned (.tuple #[.agg #[.int .i64 (rsX rs s.data.toList), r], .bool (rsB rs s.data.toList)]) ∧ Ow w' w.heap.size w'.heap.size r (rsL rs s.data.toList) ∧ Below w.heap.size w w' := by
  obtain ⟨l, hl⟩ : ∃ l, l = s.data.toList := ⟨_, rfl⟩
  rw [← hl]
  have HL := Lib.hid hl
  obtain ⟨ts, hts⟩ : ∃ ts, ts = pcs 58 l := ⟨_, rfl⟩
  have HTs := Lib.hid hts
  have HPz : Hid (∀ q ∈ ts, q.length ≤ 1048576) := Lib.hid (fun q hq => by
    have := pcs_piece 58 l q (by rw [← hts]; exact hq)
    have h2 := Lib.size_eq s
    rw [hl] at this
    omega)
  obtain ⟨W0, hW0⟩ : ∃ W, W = w.alloc (Obj.cells #[.int .i64 0, .slice none 0 0] 36) := ⟨_, rfl⟩
  have HB0 : Hid (Below w.heap.size w W0) := Lib.hid (by rw [hW0]; exact (Below.refl w.heap.size w).alloc (Nat.le_refl _) _)
  have K0 : Hid (Cels W0 w.heap.size 36 [.int .i64 0, .slice none 0 0]) := Lib.hid (by rw [hW0]; exact Cels.new _ _ _)
  have HW0 := Lib.hid hW0.symm
  have HSp := Lib.hid (specSplit s 58 58 rfl W0 hs)
  have HV := Lib.hid hv
  obtain ⟨hl9, _, a, c, rfl, _, _⟩ := hv
  have HBad : Hid (¬ rsOk rs l → rsX rs l = 0 ∧ rsB rs l = false ∧ rsL rs l = []) := Lib.hid (fun h => rs_bad h)
  clear hl hts hW0 hs hl9
  go_enter Tryd.func18, Tryd.ntmps18
  go_wp2_with fail
  rw [HW0.out]
  refine HSp.out.mono ?_
  rintro e w1 ⟨u, rfl, hr, hb1⟩
  rw [← HL.out, ← HTs.out] at hr
  obtain ⟨b, c1, rfl, hcap, hbl, hcell⟩ := hr
  have HC := Lib.hid hcell
  have HB1 := Lib.hid (HB0.out.trans (hb1.mono HB0.out.size))
  have K1 := Lib.hid (K0.out.below hb1 K0.out.lt)
  clear hcell hb1
  go_wp2_with fail
  refine (specPIs _ rs _ (HV.out.below HB1.out (Nat.le_refl _))).mono ?_
  rintro e w2 ⟨rfl, hb2⟩
  have HX2 := Lib.hid hb2
  have HB2 := Lib.hid (HB1.out.trans (hb2.mono HB1.out.size))
  have K2 := Lib.hid (K1.out.below hb2 K1.out.lt)
  clear hb2
  rcases eqOr (progB rs) with hp | hp
  · have HF := Lib.hid (HBad.out (fun h => by rw [h.1] at hp; cases hp))
    rw [hp]
    have r2 := K2.out.set 0 (.int .i64 0)
    have f1 := K2.out.cell 0 rfl
    have f2 := K2.out.frozen 0
    have f3 := r2.cell 1 rfl
    have f4 := r2.frozen 1
    have F7 := Lib.hid (r2.set 1 (.slice none 0 0))
    clear r2
    go_wp2
    have f7 := F7.out
    obtain ⟨Wf, hWf⟩ : ∃ Wf, Wf = (w2.setCell ⟨w.heap.size, 0, none⟩ (.int .i64 0)).setCell ⟨w.heap.size, 1, none⟩ (.slice none 0 0) := ⟨_, rfl⟩
    have hB : Below w.heap.size w Wf := by rw [hWf]; exact below_set (below_set HB2.out (Nat.le_refl _) _ _) (Nat.le_refl _) _ _
    rw [← hWf] at f7 ⊢
    have z0 := f7.cell 0 rfl
    have z1 := f7.cell 1 rfl
    clear f1 f2 f3 f4 hWf
    refine bodyPost_ret (v := .tuple #[.agg #[.int .i64 0, .slice none 0 0], .bool false]) (by simp [results, Tryd.f18, go_sem, z0, z1]) rfl ⟨.slice none 0 0, ?_, ?_, hB⟩
    · rw [HF.out.1, HF.out.2.1]
    · rw [HF.out.2.2]; exact Ow.emptyUp hB.size
  have HP := Lib.hid hp
  rw [hp]
  clear hp
  by_cases h2 : ts.length = 2
  rotate_left
  · have HF := Lib.hid (HBad.out (fun h => h2 (by rw [HTs.out]; exact h.2.1)))
    have e3 : ((ts.length : Int) == 2) = false := by rw [beq_eq_false_iff_ne]; omega
    have e3' : ¬ (ts.length : Int) = 2 := by omega
    clear h2
    have r2 := K2.out.set 0 (.int .i64 0)
    have f1 := K2.out.cell 0 rfl
    have f2 := K2.out.frozen 0
    have f3 := r2.cell 1 rfl
    have f4 := r2.frozen 1
    have F7 := Lib.hid (r2.set 1 (.slice none 0 0))
    clear r2
    go_wp2
    have f7 := F7.out
    obtain ⟨Wf, hWf⟩ : ∃ Wf, Wf = (w2.setCell ⟨w.heap.size, 0, none⟩ (.int .i64 0)).setCell ⟨w.heap.size, 1, none⟩ (.slice none 0 0) := ⟨_, rfl⟩
    have hB : Below w.heap.size w Wf := by rw [hWf]; exact below_set (below_set HB2.out (Nat.le_refl _) _ _) (Nat.le_refl _) _ _
    rw [← hWf] at f7 ⊢
    have z0 := f7.cell 0 rfl
    have z1 := f7.cell 1 rfl
    clear f1 f2 f3 f4 hWf
    refine bodyPost_ret (v := .tuple #[.agg #[.int .i64 0, .slice none 0 0], .bool false]) (by simp [results, Tryd.f18, go_sem, z0, z1]) rfl ⟨.slice none 0 0, ?_, ?_, hB⟩
    · rw [HF.out.1, HF.out.2.1]
    · rw [HF.out.2.2]; exact Ow.emptyUp hB.size
  obtain ⟨t0, t1, rfl⟩ : ∃ a b, ts = [a, b] := by
    match ts, h2 with
    | [a, b], _ => exact ⟨a, b, rfl⟩
  have hcc := HC.out
  have H0 : Hid (∀ W, Below w1.heap.size w1 W → W.cell? ⟨b, 0, none⟩ = some (.string (bs t0))) := Lib.hid (fun W hW => (hW.cell hbl).trans (hcc 0 (by simp)))
  have H1 : Hid (∀ W, Below w1.heap.size w1 W → W.cell? ⟨b, 1, none⟩ = some (.string (bs t1))) := Lib.hid (fun W hW => (hW.cell hbl).trans (hcc 1 (by simp)))
  have HS0 : Hid ((bs t0).size ≤ 1048576) := Lib.hid (by rw [bs_size]; exact HPz.out t0 (by simp))
  have HS1 : Hid ((bs t1).size ≤ 1048576) := Lib.hid (by rw [bs_size]; exact HPz.out t1 (by simp))
  have HOk : Hid (rsOk rs l ↔ NumOk t0 ∧ rlsB t1 = true ∧ stoB rs.length (valL t0) (rlsV t1) = true) := Lib.hid (by
    unfold rsOk
    rw [← HTs.out]
    exact ⟨fun h => ⟨h.2.2.1, h.2.2.2.1, h.2.2.2.2⟩, fun h => ⟨HP.out, rfl, h.1, h.2.1, h.2.2⟩⟩)
  have HGd : Hid (rsOk rs l → rsX rs l = valL t0 ∧ rsB rs l = true ∧ rsL rs l = rlsV t1) := Lib.hid (fun h => by have := rs_good h; rw [← HTs.out] at this; exact this)
  clear hcc h2
  obtain ⟨n0, hn0⟩ : ∃ n, n = numV (bs t0).data.toList := ⟨_, rfl⟩
  obtain ⟨q0, hq0⟩ : ∃ n, n = numB (bs t0).data.toList := ⟨_, rfl⟩
  have HN0 := Lib.hid hn0
  have HQ0 := Lib.hid hq0
  have HY0 : Hid (q0 = true → NumOk t0 ∧ n0 = valL t0) := Lib.hid (fun hq => by
    rw [hq0, bs_list] at hq
    rcases Classical.em (NumOk t0) with h | h
    · exact ⟨h, by rw [hn0, bs_list, (num_yes h).2]⟩
    · rw [(num_no h).1] at hq; cases hq)
  have HX0 : Hid (q0 = false → ¬ NumOk t0) := Lib.hid (fun hq h => by rw [hq0, bs_list, (num_yes h).1] at hq; cases hq)
  obtain ⟨q1, hq1⟩ : ∃ q, q = rlsB t1 := ⟨_, rfl⟩
  have HQ1 := Lib.hid hq1
  obtain ⟨zs, hzs⟩ : ∃ z, z = rlsV t1 := ⟨_, rfl⟩
  have HZs := Lib.hid hzs
  clear hn0 hq0 hq1 hzs
  have hc0 := H0.out _ HX2.out
  go_wp2_with fail
  refine (specNumber (bs t0) _ HS0.out).mono ?_
  rintro e w3 ⟨rfl, bb⟩
  rw [← HN0.out, ← HQ0.out]
  have HX3 := Lib.hid (HX2.out.trans (bb.mono HX2.out.size))
  have HB3 := Lib.hid (HB2.out.trans (bb.mono HB2.out.size))
  have K3 := Lib.hid (K2.out.below bb K2.out.lt)
  clear bb hc0
  have hc1 := H1.out _ HX3.out
  go_wp2_with fail
  refine (specReadList (bs t1) _ HS1.out).mono ?_
  rintro e w4 ⟨u4, rfl, ho, bb⟩
  rw [bs_list, ← HQ1.out]
  rw [bs_list, ← HZs.out] at ho
  obtain ⟨ga, gc, hsh⟩ := ho.shape
  obtain ⟨nz, hnz⟩ : ∃ n, n = zs.length := ⟨_, rfl⟩
  rw [← hnz] at hsh
  subst hsh
  have HO4 := Lib.hid ho
  have HX4 := Lib.hid (HX3.out.trans (bb.mono HX3.out.size))
  have HB4 := Lib.hid (HB3.out.trans (bb.mono HB3.out.size))
  have HS3 := Lib.hid HB3.out.size
  have K4 := Lib.hid (K3.out.below bb K3.out.lt)
  have HLt : Hid (w.heap.size < w3.heap.size) := Lib.hid K3.out.lt
  clear bb hc1 ho hnz
  have K6 : Hid (Cels (w4.alloc (Obj.cells #[.int .i64 n0, .slice ga nz gc] 36)) w.heap.size 36 [.int .i64 0, .slice none 0 0]) := Lib.hid (K4.out.alloc _)
  have KC : Hid (Cels (w4.alloc (Obj.cells #[.int .i64 n0, .slice ga nz gc] 36)) w4.heap.size 36 [.int .i64 n0, .slice ga nz gc]) := Lib.hid (Cels.new _ _ _)
  have HB6 : Hid (Below w.heap.size w (w4.alloc (Obj.cells #[.int .i64 n0, .slice ga nz gc] 36))) := Lib.hid (HB4.out.alloc HB4.out.size _)
  have HO6 : Hid (Ow (w4.alloc (Obj.cells #[.int .i64 n0, .slice ga nz gc] 36)) w3.heap.size (w4.alloc (Obj.cells #[.int .i64 n0, .slice ga nz gc] 36)).heap.size (.slice ga nz gc) zs) := Lib.hid (HO4.out.below ((Below.refl _ _).alloc (Nat.le_refl _) _) HO4.out.size).up
  rcases eqOr q0 with hb | hb
  · have HF := Lib.hid (HBad.out (fun h => HX0.out hb (HOk.out.1 h).1))
    subst hb
    have r2 := K6.out.set 0 (.int .i64 0)
    have f1 := K6.out.cell 0 rfl
    have f2 := K6.out.frozen 0
    have f3 := r2.cell 1 rfl
    have f4 := r2.frozen 1
    have F7 := Lib.hid (r2.set 1 (.slice none 0 0))
    clear r2
    go_wp2
    have f7 := F7.out
    obtain ⟨Wf, hWf⟩ : ∃ Wf, Wf = ((w4.alloc (Obj.cells #[.int .i64 n0, .slice ga nz gc] 36)).setCell ⟨w.heap.size, 0, none⟩ (.int .i64 0)).setCell ⟨w.heap.size, 1, none⟩ (.slice none 0 0) := ⟨_, rfl⟩
    have hB : Below w.heap.size w Wf := by rw [hWf]; exact below_set (below_set HB6.out (Nat.le_refl _) _ _) (Nat.le_refl _) _ _
    rw [← hWf] at f7 ⊢
    have z0 := f7.cell 0 rfl
    have z1 := f7.cell 1 rfl
    clear f1 f2 f3 f4 hWf
    refine bodyPost_ret (v := .tuple #[.agg #[.int .i64 0, .slice none 0 0], .bool false]) (by simp [results, Tryd.f18, go_sem, z0, z1]) rfl ⟨.slice none 0 0, ?_, ?_, hB⟩
    · rw [HF.out.1, HF.out.2.1]
    · rw [HF.out.2.2]; exact Ow.emptyUp hB.size
  have HY0' := Lib.hid (HY0.out hb)
  subst hb
  rcases eqOr q1 with hb | hb
  · have HF := Lib.hid (HBad.out (fun h => by have := (HOk.out.1 h).2.1; rw [← HQ1.out, hb] at this; cases this))
    subst hb
    have r2 := K6.out.set 0 (.int .i64 0)
    have f1 := K6.out.cell 0 rfl
    have f2 := K6.out.frozen 0
    have f3 := r2.cell 1 rfl
    have f4 := r2.frozen 1
    have F7 := Lib.hid (r2.set 1 (.slice none 0 0))
    clear r2
    go_wp2
    have f7 := F7.out
    obtain ⟨Wf, hWf⟩ : ∃ Wf, Wf = ((w4.alloc (Obj.cells #[.int .i64 n0, .slice ga nz gc] 36)).setCell ⟨w.heap.size, 0, none⟩ (.int .i64 0)).setCell ⟨w.heap.size, 1, none⟩ (.slice none 0 0) := ⟨_, rfl⟩
    have hB : Below w.heap.size w Wf := by rw [hWf]; exact below_set (below_set HB6.out (Nat.le_refl _) _ _) (Nat.le_refl _) _ _
    rw [← hWf] at f7 ⊢
    have z0 := f7.cell 0 rfl
    have z1 := f7.cell 1 rfl
    clear f1 f2 f3 f4 hWf
    refine bodyPost_ret (v := .tuple #[.agg #[.int .i64 0, .slice none 0 0], .bool false]) (by simp [results, Tryd.f18, go_sem, z0, z1]) rfl ⟨.slice none 0 0, ?_, ?_, hB⟩
    · rw [HF.out.1, HF.out.2.1]
    · rw [HF.out.2.2]; exact Ow.emptyUp hB.size
  subst hb
  obtain ⟨q2, hq2⟩ : ∃ q, q = stoB rs.length n0 zs := ⟨_, rfl⟩
  have HQ2 := Lib.hid hq2
  clear hq2
  go_wp2_with fail
  refine (specGood _ rs.length _ w4.heap.size _ n0 _ zs _ HO6.out.rd KC.out).mono ?_
  rintro e w7 ⟨rfl, bb⟩
  rw [← HQ2.out]
  have K7 := Lib.hid (K6.out.below bb K6.out.lt)
  have KD := Lib.hid (KC.out.below bb KC.out.lt)
  have HB7 := Lib.hid (HB6.out.trans (bb.mono HB6.out.size))
  have HO7 := Lib.hid (HO6.out.below bb (Nat.le_refl _)).up
  clear bb
  rcases eqOr q2 with hb | hb
  · have HF := Lib.hid (HBad.out (fun h => by have := (HOk.out.1 h).2.2; rw [← HY0'.out.2, ← HZs.out, ← HQ2.out, hb] at this; cases this))
    subst hb
    have r2 := K7.out.set 0 (.int .i64 0)
    have f1 := K7.out.cell 0 rfl
    have f2 := K7.out.frozen 0
    have f3 := r2.cell 1 rfl
    have f4 := r2.frozen 1
    have F7 := Lib.hid (r2.set 1 (.slice none 0 0))
    clear r2
    go_wp2
    have f7 := F7.out
    obtain ⟨Wf, hWf⟩ : ∃ Wf, Wf = (w7.setCell ⟨w.heap.size, 0, none⟩ (.int .i64 0)).setCell ⟨w.heap.size, 1, none⟩ (.slice none 0 0) := ⟨_, rfl⟩
    have hB : Below w.heap.size w Wf := by rw [hWf]; exact below_set (below_set HB7.out (Nat.le_refl _) _ _) (Nat.le_refl _) _ _
    rw [← hWf] at f7 ⊢
    have z0 := f7.cell 0 rfl
    have z1 := f7.cell 1 rfl
    clear f1 f2 f3 f4 hWf
    refine bodyPost_ret (v := .tuple #[.agg #[.int .i64 0, .slice none 0 0], .bool false]) (by simp [results, Tryd.f18, go_sem, z0, z1]) rfl ⟨.slice none 0 0, ?_, ?_, hB⟩
    · rw [HF.out.1, HF.out.2.1]
    · rw [HF.out.2.2]; exact Ow.emptyUp hB.size
  have HF := Lib.hid (HGd.out (HOk.out.2 ⟨HY0'.out.1, HQ1.out.symm, by rw [← HY0'.out.2, ← HZs.out, ← HQ2.out]; exact hb⟩))
  subst hb
  have m0 := KD.out.cell 0 rfl
  have m1 := KD.out.cell 1 rfl
  have r2 := K7.out.set 0 (.int .i64 n0)
  have f1 := K7.out.cell 0 rfl
  have f2 := K7.out.frozen 0
  have f3 := r2.cell 1 rfl
  have f4 := r2.frozen 1
  have F7 := Lib.hid (r2.set 1 (.slice ga nz gc))
  clear r2
  go_wp2
  have f7 := F7.out
  obtain ⟨Wf, hWf⟩ : ∃ Wf, Wf = (w7.setCell ⟨w.heap.size, 0, none⟩ (.int .i64 n0)).setCell ⟨w.heap.size, 1, none⟩ (.slice ga nz gc) := ⟨_, rfl⟩
  have hB : Below w.heap.size w Wf := by rw [hWf]; exact below_set (below_set HB7.out (Nat.le_refl _) _ _) (Nat.le_refl _) _ _
  have hO : Ow Wf w.heap.size Wf.heap.size (.slice ga nz gc) zs := by rw [hWf]; exact (((HO7.out.lowCell w.heap.size 0 _ HLt.out).lowCell w.heap.size 1 _ HLt.out).mono (Nat.le_of_lt HLt.out) (by simp) (Nat.le_refl _))
  rw [← hWf] at f7 ⊢
  have z0 := f7.cell 0 rfl
  have z1 := f7.cell 1 rfl
  clear f1 f2 f3 f4 hWf
  refine bodyPost_ret (v := .tuple #[.agg #[.int .i64 n0, .slice ga nz gc], .bool true]) (by simp [results, Tryd.f18, go_sem, z0, z1]) rfl ⟨.slice ga nz gc, ?_, ?_, hB⟩
  · rw [HF.out.1, HF.out.2.1, HY0'.out.2]
  · rw [HF.out.2.2, ← HZs.out]; exact hO
end Go.Proofs.YtbifkjmmhfnblaaDoor.Ints
