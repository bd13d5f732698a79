/- A store read from a text, of the program. -/
import Derived.Test.YtbifkjmmhfnblaaDoorRsV
import Derived.Test.YtbifkjmmhfnblaaDoorRlI
import Derived.Test.YtbifkjmmhfnblaaDoorCut
namespace Go.Proofs.YtbifkjmmhfnblaaDoor.Ints
open Go.RowKit
set_option linter.unusedVariables false
set_option linter.unusedSimpArgs false
theorem join_mem (c d : UInt8) (l : List UInt8) (h : d ∈ l) (hne : d ≠ c) : ∃ t ∈ pcs c l, d ∈ t := by
  refine snocRec (P := fun l => d ∈ l → ∃ t ∈ pcs c l, d ∈ t) ?_ ?_ l h
  · intro h; cases h
  · intro l x ih hm
    unfold pcs at ih ⊢
    rw [pcRun_snoc, pcStep]
    rcases List.mem_append.1 hm with hm | hm
    · obtain ⟨t, ht, hd⟩ := ih hm
      split
      · exact ⟨t, List.mem_append_left _ ht, hd⟩
      · rcases List.mem_append.1 ht with ht | ht
        · exact ⟨t, List.mem_append_left _ ht, hd⟩
        · simp at ht; subst ht
          exact ⟨_, List.mem_append_right _ (List.mem_singleton.2 rfl), List.mem_append_left _ hd⟩
    · simp at hm
      subst hm
      rw [if_neg hne]
      exact ⟨_, List.mem_append_right _ (List.mem_singleton.2 rfl), by simp⟩
theorem rls_no (l : List UInt8) (d : UInt8) (h : d ∈ l) (h1 : d ≠ 44) (h2 : d ≠ 45) (h3 : ¬ (48 ≤ d.toNat ∧ d.toNat ≤ 57)) : rlsB l = false := by
  by_cases hd : l = [45]
  · subst hd; simp at h; exact absurd h h2
  · refine (rls_bad hd (fun hk => ?_)).1
    obtain ⟨t, ht, hm⟩ := join_mem 44 d l h h1
    obtain ⟨i, hi, e⟩ := List.getElem_of_mem ht
    have hn := (hk.2 i hi).1
    rw [List.getD_eq_getElem?_getD, List.getElem?_eq_getElem hi] at hn
    have hn' : NumOk t := by rw [← e]; exact hn
    rcases num_mem hn' hm with h | h
    · exact h2 h
    · exact h3 h
theorem rls_empty : rlsB [] = false := (rls_bad (by simp) (fun h => by
  have e : pcs 44 [] = [[]] := by simp [pcs, pcRun]
  rw [e] at h
  exact num_empty (h.2 0 (by simp)).1)).1
set_option maxRecDepth 100000 in
set_option maxHeartbeats 8000000 in
theorem implReadSt (v : Value) (rs : List Ins) (s : ByteArray) (w : World) (hv : RdIns w v rs) (hs : s.size ≤ 1048576) (ht : TabV w) (he : ErrV w) (hm : MaxV w) :
    Calls Tryd.prog 20 #[v, .string s] w fun e w' => ∃ r, e = .returned (.tuple #[.agg #[.int .i64 (rsX rs s.data.toList), r], .bool (rsB rs s.data.toList)]) ∧ Ow w' w.heap.size w'.heap.size r (rsL rs s.data.toList) ∧ Below w.heap.size w w' := by
  obtain ⟨l, hl⟩ : ∃ l, l = s.data.toList := ⟨_, rfl⟩
  rw [← hl]
  have HL := Lib.hid hl
  obtain ⟨W0, hW0⟩ : ∃ W, W = w.alloc (Obj.cells #[.int .i64 0, .slice none 0 0] 36) := ⟨_, rfl⟩
  have HB0 : Hid (Below w.heap.size w W0) := Lib.hid (by rw [hW0]; exact (Below.refl w.heap.size w).alloc (Nat.le_refl _) _)
  have K0 : Hid (Cels W0 w.heap.size 36 [.int .i64 0, .slice none 0 0]) := Lib.hid (by rw [hW0]; exact Cels.new _ _ _)
  have HW0 := Lib.hid hW0.symm
  have HTab := Lib.hid (ht.below HB0.out (Nat.le_refl _))
  have HErr := Lib.hid (he.below HB0.out (Nat.le_refl _))
  have HMax := Lib.hid (hm.below HB0.out (Nat.le_refl _))
  have HCut := Lib.hid (implCut s 58 ⟨#[58]⟩ W0 hs rfl HMax.out)
  rw [← hl] at HCut
  obtain ⟨t0, ht0⟩ : ∃ t, t = (Lib.cut l [58]).1 := ⟨_, rfl⟩
  obtain ⟨t1, ht1⟩ : ∃ t, t = (Lib.cut l [58]).2.1 := ⟨_, rfl⟩
  obtain ⟨fd, hfd⟩ : ∃ t, t = (Lib.cut l [58]).2.2 := ⟨_, rfl⟩
  rw [← ht0, ← ht1, ← hfd] at HCut
  have h2 := Lib.size_eq s
  rw [← hl] at h2
  have HS0 : Hid ((bs t0).size ≤ 1048576) := Lib.hid (by
    rw [bs_size]
    rcases cut_pcs 58 l with ⟨_, _, e⟩ | ⟨a, b, _, e2, _, e⟩
    · rw [ht0, e]; show l.length ≤ _; omega
    · rw [ht0, e]; have h3 := congrArg List.length e2; simp at h3; show a.length ≤ _; omega)
  have HS1 : Hid ((bs t1).size ≤ 1048576) := Lib.hid (by
    rw [bs_size]
    rcases cut_pcs 58 l with ⟨_, _, e⟩ | ⟨a, b, _, e2, _, e⟩
    · rw [ht1, e]; show ([] : List UInt8).length ≤ _; simp
    · rw [ht1, e]; have h3 := congrArg List.length e2; simp at h3; show b.length ≤ _; omega)
  have HOk : Hid (rsOk rs l ↔ progB rs = true ∧ NumOk t0 ∧ rlsB t1 = true ∧ stoB rs.length (valL t0) (rlsV t1) = true) := Lib.hid (by
    unfold rsOk
    rcases cut_pcs 58 l with ⟨_, e1, e⟩ | ⟨a, b, _, _, e1, e⟩
    · rw [ht0, ht1, e, e1]
      exact ⟨fun h => by have := h.2.1; simp at this, fun h => by have := h.2.2.1; rw [show (([] : List UInt8)) = [] from rfl, rls_empty] at this; cases this⟩
    · rw [ht0, ht1, e, e1]
      by_cases hb : (58 : UInt8) ∈ b
      · have h3 := pcs_two 58 b hb
        exact ⟨fun h => by have := h.2.1; simp at this; omega, fun h => by have := h.2.2.1; rw [show (a, b, true).2.1 = b from rfl, rls_no b 58 hb (by decide) (by decide) (by decide)] at this; cases this⟩
      · rw [pcs_no 58 b hb]
        exact ⟨fun h => ⟨h.1, h.2.2.1, h.2.2.2.1, h.2.2.2.2⟩, fun h => ⟨h.1, rfl, h.2.1, h.2.2.1, h.2.2.2⟩⟩)
  have HGd : Hid (rsOk rs l → rsX rs l = valL t0 ∧ rsB rs l = true ∧ rsL rs l = rlsV t1) := Lib.hid (fun h => by
    have hg := rs_good h
    have hh := h.2.1
    rcases cut_pcs 58 l with ⟨_, e1, e⟩ | ⟨a, b, _, _, e1, e⟩
    · rw [e1] at hh; simp at hh
    · rw [e1] at hg hh
      by_cases hb : (58 : UInt8) ∈ b
      · have h3 := pcs_two 58 b hb
        simp at hh; omega
      · rw [pcs_no 58 b hb] at hg
        rw [ht0, ht1, e]; exact hg)
  have HBad : Hid (¬ rsOk rs l → rsX rs l = 0 ∧ rsB rs l = false ∧ rsL rs l = []) := Lib.hid (fun h => rs_bad h)
  have HV := Lib.hid hv
  obtain ⟨hl9, _, a, c, rfl, _, _⟩ := hv
  obtain ⟨n0, hn0⟩ : ∃ n, n = numV (bs t0).data.toList := ⟨_, rfl⟩
  obtain ⟨q0, hq0⟩ : ∃ n, n = numB (bs t0).data.toList := ⟨_, rfl⟩
  have HN0 := Lib.hid hn0
  have HQ0 := Lib.hid hq0
  have HY0 : Hid (q0 = true → NumOk t0 ∧ n0 = valL t0) := Lib.hid (fun hq => by
    rw [hq0, bs_list] at hq
    rcases Classical.em (NumOk t0) with h | h
    · exact ⟨h, by rw [hn0, bs_list, (num_yes h).2]⟩
    · rw [(num_no h).1] at hq; cases hq)
  have HX0 : Hid (q0 = false → ¬ NumOk t0) := Lib.hid (fun hq h => by rw [hq0, bs_list, (num_yes h).1] at hq; cases hq)
  obtain ⟨q1, hq1⟩ : ∃ q, q = rlsB t1 := ⟨_, rfl⟩
  have HQ1 := Lib.hid hq1
  obtain ⟨zs, hzs⟩ : ∃ z, z = rlsV t1 := ⟨_, rfl⟩
  have HZs := Lib.hid hzs
  obtain ⟨u0, hu0⟩ : ∃ u, u = bs t0 := ⟨_, rfl⟩
  obtain ⟨u1, hu1⟩ : ∃ u, u = bs t1 := ⟨_, rfl⟩
  rw [← hu0, ← hu1] at HCut
  have HU0 := Lib.hid hu0
  have HU1 := Lib.hid hu1
  clear hl ht0 ht1 hfd h2 hs ht he hm hW0 hl9 hn0 hq0 hq1 hzs hu0 hu1
  go_enter Tryd.func20, Tryd.ntmps20
  go_wp2_with fail
  rw [HW0.out]
  refine HCut.out.mono ?_
  rintro e w1 ⟨rfl, bb⟩
  have HX1 := Lib.hid bb
  have HB1 := Lib.hid (HB0.out.trans (bb.mono HB0.out.size))
  have K1 := Lib.hid (K0.out.below bb K0.out.lt)
  clear bb
  go_wp2_with fail
  refine (implRdDec u0 _ (by rw [HU0.out]; exact HS0.out) (HTab.out.below HX1.out (Nat.le_refl _)) (HErr.out.below HX1.out (Nat.le_refl _))).mono ?_
  rintro e w3 ⟨rfl, bb⟩
  rw [HU0.out, ← HN0.out, ← HQ0.out, ← HU0.out]
  have HX3 := Lib.hid (HX1.out.trans (bb.mono HX1.out.size))
  have HB3 := Lib.hid (HB1.out.trans (bb.mono HB1.out.size))
  have K3 := Lib.hid (K1.out.below bb K1.out.lt)
  clear bb
  go_wp2_with fail
  refine (implReadList u1 _ (by rw [HU1.out]; exact HS1.out) (HTab.out.below HX3.out (Nat.le_refl _)) (HErr.out.below HX3.out (Nat.le_refl _)) (HMax.out.below HX3.out (Nat.le_refl _))).mono ?_
  rintro e w4 ⟨u4, rfl, ho, bb⟩
  rw [HU1.out, bs_list, ← HQ1.out, ← HU1.out]
  rw [HU1.out, bs_list, ← HZs.out] at ho
  obtain ⟨ga, gc, hsh⟩ := ho.shape
  obtain ⟨nz, hnz⟩ : ∃ n, n = zs.length := ⟨_, rfl⟩
  rw [← hnz] at hsh
  subst hsh
  have HO4 := Lib.hid ho
  have HB4 := Lib.hid (HB3.out.trans (bb.mono HB3.out.size))
  have K4 := Lib.hid (K3.out.below bb K3.out.lt)
  have HLt : Hid (w.heap.size < w3.heap.size) := Lib.hid K3.out.lt
  clear bb ho hnz
  have K6 : Hid (Cels (w4.alloc (Obj.cells #[.int .i64 n0, .slice ga nz gc] 36)) w.heap.size 36 [.int .i64 0, .slice none 0 0]) := Lib.hid (K4.out.alloc _)
  have KC : Hid (Cels (w4.alloc (Obj.cells #[.int .i64 n0, .slice ga nz gc] 36)) w4.heap.size 36 [.int .i64 n0, .slice ga nz gc]) := Lib.hid (Cels.new _ _ _)
  have HB6 : Hid (Below w.heap.size w (w4.alloc (Obj.cells #[.int .i64 n0, .slice ga nz gc] 36))) := Lib.hid (HB4.out.alloc HB4.out.size _)
  have HO6 : Hid (Ow (w4.alloc (Obj.cells #[.int .i64 n0, .slice ga nz gc] 36)) w3.heap.size (w4.alloc (Obj.cells #[.int .i64 n0, .slice ga nz gc] 36)).heap.size (.slice ga nz gc) zs) := Lib.hid (HO4.out.below ((Below.refl _ _).alloc (Nat.le_refl _) _) HO4.out.size).up
  rcases eqOr q0 with hb | hb
  · have HF := Lib.hid (HBad.out (fun h => HX0.out hb (HOk.out.1 h).2.1))
    subst hb
    have r2 := K6.out.set 0 (.int .i64 0)
    have f1 := K6.out.cell 0 rfl
    have f2 := K6.out.frozen 0
    have f3 := r2.cell 1 rfl
    have f4 := r2.frozen 1
    have F7 := Lib.hid (r2.set 1 (.slice none 0 0))
    clear r2
    go_wp2
    have f7 := F7.out
    obtain ⟨Wf, hWf⟩ : ∃ Wf, Wf = ((w4.alloc (Obj.cells #[.int .i64 n0, .slice ga nz gc] 36)).setCell ⟨w.heap.size, 0, none⟩ (.int .i64 0)).setCell ⟨w.heap.size, 1, none⟩ (.slice none 0 0) := ⟨_, rfl⟩
    have hB : Below w.heap.size w Wf := by rw [hWf]; exact below_set (below_set HB6.out (Nat.le_refl _) _ _) (Nat.le_refl _) _ _
    rw [← hWf] at f7 ⊢
    have z0 := f7.cell 0 rfl
    have z1 := f7.cell 1 rfl
    clear f1 f2 f3 f4 hWf
    refine bodyPost_ret (v := .tuple #[.agg #[.int .i64 0, .slice none 0 0], .bool false]) (by simp [results, Tryd.f20, go_sem, z0, z1]) rfl ⟨.slice none 0 0, ?_, ?_, hB⟩
    · rw [HF.out.1, HF.out.2.1]
    · rw [HF.out.2.2]; exact Ow.emptyUp hB.size
  have HY0' := Lib.hid (HY0.out hb)
  subst hb
  rcases eqOr q1 with hb | hb
  · have HF := Lib.hid (HBad.out (fun h => by have := (HOk.out.1 h).2.2.1; rw [← HQ1.out, hb] at this; cases this))
    subst hb
    have r2 := K6.out.set 0 (.int .i64 0)
    have f1 := K6.out.cell 0 rfl
    have f2 := K6.out.frozen 0
    have f3 := r2.cell 1 rfl
    have f4 := r2.frozen 1
    have F7 := Lib.hid (r2.set 1 (.slice none 0 0))
    clear r2
    go_wp2
    have f7 := F7.out
    obtain ⟨Wf, hWf⟩ : ∃ Wf, Wf = ((w4.alloc (Obj.cells #[.int .i64 n0, .slice ga nz gc] 36)).setCell ⟨w.heap.size, 0, none⟩ (.int .i64 0)).setCell ⟨w.heap.size, 1, none⟩ (.slice none 0 0) := ⟨_, rfl⟩
    have hB : Below w.heap.size w Wf := by rw [hWf]; exact below_set (below_set HB6.out (Nat.le_refl _) _ _) (Nat.le_refl _) _ _
    rw [← hWf] at f7 ⊢
    have z0 := f7.cell 0 rfl
    have z1 := f7.cell 1 rfl
    clear f1 f2 f3 f4 hWf
    refine bodyPost_ret (v := .tuple #[.agg #[.int .i64 0, .slice none 0 0], .bool false]) (by simp [results, Tryd.f20, go_sem, z0, z1]) rfl ⟨.slice none 0 0, ?_, ?_, hB⟩
    · rw [HF.out.1, HF.out.2.1]
    · rw [HF.out.2.2]; exact Ow.emptyUp hB.size
  subst hb
  obtain ⟨q2, hq2⟩ : ∃ q, q = vsB rs n0 zs := ⟨_, rfl⟩
  have HQ2 := Lib.hid hq2
  have HVs : Hid (q2 = true ↔ progB rs = true ∧ stoB rs.length n0 zs = true) := Lib.hid (by
    rw [hq2]
    rcases eqOr (progB rs) with h | h
    · rw [vsB_bad h, h]; simp
    · rw [vsB_good h, h]; simp)
  clear hq2
  have m0 := KC.out.cell 0 rfl
  have m1 := KC.out.cell 1 rfl
  go_wp2_with fail
  refine (implValidStore _ rs n0 _ zs _ (HV.out.below HB6.out (Nat.le_refl _)) HO6.out.rd).mono ?_
  rintro e w7 ⟨rfl, bb⟩
  rw [← HQ2.out]
  have K7 := Lib.hid (K6.out.below bb K6.out.lt)
  have KD := Lib.hid (KC.out.below bb KC.out.lt)
  have HB7 := Lib.hid (HB6.out.trans (bb.mono HB6.out.size))
  have HO7 := Lib.hid (HO6.out.below bb (Nat.le_refl _)).up
  clear bb m0 m1
  rcases eqOr q2 with hb | hb
  · have HF := Lib.hid (HBad.out (fun h => by
      have h4 := HOk.out.1 h
      have := HVs.out.2 ⟨h4.1, by rw [HY0'.out.2, HZs.out]; exact h4.2.2.2⟩
      rw [hb] at this; cases this))
    subst hb
    have r2 := K7.out.set 0 (.int .i64 0)
    have f1 := K7.out.cell 0 rfl
    have f2 := K7.out.frozen 0
    have f3 := r2.cell 1 rfl
    have f4 := r2.frozen 1
    have F7 := Lib.hid (r2.set 1 (.slice none 0 0))
    clear r2
    go_wp2
    have f7 := F7.out
    obtain ⟨Wf, hWf⟩ : ∃ Wf, Wf = (w7.setCell ⟨w.heap.size, 0, none⟩ (.int .i64 0)).setCell ⟨w.heap.size, 1, none⟩ (.slice none 0 0) := ⟨_, rfl⟩
    have hB : Below w.heap.size w Wf := by rw [hWf]; exact below_set (below_set HB7.out (Nat.le_refl _) _ _) (Nat.le_refl _) _ _
    rw [← hWf] at f7 ⊢
    have z0 := f7.cell 0 rfl
    have z1 := f7.cell 1 rfl
    clear f1 f2 f3 f4 hWf
    refine bodyPost_ret (v := .tuple #[.agg #[.int .i64 0, .slice none 0 0], .bool false]) (by simp [results, Tryd.f20, go_sem, z0, z1]) rfl ⟨.slice none 0 0, ?_, ?_, hB⟩
    · rw [HF.out.1, HF.out.2.1]
    · rw [HF.out.2.2]; exact Ow.emptyUp hB.size
  have HF := Lib.hid (HGd.out (HOk.out.2 ⟨(HVs.out.1 hb).1, HY0'.out.1, HQ1.out.symm, by rw [← HY0'.out.2, ← HZs.out]; exact (HVs.out.1 hb).2⟩))
  subst hb
  have m0 := KD.out.cell 0 rfl
  have m1 := KD.out.cell 1 rfl
  have r2 := K7.out.set 0 (.int .i64 n0)
  have f1 := K7.out.cell 0 rfl
  have f2 := K7.out.frozen 0
  have f3 := r2.cell 1 rfl
  have f4 := r2.frozen 1
  have F7 := Lib.hid (r2.set 1 (.slice ga nz gc))
  clear r2
  go_wp2
  have f7 := F7.out
  obtain ⟨Wf, hWf⟩ : ∃ Wf, Wf = (w7.setCell ⟨w.heap.size, 0, none⟩ (.int .i64 n0)).setCell ⟨w.heap.size, 1, none⟩ (.slice ga nz gc) := ⟨_, rfl⟩
  have hB : Below w.heap.size w Wf := by rw [hWf]; exact below_set (below_set HB7.out (Nat.le_refl _) _ _) (Nat.le_refl _) _ _
  have hO : Ow Wf w.heap.size Wf.heap.size (.slice ga nz gc) zs := by rw [hWf]; exact (((HO7.out.lowCell w.heap.size 0 _ HLt.out).lowCell w.heap.size 1 _ HLt.out).mono (Nat.le_of_lt HLt.out) (by simp) (Nat.le_refl _))
  rw [← hWf] at f7 ⊢
  have z0 := f7.cell 0 rfl
  have z1 := f7.cell 1 rfl
  clear f1 f2 f3 f4 hWf
  refine bodyPost_ret (v := .tuple #[.agg #[.int .i64 n0, .slice ga nz gc], .bool true]) (by simp [results, Tryd.f20, go_sem, z0, z1]) rfl ⟨.slice ga nz gc, ?_, ?_, hB⟩
  · rw [HF.out.1, HF.out.2.1, HY0'.out.2]
  · rw [HF.out.2.2, ← HZs.out]; exact hO
end Go.Proofs.YtbifkjmmhfnblaaDoor.Ints
