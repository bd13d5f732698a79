/- The model's JoinPrograms, LoopProgram, BranchProgram. (gen_prgt.py) -/
import Derived.Test.YtfcakadmiflcdaaPrgS
import Derived.Test.YtfcakadmiflcdaaInsL
namespace Go.Proofs.Ytfcakadmiflcdaa.Ints
open Go.RowKit
set_option linter.unusedVariables false
set_option linter.unusedSimpArgs false
theorem sh_step (ps : List Ins) (by' e : Int) (k : Nat) (h : k < ps.length) (q : Ins) (hq : q = shI ps.length by' e (ps.getD k zIns)) :
    ((shL by' e ps).take k ++ ps.drop k).set k q = (shL by' e ps).take (k + 1) ++ ps.drop (k + 1) := by
  have hk : ((shL by' e ps).take k).length = k := by simp; omega
  rw [List.set_append_right _ _ (by rw [hk]; exact Nat.le_refl _), hk, Nat.sub_self, List.drop_eq_getElem_cons h, List.set_cons_zero, List.take_succ_eq_append_getElem (by simpa using h)]
  have : q = (shL by' e ps)[k]'(by simpa using h) := by rw [hq, ← shL_at by' e ps k h, List.getD_eq_getElem?_getD, List.getElem?_eq_getElem (by simpa using h)]; rfl
  rw [this, List.append_assoc]; rfl
theorem sh_get (ps : List Ins) (by' e : Int) (k : Nat) (h : k < ps.length) : ((shL by' e ps).take k ++ ps.drop k).getD k zIns = ps.getD k zIns := by
  have hk : ((shL by' e ps).take k).length = k := by simp; omega
  simp only [List.getD_eq_getElem?_getD]
  rw [List.getElem?_append_right (by rw [hk]; exact Nat.le_refl _), hk, Nat.sub_self]
  simp
set_option maxHeartbeats 4000000 in
set_option maxRecDepth 100000 in
theorem specShift (v : Value) (ps : List Ins) (by' e : Int) (w : World) (hv : RdIns w v ps) (hok : Pok ps) (h2 : 0 ≤ by') (h3 : by' ≤ 1000) (h4 : 0 ≤ e) (h5 : e ≤ 2000) :
    Calls Try.prog 110 #[v, .int .i64 by', .int .i64 e] w fun e' w' => ∃ u, e' = .returned u ∧ OwIns w' w.heap.size w'.heap.size u (shL by' e ps) ∧ Below w.heap.size w w' := by
  have HV := Lib.hid hv
  have HOK := Lib.hid hok
  have HFS : Hid (FitIns (shL by' e ps)) := Lib.hid (FitIns.sh hok h2 h3 h4 h5)
  have hl4 := hok.len
  obtain ⟨_, hf, a, c, rfl, _, hr⟩ := hv
  have HR := Lib.hid hr
  have HFP := Lib.hid hf
  have hrow : (w.alloc (.cells #[] 65)).ownsRow w.heap.size 65 4 (.slice (some ⟨w.heap.size, 0, none⟩) 0 0) ([] : List Ins).length (csIns []) := World.ownsRow_made w #[] 0 (Nat.le_refl _) (by unfold maxLen; omega) (by simp)
  have HW := Lib.hid ((Below.refl w.heap.size w).alloc (Nat.le_refl _) (.cells #[] 65))
  clear hr hf hok
  go_enter Try.func110, Try.ntmps110
  go_wp2_with (at_builtin; refine wpList_append_Ins rfl _ _ rfl w.heap.size _ _ [] ps rfl hrow rfl (HV.out.below HW.out (Nat.le_refl _)) ?c1 ?c2 ?_)
  case c1 => simp; omega
  case c2 => simp
  intro v' w1 hown1 hgrow1
  have HB1 := Lib.hid (HW.out.grown hgrow1 (by simp) (fun k hk => by cases hk; exact Nat.le_refl _))
  have HO1 : Hid (OwIns w1 w.heap.size w1.heap.size v' ps) := Lib.hid ⟨by omega, HFP.out, by simpa using hown1, fun k hk => (hown1.lt k hk).2, Nat.le_refl _, HB1.out.size⟩
  obtain ⟨ga, gc, hv'⟩ := HO1.out.shape
  subst hv'
  clear hown1 hgrow1 hrow
  go_wp2
  go_loopw [9] (fun s wr => ∃ k : Nat, k ≤ ps.length ∧ s = .int .i64 k ∧ OwIns wr w.heap.size w1.heap.size (.slice ga ps.length gc) ((shL by' e ps).take k ++ ps.drop k) ∧ Below w.heap.size w wr) (fun s _ => ps.length - (intOf s).toNat)
  case atStart => exact ⟨0, Nat.zero_le _, rfl, by simpa using HO1.out, HB1.out⟩
  case round =>
    obtain ⟨k, hk, rfl, hor, hbr⟩ := hrel
    by_cases hlt : k < ps.length
    rotate_left
    · obtain rfl : k = ps.length := by omega
      have HO := Lib.hid hor
      have HB := Lib.hid hbr
      clear hor hbr
      go_wp2
      go_ret
      exact ⟨_, rfl, by have := HO.out; rw [List.take_of_length_le (by simp), List.drop_length, List.append_nil] at this; exact this.up, HB.out⟩
    obtain ⟨b, o, rfl, hb, hcell⟩ := HR.out (by intro h0; rw [h0] at hlt; simp at hlt)
    obtain ⟨c0, _, c2, c3⟩ := hcell k hlt
    replace c0 := (hbr.cell (p := ⟨b, o + k * 4, none⟩) hb).trans c0
    replace c2 := (hbr.cell (p := ⟨b, o + k * 4 + 2, none⟩) hb).trans c2
    replace c3 := (hbr.cell (p := ⟨b, o + k * 4 + 3, none⟩) hb).trans c3
    have hlen : ((shL by' e ps).take k ++ ps.drop k).length = ps.length := by simp; omega
    rcases hor.form with ⟨hn, hz⟩ | ⟨g, gc', hv', hBg, hgT, _, _, hrow⟩
    · rw [hz] at hlen; simp at hlen; omega
    rw [hlen] at hv' hrow
    simp only [Value.slice.injEq] at hv'
    obtain ⟨rfl, _, rfl⟩ := hv'
    have hstep := sh_step ps by' e k hlt
    have hget := sh_get ps by' e k hlt
    have hin := HOK.out.all k hlt
    obtain ⟨Z, hZ⟩ : ∃ Z, Z = (shL by' e ps).take k ++ ps.drop k := ⟨_, rfl⟩
    rw [← hZ] at hor hrow hstep hget hlen
    have hkZ : k < Z.length := by omega
    obtain ⟨r, hr0⟩ : ∃ r, r = ps.getD k zIns := ⟨_, rfl⟩
    rw [← hr0] at c0 c2 c3 hstep hget hin
    obtain ⟨x, y, z, u⟩ := r
    have hfin : Hid (∀ W : World, W.ownsRow w.heap.size 65 4 (.slice (some ⟨g, 0, none⟩) ps.length gc) ps.length (csIns (Z.set k (shI ps.length by' e ⟨x, y, z, u⟩))) → wr.grownBy W (some g) →
        OwIns W w.heap.size w1.heap.size (.slice (some ⟨g, 0, none⟩) ps.length gc) ((shL by' e ps).take (k + 1) ++ ps.drop (k + 1)) ∧ Below w.heap.size w W) := Lib.hid (fun W h1 h2 => by
      rw [hstep _ rfl] at h1
      have hll : ((shL by' e ps).take (k + 1) ++ ps.drop (k + 1)).length = ps.length := by simp; omega
      exact ⟨⟨by omega, fun q hq => by
        rcases List.mem_append.1 hq with hq | hq
        · exact HFS.out q (List.mem_of_mem_take hq)
        · exact HFP.out q (List.mem_of_mem_drop hq), by rw [hll]; exact h1, hor.top, Nat.le_trans hor.size h2.size, hor.base⟩, hbr.grown h2 hbr.size (fun q hq => by cases hq; exact hBg)⟩)
    have i0 : (0 : Int) ≤ (k : Int) := by omega
    have i1 : (k : Int) < (ps.length : Int) := by omega
    obtain ⟨_, ⟨z0, z1⟩, hkd⟩ := hin
    dsimp only at z0 z1 hkd c0 c2 c3
    have hb1 : b < wr.heap.size := Nat.lt_of_lt_of_le hb hbr.size
    have hbg : b ≠ g := by omega
    obtain ⟨zn, hzn⟩ : ∃ m, m = mvT ps.length by' e z := ⟨_, rfl⟩
    obtain ⟨un, hun⟩ : ∃ m, m = mvT ps.length by' e u := ⟨_, rfl⟩
    -- the store of Then
    obtain ⟨d0, d1, hs1, hg1⟩ := rowIns_set2 hrow hkZ zn
    rw [hget] at hs1
    have hg1c : ∀ off, (wr.setCell ⟨g, k * 4 + 2, none⟩ (.int .i64 zn)).cell? ⟨b, off, none⟩ = wr.cell? ⟨b, off, none⟩ := fun off => World.cell?_of_block (a := ⟨b, off, none⟩) (hg1.block b hb1 (by simp; exact hbg))
    have hkZ1 : k < (Z.set k { kd := x, rg := y, th := zn, el := u }).length := by simpa using hkZ
    obtain ⟨d2, d3, hs2, hg2⟩ := rowIns_set3 hs1 hkZ1 un
    have hgt : (Z.set k { kd := x, rg := y, th := zn, el := u }).getD k zIns = { kd := x, rg := y, th := zn, el := u } := by simp [List.getD_eq_getElem?_getD, hkZ]
    rw [hgt] at d2 hs2
    rw [List.set_set] at hs2
    dsimp only at d2 hs2
    have HS1 := Lib.hid hs1
    have HS2 := Lib.hid hs2
    have HG1 := Lib.hid hg1
    have HG2 := Lib.hid (grown_trans hg1 hg2)
    have e0 := (hg1c _).trans c0
    have e3 := (hg1c _).trans c3
    have HZN := Lib.hid hzn
    have HUN := Lib.hid hun
    clear hcell hor hbr hrow hstep hget hr0 hs1 hs2 hg1 hg2 hg1c hzn hun hlen hkZ hkZ1 hgt hZ
    rcases hkd with ⟨rfl, rfl⟩ | ⟨rfl, u0, u1⟩
    · have k1 : ((0 : Int) == 0) = true := rfl
      clear d2 d3 e3
      have HE : Hid (shI ps.length by' e ⟨0, y, z, 0⟩ = ⟨0, y, zn, 0⟩) := Lib.hid (by rw [HZN.out]; rfl)
      by_cases hz : z = (ps.length : Int)
      · have bz : ((z : Int) == (ps.length : Int)) = true := by simp [hz]
        have mz : e = zn := by rw [HZN.out]; simp [mvT, hz]
        subst mz
        clear hz
        have HX := Lib.hid (hfin.out _ (by rw [HE.out]; exact HS1.out) HG1.out)
        go_wp2
        go_roundw
        case rel => exact ⟨k + 1, by omega, by go_num, HX.out⟩
        case measure => simp [intOf]; omega
      · have bz : ((z : Int) == (ps.length : Int)) = false := by simp [hz]
        have mz : zn = z + by' := by rw [HZN.out]; simp [mvT, hz]
        have wz : IntKind.i64.wrap (z + by') = zn := by rw [mz, IntKind.wrap_i64]; omega
        clear mz
        clear hz
        have HX := Lib.hid (hfin.out _ (by rw [HE.out]; exact HS1.out) HG1.out)
        go_wp2
        go_roundw
        case rel => exact ⟨k + 1, by omega, by go_num, HX.out⟩
        case measure => simp [intOf]; omega
    · have k1 : ((1 : Int) == 0) = false := rfl
      have HE : Hid (shI ps.length by' e ⟨1, y, z, u⟩ = ⟨1, y, zn, un⟩) := Lib.hid (by rw [HZN.out, HUN.out]; rfl)
      by_cases hz : z = (ps.length : Int)
      · have bz : ((z : Int) == (ps.length : Int)) = true := by simp [hz]
        have mz : e = zn := by rw [HZN.out]; simp [mvT, hz]
        subst mz
        clear hz
        by_cases hu : u = (ps.length : Int)
        · have bu : ((u : Int) == (ps.length : Int)) = true := by simp [hu]
          have mu : e = un := by rw [HUN.out]; simp [mvT, hu]
          subst mu
          clear hu
          have HX := Lib.hid (hfin.out _ (by rw [HE.out]; exact HS2.out) HG2.out)
          go_wp2
          go_roundw
          case rel => exact ⟨k + 1, by omega, by go_num, HX.out⟩
          case measure => simp [intOf]; omega
        · have bu : ((u : Int) == (ps.length : Int)) = false := by simp [hu]
          have mu : un = u + by' := by rw [HUN.out]; simp [mvT, hu]
          have wu : IntKind.i64.wrap (u + by') = un := by rw [mu, IntKind.wrap_i64]; omega
          clear mu
          clear hu
          have HX := Lib.hid (hfin.out _ (by rw [HE.out]; exact HS2.out) HG2.out)
          go_wp2
          go_roundw
          case rel => exact ⟨k + 1, by omega, by go_num, HX.out⟩
          case measure => simp [intOf]; omega
      · have bz : ((z : Int) == (ps.length : Int)) = false := by simp [hz]
        have mz : zn = z + by' := by rw [HZN.out]; simp [mvT, hz]
        have wz : IntKind.i64.wrap (z + by') = zn := by rw [mz, IntKind.wrap_i64]; omega
        clear mz
        clear hz
        by_cases hu : u = (ps.length : Int)
        · have bu : ((u : Int) == (ps.length : Int)) = true := by simp [hu]
          have mu : e = un := by rw [HUN.out]; simp [mvT, hu]
          subst mu
          clear hu
          have HX := Lib.hid (hfin.out _ (by rw [HE.out]; exact HS2.out) HG2.out)
          go_wp2
          go_roundw
          case rel => exact ⟨k + 1, by omega, by go_num, HX.out⟩
          case measure => simp [intOf]; omega
        · have bu : ((u : Int) == (ps.length : Int)) = false := by simp [hu]
          have mu : un = u + by' := by rw [HUN.out]; simp [mvT, hu]
          have wu : IntKind.i64.wrap (u + by') = un := by rw [mu, IntKind.wrap_i64]; omega
          clear mu
          clear hu
          have HX := Lib.hid (hfin.out _ (by rw [HE.out]; exact HS2.out) HG2.out)
          go_wp2
          go_roundw
          case rel => exact ⟨k + 1, by omega, by go_num, HX.out⟩
          case measure => simp [intOf]; omega
end Go.Proofs.Ytfcakadmiflcdaa.Ints
