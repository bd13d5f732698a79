/- The iterator of the steps of a cyclic tag system at work: its contract. (out of XStY) -/
import Derived.Shelf.Abstract
import Derived.Shelf.RegionOpen
import Derived.OwnWalkIn
import Derived.TacticsInMore
import Derived.LoopNIn
import Derived.LoopIn
import Derived.Test.YtkjoakdepjpkhaaDoorRyC
namespace Go.Proofs.YtkjoakdepjpkhaaDoor.Ints
open Go.RowKit Go.Shelf
set_option linter.unusedVariables false
set_option linter.unusedSimpArgs false
attribute [local go_sem] Oper.semAt_some
theorem wide_fnY (k : Nat) : Fence.wide.fn k := trivial
attribute [local go_sem, local simp] wide_fnY
def errY : Option Int → Value
  | none => .nilIface
  | some c => .iface 162 (.int .i64 c)
def encY (x : Option Int) : Array Value := #[errY x]
/-- The run's and the iterator's blocks. -/
def TY (w0 : World) (g q lb rb : Nat) (k : Nat) : Prop := k < w0.heap.size ∨ k = g ∨ k = q ∨ k = lb ∨ k = rb
def SSY (g q : Nat) (k : Nat) : Prop := k = g ∨ k = q
/-- What is there when k steps have been made. -/
structure AtY (w0 : World) (g q : Nat) (vz : Value) (zss : List (List Int)) (R : RyE) (B lb rb : Nat) (k : Nat) (j : Nat) (xs : List Int) (W : World) : Prop where
  le : k ≤ B
  ok : j < zss.length ∧ overB 2 xs = true
  r : ryF zss (B - k) j xs (k : Int) = R
  st : ∃ (zs : List Int) (f l : Nat), CyR w0 W g q vz zss zs f l true (j : Int) ∧ rg zs f l = xs
  lim : Cels W lb 2 [.int .i64 (B : Int)]
  run : Cels W rb 168 [.iface 122 (.pointer (some ⟨g, 0, none⟩))]
def StY (w0 : World) (g q : Nat) (vz : Value) (zss : List (List Int)) (R : RyE) (B lb rb : Nat) (ys : List (Option Int)) (W : World) : Prop :=
  (∃ (k j : Nat) (xs : List Int), ys = List.replicate k none ∧ AtY w0 g q vz zss R B lb rb k j xs W) ∨ (∃ k, ys = List.replicate k none ++ [some 5] ∧ R = ⟨5, 0, [], 0, false⟩)
def DnY (w0 : World) (g q : Nat) (vz : Value) (zss : List (List Int)) (R : RyE) (B lb rb : Nat) (ys : List (Option Int)) (W : World) : Prop :=
  (∃ (k j : Nat) (xs : List Int) (b : Bool), ys = List.replicate k none ∧ AtY w0 g q vz zss R B lb rb k j xs W ∧ (b = true ↔ xs.length = 0) ∧ R = ⟨0, (j : Int), xs, (k : Int), b⟩) ∨ (∃ k, ys = List.replicate k none ++ [some 5])
theorem AtY.kept {w0 : World} {g q : Nat} {vz : Value} {zss : List (List Int)} {R : RyE} {B lb rb : Nat} {k j : Nat} {xs : List Int} {W W' : World} (h : AtY w0 g q vz zss R B lb rb k j xs W) (i : Kept (TY w0 g q lb rb) W W') : AtY w0 g q vz zss R B lb rb k j xs W' :=
  ⟨h.le, h.ok, h.r, h.st.imp fun _ h => h.imp fun _ h => h.imp fun _ h => ⟨h.1.kept ⟨i.size, fun m hm p => i.block m hm (by unfold TY; rcases p with p | p | p <;> simp [p])⟩, h.2⟩, h.lim.kept i (by unfold TY; simp), h.run.kept i (by unfold TY; simp)⟩
theorem StY.kept {w0 : World} {g q : Nat} {vz : Value} {zss : List (List Int)} {R : RyE} {B lb rb : Nat} (ys : List (Option Int)) (W W' : World) (h : StY w0 g q vz zss R B lb rb ys W) (j : Kept (TY w0 g q lb rb) W W') : StY w0 g q vz zss R B lb rb ys W' := by
  rcases h with ⟨k, i, xs, e, h⟩ | h
  · exact .inl ⟨k, i, xs, e, h.kept j⟩
  · exact .inr h
theorem DnY.kept {w0 : World} {g q : Nat} {vz : Value} {zss : List (List Int)} {R : RyE} {B lb rb : Nat} (ys : List (Option Int)) (W W' : World) (h : DnY w0 g q vz zss R B lb rb ys W) (j : Kept (TY w0 g q lb rb) W W') : DnY w0 g q vz zss R B lb rb ys W' := by
  rcases h with ⟨k, i, xs, b, e, h, hr⟩ | h
  · exact .inl ⟨k, i, xs, b, e, h.kept j, hr⟩
  · exact .inr h
set_option maxRecDepth 100000 in
set_option maxHeartbeats 4000000 in
theorem stepsY (n : Nat) (hn : 1 ≤ n) (w0 : World) (g q : Nat) (vz : Value) (zss : List (List Int)) (R : RyE) (B lb rb : Nat) (hp : cycB zss = true) (hB : B ≤ 20000) (hne : lb ≠ g ∧ lb ≠ q ∧ rb ≠ g ∧ rb ≠ q) :
    SeqRun Fence.wide n Tryd.prog 135 #[.pointer (some ⟨lb, 0, none⟩), .pointer (some ⟨rb, 0, none⟩)] encY (SSY g q) (TY w0 g q lb rb)
      (StY w0 g q vz zss R B lb rb) (DnY w0 g q vz zss R B lb rb) := by
  intro l J Jx W hJ hY h0 hst
  have HST : Hid (∃ (j : Nat) (xs : List Int), AtY w0 g q vz zss R B lb rb 0 j xs W) := Lib.hid (by
    rcases hst with ⟨k, j, xs, e, h⟩ | ⟨k, e, _⟩
    · obtain rfl : k = 0 := by cases k with
        | zero => rfl
        | succ k => simp [List.replicate_succ] at e
      exact ⟨j, xs, h⟩
    · simp at e)
  have HJ := Lib.hid hJ
  have HY := Lib.hid hY
  have HP := Lib.hid hp
  have HNE := Lib.hid hne
  have n1 := nlYs g
  have m1 := mtYs g
  have n2 := nlYh g
  have m2 := mtYh g
  clear hJ hY hst hp hne
  refine callsIn_of_wp Tryd.func135 rfl trivial ?_ rfl
  simp only [Tryd.ntmps135, List.size_toArray, List.length_cons, List.length_nil, Nat.reduceAdd, Nat.reduceSub, Array.replicate_succ, Array.replicate_zero, List.push_toArray, List.append_toArray, List.nil_append, List.cons_append]
  gi_wp2
  gi_loopw [4] (fun m wr => ∃ (k j : Nat) (xs : List Int), m = .int .i64 (k : Int) ∧ AtY w0 g q vz zss R B lb rb k j xs wr ∧ J (List.replicate k none) wr) (fun m _ => B - (intOf m).toNat)
  case atStart =>
    obtain ⟨j, xs, h⟩ := HST.out
    exact ⟨0, j, xs, rfl, h, h0⟩
  case round =>
    obtain ⟨k, j, xs, rfl, hat, hj⟩ := hrel
    have HA := Lib.hid hat
    have HJJ := Lib.hid hj
    have y0 := hat.lim.cell 0 rfl
    have y1 := hat.run.cell 0 rfl
    have hkB := hat.le
    obtain ⟨zs, f, lq, hr, hrx⟩ := hat.st
    have HTR := Lib.hid hr
    have HRX := Lib.hid hrx
    clear hat hj h0 hr hrx
    by_cases hlt : k < B
    rotate_left
    · obtain rfl : k = B := by omega
      have hd : decide ((k : Int) < (k : Int)) = false := by simp
      obtain ⟨bh, hbh⟩ : ∃ b : Bool, b = true ↔ xs.length = 0 := by
        by_cases h : xs.length = 0
        · exact ⟨true, by simp [h]⟩
        · exact ⟨false, by simp [h]⟩
      have HBH := Lib.hid hbh
      clear hlt hbh
      gi_wp2
      go_end0
      exact ⟨⟨_, rfl⟩, .inl ⟨_, .inl ⟨k, j, xs, bh, rfl, HA.out, HBH.out, by have := HA.out.r; rw [Nat.sub_self] at this; rw [← this]; exact ryF_zero _ _ HBH.out⟩, HJJ.out⟩⟩
    have HLT := Lib.hid hlt
    have hd : decide ((k : Int) < (B : Int)) = true := decide_eq_true (by omega)
    have HSS : ∀ (W1 W2 : World), Below W1.heap.size W1 W2 → AtY w0 g q vz zss R B lb rb k j xs W1 → AtY w0 g q vz zss R B lb rb k j xs W2 := fun W1 W2 hb h => h.kept ⟨hb.size, fun i hi _ => hb.block i hi⟩
    have HS2 := Lib.hid HSS
    clear hlt HSS
    by_cases hh : xs.length = 0
    · have HH := Lib.hid hh
      have hl0 : lq = xs.length := by rw [← HRX.out, rg_len]
      have hc := cyHalts HTR.out true (by simp [hl0, hh])
      have HC := Lib.hid hc
      clear hc hh hl0
      gi_wp2_with fail
      gi_at_call 193
      refine (callsIn_wide.2 HC.out).mono ?_
      rintro e w1 ⟨rfl, rfl⟩
      have A1 := HA
      have J1 := HJJ
      clear y0 y1
      gi_wp2
      go_end0
      refine ⟨⟨_, rfl⟩, .inl ⟨_, .inl ⟨k, j, xs, true, rfl, A1.out, ⟨fun _ => HH.out, fun _ => rfl⟩, ?_⟩, J1.out⟩⟩
      have := A1.out.r
      rw [ryF_halt _ _ _ HH.out] at this
      exact this.symm
    have HNH := Lib.hid hh
    have hl0 : lq = xs.length := by rw [← HRX.out, rg_len]
    have hc := cyHalts HTR.out false (by simp [hl0, hh])
    have HLQ : Hid (0 < lq) := Lib.hid (by omega)
    have HC := Lib.hid hc
    have HOK := Lib.hid HA.out.ok
    clear hc hh hl0
    gi_wp2_with fail
    gi_at_call 193
    refine (callsIn_wide.2 HC.out).mono ?_
    rintro e w1 ⟨rfl, rfl⟩
    have A1 := HA
    have J1 := HJJ
    have T1 := HTR
    clear y0 y1
    have y0 := A1.out.lim.cell 0 rfl
    have y1 := A1.out.run.cell 0 rfl
    have HBK : Hid (B - k = (B - (k + 1)) + 1) := Lib.hid (by have := HLT.out; omega)
    by_cases hv : (apC zss j xs).length ≤ 1000
    · have HSTP := Lib.hid (cyStepGo T1.out HP.out HOK.out.1 HLQ.out (by rw [HRX.out]; exact hv))
      have HV := Lib.hid hv
      clear hv
      gi_wp2_with fail
      gi_at_call 194
      refine (callsIn_wide.2 HSTP.out).mono ?_
      rintro e w2 ⟨zs2, f2, l2, rfl, hst2, hrx2, hon⟩
      rw [HRX.out] at hrx2
      have hr2 : ryF zss (B - (k + 1)) (nxJ zss j) (apC zss j xs) (((k + 1 : Nat)) : Int) = R := by
        have := A1.out.r
        rw [HBK.out, ryF_next _ _ _ HNH.out HV.out] at this
        rw [← this]; rfl
      have A2 : Hid (AtY w0 g q vz zss R B lb rb (k + 1) (nxJ zss j) (apC zss j xs) w2) := Lib.hid
        ⟨by have := HLT.out; omega, ⟨nxJ_lt HP.out _, apC_ok HP.out HOK.out.1 HOK.out.2 HV.out⟩, hr2, ⟨zs2, f2, l2, hst2, hrx2⟩, hon.kept A1.out.lim (by have := HNE.out; rintro (h | h) <;> omega), hon.kept A1.out.run (by have := HNE.out; rintro (h | h) <;> omega)⟩
      have J2 := Lib.hid (HJ.out _ _ _ J1.out (show Only (SSY g q) _ w2 from hon))
      have HRP : Hid (List.replicate k (none : Option Int) ++ [none] = List.replicate (k + 1) none) := Lib.hid List.replicate_succ'.symm
      obtain ⟨fn, tmps, assign, body, hy, hR⟩ := HY.out (List.replicate k none) none w2 J2.out (.inl ⟨k + 1, _, _, HRP.out, A2.out⟩)
      simp only [encY, errY] at hy
      clear hst2 hrx2 hon hr2 y0 y1
      have HRR := Lib.hid hR
      clear hR
      gi_wp2
      refine HRR.out.mono ?_
      rintro e W3 (⟨rfl, hJ3, hk3⟩ | ⟨rfl, hJx3⟩)
      · have A3 := Lib.hid (A2.out.kept hk3)
        have J3 := Lib.hid hJ3
        clear hJ3 hk3 hy
        gi_wp2
        go_roundw
        case rel => exact ⟨k + 1, _, _, by go_num, A3.out, by rw [← HRP.out]; exact J3.out⟩
        case measure => have := HLT.out; simp [intOf]; omega
      · have J3 := Lib.hid hJx3
        clear hJx3 hy
        gi_wp2
        refine bodyPost_ret (results_none rfl _ _ _) rfl ?_
        exact ⟨⟨_, rfl⟩, .inr ⟨_, J3.out⟩⟩
    · have HSTP := Lib.hid (cyStepFull T1.out HP.out HOK.out.1 HLQ.out (by rw [HRX.out]; omega))
      have HV := Lib.hid hv
      clear hv
      gi_wp2_with fail
      gi_at_call 194
      refine (callsIn_wide.2 HSTP.out).mono ?_
      rintro e w2 ⟨rfl, hb2⟩
      have hR5 : R = ⟨5, 0, [], 0, false⟩ := by
        have := A1.out.r
        rw [HBK.out, ryF_full _ _ _ HNH.out HV.out] at this
        exact this.symm
      have J2 := Lib.hid (HJ.out _ _ _ J1.out (show Only (SSY g q) _ w2 from hb2))
      obtain ⟨fn, tmps, assign, body, hy, hR⟩ := HY.out (List.replicate k none) (some 5) w2 J2.out (.inr ⟨k, rfl, hR5⟩)
      simp only [encY, errY] at hy
      clear hb2 hR5 y0 y1
      have HRR := Lib.hid hR
      clear hR
      gi_wp2
      refine HRR.out.mono ?_
      rintro e W3 (⟨rfl, hJ3, hk3⟩ | ⟨rfl, hJx3⟩)
      · have J3 := Lib.hid hJ3
        clear hJ3 hk3 hy
        gi_wp2
        refine bodyPost_ret (results_none rfl _ _ _) rfl ?_
        exact ⟨⟨_, rfl⟩, .inl ⟨_, .inr ⟨k, rfl⟩, J3.out⟩⟩
      · have J3 := Lib.hid hJx3
        clear hJx3 hy
        gi_wp2
        refine bodyPost_ret (results_none rfl _ _ _) rfl ?_
        exact ⟨⟨_, rfl⟩, .inr ⟨_, J3.out⟩⟩
end Go.Proofs.YtkjoakdepjpkhaaDoor.Ints
