/- The iterator of the steps of a store at work: its contract. -/
import Derived.Shelf.Abstract
import Derived.Shelf.RegionOpen
import Derived.OwnWalkIn
import Derived.TacticsInMore
import Derived.LoopNIn
import Derived.LoopIn
import Derived.Test.YtgbhbbapkpgmiaaDoorRpC
namespace Go.Proofs.YtgbhbbapkpgmiaaDoor.Ints
open Go.RowKit Go.Shelf
set_option linter.unusedVariables false
set_option linter.unusedSimpArgs false
attribute [local go_sem] Oper.semAt_some
theorem wide_fnP (k : Nat) : Fence.wide.fn k := trivial
attribute [local go_sem, local simp] wide_fnP
def errP : Option Int → Value
  | none => .nilIface
  | some c => .iface 204 (.int .i64 c)
def encP (x : Option Int) : Array Value := #[errP x]
/-- The run's and the iterator's blocks. -/
def TP (w0 : World) (g gb lb rb : Nat) (k : Nat) : Prop := k < w0.heap.size ∨ k = g ∨ k = gb ∨ k = lb ∨ k = rb
def SP (g gb : Nat) (k : Nat) : Prop := k = g ∨ k = gb
/-- What is there when k steps have been made. -/
structure AtP (w0 : World) (g gb c0 : Nat) (pa : Option Addr) (pc : Nat) (rs : List Ins) (R : Rse) (B lb rb : Nat) (k : Nat) (at' : Int) (cs : List Int) (W : World) : Prop where
  le : k ≤ B
  ok : SOk rs.length at' cs
  r : rpF rs (B - k) at' cs (k : Int) = R
  st : StR w0 W g 169 gb c0 pa pc rs at' cs true 1000000
  lim : Cels W lb 2 [.int .i64 (B : Int)]
  run : Cels W rb 173 [.iface 115 (.pointer (some ⟨g, 0, none⟩))]
def StP (w0 : World) (g gb c0 : Nat) (pa : Option Addr) (pc : Nat) (rs : List Ins) (R : Rse) (B lb rb : Nat) (xs : List (Option Int)) (W : World) : Prop :=
  (∃ (k : Nat) (at' : Int) (cs : List Int), xs = List.replicate k none ∧ AtP w0 g gb c0 pa pc rs R B lb rb k at' cs W) ∨ (∃ k, xs = List.replicate k none ++ [some 5] ∧ R = ⟨5, 0, [], 0, false⟩)
def DnP (w0 : World) (g gb c0 : Nat) (pa : Option Addr) (pc : Nat) (rs : List Ins) (R : Rse) (B lb rb : Nat) (xs : List (Option Int)) (W : World) : Prop :=
  (∃ (k : Nat) (at' : Int) (cs : List Int), xs = List.replicate k none ∧ AtP w0 g gb c0 pa pc rs R B lb rb k at' cs W ∧ R = ⟨0, at', cs, (k : Int), at' == (rs.length : Int)⟩) ∨ (∃ k, xs = List.replicate k none ++ [some 5])
theorem AtP.kept {w0 : World} {g gb c0 : Nat} {pa : Option Addr} {pc : Nat} {rs : List Ins} {R : Rse} {B lb rb : Nat} {k : Nat} {at' : Int} {cs : List Int} {W W' : World} (h : AtP w0 g gb c0 pa pc rs R B lb rb k at' cs W) (q : Kept (TP w0 g gb lb rb) W W') : AtP w0 g gb c0 pa pc rs R B lb rb k at' cs W' :=
  ⟨h.le, h.ok, h.r, h.st.kept ⟨q.size, fun i hi p => q.block i hi (by unfold TP; rcases p with p | p | p <;> simp [p])⟩, h.lim.kept q (by unfold TP; simp), h.run.kept q (by unfold TP; simp)⟩
theorem StP.kept {w0 : World} {g gb c0 : Nat} {pa : Option Addr} {pc : Nat} {rs : List Ins} {R : Rse} {B lb rb : Nat} (xs : List (Option Int)) (W W' : World) (h : StP w0 g gb c0 pa pc rs R B lb rb xs W) (q : Kept (TP w0 g gb lb rb) W W') : StP w0 g gb c0 pa pc rs R B lb rb xs W' := by
  rcases h with ⟨k, at', cs, e, h⟩ | h
  · exact .inl ⟨k, at', cs, e, h.kept q⟩
  · exact .inr h
theorem DnP.kept {w0 : World} {g gb c0 : Nat} {pa : Option Addr} {pc : Nat} {rs : List Ins} {R : Rse} {B lb rb : Nat} (xs : List (Option Int)) (W W' : World) (h : DnP w0 g gb c0 pa pc rs R B lb rb xs W) (q : Kept (TP w0 g gb lb rb) W W') : DnP w0 g gb c0 pa pc rs R B lb rb xs W' := by
  rcases h with ⟨k, at', cs, e, h, hr⟩ | h
  · exact .inl ⟨k, at', cs, e, h.kept q, hr⟩
  · exact .inr h
set_option maxRecDepth 100000 in
set_option maxHeartbeats 4000000 in
theorem stepsP (n : Nat) (hn : 1 ≤ n) (w0 : World) (g gb c0 : Nat) (pa : Option Addr) (pc : Nat) (rs : List Ins) (R : Rse) (B lb rb : Nat) (hp : Pok rs) (hB : B ≤ 20000) (hne : lb ≠ g ∧ lb ≠ gb ∧ rb ≠ g ∧ rb ≠ gb) :
    SeqRun Fence.wide n Tryd.prog 137 #[.pointer (some ⟨lb, 0, none⟩), .pointer (some ⟨rb, 0, none⟩)] encP (SP g gb) (TP w0 g gb lb rb)
      (StP w0 g gb c0 pa pc rs R B lb rb) (DnP w0 g gb c0 pa pc rs R B lb rb) := by
  intro l J Jx W hJ hY h0 hst
  have HST : Hid (∃ (at' : Int) (cs : List Int), AtP w0 g gb c0 pa pc rs R B lb rb 0 at' cs W) := Lib.hid (by
    rcases hst with ⟨k, at', cs, e, h⟩ | ⟨k, e, _⟩
    · obtain rfl : k = 0 := by cases k with
        | zero => rfl
        | succ k => simp [List.replicate_succ] at e
      exact ⟨at', cs, h⟩
    · simp at e)
  have HJ := Lib.hid hJ
  have HY := Lib.hid hY
  have HP := Lib.hid hp
  have HNE := Lib.hid hne
  have n1 := nlSs g
  have m1 := mtSs g
  have n2 := nlSh g
  have m2 := mtSh g
  clear hJ hY hst hp hne
  refine callsIn_of_wp Tryd.func137 rfl trivial ?_ rfl
  simp only [Tryd.ntmps137, List.size_toArray, List.length_cons, List.length_nil, Nat.reduceAdd, Nat.reduceSub, Array.replicate_succ, Array.replicate_zero, List.push_toArray, List.append_toArray, List.nil_append, List.cons_append]
  gi_wp2
  gi_loopw [4] (fun m wr => ∃ (k : Nat) (at' : Int) (cs : List Int), m = .int .i64 (k : Int) ∧ AtP w0 g gb c0 pa pc rs R B lb rb k at' cs wr ∧ J (List.replicate k none) wr) (fun m _ => B - (intOf m).toNat)
  case atStart =>
    obtain ⟨at', cs, h⟩ := HST.out
    exact ⟨0, at', cs, rfl, h, h0⟩
  case round =>
    obtain ⟨k, at', cs, rfl, hat, hj⟩ := hrel
    have HA := Lib.hid hat
    have HJJ := Lib.hid hj
    have y0 := hat.lim.cell 0 rfl
    have y1 := hat.run.cell 0 rfl
    have hkB := hat.le
    clear hat hj h0
    by_cases hlt : k < B
    rotate_left
    · obtain rfl : k = B := by omega
      have hd : decide ((k : Int) < (k : Int)) = false := by simp
      clear hlt
      gi_wp2
      go_end0
      exact ⟨⟨_, rfl⟩, .inl ⟨_, .inl ⟨k, at', cs, rfl, HA.out, by have := HA.out.r; rw [Nat.sub_self] at this; rw [← this]; rfl⟩, HJJ.out⟩⟩
    have HLT := Lib.hid hlt
    have hd : decide ((k : Int) < (B : Int)) = true := decide_eq_true (by omega)
    have HSS : ∀ (W1 W2 : World), Below W1.heap.size W1 W2 → AtP w0 g gb c0 pa pc rs R B lb rb k at' cs W1 → AtP w0 g gb c0 pa pc rs R B lb rb k at' cs W2 := fun W1 W2 hb h => h.kept ⟨hb.size, fun i hi _ => hb.block i hi⟩
    have HS2 := Lib.hid HSS
    clear hlt HSS
    by_cases hh : at' = (rs.length : Int)
    · have HH := Lib.hid hh
      have hc := strHalts HA.out.st true (by simp [hh])
      have HC := Lib.hid hc
      clear hc hh
      gi_wp2_with fail
      gi_at_call 190
      refine (callsIn_wide.2 HC.out).mono ?_
      rintro e w1 ⟨rfl, hb1⟩
      have A1 := Lib.hid (HS2.out _ _ hb1 HA.out)
      have J1 := Lib.hid (HJ.out _ _ _ HJJ.out (Only.of_below hb1))
      clear hb1 y0 y1
      gi_wp2
      go_end0
      refine ⟨⟨_, rfl⟩, .inl ⟨_, .inl ⟨k, at', cs, rfl, A1.out, ?_⟩, J1.out⟩⟩
      have := A1.out.r
      rw [HH.out, rpF_halt] at this
      rw [← this, HH.out]; simp
    have hc := strHalts HA.out.st false (by simp [hh])
    have HC := Lib.hid hc
    have HOK := Lib.hid HA.out.ok
    obtain ⟨m, rfl⟩ : ∃ m : Nat, at' = (m : Int) := ⟨at'.toNat, by have := HOK.out.1.1; omega⟩
    have HM : Hid (m < rs.length) := Lib.hid (by have := HOK.out.1.2; omega)
    clear hc hh
    gi_wp2_with fail
    gi_at_call 190
    refine (callsIn_wide.2 HC.out).mono ?_
    rintro e w1 ⟨rfl, hb1⟩
    have A1 := Lib.hid (HS2.out _ _ hb1 HA.out)
    have J1 := Lib.hid (HJ.out _ _ _ HJJ.out (Only.of_below hb1))
    clear hb1 y0 y1
    have y0 := A1.out.lim.cell 0 rfl
    have y1 := A1.out.run.cell 0 rfl
    have HSTP := Lib.hid (strStepGo m A1.out.st HM.out HP.out (rg_lt HP.out HOK.out.2.1 HM.out).2 (dig_all HOK.out.2.2) (by omega))
    gi_wp2_with fail
    gi_at_call 191
    refine (callsIn_wide.2 HSTP.out).mono ?_
    rintro e w2 hq
    unfold StepPost at hq
    have HBK : Hid (B - k = (B - (k + 1)) + 1) := Lib.hid (by have := HLT.out; omega)
    by_cases hv : ¬ fullP rs m cs
    · have hv' : ¬ ((rs.getD m zIns).kd = 0 ∧ cs.getD (rs.getD m zIns).rg.toNat 0 = 1000000) := hv
      rw [if_neg hv'] at hq
      obtain ⟨rfl, hst2, hon⟩ := hq
      have hr2 : rpF rs (B - (k + 1)) (stAt rs m cs) (stCs rs m cs) (((k + 1 : Nat)) : Int) = R := by
        have := A1.out.r
        rw [HBK.out, rpF_next _ _ _ HM.out hv] at this
        rw [← this]; rfl
      have A2 : Hid (AtP w0 g gb c0 pa pc rs R B lb rb (k + 1) (stAt rs m cs) (stCs rs m cs) w2) := Lib.hid
        ⟨by have := HLT.out; omega, sp_ok HP.out HM.out HOK.out hv, hr2, hst2, hon.celsS A1.out.lim (by have := HNE.out; rintro (h | h) <;> omega), hon.celsS A1.out.run (by have := HNE.out; rintro (h | h) <;> omega)⟩
      have J2 := Lib.hid (HJ.out _ _ _ J1.out (show Only (SP g gb) w1 w2 from hon))
      have HRP : Hid (List.replicate k (none : Option Int) ++ [none] = List.replicate (k + 1) none) := Lib.hid List.replicate_succ'.symm
      obtain ⟨fn, tmps, assign, body, hy, hR⟩ := HY.out (List.replicate k none) none w2 J2.out (.inl ⟨k + 1, _, _, HRP.out, A2.out⟩)
      simp only [encP, errP] at hy
      clear hst2 hon hr2 y0 y1 hv hv'
      have HRR := Lib.hid hR
      clear hR
      gi_wp2
      refine HRR.out.mono ?_
      rintro e W3 (⟨rfl, hJ3, hk3⟩ | ⟨rfl, hJx3⟩)
      · have A3 := Lib.hid (A2.out.kept hk3)
        have J3 := Lib.hid hJ3
        clear hJ3 hk3 hy
        gi_wp2
        go_roundw
        case rel => exact ⟨k + 1, _, _, by go_num, A3.out, by rw [← HRP.out]; exact J3.out⟩
        case measure => have := HLT.out; simp [intOf]; omega
      · have J3 := Lib.hid hJx3
        clear hJx3 hy
        gi_wp2
        refine bodyPost_ret (results_none rfl _ _ _) rfl ?_
        exact ⟨⟨_, rfl⟩, .inr ⟨_, J3.out⟩⟩
    · have hv2 : fullP rs m cs := Classical.not_not.1 hv
      have hv' : (rs.getD m zIns).kd = 0 ∧ cs.getD (rs.getD m zIns).rg.toNat 0 = 1000000 := hv2
      rw [if_pos hv'] at hq
      obtain ⟨rfl, hb2⟩ := hq
      have hR5 : R = ⟨5, 0, [], 0, false⟩ := by
        have := A1.out.r
        rw [HBK.out, rpF_full _ _ _ HM.out hv2] at this
        exact this.symm
      have J2 := Lib.hid (HJ.out _ _ _ J1.out (Only.of_below hb2))
      obtain ⟨fn, tmps, assign, body, hy, hR⟩ := HY.out (List.replicate k none) (some 5) w2 J2.out (.inr ⟨k, rfl, hR5⟩)
      simp only [encP, errP] at hy
      clear hb2 hR5 y0 y1 hv hv' hv2
      have HRR := Lib.hid hR
      clear hR
      gi_wp2
      refine HRR.out.mono ?_
      rintro e W3 (⟨rfl, hJ3, hk3⟩ | ⟨rfl, hJx3⟩)
      · have J3 := Lib.hid hJ3
        clear hJ3 hk3 hy
        gi_wp2
        refine bodyPost_ret (results_none rfl _ _ _) rfl ?_
        exact ⟨⟨_, rfl⟩, .inl ⟨_, .inr ⟨k, rfl⟩, J3.out⟩⟩
      · have J3 := Lib.hid hJx3
        clear hJx3 hy
        gi_wp2
        refine bodyPost_ret (results_none rfl _ _ _) rfl ?_
        exact ⟨⟨_, rfl⟩, .inr ⟨_, J3.out⟩⟩
end Go.Proofs.YtgbhbbapkpgmiaaDoor.Ints
