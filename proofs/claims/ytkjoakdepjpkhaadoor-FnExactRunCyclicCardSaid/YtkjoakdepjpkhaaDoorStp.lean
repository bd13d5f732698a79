/- The iterator of the steps of counters at work: its contract. -/
import Derived.Shelf.Abstract
import Derived.Shelf.RegionOpen
import Derived.OwnWalkIn
import Derived.TacticsInMore
import Derived.LoopNIn
import Derived.LoopIn
import Derived.Test.YtkjoakdepjpkhaaDoorRcC
namespace Go.Proofs.YtkjoakdepjpkhaaDoor.Ints
open Go.RowKit Go.Shelf
set_option linter.unusedVariables false
set_option linter.unusedSimpArgs false
attribute [local go_sem] Oper.semAt_some
theorem wide_fn' (k : Nat) : Fence.wide.fn k := trivial
attribute [local go_sem, local simp] wide_fn'
def errV : Option Int → Value
  | none => .nilIface
  | some c => .iface 162 (.int .i64 c)
def encC (x : Option Int) : Array Value := #[errV x]
/-- The run's and the iterator's blocks. -/
def TC (w0 : World) (g gb lb rb : Nat) (k : Nat) : Prop := k < w0.heap.size ∨ k = g ∨ k = gb ∨ k = lb ∨ k = rb
def SC (g gb : Nat) (k : Nat) : Prop := k = g ∨ k = gb
/-- What is there when k steps have been made. -/
structure AtC (w0 : World) (g gb c0 : Nat) (pa : Option Addr) (pc : Nat) (rs : List Ins) (R : Rce) (B lb rb : Nat) (k : Nat) (at' a b : Int) (W : World) : Prop where
  le : k ≤ B
  ok : CntOk rs.length at' a b
  r : rcF rs (B - k) at' a b (k : Int) = R
  st : StR w0 W g 189 gb c0 pa pc rs at' [a, b] true 1000000000000
  lim : Cels W lb 2 [.int .i64 (B : Int)]
  run : Cels W rb 182 [.iface 140 (.pointer (some ⟨g, 0, none⟩))]
def StC (w0 : World) (g gb c0 : Nat) (pa : Option Addr) (pc : Nat) (rs : List Ins) (R : Rce) (B lb rb : Nat) (xs : List (Option Int)) (W : World) : Prop :=
  (∃ (k : Nat) (at' a b : Int), xs = List.replicate k none ∧ AtC w0 g gb c0 pa pc rs R B lb rb k at' a b W) ∨ (∃ k, xs = List.replicate k none ++ [some 5] ∧ R = ⟨5, 0, 0, 0, 0, false⟩)
def DnC (w0 : World) (g gb c0 : Nat) (pa : Option Addr) (pc : Nat) (rs : List Ins) (R : Rce) (B lb rb : Nat) (xs : List (Option Int)) (W : World) : Prop :=
  (∃ (k : Nat) (at' a b : Int), xs = List.replicate k none ∧ AtC w0 g gb c0 pa pc rs R B lb rb k at' a b W ∧ R = ⟨0, at', a, b, (k : Int), at' == (rs.length : Int)⟩) ∨ (∃ k, xs = List.replicate k none ++ [some 5])
theorem AtC.kept {w0 : World} {g gb c0 : Nat} {pa : Option Addr} {pc : Nat} {rs : List Ins} {R : Rce} {B lb rb : Nat} {k : Nat} {at' a b : Int} {W W' : World} (h : AtC w0 g gb c0 pa pc rs R B lb rb k at' a b W) (q : Kept (TC w0 g gb lb rb) W W') : AtC w0 g gb c0 pa pc rs R B lb rb k at' a b W' :=
  ⟨h.le, h.ok, h.r, h.st.kept ⟨q.size, fun i hi p => q.block i hi (by unfold TC; rcases p with p | p | p <;> simp [p])⟩, h.lim.kept q (by unfold TC; simp), h.run.kept q (by unfold TC; simp)⟩
theorem StC.kept {w0 : World} {g gb c0 : Nat} {pa : Option Addr} {pc : Nat} {rs : List Ins} {R : Rce} {B lb rb : Nat} (xs : List (Option Int)) (W W' : World) (h : StC w0 g gb c0 pa pc rs R B lb rb xs W) (q : Kept (TC w0 g gb lb rb) W W') : StC w0 g gb c0 pa pc rs R B lb rb xs W' := by
  rcases h with ⟨k, at', a, b, e, h⟩ | h
  · exact .inl ⟨k, at', a, b, e, h.kept q⟩
  · exact .inr h
theorem DnC.kept {w0 : World} {g gb c0 : Nat} {pa : Option Addr} {pc : Nat} {rs : List Ins} {R : Rce} {B lb rb : Nat} (xs : List (Option Int)) (W W' : World) (h : DnC w0 g gb c0 pa pc rs R B lb rb xs W) (q : Kept (TC w0 g gb lb rb) W W') : DnC w0 g gb c0 pa pc rs R B lb rb xs W' := by
  rcases h with ⟨k, at', a, b, e, h, hr⟩ | h
  · exact .inl ⟨k, at', a, b, e, h.kept q, hr⟩
  · exact .inr h
set_option maxRecDepth 100000 in
set_option maxHeartbeats 4000000 in
theorem stepsC (n : Nat) (hn : 1 ≤ n) (w0 : World) (g gb c0 : Nat) (pa : Option Addr) (pc : Nat) (rs : List Ins) (R : Rce) (B lb rb : Nat) (hp : Pok rs) (hl : ∀ i, i < rs.length → (rs.getD i zIns).rg ≤ 1) (hB : B ≤ 20000) (hne : lb ≠ g ∧ lb ≠ gb ∧ rb ≠ g ∧ rb ≠ gb) :
    SeqRun Fence.wide n Tryd.prog 155 #[.pointer (some ⟨lb, 0, none⟩), .pointer (some ⟨rb, 0, none⟩)] encC (SC g gb) (TC w0 g gb lb rb)
      (StC w0 g gb c0 pa pc rs R B lb rb) (DnC w0 g gb c0 pa pc rs R B lb rb) := by
  intro l J Jx W hJ hY h0 hst
  have HST : Hid (∃ (at' a b : Int), AtC w0 g gb c0 pa pc rs R B lb rb 0 at' a b W) := Lib.hid (by
    rcases hst with ⟨k, at', a, b, e, h⟩ | ⟨k, e, _⟩
    · obtain rfl : k = 0 := by cases k with
        | zero => rfl
        | succ k => simp [List.replicate_succ] at e
      exact ⟨at', a, b, h⟩
    · simp at e)
  have HJ := Lib.hid hJ
  have HY := Lib.hid hY
  have HP := Lib.hid hp
  have HLR := Lib.hid hl
  have HNE := Lib.hid hne
  have n1 := nlCs g
  have m1 := mtCs g
  have n2 := nlCh g
  have m2 := mtCh g
  clear hJ hY hst hp hl hne
  refine callsIn_of_wp Tryd.func155 rfl trivial ?_ rfl
  simp only [Tryd.ntmps155, List.size_toArray, List.length_cons, List.length_nil, Nat.reduceAdd, Nat.reduceSub, Array.replicate_succ, Array.replicate_zero, List.push_toArray, List.append_toArray, List.nil_append, List.cons_append]
  gi_wp2
  gi_loopw [4] (fun m wr => ∃ (k : Nat) (at' a b : Int), m = .int .i64 (k : Int) ∧ AtC w0 g gb c0 pa pc rs R B lb rb k at' a b wr ∧ J (List.replicate k none) wr) (fun m _ => B - (intOf m).toNat)
  case atStart =>
    obtain ⟨at', a, b, h⟩ := HST.out
    exact ⟨0, at', a, b, rfl, h, h0⟩
  case round =>
    obtain ⟨k, at', a, b, rfl, hat, hj⟩ := hrel
    have HA := Lib.hid hat
    have HJJ := Lib.hid hj
    have y0 := hat.lim.cell 0 rfl
    have y1 := hat.run.cell 0 rfl
    have hkB := hat.le
    clear hat hj h0
    by_cases hlt : k < B
    rotate_left
    · obtain rfl : k = B := by omega
      have hd : decide ((k : Int) < (k : Int)) = false := by simp
      clear hlt
      gi_wp2
      go_end0
      exact ⟨⟨_, rfl⟩, .inl ⟨_, .inl ⟨k, at', a, b, rfl, HA.out, by have := HA.out.r; rw [Nat.sub_self] at this; rw [← this]; rfl⟩, HJJ.out⟩⟩
    have HLT := Lib.hid hlt
    have hd : decide ((k : Int) < (B : Int)) = true := decide_eq_true (by omega)
    have HSS : ∀ (W1 W2 : World), Below W1.heap.size W1 W2 → AtC w0 g gb c0 pa pc rs R B lb rb k at' a b W1 → AtC w0 g gb c0 pa pc rs R B lb rb k at' a b W2 := fun W1 W2 hb h => h.kept ⟨hb.size, fun i hi _ => hb.block i hi⟩
    have HS2 := Lib.hid HSS
    clear hlt HSS
    by_cases hh : at' = (rs.length : Int)
    · have HH := Lib.hid hh
      have hc := strHalts HA.out.st true (by simp [hh])
      have HC := Lib.hid hc
      clear hc hh
      gi_wp2_with fail
      gi_at_call 198
      refine (callsIn_wide.2 HC.out).mono ?_
      rintro e w1 ⟨rfl, hb1⟩
      have A1 := Lib.hid (HS2.out _ _ hb1 HA.out)
      have J1 := Lib.hid (HJ.out _ _ _ HJJ.out (Only.of_below hb1))
      clear hb1 y0 y1
      gi_wp2
      go_end0
      refine ⟨⟨_, rfl⟩, .inl ⟨_, .inl ⟨k, at', a, b, rfl, A1.out, ?_⟩, J1.out⟩⟩
      have := A1.out.r
      rw [HH.out, rcF_halt] at this
      rw [← this, HH.out]; simp
    have hc := strHalts HA.out.st false (by simp [hh])
    have HC := Lib.hid hc
    have HOK := Lib.hid HA.out.ok
    obtain ⟨m, rfl⟩ : ∃ m : Nat, at' = (m : Int) := ⟨at'.toNat, by have := HOK.out.1.1; omega⟩
    have HM : Hid (m < rs.length) := Lib.hid (by have := HOK.out.1.2; omega)
    clear hc hh
    gi_wp2_with fail
    gi_at_call 198
    refine (callsIn_wide.2 HC.out).mono ?_
    rintro e w1 ⟨rfl, hb1⟩
    have A1 := Lib.hid (HS2.out _ _ hb1 HA.out)
    have J1 := Lib.hid (HJ.out _ _ _ HJJ.out (Only.of_below hb1))
    clear hb1 y0 y1
    have y0 := A1.out.lim.cell 0 rfl
    have y1 := A1.out.run.cell 0 rfl
    have HSTP := Lib.hid (strStepGo m A1.out.st HM.out HP.out (by have := HLR.out m HM.out; show _ < (2 : Int); omega) (fun i => by
      match i with
      | 0 => simpa using HOK.out.2.1
      | 1 => simpa using HOK.out.2.2
      | i + 2 => simp) (by omega))
    have HFU := Lib.hid (full_cn rs m a b HP.out HLR.out HM.out HOK.out.2.1 HOK.out.2.2)
    gi_wp2_with fail
    gi_at_call 199
    refine (callsIn_wide.2 HSTP.out).mono ?_
    rintro e w2 hq
    unfold StepPost at hq
    have HBK : Hid (B - k = (B - (k + 1)) + 1) := Lib.hid (by have := HLT.out; omega)
    by_cases hv : cnV (rs.getD m zIns) a b ≤ 1000000000000
    · rw [if_neg (fun x => by have := HFU.out.1 x; omega)] at hq
      obtain ⟨rfl, hst2, hon⟩ := hq
      obtain ⟨s1, s2⟩ := st_cn rs m a b HP.out HLR.out HM.out HOK.out.2.1.1 HOK.out.2.2.1
      rw [s1, s2] at hst2
      have hr2 : rcF rs (B - (k + 1)) (cnAt (rs.getD m zIns) a b) (cnA (rs.getD m zIns) a b) (cnB (rs.getD m zIns) a b) (((k + 1 : Nat)) : Int) = R := by
        have := A1.out.r
        rw [HBK.out, rcF_next _ _ _ _ HM.out hv] at this
        rw [← this]; rfl
      have A2 : Hid (AtC w0 g gb c0 pa pc rs R B lb rb (k + 1) (cnAt (rs.getD m zIns) a b) (cnA (rs.getD m zIns) a b) (cnB (rs.getD m zIns) a b) w2) := Lib.hid
        ⟨by have := HLT.out; omega, cn_ok HP.out HLR.out HM.out HOK.out hv, hr2, hst2, hon.cels A1.out.lim (by have := HNE.out; rintro (h | h) <;> omega), hon.cels A1.out.run (by have := HNE.out; rintro (h | h) <;> omega)⟩
      have J2 := Lib.hid (HJ.out _ _ _ J1.out (show Only (SC g gb) w1 w2 from hon))
      have HRP : Hid (List.replicate k (none : Option Int) ++ [none] = List.replicate (k + 1) none) := Lib.hid List.replicate_succ'.symm
      obtain ⟨fn, tmps, assign, body, hy, hR⟩ := HY.out (List.replicate k none) none w2 J2.out (.inl ⟨k + 1, _, _, _, HRP.out, A2.out⟩)
      simp only [encC, errV] at hy
      clear hst2 hon s1 s2 hr2 y0 y1 hv
      have HRR := Lib.hid hR
      clear hR
      gi_wp2
      refine HRR.out.mono ?_
      rintro e W3 (⟨rfl, hJ3, hk3⟩ | ⟨rfl, hJx3⟩)
      · have A3 := Lib.hid (A2.out.kept hk3)
        have J3 := Lib.hid hJ3
        clear hJ3 hk3 hy
        gi_wp2
        go_roundw
        case rel => exact ⟨k + 1, _, _, _, by go_num, A3.out, by rw [← HRP.out]; exact J3.out⟩
        case measure => have := HLT.out; simp [intOf]; omega
      · have J3 := Lib.hid hJx3
        clear hJx3 hy
        gi_wp2
        refine bodyPost_ret (results_none rfl _ _ _) rfl ?_
        exact ⟨⟨_, rfl⟩, .inr ⟨_, J3.out⟩⟩
    · rw [if_pos (HFU.out.2 (by omega))] at hq
      obtain ⟨rfl, hb2⟩ := hq
      have hR5 : R = ⟨5, 0, 0, 0, 0, false⟩ := by
        have := A1.out.r
        rw [HBK.out, rcF_full _ _ _ _ HM.out hv] at this
        exact this.symm
      have J2 := Lib.hid (HJ.out _ _ _ J1.out (Only.of_below hb2))
      obtain ⟨fn, tmps, assign, body, hy, hR⟩ := HY.out (List.replicate k none) (some 5) w2 J2.out (.inr ⟨k, rfl, hR5⟩)
      simp only [encC, errV] at hy
      clear hb2 hR5 y0 y1 hv
      have HRR := Lib.hid hR
      clear hR
      gi_wp2
      refine HRR.out.mono ?_
      rintro e W3 (⟨rfl, hJ3, hk3⟩ | ⟨rfl, hJx3⟩)
      · have J3 := Lib.hid hJ3
        clear hJ3 hk3 hy
        gi_wp2
        refine bodyPost_ret (results_none rfl _ _ _) rfl ?_
        exact ⟨⟨_, rfl⟩, .inl ⟨_, .inr ⟨k, rfl⟩, J3.out⟩⟩
      · have J3 := Lib.hid hJx3
        clear hJx3 hy
        gi_wp2
        refine bodyPost_ret (results_none rfl _ _ _) rfl ?_
        exact ⟨⟨_, rfl⟩, .inr ⟨_, J3.out⟩⟩
end Go.Proofs.YtkjoakdepjpkhaaDoor.Ints
