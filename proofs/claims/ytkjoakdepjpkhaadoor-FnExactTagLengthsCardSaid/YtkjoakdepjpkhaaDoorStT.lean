/- The iterator of the steps of a tag system at work: its contract. (gen_rt.py) -/
import Derived.Shelf.Abstract
import Derived.Shelf.RegionOpen
import Derived.OwnWalkIn
import Derived.TacticsInMore
import Derived.LoopNIn
import Derived.LoopIn
import Derived.Test.YtkjoakdepjpkhaaDoorRtC
namespace Go.Proofs.YtkjoakdepjpkhaaDoor.Ints
open Go.RowKit Go.Shelf
set_option linter.unusedVariables false
set_option linter.unusedSimpArgs false
attribute [local go_sem] Oper.semAt_some
theorem wide_fnT (k : Nat) : Fence.wide.fn k := trivial
attribute [local go_sem, local simp] wide_fnT
def errT : Option Int → Value
  | none => .nilIface
  | some c => .iface 162 (.int .i64 c)
def encT (x : Option Int) : Array Value := #[errT x]
/-- The run's and the iterator's blocks. -/
def TT (w0 : World) (g q lb rb : Nat) (k : Nat) : Prop := k < w0.heap.size ∨ k = g ∨ k = q ∨ k = lb ∨ k = rb
def SST (g q : Nat) (k : Nat) : Prop := k = g ∨ k = q
/-- What is there when k steps have been made. -/
structure AtT (w0 : World) (g q : Nat) (d : Int) (vz vh : Value) (zss : List (List Int)) (hs : List Int) (R : RtE) (B lb rb : Nat) (k : Nat) (xs : List Int) (W : World) : Prop where
  le : k ≤ B
  ok : overB zss.length xs = true
  r : rtF d zss hs (B - k) xs (k : Int) = R
  st : ∃ (zs : List Int) (f l : Nat), TgR w0 W g q d vz vh zss hs zs f l true ∧ rg zs f l = xs
  lim : Cels W lb 2 [.int .i64 (B : Int)]
  run : Cels W rb 158 [.iface 103 (.pointer (some ⟨g, 0, none⟩))]
def StT (w0 : World) (g q : Nat) (d : Int) (vz vh : Value) (zss : List (List Int)) (hs : List Int) (R : RtE) (B lb rb : Nat) (ys : List (Option Int)) (W : World) : Prop :=
  (∃ (k : Nat) (xs : List Int), ys = List.replicate k none ∧ AtT w0 g q d vz vh zss hs R B lb rb k xs W) ∨ (∃ k, ys = List.replicate k none ++ [some 5] ∧ R = ⟨5, [], 0, false⟩)
def DnT (w0 : World) (g q : Nat) (d : Int) (vz vh : Value) (zss : List (List Int)) (hs : List Int) (R : RtE) (B lb rb : Nat) (ys : List (Option Int)) (W : World) : Prop :=
  (∃ (k : Nat) (xs : List Int) (b : Bool), ys = List.replicate k none ∧ AtT w0 g q d vz vh zss hs R B lb rb k xs W ∧ (b = true ↔ hlT d hs xs) ∧ R = ⟨0, xs, (k : Int), b⟩) ∨ (∃ k, ys = List.replicate k none ++ [some 5])
theorem AtT.kept {w0 : World} {g q : Nat} {d : Int} {vz vh : Value} {zss : List (List Int)} {hs : List Int} {R : RtE} {B lb rb : Nat} {k : Nat} {xs : List Int} {W W' : World} (h : AtT w0 g q d vz vh zss hs R B lb rb k xs W) (j : Kept (TT w0 g q lb rb) W W') : AtT w0 g q d vz vh zss hs R B lb rb k xs W' :=
  ⟨h.le, h.ok, h.r, h.st.imp fun _ h => h.imp fun _ h => h.imp fun _ h => ⟨h.1.kept ⟨j.size, fun i hi p => j.block i hi (by unfold TT; rcases p with p | p | p <;> simp [p])⟩, h.2⟩, h.lim.kept j (by unfold TT; simp), h.run.kept j (by unfold TT; simp)⟩
theorem StT.kept {w0 : World} {g q : Nat} {d : Int} {vz vh : Value} {zss : List (List Int)} {hs : List Int} {R : RtE} {B lb rb : Nat} (ys : List (Option Int)) (W W' : World) (h : StT w0 g q d vz vh zss hs R B lb rb ys W) (j : Kept (TT w0 g q lb rb) W W') : StT w0 g q d vz vh zss hs R B lb rb ys W' := by
  rcases h with ⟨k, xs, e, h⟩ | h
  · exact .inl ⟨k, xs, e, h.kept j⟩
  · exact .inr h
theorem DnT.kept {w0 : World} {g q : Nat} {d : Int} {vz vh : Value} {zss : List (List Int)} {hs : List Int} {R : RtE} {B lb rb : Nat} (ys : List (Option Int)) (W W' : World) (h : DnT w0 g q d vz vh zss hs R B lb rb ys W) (j : Kept (TT w0 g q lb rb) W W') : DnT w0 g q d vz vh zss hs R B lb rb ys W' := by
  rcases h with ⟨k, xs, b, e, h, hr⟩ | h
  · exact .inl ⟨k, xs, b, e, h.kept j, hr⟩
  · exact .inr h
set_option maxRecDepth 100000 in
set_option maxHeartbeats 4000000 in
theorem stepsT (n : Nat) (hn : 1 ≤ n) (w0 : World) (g q : Nat) (d : Int) (vz vh : Value) (zss : List (List Int)) (hs : List Int) (R : RtE) (B lb rb : Nat) (hp : tagB d zss hs = true) (hB : B ≤ 20000) (hne : lb ≠ g ∧ lb ≠ q ∧ rb ≠ g ∧ rb ≠ q) :
    SeqRun Fence.wide n Tryd.prog 105 #[.pointer (some ⟨lb, 0, none⟩), .pointer (some ⟨rb, 0, none⟩)] encT (SST g q) (TT w0 g q lb rb)
      (StT w0 g q d vz vh zss hs R B lb rb) (DnT w0 g q d vz vh zss hs R B lb rb) := by
  intro l J Jx W hJ hY h0 hst
  have HST : Hid (∃ xs : List Int, AtT w0 g q d vz vh zss hs R B lb rb 0 xs W) := Lib.hid (by
    rcases hst with ⟨k, xs, e, h⟩ | ⟨k, e, _⟩
    · obtain rfl : k = 0 := by cases k with
        | zero => rfl
        | succ k => simp [List.replicate_succ] at e
      exact ⟨xs, h⟩
    · simp at e)
  have HJ := Lib.hid hJ
  have HY := Lib.hid hY
  have HP := Lib.hid hp
  have HNE := Lib.hid hne
  have n1 := nlTs g
  have m1 := mtTs g
  have n2 := nlTh g
  have m2 := mtTh g
  clear hJ hY hst hp hne
  refine callsIn_of_wp Tryd.func105 rfl trivial ?_ rfl
  simp only [Tryd.ntmps105, List.size_toArray, List.length_cons, List.length_nil, Nat.reduceAdd, Nat.reduceSub, Array.replicate_succ, Array.replicate_zero, List.push_toArray, List.append_toArray, List.nil_append, List.cons_append]
  gi_wp2
  gi_loopw [4] (fun m wr => ∃ (k : Nat) (xs : List Int), m = .int .i64 (k : Int) ∧ AtT w0 g q d vz vh zss hs R B lb rb k xs wr ∧ J (List.replicate k none) wr) (fun m _ => B - (intOf m).toNat)
  case atStart =>
    obtain ⟨xs, h⟩ := HST.out
    exact ⟨0, xs, rfl, h, h0⟩
  case round =>
    obtain ⟨k, xs, rfl, hat, hj⟩ := hrel
    have HA := Lib.hid hat
    have HJJ := Lib.hid hj
    have y0 := hat.lim.cell 0 rfl
    have y1 := hat.run.cell 0 rfl
    have hkB := hat.le
    obtain ⟨zs, f, lq, hr, hrx⟩ := hat.st
    have HTR := Lib.hid hr
    have HRX := Lib.hid hrx
    clear hat hj h0 hr hrx
    by_cases hlt : k < B
    rotate_left
    · obtain rfl : k = B := by omega
      have hd : decide ((k : Int) < (k : Int)) = false := by simp
      obtain ⟨bh, hbh⟩ : ∃ b : Bool, b = true ↔ hlT d hs xs := by
        by_cases h : hlT d hs xs
        · exact ⟨true, by simp [h]⟩
        · exact ⟨false, by simp [h]⟩
      have HBH := Lib.hid hbh
      clear hlt hbh
      gi_wp2
      go_end0
      exact ⟨⟨_, rfl⟩, .inl ⟨_, .inl ⟨k, xs, bh, rfl, HA.out, HBH.out, by have := HA.out.r; rw [Nat.sub_self] at this; rw [← this]; exact rtF_zero _ HBH.out⟩, HJJ.out⟩⟩
    have HLT := Lib.hid hlt
    have hd : decide ((k : Int) < (B : Int)) = true := decide_eq_true (by omega)
    have HSS : ∀ (W1 W2 : World), Below W1.heap.size W1 W2 → AtT w0 g q d vz vh zss hs R B lb rb k xs W1 → AtT w0 g q d vz vh zss hs R B lb rb k xs W2 := fun W1 W2 hb h => h.kept ⟨hb.size, fun i hi _ => hb.block i hi⟩
    have HS2 := Lib.hid HSS
    clear hlt HSS
    by_cases hh : hlT d hs xs
    · have HH := Lib.hid hh
      have hc := tgHalts HTR.out (tagB_ok HP.out).1.1 true (by rw [HRX.out]; simp [hh])
      have HC := Lib.hid hc
      clear hc hh
      gi_wp2_with fail
      gi_at_call 183
      refine (callsIn_wide.2 HC.out).mono ?_
      rintro e w1 ⟨rfl, hb1⟩
      have A1 := Lib.hid (HS2.out _ _ hb1 HA.out)
      have J1 := Lib.hid (HJ.out _ _ _ HJJ.out (Only.of_below hb1))
      clear hb1 y0 y1
      gi_wp2
      go_end0
      refine ⟨⟨_, rfl⟩, .inl ⟨_, .inl ⟨k, xs, true, rfl, A1.out, ⟨fun _ => HH.out, fun _ => rfl⟩, ?_⟩, J1.out⟩⟩
      have := A1.out.r
      rw [rtF_halt _ _ HH.out] at this
      exact this.symm
    have HNH := Lib.hid hh
    have hc := tgHalts HTR.out (tagB_ok HP.out).1.1 false (by rw [HRX.out]; simp [hh])
    have HC := Lib.hid hc
    have HOK := Lib.hid HA.out.ok
    clear hc hh
    gi_wp2_with fail
    gi_at_call 183
    refine (callsIn_wide.2 HC.out).mono ?_
    rintro e w1 ⟨rfl, hb1⟩
    have A1 := Lib.hid (HS2.out _ _ hb1 HA.out)
    have J1 := Lib.hid (HJ.out _ _ _ HJJ.out (Only.of_below hb1))
    have T1 := Lib.hid (HTR.out.below hb1)
    clear hb1 y0 y1
    have y0 := A1.out.lim.cell 0 rfl
    have y1 := A1.out.run.cell 0 rfl
    have HBK : Hid (B - k = (B - (k + 1)) + 1) := Lib.hid (by have := HLT.out; omega)
    by_cases hv : (apT zss xs).length ≤ 1000
    · have HSTP := Lib.hid (tgStepGo T1.out HP.out (by rw [HRX.out]; exact HOK.out) (by rw [HRX.out]; exact HNH.out) (by rw [HRX.out]; exact hv))
      have HV := Lib.hid hv
      clear hv
      gi_wp2_with fail
      gi_at_call 184
      refine (callsIn_wide.2 HSTP.out).mono ?_
      rintro e w2 ⟨zs2, f2, l2, rfl, hst2, hrx2, hon⟩
      rw [HRX.out] at hrx2
      have hr2 : rtF d zss hs (B - (k + 1)) (nxT d zss xs) (((k + 1 : Nat)) : Int) = R := by
        have := A1.out.r
        rw [HBK.out, rtF_next _ _ HNH.out HV.out] at this
        rw [← this]; rfl
      have A2 : Hid (AtT w0 g q d vz vh zss hs R B lb rb (k + 1) (nxT d zss xs) w2) := Lib.hid
        ⟨by have := HLT.out; omega, nx_ok HP.out HOK.out (hl_pos HP.out HNH.out) HV.out, hr2, ⟨zs2, f2, l2, hst2, hrx2⟩, hon.kept A1.out.lim (by have := HNE.out; rintro (h | h) <;> omega), hon.kept A1.out.run (by have := HNE.out; rintro (h | h) <;> omega)⟩
      have J2 := Lib.hid (HJ.out _ _ _ J1.out (show Only (SST g q) w1 w2 from hon))
      have HRP : Hid (List.replicate k (none : Option Int) ++ [none] = List.replicate (k + 1) none) := Lib.hid List.replicate_succ'.symm
      obtain ⟨fn, tmps, assign, body, hy, hR⟩ := HY.out (List.replicate k none) none w2 J2.out (.inl ⟨k + 1, _, HRP.out, A2.out⟩)
      simp only [encT, errT] at hy
      clear hst2 hrx2 hon hr2 y0 y1
      have HRR := Lib.hid hR
      clear hR
      gi_wp2
      refine HRR.out.mono ?_
      rintro e W3 (⟨rfl, hJ3, hk3⟩ | ⟨rfl, hJx3⟩)
      · have A3 := Lib.hid (A2.out.kept hk3)
        have J3 := Lib.hid hJ3
        clear hJ3 hk3 hy
        gi_wp2
        go_roundw
        case rel => exact ⟨k + 1, _, by go_num, A3.out, by rw [← HRP.out]; exact J3.out⟩
        case measure => have := HLT.out; simp [intOf]; omega
      · have J3 := Lib.hid hJx3
        clear hJx3 hy
        gi_wp2
        refine bodyPost_ret (results_none rfl _ _ _) rfl ?_
        exact ⟨⟨_, rfl⟩, .inr ⟨_, J3.out⟩⟩
    · have HSTP := Lib.hid (tgStepFull T1.out HP.out (by rw [HRX.out]; exact HOK.out) (by rw [HRX.out]; exact HNH.out) (by rw [HRX.out]; omega))
      have HV := Lib.hid hv
      clear hv
      gi_wp2_with fail
      gi_at_call 184
      refine (callsIn_wide.2 HSTP.out).mono ?_
      rintro e w2 ⟨rfl, hb2⟩
      have hR5 : R = ⟨5, [], 0, false⟩ := by
        have := A1.out.r
        rw [HBK.out, rtF_full _ _ HNH.out HV.out] at this
        exact this.symm
      have J2 := Lib.hid (HJ.out _ _ _ J1.out (Only.of_below hb2))
      obtain ⟨fn, tmps, assign, body, hy, hR⟩ := HY.out (List.replicate k none) (some 5) w2 J2.out (.inr ⟨k, rfl, hR5⟩)
      simp only [encT, errT] at hy
      clear hb2 hR5 y0 y1
      have HRR := Lib.hid hR
      clear hR
      gi_wp2
      refine HRR.out.mono ?_
      rintro e W3 (⟨rfl, hJ3, hk3⟩ | ⟨rfl, hJx3⟩)
      · have J3 := Lib.hid hJ3
        clear hJ3 hk3 hy
        gi_wp2
        refine bodyPost_ret (results_none rfl _ _ _) rfl ?_
        exact ⟨⟨_, rfl⟩, .inl ⟨_, .inr ⟨k, rfl⟩, J3.out⟩⟩
      · have J3 := Lib.hid hJx3
        clear hJx3 hy
        gi_wp2
        refine bodyPost_ret (results_none rfl _ _ _) rfl ?_
        exact ⟨⟨_, rfl⟩, .inr ⟨_, J3.out⟩⟩
end Go.Proofs.YtkjoakdepjpkhaaDoor.Ints
