/- Programs that move registers: the model's and the program's. -/
import Derived.Test.YtfcakadmiflcdaaReg
import Derived.Test.YtfcakadmiflcdaaBldJ
import Derived.Test.YtfcakadmiflcdaaPrgU
namespace Go.Proofs.Ytfcakadmiflcdaa.Ints
open Go.RowKit
set_option linter.unusedVariables false
set_option linter.unusedSimpArgs false
def nxt (n i : Nat) : Int := if i + 1 = n then 0 else (i : Int) + 2
def mvI (n : Nat) (ts : List Int) (i : Nat) : Ins := ⟨0, ts.getD i 0, nxt n i, 0⟩
def mvL (r : Int) (ts : List Int) (k : Nat) : List Ins := ⟨1, r, if ts.length = 0 then 0 else 1, (ts.length : Int) + 1⟩ :: (List.range k).map (mvI ts.length ts)
def moveL (r : Int) (ts : List Int) : List Ins := mvL r ts ts.length
@[simp] theorem mvL_length (r : Int) (ts : List Int) (k : Nat) : (mvL r ts k).length = k + 1 := by simp [mvL]
theorem mvL_succ (r : Int) (ts : List Int) (k : Nat) : mvL r ts (k + 1) = mvL r ts k ++ [mvI ts.length ts k] := by simp [mvL, List.range_succ]
theorem nxt_bd {n i : Nat} (h : i < n) : 0 ≤ nxt n i ∧ nxt n i ≤ (n : Int) := by unfold nxt; split <;> omega
theorem nxt_mod {n i : Nat} (h : i < n) : ((i : Int) + 2) % ((n : Int) + 1) = nxt n i := by
  unfold nxt
  split
  · next e => rw [show (i : Int) + 2 = (n : Int) + 1 by omega]; exact Int.emod_self
  · exact Int.emod_eq_of_lt (by omega) (by omega)
theorem moveL_ok {r : Int} {ts : List Int} (hr : 0 ≤ r ∧ r ≤ 23) (ht : Dig 24 ts) (hl : ts.length ≤ 24) : Pok (moveL r ts) := by
  refine ⟨by simp [moveL]; omega, fun i hi => ?_⟩
  have hlen : (moveL r ts).length = ts.length + 1 := by simp [moveL]
  rw [hlen] at hi ⊢
  cases i with
  | zero =>
    show InsOk _ ⟨1, r, if ts.length = 0 then 0 else 1, (ts.length : Int) + 1⟩
    exact ⟨hr, ⟨by dsimp only; split <;> omega, by dsimp only; split <;> omega⟩, .inr ⟨rfl, by dsimp only; omega, by dsimp only; omega⟩⟩
  | succ i =>
    have e : (moveL r ts).getD (i + 1) zIns = mvI ts.length ts i := by
      simp [moveL, mvL, List.getD_eq_getElem?_getD, show i < ts.length by omega]
    rw [e]
    have h1 := ht i (by omega)
    have h2 := nxt_bd (n := ts.length) (i := i) (by omega)
    exact ⟨⟨h1.1, by show ts.getD i 0 ≤ 23; omega⟩, ⟨h2.1, by show nxt ts.length i ≤ _; omega⟩, .inl ⟨rfl, rfl⟩⟩
set_option maxHeartbeats 4000000 in
theorem implMove (r : Int) (v : Value) (ts : List Int) (w : World) (h : Rd w v ts) (hr : 0 ≤ r ∧ r ≤ 23) (ht : Dig 24 ts) (hl : ts.length ≤ 24) :
    Calls Try.prog 97 #[.int .i64 r, v] w fun e w' => ∃ u, e = .returned u ∧ OwIns w' w.heap.size w'.heap.size u (moveL r ts) ∧ Below w.heap.size w w' := by
  have H := Lib.hid h
  have HT := Lib.hid ht
  obtain ⟨_, _, a, c, rfl, _, hr'⟩ := h
  have HR := Lib.hid hr'
  clear hr' ht
  obtain ⟨M, hM⟩ : ∃ M : Int, M = if ts.length = 0 then 0 else 1 := ⟨_, rfl⟩
  have e1 : (1 : Int) % (1 + (ts.length : Int)) = M := by
    rw [hM]
    split
    · next h => rw [h]; rfl
    · exact Int.emod_eq_of_lt (by omega) (by omega)
  have HM := Lib.hid hM
  have hm : 0 ≤ M ∧ M ≤ 1 := by rw [hM]; split <;> omega
  clear hM
  go_enter Try.func97, Try.ntmps97
  go_wp2_with fail
  obtain ⟨W0, hW0⟩ : ∃ W, W = w.alloc (Obj.cells #[.slice none 0 0] 95) := ⟨_, rfl⟩
  have KG : Hid (Cels W0 w.heap.size 95 [.slice none 0 0]) := Lib.hid (by rw [hW0]; exact Cels.new _ _ _)
  have HB0 : Hid (Below w.heap.size w W0) := Lib.hid (by rw [hW0]; exact (Below.refl _ _).alloc (Nat.le_refl _) _)
  have HW0 := Lib.hid hW0.symm
  clear hW0
  rw [HW0.out]
  refine (bDec w.heap.size w.heap.size _ [] r M _ _ KG.out (OwIns.emptyUp HB0.out.size) (Nat.le_refl _) (by simp) (by unfold fit64; omega) (by unfold fit64; omega) (by unfold fit64; omega)).mono ?_
  rintro e v1 ⟨u1, rfl, k1, o1, b1⟩
  have HE0 : Hid (([] : List Ins) ++ [⟨1, r, M, 1 + (ts.length : Int)⟩] = mvL r ts 0) := Lib.hid (by rw [HM.out, Int.add_comm]; rfl)
  rw [HE0.out] at o1
  have K1 := Lib.hid k1
  have O1 := Lib.hid o1
  have B1 := Lib.hid (HB0.out.trans b1)
  clear k1 o1 b1 e1
  go_wp2
  go_loopw [20] (fun s wr => ∃ k : Nat, ∃ v', k ≤ ts.length ∧ s = .int .i64 k ∧ Cels wr w.heap.size 95 [v'] ∧ OwIns wr w.heap.size wr.heap.size v' (mvL r ts k) ∧ Below w.heap.size w wr) (fun s _ => ts.length - (intOf s).toNat)
  case atStart => exact ⟨0, _, Nat.zero_le _, rfl, K1.out, O1.out, B1.out⟩
  case round =>
    obtain ⟨k, v', hk, rfl, hkr, hor, hbr⟩ := hrel
    by_cases hlt : k < ts.length
    · obtain ⟨b, o, rfl, hb, hcell⟩ := HR.out (by intro h0; rw [h0] at hlt; simp at hlt)
      have hc := (hbr.cell (p := ⟨b, o + k, none⟩) hb).trans (hcell k hlt)
      obtain ⟨y, hy⟩ : ∃ y, y = ts.getD k 0 := ⟨_, rfl⟩
      rw [← hy] at hc
      have hyb := HT.out k hlt
      rw [← hy] at hyb
      obtain ⟨Q, hQ⟩ : ∃ Q, Q = nxt ts.length k := ⟨_, rfl⟩
      have e2 : ((k : Int) + 1 + 1) % (1 + (ts.length : Int)) = Q := by rw [hQ, ← nxt_mod hlt, Int.add_comm 1, Int.add_assoc]; rfl
      have e3 : ((k : Int) + 2) % (1 + (ts.length : Int)) = Q := by rw [hQ, ← nxt_mod hlt, Int.add_comm 1]
      have hQb := nxt_bd hlt
      rw [← hQ] at hQb
      have HS : Hid (mvL r ts k ++ [⟨0, y, Q, 0⟩] = mvL r ts (k + 1)) := Lib.hid (by rw [mvL_succ, hy, hQ]; rfl)
      obtain ⟨ga, gc, hv'⟩ := hor.shape
      rw [mvL_length] at hv'
      subst hv'
      have z0 := hkr.cell 0 rfl
      have HKR := Lib.hid hkr
      have HOR := Lib.hid hor
      have HBR := Lib.hid hbr
      clear hcell hy hQ hkr hor hbr
      go_wp2_with fail
      refine (implLen w.heap.size ga (k + 1) gc _ z0 (by omega)).mono ?_
      rintro e1 w1 ⟨rfl, rfl⟩
      go_wp2_with fail
      refine (bInc w.heap.size w.heap.size _ (mvL r ts k) y Q _ HKR.out HOR.out (Nat.le_refl _) (by simp; omega) (by unfold fit64; omega) (by unfold fit64; omega)).mono ?_
      rintro e1 v2 ⟨u2, rfl, k2, o2, b2⟩
      rw [HS.out] at o2
      have K2 := Lib.hid k2
      have O2 := Lib.hid o2
      have B2 := Lib.hid (HBR.out.trans b2)
      clear k2 o2 b2 z0 e2 e3
      go_wp2
      go_roundw
      case rel => exact ⟨k + 1, _, by omega, by go_num, K2.out, O2.out, B2.out⟩
      case measure => simp [intOf]; omega
    · obtain rfl : k = ts.length := by omega
      obtain ⟨ga, gc, hv'⟩ := hor.shape
      rw [mvL_length] at hv'
      subst hv'
      have z0 := hkr.cell 0 rfl
      have HOR := Lib.hid hor
      have HBR := Lib.hid hbr
      clear hkr hor hbr
      go_wp2
      go_ret
      exact ⟨_, rfl, HOR.out, HBR.out⟩
end Go.Proofs.Ytfcakadmiflcdaa.Ints
