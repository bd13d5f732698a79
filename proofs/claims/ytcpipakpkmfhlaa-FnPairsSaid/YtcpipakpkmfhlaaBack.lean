/- The contract of slices.Backward over a list of int64: indices and numbers from the last one on. -/
import Derived.RangeFuncNested
import Derived.RangeFuncBound
import Derived.RangeFuncCalls
import Derived.RangeFuncLeaves
import Derived.RangeFuncFrom
import Derived.Shelf.Abstract
import Derived.Shelf.RegionOpen
import Derived.OwnWalkIn
import Derived.TacticsInMore
import Derived.LoopNIn
import Derived.LoopIn
import Derived.Test.YtcpipakpkmfhlaaInts
namespace Go.Proofs.Ytcpipakpkmfhlaa.Ints
open Go.RowKit Go.Shelf
set_option linter.unusedVariables false
attribute [local go_sem] Oper.semAt_some

/-- An index of zs, with its number. -/
abbrev At (zs : List Int) := { x : Nat × Int // x.1 < zs.length ∧ x.2 = zs[x.1]?.getD 0 }
def dnR (zs : List Int) : Nat → List (At zs)
  | 0 => []
  | k + 1 => dnR zs k ++ (if h : zs.length - 1 - k < zs.length then [⟨(zs.length - 1 - k, zs[zs.length - 1 - k]?.getD 0), h, rfl⟩] else [])
/-- What has come when the indices from the last one down to m have come. -/
def dnA (zs : List Int) (m : Nat) : List (At zs) := dnR zs (zs.length - m)
theorem dnA_succ (zs : List Int) (m : Nat) (h : m < zs.length) : dnA zs m = dnA zs (m + 1) ++ [⟨(m, zs[m]?.getD 0), h, rfl⟩] := by
  obtain ⟨k, hk⟩ : ∃ k, zs.length - (m + 1) = k := ⟨_, rfl⟩
  have h1 : zs.length - m = k + 1 := by omega
  have h2 : zs.length - 1 - k = m := by omega
  unfold dnA
  rw [h1, hk, dnR]
  congr 1
  subst h2
  rw [dif_pos h]
theorem dnA_all (zs : List Int) : dnA zs zs.length = [] := by simp [dnA, dnR]
theorem dnR_length (zs : List Int) (k : Nat) (h : k ≤ zs.length) : (dnR zs k).length = k := by
  induction k with
  | zero => rfl
  | succ k ih => rw [dnR, List.length_append, ih (by omega), dif_pos (by omega)]; rfl
theorem dnA_length (zs : List Int) (m : Nat) (h : m ≤ zs.length) : (dnA zs m).length = zs.length - m := dnR_length zs _ (by omega)

/-- What lay below n₀, and the iterator's own box, lie as they lay. -/
def KB (n₀ Bs : Nat) (W W' : World) : Prop := Below n₀ W W' ∧ W'.heap[Bs]? = W.heap[Bs]?
theorem KB.refl (n₀ Bs : Nat) (W : World) : KB n₀ Bs W W := ⟨Below.refl _ _, rfl⟩
theorem KB.trans {n₀ Bs : Nat} {A B C : World} (h : KB n₀ Bs A B) (k : KB n₀ Bs B C) : KB n₀ Bs A C := ⟨h.1.trans k.1, k.2.trans h.2⟩
theorem KB.cell {n₀ Bs : Nat} {A B : World} (h : KB n₀ Bs A B) {v : Value} (hc : A.cell? ⟨Bs, 0, none⟩ = some v) : B.cell? ⟨Bs, 0, none⟩ = some v :=
  (World.cell?_of_block (a := ⟨Bs, 0, none⟩) h.2).trans hc
theorem KB.book {n₀ Bs : Nat} {w : World} (hn : n₀ ≤ w.heap.size) (hB : Bs < w.heap.size) (W : World) (l : Nat) (o o' : Obj) (hl : w.heap.size ≤ l) (h : W.heap[l]? = some o) (h1 : o.isCells = false) (h2 : o.isWalk = false) : KB n₀ Bs W (W.putObj l o') :=
  ⟨belowK_b hn W l o o' hl h h1 h2, (belowK_b (n₀ := w.heap.size) (Nat.le_refl _) W l o o' hl h h1 h2).block Bs hB⟩

set_option maxRecDepth 100000 in
set_option maxHeartbeats 2000000 in
theorem back1_in (F : Fence) (n : Nat) (hf : F.fn 68) (hro : F.round = none) (hn : 1 ≤ n) (l Bs n₀ : Nat) (a : Option Addr) (cap : Nat) (zs : List Int) (hlen : zs.length ≤ 16777216)
    (J Jx : List (At zs) → World → Prop)
    (hY : ∀ pre x W, J pre W → pre.length < zs.length → YieldAt F (n - 1) Try.prog l #[.int .i64 ((x.1.1 : Nat) : Int), .int .i64 x.1.2] W fun e W' =>
      (e = .returned (.bool true) ∧ J (pre ++ [x]) W' ∧ KB n₀ Bs W W') ∨ (e = .returned (.bool false) ∧ Jx (pre ++ [x]) W'))
    (W : World) (hBs : W.cell? ⟨Bs, 0, none⟩ = some (.slice a zs.length cap)) 
    (hc : zs ≠ [] → ∃ b o, a = some ⟨b, o, none⟩ ∧ b < n₀ ∧ ∀ j, j < zs.length → W.cell? ⟨b, o + j, none⟩ = some (.int .i64 (zs[j]?.getD 0))) (h0 : J [] W) :
    CallsIn F n Try.prog 68 #[.func (.yield l) #[] #[], .pointer (some ⟨Bs, 0, none⟩)] W fun e W' => (∃ v, e = .returned v) ∧
      ((∃ ys, ys = dnA zs 0 ∧ J ys W') ∨ (∃ pre, (∃ m, m ≤ zs.length ∧ pre = dnA zs m) ∧ Jx pre W')) := by
  refine callsIn_of_wp Try.func68 rfl hf ?_ hro
  simp only [Try.ntmps68, List.size_toArray, List.length_cons, List.length_nil, Nat.reduceAdd, Nat.reduceSub, Array.replicate_succ, Array.replicate_zero, List.push_toArray, List.append_toArray, List.nil_append, List.cons_append]
  gi_wp2
  gi_loopw [3] (fun i wr => ∃ m : Nat, m ≤ zs.length ∧ i = .int .i64 ((m : Int) - 1) ∧ J (dnA zs m) wr ∧ KB n₀ Bs W wr)
    (fun i _ => (intOf i + 1).toNat)
  case atStart => exact ⟨zs.length, Nat.le_refl _, rfl, by rw [dnA_all]; exact h0, KB.refl _ _ _⟩
  case round =>
    obtain ⟨m, hm, hi, hJs, hnx⟩ := hrel
    have hbs : wr.cell? ⟨Bs, 0, none⟩ = some (.slice a zs.length cap) := hnx.cell hBs
    cases m with
    | zero =>
      obtain rfl := hi
      gi_wp2
      go_end0
      exact ⟨⟨_, rfl⟩, .inl ⟨_, rfl, hJs⟩⟩
    | succ m =>
      rw [show (((m + 1 : Nat) : Int) - 1) = (m : Int) by omega] at hi
      obtain rfl := hi
      obtain ⟨b, o, rfl, hb, hcs⟩ := hc (by intro h; rw [h] at hm; simp at hm)
      have hcx : wr.cell? ⟨b, o + m, none⟩ = some (.int .i64 (zs[m]?.getD 0)) := (hnx.1.cell (p := ⟨b, o + m, none⟩) hb).trans (hcs m (by omega))
      have hlt : m < zs.length := by omega
      obtain ⟨fn, tmps, assign, body, hy, hR⟩ := hY _ ⟨(m, zs[m]?.getD 0), hlt, rfl⟩ wr hJs (by rw [dnA_length zs (m + 1) hm]; omega)
      dsimp only at hy
      rw [show zs[m]?.getD 0 = zs[m] by simp [hlt]] at hcx hy
      have i0 : (0 : Int) ≤ (m : Int) := by omega
      have i1 : (m : Int) < (zs.length : Int) := by omega
      have HJ : Hid (dnA zs m = dnA zs (m + 1) ++ [⟨(m, zs[m]?.getD 0), hlt, rfl⟩]) := Lib.hid (dnA_succ zs m hlt)
      clear hcs hc hBs
      gi_wp2
      refine hR.mono ?_
      rintro e W3 (⟨rfl, hJ3, hk3⟩ | ⟨rfl, hJx3⟩)
      · gi_wp2
        go_roundw
        case rel => exact ⟨m, by omega, rfl, by rw [HJ.out]; exact hJ3, hnx.trans hk3⟩
        case measure => simp [intOf]
      · gi_wp2
        refine bodyPost_ret (results_none rfl _ _ _) rfl ?_
        exact ⟨⟨_, rfl⟩, .inr ⟨_, ⟨m, by omega, rfl⟩, by rw [HJ.out]; exact hJx3⟩⟩

theorem back_stops (F : Fence) (n : Nat) (hf : F.fn 68) (hro : F.round = none) (hn : 1 ≤ n) (Bs n₀ : Nat) (a : Option Addr) (cap : Nat) (zs : List Int) (hlen : zs.length ≤ 16777216)
    (w : World) (hBn : Bs < w.heap.size) (hn₀ : n₀ ≤ w.heap.size) (hBs : w.cell? ⟨Bs, 0, none⟩ = some (.slice a zs.length cap))
    (hc : zs ≠ [] → ∃ b o, a = some ⟨b, o, none⟩ ∧ b < n₀ ∧ ∀ j, j < zs.length → w.cell? ⟨b, o + j, none⟩ = some (.int .i64 (zs[j]?.getD 0))) :
    SeqStopsK F n Try.prog 68 #[.pointer (some ⟨Bs, 0, none⟩)] (fun x : At zs => #[Value.int .i64 ((x.1.1 : Nat) : Int), Value.int .i64 x.1.2]) (KB n₀ Bs) (fun ys => ys = dnA zs 0)
      (fun pre => ∃ m, m ≤ zs.length ∧ pre = dnA zs m) zs.length w := fun l J Jx W hW _ _ hY h0 =>
  back1_in F n hf hro hn l Bs n₀ a cap zs hlen J Jx hY W ((hW.cell (p := ⟨Bs, 0, none⟩) hBn).trans hBs) (fun hne => by
    obtain ⟨b, o, ha, hb, hcs⟩ := hc hne
    exact ⟨b, o, ha, hb, fun j hj => (hW.cell (p := ⟨b, o + j, none⟩) (Nat.lt_of_lt_of_le hb hn₀)).trans (hcs j hj)⟩) h0
/-- slices.Backward itself: the list's value is boxed; the function value captures the box. -/
theorem back_in (F : Fence) (n : Nat) (hf : F.fn 59) (hro : F.round = none) (v : Value) (hv : ∃ a l c, v = .slice a l c) (w : World) :
    CallsIn F n Try.prog 59 #[v] w fun e w' => e = .returned (.func (.func 68) #[] #[.pointer (some ⟨w.heap.size, 0, none⟩)]) ∧ w' = w.alloc (.cells #[v] 24) := by
  obtain ⟨a, len, cap, rfl⟩ := hv
  refine callsIn_of_wp Try.func59 rfl hf ?_ hro
  simp only [Try.ntmps59, List.size_toArray, List.length_cons, List.length_nil, Nat.reduceAdd, Nat.reduceSub, Array.replicate_succ, Array.replicate_zero, List.push_toArray, List.append_toArray, List.nil_append, List.cons_append]
  gi_wp2
  go_ret
  exact ⟨rfl, rfl⟩

end Go.Proofs.Ytcpipakpkmfhlaa.Ints
