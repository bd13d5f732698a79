/- The contract of slices.Backward over a row of numbers that the body writes: indices from the last one on, with whatever number stands there. -/
import Derived.Test.YtcpipakpkmfhlaaBack
namespace Go.Proofs.Ytcpipakpkmfhlaa.Ints
open Go.RowKit Go.Shelf
set_option linter.unusedVariables false
attribute [local go_sem] Oper.semAt_some

/-- An index of a row, with whatever number. -/
abbrev AtV (n : Nat) := { x : Nat × Int // x.1 < n }
def dnI (n : Nat) : Nat → List Nat
  | 0 => []
  | k + 1 => dnI n k ++ [n - 1 - k]
/-- The indices from the last one down to m have come. -/
def DnV (n m : Nat) (pre : List (AtV n)) : Prop := pre.map (fun x => x.1.1) = dnI n (n - m)
theorem DnV.all (n : Nat) : DnV n n [] := by simp [DnV, dnI]
theorem DnV.length {n m : Nat} {pre : List (AtV n)} (h : DnV n m pre) : pre.length = n - m := by
  have h1 := congrArg List.length h
  have h2 : ∀ k, (dnI n k).length = k := fun k => by induction k with | zero => rfl | succ k ih => simp [dnI, ih]
  rw [h2, List.length_map] at h1
  exact h1
theorem DnV.step {n m : Nat} {pre : List (AtV n)} (h : DnV n (m + 1) pre) (hm : m < n) (z : Int) : DnV n m (pre ++ [⟨(m, z), hm⟩]) := by
  have e : n - m = (n - (m + 1)) + 1 := by omega
  have e2 : n - 1 - (n - (m + 1)) = m := by omega
  unfold DnV at h ⊢
  rw [e, dnI, List.map_append, h, e2]
  rfl
def IntsAt (g n : Nat) (W : World) : Prop := ∀ j, j < n → ∃ z : Int, W.cell? ⟨g, j, none⟩ = some (.int .i64 z)
/-- What lay below n₀, and the iterator's own box, lie as they lay; the row holds numbers. -/
def KBV (n₀ Bs g n : Nat) (W W' : World) : Prop := KB n₀ Bs W W' ∧ (IntsAt g n W → IntsAt g n W')
theorem KBV.refl (n₀ Bs g n : Nat) (W : World) : KBV n₀ Bs g n W W := ⟨KB.refl _ _ _, id⟩
theorem KBV.trans {n₀ Bs g n : Nat} {A B C : World} (h : KBV n₀ Bs g n A B) (k : KBV n₀ Bs g n B C) : KBV n₀ Bs g n A C := ⟨h.1.trans k.1, fun x => k.2 (h.2 x)⟩
theorem KBV.book {n₀ Bs g n : Nat} {w : World} (hn : n₀ ≤ w.heap.size) (hB : Bs < w.heap.size) (hg : g < w.heap.size) (W : World) (l : Nat) (o o' : Obj) (hl : w.heap.size ≤ l) (h : W.heap[l]? = some o) (h1 : o.isCells = false) (h2 : o.isWalk = false) : KBV n₀ Bs g n W (W.putObj l o') :=
  ⟨KB.book hn hB W l o o' hl h h1 h2, fun hi j hj => by
    obtain ⟨z, hz⟩ := hi j hj
    have := (belowK_b (n₀ := w.heap.size) (Nat.le_refl _) W l o o' hl h h1 h2).block g hg
    exact ⟨z, (World.cell?_of_block (a := ⟨g, j, none⟩) this).trans hz⟩⟩

set_option maxRecDepth 100000 in
set_option maxHeartbeats 2000000 in
theorem back1V (F : Fence) (n : Nat) (hf : F.fn 68) (hro : F.round = none) (hn : 1 ≤ n) (l Bs n₀ : Nat) (g cap N : Nat) (hlen : N ≤ 16777216)
    (J Jx : List (AtV N) → World → Prop)
    (hY : ∀ pre x W, J pre W → pre.length < N → YieldAt F (n - 1) Try.prog l #[.int .i64 ((x.1.1 : Nat) : Int), .int .i64 x.1.2] W fun e W' =>
      (e = .returned (.bool true) ∧ J (pre ++ [x]) W' ∧ KBV n₀ Bs g N W W') ∨ (e = .returned (.bool false) ∧ Jx (pre ++ [x]) W'))
    (W : World) (hBs : W.cell? ⟨Bs, 0, none⟩ = some (.slice (some ⟨g, 0, none⟩) N cap))
    (hc : IntsAt g N W) (h0 : J [] W) :
    CallsIn F n Try.prog 68 #[.func (.yield l) #[] #[], .pointer (some ⟨Bs, 0, none⟩)] W fun e W' => (∃ v, e = .returned v) ∧
      ((∃ ys, DnV N 0 ys ∧ J ys W') ∨ (∃ pre, True ∧ Jx pre W')) := by
  refine callsIn_of_wp Try.func68 rfl hf ?_ hro
  simp only [Try.ntmps68, List.size_toArray, List.length_cons, List.length_nil, Nat.reduceAdd, Nat.reduceSub, Array.replicate_succ, Array.replicate_zero, List.push_toArray, List.append_toArray, List.nil_append, List.cons_append]
  gi_wp2
  gi_loopw [3] (fun i wr => ∃ (m : Nat) (pre : List (AtV N)), m ≤ N ∧ i = .int .i64 ((m : Int) - 1) ∧ DnV N m pre ∧ J pre wr ∧ KBV n₀ Bs g N W wr)
    (fun i _ => (intOf i + 1).toNat)
  case atStart => exact ⟨N, [], Nat.le_refl _, rfl, DnV.all N, h0, KBV.refl _ _ _ _ _⟩
  case round =>
    obtain ⟨m, pre, hm, hi, hD, hJs, hnx⟩ := hrel
    have hbs : wr.cell? ⟨Bs, 0, none⟩ = some (.slice (some ⟨g, 0, none⟩) N cap) := hnx.1.cell hBs
    have HD := Lib.hid hD
    clear hD
    cases m with
    | zero =>
      obtain rfl := hi
      gi_wp2
      go_end0
      exact ⟨⟨_, rfl⟩, .inl ⟨_, HD.out, hJs⟩⟩
    | succ m =>
      rw [show (((m + 1 : Nat) : Int) - 1) = (m : Int) by omega] at hi
      obtain rfl := hi
      have hlt : m < N := by omega
      obtain ⟨z, hcx⟩ := hnx.2 hc m hlt
      obtain ⟨fn, tmps, assign, body, hy, hR⟩ := hY pre ⟨(m, z), hlt⟩ wr hJs (by rw [HD.out.length]; omega)
      dsimp only at hy
      have i0 : (0 : Int) ≤ (m : Int) := by omega
      have i1 : (m : Int) < (N : Int) := by omega
      have HJ : Hid (DnV N m (pre ++ [⟨(m, z), hlt⟩])) := Lib.hid (HD.out.step hlt z)
      clear hc hBs
      gi_wp2
      refine hR.mono ?_
      rintro e W3 (⟨rfl, hJ3, hk3⟩ | ⟨rfl, hJx3⟩)
      · gi_wp2
        go_roundw
        case rel => exact ⟨m, _, by omega, rfl, HJ.out, hJ3, hnx.trans hk3⟩
        case measure => simp [intOf]
      · gi_wp2
        refine bodyPost_ret (results_none rfl _ _ _) rfl ?_
        exact ⟨⟨_, rfl⟩, .inr ⟨_, trivial, hJx3⟩⟩

theorem backV_stops (F : Fence) (n : Nat) (hf : F.fn 68) (hro : F.round = none) (hn : 1 ≤ n) (Bs n₀ : Nat) (g cap N : Nat) (hlen : N ≤ 16777216)
    (w : World) (hBn : Bs < w.heap.size) (hg : g < w.heap.size) (hBs : w.cell? ⟨Bs, 0, none⟩ = some (.slice (some ⟨g, 0, none⟩) N cap))
    (hc : IntsAt g N w) :
    SeqStopsK F n Try.prog 68 #[.pointer (some ⟨Bs, 0, none⟩)] (fun x : AtV N => #[Value.int .i64 ((x.1.1 : Nat) : Int), Value.int .i64 x.1.2]) (KBV n₀ Bs g N) (fun ys => DnV N 0 ys)
      (fun _ => True) N w := fun l J Jx W hW _ _ hY h0 =>
  back1V F n hf hro hn l Bs n₀ g cap N hlen J Jx hY W ((hW.cell (p := ⟨Bs, 0, none⟩) hBn).trans hBs) (fun j hj => by
    obtain ⟨z, hz⟩ := hc j hj
    exact ⟨z, (hW.cell (p := ⟨g, j, none⟩) hg).trans hz⟩) h0

end Go.Proofs.Ytcpipakpkmfhlaa.Ints
