/- Bytes that came in, and the laws' source of choices (cut out of R8w). -/
import Derived.Test.YtfnopnaaahkklaaCel
import Derived.Test.YtfnopnaaahkklaaOnl
namespace Go.Proofs.Ytfnopnaaahkklaa.Ints
open Go.RowKit
set_option linter.unusedVariables false
set_option linter.unusedSimpArgs false
def IsBts (w : World) (a : Option Addr) (len cap : Nat) (zs : List Int) : Prop :=
  (a = none ∧ len = 0 ∧ cap = 0 ∧ zs = []) ∨ ∃ x, a = some x ∧ len ≤ cap ∧ cap ≤ maxLen ∧ zs.length = cap ∧ (∀ i, i < zs.length → w.cell? (x.add i) = some (.int .u8 (zs.getD i 0))) ∧ ∀ n ∈ zs, (Lit.int .u8 n).wf = true
section
open Go.ChangeShapes Go.WideShapes Go.Deep
set_option maxRecDepth 100000 in
/-- Bytes that came in, opened. -/
theorem open_bts {H : Type} {enc : TypeId × Value → H} {w : World} {base : Nat} {held : Bool} {fuel : Nat} {cs : List Value} {x : DataW H × List MemPlace}
    (h : DataW.trod enc Try.prog w base (fun _ => true) held fuel 40 cs = some x) : ∃ a len cap zs, cs = [.slice a len cap] ∧ IsBts w a len cap zs := by
  rcases open_ints Try.underlying40 Try.underlying5 (by kernel_rfl) h with ⟨rfl, _⟩ | ⟨x, l, c, zs, rfl, _, hl, hm, hz, _, hcell, hwz⟩
  · exact ⟨none, 0, 0, [], rfl, .inl ⟨rfl, rfl, rfl, rfl⟩⟩
  · exact ⟨_, _, _, zs, rfl, .inr ⟨_, rfl, hl, hm, by simpa using hz, hcell, hwz⟩⟩
end
/-- The value v is a slice of n bytes, all in one block below B. -/
def RdB (w : World) (B : Nat) (v : Value) (n : Nat) : Prop := n ≤ 1048576 ∧ B ≤ w.heap.size ∧ ∃ a c, v = .slice a n c ∧ n ≤ c ∧ (0 < n → ∃ b o, a = some ⟨b, o, none⟩ ∧ b < B ∧ ∀ i, i < n → ∃ x, w.cell? ⟨b, o + i, none⟩ = some (.int .u8 x) ∧ 0 ≤ x ∧ x ≤ 255)
theorem rdb_of_row {w : World} {a : Option Addr} {len cap : Nat} {zs : List Int} (h : IsBts w a len cap zs) (hl : len ≤ 1048576) : RdB w w.heap.size (.slice a len cap) len := by
  refine ⟨hl, Nat.le_refl _, a, cap, rfl, ?_, fun h0 => ?_⟩
  · rcases h with ⟨_, rfl, rfl, _⟩ | ⟨_, _, h1, _⟩
    · exact Nat.le_refl _
    · exact h1
  · rcases h with ⟨_, rfl, _, _⟩ | ⟨x, rfl, h1, h2, h3, h4, h5⟩
    · omega
    · obtain ⟨b, off, spot⟩ := x
      have hz := h4 0 (by omega)
      have hspot : spot = none := by simpa [Addr.add] using World.cell?_spot hz
      subst hspot
      refine ⟨b, off, rfl, World.block_lt_of_cell? w _ hz, fun i hi => ⟨zs.getD i 0, ?_, ?_⟩⟩
      · have := h4 i (by omega)
        rwa [Addr.add_lit] at this
      · have hw := h5 (zs.getD i 0) (by rw [List.getD_eq_getElem?_getD, List.getElem?_eq_getElem (by omega)]; exact List.getElem_mem (by omega))
        exact bounds_u8 hw
theorem RdB.below {w w' : World} {B C : Nat} {v : Value} {n : Nat} (h : RdB w B v n) (hb : Below C w w') (hC : B ≤ C) : RdB w' B v n := by
  obtain ⟨h1, h2, a, c, rfl, h3, h4⟩ := h
  refine ⟨h1, Nat.le_trans h2 hb.size, a, c, rfl, h3, fun h0 => ?_⟩
  obtain ⟨b, o, rfl, hlt, hc⟩ := h4 h0
  exact ⟨b, o, rfl, hlt, fun i hi => by
    obtain ⟨x, e, hx⟩ := hc i hi
    exact ⟨x, (hb.cell (p := ⟨b, o + i, none⟩) (by show b < C; omega)).trans e, hx⟩⟩
theorem Cels.drewN {w : World} {g : Nat} {t : TypeId} {cs : List Value} (h : Cels w g t cs) (m : Nat) : Cels (w.drewN m) g t cs := h
theorem Only.drewN {w w' : World} {S : Nat → Prop} (h : Only S w w') (m : Nat) : Only S w (w'.drewN m) := ⟨h.os, h.tape, h.output, h.size, h.block⟩
theorem and255 (y : Int) : 0 ≤ wrap64 (Go.bits .and .u64 y 255) ∧ wrap64 (Go.bits .and .u64 y 255) ≤ 255 := by
  have h : (BitVec.ofInt 64 y &&& BitVec.ofInt 64 255).toNat ≤ 255 := by
    rw [BitVec.toNat_and]
    exact Nat.le_trans Nat.and_le_right (by decide)
  obtain ⟨m, hm⟩ : ∃ m, m = (BitVec.ofInt 64 y &&& BitVec.ofInt 64 255).toNat := ⟨_, rfl⟩
  have e : Go.bits .and .u64 y 255 = IntKind.u64.wrap ((m : Nat) : Int) := by rw [hm]; rfl
  rw [← hm] at h
  have e2 : IntKind.u64.wrap ((m : Nat) : Int) = (m : Int) := by
    simp only [IntKind.wrap, IntKind.signed, IntKind.bits]
    simp
    omega
  rw [e, e2]
  unfold wrap64
  omega
/-- The source behind a choice. -/
theorem src_put {w : World} {g k : Nat} {v : Value} {s : Int} (h : Cels w g 63 [v, .int .i64 (k : Int), .int .u64 s]) (m : Nat) (S : Int) :
    Cels (((w.drewN m).setCell ⟨g, 1, none⟩ (.int .i64 ((k : Int) + 1))).setCell ⟨g, 2, none⟩ (.int .u64 S)) g 63 [v, .int .i64 ((k : Int) + 1), .int .u64 S] ∧
    Below g w (((w.drewN m).setCell ⟨g, 1, none⟩ (.int .i64 ((k : Int) + 1))).setCell ⟨g, 2, none⟩ (.int .u64 S)) ∧
    Only (fun b => b = g) w (((w.drewN m).setCell ⟨g, 1, none⟩ (.int .i64 ((k : Int) + 1))).setCell ⟨g, 2, none⟩ (.int .u64 S)) := by
  have h1 := (((h.drewN m).set 1 (.int .i64 ((k : Int) + 1))).set 2 (.int .u64 S))
  have hb : Below g w (w.drewN m) := below_drewN (Below.refl _ _) m
  have hb2 := below_set (below_set hb (Nat.le_refl _) 1 (.int .i64 ((k : Int) + 1))) (Nat.le_refl _) 2 (.int .u64 S)
  refine ⟨h1, hb2, hb2.os, hb2.tape, hb2.output, hb2.size, fun j hj hne => ?_⟩
  rw [Below.heap_setCell _ _ _ _ (by exact hne), Below.heap_setCell _ _ _ _ (by exact hne)]; rfl
set_option maxRecDepth 100000 in
set_option maxHeartbeats 4000000 in
theorem srcNext (g k n B : Nat) (v : Value) (s : Int) (w : World) (hc : Cels w g 63 [v, .int .i64 (k : Int), .int .u64 s]) (hv : RdB w B v n) (hg : B ≤ g) (hk : k ≤ 1000) :
    Calls Try.prog 87 #[.pointer (some ⟨g, 0, none⟩)] w fun e w' => ∃ x s' : Int, e = .returned (.int .i64 x) ∧ 0 ≤ x ∧ x ≤ 255 ∧ Cels w' g 63 [v, .int .i64 ((k : Int) + 1), .int .u64 s'] ∧ Below g w w' ∧ Only (fun b => b = g) w w' := by
  obtain ⟨hn, hB, a, c, rfl, hcap, hr⟩ := hv
  have HC := Lib.hid hc
  have q0 := hc.cell 0 rfl
  have q1 := hc.cell 1 rfl
  have q2 := hc.cell 2 rfl
  have hfr : ∀ j, w.frozen? ⟨g, j, none⟩ = false := fun j => hc.frozen j
  have k0 : (0 : Int) ≤ (k : Int) := by omega
  have wk : IntKind.i64.wrap ((k : Int) + 1) = (k : Int) + 1 := by rw [IntKind.wrap_i64]; omega
  have z0 := fun m S => (src_put hc m S).1.cell 0 rfl
  have z1 := fun m S => (src_put hc m S).1.cell 1 rfl
  have z2 := fun m S => (src_put hc m S).1.cell 2 rfl
  by_cases hlt : k < n
  · obtain ⟨b, o, rfl, hb, hcell⟩ := hr (by omega)
    obtain ⟨x, cx, x0, x1⟩ := hcell k hlt
    have kn : (k : Int) < (n : Int) := by omega
    have kn2 : (k : Int) + 1 ≤ (n : Int) := by omega
    have wx : IntKind.i64.wrap x = x := by rw [IntKind.wrap_i64]; omega
    clear hcell hr hc
    go_enter Try.func87, Try.ntmps87
    go_wp2
    go_quiet (fail)
    go_wp2
    go_quiet (fail)
    go_wp2
    go_quiet (fail)
    go_wp2
    go_ret
    exact ⟨x, _, rfl, x0, x1, ((src_put HC.out _ _).1).drewN _, below_drewN (src_put HC.out _ _).2.1 _, ((src_put HC.out _ _).2.2).drewN _⟩
  · have kn : ¬ (k : Int) < (n : Int) := by omega
    have kn2 : ¬ (k : Int) + 1 ≤ (n : Int) := by omega
    clear hr hc
    go_enter Try.func87, Try.ntmps87
    go_wp2
    go_quiet (fail)
    go_wp2
    go_quiet (fail)
    go_wp2
    go_ret
    exact ⟨_, _, rfl, (and255 _).1, (and255 _).2, ((src_put HC.out _ _).1).drewN _, below_drewN (src_put HC.out _ _).2.1 _, ((src_put HC.out _ _).2.2).drewN _⟩
theorem srcPick (g k n B : Nat) (v : Value) (s m : Int) (w : World) (hc : Cels w g 63 [v, .int .i64 (k : Int), .int .u64 s]) (hv : RdB w B v n) (hg : B ≤ g) (hk : k ≤ 1000) (h1 : 1 ≤ m) (h2 : m ≤ 200) :
    Calls Try.prog 77 #[.pointer (some ⟨g, 0, none⟩), .int .i64 m] w fun e w' => ∃ (x s' : Int) (k' : Nat), e = .returned (.int .i64 x) ∧ 0 ≤ x ∧ x < m ∧ k' ≤ k + 1 ∧ Cels w' g 63 [v, .int .i64 (k' : Int), .int .u64 s'] ∧ Below g w w' ∧ Only (fun b => b = g) w w' := by
  have HC := Lib.hid hc
  clear hc
  by_cases hm : m ≤ 1
  · go_enter Try.func77, Try.ntmps77
    go_wp2
    go_ret
    exact ⟨0, s, k, rfl, by omega, by omega, by omega, HC.out, Below.refl _ _, Only.refl _ _⟩
  have hm2 : ¬ (200 : Int) < m := by omega
  go_enter Try.func77, Try.ntmps77
  go_wp2_with fail
  refine (srcNext g k n B v s _ HC.out hv hg hk).mono ?_
  rintro e w1 ⟨x, s', rfl, x0, x1, hc1, hb1, ho1⟩
  have HC1 := Lib.hid hc1
  have HB1 := Lib.hid hb1
  have HO1 := Lib.hid ho1
  obtain ⟨y, hy⟩ : ∃ y, y = x % m := ⟨_, rfl⟩
  have hty : x.tmod m = y := by rw [Int.tmod_eq_emod_of_nonneg x0, hy]
  have y0 : 0 ≤ y := by rw [hy]; exact Int.emod_nonneg _ (by omega)
  have y1 : y < m := by rw [hy]; exact Int.emod_lt_of_pos _ (by omega)
  clear hc1 hb1 ho1 hy
  go_wp2
  go_ret
  exact ⟨y, s', k + 1, rfl, y0, y1, Nat.le_refl _, by push_cast; exact HC1.out, HB1.out, HO1.out⟩
theorem srcFrom (a : Option Addr) (n c : Nat) (w : World) :
    Calls Try.prog 52 #[.slice a n c] w fun e w' => e = .returned (.pointer (some ⟨w.heap.size, 0, none⟩)) ∧ Cels w' w.heap.size 63 [.slice a n c, .int .i64 ((0 : Nat) : Int), .int .u64 0] ∧ Below w.heap.size w w' ∧ w'.heap.size = w.heap.size + 1 := by
  go_enter Try.func52, Try.ntmps52
  go_wp2
  go_ret
  exact ⟨rfl, Cels.new _ _ _, (Below.refl _ _).alloc (Nat.le_refl _) _, by simp⟩
end Go.Proofs.Ytfnopnaaahkklaa.Ints
