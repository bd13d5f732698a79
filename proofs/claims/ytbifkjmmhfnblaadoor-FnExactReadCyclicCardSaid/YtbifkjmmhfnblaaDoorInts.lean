/- Contracts of the laws' own helpers on lists of int64 (copy, compare, mark, held), and what is said of such lists in memory. -/
import Derived.Test.YtbifkjmmhfnblaaDoorRows
import Derived.WalkKit
import Derived.ProofKit
import Derived.OpenShut
import Derived.ShutString
import Derived.ChangeOld
import Derived.Below
import Derived.Handy
import Derived.Lib.Hide
import Derived.Laws.OwnMore
import Derived.BigQuiet
import Derived.Deep.QuietTactic
import Derived.WalkSmall
namespace Go.Proofs.YtbifkjmmhfnblaaDoor.Ints
open Go.RowKit
set_option linter.unusedVariables false

theorem infoE : (Tryd.prog.info? 2).map (fun i => (i.zero, i.size, i.bytes)) = some (some (.int .i64 0), 1, 8) := by kernel_rfl

/-- Every number fits an int64. -/
def Fit (zs : List Int) : Prop := ∀ z ∈ zs, -9223372036854775808 ≤ z ∧ z ≤ 9223372036854775807
/-- The value v is a slice that reads zs. -/
structure Rd (w : World) (v : Value) (zs : List Int) : Prop where
  len : zs.length ≤ 16777216
  fit : Fit zs
  val : ∃ a c, v = .slice a zs.length c ∧ zs.length ≤ c ∧ (zs ≠ [] → ∃ b o, a = some ⟨b, o, none⟩ ∧ b < w.heap.size ∧ ∀ i, i < zs.length → w.cell? ⟨b, o + i, none⟩ = some (.int .i64 (zs.getD i 0)))
/-- The value v is a row of the call's own, in a block from B on and below T, that reads zs. -/
structure Ow (w : World) (B T : Nat) (v : Value) (zs : List Int) : Prop where
  len : zs.length ≤ 16777216
  fit : Fit zs
  row : w.ownsRow B 2 1 v zs.length (zs.map (Value.int .i64))
  top : ∀ k, v.ownBlock = some k → k < T
  size : T ≤ w.heap.size
  base : B ≤ T

theorem Fit.at {zs : List Int} (h : Fit zs) (i : Nat) : -9223372036854775808 ≤ zs.getD i 0 ∧ zs.getD i 0 ≤ 9223372036854775807 := by
  by_cases hi : i < zs.length
  · rw [List.getD_eq_getElem?_getD, List.getElem?_eq_getElem hi]; exact h _ (List.getElem_mem hi)
  · rw [List.getD_eq_getElem?_getD, List.getElem?_eq_none (by omega)]; simp
theorem Fit.nil : Fit [] := fun _ h => by cases h

/-- An owned row is nil, or begins at the head of a block. -/
theorem Ow.form {w : World} {B T : Nat} {v : Value} {zs : List Int} (h : Ow w B T v zs) :
    (v = .slice none 0 0 ∧ zs = []) ∨ ∃ g c, v = .slice (some ⟨g, 0, none⟩) zs.length c ∧ B ≤ g ∧ g < T ∧ zs.length ≤ c ∧ c ≤ maxLen ∧
      w.ownsRow B 2 1 (.slice (some ⟨g, 0, none⟩) zs.length c) zs.length (zs.map (Value.int .i64)) := by
  have hr := h.row
  rcases hr.2 with ⟨rfl, h0⟩ | ⟨g, c, cur, rfl, hb, hg, hn, hm, _⟩
  · exact .inl ⟨rfl, List.eq_nil_of_length_eq_zero h0⟩
  · exact .inr ⟨g, c, rfl, hb, h.top g rfl, hn, hm, hr⟩

theorem Ow.rd {w : World} {B T : Nat} {v : Value} {zs : List Int} (h : Ow w B T v zs) : Rd w v zs := by
  rcases h.form with ⟨rfl, rfl⟩ | ⟨g, c, rfl, hb, hg, hn, hm, hr⟩
  · exact ⟨h.len, h.fit, none, 0, rfl, by simp, fun hne => absurd rfl hne⟩
  · refine ⟨h.len, h.fit, _, _, rfl, hn, fun _ => ⟨g, 0, rfl, by have := h.size; omega, fun i hi => ?_⟩⟩
    rw [Nat.zero_add, hr.cellAt i (by omega)]
    simp [List.getD_eq_getElem?_getD, List.getElem?_eq_getElem hi]

theorem Rd.below {w w' : World} {v : Value} {zs : List Int} (h : Rd w v zs) {B : Nat} (hb : Below B w w') (hB : w.heap.size ≤ B) : Rd w' v zs := by
  obtain ⟨l, f, a, c, rfl, hc, hr⟩ := h
  refine ⟨l, f, a, c, rfl, hc, fun hne => ?_⟩
  obtain ⟨b, o, rfl, hlt, hcell⟩ := hr hne
  exact ⟨b, o, rfl, Nat.lt_of_lt_of_le hlt hb.size, fun i hi => (hb.cell (by show b < B; omega)).trans (hcell i hi)⟩
/-- An argument's row stays whatever becomes of blocks from B on. -/
theorem Rd.under {w w' : World} {v : Value} {zs : List Int} {B : Nat} (h : Rd w v zs) (hb : Below B w w')
    (hlow : ∀ a n c, v = .slice (some a) n c → a.block < B) : Rd w' v zs := by
  obtain ⟨l, f, a, c, rfl, hc, hr⟩ := h
  refine ⟨l, f, a, c, rfl, hc, fun hne => ?_⟩
  obtain ⟨b, o, rfl, hlt, hcell⟩ := hr hne
  exact ⟨b, o, rfl, Nat.lt_of_lt_of_le hlt hb.size, fun i hi => (hb.cell (by show b < B; exact hlow _ _ _ rfl)).trans (hcell i hi)⟩

theorem Ow.grown {w w' : World} {B T : Nat} {v : Value} {zs : List Int} (h : Ow w B T v zs) {row : Option Nat} (hg : w.grownBy w' row) (hne : v.ownBlock = none ∨ v.ownBlock ≠ row) : Ow w' B T v zs :=
  ⟨h.len, h.fit, h.row.kept hg hne, h.top, Nat.le_trans h.size hg.size, h.base⟩
theorem Ow.below {w w' : World} {B T : Nat} {v : Value} {zs : List Int} (h : Ow w B T v zs) {C : Nat} (hb : Below C w w') (hC : T ≤ C) : Ow w' B T v zs := by
  refine ⟨h.len, h.fit, ?_, h.top, Nat.le_trans h.size hb.size, h.base⟩
  refine ⟨h.row.1, ?_⟩
  rcases h.row.2 with hn | ⟨g, cap, cur, rfl, hbb, hgg, rest⟩
  · exact .inl hn
  · exact .inr ⟨g, cap, cur, rfl, hbb, by rw [hb.block g (Nat.lt_of_lt_of_le (h.top g rfl) hC)]; exact hgg, rest⟩
theorem Ow.mono {w : World} {B T B' T' : Nat} {v : Value} {zs : List Int} (h : Ow w B T v zs) (hB : B' ≤ B) (hT : T ≤ T') (hs : T' ≤ w.heap.size) : Ow w B' T' v zs := by
  refine ⟨h.len, h.fit, ⟨h.row.1, ?_⟩, fun k hk => Nat.lt_of_lt_of_le (h.top k hk) hT, hs, Nat.le_trans hB (Nat.le_trans h.base hT)⟩
  rcases h.row.2 with hn | ⟨g, cap, cur, rfl, hbb, rest⟩
  · exact .inl hn
  · exact .inr ⟨g, cap, cur, rfl, Nat.le_trans hB hbb, rest⟩
/-- Rows of different calls are different blocks. -/
theorem Ow.apart {w w' : World} {B T B' T' : Nat} {v u : Value} {zs ys : List Int} (h : Ow w B T v zs) (k : Ow w' B' T' u ys) (ht : T ≤ B') :
    (v.ownBlock = none ∨ v.ownBlock ≠ u.ownBlock) ∧ (u.ownBlock = none ∨ u.ownBlock ≠ v.ownBlock) := by
  rcases k.form with ⟨rfl, _⟩ | ⟨g, c, rfl, hb, _⟩
  · refine ⟨?_, .inl rfl⟩
    cases hv : v.ownBlock <;> simp [Value.ownBlock]
  · cases hv : v.ownBlock with
    | none => exact ⟨.inl rfl, .inr (by simp [Value.ownBlock])⟩
    | some q =>
      have := h.top q hv
      exact ⟨.inr (by simp [Value.ownBlock]; omega), .inr (by simp [Value.ownBlock]; omega)⟩
theorem grown_below {w w' : World} {B T : Nat} {v : Value} {zs : List Int} (h : Ow w B T v zs) (hg : w.grownBy w' v.ownBlock) : Below B w w' := by
  exact (Below.refl B w).grown hg (Nat.le_trans h.base h.size) (fun k hk => (h.row.lt k hk).1)

theorem grown_trans {a b c : World} {row : Option Nat} (h : a.grownBy b row) (k : b.grownBy c row) : a.grownBy c row :=
  ⟨k.os.trans h.os, k.tape.trans h.tape, k.output.trans h.output, Nat.le_trans h.size k.size, fun q hq hne => (k.block q (Nat.lt_of_lt_of_le hq h.size) hne).trans (h.block q hq hne)⟩

/-- What came in, as the shell of a proof has it: a list of at most 1048576 numbers. -/
theorem rd_of_row {w : World} {a : Option Addr} {len cap : Nat} {zs : List Int}
    (h : (a = none ∧ len = 0 ∧ cap = 0 ∧ zs = []) ∨ ∃ x, a = some x ∧ len ≤ cap ∧ cap ≤ maxLen ∧ zs.length = cap ∧ (∀ i, i < zs.length → w.cell? (x.add i) = some (.int .i64 (zs.getD i 0))) ∧ ∀ n ∈ zs, (Lit.int .i64 n).wf = true)
    (hl : len ≤ 1048576) : Rd w (.slice a len cap) (zs.take len) := by
  rcases h with ⟨rfl, rfl, rfl, rfl⟩ | ⟨x, rfl, h1, h2, h3, hc, hw⟩
  · exact ⟨by simp, Fit.nil, none, 0, by simp, by simp, fun h => absurd rfl h⟩
  · have hlen : (zs.take len).length = len := by simp; omega
    refine ⟨by omega, ?_, some x, cap, by rw [hlen], by omega, fun hne => ?_⟩
    · intro z hz
      exact bounds_i64 (hw z (List.mem_of_mem_take hz))
    · have hpos : 0 < len := by
        rcases Nat.eq_zero_or_pos len with h0 | h0
        · subst h0; simp at hne
        · exact h0
      obtain ⟨b, off, spot⟩ := x
      have h0 := hc 0 (by omega)
      have hspot : spot = none := by simpa [Addr.add] using World.cell?_spot h0
      subst hspot
      refine ⟨b, off, rfl, World.block_lt_of_cell? w _ h0, fun i hi => ?_⟩
      have := hc i (by omega)
      rw [hlen] at hi
      have e : (zs.take len).getD i 0 = zs.getD i 0 := by simp [List.getD_eq_getElem?_getD, hi]
      rw [e]
      rw [Addr.add_lit] at this
      exact this

/-! ### Plain lemmas on lists -/
theorem set_step (zs : List Int) (k : Nat) (h : k < zs.length) :
    ((zs.take k ++ List.replicate (zs.length - k) 0).map (Value.int .i64)).set k (.int .i64 (zs.getD k 0)) = (zs.take (k + 1) ++ List.replicate (zs.length - (k + 1)) 0).map (Value.int .i64) := by
  have hl : (zs.take k).length = k := by simp; omega
  obtain ⟨m, hm⟩ : ∃ m, zs.length - k = m + 1 := ⟨zs.length - k - 1, by omega⟩
  have hm2 : zs.length - (k + 1) = m := by omega
  rw [hm, hm2, List.take_succ_eq_append_getElem h, List.replicate_succ, List.map_append, List.map_append, List.map_append, List.append_assoc]
  rw [List.set_append_right _ _ (by simp; omega)]
  simp [List.getD_eq_getElem?_getD, List.getElem?_eq_getElem h, Nat.min_eq_left (Nat.le_of_lt h)]
/-- The marks k, k + 1, .. -/
def marks (k : Int) (n : Nat) : List Int := (List.range n).map fun (i : Nat) => k + (i : Int)
@[simp] theorem length_marks (k : Int) (n : Nat) : (marks k n).length = n := by simp [marks]
theorem marks_at (k : Int) (n i : Nat) (h : i < n) : (marks k n).getD i 0 = k + i := by
  simp [marks, List.getD_eq_getElem?_getD, h]
theorem mark_step (zs : List Int) (k : Int) (i : Nat) (h : i < zs.length) :
    ((marks k i ++ zs.drop i).map (Value.int .i64)).set i (.int .i64 (k + i)) = (marks k (i + 1) ++ zs.drop (i + 1)).map (Value.int .i64) := by
  rw [List.map_append, List.set_append_right _ _ (by simp), List.drop_eq_getElem_cons h]
  simp only [List.map_cons, List.length_map, length_marks, Nat.sub_self, List.set_cons_zero]
  simp [marks, List.range_succ]
theorem Fit.marks {k : Int} {n : Nat} (h0 : 0 ≤ k) (h1 : k ≤ 1000000000000) (h2 : n ≤ 16777216) : Fit (marks k n) := by
  intro z hz
  simp only [Ints.marks, List.mem_map, List.mem_range] at hz
  obtain ⟨i, hi, rfl⟩ := hz
  omega

/-! ### The helpers -/
set_option maxHeartbeats 1000000 in
theorem eqInts (u v : Value) (zs : List Int) (w : World) (hu : Rd w u zs) (hv : Rd w v zs) :
    Calls Tryd.prog 11 #[u, v] w fun e w' => e = .returned (.bool true) ∧ Below w.heap.size w w' := by
  obtain ⟨hl, hf, a, c, rfl, hcap, hr⟩ := hu
  obtain ⟨_, _, a', c', rfl, _, hr'⟩ := hv
  go_enter Tryd.func11, Tryd.ntmps11
  go_wp2
  go_loopw [5] (fun s wr => ∃ k : Nat, k ≤ zs.length ∧ s = .int .i64 k ∧ Below w.heap.size w wr) (fun s _ => zs.length - (intOf s).toNat)
  case atStart => exact ⟨0, Nat.zero_le _, rfl, Below.refl _ _⟩
  case round =>
    obtain ⟨k, hk, rfl, hbel⟩ := hrel
    by_cases hlt : k < zs.length
    · obtain ⟨b, o, rfl, hb, hcell⟩ := hr (by intro h0; rw [h0] at hlt; simp at hlt)
      obtain ⟨b', o', rfl, hb', hcell'⟩ := hr' (by intro h0; rw [h0] at hlt; simp at hlt)
      have hc : wr.cell? ⟨b, o + k, none⟩ = some (.int .i64 (zs.getD k 0)) := (hbel.cell hb).trans (hcell k hlt)
      have hc' : wr.cell? ⟨b', o' + k, none⟩ = some (.int .i64 (zs.getD k 0)) := (hbel.cell hb').trans (hcell' k hlt)
      have i0 : (0 : Int) ≤ (k : Int) := by omega
      have i1 : (k : Int) < (zs.length : Int) := by omega
      have HB := Lib.hid hbel
      clear hcell hcell' hbel hr hr'
      go_wp2
      go_quiet (fail)
      go_wp2
      go_roundw
      case rel => exact ⟨k + 1, by omega, by go_num, below_drewN HB.out _⟩
      case measure => simp [intOf]; omega
    · have HB := Lib.hid hbel
      clear hbel
      go_wp2
      go_ret
      exact ⟨rfl, HB.out⟩

set_option maxHeartbeats 1000000 in
theorem markInts (v : Value) (zs : List Int) (k0 : Int) (B T : Nat) (w : World) (h : Ow w B T v zs) (h0 : 0 ≤ k0) (h1 : k0 ≤ 1000000000000) :
    Calls Tryd.prog 12 #[v, .int .i64 k0] w fun e w' => e = .returned (.int .i64 (k0 + zs.length)) ∧ Ow w' B T v (marks k0 zs.length) ∧ w.grownBy w' v.ownBlock := by
  have hl := h.len
  rcases h.form with ⟨rfl, rfl⟩ | ⟨g, c, rfl, hb, hg, hn, hm, hr⟩
  · have H := Lib.hid h
    clear h hl
    go_enter Tryd.func12, Tryd.ntmps12
    go_wp2
    refine wp_loop_rounds 1 ?_
    rw [rounds_succ]
    go_wp2
    go_ret
    exact ⟨by simp, H.out, World.grownBy.refl _ _⟩
  · have hT := h.size
    have H := Lib.hid h
    have HR := Lib.hid hr
    clear h hr
    go_enter Tryd.func12, Tryd.ntmps12
    go_wp2
    go_loopw [1, 5] (fun q s wr => ∃ i : Nat, i ≤ zs.length ∧ s = .int .i64 i ∧ q = .int .i64 (k0 + i) ∧
        wr.ownsRow B 2 1 (.slice (some ⟨g, 0, none⟩) zs.length c) zs.length ((marks k0 i ++ zs.drop i).map (Value.int .i64)) ∧ w.grownBy wr (some g))
      (fun _ s _ => zs.length - (intOf s).toNat)
    case atStart => exact ⟨0, Nat.zero_le _, rfl, by simp, by simpa [marks] using HR.out, World.grownBy.refl _ _⟩
    case round =>
      obtain ⟨i, hi, rfl, rfl, hown, hgr⟩ := hrel
      by_cases hlt : i < zs.length
      · have hc2 : wr.cell? ⟨g, i, none⟩ = some (((marks k0 i ++ zs.drop i).map (Value.int .i64)).getD i undef) := by
          rw [hown.cellAt i (by omega), List.getD_eq_getElem?_getD]
          rw [List.getElem?_eq_getElem (by simp; omega)]; rfl
        obtain ⟨u0, hu0⟩ : ∃ u, u = ((marks k0 i ++ zs.drop i).map (Value.int .i64)).getD i undef := ⟨_, rfl⟩
        rw [← hu0] at hc2
        have hfz := hown.frozenAt i
        have hst := hown.stored i (.int .i64 (k0 + i))
        rw [mark_step zs k0 i hlt] at hst
        have HS := Lib.hid hst
        have HB := Lib.hid hgr
        clear hst hown hgr hu0
        go_wp2
        go_roundw
        case rel => exact ⟨i + 1, by omega, by go_num, by go_num, HS.out.1, grown_trans HB.out HS.out.2⟩
        case measure => simp [intOf]; omega
      · obtain rfl : i = zs.length := by omega
        have HS := Lib.hid hown
        have HB := Lib.hid hgr
        clear hown hgr
        go_wp2
        go_ret
        refine ⟨rfl, ⟨by simpa using hl, Fit.marks h0 h1 hl, ?_, H.out.top, Nat.le_trans hT HB.out.size, H.out.base⟩, HB.out⟩
        have := HS.out; simpa using this
set_option maxHeartbeats 1000000 in
theorem heldInts (v : Value) (n : Nat) (k0 : Int) (w : World) (h : Rd w v (marks k0 n)) (h0 : 0 ≤ k0) (h1 : k0 ≤ 1000000000000) :
    Calls Tryd.prog 13 #[v, .int .i64 k0] w fun e w' => e = .returned (.int .i64 (k0 + n)) ∧ w = w' := by
  obtain ⟨hl, hf, a, c, rfl, hcap, hr⟩ := h
  simp only [length_marks] at hl hcap hr
  have hfit := hf
  rw [length_marks]
  clear hf
  go_enter Tryd.func13, Tryd.ntmps13
  go_wp2
  go_loop [1, 5] (fun q s => ∃ i : Nat, i ≤ n ∧ s = .int .i64 i ∧ q = .int .i64 (k0 + i)) (fun _ s => n - (intOf s).toNat)
  case atStart => exact ⟨0, Nat.zero_le _, rfl, by simp⟩
  case round =>
    obtain ⟨i, hi, rfl, rfl⟩ := hrel
    by_cases hlt : i < n
    · obtain ⟨b, o, rfl, hb, hcell⟩ := hr (by intro h0; have := congrArg List.length h0; simp at this; omega)
      have hc : w.cell? ⟨b, o + i, none⟩ = some (.int .i64 (k0 + i)) := by rw [hcell i hlt, marks_at k0 n i hlt]
      clear hcell hr
      go_wp2
      go_round
      case rel => exact ⟨i + 1, by omega, by go_num, by go_num⟩
      case measure => simp [intOf]; omega
    · obtain rfl : i = n := by omega
      go_wp2
      go_ret
      exact ⟨rfl, rfl⟩

end Go.Proofs.YtbifkjmmhfnblaaDoor.Ints
