/- Contracts of the laws' own helpers on rules and machines (size, copy, compare, mark, held). -/
import Derived.Test.YtmbojhlcmgknbaaDoorRu
import Derived.Deep.RegionHeld3
namespace Go.Proofs.YtmbojhlcmgknbaaDoor.Ints
open Go.RowKit
set_option linter.unusedVariables false
set_option linter.unusedSimpArgs false

theorem infoR : (Tryd.prog.info? 86).map (fun i => (i.zero, i.size, i.bytes)) = some (some (.agg #[.int .i64 0, .int .i64 0, .int .i64 0]), 3, 24) := by kernel_rfl
theorem made_rules (n : Nat) : (madeCells #[Value.int .i64 0, .int .i64 0, .int .i64 0] (n * 3)).toList = rcs (List.replicate n ru0) := by
  have e : rcs (List.replicate n ru0) = List.replicate (n * 3) (.int .i64 0) := by
    induction n with
    | zero => rfl
    | succ n ih => rw [List.replicate_succ, rcs_cons, ih, show (n + 1) * 3 = n * 3 + 1 + 1 + 1 by omega, List.replicate_succ, List.replicate_succ, List.replicate_succ]; rfl
  rw [e]
  apply List.ext_getElem?
  intro j
  by_cases hj : j < n * 3
  · have h3 : j % 3 = 0 ∨ j % 3 = 1 ∨ j % 3 = 2 := by omega
    rcases h3 with h | h | h <;> simp [madeCells, hj, h]
  · simp [madeCells, hj]
theorem rcs_set (rs : List Ru) : ∀ (k : Nat) (h : k < rs.length) (r : Ru), (((rcs rs).set (k * 3) (.int .i64 r.wr)).set (k * 3 + 1) (.int .i64 r.mv)).set (k * 3 + 2) (.int .i64 r.nx) = rcs (rs.set k r) := by
  induction rs with
  | nil => intro k h; simp at h
  | cons x rs ih =>
    intro k h r
    cases k with
    | zero => simp [rcs_cons]
    | succ k =>
      have := ih k (by simpa using h) r
      rw [rcs_cons, show (k + 1) * 3 = k * 3 + 1 + 1 + 1 by omega, show k * 3 + 1 + 1 + 1 + 1 = (k * 3 + 1) + 1 + 1 + 1 by omega, show k * 3 + 1 + 1 + 1 + 2 = (k * 3 + 2) + 1 + 1 + 1 by omega]
      simp only [List.set_cons_succ]
      rw [this]; rfl
theorem rowR_store {w : World} {B g c : Nat} {rs : List Ru} (h : w.ownsRow B 86 3 (.slice (some ⟨g, 0, none⟩) rs.length c) rs.length (rcs rs)) (k : Nat) (hk : k < rs.length) (r : Ru) :
    (((w.setCell ⟨g, k * 3, none⟩ (.int .i64 r.wr)).setCell ⟨g, k * 3 + 1, none⟩ (.int .i64 r.mv)).setCell ⟨g, k * 3 + 2, none⟩ (.int .i64 r.nx)).ownsRow B 86 3 (.slice (some ⟨g, 0, none⟩) rs.length c) rs.length (rcs (rs.set k r)) ∧
    w.grownBy (((w.setCell ⟨g, k * 3, none⟩ (.int .i64 r.wr)).setCell ⟨g, k * 3 + 1, none⟩ (.int .i64 r.mv)).setCell ⟨g, k * 3 + 2, none⟩ (.int .i64 r.nx)) (some g) := by
  obtain ⟨h1, g1⟩ := h.stored (k * 3) (.int .i64 r.wr)
  obtain ⟨h2, g2⟩ := h1.stored (k * 3 + 1) (.int .i64 r.mv)
  obtain ⟨h3, g3⟩ := h2.stored (k * 3 + 2) (.int .i64 r.nx)
  rw [rcs_set rs k hk] at h3
  exact ⟨h3, grown_trans (grown_trans g1 g2) g3⟩
theorem setR_step (rs : List Ru) (k : Nat) (h : k < rs.length) : (rs.take k ++ List.replicate (rs.length - k) ru0).set k (rs.getD k ru0) = rs.take (k + 1) ++ List.replicate (rs.length - (k + 1)) ru0 := by
  obtain ⟨m, hm⟩ : ∃ m, rs.length - k = m + 1 := ⟨rs.length - k - 1, by omega⟩
  have hm2 : rs.length - (k + 1) = m := by omega
  rw [hm, hm2, List.take_succ_eq_append_getElem h, List.replicate_succ, List.append_assoc, List.set_append_right _ _ (by simp; omega)]
  simp [List.getD_eq_getElem?_getD, List.getElem?_eq_getElem h, Nat.min_eq_left (Nat.le_of_lt h)]
/-- The marks k, k + 1, .. on rules. -/
def marksR (k : Int) (n : Nat) : List Ru := (List.range n).map fun (i : Nat) => ⟨k + 3 * (i : Int), k + 3 * (i : Int) + 1, k + 3 * (i : Int) + 2⟩
@[simp] theorem length_marksR (k : Int) (n : Nat) : (marksR k n).length = n := by simp [marksR]
theorem marksR_at (k : Int) (n i : Nat) (h : i < n) : (marksR k n).getD i ru0 = ⟨k + 3 * (i : Int), k + 3 * (i : Int) + 1, k + 3 * (i : Int) + 2⟩ := by
  simp [marksR, List.getD_eq_getElem?_getD, h]
theorem markR_step (rs : List Ru) (k : Int) (i : Nat) (h : i < rs.length) :
    (marksR k i ++ rs.drop i).set i ⟨k + 3 * (i : Int), k + 3 * (i : Int) + 1, k + 3 * (i : Int) + 2⟩ = marksR k (i + 1) ++ rs.drop (i + 1) := by
  rw [List.set_append_right _ _ (by simp), List.drop_eq_getElem_cons h]
  simp only [length_marksR, Nat.sub_self, List.set_cons_zero]
  simp [marksR, List.range_succ]
theorem FitR.marks {k : Int} {n : Nat} (h0 : 0 ≤ k) (h1 : k ≤ 1000000000000) (h2 : n ≤ 16777216) : FitR (marksR k n) := by
  intro r hr
  simp only [marksR, List.mem_map, List.mem_range] at hr
  obtain ⟨i, hi, rfl⟩ := hr
  exact ⟨⟨by dsimp only; omega, by dsimp only; omega⟩, ⟨by dsimp only; omega, by dsimp only; omega⟩, ⟨by dsimp only; omega, by dsimp only; omega⟩⟩

/-- What a store of a rule into a row of the call's own asks and leaves. -/
theorem rowR_open {w w1 : World} {B g c : Nat} {rs : List Ru} {k n : Nat} (h : w.ownsRow B 86 3 (.slice (some ⟨g, 0, none⟩) n c) n (rcs rs)) (hb : Below w.heap.size w w1) (hg : g < w.heap.size) (hk : k < rs.length) (r : Ru) :
    w1.cell? ⟨g, k * 3, none⟩ = some (.int .i64 (rs.getD k ru0).wr) ∧ (w1.setCell ⟨g, k * 3, none⟩ (.int .i64 r.wr)).cell? ⟨g, k * 3 + 1, none⟩ = some (.int .i64 (rs.getD k ru0).mv) ∧
    ((w1.setCell ⟨g, k * 3, none⟩ (.int .i64 r.wr)).setCell ⟨g, k * 3 + 1, none⟩ (.int .i64 r.mv)).cell? ⟨g, k * 3 + 2, none⟩ = some (.int .i64 (rs.getD k ru0).nx) ∧
    w1.frozen? ⟨g, k * 3, none⟩ = false ∧ (w1.setCell ⟨g, k * 3, none⟩ (.int .i64 r.wr)).frozen? ⟨g, k * 3 + 1, none⟩ = false ∧ ((w1.setCell ⟨g, k * 3, none⟩ (.int .i64 r.wr)).setCell ⟨g, k * 3 + 1, none⟩ (.int .i64 r.mv)).frozen? ⟨g, k * 3 + 2, none⟩ = false ∧
    (((w1.setCell ⟨g, k * 3, none⟩ (.int .i64 r.wr)).setCell ⟨g, k * 3 + 1, none⟩ (.int .i64 r.mv)).setCell ⟨g, k * 3 + 2, none⟩ (.int .i64 r.nx)).ownsRow B 86 3 (.slice (some ⟨g, 0, none⟩) n c) n (rcs (rs.set k r)) ∧
    (B ≤ w.heap.size → Below B w (((w1.setCell ⟨g, k * 3, none⟩ (.int .i64 r.wr)).setCell ⟨g, k * 3 + 1, none⟩ (.int .i64 r.mv)).setCell ⟨g, k * 3 + 2, none⟩ (.int .i64 r.nx))) := by
  have hn : rs.length = n := by have := h.1; rw [rcs_length] at this; omega
  subst hn
  have hB : B ≤ g := (h.lt _ rfl).1
  have h' : w1.ownsRow B 86 3 (.slice (some ⟨g, 0, none⟩) rs.length c) rs.length (rcs rs) := by
    refine ⟨h.1, ?_⟩
    rcases h.2 with hn | ⟨g', cap, cur, hv, hbb, hgg, rest⟩
    · exact .inl hn
    · refine .inr ⟨g', cap, cur, hv, hbb, ?_, rest⟩
      cases hv
      rw [hb.block g hg]; exact hgg
  obtain ⟨a0, a1, a2⟩ := rcs_at rs k hk
  obtain ⟨h1, g1⟩ := h'.stored (k * 3) (.int .i64 r.wr)
  obtain ⟨h2, g2⟩ := h1.stored (k * 3 + 1) (.int .i64 r.mv)
  obtain ⟨h3, g3⟩ := h2.stored (k * 3 + 2) (.int .i64 r.nx)
  have hl := rcs_length rs
  refine ⟨by rw [h'.cellAt _ (by omega)]; exact a0, by rw [h1.cellAt _ (by omega), List.getElem?_set_ne (by omega)]; exact a1, by rw [h2.cellAt _ (by omega), List.getElem?_set_ne (by omega), List.getElem?_set_ne (by omega)]; exact a2, h'.frozenAt _, h1.frozenAt _, h2.frozenAt _, by rw [← rcs_set rs k hk]; exact h3, fun hBw => ?_⟩
  have hb' := hb.mono hBw
  exact ((hb'.grown g1 (by have := hb.size; omega) (fun q hq => by cases hq; exact hB)).grown g2 (by have := hb.size; have := g1.size; omega) (fun q hq => by cases hq; exact hB)).grown g3 (by have := hb.size; have := g1.size; have := g2.size; omega) (fun q hq => by cases hq; exact hB)
theorem OwR.apartCell {w : World} {B T : Nat} {v : Value} {rs : List Ru} (h : OwR w B T v rs) {g : Nat} (hg : g < B) (j : Nat) (x : Value) : OwR (w.setCell ⟨g, j, none⟩ x) B T v rs :=
  h.grown (row := some g) ⟨rfl, rfl, rfl, by simp, fun k _ hk => heap_setCell_other w ⟨g, j, none⟩ k _ (fun e => hk (by simp [e]))⟩ (by
    rcases h.form with ⟨h', _⟩ | ⟨q, c, h', hq, _⟩
    · rw [h']; exact .inl rfl
    · rw [h']; exact .inr (by simp [Value.ownBlock]; omega))
/-- What the end of a call asks and leaves that stores into a struct, loads it and hands it back in a cell: a last field is stored. -/
theorem ret3 {w : World} {g1 g2 : Nat} {t1 t2 : TypeId} {a0 a1 a2 b0 b1 b2 : Value} (h1 : Cels w g1 t1 [a0, a1, a2]) (h2 : Cels w g2 t2 [b0, b1, b2]) (hne : g1 ≠ g2) (u : Value) :
    w.cell? ⟨g2, 2, none⟩ = some b2 ∧ w.frozen? ⟨g2, 2, none⟩ = false ∧ (w.setCell ⟨g2, 2, none⟩ u).cell? ⟨g2, 0, none⟩ = some b0 ∧ (w.setCell ⟨g2, 2, none⟩ u).cell? ⟨g2, 1, none⟩ = some b1 ∧ (w.setCell ⟨g2, 2, none⟩ u).cell? ⟨g2, 2, none⟩ = some u ∧
    (w.setCell ⟨g2, 2, none⟩ u).cell? ⟨g1, 0, none⟩ = some a0 ∧ (w.setCell ⟨g2, 2, none⟩ u).frozen? ⟨g1, 0, none⟩ = false ∧
    ((w.setCell ⟨g2, 2, none⟩ u).setCell ⟨g1, 0, none⟩ b0).cell? ⟨g1, 1, none⟩ = some a1 ∧ ((w.setCell ⟨g2, 2, none⟩ u).setCell ⟨g1, 0, none⟩ b0).frozen? ⟨g1, 1, none⟩ = false ∧
    (((w.setCell ⟨g2, 2, none⟩ u).setCell ⟨g1, 0, none⟩ b0).setCell ⟨g1, 1, none⟩ b1).cell? ⟨g1, 2, none⟩ = some a2 ∧ (((w.setCell ⟨g2, 2, none⟩ u).setCell ⟨g1, 0, none⟩ b0).setCell ⟨g1, 1, none⟩ b1).frozen? ⟨g1, 2, none⟩ = false ∧
    Cels ((((w.setCell ⟨g2, 2, none⟩ u).setCell ⟨g1, 0, none⟩ b0).setCell ⟨g1, 1, none⟩ b1).setCell ⟨g1, 2, none⟩ u) g1 t1 [b0, b1, u] := by
  have s1 := h2.set 2 u
  have r1 := h1.other (p := ⟨g2, 2, none⟩) hne u
  have r2 := r1.set 0 b0
  have r3 := r2.set 1 b1
  have r4 := r3.set 2 u
  exact ⟨h2.cell 2 rfl, h2.frozen 2, s1.cell 0 rfl, s1.cell 1 rfl, s1.cell 2 rfl, r1.cell 0 rfl, r1.frozen 0, r2.cell 1 rfl, r2.frozen 1, r3.cell 2 rfl, r3.frozen 2, r4⟩
theorem szMach (sy st : Int) (a : Option Addr) (n c : Nat) (w : World) {L l : Int} (hL : 0 ≤ L ∧ L ≤ 1048576) (h : l = L - (n : Int)) (h0 : 0 ≤ l) (hz : (n : Int) ≤ 9223372036854775807) :
    Calls Tryd.prog 7 #[.agg #[.int .i64 sy, .int .i64 st, .slice a n c], .int .i64 L] w fun e w' => e = .returned (.int .i64 l) ∧ Below w.heap.size w w' := by
  have e : IntKind.i64.wrap (L - (n : Int)) = l := by rw [IntKind.wrap_i64]; omega
  have hn : ¬ l < 0 := by omega
  clear h0 hL hz
  go_enter Tryd.func7, Tryd.ntmps7
  go_wp2
  go_ret
  exact ⟨rfl, (Below.refl _ _).alloc (Nat.le_refl _) _⟩
theorem szMach_bad0 (sy st : Int) (a : Option Addr) (n c : Nat) (w : World) {L l : Int} (hL : 0 ≤ L ∧ L ≤ 1048576) (h : l = L - (n : Int)) (h0 : l < 0) (hz : (n : Int) ≤ 9223372036854775807) :
    Calls Tryd.prog 7 #[.agg #[.int .i64 sy, .int .i64 st, .slice a n c], .int .i64 L] w fun e w' => e = .returned (.int .i64 (-1)) ∧ Below w.heap.size w w' := by
  have e : IntKind.i64.wrap (L - (n : Int)) = l := by rw [IntKind.wrap_i64]; omega
  have hn : l < 0 := by omega
  clear h0 hL hz
  go_enter Tryd.func7, Tryd.ntmps7
  go_wp2
  go_ret
  exact ⟨rfl, (Below.refl _ _).alloc (Nat.le_refl _) _⟩
theorem toRule (x y z : Int) (w : World) : Calls Tryd.prog 80 #[.agg #[.int .i64 x, .int .i64 y, .int .i64 z]] w fun e w' => e = .returned (.agg #[.int .i64 x, .int .i64 y, .int .i64 z]) ∧ Below w.heap.size w w' := by
  go_enter Tryd.func80, Tryd.ntmps80
  go_wp2
  refine bodyPost_ret (v := .agg #[.int .i64 x, .int .i64 y, .int .i64 z]) (by simp [results, Tryd.f80, go_sem]) rfl ⟨rfl, ?_⟩
  exact (((Below.refl _ _).alloc (Nat.le_refl _) _).alloc (by simp) _).alloc (by simp; omega) _
set_option maxHeartbeats 1000000 in
theorem toRules (v : Value) (rs : List Ru) (w : World) (h : RdR w v rs) :
    Calls Tryd.prog 42 #[v] w fun e w' => ∃ u, e = .returned u ∧ OwR w' w.heap.size w'.heap.size u rs ∧ Below w.heap.size w w' := by
  obtain ⟨hl, hf, a, c, rfl, hcap, hr⟩ := h
  obtain ⟨i0, hi, hz0, hz1, hz2⟩ := info_parts infoR
  go_enter Tryd.func42, Tryd.ntmps42
  go_wp2_with (at_make; refine wpList_make_full _ rfl _ _ 27 rfl w.heap.size 86 i0 (.agg #[.int .i64 0, .int .i64 0, .int .i64 0]) 3 Tryd.underlying27 hi hz0 hz1 _ _ _ _ rs.length rfl rfl rfl rfl ?b2 ?b3 (Nat.le_refl _) ?_)
  case b2 => rw [hz2]; omega
  case b3 => unfold maxLen; omega
  intro w0 hown0 hgrow0
  rw [made_rules] at hown0
  have HO : Hid (w0.ownsRow w.heap.size 86 3 (.slice (some ⟨w.heap.size, 0, none⟩) rs.length rs.length) rs.length (rcs (rs.take 0 ++ List.replicate (rs.length - 0) ru0))) := Lib.hid (by simpa using hown0)
  have HG := Lib.hid hgrow0
  clear hown0 hgrow0
  go_wp2
  go_loopw [4] (fun s wr => ∃ k : Nat, k ≤ rs.length ∧ s = .int .i64 k ∧ w.heap.size < wr.heap.size ∧
      wr.ownsRow w.heap.size 86 3 (.slice (some ⟨w.heap.size, 0, none⟩) rs.length rs.length) rs.length (rcs (rs.take k ++ List.replicate (rs.length - k) ru0)) ∧ Below w.heap.size w wr)
    (fun s _ => rs.length - (intOf s).toNat)
  case atStart => exact ⟨0, Nat.zero_le _, rfl, (HO.out.lt _ rfl).2, HO.out, (Below.refl _ _).grown HG.out (Nat.le_refl _) (fun k h => by cases h)⟩
  case round =>
    obtain ⟨k, hk, rfl, hsz, hown, hbel⟩ := hrel
    by_cases hlt : k < rs.length
    · obtain ⟨b, o, rfl, hb, hcell⟩ := hr (by intro h0; rw [h0] at hlt; simp at hlt)
      obtain ⟨c0, c1, c2⟩ := hcell k hlt
      replace c0 := (hbel.cell (p := ⟨b, o + k * 3, none⟩) hb).trans c0
      replace c1 := (hbel.cell (p := ⟨b, o + k * 3 + 1, none⟩) hb).trans c1
      replace c2 := (hbel.cell (p := ⟨b, o + k * 3 + 2, none⟩) hb).trans c2
      have hset := setR_step rs k hlt
      obtain ⟨r, hr0⟩ : ∃ r, r = rs.getD k ru0 := ⟨_, rfl⟩
      rw [← hr0] at c0 c1 c2 hset
      have HSET := Lib.hid hset
      have HB := Lib.hid hbel
      have HW := Lib.hid hown
      clear hown hbel hcell hset hr HO HG hr0
      obtain ⟨x, y, z⟩ := r
      go_wp2_with fail
      refine (toRule x y z _).mono ?_
      rintro e w1 ⟨rfl, hb1⟩
      obtain ⟨d0, d1, d2, e0, e1, e2, hs1, hs2⟩ := rowR_open (k := k) HW.out hb1 hsz (by rw [List.length_append, List.length_take, List.length_replicate]; omega) ⟨x, y, z⟩
      have HS1 := Lib.hid hs1
      have HS2 := Lib.hid (HB.out.trans (hs2 HB.out.size))
      have HSZ : Hid (w.heap.size < w1.heap.size) := Lib.hid (Nat.lt_of_lt_of_le hsz hb1.size)
      rw [HSET.out] at HS1
      obtain ⟨q, hq⟩ : ∃ q, q = (rs.take k ++ List.replicate (rs.length - k) ru0).getD k ru0 := ⟨_, rfl⟩
      rw [← hq] at d0 d1 d2
      clear hs1 hs2 hb1 c0 c1 c2 hq
      go_wp2
      go_roundw
      case rel => exact ⟨k + 1, by omega, by go_num, by simpa using HSZ.out, HS1.out, HS2.out⟩
      case measure => simp [intOf]; omega
    · obtain rfl : k = rs.length := by omega
      have HS := Lib.hid hown
      have HB := Lib.hid hbel
      clear hown hbel
      go_wp2
      go_ret
      refine ⟨_, rfl, ⟨hl, hf, ?_, ?_, Nat.le_refl _, HB.out.size⟩, HB.out⟩
      · have := HS.out; simpa using this
      · intro q hq; cases hq; exact hsz
theorem eqRule (x y z : Int) (w : World) : Calls Tryd.prog 87 #[.agg #[.int .i64 x, .int .i64 y, .int .i64 z], .agg #[.int .i64 x, .int .i64 y, .int .i64 z]] w fun e w' => e = .returned (.bool true) ∧ Below w.heap.size w w' := by
  go_enter Tryd.func87, Tryd.ntmps87
  go_wp2
  go_ret
  exact ⟨rfl, ((Below.refl _ _).alloc (Nat.le_refl _) _).alloc (by simp) _⟩
set_option maxHeartbeats 1000000 in
theorem eqRules (u v : Value) (rs : List Ru) (w : World) (hu : RdR w u rs) (hv : RdR w v rs) :
    Calls Tryd.prog 47 #[u, v] w fun e w' => e = .returned (.bool true) ∧ Below w.heap.size w w' := by
  obtain ⟨hl, hf, a, c, rfl, hcap, hr⟩ := hu
  obtain ⟨_, _, a', c', rfl, _, hr'⟩ := hv
  go_enter Tryd.func47, Tryd.ntmps47
  go_wp2
  go_loopw [5] (fun s wr => ∃ k : Nat, k ≤ rs.length ∧ s = .int .i64 k ∧ Below w.heap.size w wr) (fun s _ => rs.length - (intOf s).toNat)
  case atStart => exact ⟨0, Nat.zero_le _, rfl, Below.refl _ _⟩
  case round =>
    obtain ⟨k, hk, rfl, hbel⟩ := hrel
    by_cases hlt : k < rs.length
    · obtain ⟨b, o, rfl, hb, hcell⟩ := hr (by intro h0; rw [h0] at hlt; simp at hlt)
      obtain ⟨b', o', rfl, hb', hcell'⟩ := hr' (by intro h0; rw [h0] at hlt; simp at hlt)
      obtain ⟨c0, c1, c2⟩ := hcell k hlt
      obtain ⟨d0, d1, d2⟩ := hcell' k hlt
      replace c0 := (hbel.cell (p := ⟨b, o + k * 3, none⟩) hb).trans c0
      replace c1 := (hbel.cell (p := ⟨b, o + k * 3 + 1, none⟩) hb).trans c1
      replace c2 := (hbel.cell (p := ⟨b, o + k * 3 + 2, none⟩) hb).trans c2
      replace d0 := (hbel.cell (p := ⟨b', o' + k * 3, none⟩) hb').trans d0
      replace d1 := (hbel.cell (p := ⟨b', o' + k * 3 + 1, none⟩) hb').trans d1
      replace d2 := (hbel.cell (p := ⟨b', o' + k * 3 + 2, none⟩) hb').trans d2
      obtain ⟨r, hr0⟩ : ∃ r, r = rs.getD k ru0 := ⟨_, rfl⟩
      rw [← hr0] at c0 c1 c2 d0 d1 d2
      have HB := Lib.hid hbel
      clear hcell hcell' hbel hr hr' hr0
      obtain ⟨x, y, z⟩ := r
      have i0 : (0 : Int) ≤ (k : Int) := by omega
      have i1 : (k : Int) < (rs.length : Int) := by omega
      have HC : Hid (∀ W, Below wr.heap.size wr W → (W.cell? ⟨b, o + k * 3, none⟩ = some (.int .i64 x) ∧ W.cell? ⟨b, o + k * 3 + 1, none⟩ = some (.int .i64 y) ∧ W.cell? ⟨b, o + k * 3 + 2, none⟩ = some (.int .i64 z)) ∧ (W.cell? ⟨b', o' + k * 3, none⟩ = some (.int .i64 x) ∧ W.cell? ⟨b', o' + k * 3 + 1, none⟩ = some (.int .i64 y) ∧ W.cell? ⟨b', o' + k * 3 + 2, none⟩ = some (.int .i64 z))) := Lib.hid (fun W hW => by
        have hb1 : b < wr.heap.size := World.block_lt_of_cell? wr _ c0
        have hb2 : b' < wr.heap.size := World.block_lt_of_cell? wr _ d0
        exact ⟨⟨(hW.cell (p := ⟨b, o + k * 3, none⟩) hb1).trans c0, (hW.cell (p := ⟨b, o + k * 3 + 1, none⟩) hb1).trans c1, (hW.cell (p := ⟨b, o + k * 3 + 2, none⟩) hb1).trans c2⟩, (hW.cell (p := ⟨b', o' + k * 3, none⟩) hb2).trans d0, (hW.cell (p := ⟨b', o' + k * 3 + 1, none⟩) hb2).trans d1, (hW.cell (p := ⟨b', o' + k * 3 + 2, none⟩) hb2).trans d2⟩)
      have HX : Hid (Below wr.heap.size wr wr.drew) := Lib.hid (Below.refl _ _).drew
      have HBB := Lib.hid hb
      have HBB' := Lib.hid hb'
      have HW : Hid (Below w.heap.size w wr.drew) := Lib.hid HB.out.drew
      go_wp2_with fail
      go_region_held3 (fun w' => (w'.cell? ⟨b, o + k * 3, none⟩ = some (.int .i64 x) ∧ w'.cell? ⟨b, o + k * 3 + 1, none⟩ = some (.int .i64 y) ∧ w'.cell? ⟨b, o + k * 3 + 2, none⟩ = some (.int .i64 z)) ∧ (w'.cell? ⟨b', o' + k * 3, none⟩ = some (.int .i64 x) ∧ w'.cell? ⟨b', o' + k * 3 + 1, none⟩ = some (.int .i64 y) ∧ w'.cell? ⟨b', o' + k * 3 + 2, none⟩ = some (.int .i64 z)))
        (exact HC.out _ HX.out)
        (first | (go_at_call 87; refine (eqRule x y z _).mono ?_; rintro e3 w3 ⟨rfl, hb3⟩; replace HW := Lib.hid (HW.out.trans (hb3.mono HW.out.size)); replace HX := Lib.hid (HX.out.trans (hb3.mono HX.out.size)); clear hb3))
      all_goals
        go_wp2
        go_roundw
        case rel => exact ⟨k + 1, by omega, by go_num, HW.out⟩
        case measure => simp [intOf]; omega
    · have HB := Lib.hid hbel
      clear hbel
      go_wp2
      go_ret
      exact ⟨rfl, HB.out⟩
theorem toMach (sy st : Int) (v : Value) (rs : List Ru) (w : World) (h : RdR w v rs) :
    Calls Tryd.prog 9 #[.agg #[.int .i64 sy, .int .i64 st, v]] w fun e w' => ∃ u, e = .returned (.agg #[.int .i64 sy, .int .i64 st, u]) ∧ OwR w' w.heap.size w'.heap.size u rs ∧ Below w.heap.size w w' := by
  have HV := Lib.hid h
  obtain ⟨_, _, a, c, rfl, _, _⟩ := h
  have HC := Lib.hid (cels3 w (Obj.cells #[Value.int IntKind.i64 sy, Value.int IntKind.i64 st, Value.slice a rs.length c] 24) 29 29 [.int .i64 0, .int .i64 0, .slice none 0 0] [.int .i64 sy, .int .i64 st, .slice none 0 0])
  go_enter Tryd.func9, Tryd.ntmps9
  go_wp2_with fail
  obtain ⟨k1, k2, hb0, hs0⟩ := HC.out
  simp only [List.toArray] at k1 k2 hb0 hs0
  refine (toRules _ rs _ (HV.out.below hb0 (Nat.le_refl _))).mono ?_
  rintro e w1 ⟨u, rfl, ho, hb1⟩
  obtain ⟨ga, gc, rfl⟩ := ho.shape
  replace k1 := k1.below hb1 (by rw [hs0]; omega)
  replace k2 := k2.below hb1 (by rw [hs0]; omega)
  have HB1 := Lib.hid (hb0.trans (hb1.mono hb0.size))
  have hsz : w.heap.size + 1 + 1 < w1.heap.size := by have := hb1.size; omega
  have HO : Hid (OwR w1 (w.heap.size + 1 + 1 + 1) w1.heap.size (.slice ga rs.length gc) rs) := Lib.hid (by rw [← hs0]; exact ho)
  have HF := Lib.hid (ret3 k1 k2 (by omega) (.slice ga rs.length gc))
  obtain ⟨f1, f2, f3, f4, f5, f6, f7, f8, f9, f10, f11, f12⟩ := HF.out
  clear ho hb0 hb1 hs0 k1 k2
  go_wp2
  obtain ⟨W, hW⟩ : ∃ W, W = (((w1.setCell ⟨w.heap.size + 1 + 1, 2, none⟩ (.slice ga rs.length gc)).setCell ⟨w.heap.size + 1, 0, none⟩ (.int .i64 sy)).setCell ⟨w.heap.size + 1, 1, none⟩ (.int .i64 st)).setCell ⟨w.heap.size + 1, 2, none⟩ (.slice ga rs.length gc) := ⟨_, rfl⟩
  have hB : Below w.heap.size w W ∧ OwR W (w.heap.size + 1 + 1 + 1) W.heap.size (.slice ga rs.length gc) rs := by
    rw [hW]
    exact ⟨below_set (below_set (below_set (below_set HB1.out (by omega) _ _) (by omega) _ _) (by omega) _ _) (by omega) _ _,
      ((((HO.out.apartCell (by omega) _ _).apartCell (by omega) _ _).apartCell (by omega) _ _).apartCell (by omega) _ _).up⟩
  rw [← hW] at f12 ⊢
  have z0 := f12.cell 0 rfl
  have z1 := f12.cell 1 rfl
  have z2 := f12.cell 2 rfl
  clear f1 f2 f3 f4 f5 f6 f7 f8 f9 f10 f11 HF HC hW
  refine bodyPost_ret (v := .agg #[.int .i64 sy, .int .i64 st, .slice ga rs.length gc]) (by simp [results, Tryd.f9, go_sem, z0, z1, z2]) rfl ⟨_, rfl, hB.2.mono (by omega) (Nat.le_refl _) (Nat.le_refl _), hB.1⟩
theorem eqMach (sy st : Int) (u v : Value) (rs : List Ru) (w : World) (hu : RdR w u rs) (hv : RdR w v rs) :
    Calls Tryd.prog 11 #[.agg #[.int .i64 sy, .int .i64 st, u], .agg #[.int .i64 sy, .int .i64 st, v]] w fun e w' => e = .returned (.bool true) ∧ Below w.heap.size w w' := by
  have HU := Lib.hid hu
  have HV := Lib.hid hv
  obtain ⟨_, _, a, c, rfl, _, _⟩ := hu
  obtain ⟨_, _, a', c', rfl, _, _⟩ := hv
  have HB : ∀ x y : Obj, Hid (Below w.heap.size w ((w.alloc x).alloc y)) := fun x y => Lib.hid (((Below.refl w.heap.size w).alloc (Nat.le_refl _) _).alloc (by simp) _)
  go_enter Tryd.func11, Tryd.ntmps11
  go_wp2_with fail
  refine (eqRules _ _ rs _ (HU.out.below (HB _ _).out (Nat.le_refl _)) (HV.out.below (HB _ _).out (Nat.le_refl _))).mono ?_
  rintro e w1 ⟨rfl, hb1⟩
  have HB1 := Lib.hid ((HB _ _).out.trans (hb1.mono (by simp; omega)))
  clear hb1
  go_wp2
  go_ret
  exact ⟨rfl, HB1.out⟩
end Go.Proofs.YtmbojhlcmgknbaaDoor.Ints
