/- MirrorMachine: loops. -/
import Derived.Test.YtknlpoeolicinadDoorMir
namespace Go.Proofs.YtknlpoeolicinadDoor.Ints
open Go.RowKit
set_option linter.unusedVariables false
set_option linter.unusedSimpArgs false
def mir1 (r : Ru) : Ru := ⟨r.wr, IntKind.i64.wrap (- r.mv), r.nx⟩
def mirR (rs : List Ru) : List Ru := rs.map mir1
theorem rcs_set1 (rs : List Ru) : ∀ k, k < rs.length → ∀ x : Int, (rcs rs).set (k * 3 + 1) (.int .i64 x) = rcs (rs.set k ⟨(rs.getD k ru0).wr, x, (rs.getD k ru0).nx⟩) := by
  induction rs with
  | nil => intro k hk; simp at hk
  | cons r rs ih =>
    intro k hk x
    cases k with
    | zero => simp [rcs_cons]
    | succ k =>
      have h := ih k (by simpa using hk) x
      rw [rcs_cons, show (k + 1) * 3 + 1 = (k * 3 + 1) + 3 by omega]
      simp only [List.set_cons_succ, List.getD_cons_succ, rcs_cons]
      rw [h]
theorem rowR_one {w : World} {B g c n k : Nat} {rs : List Ru} (h : w.ownsRow B 43 3 (.slice (some ⟨g, 0, none⟩) n c) n (rcs rs)) (hk : k < rs.length) (x : Int) :
    w.cell? ⟨g, k * 3 + 1, none⟩ = some (.int .i64 (rs.getD k ru0).mv) ∧ w.frozen? ⟨g, k * 3 + 1, none⟩ = false ∧
    (w.setCell ⟨g, k * 3 + 1, none⟩ (.int .i64 x)).ownsRow B 43 3 (.slice (some ⟨g, 0, none⟩) n c) n (rcs (rs.set k ⟨(rs.getD k ru0).wr, x, (rs.getD k ru0).nx⟩)) ∧
    w.grownBy (w.setCell ⟨g, k * 3 + 1, none⟩ (.int .i64 x)) (some g) := by
  obtain ⟨_, a1, _⟩ := rcs_at rs k hk
  obtain ⟨h1, g1⟩ := h.stored (k * 3 + 1) (.int .i64 x)
  have hl := rcs_length rs
  rw [rcs_set1 rs k hk] at h1
  have hn := h.1
  exact ⟨by rw [h.cellAt _ (by omega)]; exact a1, h.frozenAt _, h1, g1⟩
def midR (rs : List Ru) (i : Nat) : List Ru := (rs.take i).map mir1 ++ rs.drop i
theorem midR_length (rs : List Ru) (i : Nat) (h : i ≤ rs.length) : (midR rs i).length = rs.length := by simp [midR]; omega
theorem midR_at (rs : List Ru) (i : Nat) (h : i < rs.length) : (midR rs i).getD i ru0 = rs.getD i ru0 := by
  simp [midR, List.getD_eq_getElem?_getD, List.getElem?_append_right, Nat.min_eq_left (Nat.le_of_lt h)]
theorem midR_step (rs : List Ru) (i : Nat) (h : i < rs.length) : (midR rs i).set i (mir1 (rs.getD i ru0)) = midR rs (i + 1) := by
  have e : rs.drop i = rs.getD i ru0 :: rs.drop (i + 1) := by
    rw [List.drop_eq_getElem_cons h]; simp [List.getD_eq_getElem?_getD, List.getElem?_eq_getElem h]
  obtain ⟨q, hq⟩ : ∃ q, q = rs.getD i ru0 := ⟨_, rfl⟩
  have e2 : rs.take (i + 1) = rs.take i ++ [q] := by rw [List.take_succ_eq_append_getElem h, hq]; simp [List.getD_eq_getElem?_getD, List.getElem?_eq_getElem h]
  rw [← hq] at e ⊢
  rw [midR, midR, e2, e, List.set_append_right _ _ (by simp; omega)]
  simp [Nat.min_eq_left (Nat.le_of_lt h)]
theorem FitR.mir {rs : List Ru} (h : FitR rs) : FitR (mirR rs) := by
  intro r hr
  simp only [mirR, List.mem_map] at hr
  obtain ⟨q, hq, rfl⟩ := hr
  obtain ⟨h1, h2, h3⟩ := h q hq
  refine ⟨h1, ?_, h3⟩
  show fit64 (IntKind.i64.wrap (- q.mv))
  rw [IntKind.wrap_i64]; unfold fit64; omega
theorem mir1_fit {r : Ru} (h : r.fit) : (mir1 r).fit := by
  obtain ⟨h1, h2, h3⟩ := h
  refine ⟨h1, ?_, h3⟩
  show fit64 (IntKind.i64.wrap (- r.mv))
  rw [IntKind.wrap_i64]; unfold fit64; omega
theorem FitR.set {rs : List Ru} (h : FitR rs) (k : Nat) {r : Ru} (hr : r.fit) : FitR (rs.set k r) := by
  intro q hq
  rcases List.mem_or_eq_of_mem_set hq with h' | rfl
  · exact h q h'
  · exact hr
theorem OwR.one {w : World} {B T n c : Nat} {a : Option Addr} {rs : List Ru} (h : OwR w B T (.slice a n c) rs) {k : Nat} (hk : k < rs.length) (hx : (mir1 (rs.getD k ru0)).fit) :
    ∃ g, a = some ⟨g, 0, none⟩ ∧ B ≤ g ∧ g < T ∧ n = rs.length ∧ w.cell? ⟨g, k * 3 + 1, none⟩ = some (.int .i64 (rs.getD k ru0).mv) ∧ w.frozen? ⟨g, k * 3 + 1, none⟩ = false ∧
    OwR (w.setCell ⟨g, k * 3 + 1, none⟩ (.int .i64 (mir1 (rs.getD k ru0)).mv)) B T (.slice a n c) (rs.set k (mir1 (rs.getD k ru0))) := by
  rcases h.form with ⟨_, rfl⟩ | ⟨g, c', hv, hb, hg, hn, hm, hr⟩
  · simp at hk
  · simp only [Value.slice.injEq] at hv
    obtain ⟨rfl, rfl, rfl⟩ := hv
    obtain ⟨d, f, s1, s2⟩ := rowR_one hr hk (mir1 (rs.getD k ru0)).mv
    refine ⟨g, rfl, hb, hg, rfl, d, f, by simpa using h.len, h.fit.set k hx, ?_, fun q hq => by cases hq; exact hg, Nat.le_trans h.size s2.size, h.base⟩
    rw [List.length_set]; exact s1
set_option maxHeartbeats 4000000 in
theorem specMirrorM (g : Nat) (sy st : Int) (v : Value) (rs : List Ru) (w : World) (hv : RdR w v rs)
    (a0 : w.cell? ⟨g, 0, none⟩ = some (.int .i64 sy)) (a1 : w.cell? ⟨g, 1, none⟩ = some (.int .i64 st)) (a2 : w.cell? ⟨g, 2, none⟩ = some v) :
    Calls Tryd.prog 78 #[.pointer (some ⟨g, 0, none⟩)] w fun e w' => ∃ u, e = .returned (.agg #[.int .i64 sy, .int .i64 st, u]) ∧ OwR w' w.heap.size w'.heap.size u (mirR rs) ∧ Below w.heap.size w w' := by
  have hl := hv.len
  have hg := World.block_lt_of_cell? w _ a0
  have HV := Lib.hid hv
  have HS : Hid (∀ W, Below w.heap.size w W → W.cell? ⟨g, 0, none⟩ = some (.int .i64 sy) ∧ W.cell? ⟨g, 1, none⟩ = some (.int .i64 st) ∧ W.cell? ⟨g, 2, none⟩ = some v) := Lib.hid (fun W hb => 
    ⟨(hb.cell (p := ⟨g, 0, none⟩) hg).trans a0, (hb.cell (p := ⟨g, 1, none⟩) hg).trans a1, (hb.cell (p := ⟨g, 2, none⟩) hg).trans a2⟩)
  have HB0 : ∀ x : Obj, Hid (Below w.heap.size w (w.alloc x)) := fun x => Lib.hid ((Below.refl _ _).alloc (Nat.le_refl _) _)
  clear hv a0 a1 a2
  have hv0 := HV.out
  obtain ⟨_, hfit, a, c, rfl, _, _⟩ := hv0
  have HFT := Lib.hid hfit
  clear hfit
  go_enter Tryd.func78, Tryd.ntmps78
  go_wp2_with fail
  refine (specOwnM g sy st _ rs _ (HV.out.below (HB0 _).out (Nat.le_refl _)) (HS.out _ (HB0 _).out).1 (HS.out _ (HB0 _).out).2.1 (HS.out _ (HB0 _).out).2.2).mono ?_
  rintro e w1 ⟨u, rfl, ho, hb⟩
  obtain ⟨ga, gc, rfl⟩ := ho.shape
  simp only [World.size_alloc] at ho hb
  have HB1 := Lib.hid ((HB0 _).out.trans (hb.mono (Nat.le_succ _)))
  have HSZ : Hid (w.heap.size + 1 ≤ w1.heap.size) := Lib.hid (by have := hb.size; rwa [World.size_alloc] at this)
  have K1 := Lib.hid ((Cels.new w 29 [.int .i64 0, .int .i64 0, .slice none 0 0]).below hb (Nat.lt_succ_self _))
  have K2 := Lib.hid (Cels.new w1 29 [.int .i64 sy, .int .i64 st, .slice ga rs.length gc])
  have HW2 : Hid (Below w1.heap.size w1 (w1.alloc (Obj.cells #[.int .i64 sy, .int .i64 st, .slice ga rs.length gc] 29))) := Lib.hid ((Below.refl _ _).alloc (Nat.le_refl _) _)
  have HO := Lib.hid ho
  clear ho hb
  go_wp2
  go_loopw [4] (fun s wr => ∃ k : Nat, k ≤ rs.length ∧ s = .int .i64 k ∧ Cels wr w.heap.size 29 [.int .i64 0, .int .i64 0, .slice none 0 0] ∧ Cels wr w1.heap.size 29 [.int .i64 sy, .int .i64 st, .slice ga rs.length gc] ∧ OwR wr (w.heap.size + 1) w1.heap.size (.slice ga rs.length gc) (midR rs k) ∧ Below w.heap.size w wr) (fun s _ => rs.length - (intOf s).toNat)
  case atStart => exact ⟨0, Nat.zero_le _, rfl, K1.out.below HW2.out K1.out.lt, K2.out, by simpa [midR] using HO.out.below HW2.out (Nat.le_refl _), HB1.out.trans (HW2.out.mono HB1.out.size)⟩
  case round =>
    obtain ⟨k, hk, rfl, hk1, hk2, hown, hbel⟩ := hrel
    have hl2 := hk2.cell 2 rfl
    have HK1 := Lib.hid hk1
    have HK2 := Lib.hid hk2
    have HW := Lib.hid hbel
    by_cases hlt : k < rs.length
    · obtain ⟨gg, rfl, hb1, hb2, -, hc, hf, ho'⟩ := hown.one (k := k) (by rw [midR_length rs k hk]; exact hlt) (by rw [midR_at rs k hlt]; exact mir1_fit (HFT.out.at k))
      rw [midR_at rs k hlt] at hc ho'
      rw [midR_step rs k hlt] at ho'
      obtain ⟨q, hq⟩ : ∃ q, q = rs.getD k ru0 := ⟨_, rfl⟩
      rw [← hq] at hc ho'
      have HI1 := Lib.hid hb1
      have HI2 := Lib.hid hb2
      have i0 : (0 : Int) ≤ (k : Int) := by omega
      have i1 : (k : Int) < (rs.length : Int) := by omega
      have HL := Lib.hid (Nat.lt_of_lt_of_le hk1.lt (Nat.le_refl _))
      have HN : Hid (∀ x, Cels (wr.setCell ⟨gg, k * 3 + 1, none⟩ x).drew w.heap.size 29 [.int .i64 0, .int .i64 0, .slice none 0 0] ∧ Cels (wr.setCell ⟨gg, k * 3 + 1, none⟩ x).drew w1.heap.size 29 [.int .i64 sy, .int .i64 st, .slice (some ⟨gg, 0, none⟩) rs.length gc]) := Lib.hid (fun x =>
        have d := (Below.refl (wr.setCell ⟨gg, k * 3 + 1, none⟩ x).heap.size (wr.setCell ⟨gg, k * 3 + 1, none⟩ x)).drew
        have c1 := hk1.other (p := ⟨gg, k * 3 + 1, none⟩) (by show w.heap.size ≠ gg; omega) x
        have c2 := hk2.other (p := ⟨gg, k * 3 + 1, none⟩) (by show w1.heap.size ≠ gg; omega) x
        ⟨c1.below d c1.lt, c2.below d c2.lt⟩)
      have HB3 : Hid (∀ x, Below w.heap.size w (wr.setCell ⟨gg, k * 3 + 1, none⟩ x).drew) := Lib.hid (fun x => (below_set hbel (by omega) _ _).drew)
      have hwx : (mir1 q).mv = wrap64 (-q.mv) := by show IntKind.i64.wrap (-q.mv) = wrap64 (-q.mv); rw [IntKind.wrap_i64]; unfold wrap64; rfl
      rw [hwx] at ho'
      have HO4 := Lib.hid (ho'.below (Below.refl w1.heap.size _).drew (Nat.le_refl _))
      clear hk1 hk2 hown hbel ho' hb1 hb2 hq hwx
      go_wp2
      go_region
      go_wp2
      go_roundw
      case rel => exact ⟨k + 1, by omega, by go_num, (HN.out _).1, (HN.out _).2, HO4.out, HB3.out _⟩
      case measure => simp [intOf]; omega
    · obtain rfl : k = rs.length := by omega
      have HO' := Lib.hid hown
      have l0 := hk2.cell 0 rfl
      have l1 := hk2.cell 1 rfl
      have HF3 := Lib.hid (put3 hk1 (.int .i64 sy) (.int .i64 st) (.slice ga rs.length gc))
      obtain ⟨f1, f2, f3, f4, f5, f6, f7⟩ := HF3.out
      clear hown hbel hk1 hk2
      go_wp2
      obtain ⟨W, hW⟩ : ∃ W, W = ((wr.setCell ⟨w.heap.size, 0, none⟩ (.int .i64 sy)).setCell ⟨w.heap.size, 1, none⟩ (.int .i64 st)).setCell ⟨w.heap.size, 2, none⟩ (.slice ga rs.length gc) := ⟨_, rfl⟩
      have hs := HB1.out.size
      have hB : Below w.heap.size w W ∧ OwR W (w.heap.size + 1) W.heap.size (.slice ga rs.length gc) (midR rs rs.length) := by
        rw [hW]
        exact ⟨below_set (below_set (below_set HW.out (Nat.le_refl _) _ _) (Nat.le_refl _) _ _) (Nat.le_refl _) _ _,
          (((HO'.out.apartCell (by omega) _ _).apartCell (by omega) _ _).apartCell (by omega) _ _).up⟩
      rw [← hW] at f7 ⊢
      have z0 := f7.cell 0 rfl
      have z1 := f7.cell 1 rfl
      have z2 := f7.cell 2 rfl
      clear f1 f2 f3 f4 f5 f6 hW
      rw [show midR rs rs.length = mirR rs by simp [midR, mirR]] at hB
      refine bodyPost_ret (v := .agg #[.int .i64 sy, .int .i64 st, .slice ga rs.length gc]) (by simp [results, Tryd.f78, go_sem, z0, z1, z2]) rfl ⟨_, rfl, hB.2.mono (by omega) (Nat.le_refl _) (Nat.le_refl _), hB.1⟩
end Go.Proofs.YtknlpoeolicinadDoor.Ints
