/- Contracts of the laws' marks on rules and machines. -/
import Derived.Test.YtmgogbcipdjddaaDoorMach
namespace Go.Proofs.YtmgogbcipdjddaaDoor.Ints
open Go.RowKit
set_option linter.unusedVariables false
set_option linter.unusedSimpArgs false
/-- What three stores of one number each into a row of the call's own ask and leave. -/
theorem rowR_three {w : World} {B g c n k : Nat} {rs : List Ru} (h : w.ownsRow B 59 3 (.slice (some ⟨g, 0, none⟩) n c) n (rcs rs)) (hk : k < rs.length) (r : Ru) :
    w.cell? ⟨g, k * 3, none⟩ = some (.int .i64 (rs.getD k ru0).wr) ∧ (w.setCell ⟨g, k * 3, none⟩ (.int .i64 r.wr)).cell? ⟨g, k * 3 + 1, none⟩ = some (.int .i64 (rs.getD k ru0).mv) ∧
    ((w.setCell ⟨g, k * 3, none⟩ (.int .i64 r.wr)).setCell ⟨g, k * 3 + 1, none⟩ (.int .i64 r.mv)).cell? ⟨g, k * 3 + 2, none⟩ = some (.int .i64 (rs.getD k ru0).nx) ∧
    w.frozen? ⟨g, k * 3, none⟩ = false ∧ (w.setCell ⟨g, k * 3, none⟩ (.int .i64 r.wr)).frozen? ⟨g, k * 3 + 1, none⟩ = false ∧ ((w.setCell ⟨g, k * 3, none⟩ (.int .i64 r.wr)).setCell ⟨g, k * 3 + 1, none⟩ (.int .i64 r.mv)).frozen? ⟨g, k * 3 + 2, none⟩ = false ∧
    (((w.setCell ⟨g, k * 3, none⟩ (.int .i64 r.wr)).setCell ⟨g, k * 3 + 1, none⟩ (.int .i64 r.mv)).setCell ⟨g, k * 3 + 2, none⟩ (.int .i64 r.nx)).ownsRow B 59 3 (.slice (some ⟨g, 0, none⟩) n c) n (rcs (rs.set k r)) ∧
    w.grownBy (((w.setCell ⟨g, k * 3, none⟩ (.int .i64 r.wr)).setCell ⟨g, k * 3 + 1, none⟩ (.int .i64 r.mv)).setCell ⟨g, k * 3 + 2, none⟩ (.int .i64 r.nx)) (some g) := by
  have hn : rs.length = n := by have := h.1; rw [rcs_length] at this; omega
  subst hn
  obtain ⟨a0, a1, a2⟩ := rcs_at rs k hk
  obtain ⟨h1, g1⟩ := h.stored (k * 3) (.int .i64 r.wr)
  obtain ⟨h2, g2⟩ := h1.stored (k * 3 + 1) (.int .i64 r.mv)
  have hl := rcs_length rs
  obtain ⟨p1, p2⟩ := rowR_store h k hk r
  exact ⟨by rw [h.cellAt _ (by omega)]; exact a0, by rw [h1.cellAt _ (by omega), List.getElem?_set_ne (by omega)]; exact a1, by rw [h2.cellAt _ (by omega), List.getElem?_set_ne (by omega), List.getElem?_set_ne (by omega)]; exact a2, h.frozenAt _, h1.frozenAt _, h2.frozenAt _, p1, p2⟩
set_option maxHeartbeats 2000000 in
theorem markRules (v : Value) (rs : List Ru) (k0 : Int) (B T : Nat) (w : World) (h : OwR w B T v rs) (h0 : 0 ≤ k0) (h1 : k0 ≤ 100000000000) :
    Calls Tryd.prog 53 #[v, .int .i64 k0] w fun e w' => e = .returned (.int .i64 (k0 + 3 * (rs.length : Int))) ∧ OwR w' B T v (marksR k0 rs.length) ∧ w.grownBy w' v.ownBlock := by
  have hl := h.len
  rcases h.form with ⟨rfl, rfl⟩ | ⟨g, c, rfl, hb, hg, hn, hm, hr⟩
  · have H := Lib.hid h
    clear h hl
    go_enter Tryd.func53, Tryd.ntmps53
    go_wp2
    refine wp_loop_rounds 1 ?_
    rw [rounds_succ]
    go_wp2
    go_ret
    exact ⟨by simp, H.out, World.grownBy.refl _ _⟩
  · have hT := h.size
    have H := Lib.hid h
    have HR := Lib.hid hr
    clear h hr
    go_enter Tryd.func53, Tryd.ntmps53
    go_wp2
    go_loopw [1, 5] (fun q s wr => ∃ i : Nat, i ≤ rs.length ∧ s = .int .i64 i ∧ q = .int .i64 (k0 + 3 * (i : Int)) ∧
        wr.ownsRow B 59 3 (.slice (some ⟨g, 0, none⟩) rs.length c) rs.length (rcs (marksR k0 i ++ rs.drop i)) ∧ w.grownBy wr (some g))
      (fun _ s _ => rs.length - (intOf s).toNat)
    case atStart => exact ⟨0, Nat.zero_le _, rfl, by simp, by simpa [marksR] using HR.out, World.grownBy.refl _ _⟩
    case round =>
      obtain ⟨i, hi, rfl, rfl, hown, hgr⟩ := hrel
      by_cases hlt : i < rs.length
      · obtain ⟨d0, d1, d2, e0, e1, e2, s1, s2⟩ := rowR_three (k := i) hown (by rw [List.length_append, length_marksR, List.length_drop]; omega) ⟨k0 + 3 * (i : Int), k0 + 3 * (i : Int) + 1, k0 + 3 * (i : Int) + 2⟩
        rw [markR_step rs k0 i hlt] at s1
        have HS := Lib.hid s1
        have HG := Lib.hid (grown_trans hgr s2)
        obtain ⟨m, hmm⟩ : ∃ m, m = k0 + 3 * (i : Int) := ⟨_, rfl⟩
        have f1 : k0 + 3 * (i : Int) + 1 = m + 1 := by omega
        have f2 : k0 + 3 * (i : Int) + 2 = m + 2 := by omega
        have w1 : IntKind.i64.wrap (m + 1) = m + 1 := by rw [IntKind.wrap_i64]; omega
        have w2 : IntKind.i64.wrap (m + 2) = m + 2 := by rw [IntKind.wrap_i64]; omega
        have w3 : IntKind.i64.wrap (m + 3) = m + 3 := by rw [IntKind.wrap_i64]; omega
        have w1' : IntKind.i64.wrap (m + 1 + 1) = m + 2 := by rw [IntKind.wrap_i64]; omega
        have w2' : IntKind.i64.wrap (m + 2 + 1) = m + 3 := by rw [IntKind.wrap_i64]; omega
        have i0 : (0 : Int) ≤ (i : Int) := by omega
        have i1 : (i : Int) < (rs.length : Int) := by omega
        have HM := Lib.hid hmm
        obtain ⟨q, hq⟩ : ∃ q, q = (marksR k0 i ++ rs.drop i).getD i ru0 := ⟨_, rfl⟩
        rw [← hq] at d0 d1 d2
        dsimp only at d1 d2 e1 e2 HS HG
        rw [← hmm] at d1 d2 e1 e2 HS HG ⊢
        clear hown hgr s1 s2 hq f1 f2 hmm
        go_wp2
        go_roundw
        case rel => exact ⟨i + 1, by omega, by go_num, by have := HM.out; first | (go_num; omega) | (simp; omega), HS.out, HG.out⟩
        case measure => simp [intOf]; omega
      · obtain rfl : i = rs.length := by omega
        have HS := Lib.hid hown
        have HB := Lib.hid hgr
        clear hown hgr
        go_wp2
        go_ret
        refine ⟨rfl, ⟨by simpa using hl, FitR.marks h0 (by omega) hl, ?_, H.out.top, Nat.le_trans hT HB.out.size, H.out.base⟩, HB.out⟩
        have := HS.out; simpa using this
theorem markMach (sy st : Int) (v : Value) (rs : List Ru) (k0 : Int) (B T : Nat) (w : World) (h : OwR w B T v rs) (h0 : 0 ≤ k0) (h1 : k0 ≤ 100000000000) :
    Calls Tryd.prog 22 #[.agg #[.int .i64 sy, .int .i64 st, v], .int .i64 k0] w fun e w' => e = .returned (.int .i64 (k0 + 3 * (rs.length : Int))) ∧ OwR w' B T v (marksR k0 rs.length) ∧ w.grownBy w' v.ownBlock := by
  obtain ⟨a, c, hv⟩ := h.shape
  subst hv
  have hB : Below w.heap.size w (w.alloc (Obj.cells #[.int .i64 sy, .int .i64 st, .slice a rs.length c] 33)) := (Below.refl _ _).alloc (Nat.le_refl _) _
  have HO := Lib.hid (h.below hB h.size)
  have HG := Lib.hid (World.grownBy_alloc w (Obj.cells #[.int .i64 sy, .int .i64 st, .slice a rs.length c] 33) (Value.slice a rs.length c).ownBlock)
  clear h hB
  go_enter Tryd.func22, Tryd.ntmps22
  go_wp2_with fail
  refine (markRules _ rs k0 B T _ HO.out h0 h1).mono ?_
  rintro e w1 ⟨rfl, ho, hg⟩
  have HO1 := Lib.hid ho
  have HG1 := Lib.hid (grown_trans HG.out hg)
  clear ho hg
  go_wp2
  go_ret
  exact ⟨rfl, HO1.out, HG1.out⟩
end Go.Proofs.YtmgogbcipdjddaaDoor.Ints
