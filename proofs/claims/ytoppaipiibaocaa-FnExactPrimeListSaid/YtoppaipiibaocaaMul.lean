/- Contracts of the model's trimming and of both products of limbs. -/
import Derived.Test.YtoppaipiibaocaaCan
import Derived.Test.YtoppaipiibaocaaFit
namespace Go.Proofs.Ytoppaipiibaocaa.Ints
open Go.RowKit
set_option linter.unusedVariables false

set_option maxHeartbeats 2000000 in
theorem specTrim (v : Value) (Z : List Int) (B T : Nat) (w : World) (h : Ow w B T v Z) :
    Calls Try.prog 92 #[v] w fun e w' => ∃ u, e = .returned u ∧ Ow w B T u (trim Z) ∧ w = w' := by
  rcases h.form with ⟨rfl, rfl⟩ | ⟨g, c, rfl, hb, hg, hn, hm, hr⟩
  · have H : Hid (Ow w B T (.slice none 0 0) (trim [])) := Lib.hid h
    clear h
    go_enter Try.func92, Try.ntmps92
    go_wp2
    refine wp_loop_rounds 1 ?_
    rw [rounds_succ]
    go_wp2
    go_ret
    exact ⟨_, rfl, H.out, rfl⟩
  · have H := Lib.hid h
    have hl := h.len
    have HC : Hid (∀ j, j < Z.length → w.cell? ⟨g, j, none⟩ = some (.int .i64 (Z.getD j 0))) := Lib.hid (fun j hj => h.blk.1.cell j hj)
    clear h hr
    go_enter Try.func92, Try.ntmps92
    go_wp2
    go_loop [3] (fun s => ∃ m : Nat, m ≤ Z.length ∧ s = .int .i64 m ∧ trimN Z Z.length = trimN Z m) (fun s => (intOf s).toNat)
    case atStart => exact ⟨Z.length, Nat.le_refl _, rfl, rfl⟩
    case round =>
      obtain ⟨m, hml, rfl, he⟩ := hrel
      have HE := Lib.hid he
      clear he
      cases m with
      | zero =>
        have HF : Hid (trim Z = Z.take 0) := Lib.hid (by rw [trim, HE.out]; rfl)
        have i9 : (0 : Nat) ≤ c := by omega
        go_wp2
        go_ret
        refine ⟨_, rfl, ?_, rfl⟩
        rw [HF.out]
        exact H.out.take 0 (Nat.zero_le _)
      | succ m =>
        obtain ⟨x, hx⟩ : ∃ x, x = Z.getD m 0 := ⟨_, rfl⟩
        have hc : w.cell? ⟨g, m, none⟩ = some (.int .i64 x) := by rw [hx]; exact HC.out m (by omega)
        have hp : (0 : Int) < ((m + 1 : Nat) : Int) := by omega
        have hp2 : (0 : Int) < (m : Int) + 1 := by omega
        have i0 : (0 : Int) ≤ (m : Int) := by omega
        have i1 : (m : Int) < (Z.length : Int) := by omega
        have hx2 : m + 1 ≤ c := by omega
        have hx3 : (m : Int) + 1 ≤ (c : Int) := by omega
        have hx4 : ((m : Int) + 1).toNat = m + 1 := by omega
        by_cases h0 : x = 0
        · have hz : (x == 0) = true := by simp [h0]
          have HS : Hid (trimN Z (m + 1) = trimN Z m) := Lib.hid (trimN_step (by rw [← hx]; exact h0))
          clear hx h0
          go_wp2
          go_round
          case rel => exact ⟨m, by omega, by first | rfl | simp | go_num, by rw [HE.out, HS.out]⟩
          case measure => simp [intOf]
        · have hz : (x == 0) = false := by simp [h0]
          have HF : Hid (trim Z = Z.take (m + 1)) := Lib.hid (by rw [trim, HE.out, trimN_stop (by rw [← hx]; exact h0)])
          clear hx h0
          go_wp2
          go_ret
          refine ⟨_, rfl, ?_, rfl⟩
          rw [HF.out]
          exact H.out.take (m + 1) hml
theorem Blk.drewN {w : World} {g K : Nat} {Z : List Int} (h : Blk w g K Z) (n : Nat) : Blk (w.drewN n) g K Z := h
theorem Blk.zeros {w0 : World} {B g N : Nat} (h : w0.ownsRow B 2 1 (.slice (some ⟨g, 0, none⟩) N N) N (madeCells #[Value.int .i64 0] N).toList) : Blk w0 g N (List.replicate N 0) := by
  have h2 := row_full h
  rw [toList_madeCells_one] at h2
  exact ⟨[], by simp, by simpa using h2⟩
end Go.Proofs.Ytoppaipiibaocaa.Ints
