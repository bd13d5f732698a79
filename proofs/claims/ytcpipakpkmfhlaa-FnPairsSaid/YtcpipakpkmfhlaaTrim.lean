/- Owned rows as blocks; the contracts of the program's trimZeros and addLimbs. -/
import Derived.Test.YtcpipakpkmfhlaaTimes
import Derived.Laws.CopyOwn
namespace Go.Proofs.Ytcpipakpkmfhlaa.Ints
open Go.RowKit
set_option linter.unusedVariables false

theorem Ow.blk {w : World} {B T g c : Nat} {Z : List Int} (h : Ow w B T (.slice (some ⟨g, 0, none⟩) Z.length c) Z) : Blk w g c Z ∧ Z.length ≤ c ∧ c ≤ maxLen ∧ B ≤ g ∧ g < T := by
  have ht := h.top g rfl
  rcases h.row.2 with ⟨h', _⟩ | ⟨g', cap', cur, h', hb, hg, hn, hm, hs, hk⟩
  · simp at h'
  · simp only [Value.slice.injEq, Option.some.injEq, Addr.mk.injEq, and_true, true_and] at h'
    obtain ⟨rfl, rfl⟩ := h'
    refine ⟨⟨cur.toList.drop Z.length, by simp; omega, ?_⟩, hn, hm, hb, ht⟩
    rw [hg]
    congr 2
    apply Array.ext'
    rw [Nat.mul_one] at hk
    simp [← hk]
theorem Blk.ow {w : World} {B g c : Nat} {Z : List Int} (h : Blk w g c Z) (hB : B ≤ g) (hc : c ≤ maxLen) (hl : Z.length ≤ 16777216) (hf : Fit Z) : Ow w B w.heap.size (.slice (some ⟨g, 0, none⟩) Z.length c) Z := by
  have hlt := h.lt
  obtain ⟨tl, hK, hg⟩ := h
  refine ⟨hl, hf, ⟨by simp, .inr ⟨g, c, _, rfl, hB, hg, by omega, hc, by simp; omega, by simp⟩⟩, fun k hk => by cases hk; exact hlt, Nat.le_refl _, by omega⟩
theorem Blk.take {w : World} {g c : Nat} {Z : List Int} (h : Blk w g c Z) (m : Nat) : Blk w g c (Z.take m) := by
  obtain ⟨tl, hK, hg⟩ := h
  refine ⟨(Z.drop m).map (Value.int .i64) ++ tl, ?_, ?_⟩
  · have := congrArg List.length (List.take_append_drop m Z)
    simp only [List.length_append, List.length_map] at this ⊢
    omega
  · rw [hg, ← List.append_assoc, ← List.map_append, List.take_append_drop]
theorem Ow.take {w : World} {B T g c : Nat} {Z : List Int} (h : Ow w B T (.slice (some ⟨g, 0, none⟩) Z.length c) Z) (m : Nat) (hm : m ≤ Z.length) : Ow w B T (.slice (some ⟨g, 0, none⟩) m c) (Z.take m) := by
  obtain ⟨hb, hn, hc, hB, ht⟩ := h.blk
  have h1 := (hb.take m).ow hB hc (by rw [List.length_take]; have := h.len; omega) (fun z hz => h.fit z (List.mem_of_mem_take hz))
  rw [List.length_take, Nat.min_eq_left hm] at h1
  exact ⟨h1.len, h1.fit, by rw [List.length_take, Nat.min_eq_left hm]; have := h1.row; rwa [List.length_take, Nat.min_eq_left hm] at this, fun k hk => by cases hk; exact ht, h.size, h.base⟩

theorem trimN_step {Z : List Int} {m : Nat} (h : Z.getD m 0 = 0) : trimN Z (m + 1) = trimN Z m := by rw [trimN, if_pos h]
theorem trimN_stop {Z : List Int} {m : Nat} (h : ¬ Z.getD m 0 = 0) : trimN Z (m + 1) = m + 1 := by rw [trimN, if_neg h]

set_option maxHeartbeats 2000000 in
theorem implTrim (v : Value) (Z : List Int) (B T : Nat) (w : World) (h : Ow w B T v Z) :
    Calls Try.prog 60 #[v] w fun e w' => ∃ u, e = .returned u ∧ Ow w B T u (trim Z) ∧ w = w' := by
  rcases h.form with ⟨rfl, rfl⟩ | ⟨g, c, rfl, hb, hg, hn, hm, hr⟩
  · have H : Hid (Ow w B T (.slice none 0 0) (trim [])) := Lib.hid h
    clear h
    go_enter Try.func60, Try.ntmps60
    go_wp2
    refine wp_loop_rounds 1 ?_
    rw [rounds_succ]
    go_wp2
    go_ret
    exact ⟨_, rfl, H.out, rfl⟩
  · have H := Lib.hid h
    have hl := h.len
    have HC : Hid (∀ j, j < Z.length → w.cell? ⟨g, j, none⟩ = some (.int .i64 (Z.getD j 0))) := Lib.hid (fun j hj => h.blk.1.cell j hj)
    clear h hr
    go_enter Try.func60, Try.ntmps60
    go_wp2
    go_loop [0] (fun s => ∃ m : Nat, m ≤ Z.length ∧ s = .slice (some ⟨g, 0, none⟩) m c ∧ trimN Z Z.length = trimN Z m) (fun s => match s with | .slice _ m _ => m | _ => 0)
    case atStart => exact ⟨Z.length, Nat.le_refl _, rfl, rfl⟩
    case round =>
      obtain ⟨m, hml, rfl, he⟩ := hrel
      have HE := Lib.hid he
      clear he
      cases m with
      | zero =>
        have HF : Hid (trim Z = Z.take 0) := Lib.hid (by rw [trim, HE.out]; rfl)
        go_wp2
        go_ret
        refine ⟨_, rfl, ?_, rfl⟩
        rw [HF.out]
        exact H.out.take 0 (Nat.zero_le _)
      | succ m =>
        obtain ⟨x, hx⟩ : ∃ x, x = Z.getD m 0 := ⟨_, rfl⟩
        have hc : w.cell? ⟨g, m, none⟩ = some (.int .i64 x) := by rw [hx]; exact HC.out m (by omega)
        have hp : (0 : Int) < ((m + 1 : Nat) : Int) := by omega
        have hp2 : (0 : Int) < (m : Int) + 1 := by omega
        have i0 : (0 : Int) ≤ (m : Int) := by omega
        have i1 : (m : Int) < ((m + 1 : Nat) : Int) := by omega
        have hx2 : m + 1 ≤ c := by omega
        by_cases h0 : x = 0
        · have hz : (x == 0) = true := by simp [h0]
          have HS : Hid (trimN Z (m + 1) = trimN Z m) := Lib.hid (trimN_step (by rw [← hx]; exact h0))
          clear hx h0
          go_wp2
          go_round
          case rel => exact ⟨m, by omega, by first | rfl | simp, by rw [HE.out, HS.out]⟩
          case measure => simp
        · have hz : (x == 0) = false := by simp [h0]
          have HF : Hid (trim Z = Z.take (m + 1)) := Lib.hid (by rw [trim, HE.out, trimN_stop (by rw [← hx]; exact h0)])
          clear hx h0
          go_wp2
          go_ret
          refine ⟨_, rfl, ?_, rfl⟩
          rw [HF.out]
          exact H.out.take (m + 1) hml
end Go.Proofs.Ytcpipakpkmfhlaa.Ints
