/- Contracts of the model's trimming and of both products of limbs. -/
import Derived.Test.YtcpipakpkmfhlaaCan
import Derived.Test.YtcpipakpkmfhlaaFit
namespace Go.Proofs.Ytcpipakpkmfhlaa.Ints
open Go.RowKit
set_option linter.unusedVariables false

set_option maxHeartbeats 2000000 in
theorem specTrim (v : Value) (Z : List Int) (B T : Nat) (w : World) (h : Ow w B T v Z) :
    Calls Try.prog 38 #[v] w fun e w' => ∃ u, e = .returned u ∧ Ow w B T u (trim Z) ∧ w = w' := by
  rcases h.form with ⟨rfl, rfl⟩ | ⟨g, c, rfl, hb, hg, hn, hm, hr⟩
  · have H : Hid (Ow w B T (.slice none 0 0) (trim [])) := Lib.hid h
    clear h
    go_enter Try.func38, Try.ntmps38
    go_wp2
    refine wp_loop_rounds 1 ?_
    rw [rounds_succ]
    go_wp2
    go_ret
    exact ⟨_, rfl, H.out, rfl⟩
  · have H := Lib.hid h
    have hl := h.len
    have HC : Hid (∀ j, j < Z.length → w.cell? ⟨g, j, none⟩ = some (.int .i64 (Z.getD j 0))) := Lib.hid (fun j hj => h.blk.1.cell j hj)
    clear h hr
    go_enter Try.func38, Try.ntmps38
    go_wp2
    go_loop [3] (fun s => ∃ m : Nat, m ≤ Z.length ∧ s = .int .i64 m ∧ trimN Z Z.length = trimN Z m) (fun s => (intOf s).toNat)
    case atStart => exact ⟨Z.length, Nat.le_refl _, rfl, rfl⟩
    case round =>
      obtain ⟨m, hml, rfl, he⟩ := hrel
      have HE := Lib.hid he
      clear he
      cases m with
      | zero =>
        have HF : Hid (trim Z = Z.take 0) := Lib.hid (by rw [trim, HE.out]; rfl)
        have i9 : (0 : Nat) ≤ c := by omega
        go_wp2
        go_ret
        refine ⟨_, rfl, ?_, rfl⟩
        rw [HF.out]
        exact H.out.take 0 (Nat.zero_le _)
      | succ m =>
        obtain ⟨x, hx⟩ : ∃ x, x = Z.getD m 0 := ⟨_, rfl⟩
        have hc : w.cell? ⟨g, m, none⟩ = some (.int .i64 x) := by rw [hx]; exact HC.out m (by omega)
        have hp : (0 : Int) < ((m + 1 : Nat) : Int) := by omega
        have hp2 : (0 : Int) < (m : Int) + 1 := by omega
        have i0 : (0 : Int) ≤ (m : Int) := by omega
        have i1 : (m : Int) < (Z.length : Int) := by omega
        have hx2 : m + 1 ≤ c := by omega
        have hx3 : (m : Int) + 1 ≤ (c : Int) := by omega
        have hx4 : ((m : Int) + 1).toNat = m + 1 := by omega
        by_cases h0 : x = 0
        · have hz : (x == 0) = true := by simp [h0]
          have HS : Hid (trimN Z (m + 1) = trimN Z m) := Lib.hid (trimN_step (by rw [← hx]; exact h0))
          clear hx h0
          go_wp2
          go_round
          case rel => exact ⟨m, by omega, by first | rfl | simp | go_num, by rw [HE.out, HS.out]⟩
          case measure => simp [intOf]
        · have hz : (x == 0) = false := by simp [h0]
          have HF : Hid (trim Z = Z.take (m + 1)) := Lib.hid (by rw [trim, HE.out, trimN_stop (by rw [← hx]; exact h0)])
          clear hx h0
          go_wp2
          go_ret
          refine ⟨_, rfl, ?_, rfl⟩
          rw [HF.out]
          exact H.out.take (m + 1) hml
theorem Blk.drewN {w : World} {g K : Nat} {Z : List Int} (h : Blk w g K Z) (n : Nat) : Blk (w.drewN n) g K Z := h
theorem Blk.zeros {w0 : World} {B g N : Nat} (h : w0.ownsRow B 2 1 (.slice (some ⟨g, 0, none⟩) N N) N (madeCells #[Value.int .i64 0] N).toList) : Blk w0 g N (List.replicate N 0) := by
  have h2 := row_full h
  rw [toList_madeCells_one] at h2
  exact ⟨[], by simp, by simpa using h2⟩
set_option maxHeartbeats 4000000 in
theorem implMul (u v : Value) (ps qs : List Int) (w : World) (hu : Rd w u ps) (hv : Rd w v qs) (hp : Can ps) (hq : Can qs) (hla : ps.length ≤ 1000) (hlb : qs.length ≤ 1000) :
    Calls Try.prog 62 #[u, v] w fun e w' => ∃ r, e = .returned r ∧ Ow w' w.heap.size w'.heap.size r (canOf (val ps * val qs)) ∧ Below w.heap.size w w' := by
  have HV := Lib.hid hv
  have hvb : ∀ a l c, v = .slice (some a) l c → qs ≠ [] → a.block < w.heap.size := by
    intro a l c e hne
    obtain ⟨_, _, a', c', e', _, hr'⟩ := hv
    obtain ⟨b, o, ha, hb, _⟩ := hr' hne
    rw [e', ha] at e
    simp at e
    rw [← e.1]; exact hb
  obtain ⟨hl, hf, a, c, rfl, hcap, hr⟩ := hu
  obtain ⟨hl', hf', a', c', rfl, hcap', hr'⟩ := hv
  obtain ⟨N, n1, n2⟩ : ∃ N, N ≤ ps.length + qs.length ∧ ps.length + qs.length ≤ N := ⟨_, Nat.le_refl _, Nat.le_refl _⟩
  have HP := Lib.hid hp
  have HQ := Lib.hid hq
  have HR := Lib.hid hr
  have HVB := Lib.hid hvb
  clear hp hq hr hr' hvb
  obtain ⟨i0, hi, hz0, hz1, hz2⟩ := info_parts infoE
  go_enter Try.func62, Try.ntmps62
  go_wp2_with (at_make; refine wpList_make_full _ rfl _ _ 24 rfl w.heap.size 2 i0 (.int .i64 0) 1 Try.underlying24 hi hz0 hz1 _ _ _ _ N rfl rfl ?hL ?hC ?b2 ?b3 (Nat.le_refl _) ?_)
  case hL => omega
  case hC => omega
  case b2 => first | omega | (rw [hz2]; omega)
  case b3 => unfold maxLen; omega
  intro w0 hown0 hgrow0
  have HK0 := Lib.hid (Blk.zeros hown0)
  have HB0 := Lib.hid ((Below.refl w.heap.size w).grown hgrow0 (Nat.le_refl _) (fun k h => by cases h))
  clear hown0 hgrow0
  go_wp2
  go_loopw [16] (fun s wr => ∃ (i : Nat) (Z : List Int), i ≤ ps.length ∧ s = .int .i64 i ∧ MI ps qs Z N i ∧ Blk wr w.heap.size N Z ∧ Below w.heap.size w wr) (fun s _ => ps.length - (intOf s).toNat)
  case atStart => exact ⟨0, _, Nat.zero_le _, rfl, MI.start ps qs N, HK0.out, HB0.out⟩
  case round =>
    obtain ⟨i, Z, hik, rfl, hmi, hblk, hbel⟩ := hrel
    by_cases hlt : i < ps.length
    · obtain ⟨b, o, rfl, hb, hcell⟩ := HR.out (by intro h0; rw [h0] at hlt; simp at hlt)
      obtain ⟨t, ht⟩ : ∃ t, t = ps.getD i 0 := ⟨_, rfl⟩
      have hc : wr.cell? ⟨b, o + i, none⟩ = some (.int .i64 t) := by rw [ht]; exact (hbel.cell hb).trans (hcell i hlt)
      have htb := HP.out.1 i hlt
      rw [← ht] at htb
      obtain ⟨t0, t1⟩ := htb
      have HC := Lib.hid (addTimes_any w.heap.size N i (N - i) (N - i) _ Z qs t wr hblk (HV.out.below hbel (Nat.le_refl _)) (fun hq0 x l d e => by have := HVB.out x l d e hq0; omega) (by rw [hmi.len]; omega) (by omega) (fun j _ => dig_all hmi.dig _) HQ.out.1 (by omega) (by omega) (by omega))
      have HM : Hid (∀ c Y, TI Z qs t i (N - i) (N - i) c Y → c = 0 ∧ MI ps qs Y N (i + 1)) := Lib.hid (fun c Y h => hmi.row hlt n2 HP.out.1 HQ.out.1 (by rw [← ht]; exact h))
      have HB := Lib.hid hbel
      have hsz := hbel.size
      have i0 : (i : Int) < (N : Int) := by omega
      have i1 : ((N : Int) - (i : Int)).toNat = N - i := by omega
      clear ht hblk hbel hmi hcell
      go_wp2_with fail
      refine HC.out.mono ?_
      rintro e w2 ⟨cr, Y, rfl, hti, hblk, hgr⟩
      have HM2 := Lib.hid (HM.out _ _ hti)
      have HK2 := Lib.hid hblk
      have HB2 := Lib.hid (HB.out.grown hgr hsz (fun k e => by cases e; exact Nat.le_refl _))
      clear hti hblk hgr
      go_wp2
      go_roundw
      case rel => exact ⟨i + 1, Y, by omega, by go_num, HM2.out.2, HK2.out, HB2.out⟩
      case measure => simp [intOf]; omega
    · obtain rfl : i = ps.length := by omega
      have HS := Lib.hid hmi.done
      have HY : Hid (Ow wr w.heap.size wr.heap.size (.slice (some ⟨w.heap.size, 0, none⟩) N N) Z) := Lib.hid (by
        have h1 := hblk.ow (Nat.le_refl w.heap.size) (by unfold maxLen; omega) (by rw [hmi.len]; omega) hmi.dig.fit
        rwa [hmi.len] at h1)
      have HB := Lib.hid hbel
      clear hmi hblk hbel
      go_wp2_with fail
      refine (implTrim _ Z w.heap.size wr.heap.size _ HY.out).mono ?_
      rintro e w3 ⟨u, rfl, ho, rfl⟩
      have HO := Lib.hid ho
      clear ho
      go_wp2
      go_ret
      exact ⟨_, rfl, by rw [HS.out]; exact HO.out, HB.out⟩
end Go.Proofs.Ytcpipakpkmfhlaa.Ints
