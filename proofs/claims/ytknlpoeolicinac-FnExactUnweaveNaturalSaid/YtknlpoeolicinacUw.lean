/- Every other digit; the contract of the closure of the program's UnweaveNatural. -/
import Derived.Test.YtknlpoeolicinacSnS
namespace Go.Proofs.Ytknlpoeolicinac.Ints
open Go.RowKit
set_option linter.unusedVariables false

theorem Ow.nilAt {w : World} {B T : Nat} (h : B ≤ T) (k : T ≤ w.heap.size) : Ow w B T (.slice none 0 0) [] :=
  ⟨by simp, Fit.nil, World.ownsRow_nil _ _ _ _, fun k hk => by simp [Value.ownBlock] at hk, k, h⟩
def ev (D : List Int) (p n : Nat) : List Int := (List.range n).map (fun i => D.getD (p + 2 * i) 0)
theorem ev_len (D : List Int) (p n : Nat) : (ev D p n).length = n := by simp [ev]
theorem ev_succ (D : List Int) (p n : Nat) : ev D p (n + 1) = ev D p n ++ [D.getD (p + 2 * n) 0] := by
  rw [ev, List.range_succ, List.map_append, ← ev]; rfl
theorem ev_dig {D : List Int} (h : Dig 10 D) (p n : Nat) : Dig 10 (ev D p n) := by
  intro i hi
  rw [ev_len] at hi
  rw [List.getD_eq_getElem?_getD, ev, List.getElem?_map, List.getElem?_range hi]
  simp only [Option.map_some, Option.getD_some]
  by_cases hq : p + 2 * i < D.length
  · exact h _ hq
  · rw [getD_out hq]; omega
def uwE (D : List Int) (p : Nat) : List Int := ev D p ((D.length + 1 - p) / 2)
noncomputable def uwL (ps : List Int) (p : Nat) : List Int := if natB ps = true then fdL (uwE (dgN ps 10) p) 10 else []
noncomputable def uwC (ps : List Int) : Int := if natB ps = true then 0 else 1
theorem uw_bad {ps : List Int} (h : natB ps = false) : uwL ps 0 = [] ∧ uwL ps 1 = [] ∧ uwC ps = 1 := by simp [uwL, uwC, h]
theorem uw_good {ps : List Int} (h : natB ps = true) : uwL ps 0 = fdL (uwE (dgN ps 10) 0) 10 ∧ uwL ps 1 = fdL (uwE (dgN ps 10) 1) 10 ∧ uwC ps = 0 := by simp [uwL, uwC, h]
theorem fg_fd {Z : List Int} (hz : Dig 10 Z) (hl : Z.length ≤ 800) : fgL Z 10 = fdL Z 10 := by
  have hok : fgOk Z 10 = true := by
    rw [fgOk_dig' (by omega) (by omega)]
    exact digB_true hz
  rw [fgL, if_pos ⟨hok, hl⟩]

set_option maxRecDepth 100000 in
set_option maxHeartbeats 4000000 in
theorem uwFrom (p : Nat) (g : Nat) (v : Value) (D : List Int) (w : World) (hp : p ≤ 1) (hg : w.cell? ⟨g, 0, none⟩ = some v) (hgs : g < w.heap.size) (hD : Rd w v D) (hd : Dig 10 D) (hl2 : D.length ≤ 240) :
    Calls Try.prog 67 #[.int .i64 p, .pointer (some ⟨g, 0, none⟩)] w fun e w' => ∃ r, e = .returned r ∧ Ow w' w.heap.size w'.heap.size r (fdL (uwE D p) 10) ∧ Below w.heap.size w w' := by
  have HD := Lib.hid hD
  have HDG := Lib.hid hd
  have HG : Hid (∀ W, Below w.heap.size w W → W.cell? ⟨g, 0, none⟩ = some v) := Lib.hid (fun W hW => (hW.cell (p := ⟨g, 0, none⟩) hgs).trans hg)
  obtain ⟨hl, hf, a, c, rfl, hcap, hr⟩ := hD
  have HR := Lib.hid hr
  clear hr hg hd
  obtain ⟨i0, hi, hz0, hz1, hz2⟩ := info_parts infoE
  go_enter Try.func67, Try.ntmps67
  go_wp2
  go_loopw [0, 4] (fun s o wr => ∃ (k : Nat) (ov : Value), o = ov ∧ p + 2 * k ≤ D.length + 1 ∧ s = .int .i64 ((p + 2 * k : Nat) : Int) ∧ Ow wr w.heap.size wr.heap.size ov (ev D p k) ∧ Below w.heap.size w wr) (fun s _ _ => D.length + 1 - (intOf s).toNat)
  case atStart => exact ⟨0, _, rfl, by omega, by simp, Ow.empty w, Below.refl _ _⟩
  case round =>
    obtain ⟨k, ov, hov, hk, rfl, hown, hbel⟩ := hrel
    obtain rfl := hov.symm
    have HOV := Lib.hid hown
    have HW := Lib.hid hbel
    have cg := HG.out _ hbel
    obtain ⟨n, hn⟩ : ∃ n, n = p + 2 * k := ⟨_, rfl⟩
    have HNE := Lib.hid hn
    rw [← hn] at hk ⊢
    by_cases hlt : n < D.length
    · obtain ⟨b, o, rfl, hb, hcell⟩ := HR.out (by intro h0; rw [h0] at hlt; simp at hlt)
      obtain ⟨x, hx⟩ : ∃ x, x = D.getD n 0 := ⟨_, rfl⟩
      have hc : wr.cell? ⟨b, o + n, none⟩ = some (.int .i64 x) := by rw [hx]; exact (hbel.cell hb).trans (hcell n hlt)
      have i0' : (0 : Int) ≤ (n : Int) := by omega
      have i1 : (n : Int) < (D.length : Int) := by omega
      have HE : Hid (ev D p (k + 1) = ev D p k ++ [x]) := Lib.hid (by rw [ev_succ, hx, hn])
      have hol := ev_len D p k
      have hdx := HDG.out n hlt
      rw [← hx] at hdx
      obtain ⟨d0, d1⟩ := hdx
      obtain ⟨xs, hxs⟩ : ∃ xs, xs = ev D p k := ⟨_, rfl⟩
      rw [← hxs] at HOV HE hol hown
      replace hol : xs.length ≤ 480 := by omega
      have hrow := hown.row.alloc (Obj.cells #[Value.int IntKind.i64 x] 2)
      have hbsz := hown.base
      clear hcell hx hown hbel hxs hn
      go_wp2_with (at_builtin; refine wpList_append_own _ rfl _ _ 22 rfl w.heap.size 2 i0 (.int .i64 0) 1 8 Try.underlying22 hi hz0 hz1 hz2 rfl (by decide) _ _ _ rfl hrow ⟨_, 0, none⟩ 1 1 [.int .i64 x] rfl rfl ?c1 ?c2 ?c3 ?c4 ?c5 ?_)
      case c2 => first | exact oneCell _ | rfl
      case c3 => unfold maxLen; omega
      case c4 => omega
      case c5 => first | omega | (simp; omega)
      intro v' w3 hown1 hgrow _
      obtain ⟨ho, hb2⟩ := HOV.out.snoc (by omega) (by omega) hown1 hgrow
      have HOF := Lib.hid ho
      have HBF := Lib.hid (HW.out.trans hb2)
      clear hown1 hgrow ho hb2 hrow
      go_wp2
      go_roundw
      case rel => exact ⟨k + 1, v', rfl, by have := HNE.out; omega, by have := HNE.out; rw [show p + 2 * (k + 1) = n + 2 by omega]; go_num, by rw [HE.out]; exact HOF.out, HBF.out⟩
      case measure => simp [intOf]; omega
    · have j1 : ¬ (n : Int) < (D.length : Int) := by omega
      have hke : k = (D.length + 1 - p) / 2 := by omega
      have hZl : (uwE D p).length ≤ 800 := by rw [uwE, ev_len]; omega
      have HFF := Lib.hid (fg_fd (ev_dig HDG.out p k) (by rw [ev_len]; omega))
      have HUE : Hid (uwE D p = ev D p k) := Lib.hid (by rw [uwE, ← hke])
      obtain ⟨ga, gc, hg⟩ := hown.shape
      have HRD := Lib.hid hown.rd
      clear hown HOV hn hke hZl hbel
      obtain ⟨Z, hZ⟩ : ∃ Z, Z = ev D p k := ⟨_, rfl⟩
      rw [← hZ] at hg HRD HFF HUE
      clear hZ
      subst hg
      go_wp2_with fail
      refine (implFromDigits _ Z 10 _ HRD.out).mono ?_
      rintro e w5 ⟨r, rfl, ho, hb⟩
      rw [HFF.out, ← HUE.out] at ho
      have HBG := Lib.hid (HW.out.trans (hb.mono HW.out.size))
      have HOG := Lib.hid (ho.mono (B' := w.heap.size) HW.out.size (Nat.le_refl _) (Nat.le_refl _))
      obtain ⟨ra, rc, hrs⟩ := ho.shape
      clear ho hb
      obtain ⟨Q, hQ⟩ : ∃ Q, Q = fdL (uwE D p) 10 := ⟨_, rfl⟩
      obtain ⟨q, hq⟩ : ∃ q, q = fgC Z 10 := ⟨_, rfl⟩
      rw [← hQ] at hrs HOG
      rw [← hq]
      have HQ := Lib.hid hQ
      clear hQ hq
      subst hrs
      go_wp2
      go_ret
      exact ⟨_, rfl, by rw [← HQ.out]; exact HOG.out, HBG.out⟩
end Go.Proofs.Ytknlpoeolicinac.Ints
