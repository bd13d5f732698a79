/- A register machine at work: a step. -/
import Derived.Test.YtkjoakdepjpkhaaDoorStR
namespace Go.Proofs.YtkjoakdepjpkhaaDoor.Ints
open Go.RowKit
set_option linter.unusedVariables false
set_option linter.unusedSimpArgs false
def stAt (rs : List Ins) (k : Nat) (cs : List Int) : Int := if (rs.getD k zIns).kd = 0 then (rs.getD k zIns).th else if 0 < cs.getD (rs.getD k zIns).rg.toNat 0 then (rs.getD k zIns).th else (rs.getD k zIns).el
def stCs (rs : List Ins) (k : Nat) (cs : List Int) : List Int :=
  if (rs.getD k zIns).kd = 0 then cs.set (rs.getD k zIns).rg.toNat (cs.getD (rs.getD k zIns).rg.toNat 0 + 1)
  else if 0 < cs.getD (rs.getD k zIns).rg.toNat 0 then cs.set (rs.getD k zIns).rg.toNat (cs.getD (rs.getD k zIns).rg.toNat 0 - 1) else cs
theorem strStepHalt {w0 w : World} {g : Nat} {t : TypeId} {gb c0 : Nat} {pa : Option Addr} {pc : Nat} {rs : List Ins} {at' : Int} {cs : List Int} {ok : Bool} {most : Int} (h : StR w0 w g t gb c0 pa pc rs at' cs ok most) (hat : at' = (rs.length : Int)) :
    Calls Tryd.prog 199 #[.pointer (some ⟨g, 0, none⟩)] w fun e w' => e = .returned (.iface 162 (.int .i64 6)) ∧ Below w.heap.size w w' := by
  have HH := Lib.hid (strHalts h true (by simp [hat]))
  clear hat
  go_enter Tryd.func199, Tryd.ntmps199
  go_wp2_with fail
  refine HH.out.mono ?_
  rintro e w1 ⟨rfl, hb1⟩
  have HB1 := Lib.hid hb1
  clear hb1
  go_wp2
  go_ret
  exact ⟨rfl, HB1.out⟩
/-- What a step ends in: a failure where a content would be too great, the next state elsewhere. -/
def StepPost (w0 w : World) (g : Nat) (t : TypeId) (gb c0 : Nat) (pa : Option Addr) (pc : Nat) (rs : List Ins) (cs : List Int) (ok : Bool) (most : Int) (k : Nat) (e : Ending) (w' : World) : Prop :=
  if (rs.getD k zIns).kd = 0 ∧ cs.getD (rs.getD k zIns).rg.toNat 0 = most then e = .returned (.iface 162 (.int .i64 5)) ∧ Below w.heap.size w w'
  else e = .returned .nilIface ∧ StR w0 w' g t gb c0 pa pc rs (stAt rs k cs) (stCs rs k cs) ok most ∧ Only (fun q => q = g ∨ q = gb) w w'
theorem step_full {w0 w : World} {g : Nat} {t : TypeId} {gb c0 : Nat} {pa : Option Addr} {pc : Nat} {rs : List Ins} {cs : List Int} {ok : Bool} {most : Int} {k : Nat} {e : Ending} {w' : World} {r : Ins} (hr : r = rs.getD k zIns) (h1 : r.kd = 0) (h2 : cs.getD r.rg.toNat 0 = most)
    (h3 : e = .returned (.iface 162 (.int .i64 5))) (h4 : Below w.heap.size w w') : StepPost w0 w g t gb c0 pa pc rs cs ok most k e w' := by
  unfold StepPost; rw [← hr, if_pos ⟨h1, h2⟩]; exact ⟨h3, h4⟩
theorem step_next {w0 w : World} {g : Nat} {t : TypeId} {gb c0 : Nat} {pa : Option Addr} {pc : Nat} {rs : List Ins} {cs : List Int} {ok : Bool} {most : Int} {k : Nat} {e : Ending} {w' : World} {r : Ins} (hr : r = rs.getD k zIns) (h1 : ¬ (r.kd = 0 ∧ cs.getD r.rg.toNat 0 = most))
    {at2 : Int} {cs2 : List Int} (ha : stAt rs k cs = at2) (hc : stCs rs k cs = cs2) (h3 : e = .returned .nilIface) (h4 : StR w0 w' g t gb c0 pa pc rs at2 cs2 ok most) (h5 : Only (fun q => q = g ∨ q = gb) w w') : StepPost w0 w g t gb c0 pa pc rs cs ok most k e w' := by
  unfold StepPost; rw [← hr, if_neg h1, ha, hc]; exact ⟨h3, h4, h5⟩
set_option maxHeartbeats 4000000 in
set_option maxRecDepth 100000 in
theorem strStepGo {w0 w : World} {g : Nat} {t : TypeId} {gb c0 : Nat} {pa : Option Addr} {pc : Nat} {rs : List Ins} {cs : List Int} {ok : Bool} {most : Int} (k : Nat) (h : StR w0 w g t gb c0 pa pc rs (k : Int) cs ok most) (hk : k < rs.length) (hp : Pok rs)
    (hrg : (rs.getD k zIns).rg < (cs.length : Int)) (hcs : ∀ i, 0 ≤ cs.getD i 0 ∧ cs.getD i 0 ≤ most) (hm : most ≤ 1000000000000) :
    Calls Tryd.prog 199 #[.pointer (some ⟨g, 0, none⟩)] w (StepPost w0 w g t gb c0 pa pc rs cs ok most k) := by
  have HH := Lib.hid (strHalts h false (by simp; omega))
  have H := Lib.hid h
  have hl := h.prg.len
  obtain ⟨_, _, a1, c1, ev, _, hr⟩ := h.prg
  simp only [Value.slice.injEq, true_and] at ev
  obtain ⟨rfl, rfl⟩ := ev
  obtain ⟨b, o, rfl, hb, hcell⟩ := hr (by intro h0; rw [h0] at hk; simp at hk)
  obtain ⟨d0, d1, d2, d3⟩ := hcell k hk
  obtain ⟨⟨y0, y1⟩, ⟨th0, th1⟩, hkd⟩ := hp.all k hk
  obtain ⟨r, hr0⟩ : ∃ r, r = rs.getD k zIns := ⟨_, rfl⟩
  have HR0 := Lib.hid hr0
  rw [← hr0] at d0 d1 d2 d3 y0 y1 th0 th1 hkd hrg
  obtain ⟨x, y, th, el⟩ := r
  dsimp only at d0 d1 d2 d3 y0 y1 th0 th1 hkd hrg
  obtain ⟨m, rfl⟩ : ∃ m : Nat, y = (m : Int) := ⟨y.toNat, by omega⟩
  have hml : m < cs.length := by omega
  obtain ⟨cv, hcv⟩ : ∃ cv, cv = cs.getD m 0 := ⟨_, rfl⟩
  have HCV := Lib.hid hcv
  have hcb := hcs m
  rw [← hcv] at hcb
  have HD : Hid (∀ W, Kept (fun q => q < w0.heap.size ∨ q = g ∨ q = gb) w W → W.cell? ⟨b, o + k * 4, none⟩ = some (.int .i64 x) ∧ W.cell? ⟨b, o + k * 4 + 1, none⟩ = some (.int .i64 (m : Int)) ∧ W.cell? ⟨b, o + k * 4 + 2, none⟩ = some (.int .i64 th) ∧ W.cell? ⟨b, o + k * 4 + 3, none⟩ = some (.int .i64 el)) := Lib.hid (fun W hW => by
    have q : Kept (fun q => q < w0.heap.size) w0 W := (H.out.kept hW).old
    exact ⟨q.cell d0 hb, q.cell d1 hb, q.cell d2 hb, q.cell d3 hb⟩)
  have i0 : (0 : Int) ≤ (k : Int) := by omega
  have i1 : (k : Int) < (rs.length : Int) := by omega
  have m0 : (0 : Int) ≤ (m : Int) := by omega
  have m1 : (m : Int) < (cs.length : Int) := by omega
  clear hr hcell d0 d1 d2 d3 h hr0 hk hcv hcs hp
  go_enter Tryd.func199, Tryd.ntmps199
  go_wp2_with fail
  refine HH.out.mono ?_
  rintro e w1 ⟨rfl, hb1⟩
  have HB1 := Lib.hid hb1
  have H1 := Lib.hid (H.out.below hb1)
  have hA : ∀ ob : Obj, Hid (Below w1.heap.size w1 (w1.alloc ob)) := fun ob => Lib.hid ((Below.refl _ _).alloc (Nat.le_refl _) ob)
  have HOF : ∀ W, Below w1.heap.size w1 W → Hid (Kept (fun q => q < w0.heap.size ∨ q = g ∨ q = gb) w W) := fun W hW => Lib.hid
    ((Kept.of_below hb1 (fun q hq => by
      have := H.out.base; have := H.out.head.lt; have := H.out.gb
      rcases hq with h | h | h <;> omega)).trans ⟨hW.size, fun i hi _ => hW.block i hi⟩)
  obtain ⟨d0, d1, d2, d3⟩ := HD.out _ (HOF _ (Below.refl _ _)).out
  obtain ⟨e0, e1, e2, e3⟩ := HD.out _ (HOF _ (hA (.cells #[.int .i64 0, .int .i64 0, .int .i64 0, .int .i64 0] 136)).out).out
  have z0 := H1.out.head.cell 0 rfl
  have z2 := H1.out.head.cell 2 rfl
  have y0' := (hA (.cells #[.int .i64 0, .int .i64 0, .int .i64 0, .int .i64 0] 136)).out.cell (p := ⟨g, 0, none⟩) H1.out.head.lt
  have y2' := (hA (.cells #[.int .i64 0, .int .i64 0, .int .i64 0, .int .i64 0] 136)).out.cell (p := ⟨g, 2, none⟩) H1.out.head.lt
  replace y0' := y0'.trans z0
  replace y2' := y2'.trans z2
  clear hb1 hA HOF
  go_wp2
  go_region
  clear d0 d1 d2 d3 e0 e1 e2 e3 z0 z2 y0' y2'
  obtain ⟨W3, hW3⟩ : ∃ W, W = (w1.alloc (Obj.cells #[.int .i64 x, .int .i64 (m : Int), .int .i64 th, .int .i64 el] 136)).drew := ⟨_, rfl⟩
  have hB3 : Below w1.heap.size w1 W3 := by rw [hW3]; exact ((Below.refl _ _).alloc (Nat.le_refl _) _).drew
  have HI3 : Hid (Cels W3 w1.heap.size 136 [.int .i64 x, .int .i64 (m : Int), .int .i64 th, .int .i64 el]) := Lib.hid (by rw [hW3]; exact Cels.new w1 136 [.int .i64 x, .int .i64 (m : Int), .int .i64 th, .int .i64 el])
  have H3 := Lib.hid (H1.out.below hB3)
  have HB3 := Lib.hid (HB1.out.trans (hB3.mono HB1.out.size))
  have HQ : Hid (∀ n, StR w0 (W3.drewN n) g t gb c0 (some ⟨b, o, none⟩) pc rs (k : Int) cs ok most ∧ Cels (W3.drewN n) w1.heap.size 136 [.int .i64 x, .int .i64 (m : Int), .int .i64 th, .int .i64 el] ∧ Below w.heap.size w (W3.drewN n)) := Lib.hid (fun n => by
    have q : Below W3.heap.size W3 (W3.drewN n) := below_drewN (Below.refl _ _) _
    exact ⟨H3.out.below q, HI3.out.below q HI3.out.lt, HB3.out.trans (q.mono HB3.out.size)⟩)
  have HN := Lib.hid (show w1.heap.size ≠ g ∧ w1.heap.size ≠ gb by have := H1.out.head.lt; have := H1.out.gb; constructor <;> omega)
  have z1 := H3.out.head.cell 1 rfl
  have v1 := HI3.out.cell 1 rfl
  rw [← hW3]
  clear hB3 hW3
  go_wp2
  go_quiet (fail)
  obtain ⟨W4, hW4⟩ : ∃ W, W = W3.drewN nq := ⟨_, rfl⟩
  obtain ⟨h4, i4, b4⟩ := HQ.out nq
  rw [← hW4] at h4 i4 b4 ⊢
  have H4 := Lib.hid h4
  have I4 := Lib.hid i4
  have B4 := Lib.hid b4
  have HQ4 : Hid (∀ n, StR w0 (W4.drewN n) g t gb c0 (some ⟨b, o, none⟩) pc rs (k : Int) cs ok most ∧ Cels (W4.drewN n) w1.heap.size 136 [.int .i64 x, .int .i64 (m : Int), .int .i64 th, .int .i64 el] ∧ Below w.heap.size w (W4.drewN n)) := Lib.hid (fun n => by
    have q : Below W4.heap.size W4 (W4.drewN n) := below_drewN (Below.refl _ _) _
    exact ⟨H4.out.below q, I4.out.below q I4.out.lt, B4.out.trans (q.mono B4.out.size)⟩)
  clear h4 i4 b4 hW4 z1 v1 HQ
  have v0 := I4.out.cell 0 rfl
  have z4 := H4.out.head.cell 4 rfl
  have u0 := (H4.out.store m hml 0 (by omega)).1
  rw [← HCV.out] at u0
  have HON : Hid (∀ W, Below w.heap.size w W → Only (fun q => q = g ∨ q = gb) w W) := Lib.hid (fun W hW => Only.of_below hW)
  have HML := Lib.hid hml
  have HCB := Lib.hid hcb
  clear hml hcb
  rcases hkd with ⟨rfl, rfl⟩ | ⟨rfl, el0, el1⟩
  · have k1 : ((0 : Int) == 0) = true := rfl
    by_cases hf : cv = most
    · have HF := Lib.hid hf
      have k2 : (cv == most) = true := by simp [hf]
      clear hf
      go_wp2
      go_quiet (fail)
      obtain ⟨W5, hW5⟩ : ∃ W, W = W4.drewN nq := ⟨_, rfl⟩
      obtain ⟨h5, i5, b5⟩ := HQ4.out nq
      rw [← hW5] at h5 i5 b5 ⊢
      have B5 := Lib.hid b5
      clear h5 i5 b5 hW5 v0 z4 u0
      go_wp2
      go_ret
      exact step_full HR0.out rfl (by rw [← HF.out, HCV.out]; rfl) rfl B5.out
    · have HF := Lib.hid hf
      have k2 : (cv == most) = false := by simp [hf]
      clear hf
      go_wp2
      go_quiet (fail)
      obtain ⟨W5, hW5⟩ : ∃ W, W = W4.drewN nq := ⟨_, rfl⟩
      obtain ⟨h5, i5, b5⟩ := HQ4.out nq
      rw [← hW5] at h5 i5 b5 ⊢
      have B5 := Lib.hid b5
      have H5 := Lib.hid h5
      have I5 := Lib.hid i5
      clear h5 i5 b5 hW5 v0 z4 u0
      have ew : IntKind.i64.wrap (cv + 1) = cv + 1 := by rw [IntKind.wrap_i64]; have := HCB.out; omega
      obtain ⟨u1, f1, s1, n1⟩ := H5.out.store m HML.out (cv + 1) (by have := HCB.out; omega)
      rw [← HCV.out] at u1
      have v0 := I5.out.cell 0 rfl
      obtain ⟨j1, fj, s2, n2⟩ := s1.jump th
      have v2 := (I5.out.other (p := ⟨gb, m, none⟩) HN.out.2 (.int .i64 (cv + 1))).cell 2 rfl
      have S2 := Lib.hid s2
      have N2 := Lib.hid (((HON.out _ B5.out).trans n1).trans n2)
      clear s1 s2 n1 n2
      go_wp2
      go_ret
      exact step_next HR0.out (fun h => HF.out (by have := h.2; rw [HCV.out]; exact this)) (by unfold stAt; rw [← HR0.out]; rfl) (by unfold stCs; rw [← HR0.out]; simp only [if_true]; rw [show ((m : Int)).toNat = m from rfl, ← HCV.out]) rfl S2.out N2.out
  · have k1 : ((1 : Int) == 0) = false := rfl
    go_wp2
    go_quiet (fail)
    obtain ⟨W5, hW5⟩ : ∃ W, W = W4.drewN nq := ⟨_, rfl⟩
    obtain ⟨h5, i5, b5⟩ := HQ4.out nq
    rw [← hW5] at h5 i5 b5 ⊢
    have B5 := Lib.hid b5
    have H5 := Lib.hid h5
    have I5 := Lib.hid i5
    clear h5 i5 b5 hW5 v0 z4 u0
    have u1 := (H5.out.store m HML.out 0 (by omega)).1
    rw [← HCV.out] at u1
    have v0 := I5.out.cell 0 rfl
    by_cases hf : 0 < cv
    · have HF := Lib.hid hf
      have ew : IntKind.i64.wrap (cv - 1) = cv - 1 := by rw [IntKind.wrap_i64]; have := HCB.out; omega
      obtain ⟨_, f1, s1, n1⟩ := H5.out.store m HML.out (cv - 1) (by have := HCB.out; omega)
      obtain ⟨j1, fj, s2, n2⟩ := s1.jump th
      have v2 := (I5.out.other (p := ⟨gb, m, none⟩) HN.out.2 (.int .i64 (cv - 1))).cell 2 rfl
      have S2 := Lib.hid s2
      have N2 := Lib.hid (((HON.out _ B5.out).trans n1).trans n2)
      clear s1 s2 n1 n2
      go_wp2
      go_ret
      exact step_next HR0.out (fun h => by have := h.1; simp at this) (by unfold stAt; rw [← HR0.out]; simp only [show ((m : Int)).toNat = m from rfl, ← HCV.out, if_pos HF.out]; rfl) (by unfold stCs; rw [← HR0.out]; simp only [show ((m : Int)).toNat = m from rfl, ← HCV.out, if_pos HF.out]; rfl) rfl S2.out N2.out
    · have HF := Lib.hid hf
      have kf : decide (0 < cv) = false := decide_eq_false hf
      clear hf
      obtain ⟨j1, fj, s2, n2⟩ := H5.out.jump el
      have v3 := I5.out.cell 3 rfl
      have S2 := Lib.hid s2
      have N2 := Lib.hid ((HON.out _ B5.out).trans n2)
      clear s2 n2
      go_wp2
      go_ret
      exact step_next HR0.out (fun h => by have := h.1; simp at this) (by unfold stAt; rw [← HR0.out]; simp only [show ((m : Int)).toNat = m from rfl, ← HCV.out, if_neg (show ¬ 0 < cv by have := HF.out; omega)]; rfl) (by unfold stCs; rw [← HR0.out]; simp only [show ((m : Int)).toNat = m from rfl, ← HCV.out, if_neg (show ¬ 0 < cv by have := HF.out; omega)]; rfl) rfl S2.out N2.out
end Go.Proofs.YtkjoakdepjpkhaaDoor.Ints
