/- StepProgram: the values; the program's. -/
import Derived.Test.YtadfknafcamamaaDoorBhS
namespace Go.Proofs.YtadfknafcamamaaDoor.Ints
open Go.RowKit
set_option linter.unusedVariables false
set_option linter.unusedSimpArgs false
/-- A content would be too great. -/
def fullP (rs : List Ins) (k : Nat) (cs : List Int) : Prop := (rs.getD k zIns).kd = 0 ∧ cs.getD (rs.getD k zIns).rg.toNat 0 = 1000000
open Classical in
noncomputable def spC (rs : List Ins) (at' : Int) (cs : List Int) : Int :=
  if vsB rs at' cs = true then (if at' = (rs.length : Int) then 6 else if fullP rs at'.toNat cs then 5 else 0) else 1
noncomputable def spAt (rs : List Ins) (at' : Int) (cs : List Int) : Int := if spC rs at' cs = 0 then stAt rs at'.toNat cs else 0
noncomputable def spL (rs : List Ins) (at' : Int) (cs : List Int) : List Int := if spC rs at' cs = 0 then stCs rs at'.toNat cs else []
theorem sp_bad {rs : List Ins} {at' : Int} {cs : List Int} (h : vsB rs at' cs = false) : spC rs at' cs = 1 ∧ spAt rs at' cs = 0 ∧ spL rs at' cs = [] := by
  have : spC rs at' cs = 1 := by simp [spC, h]
  simp [spAt, spL, this]
theorem sp_halt {rs : List Ins} {at' : Int} {cs : List Int} (h : vsB rs at' cs = true) (k : at' = (rs.length : Int)) : spC rs at' cs = 6 ∧ spAt rs at' cs = 0 ∧ spL rs at' cs = [] := by
  have : spC rs at' cs = 6 := by rw [spC, if_pos h, if_pos k]
  simp [spAt, spL, this]
theorem sp_full {rs : List Ins} {at' : Int} {cs : List Int} (h : vsB rs at' cs = true) (k : at' ≠ (rs.length : Int)) (q : fullP rs at'.toNat cs) : spC rs at' cs = 5 ∧ spAt rs at' cs = 0 ∧ spL rs at' cs = [] := by
  have : spC rs at' cs = 5 := by rw [spC, if_pos h, if_neg k, if_pos q]
  simp [spAt, spL, this]
theorem sp_next {rs : List Ins} {at' : Int} {cs : List Int} (h : vsB rs at' cs = true) (k : at' ≠ (rs.length : Int)) (q : ¬ fullP rs at'.toNat cs) : spC rs at' cs = 0 ∧ spAt rs at' cs = stAt rs at'.toNat cs ∧ spL rs at' cs = stCs rs at'.toNat cs := by
  have : spC rs at' cs = 0 := by rw [spC, if_pos h, if_neg k, if_neg q]
  simp [spAt, spL, this]
theorem vsB_ok {rs : List Ins} {at' : Int} {cs : List Int} (h : vsB rs at' cs = true) : Pok rs ∧ (0 ≤ at' ∧ at' ≤ (rs.length : Int)) ∧ cs.length = 24 ∧ Dig 1000001 cs := by
  simp only [vsB, stoB, Bool.and_eq_true, decide_eq_true_eq] at h
  exact ⟨progB_ok h.1, h.2.1, h.2.2.1, by have := h.2.2.2; simpa [digB] using this⟩
theorem dig_all {cs : List Int} (h : Dig 1000001 cs) : ∀ i, 0 ≤ cs.getD i 0 ∧ cs.getD i 0 ≤ 1000000 := fun i => by
  by_cases hi : i < cs.length
  · have := h i hi; omega
  · have h0 : cs.getD i 0 = 0 := by simp [List.getD, List.getElem?_eq_none (show cs.length ≤ i by omega)]
    rw [h0]; omega
theorem rg_lt {rs : List Ins} {cs : List Int} {k : Nat} (hp : Pok rs) (hl : cs.length = 24) (hk : k < rs.length) : 0 ≤ (rs.getD k zIns).rg ∧ (rs.getD k zIns).rg < (cs.length : Int) := by
  have h0 := (hp.all k hk).1
  rw [hl]
  omega
theorem Ow.nilAt {w : World} {B T : Nat} (h : B ≤ w.heap.size) : Ow w B w.heap.size (.slice none 0 0) [] := Ow.emptyUp h
theorem bhS {w0 w : World} {g gb c0 : Nat} {pa : Option Addr} {pc : Nat} {rs : List Ins} {at' : Int} {cs : List Int} (hg : vsB rs at' cs = true) (h : StR w0 w g 106 gb c0 pa pc rs at' cs (vsB rs at' cs) 1000000) (he : EtV w) :
    Calls Tryd.prog 55 #[.iface 90 (.pointer (some ⟨g, 0, none⟩))] w fun e w' => ∃ u, e = .returned (.tuple #[.agg #[.int .i64 (spAt rs at' cs), u], .int .i64 (spC rs at' cs)]) ∧ Ow w' w0.heap.size w'.heap.size u (spL rs at' cs) ∧ Below w0.heap.size w w' := by
  have hs0 : w0.heap.size ≤ w.heap.size := h.old.size
  rw [hg] at h
  obtain ⟨hp, hc, hl, hd⟩ := vsB_ok hg
  by_cases hk : at' = (rs.length : Int)
  · obtain ⟨e1, e2, e3⟩ := sp_halt hg hk
    rw [e1, e2, e3]
    exact (bhFailS 6 h he (fun W hW => strStepHalt (h.below hW) hk)).mono fun e w' q => ⟨_, q.1, Ow.emptyUp (Nat.le_trans hs0 q.2.size), q.2.mono hs0⟩
  obtain ⟨k, rfl⟩ : ∃ k : Nat, at' = (k : Int) := ⟨at'.toNat, by omega⟩
  have hkl : k < rs.length := by omega
  have hrg := (rg_lt hp hl hkl).2
  have hst : ∀ W, Below w.heap.size w W → Calls Tryd.prog 127 #[.pointer (some ⟨g, 0, none⟩)] W (StepPost w0 W g 106 gb c0 pa pc rs cs true 1000000 k) := fun W hW =>
    strStepGo k (h.below hW) hkl hp hrg (dig_all hd) (by omega)
  by_cases hq : fullP rs k cs
  · obtain ⟨e1, e2, e3⟩ := sp_full hg hk (by simpa using hq)
    rw [e1, e2, e3]
    refine (bhFailS 5 h he (fun W hW => (hst W hW).mono fun e w' q => ?_)).mono fun e w' q => ⟨_, q.1, Ow.emptyUp (Nat.le_trans hs0 q.2.size), q.2.mono hs0⟩
    unfold StepPost at q
    have hq' : (rs.getD k zIns).kd = 0 ∧ cs.getD (rs.getD k zIns).rg.toNat 0 = 1000000 := hq
    rw [if_pos hq'] at q
    exact q
  · obtain ⟨e1, e2, e3⟩ := sp_next hg hk (by simpa using hq)
    rw [e1, e2, e3]
    refine bhNextS _ _ h (fun W hW => (hst W hW).mono fun e w' q => ?_)
    unfold StepPost at q
    have hq' : ¬ ((rs.getD k zIns).kd = 0 ∧ cs.getD (rs.getD k zIns).rg.toNat 0 = 1000000) := hq
    rw [if_neg hq'] at q
    exact q
set_option maxHeartbeats 2000000 in
theorem implStepProgram (at' : Int) (v u : Value) (rs : List Ins) (cs : List Int) (w : World) (hv : RdIns w v rs) (hu : Rd w u cs) (he : EtV w) :
    Calls Tryd.prog 27 #[v, .agg #[.int .i64 at', u]] w fun e w' => ∃ r, e = .returned (.tuple #[.agg #[.int .i64 (spAt rs at' cs), r], .int .i64 (spC rs at' cs)]) ∧ Ow w' w.heap.size w'.heap.size r (spL rs at' cs) ∧ Below w.heap.size w w' := by
  have HV := Lib.hid hv
  have HU := Lib.hid hu
  obtain ⟨_, _, a0, c0, rfl, _, _⟩ := hv
  obtain ⟨_, _, a1, c1, rfl, _, _⟩ := hu
  have HE := Lib.hid he
  have HB0 : Hid (∀ o1 o2 : Obj, Below w.heap.size w ((w.alloc o1).alloc o2)) := Lib.hid (fun o1 o2 => ((Below.refl _ _).alloc (Nat.le_refl _) _).alloc (by simp) _)
  obtain ⟨x1, hx1⟩ : ∃ x, x = spAt rs at' cs := ⟨_, rfl⟩
  obtain ⟨x2, hx2⟩ : ∃ x, x = spL rs at' cs := ⟨_, rfl⟩
  obtain ⟨x3, hx3⟩ : ∃ x, x = spC rs at' cs := ⟨_, rfl⟩
  rw [← hx1, ← hx2, ← hx3]
  have HX : Hid (spAt rs at' cs = x1 ∧ spL rs at' cs = x2 ∧ spC rs at' cs = x3) := Lib.hid ⟨hx1.symm, hx2.symm, hx3.symm⟩
  clear he hx1 hx2 hx3
  go_enter Tryd.func27, Tryd.ntmps27
  go_wp2_with fail
  obtain ⟨W1, hW1⟩ : ∃ W, W = (w.alloc (Obj.cells #[.int .i64 at', .slice a1 cs.length c1] 48)).alloc (Obj.cells #[.int .i64 0, .slice none 0 0] 48) := ⟨_, rfl⟩
  have hB1 : Below w.heap.size w W1 := by rw [hW1]; exact HB0.out _ _
  have kr : Cels W1 (w.heap.size + 1) 48 [.int .i64 0, .slice none 0 0] := by
    rw [hW1]
    have := Cels.new (w.alloc (Obj.cells #[.int .i64 at', .slice a1 cs.length c1] 48)) 48 [.int .i64 0, .slice none 0 0]
    rwa [World.size_alloc] at this
  rw [← hW1]
  clear hW1
  refine (implNewSRun at' _ cs a0 c0 rs W1 (HV.out.below hB1 (Nat.le_refl _)) (HU.out.below hB1 (Nat.le_refl _))).mono ?_
  rintro e w2 ⟨g, uu, rfl, hg2, hk2, hr2, hsh, hb2⟩
  have HK2 := Lib.hid hk2
  have HR2 := Lib.hid hr2
  have HSH := Lib.hid hsh
  have KR2 := Lib.hid (kr.below hb2 kr.lt)
  have HE2 := Lib.hid (HE.out.below (hB1.trans (hb2.mono hB1.size)) (Nat.le_refl _))
  have HBB := Lib.hid (hB1.trans (hb2.mono hB1.size))
  have HB2 := Lib.hid hb2
  have HL1 := Lib.hid kr.lt
  have HS1 := Lib.hid hB1.size
  clear hr2 kr hb2 hB1 hg2 hk2 hsh
  have key : Calls Tryd.prog 55 #[.iface 90 (.pointer (some ⟨g, 0, none⟩))] w2 fun e w' => ∃ u, e = .returned (.tuple #[.agg #[.int .i64 x1, u], .int .i64 x3]) ∧ Ow w' W1.heap.size w'.heap.size u x2 ∧ Below W1.heap.size w2 w' := by
    rw [← HX.out.1, ← HX.out.2.1, ← HX.out.2.2]
    rcases eqOr (vsB rs at' cs) with hv | hv
    · obtain ⟨e1, e2, e3⟩ := sp_bad hv
      rw [e1, e2, e3]
      have hk := HK2.out
      rw [hv] at hk
      exact (bhBadS hk).mono fun e w' q => ⟨_, q.1, Ow.emptyUp (Nat.le_trans HB2.out.size q.2.size), q.2.mono HB2.out.size⟩
    · rcases HSH.out with ⟨gb, c', hs⟩ | hs
      · exact bhS hv (HR2.out gb c' hs) HE2.out
      · have := (vsB_ok hv).2.2.1
        rw [hs] at this
        simp at this
  have HKEY := Lib.hid key
  clear key
  go_wp2_with fail
  refine HKEY.out.mono ?_
  rintro e w3 ⟨r, rfl, or, hb3⟩
  have HO := Lib.hid or
  obtain ⟨ga, gc, hr⟩ := or.shape
  subst hr
  have KR3 := Lib.hid (KR2.out.below (hb3.mono (Nat.le_refl _)) HL1.out)
  have HB3 := Lib.hid (HBB.out.trans (hb3.mono HS1.out))
  have HF := Lib.hid (put2s KR3.out (.int .i64 x1) (.slice ga x2.length gc))
  obtain ⟨f1, f2, f3, f4, f7⟩ := HF.out
  have HF7 := Lib.hid f7
  clear or hb3 f7
  go_wp2
  obtain ⟨W, hW⟩ : ∃ W, W = (w3.setCell ⟨w.heap.size + 1, 0, none⟩ (.int .i64 x1)).setCell ⟨w.heap.size + 1, 1, none⟩ (.slice ga x2.length gc) := ⟨_, rfl⟩
  have f7 := HF7.out
  have hB : Below w.heap.size w W := by
    rw [hW]
    exact below_set (below_set HB3.out (by omega) _ _) (by omega) _ _
  have hO : Ow W w.heap.size W.heap.size (.slice ga x2.length gc) x2 := by
    have h1 := (HO.out.apartCell HL1.out 0 (.int .i64 x1)).apartCell HL1.out 1 (.slice ga x2.length gc)
    rw [← hW] at h1
    exact h1.mono HS1.out (by rw [hW]; simp) (Nat.le_refl _)
  rw [← hW] at f7 ⊢
  have z0 := f7.cell 0 rfl
  have z1 := f7.cell 1 rfl
  clear f1 f2 f3 f4 hW
  refine bodyPost_ret (v := .tuple #[.agg #[.int .i64 x1, .slice ga x2.length gc], .int .i64 x3]) (by simp [results, Tryd.f27, go_sem, z0, z1]) rfl ⟨_, rfl, hO, hB⟩
end Go.Proofs.YtadfknafcamamaaDoor.Ints
