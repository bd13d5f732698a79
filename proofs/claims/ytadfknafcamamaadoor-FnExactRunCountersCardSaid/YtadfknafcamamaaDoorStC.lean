/- StepCounters: the model's and the program's. -/
import Derived.Test.YtadfknafcamamaaDoorBhC
namespace Go.Proofs.YtadfknafcamamaaDoor.Ints
open Go.RowKit
set_option linter.unusedVariables false
set_option linter.unusedSimpArgs false
noncomputable def scC (rs : List Ins) (at' a b : Int) : Int :=
  if vcB rs at' a b = true then (if at' = (rs.length : Int) then 6 else if cnV (rs.getD at'.toNat zIns) a b ≤ 1000000000000 then 0 else 5) else 1
noncomputable def scAt (rs : List Ins) (at' a b : Int) : Int := if scC rs at' a b = 0 then cnAt (rs.getD at'.toNat zIns) a b else 0
noncomputable def scA (rs : List Ins) (at' a b : Int) : Int := if scC rs at' a b = 0 then cnA (rs.getD at'.toNat zIns) a b else 0
noncomputable def scB (rs : List Ins) (at' a b : Int) : Int := if scC rs at' a b = 0 then cnB (rs.getD at'.toNat zIns) a b else 0
theorem sc_bad {rs : List Ins} {at' a b : Int} (h : vcB rs at' a b = false) : scC rs at' a b = 1 ∧ scAt rs at' a b = 0 ∧ scA rs at' a b = 0 ∧ scB rs at' a b = 0 := by
  have : scC rs at' a b = 1 := by simp [scC, h]
  simp [scAt, scA, scB, this]
theorem sc_halt {rs : List Ins} {at' a b : Int} (h : vcB rs at' a b = true) (k : at' = (rs.length : Int)) : scC rs at' a b = 6 ∧ scAt rs at' a b = 0 ∧ scA rs at' a b = 0 ∧ scB rs at' a b = 0 := by
  have : scC rs at' a b = 6 := by rw [scC, if_pos h, if_pos k]
  simp [scAt, scA, scB, this]
theorem sc_full {rs : List Ins} {at' a b : Int} (h : vcB rs at' a b = true) (k : at' ≠ (rs.length : Int)) (q : ¬ cnV (rs.getD at'.toNat zIns) a b ≤ 1000000000000) : scC rs at' a b = 5 ∧ scAt rs at' a b = 0 ∧ scA rs at' a b = 0 ∧ scB rs at' a b = 0 := by
  have : scC rs at' a b = 5 := by rw [scC, if_pos h, if_neg k, if_neg q]
  simp [scAt, scA, scB, this]
theorem sc_next {rs : List Ins} {at' a b : Int} (h : vcB rs at' a b = true) (k : at' ≠ (rs.length : Int)) (q : cnV (rs.getD at'.toNat zIns) a b ≤ 1000000000000) :
    scC rs at' a b = 0 ∧ scAt rs at' a b = cnAt (rs.getD at'.toNat zIns) a b ∧ scA rs at' a b = cnA (rs.getD at'.toNat zIns) a b ∧ scB rs at' a b = cnB (rs.getD at'.toNat zIns) a b := by
  have : scC rs at' a b = 0 := by rw [scC, if_pos h, if_neg k, if_pos q]
  simp [scAt, scA, scB, this]
/-- The step of the run is that of the counters. -/
theorem st_cn (rs : List Ins) (k : Nat) (a b : Int) (hp : Pok rs) (hl : ∀ i, i < rs.length → (rs.getD i zIns).rg ≤ 1) (hk : k < rs.length) (ha : 0 ≤ a) (hb : 0 ≤ b) :
    stAt rs k [a, b] = cnAt (rs.getD k zIns) a b ∧ stCs rs k [a, b] = [cnA (rs.getD k zIns) a b, cnB (rs.getD k zIns) a b] := by
  obtain ⟨⟨h0, _⟩, _, hkd⟩ := hp.all k hk
  have h1 := hl k hk
  unfold stAt stCs cnAt cnA cnB cnV
  obtain ⟨r, hr⟩ : ∃ r, r = rs.getD k zIns := ⟨_, rfl⟩
  rw [← hr] at h0 h1 hkd ⊢
  obtain ⟨x, y, th, el⟩ := r
  dsimp only at h0 h1 hkd ⊢
  have hx : x = 0 ∨ x = 1 := by omega
  have hy : y = 0 ∨ y = 1 := by omega
  rcases hy with rfl | rfl
  · by_cases hz : a = 0
    · subst hz; rcases hx with rfl | rfl <;> simp
    · have : 0 < a := by omega
      rcases hx with rfl | rfl <;> simp [hz, this]
  · by_cases hz : b = 0
    · subst hz; rcases hx with rfl | rfl <;> simp
    · have : 0 < b := by omega
      rcases hx with rfl | rfl <;> simp [hz, this]
theorem full_cn (rs : List Ins) (k : Nat) (a b : Int) (hp : Pok rs) (hl : ∀ i, i < rs.length → (rs.getD i zIns).rg ≤ 1) (hk : k < rs.length) (ha : 0 ≤ a ∧ a ≤ 1000000000000) (hb : 0 ≤ b ∧ b ≤ 1000000000000) :
    ((rs.getD k zIns).kd = 0 ∧ [a, b].getD (rs.getD k zIns).rg.toNat 0 = 1000000000000) ↔ ¬ cnV (rs.getD k zIns) a b ≤ 1000000000000 := by
  obtain ⟨⟨h0, _⟩, _, hkd⟩ := hp.all k hk
  have h1 := hl k hk
  unfold cnV
  obtain ⟨r, hr⟩ : ∃ r, r = rs.getD k zIns := ⟨_, rfl⟩
  rw [← hr] at h0 h1 hkd ⊢
  obtain ⟨x, y, th, el⟩ := r
  dsimp only at h0 h1 hkd ⊢
  have hx : x = 0 ∨ x = 1 := by omega
  have hy : y = 0 ∨ y = 1 := by omega
  rcases hy with rfl | rfl
  · rcases hx with rfl | rfl
    · simp; omega
    · simp; split <;> omega
  · rcases hx with rfl | rfl
    · simp; omega
    · simp; split <;> omega
theorem bhC {w0 w : World} {g gb c0 : Nat} {pa : Option Addr} {pc : Nat} {rs : List Ins} {at' a b : Int} (h : StR w0 w g 108 gb c0 pa pc rs at' [a, b] (vcB rs at' a b) 1000000000000) (he : EtV w) :
    Calls Tryd.prog 42 #[.iface 73 (.pointer (some ⟨g, 0, none⟩))] w fun e w' => e = .returned (.tuple #[.agg #[.int .i64 (scAt rs at' a b), .int .i64 (scA rs at' a b), .int .i64 (scB rs at' a b)], .int .i64 (scC rs at' a b)]) ∧ Below w0.heap.size w w' := by
  have hs0 : w0.heap.size ≤ w.heap.size := h.old.size
  rcases eqOr (vcB rs at' a b) with hv | hv
  · obtain ⟨e1, e2, e3, e4⟩ := sc_bad hv
    rw [e1, e2, e3, e4]
    rw [hv] at h
    exact (bhBad h).mono fun e w' q => ⟨q.1, q.2.mono hs0⟩
  rw [hv] at h
  obtain ⟨hp, hl, hc⟩ := vcB_ok hv
  by_cases hk : at' = (rs.length : Int)
  · obtain ⟨e1, e2, e3, e4⟩ := sc_halt hv hk
    rw [e1, e2, e3, e4]
    exact (bhFail 6 h he (fun W hW => strStepHalt (h.below hW) hk)).mono fun e w' q => ⟨q.1, q.2.mono hs0⟩
  obtain ⟨k, rfl⟩ : ∃ k : Nat, at' = (k : Int) := ⟨at'.toNat, by have := hc.1.1; omega⟩
  have hkl : k < rs.length := by have := hc.1.2; omega
  have hrg : (rs.getD k zIns).rg < (([a, b] : List Int).length : Int) := by have := hl k hkl; show _ < (2 : Int); omega
  have hcs : ∀ i, 0 ≤ [a, b].getD i 0 ∧ [a, b].getD i 0 ≤ 1000000000000 := fun i => by
    match i with
    | 0 => simpa using hc.2.1
    | 1 => simpa using hc.2.2
    | i + 2 => simp
  have hst : ∀ W, Below w.heap.size w W → Calls Tryd.prog 127 #[.pointer (some ⟨g, 0, none⟩)] W (StepPost w0 W g 108 gb c0 pa pc rs [a, b] true 1000000000000 k) := fun W hW =>
    strStepGo k (h.below hW) hkl hp hrg hcs (by omega)
  have hfull := full_cn rs k a b hp hl hkl hc.2.1 hc.2.2
  by_cases hq : cnV (rs.getD k zIns) a b ≤ 1000000000000
  · obtain ⟨e1, e2, e3, e4⟩ := sc_next hv hk (by simpa using hq)
    rw [e1, e2, e3, e4]
    obtain ⟨s1, s2⟩ := st_cn rs k a b hp hl hkl hc.2.1.1 hc.2.2.1
    refine bhNext _ _ _ h (fun W hW => (hst W hW).mono fun e w' q => ?_)
    unfold StepPost at q
    rw [if_neg (fun x => (hfull.1 x) hq)] at q
    rw [s1, s2] at q
    exact q
  · obtain ⟨e1, e2, e3, e4⟩ := sc_full hv hk (by simpa using hq)
    rw [e1, e2, e3, e4]
    refine (bhFail 5 h he (fun W hW => (hst W hW).mono fun e w' q => ?_)).mono fun e w' q => ⟨q.1, q.2.mono hs0⟩
    unfold StepPost at q
    rw [if_pos (hfull.2 hq)] at q
    exact q
set_option maxHeartbeats 2000000 in
theorem implStepCounters (at' a b : Int) (v : Value) (rs : List Ins) (w : World) (hv : RdIns w v rs) (ha : fit64 a) (hb : fit64 b) (he : EtV w) :
    Calls Tryd.prog 13 #[v, .agg #[.int .i64 at', .int .i64 a, .int .i64 b]] w fun e w' => e = .returned (.tuple #[.agg #[.int .i64 (scAt rs at' a b), .int .i64 (scA rs at' a b), .int .i64 (scB rs at' a b)], .int .i64 (scC rs at' a b)]) ∧ Below w.heap.size w w' := by
  have HV := Lib.hid hv
  obtain ⟨_, _, a0, c0, rfl, _, _⟩ := hv
  have HFA := Lib.hid ha
  have HFB := Lib.hid hb
  have HE := Lib.hid he
  have HB0 : Hid (∀ o1 o2 : Obj, Below w.heap.size w ((w.alloc o1).alloc o2)) := Lib.hid (fun o1 o2 => ((Below.refl _ _).alloc (Nat.le_refl _) _).alloc (by simp) _)
  obtain ⟨x1, hx1⟩ : ∃ x, x = scAt rs at' a b := ⟨_, rfl⟩
  obtain ⟨x2, hx2⟩ : ∃ x, x = scA rs at' a b := ⟨_, rfl⟩
  obtain ⟨x3, hx3⟩ : ∃ x, x = scB rs at' a b := ⟨_, rfl⟩
  obtain ⟨x4, hx4⟩ : ∃ x, x = scC rs at' a b := ⟨_, rfl⟩
  rw [← hx1, ← hx2, ← hx3, ← hx4]
  have HX : Hid (scAt rs at' a b = x1 ∧ scA rs at' a b = x2 ∧ scB rs at' a b = x3 ∧ scC rs at' a b = x4) := Lib.hid ⟨hx1.symm, hx2.symm, hx3.symm, hx4.symm⟩
  clear ha hb he hx1 hx2 hx3 hx4
  go_enter Tryd.func13, Tryd.ntmps13
  go_wp2_with fail
  obtain ⟨W1, hW1⟩ : ∃ W, W = (w.alloc (Obj.cells #[.int .i64 at', .int .i64 a, .int .i64 b] 26)).alloc (Obj.cells #[.int .i64 0, .int .i64 0, .int .i64 0] 26) := ⟨_, rfl⟩
  have hB1 : Below w.heap.size w W1 := by rw [hW1]; exact HB0.out _ _
  have kr : Cels W1 (w.heap.size + 1) 26 [.int .i64 0, .int .i64 0, .int .i64 0] := by
    rw [hW1]
    have := Cels.new (w.alloc (Obj.cells #[.int .i64 at', .int .i64 a, .int .i64 b] 26)) 26 [.int .i64 0, .int .i64 0, .int .i64 0]
    rwa [World.size_alloc] at this
  rw [← hW1]
  clear hW1
  refine (implNewCRun at' a b a0 c0 rs W1 (HV.out.below hB1 (Nat.le_refl _)) HFA.out HFB.out).mono ?_
  rintro e w2 ⟨g, gb, rfl, hr2, hb2⟩
  have HR2 := Lib.hid hr2
  have KR2 := Lib.hid (kr.below hb2 kr.lt)
  have HE2 := Lib.hid (HE.out.below (hB1.trans (hb2.mono hB1.size)) (Nat.le_refl _))
  have HBB := Lib.hid (hB1.trans (hb2.mono hB1.size))
  have HL1 := Lib.hid kr.lt
  have HS1 := Lib.hid hB1.size
  clear hr2 kr hb2 hB1
  go_wp2_with fail
  refine (bhC HR2.out HE2.out).mono ?_
  rintro e w3 ⟨rfl, hb3⟩
  rw [HX.out.1, HX.out.2.1, HX.out.2.2.1, HX.out.2.2.2]
  have KR3 := Lib.hid (KR2.out.below hb3 HL1.out)
  have HB3 := Lib.hid (HBB.out.trans (hb3.mono HS1.out))
  have HF := Lib.hid (put3 KR3.out (.int .i64 x1) (.int .i64 x2) (.int .i64 x3))
  obtain ⟨f1, f2, f3, f4, f5, f6, f7⟩ := HF.out
  have HF7 := Lib.hid f7
  clear hb3 f7
  go_wp2
  obtain ⟨W, hW⟩ : ∃ W, W = ((w3.setCell ⟨w.heap.size + 1, 0, none⟩ (.int .i64 x1)).setCell ⟨w.heap.size + 1, 1, none⟩ (.int .i64 x2)).setCell ⟨w.heap.size + 1, 2, none⟩ (.int .i64 x3) := ⟨_, rfl⟩
  have f7 := HF7.out
  have hB : Below w.heap.size w W := by
    rw [hW]
    exact below_set (below_set (below_set HB3.out (by omega) _ _) (by omega) _ _) (by omega) _ _
  rw [← hW] at f7 ⊢
  have z0 := f7.cell 0 rfl
  have z1 := f7.cell 1 rfl
  have z2 := f7.cell 2 rfl
  clear f1 f2 f3 f4 f5 f6 hW
  refine bodyPost_ret (v := .tuple #[.agg #[.int .i64 x1, .int .i64 x2, .int .i64 x3], .int .i64 x4]) (by simp [results, Tryd.f13, go_sem, z0, z1, z2]) rfl ⟨rfl, hB⟩
end Go.Proofs.YtadfknafcamamaaDoor.Ints
