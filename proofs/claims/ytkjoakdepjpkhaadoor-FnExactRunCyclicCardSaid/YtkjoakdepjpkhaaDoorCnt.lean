/- Counters: what is valid, a step (plain lemmas); the model's test and step. -/
import Derived.Test.YtkjoakdepjpkhaaDoorTwo
import Derived.Test.YtkjoakdepjpkhaaDoorIn
namespace Go.Proofs.YtkjoakdepjpkhaaDoor.Ints
open Go.RowKit
set_option linter.unusedVariables false
set_option linter.unusedSimpArgs false
def CntOk (n : Nat) (at' a b : Int) : Prop := (0 ≤ at' ∧ at' ≤ (n : Int)) ∧ (0 ≤ a ∧ a ≤ 1000000000000) ∧ (0 ≤ b ∧ b ≤ 1000000000000)
open Classical in
noncomputable def cntB (n : Nat) (at' a b : Int) : Bool := decide (CntOk n at' a b)
theorem cntB_true {n : Nat} {at' a b : Int} (h : CntOk n at' a b) : cntB n at' a b = true := by simp [cntB, h]
theorem cntB_false {n : Nat} {at' a b : Int} (h : ¬ CntOk n at' a b) : cntB n at' a b = false := by simp [cntB, h]
theorem cntB_ok {n : Nat} {at' a b : Int} (h : cntB n at' a b = true) : CntOk n at' a b := by simpa [cntB] using h
noncomputable def vcB (rs : List Ins) (at' a b : Int) : Bool := twoB rs && cntB rs.length at' a b
theorem vcB_bad {rs : List Ins} {at' a b : Int} (h : twoB rs = false) : vcB rs at' a b = false := by simp [vcB, h]
theorem vcB_good {rs : List Ins} {at' a b : Int} (h : twoB rs = true) : vcB rs at' a b = cntB rs.length at' a b := by simp [vcB, h]
theorem vcB_ok {rs : List Ins} {at' a b : Int} (h : vcB rs at' a b = true) : Pok rs ∧ (∀ i, i < rs.length → (rs.getD i zIns).rg ≤ 1) ∧ CntOk rs.length at' a b := by
  simp only [vcB, twoB, Bool.and_eq_true] at h
  exact ⟨progB_ok h.1.1, lowB_ok h.1.2, cntB_ok h.2⟩
/-- The next counters; the content that a step makes. -/
def cnV (r : Ins) (a b : Int) : Int :=
  let v := if r.rg = 1 then b else a
  if r.kd = 0 then v + 1 else if v = 0 then v else v - 1
def cnAt (r : Ins) (a b : Int) : Int := if r.kd = 0 then r.th else if (if r.rg = 1 then b else a) = 0 then r.el else r.th
def cnA (r : Ins) (a b : Int) : Int := if r.rg = 1 then a else cnV r a b
def cnB (r : Ins) (a b : Int) : Int := if r.rg = 1 then cnV r a b else b
set_option maxHeartbeats 2000000 in
theorem specCGood (a0 : Option Addr) (n c g : Nat) (at' a b : Int) (w : World) (hk : Cels w g 75 [.int .i64 at', .int .i64 a, .int .i64 b]) (bo : Bool) (hbo : bo = cntB n at' a b) :
    Calls Tryd.prog 86 #[.slice a0 n c, .pointer (some ⟨g, 0, none⟩)] w fun e w' => e = .returned (.bool bo) ∧ w = w' := by
  have z0 := hk.cell 0 rfl
  have z1 := hk.cell 1 rfl
  have z2 := hk.cell 2 rfl
  have HBO := Lib.hid hbo
  clear hk hbo
  by_cases h0 : 0 ≤ at' ∧ at' ≤ (n : Int)
  rotate_left
  · have e := Lib.hid (HBO.out.trans (cntB_false (fun h => h0 h.1)))
    have H0 := Lib.hid h0
    clear h0
    go_enter Tryd.func86, Tryd.ntmps86
    go_wp2_with fail
    refine (specInN at' 0 n _ H0.out).mono ?_
    rintro e w1 ⟨rfl, rfl⟩
    go_wp2
    go_ret
    exact ⟨by rw [e.out] <;> rfl, rfl⟩
  have H0 := Lib.hid h0
  clear h0
  by_cases h1 : 0 ≤ a ∧ a ≤ 1000000000000
  rotate_left
  · have e := Lib.hid (HBO.out.trans (cntB_false (fun h => h1 h.2.1)))
    have H1 := Lib.hid h1
    clear h1
    go_enter Tryd.func86, Tryd.ntmps86
    go_wp2_with fail
    refine (specInY at' 0 n _ H0.out).mono ?_
    rintro e w1 ⟨rfl, rfl⟩
    go_wp2_with fail
    refine (specInN a 0 1000000000000 _ H1.out).mono ?_
    rintro e w1 ⟨rfl, rfl⟩
    go_wp2
    go_ret
    exact ⟨by rw [e.out] <;> rfl, rfl⟩
  have H1 := Lib.hid h1
  clear h1
  obtain ⟨b2, hb2⟩ : ∃ x, x = decide (0 ≤ b ∧ b ≤ 1000000000000) := ⟨_, rfl⟩
  have e : Hid (bo = b2) := Lib.hid (by
    rw [HBO.out, hb2]
    by_cases h : 0 ≤ b ∧ b ≤ 1000000000000
    · rw [cntB_true ⟨H0.out, H1.out, h⟩]; simp [h]
    · rw [cntB_false (fun q => h q.2.2), decide_eq_false h])
  have HB2 : Hid (b2 = true ↔ 0 ≤ b ∧ b ≤ 1000000000000) := Lib.hid (by rw [hb2]; simp)
  clear hb2
  go_enter Tryd.func86, Tryd.ntmps86
  go_wp2_with fail
  refine (specInY at' 0 n _ H0.out).mono ?_
  rintro e w1 ⟨rfl, rfl⟩
  go_wp2_with fail
  refine (specInY a 0 1000000000000 _ H1.out).mono ?_
  rintro e w1 ⟨rfl, rfl⟩
  go_wp2_with fail
  refine (specInB b 0 1000000000000 b2 _ HB2.out).mono ?_
  rintro e w1 ⟨rfl, rfl⟩
  go_wp2
  go_ret
  exact ⟨by rw [e.out] <;> rfl, rfl⟩
set_option maxHeartbeats 4000000 in
set_option maxRecDepth 100000 in
theorem specCStep (v : Value) (rs : List Ins) (k : Nat) (a b : Int) (w : World) (hv : RdIns w v rs) (hk : k < rs.length) (hp : Pok rs) (ha : 0 ≤ a ∧ a ≤ 1000000000000) (hb : 0 ≤ b ∧ b ≤ 1000000000000)
    (r : Ins) (hr : r = rs.getD k zIns) :
    Calls Tryd.prog 87 #[v, .agg #[.int .i64 (k : Int), .int .i64 a, .int .i64 b]] w fun e w' => e = .returned (.tuple #[.agg #[.int .i64 (cnAt r a b), .int .i64 (cnA r a b), .int .i64 (cnB r a b)], .bool (decide (cnV r a b ≤ 1000000000000))]) ∧ Below w.heap.size w w' := by
  have HB0 : ∀ o1 o2 o3 : Obj, Hid (Below w.heap.size w (((w.alloc o1).alloc o2).alloc o3)) := fun o1 o2 o3 => Lib.hid ((((Below.refl _ _).alloc (Nat.le_refl _) _).alloc (by simp) _).alloc (by simp; omega) _)
  obtain ⟨hl, hf, a1, c1, rfl, _, hrd⟩ := hv
  obtain ⟨bb, o, rfl, hbb, hcell⟩ := hrd (by intro h0; rw [h0] at hk; simp at hk)
  obtain ⟨d0, d1, d2, d3⟩ := hcell k hk
  have hin := hp.all k hk
  rw [← hr] at d0 d1 d2 d3 hin
  obtain ⟨x, y, th, el⟩ := r
  obtain ⟨_, _, hkd⟩ := hin
  dsimp only at d0 d1 d2 d3 hkd
  have q : ∀ o1 o2 : Obj, Below w.heap.size w ((w.alloc o1).alloc o2) := fun o1 o2 => ((Below.refl _ _).alloc (Nat.le_refl _) _).alloc (by simp) _
  have e0 := fun o1 o2 => ((q o1 o2).cell (p := ⟨bb, o + k * 4, none⟩) hbb).trans d0
  have e1 := fun o1 o2 => ((q o1 o2).cell (p := ⟨bb, o + k * 4 + 1, none⟩) hbb).trans d1
  have e2 := fun o1 o2 => ((q o1 o2).cell (p := ⟨bb, o + k * 4 + 2, none⟩) hbb).trans d2
  have e3 := fun o1 o2 => ((q o1 o2).cell (p := ⟨bb, o + k * 4 + 3, none⟩) hbb).trans d3
  have i0 : (0 : Int) ≤ (k : Int) := by omega
  have i1 : (k : Int) < (rs.length : Int) := by omega
  clear hcell hrd d0 d1 d2 d3 q hr hp
  by_cases hy : y = 1
  · subst hy
    have k2 : ((1 : Int) == 1) = true := rfl
    rcases hkd with ⟨rfl, rfl⟩ | ⟨rfl, u0, u1⟩
    · have k1 : ((0 : Int) == 0) = true := rfl
      have ew : IntKind.i64.wrap (b + 1) = b + 1 := by rw [IntKind.wrap_i64]; omega
      have E1 : Hid (cnAt ⟨0, 1, th, 0⟩ a b = th) := Lib.hid (by simp [cnAt])
      have E2 : Hid (cnA ⟨0, 1, th, 0⟩ a b = a) := Lib.hid (by simp [cnA, cnV])
      have E3 : Hid (cnB ⟨0, 1, th, 0⟩ a b = b + 1) := Lib.hid (by simp [cnB, cnV])
      have E4 : Hid (cnV ⟨0, 1, th, 0⟩ a b = b + 1) := Lib.hid (by simp [cnV])
      go_enter Tryd.func87, Tryd.ntmps87
      go_wp2
      refine bodyPost_ret (v := .tuple #[.agg #[.int .i64 (th), .int .i64 (a), .int .i64 (b + 1)], .bool (decide (b + 1 ≤ 1000000000000))]) (by simp [results, Tryd.f87, go_sem]) rfl ⟨by rw [E1.out, E2.out, E3.out, E4.out] <;> rfl, ?_⟩
      exact (HB0 _ _ _).out
    · have k1 : ((1 : Int) == 0) = false := rfl
      by_cases hz : b = 0
      · subst hz
        have k3 : ((0 : Int) == 0) = true := rfl
        have E1 : Hid (cnAt ⟨1, 1, th, el⟩ a 0 = el) := Lib.hid (by simp [cnAt])
        have E2 : Hid (cnA ⟨1, 1, th, el⟩ a 0 = a) := Lib.hid (by simp [cnA, cnV])
        have E3 : Hid (cnB ⟨1, 1, th, el⟩ a 0 = 0) := Lib.hid (by simp [cnB, cnV])
        have E4 : Hid (cnV ⟨1, 1, th, el⟩ a 0 = 0) := Lib.hid (by simp [cnV])
        go_enter Tryd.func87, Tryd.ntmps87
        go_wp2
        refine bodyPost_ret (v := .tuple #[.agg #[.int .i64 (el), .int .i64 (a), .int .i64 (0)], .bool (decide (0 ≤ 1000000000000))]) (by simp [results, Tryd.f87, go_sem]) rfl ⟨by rw [E1.out, E2.out, E3.out, E4.out] <;> rfl, ?_⟩
        exact (HB0 _ _ _).out
      · have k3 : (b == 0) = false := by simp only [beq_eq_false_iff_ne]; exact hz
        have HZ := Lib.hid hz
        have ew : IntKind.i64.wrap (b - 1) = b - 1 := by rw [IntKind.wrap_i64]; omega
        have E1 : Hid (cnAt ⟨1, 1, th, el⟩ a b = th) := Lib.hid (by simp [cnAt, HZ.out])
        have E2 : Hid (cnA ⟨1, 1, th, el⟩ a b = a) := Lib.hid (by simp [cnA, cnV, HZ.out])
        have E3 : Hid (cnB ⟨1, 1, th, el⟩ a b = b - 1) := Lib.hid (by simp [cnB, cnV, HZ.out])
        have E4 : Hid (cnV ⟨1, 1, th, el⟩ a b = b - 1) := Lib.hid (by simp [cnV, HZ.out])
        clear hz
        go_enter Tryd.func87, Tryd.ntmps87
        go_wp2
        refine bodyPost_ret (v := .tuple #[.agg #[.int .i64 (th), .int .i64 (a), .int .i64 (b - 1)], .bool (decide (b - 1 ≤ 1000000000000))]) (by simp [results, Tryd.f87, go_sem]) rfl ⟨by rw [E1.out, E2.out, E3.out, E4.out] <;> rfl, ?_⟩
        exact (HB0 _ _ _).out
  · have k2 : (y == 1) = false := by simp only [beq_eq_false_iff_ne]; exact hy
    have HY := Lib.hid hy
    clear hy
    rcases hkd with ⟨rfl, rfl⟩ | ⟨rfl, u0, u1⟩
    · have k1 : ((0 : Int) == 0) = true := rfl
      have ew : IntKind.i64.wrap (a + 1) = a + 1 := by rw [IntKind.wrap_i64]; omega
      have E1 : Hid (cnAt ⟨0, y, th, 0⟩ a b = th) := Lib.hid (by simp [cnAt, HY.out])
      have E2 : Hid (cnA ⟨0, y, th, 0⟩ a b = a + 1) := Lib.hid (by simp [cnA, cnV, HY.out])
      have E3 : Hid (cnB ⟨0, y, th, 0⟩ a b = b) := Lib.hid (by simp [cnB, cnV, HY.out])
      have E4 : Hid (cnV ⟨0, y, th, 0⟩ a b = a + 1) := Lib.hid (by simp [cnV, HY.out])
      go_enter Tryd.func87, Tryd.ntmps87
      go_wp2
      refine bodyPost_ret (v := .tuple #[.agg #[.int .i64 (th), .int .i64 (a + 1), .int .i64 (b)], .bool (decide (a + 1 ≤ 1000000000000))]) (by simp [results, Tryd.f87, go_sem]) rfl ⟨by rw [E1.out, E2.out, E3.out, E4.out] <;> rfl, ?_⟩
      exact (HB0 _ _ _).out
    · have k1 : ((1 : Int) == 0) = false := rfl
      by_cases hz : a = 0
      · subst hz
        have k3 : ((0 : Int) == 0) = true := rfl
        have E1 : Hid (cnAt ⟨1, y, th, el⟩ 0 b = el) := Lib.hid (by simp [cnAt, HY.out])
        have E2 : Hid (cnA ⟨1, y, th, el⟩ 0 b = 0) := Lib.hid (by simp [cnA, cnV, HY.out])
        have E3 : Hid (cnB ⟨1, y, th, el⟩ 0 b = b) := Lib.hid (by simp [cnB, cnV, HY.out])
        have E4 : Hid (cnV ⟨1, y, th, el⟩ 0 b = 0) := Lib.hid (by simp [cnV, HY.out])
        go_enter Tryd.func87, Tryd.ntmps87
        go_wp2
        refine bodyPost_ret (v := .tuple #[.agg #[.int .i64 (el), .int .i64 (0), .int .i64 (b)], .bool (decide (0 ≤ 1000000000000))]) (by simp [results, Tryd.f87, go_sem]) rfl ⟨by rw [E1.out, E2.out, E3.out, E4.out] <;> rfl, ?_⟩
        exact (HB0 _ _ _).out
      · have k3 : (a == 0) = false := by simp only [beq_eq_false_iff_ne]; exact hz
        have HZ := Lib.hid hz
        have ew : IntKind.i64.wrap (a - 1) = a - 1 := by rw [IntKind.wrap_i64]; omega
        have E1 : Hid (cnAt ⟨1, y, th, el⟩ a b = th) := Lib.hid (by simp [cnAt, HY.out, HZ.out])
        have E2 : Hid (cnA ⟨1, y, th, el⟩ a b = a - 1) := Lib.hid (by simp [cnA, cnV, HY.out, HZ.out])
        have E3 : Hid (cnB ⟨1, y, th, el⟩ a b = b) := Lib.hid (by simp [cnB, cnV, HY.out, HZ.out])
        have E4 : Hid (cnV ⟨1, y, th, el⟩ a b = a - 1) := Lib.hid (by simp [cnV, HY.out, HZ.out])
        clear hz
        go_enter Tryd.func87, Tryd.ntmps87
        go_wp2
        refine bodyPost_ret (v := .tuple #[.agg #[.int .i64 (th), .int .i64 (a - 1), .int .i64 (b)], .bool (decide (a - 1 ≤ 1000000000000))]) (by simp [results, Tryd.f87, go_sem]) rfl ⟨by rw [E1.out, E2.out, E3.out, E4.out] <;> rfl, ?_⟩
        exact (HB0 _ _ _).out
end Go.Proofs.YtkjoakdepjpkhaaDoor.Ints
