/- The contract of the program's UnweaveNatural. -/
import Derived.Test.YtknlpoeolicinacUw
namespace Go.Proofs.Ytknlpoeolicinac.Ints
open Go.RowKit
set_option linter.unusedVariables false

set_option maxRecDepth 100000 in
set_option maxHeartbeats 4000000 in
theorem implUnweave (u : Value) (ps : List Int) (w : World) (hu : Rd w u ps) :
    Calls Try.prog 40 #[u] w fun e w' => ∃ r0 r1 M, e = .returned (.tuple #[r0, r1, .int .i64 (uwC ps)]) ∧ Ow w' w.heap.size M r0 (uwL ps 0) ∧ Ow w' M w'.heap.size r1 (uwL ps 1) ∧ Below w.heap.size w w' := by
  have HU := Lib.hid hu
  clear hu
  rcases eqOr (natB ps) with hx | hx
  · have HR := Lib.hid (uw_bad hx)
    have HD := Lib.hid (dg_bad (p := 10) hx)
    clear hx
    go_enter Try.func40, Try.ntmps40
    go_wp2_with fail
    refine (implDigitsOf _ ps 10 _ HU.out).mono ?_
    rintro e w1 ⟨r, rfl, ho, hb⟩
    rw [HD.out.2]
    have HB := Lib.hid hb
    obtain ⟨a, c, rfl⟩ := ho.shape
    clear ho hb
    go_wp2
    go_ret3
    have HBA := HB.out.alloc HB.out.size (Obj.cells #[Value.slice a (dgV ps 10).length c] 22)
    exact ⟨_, _, w.heap.size, by rw [HR.out.2.2] <;> rfl, by rw [HR.out.1]; exact Ow.nilAt (Nat.le_refl _) HBA.size, by rw [HR.out.2.1]; exact Ow.nilAt HBA.size (Nat.le_refl _), HBA⟩
  have HR := Lib.hid (uw_good hx)
  have HP := Lib.hid (natB_can hx)
  have HD := Lib.hid (dg_good (p := 10) hx (by omega))
  obtain ⟨G, hG⟩ : ∃ G, G = dgN ps 10 := ⟨_, rfl⟩
  have HGG := Lib.hid hG
  have hgl : G.length ≤ 240 := by rw [hG]; exact dg_ten HP.out.1 HP.out.2
  have HDG : Hid (Dig 10 G) := Lib.hid (by rw [hG]; exact dgN_dig ps (by omega))
  clear hx hG
  go_enter Try.func40, Try.ntmps40
  go_wp2_with fail
  refine (implDigitsOf _ ps 10 _ HU.out).mono ?_
  rintro e w1 ⟨r, rfl, ho, hb⟩
  rw [HD.out.1, ← HGG.out] at ho
  rw [HD.out.2]
  obtain ⟨a, c, rfl⟩ := ho.shape
  have HB1 := Lib.hid hb
  have hbb : Below w1.heap.size w1 (w1.alloc (.cells #[.slice a G.length c] 22)) := (Below.refl _ w1).alloc (Nat.le_refl _) _
  have HO := Lib.hid (ho.rd.below hbb (Nat.le_refl _))
  have HC : Hid ((w1.alloc (.cells #[.slice a G.length c] 22)).cell? ⟨w1.heap.size, 0, none⟩ = some (.slice a G.length c)) := Lib.hid (Boxed.new w1 22 _).cell
  have HBB := Lib.hid (HB1.out.trans (hbb.mono HB1.out.size))
  clear ho hb hbb
  go_wp2_with fail
  refine (uwFrom 0 _ _ G _ (by omega) HC.out (by simp) HO.out HDG.out hgl).mono ?_
  rintro e w2 ⟨r0, rfl, ho0, hb⟩
  have HB2 := Lib.hid (HBB.out.trans (hb.mono HBB.out.size))
  have HC2 : Hid (w2.cell? ⟨w1.heap.size, 0, none⟩ = some (.slice a G.length c)) := Lib.hid ((hb.cell (p := ⟨w1.heap.size, 0, none⟩) (by simp)).trans HC.out)
  have HO2 := Lib.hid (HO.out.below hb (Nat.le_refl _))
  have HLT : Hid (w1.heap.size < w2.heap.size) := Lib.hid (by have := hb.size; simp at this; omega)
  have HR0 := Lib.hid ho0
  obtain ⟨a0, c0, rfl⟩ := ho0.shape
  have HS2 := Lib.hid (show w.heap.size ≤ (w1.alloc (.cells #[.slice a G.length c] 22)).heap.size from HBB.out.size)
  clear ho0 hb
  go_wp2_with fail
  refine (uwFrom 1 _ _ G _ (by omega) HC2.out HLT.out HO2.out HDG.out hgl).mono ?_
  rintro e w3 ⟨r1, rfl, ho1, hb⟩
  have HB3 := Lib.hid (HB2.out.trans (hb.mono HB2.out.size))
  have HR1 := Lib.hid ho1
  have HR0b := Lib.hid ((HR0.out.below hb (Nat.le_refl _)).mono HS2.out (Nat.le_refl _) hb.size)
  obtain ⟨a1, c1, rfl⟩ := ho1.shape
  clear ho1 hb
  go_wp2
  go_ret3
  exact ⟨_, _, w2.heap.size, by rw [HR.out.2.2] <;> rfl, by rw [HR.out.1, ← HGG.out]; exact HR0b.out, by rw [HR.out.2.1, ← HGG.out]; exact HR1.out, HB3.out⟩
end Go.Proofs.Ytknlpoeolicinac.Ints
