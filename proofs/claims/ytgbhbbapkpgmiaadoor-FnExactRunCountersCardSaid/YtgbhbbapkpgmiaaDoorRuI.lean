/- RunCounters: the program's. -/
import Derived.Test.YtgbhbbapkpgmiaaDoorEnC
namespace Go.Proofs.YtgbhbbapkpgmiaaDoor.Ints
open Go.RowKit
set_option linter.unusedVariables false
set_option linter.unusedSimpArgs false
set_option maxHeartbeats 4000000 in
set_option maxRecDepth 100000 in
theorem implRunCounters (at' a b bu : Int) (v : Value) (rs : List Ins) (w : World) (hv : RdIns w v rs) (ha : fit64 a) (hb : fit64 b) (he : EtV w) :
    Calls Tryd.prog 16 #[v, .agg #[.int .i64 at', .int .i64 a, .int .i64 b], .int .i64 bu] w fun e w' => e = .returned (.tuple #[.agg #[.int .i64 (rcR rs at' a b bu).at', .int .i64 (rcR rs at' a b bu).a, .int .i64 (rcR rs at' a b bu).b], .int .i64 (rcR rs at' a b bu).n, .bool (rcR rs at' a b bu).h, .int .i64 (rcR rs at' a b bu).code]) ∧ Below w.heap.size w w' := by
  have HV := Lib.hid hv
  obtain ⟨_, _, a0, c0, rfl, _, _⟩ := hv
  have HFA := Lib.hid ha
  have HFB := Lib.hid hb
  have HE := Lib.hid he
  have HB0 : Hid (∀ o1 o2 : Obj, Below w.heap.size w ((w.alloc o1).alloc o2)) := Lib.hid (fun o1 o2 => ((Below.refl _ _).alloc (Nat.le_refl _) _).alloc (by simp) _)
  obtain ⟨R, hR⟩ : ∃ R, R = rcR rs at' a b bu := ⟨_, rfl⟩
  rw [← hR]
  have HR := Lib.hid hR.symm
  obtain ⟨x0, x1, x2, x3, x4, x5⟩ := R
  dsimp only
  clear ha hb he hR
  go_enter Tryd.func16, Tryd.ntmps16
  go_wp2_with fail
  obtain ⟨W1, hW1⟩ : ∃ W, W = (w.alloc (Obj.cells #[.int .i64 at', .int .i64 a, .int .i64 b] 26)).alloc (Obj.cells #[.int .i64 0, .int .i64 0, .int .i64 0] 26) := ⟨_, rfl⟩
  have hB1 : Below w.heap.size w W1 := by rw [hW1]; exact HB0.out _ _
  have kr : Cels W1 (w.heap.size + 1) 26 [.int .i64 0, .int .i64 0, .int .i64 0] := by
    rw [hW1]
    have := Cels.new (w.alloc (Obj.cells #[.int .i64 at', .int .i64 a, .int .i64 b] 26)) 26 [.int .i64 0, .int .i64 0, .int .i64 0]
    rwa [World.size_alloc] at this
  rw [← hW1]
  clear hW1
  refine (implNewCRun at' a b a0 c0 rs W1 (HV.out.below hB1 (Nat.le_refl _)) HFA.out HFB.out).mono ?_
  rintro e w2 ⟨g, gb, rfl, hr2, hb2⟩
  have HR2 := Lib.hid hr2
  have KR1 := Lib.hid kr
  have HE2 := Lib.hid (HE.out.below hB1 (Nat.le_refl _))
  have HB1 := Lib.hid hB1
  have HB2 := Lib.hid hb2
  have HL1 := Lib.hid kr.lt
  have HS1 := Lib.hid hB1.size
  clear hr2 kr hb2 hB1
  go_wp2_with fail
  refine (implEnC W1 w2 g gb 2 a0 c0 rs at' a b bu HR2.out HE2.out HB2.out).mono ?_
  rintro e w3 ⟨rfl, hb3⟩
  rw [HR.out]
  dsimp only
  have KR3 := Lib.hid (KR1.out.below hb3 HL1.out)
  have HB3 := Lib.hid (HB1.out.trans (hb3.mono HS1.out))
  have HF := Lib.hid (put3 KR3.out (.int .i64 x1) (.int .i64 x2) (.int .i64 x3))
  obtain ⟨f1, f2, f3, f4, f5, f6, f7⟩ := HF.out
  have HF7 := Lib.hid f7
  clear hb3 f7
  go_wp2
  obtain ⟨W, hW⟩ : ∃ W, W = ((w3.setCell ⟨w.heap.size + 1, 0, none⟩ (.int .i64 x1)).setCell ⟨w.heap.size + 1, 1, none⟩ (.int .i64 x2)).setCell ⟨w.heap.size + 1, 2, none⟩ (.int .i64 x3) := ⟨_, rfl⟩
  have f7 := HF7.out
  have hB : Below w.heap.size w W := by
    rw [hW]
    exact below_set (below_set (below_set HB3.out (by omega) _ _) (by omega) _ _) (by omega) _ _
  rw [← hW] at f7 ⊢
  have z0 := f7.cell 0 rfl
  have z1 := f7.cell 1 rfl
  have z2 := f7.cell 2 rfl
  clear f1 f2 f3 f4 f5 f6 hW
  refine bodyPost_ret (v := .tuple #[.agg #[.int .i64 x1, .int .i64 x2, .int .i64 x3], .int .i64 x4, .bool x5, .int .i64 x0]) (by simp [results, Tryd.f16, go_sem, z0, z1, z2]) rfl ⟨rfl, hB⟩
end Go.Proofs.YtgbhbbapkpgmiaaDoor.Ints
