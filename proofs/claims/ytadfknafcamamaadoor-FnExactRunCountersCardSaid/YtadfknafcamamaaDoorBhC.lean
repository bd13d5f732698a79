/- One step of counters at work: behindStep, StepCounters. -/
import Derived.Test.YtadfknafcamamaaDoorCRn
import Derived.Test.YtadfknafcamamaaDoorStS
import Derived.Deep.RegionHeld3
namespace Go.Proofs.YtadfknafcamamaaDoor.Ints
open Go.RowKit
set_option linter.unusedVariables false
set_option linter.unusedSimpArgs false
theorem nlC (n : String) (g : Nat) (w : World) : (nilAhead 296 73 (.pointer (some ⟨g, 0, none⟩)) "loop.example/g01079/impl.valid").run Tryd.prog w = .ok (some false) w := by kernel_rfl
theorem nlCs (g : Nat) (w : World) : (nilAhead 296 73 (.pointer (some ⟨g, 0, none⟩)) "loop.example/g01079/impl.step").run Tryd.prog w = .ok (some false) w := by kernel_rfl
theorem nlCc (g : Nat) (w : World) : (nilAhead 296 73 (.pointer (some ⟨g, 0, none⟩)) "loop.example/g01079/impl.config").run Tryd.prog w = .ok (some false) w := by kernel_rfl
theorem nlCh (g : Nat) (w : World) : (nilAhead 296 73 (.pointer (some ⟨g, 0, none⟩)) "loop.example/g01079/impl.halts").run Tryd.prog w = .ok (some false) w := by kernel_rfl
theorem mtCv (g : Nat) (w : World) : (Go.method 296 73 (.pointer (some ⟨g, 0, none⟩)) "loop.example/g01079/impl.valid").run Tryd.prog w = .ok (128, .pointer (some ⟨g, 0, none⟩)) w := by kernel_rfl
theorem mtCs (g : Nat) (w : World) : (Go.method 296 73 (.pointer (some ⟨g, 0, none⟩)) "loop.example/g01079/impl.step").run Tryd.prog w = .ok (127, .pointer (some ⟨g, 0, none⟩)) w := by kernel_rfl
theorem mtCc (g : Nat) (w : World) : (Go.method 296 73 (.pointer (some ⟨g, 0, none⟩)) "loop.example/g01079/impl.config").run Tryd.prog w = .ok (125, .pointer (some ⟨g, 0, none⟩)) w := by kernel_rfl
theorem mtCh (g : Nat) (w : World) : (Go.method 296 73 (.pointer (some ⟨g, 0, none⟩)) "loop.example/g01079/impl.halts").run Tryd.prog w = .ok (126, .pointer (some ⟨g, 0, none⟩)) w := by kernel_rfl
theorem bhBad {w0 w : World} {g gb c0 : Nat} {pa : Option Addr} {pc : Nat} {rs : List Ins} {at' a b : Int} {most : Int} (h : StR w0 w g 108 gb c0 pa pc rs at' [a, b] false most) :
    Calls Tryd.prog 42 #[.iface 73 (.pointer (some ⟨g, 0, none⟩))] w fun e w' => e = .returned (.tuple #[.agg #[.int .i64 0, .int .i64 0, .int .i64 0], .int .i64 1]) ∧ Below w.heap.size w w' := by
  have HB : Hid (∀ o1 o2 : Obj, Below w.heap.size w ((w.alloc o1).alloc o2)) := Lib.hid (fun o1 o2 => ((Below.refl _ _).alloc (Nat.le_refl _) _).alloc (by simp) _)
  have H := Lib.hid h
  have n1 := nlC "" g
  have m1 := mtCv g
  clear h
  go_enter Tryd.func42, Tryd.ntmps42
  go_wp2_with fail
  refine (strValid (H.out.below (HB.out _ _))).mono ?_
  rintro e w1 ⟨rfl, rfl⟩
  go_wp2
  refine bodyPost_ret (v := .tuple #[.agg #[.int .i64 0, .int .i64 0, .int .i64 0], .int .i64 1]) (by simp [results, Tryd.f42, go_sem]) rfl ⟨rfl, HB.out _ _⟩
set_option maxHeartbeats 2000000 in
theorem bhFail {w0 w : World} {g gb c0 : Nat} {pa : Option Addr} {pc : Nat} {rs : List Ins} {at' a b : Int} {most : Int} (c : Int) (h : StR w0 w g 108 gb c0 pa pc rs at' [a, b] true most) (he : EtV w)
    (hs : ∀ W, Below w.heap.size w W → Calls Tryd.prog 127 #[.pointer (some ⟨g, 0, none⟩)] W fun e w' => e = .returned (.iface 123 (.int .i64 c)) ∧ Below W.heap.size W w') :
    Calls Tryd.prog 42 #[.iface 73 (.pointer (some ⟨g, 0, none⟩))] w fun e w' => e = .returned (.tuple #[.agg #[.int .i64 0, .int .i64 0, .int .i64 0], .int .i64 c]) ∧ Below w.heap.size w w' := by
  have HB : Hid (∀ o1 o2 : Obj, Below w.heap.size w ((w.alloc o1).alloc o2)) := Lib.hid (fun o1 o2 => ((Below.refl _ _).alloc (Nat.le_refl _) _).alloc (by simp) _)
  have H := Lib.hid h
  have HS := Lib.hid hs
  have HE := Lib.hid he
  have n1 := nlC "" g
  have m1 := mtCv g
  have n2 := nlCs g
  have m2 := mtCs g
  clear h hs he
  go_enter Tryd.func42, Tryd.ntmps42
  go_wp2_with fail
  refine (strValid (H.out.below (HB.out _ _))).mono ?_
  rintro e w1 ⟨rfl, rfl⟩
  go_wp2_with fail
  obtain ⟨W1, hW1⟩ : ∃ W, W = (w.alloc (Obj.cells #[.int .i64 0, .int .i64 0, .int .i64 0] 26)).alloc (Obj.cells #[.int .i64 0, .int .i64 0, .int .i64 0] 26) := ⟨_, rfl⟩
  have hB1 : Below w.heap.size w W1 := by rw [hW1]; exact HB.out _ _
  have kr : Cels W1 w.heap.size 26 [.int .i64 0, .int .i64 0, .int .i64 0] := by rw [hW1]; exact (Cels.new _ _ _).alloc _
  have kn : Cels W1 (w.heap.size + 1) 26 [.int .i64 0, .int .i64 0, .int .i64 0] := by
    rw [hW1]
    have := Cels.new (w.alloc (Obj.cells #[.int .i64 0, .int .i64 0, .int .i64 0] 26)) 26 [.int .i64 0, .int .i64 0, .int .i64 0]
    rwa [World.size_alloc] at this
  rw [← hW1]
  clear hW1
  refine (HS.out W1 hB1).mono ?_
  rintro e w2 ⟨rfl, hb2⟩
  have KR := Lib.hid (kr.below hb2 kr.lt)
  have KN := Lib.hid (kn.below hb2 kn.lt)
  have HB2 := Lib.hid (hB1.trans (hb2.mono hB1.size))
  have HE2 : Hid (∀ W, Below w.heap.size w2 W → EtV W) := Lib.hid (fun W hW => HE.out.below (HB2.out.trans hW) (Nat.le_refl _))
  have HLT2 : Hid (w.heap.size ≤ w2.heap.size) := Lib.hid (by have := KN.out.lt; omega)
  clear kr kn hB1 hb2
  have HS2 : Hid (∀ W, Cels W (w.heap.size + 1) 26 [.int .i64 0, .int .i64 0, .int .i64 0] → W.cell? ⟨w.heap.size + 1, 0, none⟩ = some (.int .i64 0) ∧ W.cell? ⟨w.heap.size + 1, 1, none⟩ = some (.int .i64 0) ∧ W.cell? ⟨w.heap.size + 1, 2, none⟩ = some (.int .i64 0)) := Lib.hid (fun W k => ⟨k.cell 0 rfl, k.cell 1 rfl, k.cell 2 rfl⟩)
  have HNE : Hid (w.heap.size + 1 ≠ w.heap.size) := Lib.hid (by omega)
  go_wp2
  have HD : Hid (Below w2.heap.size w2 w2.drew) := Lib.hid (Below.refl _ _).drew
  go_region_held3 (fun W => W.cell? ⟨w.heap.size + 1, 0, none⟩ = some (.int .i64 0) ∧ W.cell? ⟨w.heap.size + 1, 1, none⟩ = some (.int .i64 0) ∧ W.cell? ⟨w.heap.size + 1, 2, none⟩ = some (.int .i64 0))
    (first | exact HS2.out _ (KN.out.below HD.out KN.out.lt) | exact HS2.out _ ((((KN.out.below HD.out KN.out.lt).other (p := ⟨w.heap.size, 0, none⟩) HNE.out _).other (p := ⟨w.heap.size, 1, none⟩) HNE.out _).other (p := ⟨w.heap.size, 2, none⟩) HNE.out _))
    (first | (go_at_call 65; with_reducible refine (implCodeOf c _ (HE2.out _ (HD.out.mono HLT2.out))).mono ?_; rintro e3 w3 ⟨rfl, bq⟩; replace HD := Lib.hid (HD.out.trans (bq.mono HD.out.size)); have HF := Lib.hid (put3 (KR.out.below HD.out KR.out.lt) (.int .i64 0) (.int .i64 0) (.int .i64 0)); obtain ⟨f1, f2, f3, f4, f5, f6, f7⟩ := HF.out; have HF7 := Lib.hid f7; clear bq f7))
  all_goals
    go_wp2
    obtain ⟨W, hW⟩ : ∃ W, W = ((w3.setCell ⟨w.heap.size, 0, none⟩ (.int .i64 0)).setCell ⟨w.heap.size, 1, none⟩ (.int .i64 0)).setCell ⟨w.heap.size, 2, none⟩ (.int .i64 0) := ⟨_, rfl⟩
    have f7 := HF7.out
    have hB : Below w.heap.size w W := by
      rw [hW]
      exact below_set (below_set (below_set (HB2.out.trans (HD.out.mono HLT2.out)) (Nat.le_refl _) _ _) (Nat.le_refl _) _ _) (Nat.le_refl _) _ _
    rw [← hW] at f7 ⊢
    have z0 := f7.cell 0 rfl
    have z1 := f7.cell 1 rfl
    have z2 := f7.cell 2 rfl
    clear f1 f2 f3 f4 f5 f6 hW
    refine bodyPost_ret (v := .tuple #[.agg #[.int .i64 0, .int .i64 0, .int .i64 0], .int .i64 c]) (by simp [results, Tryd.f42, go_sem, z0, z1, z2]) rfl ⟨rfl, hB⟩
theorem Only.cels {S : Nat → Prop} {A B : World} (h : Only S A B) {g : Nat} {t : TypeId} {cs : List Value} (k : Cels A g t cs) (hn : ¬ S g) : Cels B g t cs := h.kept k hn
set_option maxHeartbeats 2000000 in
theorem bhNext {w0 w : World} {g gb c0 : Nat} {pa : Option Addr} {pc : Nat} {rs : List Ins} {at' a b : Int} {most : Int} (at2 a2 b2 : Int) (h : StR w0 w g 108 gb c0 pa pc rs at' [a, b] true most)
    (hs : ∀ W, Below w.heap.size w W → Calls Tryd.prog 127 #[.pointer (some ⟨g, 0, none⟩)] W fun e w' => e = .returned .nilIface ∧ StR w0 w' g 108 gb c0 pa pc rs at2 [a2, b2] true most ∧ Only (fun q => q = g ∨ q = gb) W w') :
    Calls Tryd.prog 42 #[.iface 73 (.pointer (some ⟨g, 0, none⟩))] w fun e w' => e = .returned (.tuple #[.agg #[.int .i64 at2, .int .i64 a2, .int .i64 b2], .int .i64 0]) ∧ Below w0.heap.size w w' := by
  have HB : Hid (∀ o1 o2 : Obj, Below w.heap.size w ((w.alloc o1).alloc o2)) := Lib.hid (fun o1 o2 => ((Below.refl _ _).alloc (Nat.le_refl _) _).alloc (by simp) _)
  have H := Lib.hid h
  have HS := Lib.hid hs
  have HG : Hid (g < w.heap.size ∧ gb < w.heap.size ∧ w0.heap.size ≤ g ∧ w0.heap.size ≤ gb ∧ w0.heap.size ≤ w.heap.size) := Lib.hid ⟨h.head.lt, h.gb.2, h.base, h.gb.1, h.old.size⟩
  have n1 := nlC "" g
  have m1 := mtCv g
  have n2 := nlCs g
  have m2 := mtCs g
  have n3 := nlCc g
  have m3 := mtCc g
  clear h hs
  go_enter Tryd.func42, Tryd.ntmps42
  go_wp2_with fail
  refine (strValid (H.out.below (HB.out _ _))).mono ?_
  rintro e w1 ⟨rfl, rfl⟩
  go_wp2_with fail
  obtain ⟨W1, hW1⟩ : ∃ W, W = (w.alloc (Obj.cells #[.int .i64 0, .int .i64 0, .int .i64 0] 26)).alloc (Obj.cells #[.int .i64 0, .int .i64 0, .int .i64 0] 26) := ⟨_, rfl⟩
  have hB1 : Below w.heap.size w W1 := by rw [hW1]; exact HB.out _ _
  have kr : Cels W1 w.heap.size 26 [.int .i64 0, .int .i64 0, .int .i64 0] := by rw [hW1]; exact (Cels.new _ _ _).alloc _
  rw [← hW1]
  clear hW1
  refine (HS.out W1 hB1).mono ?_
  rintro e w2 ⟨rfl, h2, ho2⟩
  have KR := Lib.hid (ho2.cels kr (by have := HG.out; omega))
  have H2 := Lib.hid h2
  have HB2 := Lib.hid ((hB1.mono HG.out.2.2.2.2).trans (ho2.below (by rintro k (rfl | rfl) <;> have := HG.out <;> omega) (by have := hB1.size; have := HG.out; omega)))
  clear kr hB1 h2 ho2
  go_wp2_with fail
  refine (crnConfig H2.out).mono ?_
  rintro e w3 ⟨rfl, hb3⟩
  have KR3 := Lib.hid (KR.out.below hb3 KR.out.lt)
  have HB3 := Lib.hid (HB2.out.trans (hb3.mono (by have := HB2.out.size; have := HG.out; omega)))
  have HF := Lib.hid (put3 KR3.out (.int .i64 at2) (.int .i64 a2) (.int .i64 b2))
  obtain ⟨f1, f2, f3, f4, f5, f6, f7⟩ := HF.out
  have HF7 := Lib.hid f7
  clear hb3 f7
  go_wp2
  obtain ⟨W, hW⟩ : ∃ W, W = ((w3.setCell ⟨w.heap.size, 0, none⟩ (.int .i64 at2)).setCell ⟨w.heap.size, 1, none⟩ (.int .i64 a2)).setCell ⟨w.heap.size, 2, none⟩ (.int .i64 b2) := ⟨_, rfl⟩
  have f7 := HF7.out
  have hB : Below w0.heap.size w W := by
    rw [hW]
    exact below_set (below_set (below_set HB3.out HG.out.2.2.2.2 _ _) HG.out.2.2.2.2 _ _) HG.out.2.2.2.2 _ _
  rw [← hW] at f7 ⊢
  have z0 := f7.cell 0 rfl
  have z1 := f7.cell 1 rfl
  have z2 := f7.cell 2 rfl
  clear f1 f2 f3 f4 f5 f6 hW
  refine bodyPost_ret (v := .tuple #[.agg #[.int .i64 at2, .int .i64 a2, .int .i64 b2], .int .i64 0]) (by simp [results, Tryd.f42, go_sem, z0, z1, z2]) rfl ⟨rfl, hB⟩
end Go.Proofs.YtadfknafcamamaaDoor.Ints
