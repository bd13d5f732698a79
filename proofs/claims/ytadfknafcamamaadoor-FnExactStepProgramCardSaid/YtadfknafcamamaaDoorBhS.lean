/- One step of a store at work: behindStep at Store. -/
import Derived.Test.YtadfknafcamamaaDoorNsR
import Derived.Test.YtadfknafcamamaaDoorStS
import Derived.Deep.RegionHeld3
namespace Go.Proofs.YtadfknafcamamaaDoor.Ints
open Go.RowKit
set_option linter.unusedVariables false
set_option linter.unusedSimpArgs false
theorem nlS (n : String) (g : Nat) (w : World) : (nilAhead 296 90 (.pointer (some ⟨g, 0, none⟩)) "loop.example/g01079/impl.valid").run Tryd.prog w = .ok (some false) w := by kernel_rfl
theorem nlSs (g : Nat) (w : World) : (nilAhead 296 90 (.pointer (some ⟨g, 0, none⟩)) "loop.example/g01079/impl.step").run Tryd.prog w = .ok (some false) w := by kernel_rfl
theorem nlSc (g : Nat) (w : World) : (nilAhead 296 90 (.pointer (some ⟨g, 0, none⟩)) "loop.example/g01079/impl.config").run Tryd.prog w = .ok (some false) w := by kernel_rfl
theorem nlSh (g : Nat) (w : World) : (nilAhead 296 90 (.pointer (some ⟨g, 0, none⟩)) "loop.example/g01079/impl.halts").run Tryd.prog w = .ok (some false) w := by kernel_rfl
theorem mtSv (g : Nat) (w : World) : (Go.method 296 90 (.pointer (some ⟨g, 0, none⟩)) "loop.example/g01079/impl.valid").run Tryd.prog w = .ok (128, .pointer (some ⟨g, 0, none⟩)) w := by kernel_rfl
theorem mtSs (g : Nat) (w : World) : (Go.method 296 90 (.pointer (some ⟨g, 0, none⟩)) "loop.example/g01079/impl.step").run Tryd.prog w = .ok (127, .pointer (some ⟨g, 0, none⟩)) w := by kernel_rfl
theorem mtSc (g : Nat) (w : World) : (Go.method 296 90 (.pointer (some ⟨g, 0, none⟩)) "loop.example/g01079/impl.config").run Tryd.prog w = .ok (129, .pointer (some ⟨g, 0, none⟩)) w := by kernel_rfl
theorem mtSh (g : Nat) (w : World) : (Go.method 296 90 (.pointer (some ⟨g, 0, none⟩)) "loop.example/g01079/impl.halts").run Tryd.prog w = .ok (126, .pointer (some ⟨g, 0, none⟩)) w := by kernel_rfl
theorem strValidC {w : World} {g : Nat} {t : TypeId} {at' : Int} {u p : Value} {ok : Bool} {most : Int} (h : Cels w g t [.int .i64 at', u, p, .bool ok, .int .i64 most]) :
    Calls Tryd.prog 128 #[.pointer (some ⟨g, 0, none⟩)] w fun e w' => e = .returned (.bool ok) ∧ w = w' := by
  have z3 := h.cell 3 rfl
  clear h
  go_enter Tryd.func128, Tryd.ntmps128
  go_wp2
  go_ret
  exact ⟨rfl, rfl⟩
theorem bhBadS {w : World} {g : Nat} {at' : Int} {u p : Value} {most : Int} (h : Cels w g 106 [.int .i64 at', u, p, .bool false, .int .i64 most]) :
    Calls Tryd.prog 55 #[.iface 90 (.pointer (some ⟨g, 0, none⟩))] w fun e w' => e = .returned (.tuple #[.agg #[.int .i64 0, .slice none 0 0], .int .i64 1]) ∧ Below w.heap.size w w' := by
  have HB : Hid (∀ o1 o2 : Obj, Below w.heap.size w ((w.alloc o1).alloc o2)) := Lib.hid (fun o1 o2 => ((Below.refl _ _).alloc (Nat.le_refl _) _).alloc (by simp) _)
  have H := Lib.hid h
  have n1 := nlS "" g
  have m1 := mtSv g
  clear h
  go_enter Tryd.func55, Tryd.ntmps55
  go_wp2_with fail
  refine (strValidC (H.out.below (HB.out _ _) H.out.lt)).mono ?_
  rintro e w1 ⟨rfl, rfl⟩
  go_wp2
  refine bodyPost_ret (v := .tuple #[.agg #[.int .i64 0, .slice none 0 0], .int .i64 1]) (by simp [results, Tryd.f55, go_sem]) rfl ⟨rfl, HB.out _ _⟩
set_option maxHeartbeats 2000000 in
theorem bhFailS {w0 w : World} {g gb c0 : Nat} {pa : Option Addr} {pc : Nat} {rs : List Ins} {at' : Int} {cs : List Int} {most : Int} (c : Int) (h : StR w0 w g 106 gb c0 pa pc rs at' cs true most) (he : EtV w)
    (hs : ∀ W, Below w.heap.size w W → Calls Tryd.prog 127 #[.pointer (some ⟨g, 0, none⟩)] W fun e w' => e = .returned (.iface 123 (.int .i64 c)) ∧ Below W.heap.size W w') :
    Calls Tryd.prog 55 #[.iface 90 (.pointer (some ⟨g, 0, none⟩))] w fun e w' => e = .returned (.tuple #[.agg #[.int .i64 0, .slice none 0 0], .int .i64 c]) ∧ Below w.heap.size w w' := by
  have HB : Hid (∀ o1 o2 : Obj, Below w.heap.size w ((w.alloc o1).alloc o2)) := Lib.hid (fun o1 o2 => ((Below.refl _ _).alloc (Nat.le_refl _) _).alloc (by simp) _)
  have H := Lib.hid h
  have HS := Lib.hid hs
  have HE := Lib.hid he
  have n1 := nlS "" g
  have m1 := mtSv g
  have n2 := nlSs g
  have m2 := mtSs g
  clear h hs he
  go_enter Tryd.func55, Tryd.ntmps55
  go_wp2_with fail
  refine (strValid (H.out.below (HB.out _ _))).mono ?_
  rintro e w1 ⟨rfl, rfl⟩
  go_wp2_with fail
  obtain ⟨W1, hW1⟩ : ∃ W, W = (w.alloc (Obj.cells #[.int .i64 0, .slice none 0 0] 48)).alloc (Obj.cells #[.int .i64 0, .slice none 0 0] 48) := ⟨_, rfl⟩
  have hB1 : Below w.heap.size w W1 := by rw [hW1]; exact HB.out _ _
  have kr : Cels W1 w.heap.size 48 [.int .i64 0, .slice none 0 0] := by rw [hW1]; exact (Cels.new _ _ _).alloc _
  have kn : Cels W1 (w.heap.size + 1) 48 [.int .i64 0, .slice none 0 0] := by
    rw [hW1]
    have := Cels.new (w.alloc (Obj.cells #[.int .i64 0, .slice none 0 0] 48)) 48 [.int .i64 0, .slice none 0 0]
    rwa [World.size_alloc] at this
  rw [← hW1]
  clear hW1
  refine (HS.out W1 hB1).mono ?_
  rintro e w2 ⟨rfl, hb2⟩
  have KR := Lib.hid (kr.below hb2 kr.lt)
  have KN := Lib.hid (kn.below hb2 kn.lt)
  have HB2 := Lib.hid (hB1.trans (hb2.mono hB1.size))
  have HE2 : Hid (∀ W, Below w.heap.size w2 W → EtV W) := Lib.hid (fun W hW => HE.out.below (HB2.out.trans hW) (Nat.le_refl _))
  have HLT2 : Hid (w.heap.size ≤ w2.heap.size) := Lib.hid (by have := KN.out.lt; omega)
  clear kr kn hB1 hb2
  have HS2 : Hid (∀ W, Cels W (w.heap.size + 1) 48 [.int .i64 0, .slice none 0 0] → W.cell? ⟨w.heap.size + 1, 0, none⟩ = some (.int .i64 0) ∧ W.cell? ⟨w.heap.size + 1, 1, none⟩ = some (.slice none 0 0)) := Lib.hid (fun W k => ⟨k.cell 0 rfl, k.cell 1 rfl⟩)
  have HNE : Hid (w.heap.size + 1 ≠ w.heap.size) := Lib.hid (by omega)
  go_wp2
  have HD : Hid (Below w2.heap.size w2 w2.drew) := Lib.hid (Below.refl _ _).drew
  go_region_held3 (fun W => W.cell? ⟨w.heap.size + 1, 0, none⟩ = some (.int .i64 0) ∧ W.cell? ⟨w.heap.size + 1, 1, none⟩ = some (.slice none 0 0))
    (first | exact HS2.out _ (KN.out.below HD.out KN.out.lt) | exact HS2.out _ (((KN.out.below HD.out KN.out.lt).other (p := ⟨w.heap.size, 0, none⟩) HNE.out _).other (p := ⟨w.heap.size, 1, none⟩) HNE.out _))
    (first | (go_at_call 65; with_reducible refine (implCodeOf c _ (HE2.out _ (HD.out.mono HLT2.out))).mono ?_; rintro e3 w3 ⟨rfl, bq⟩; replace HD := Lib.hid (HD.out.trans (bq.mono HD.out.size)); have HF := Lib.hid (put2s (KR.out.below HD.out KR.out.lt) (.int .i64 0) (.slice none 0 0)); obtain ⟨f1, f2, f3, f4, f7⟩ := HF.out; have HF7 := Lib.hid f7; clear bq f7))
  all_goals
    go_wp2
    obtain ⟨W, hW⟩ : ∃ W, W = (w3.setCell ⟨w.heap.size, 0, none⟩ (.int .i64 0)).setCell ⟨w.heap.size, 1, none⟩ (.slice none 0 0) := ⟨_, rfl⟩
    have f7 := HF7.out
    have hB : Below w.heap.size w W := by
      rw [hW]
      exact below_set (below_set (HB2.out.trans (HD.out.mono HLT2.out)) (Nat.le_refl _) _ _) (Nat.le_refl _) _ _
    rw [← hW] at f7 ⊢
    have z0 := f7.cell 0 rfl
    have z1 := f7.cell 1 rfl
    clear f1 f2 f3 f4 hW
    refine bodyPost_ret (v := .tuple #[.agg #[.int .i64 0, .slice none 0 0], .int .i64 c]) (by simp [results, Tryd.f55, go_sem, z0, z1]) rfl ⟨rfl, hB⟩
theorem Only.celsS {S : Nat → Prop} {A B : World} (h : Only S A B) {g : Nat} {t : TypeId} {cs : List Value} (k : Cels A g t cs) (hn : ¬ S g) : Cels B g t cs := h.kept k hn
set_option maxHeartbeats 2000000 in
theorem bhNextS {w0 w : World} {g gb c0 : Nat} {pa : Option Addr} {pc : Nat} {rs : List Ins} {at' : Int} {cs : List Int} {most : Int} (at2 : Int) (cs2 : List Int) (h : StR w0 w g 106 gb c0 pa pc rs at' cs true most)
    (hs : ∀ W, Below w.heap.size w W → Calls Tryd.prog 127 #[.pointer (some ⟨g, 0, none⟩)] W fun e w' => e = .returned .nilIface ∧ StR w0 w' g 106 gb c0 pa pc rs at2 cs2 true most ∧ Only (fun q => q = g ∨ q = gb) W w') :
    Calls Tryd.prog 55 #[.iface 90 (.pointer (some ⟨g, 0, none⟩))] w fun e w' => ∃ u, e = .returned (.tuple #[.agg #[.int .i64 at2, u], .int .i64 0]) ∧ Ow w' w0.heap.size w'.heap.size u cs2 ∧ Below w0.heap.size w w' := by
  have HB : Hid (∀ o1 o2 : Obj, Below w.heap.size w ((w.alloc o1).alloc o2)) := Lib.hid (fun o1 o2 => ((Below.refl _ _).alloc (Nat.le_refl _) _).alloc (by simp) _)
  have H := Lib.hid h
  have HS := Lib.hid hs
  have HG : Hid (g < w.heap.size ∧ gb < w.heap.size ∧ w0.heap.size ≤ g ∧ w0.heap.size ≤ gb ∧ w0.heap.size ≤ w.heap.size) := Lib.hid ⟨h.head.lt, h.gb.2, h.base, h.gb.1, h.old.size⟩
  have n1 := nlS "" g
  have m1 := mtSv g
  have n2 := nlSs g
  have m2 := mtSs g
  have n3 := nlSc g
  have m3 := mtSc g
  clear h hs
  go_enter Tryd.func55, Tryd.ntmps55
  go_wp2_with fail
  refine (strValid (H.out.below (HB.out _ _))).mono ?_
  rintro e w1 ⟨rfl, rfl⟩
  go_wp2_with fail
  obtain ⟨W1, hW1⟩ : ∃ W, W = (w.alloc (Obj.cells #[.int .i64 0, .slice none 0 0] 48)).alloc (Obj.cells #[.int .i64 0, .slice none 0 0] 48) := ⟨_, rfl⟩
  have hB1 : Below w.heap.size w W1 := by rw [hW1]; exact HB.out _ _
  have kr : Cels W1 w.heap.size 48 [.int .i64 0, .slice none 0 0] := by rw [hW1]; exact (Cels.new _ _ _).alloc _
  rw [← hW1]
  clear hW1
  refine (HS.out W1 hB1).mono ?_
  rintro e w2 ⟨rfl, h2, ho2⟩
  have KR := Lib.hid (ho2.celsS kr (by have := HG.out; omega))
  have H2 := Lib.hid h2
  have HB2 := Lib.hid ((hB1.mono HG.out.2.2.2.2).trans (ho2.below (by rintro k (rfl | rfl) <;> have := HG.out <;> omega) (by have := hB1.size; have := HG.out; omega)))
  clear kr hB1 h2 ho2
  go_wp2_with fail
  refine (strConfig H2.out).mono ?_
  rintro e w3 ⟨u, rfl, ou, hb3⟩
  have HS2 : Hid (w.heap.size < w2.heap.size) := Lib.hid KR.out.lt
  have HS20 : Hid (w0.heap.size ≤ w2.heap.size) := Lib.hid (by have := HS2.out; have := HG.out; omega)
  have HO := Lib.hid ou
  obtain ⟨ga, gc, hu⟩ := ou.shape
  subst hu
  have KR3 := Lib.hid (KR.out.below hb3 KR.out.lt)
  have HB3 := Lib.hid (HB2.out.trans (hb3.mono HS20.out))
  have HF := Lib.hid (put2s KR3.out (.int .i64 at2) (.slice ga cs2.length gc))
  obtain ⟨f1, f2, f3, f4, f7⟩ := HF.out
  have HF7 := Lib.hid f7
  clear ou hb3 f7
  go_wp2
  obtain ⟨W, hW⟩ : ∃ W, W = (w3.setCell ⟨w.heap.size, 0, none⟩ (.int .i64 at2)).setCell ⟨w.heap.size, 1, none⟩ (.slice ga cs2.length gc) := ⟨_, rfl⟩
  have f7 := HF7.out
  have hB : Below w0.heap.size w W := by
    rw [hW]
    exact below_set (below_set HB3.out HG.out.2.2.2.2 _ _) HG.out.2.2.2.2 _ _
  have hO : Ow W w0.heap.size W.heap.size (.slice ga cs2.length gc) cs2 := by
    have h1 := (HO.out.apartCell HS2.out 0 (.int .i64 at2)).apartCell HS2.out 1 (.slice ga cs2.length gc)
    rw [← hW] at h1
    exact h1.mono HS20.out (by rw [hW]; simp) (Nat.le_refl _)
  rw [← hW] at f7 ⊢
  have z0 := f7.cell 0 rfl
  have z1 := f7.cell 1 rfl
  clear f1 f2 f3 f4 hW
  refine bodyPost_ret (v := .tuple #[.agg #[.int .i64 at2, .slice ga cs2.length gc], .int .i64 0]) (by simp [results, Tryd.f55, go_sem, z0, z1]) rfl ⟨_, rfl, hO, hB⟩
end Go.Proofs.YtadfknafcamamaaDoor.Ints
