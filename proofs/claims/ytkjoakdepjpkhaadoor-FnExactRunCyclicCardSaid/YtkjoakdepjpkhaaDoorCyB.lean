/- A cyclic tag system: its configuration; one step (behindStep); StepCyclic of the program. -/
import Derived.Test.YtkjoakdepjpkhaaDoorCyN
import Derived.Deep.RegionHeld3
namespace Go.Proofs.YtkjoakdepjpkhaaDoor.Ints
open Go.RowKit
set_option linter.unusedVariables false
set_option linter.unusedSimpArgs false
theorem nlY (g : Nat) (w : World) : (nilAhead 379 122 (.pointer (some ⟨g, 0, none⟩)) "loop.example/g01079/impl.valid").run Tryd.prog w = .ok (some false) w := by kernel_rfl
theorem nlYs (g : Nat) (w : World) : (nilAhead 379 122 (.pointer (some ⟨g, 0, none⟩)) "loop.example/g01079/impl.step").run Tryd.prog w = .ok (some false) w := by kernel_rfl
theorem nlYc (g : Nat) (w : World) : (nilAhead 379 122 (.pointer (some ⟨g, 0, none⟩)) "loop.example/g01079/impl.config").run Tryd.prog w = .ok (some false) w := by kernel_rfl
theorem nlYh (g : Nat) (w : World) : (nilAhead 379 122 (.pointer (some ⟨g, 0, none⟩)) "loop.example/g01079/impl.halts").run Tryd.prog w = .ok (some false) w := by kernel_rfl
theorem mtY (g : Nat) (w : World) : (Go.method 379 122 (.pointer (some ⟨g, 0, none⟩)) "loop.example/g01079/impl.valid").run Tryd.prog w = .ok (195, .pointer (some ⟨g, 0, none⟩)) w := by kernel_rfl
theorem mtYs (g : Nat) (w : World) : (Go.method 379 122 (.pointer (some ⟨g, 0, none⟩)) "loop.example/g01079/impl.step").run Tryd.prog w = .ok (194, .pointer (some ⟨g, 0, none⟩)) w := by kernel_rfl
theorem mtYc (g : Nat) (w : World) : (Go.method 379 122 (.pointer (some ⟨g, 0, none⟩)) "loop.example/g01079/impl.config").run Tryd.prog w = .ok (192, .pointer (some ⟨g, 0, none⟩)) w := by kernel_rfl
theorem mtYh (g : Nat) (w : World) : (Go.method 379 122 (.pointer (some ⟨g, 0, none⟩)) "loop.example/g01079/impl.halts").run Tryd.prog w = .ok (193, .pointer (some ⟨g, 0, none⟩)) w := by kernel_rfl
theorem put2y {w : World} {g : Nat} {t : TypeId} {a0 a1 : Value} (h : Cels w g t [a0, a1]) (b0 b1 : Value) :
    w.cell? ⟨g, 0, none⟩ = some a0 ∧ w.frozen? ⟨g, 0, none⟩ = false ∧ (w.setCell ⟨g, 0, none⟩ b0).cell? ⟨g, 1, none⟩ = some a1 ∧ (w.setCell ⟨g, 0, none⟩ b0).frozen? ⟨g, 1, none⟩ = false ∧
    Cels ((w.setCell ⟨g, 0, none⟩ b0).setCell ⟨g, 1, none⟩ b1) g t [b0, b1] := by
  have r2 := h.set 0 b0
  have r3 := r2.set 1 b1
  exact ⟨h.cell 0 rfl, h.frozen 0, r2.cell 1 rfl, r2.frozen 1, r3⟩
set_option maxHeartbeats 2000000 in
theorem cyConfig {w0 w : World} {g q : Nat} {vz : Value} {zss : List (List Int)} {zs : List Int} {f l : Nat} {ok : Bool} {at' : Int} (h : CyR w0 w g q vz zss zs f l ok at') :
    Calls Tryd.prog 192 #[.pointer (some ⟨g, 0, none⟩)] w fun e w' => ∃ u, e = .returned (.agg #[.int .i64 at', u]) ∧ Ow w' w.heap.size w'.heap.size u (rg zs f l) ∧ Below w.heap.size w w' := by
  obtain ⟨W0, hW0⟩ : ∃ W, W = w.alloc (Obj.cells #[.int .i64 0, .slice none 0 0] 41) := ⟨_, rfl⟩
  have hB0 : Below w.heap.size w W0 := by rw [hW0]; exact (Below.refl _ _).alloc (Nat.le_refl _) _
  have k1 : Cels W0 w.heap.size 41 [.int .i64 0, .slice none 0 0] := by rw [hW0]; exact Cels.new _ _ _
  have H := Lib.hid (h.below hB0)
  have HB0 := Lib.hid hB0
  have K1 := Lib.hid k1
  have HL1 := Lib.hid k1.lt
  have HNE : Hid (g ≠ w.heap.size) := Lib.hid (by have := h.head.lt; omega)
  have HW0 := Lib.hid hW0.symm
  obtain ⟨X, hX⟩ : ∃ X, X = rg zs f l := ⟨_, rfl⟩
  rw [← hX]
  have HX := Lib.hid hX
  have HS : Hid (∀ W' a b c d e, Cels W' g 172 [a, b, c, d, e, .int .i64 at'] → W'.cell? ⟨g, 5, none⟩ = some (.int .i64 at')) := Lib.hid (fun W' a b c d e h => h.cell 5 rfl)
  clear hW0 k1 hB0 h hX
  go_enter Tryd.func192, Tryd.ntmps192
  go_wp2
  rw [HW0.out]
  have HD : Hid (Below W0.heap.size W0 W0.drew) := Lib.hid (Below.refl _ _).drew
  go_region_held3 (fun W' => W'.cell? ⟨g, 5, none⟩ = some (.int .i64 at')) (first | exact HS.out _ _ _ _ _ _ (H.out.head.below HD.out H.out.head.lt) | exact HS.out _ _ _ _ _ _ (((H.out.head.below HD.out H.out.head.lt).other (p := ⟨w.heap.size, 0, none⟩) HNE.out _).other (p := ⟨w.heap.size, 1, none⟩) HNE.out _))
    (first | (go_at_call 186; with_reducible refine (queLetters1 g q f l _ _ zs _ (H.out.head.below HD.out H.out.head.lt) ⟨rfl, rfl, rfl⟩ (H.out.ring.below HD.out H.out.ring.lt) H.out.zl H.out.fit H.out.fl H.out.ll).mono ?_; rintro e3 w3 ⟨u, rfl, ou, bq⟩; rw [← HX.out] at ou; have HO := Lib.hid (ou.mono (B' := W0.heap.size) HD.out.size (Nat.le_refl _) (Nat.le_refl _)); obtain ⟨ga, gc, hu⟩ := ou.shape; subst hu; replace HD := Lib.hid (HD.out.trans (bq.mono HD.out.size)); have HF := Lib.hid (put2y (K1.out.below HD.out K1.out.lt) (.int .i64 at') (.slice ga X.length gc)); obtain ⟨f0, f1, f2, f3, f4⟩ := HF.out; have HF4 := Lib.hid f4; clear ou bq f4))
  all_goals
    go_wp2
    obtain ⟨W, hW⟩ : ∃ W, W = (w3.setCell ⟨w.heap.size, 0, none⟩ (.int .i64 at')).setCell ⟨w.heap.size, 1, none⟩ (.slice ga X.length gc) := ⟨_, rfl⟩
    have f4 := HF4.out
    have hB : Below w.heap.size w W := by
      rw [hW]
      exact below_set (below_set (HB0.out.trans (HD.out.mono HB0.out.size)) (Nat.le_refl _) _ _) (Nat.le_refl _) _ _
    have hO : Ow W w.heap.size W.heap.size (.slice ga X.length gc) X := by
      have h1 := (HO.out.apartCell HL1.out 0 (.int .i64 at')).apartCell HL1.out 1 (.slice ga X.length gc)
      rw [← hW] at h1
      exact h1.mono HB0.out.size (by rw [hW]; simp) (Nat.le_refl _)
    rw [← hW] at f4 ⊢
    have z0 := f4.cell 0 rfl
    have z1 := f4.cell 1 rfl
    clear f0 f1 f2 f3 hW
    refine bodyPost_ret (v := .agg #[.int .i64 at', .slice ga X.length gc]) (by simp [results, Tryd.f192, go_sem, z0, z1]) rfl ⟨_, rfl, hO, hB⟩
noncomputable def cyC (zss : List (List Int)) (at' : Int) (xs : List Int) : Int :=
  if turnB zss at' xs = true then (if xs.length = 0 then 6 else if (apC zss at'.toNat xs).length ≤ 1000 then 0 else 5) else 1
noncomputable def cyA (zss : List (List Int)) (at' : Int) (xs : List Int) : Int := if cyC zss at' xs = 0 then ((nxJ zss at'.toNat : Nat) : Int) else 0
noncomputable def cyW (zss : List (List Int)) (at' : Int) (xs : List Int) : List Int := if cyC zss at' xs = 0 then apC zss at'.toNat xs else []
theorem cy_bad {zss : List (List Int)} {at' : Int} {xs : List Int} (h : turnB zss at' xs = false) : cyC zss at' xs = 1 ∧ cyA zss at' xs = 0 ∧ cyW zss at' xs = [] := by
  have : cyC zss at' xs = 1 := by simp [cyC, h]
  simp [cyA, cyW, this]
theorem cy_halt {zss : List (List Int)} {at' : Int} {xs : List Int} (h : turnB zss at' xs = true) (k : xs.length = 0) : cyC zss at' xs = 6 ∧ cyA zss at' xs = 0 ∧ cyW zss at' xs = [] := by
  have : cyC zss at' xs = 6 := by rw [cyC, if_pos h, if_pos k]
  simp [cyA, cyW, this]
theorem cy_full {zss : List (List Int)} {at' : Int} {xs : List Int} (h : turnB zss at' xs = true) (k : ¬ xs.length = 0) (q : ¬ (apC zss at'.toNat xs).length ≤ 1000) : cyC zss at' xs = 5 ∧ cyA zss at' xs = 0 ∧ cyW zss at' xs = [] := by
  have : cyC zss at' xs = 5 := by rw [cyC, if_pos h, if_neg k, if_neg q]
  simp [cyA, cyW, this]
theorem cy_next {zss : List (List Int)} {at' : Int} {xs : List Int} (h : turnB zss at' xs = true) (k : ¬ xs.length = 0) (q : (apC zss at'.toNat xs).length ≤ 1000) : cyC zss at' xs = 0 ∧ cyA zss at' xs = ((nxJ zss at'.toNat : Nat) : Int) ∧ cyW zss at' xs = apC zss at'.toNat xs := by
  have : cyC zss at' xs = 0 := by rw [cyC, if_pos h, if_neg k, if_pos q]
  simp [cyA, cyW, this]
theorem bhBadY {w : World} {g : Nat} {a b c r h : Value} (k : Cels w g 172 [a, b, c, r, .bool false, h]) :
    Calls Tryd.prog 77 #[.iface 122 (.pointer (some ⟨g, 0, none⟩))] w fun e w' => e = .returned (.tuple #[.agg #[.int .i64 0, .slice none 0 0], .int .i64 1]) ∧ Below w.heap.size w w' := by
  have HB : Hid (∀ o1 o2 : Obj, Below w.heap.size w ((w.alloc o1).alloc o2)) := Lib.hid (fun o1 o2 => ((Below.refl _ _).alloc (Nat.le_refl _) _).alloc (by simp) _)
  have H := Lib.hid k
  have n1 := nlY g
  have m1 := mtY g
  clear k
  go_enter Tryd.func77, Tryd.ntmps77
  go_wp2_with fail
  refine (cyValid (H.out.below (HB.out _ _) H.out.lt)).mono ?_
  rintro e w1 ⟨rfl, rfl⟩
  go_wp2
  refine bodyPost_ret (v := .tuple #[.agg #[.int .i64 0, .slice none 0 0], .int .i64 1]) (by simp [results, Tryd.f77, go_sem]) rfl ⟨rfl, HB.out _ _⟩
set_option maxHeartbeats 2000000 in
theorem bhFailY {w0 w : World} {g q : Nat} {vz : Value} {zss : List (List Int)} {zs : List Int} {f l : Nat} {at' : Int} (c : Int) (h : CyR w0 w g q vz zss zs f l true at') (he : EtV w0) (hb : Below w0.heap.size w0 w)
    (hs : ∀ W, Below w.heap.size w W → Calls Tryd.prog 194 #[.pointer (some ⟨g, 0, none⟩)] W fun e w' => e = .returned (.iface 162 (.int .i64 c)) ∧ Only (fun k => k = g ∨ k = q) W w') :
    Calls Tryd.prog 77 #[.iface 122 (.pointer (some ⟨g, 0, none⟩))] w fun e w' => e = .returned (.tuple #[.agg #[.int .i64 0, .slice none 0 0], .int .i64 c]) ∧ Below w0.heap.size w0 w' := by
  have HB : Hid (∀ o1 o2 : Obj, Below w.heap.size w ((w.alloc o1).alloc o2)) := Lib.hid (fun o1 o2 => ((Below.refl _ _).alloc (Nat.le_refl _) _).alloc (by simp) _)
  have H := Lib.hid h
  have HS := Lib.hid hs
  have HE := Lib.hid he
  have HBW := Lib.hid hb
  have HG : Hid (g < w.heap.size ∧ q < w.heap.size ∧ w0.heap.size ≤ g ∧ w0.heap.size ≤ q ∧ w0.heap.size ≤ w.heap.size) := Lib.hid ⟨h.head.lt, h.ring.lt, h.bg, h.bq, hb.size⟩
  have n1 := nlY g
  have m1 := mtY g
  have n2 := nlYs g
  have m2 := mtYs g
  clear h hs he hb
  go_enter Tryd.func77, Tryd.ntmps77
  go_wp2_with fail
  refine (cyValid (H.out.below (HB.out _ _)).head).mono ?_
  rintro e w1 ⟨rfl, rfl⟩
  go_wp2_with fail
  obtain ⟨W1, hW1⟩ : ∃ W, W = (w.alloc (Obj.cells #[.int .i64 0, .slice none 0 0] 41)).alloc (Obj.cells #[.int .i64 0, .slice none 0 0] 41) := ⟨_, rfl⟩
  have hB1 : Below w.heap.size w W1 := by rw [hW1]; exact HB.out _ _
  have kr : Cels W1 w.heap.size 41 [.int .i64 0, .slice none 0 0] := by rw [hW1]; exact (Cels.new _ _ _).alloc _
  have kn : Cels W1 (w.heap.size + 1) 41 [.int .i64 0, .slice none 0 0] := by
    rw [hW1]
    have := Cels.new (w.alloc (Obj.cells #[.int .i64 0, .slice none 0 0] 41)) 41 [.int .i64 0, .slice none 0 0]
    rwa [World.size_alloc] at this
  rw [← hW1]
  clear hW1
  refine (HS.out W1 hB1).mono ?_
  rintro e w2 ⟨rfl, ho2⟩
  have KR : Hid (Cels w2 w.heap.size 41 [.int .i64 0, .slice none 0 0]) := Lib.hid (ho2.kept kr (by have := HG.out; omega))
  have KN : Hid (Cels w2 (w.heap.size + 1) 41 [.int .i64 0, .slice none 0 0]) := Lib.hid (ho2.kept kn (by have := HG.out; omega))
  have HB2 : Hid (Below w0.heap.size w0 w2) := Lib.hid ((HBW.out.trans (hB1.mono HG.out.2.2.2.2)).trans (ho2.below (by rintro k (rfl | rfl) <;> have := HG.out <;> omega) (by have := hB1.size; have := HG.out; omega)))
  have HE2 : Hid (∀ W, Below w2.heap.size w2 W → EtV W) := Lib.hid (fun W hW => HE.out.below (HB2.out.trans (hW.mono HB2.out.size)) (Nat.le_refl _))
  have HLT2 : Hid (w0.heap.size ≤ w2.heap.size ∧ w0.heap.size ≤ w.heap.size) := Lib.hid ⟨HB2.out.size, HG.out.2.2.2.2⟩
  clear kr kn hB1 ho2
  have HS2 : Hid (∀ W, Cels W (w.heap.size + 1) 41 [.int .i64 0, .slice none 0 0] → W.cell? ⟨w.heap.size + 1, 0, none⟩ = some (.int .i64 0) ∧ W.cell? ⟨w.heap.size + 1, 1, none⟩ = some (.slice none 0 0)) := Lib.hid (fun W k => ⟨k.cell 0 rfl, k.cell 1 rfl⟩)
  have HNE : Hid (w.heap.size + 1 ≠ w.heap.size) := Lib.hid (by omega)
  go_wp2
  have HD : Hid (Below w2.heap.size w2 w2.drew) := Lib.hid (Below.refl _ _).drew
  go_region_held3 (fun W => W.cell? ⟨w.heap.size + 1, 0, none⟩ = some (.int .i64 0) ∧ W.cell? ⟨w.heap.size + 1, 1, none⟩ = some (.slice none 0 0))
    (first | exact HS2.out _ (KN.out.below HD.out KN.out.lt) | exact HS2.out _ (((KN.out.below HD.out KN.out.lt).other (p := ⟨w.heap.size, 0, none⟩) HNE.out _).other (p := ⟨w.heap.size, 1, none⟩) HNE.out _))
    (first | (go_at_call 74; with_reducible refine (implCodeOf c _ (HE2.out _ HD.out)).mono ?_; rintro e3 w3 ⟨rfl, bq⟩; replace HD := Lib.hid (HD.out.trans (bq.mono HD.out.size)); have HF := Lib.hid (put2y (KR.out.below HD.out KR.out.lt) (.int .i64 0) (.slice none 0 0)); obtain ⟨f1, f2, f3, f4, f7⟩ := HF.out; have HF7 := Lib.hid f7; clear bq f7))
  all_goals
    go_wp2
    obtain ⟨W, hW⟩ : ∃ W, W = (w3.setCell ⟨w.heap.size, 0, none⟩ (.int .i64 0)).setCell ⟨w.heap.size, 1, none⟩ (.slice none 0 0) := ⟨_, rfl⟩
    have f7 := HF7.out
    have hB : Below w0.heap.size w0 W := by
      rw [hW]
      exact below_set (below_set (HB2.out.trans (HD.out.mono HLT2.out.1)) HLT2.out.2 _ _) HLT2.out.2 _ _
    rw [← hW] at f7 ⊢
    have z0 := f7.cell 0 rfl
    have z1 := f7.cell 1 rfl
    clear f1 f2 f3 f4 hW
    refine bodyPost_ret (v := .tuple #[.agg #[.int .i64 0, .slice none 0 0], .int .i64 c]) (by simp [results, Tryd.f77, go_sem, z0, z1]) rfl ⟨rfl, hB⟩
set_option maxHeartbeats 2000000 in
theorem bhNextY {w0 w : World} {g q : Nat} {vz : Value} {zss : List (List Int)} {zs : List Int} {f l : Nat} {at' : Int} (at2 : Int) (xs2 : List Int) (h : CyR w0 w g q vz zss zs f l true at') (hb : Below w0.heap.size w0 w)
    (hs : ∀ W, Below w.heap.size w W → Calls Tryd.prog 194 #[.pointer (some ⟨g, 0, none⟩)] W fun e w' => ∃ zs' f' l', e = .returned .nilIface ∧ CyR w0 w' g q vz zss zs' f' l' true at2 ∧ rg zs' f' l' = xs2 ∧ Only (fun k => k = g ∨ k = q) W w') :
    Calls Tryd.prog 77 #[.iface 122 (.pointer (some ⟨g, 0, none⟩))] w fun e w' => ∃ u, e = .returned (.tuple #[.agg #[.int .i64 at2, u], .int .i64 0]) ∧ Ow w' w0.heap.size w'.heap.size u xs2 ∧ Below w0.heap.size w0 w' := by
  have HB : Hid (∀ o1 o2 : Obj, Below w.heap.size w ((w.alloc o1).alloc o2)) := Lib.hid (fun o1 o2 => ((Below.refl _ _).alloc (Nat.le_refl _) _).alloc (by simp) _)
  have H := Lib.hid h
  have HS := Lib.hid hs
  have HBW := Lib.hid hb
  have HG : Hid (g < w.heap.size ∧ q < w.heap.size ∧ w0.heap.size ≤ g ∧ w0.heap.size ≤ q ∧ w0.heap.size ≤ w.heap.size) := Lib.hid ⟨h.head.lt, h.ring.lt, h.bg, h.bq, hb.size⟩
  have n1 := nlY g
  have m1 := mtY g
  have n2 := nlYs g
  have m2 := mtYs g
  have n3 := nlYc g
  have m3 := mtYc g
  clear h hs hb
  go_enter Tryd.func77, Tryd.ntmps77
  go_wp2_with fail
  refine (cyValid (H.out.below (HB.out _ _)).head).mono ?_
  rintro e w1 ⟨rfl, rfl⟩
  go_wp2_with fail
  obtain ⟨W1, hW1⟩ : ∃ W, W = (w.alloc (Obj.cells #[.int .i64 0, .slice none 0 0] 41)).alloc (Obj.cells #[.int .i64 0, .slice none 0 0] 41) := ⟨_, rfl⟩
  have hB1 : Below w.heap.size w W1 := by rw [hW1]; exact HB.out _ _
  have kr : Cels W1 w.heap.size 41 [.int .i64 0, .slice none 0 0] := by rw [hW1]; exact (Cels.new _ _ _).alloc _
  rw [← hW1]
  clear hW1
  refine (HS.out W1 hB1).mono ?_
  rintro e w2 ⟨zs2, f2, l2, rfl, h2, hr2, ho2⟩
  have KR : Hid (Cels w2 w.heap.size 41 [.int .i64 0, .slice none 0 0]) := Lib.hid (ho2.kept kr (by have := HG.out; omega))
  have H2 := Lib.hid h2
  have HR2 := Lib.hid hr2
  have HB2 : Hid (Below w0.heap.size w0 w2) := Lib.hid ((HBW.out.trans (hB1.mono HG.out.2.2.2.2)).trans (ho2.below (by rintro k (rfl | rfl) <;> have := HG.out <;> omega) (by have := hB1.size; have := HG.out; omega)))
  clear kr hB1 h2 hr2 ho2
  go_wp2_with fail
  refine (cyConfig H2.out).mono ?_
  rintro e w3 ⟨u, rfl, ou, hb3⟩
  rw [HR2.out] at ou
  have HS2 : Hid (w.heap.size < w2.heap.size) := Lib.hid KR.out.lt
  have HS20 : Hid (w0.heap.size ≤ w2.heap.size) := Lib.hid (by have := HS2.out; have := HG.out; omega)
  have HO := Lib.hid ou
  obtain ⟨ga, gc, hu⟩ := ou.shape
  subst hu
  have KR3 := Lib.hid (KR.out.below hb3 KR.out.lt)
  have HB3 := Lib.hid (HB2.out.trans (hb3.mono HS20.out))
  have HF := Lib.hid (put2y KR3.out (.int .i64 at2) (.slice ga xs2.length gc))
  obtain ⟨f1, f2, f3, f4, f7⟩ := HF.out
  have HF7 := Lib.hid f7
  clear ou hb3 f7
  go_wp2
  obtain ⟨W, hW⟩ : ∃ W, W = (w3.setCell ⟨w.heap.size, 0, none⟩ (.int .i64 at2)).setCell ⟨w.heap.size, 1, none⟩ (.slice ga xs2.length gc) := ⟨_, rfl⟩
  have f7 := HF7.out
  have hB : Below w0.heap.size w0 W := by
    rw [hW]
    exact below_set (below_set HB3.out HG.out.2.2.2.2 _ _) HG.out.2.2.2.2 _ _
  have hO : Ow W w0.heap.size W.heap.size (.slice ga xs2.length gc) xs2 := by
    have h1 := (HO.out.apartCell HS2.out 0 (.int .i64 at2)).apartCell HS2.out 1 (.slice ga xs2.length gc)
    rw [← hW] at h1
    exact h1.mono HS20.out (by rw [hW]; simp) (Nat.le_refl _)
  rw [← hW] at f7 ⊢
  have z0 := f7.cell 0 rfl
  have z1 := f7.cell 1 rfl
  clear f1 f2 f3 f4 hW
  refine bodyPost_ret (v := .tuple #[.agg #[.int .i64 at2, .slice ga xs2.length gc], .int .i64 0]) (by simp [results, Tryd.f77, go_sem, z0, z1]) rfl ⟨_, rfl, hO, hB⟩
theorem implBhY {w0 w : World} {g q : Nat} {vz : Value} {zss : List (List Int)} {xs : List Int} {n : Nat} {at' : Int} (h : CyR w0 w g q vz zss (nq xs) 0 n (turnB zss at' xs) at') (hn : n = min xs.length 1000) (he : EtV w0) (hb : Below w0.heap.size w0 w) :
    Calls Tryd.prog 77 #[.iface 122 (.pointer (some ⟨g, 0, none⟩))] w fun e w' => ∃ u, e = .returned (.tuple #[.agg #[.int .i64 (cyA zss at' xs), u], .int .i64 (cyC zss at' xs)]) ∧ Ow w' w0.heap.size w'.heap.size u (cyW zss at' xs) ∧ Below w0.heap.size w0 w' := by
  rcases eqOr (turnB zss at' xs) with hv | hv
  · obtain ⟨e1, e2, e3⟩ := cy_bad hv
    rw [e1, e2, e3]
    have hk := h.head
    rw [hv] at hk
    exact (bhBadY hk).mono fun e w' q => ⟨_, q.1, Ow.emptyUp (Nat.le_trans hb.size q.2.size), hb.trans (q.2.mono hb.size)⟩
  obtain ⟨hc, ha, hw⟩ := turnB_ok hv
  obtain ⟨j, rfl⟩ : ∃ j : Nat, at' = (j : Int) := ⟨at'.toNat, by omega⟩
  have hj : j < zss.length := by omega
  have hxl := (overB_ok hw).1
  have hnl : n = xs.length := by omega
  subst hnl
  have hrg : rg (nq xs) 0 xs.length = xs := nq_rg hxl
  rw [hv] at h
  by_cases h0 : xs.length = 0
  · obtain ⟨e1, e2, e3⟩ := cy_halt hv h0
    rw [e1, e2, e3]
    exact (bhFailY 6 h he hb (fun W hW => (cyStepHalt (h.below hW) h0).mono fun e w' q => ⟨q.1, Only.of_below q.2⟩)).mono fun e w' q => ⟨_, q.1, Ow.emptyUp q.2.size, q.2⟩
  by_cases hf : (apC zss j xs).length ≤ 1000
  · obtain ⟨e1, e2, e3⟩ := cy_next hv h0 (by simpa using hf)
    rw [e1, e2, e3]
    refine bhNextY _ _ h hb (fun W hW => (cyStepGo (h.below hW) hc hj (by omega) (by rw [hrg]; exact hf)).mono fun e w' q => ?_)
    rw [hrg] at q
    exact q
  · obtain ⟨e1, e2, e3⟩ := cy_full hv h0 (by simpa using hf)
    rw [e1, e2, e3]
    exact (bhFailY 5 h he hb (fun W hW => cyStepFull (h.below hW) hc hj (by omega) (by rw [hrg]; omega))).mono fun e w' q => ⟨_, q.1, Ow.emptyUp q.2.size, q.2⟩
set_option maxHeartbeats 2000000 in
theorem implStepCyc (vz x : Value) (zss : List (List Int)) (at' : Int) (xs : List Int) (w : World) (hz : RdL w vz zss) (hx : Rd w x xs) (he : EtV w) :
    Calls Tryd.prog 22 #[.agg #[vz], .agg #[.int .i64 at', x]] w fun e w' => ∃ u, e = .returned (.tuple #[.agg #[.int .i64 (cyA zss at' xs), u], .int .i64 (cyC zss at' xs)]) ∧ Ow w' w.heap.size w'.heap.size u (cyW zss at' xs) ∧ Below w.heap.size w w' := by
  have HZ := Lib.hid hz
  have HX := Lib.hid hx
  have HE := Lib.hid he
  obtain ⟨_, az, cz, rfl, _, _⟩ := hz
  obtain ⟨_, _, ax, cx, rfl, _, _⟩ := hx
  obtain ⟨W0, hW0⟩ : ∃ W, W = ((w.alloc (Obj.cells #[.slice az zss.length cz] 44)).alloc (Obj.cells #[.int .i64 at', .slice ax xs.length cx] 41)).alloc (Obj.cells #[.int .i64 0, .slice none 0 0] 41) := ⟨_, rfl⟩
  have HB : Hid (Below w.heap.size w W0) := Lib.hid (by rw [hW0]; exact (((Below.refl w.heap.size w).alloc (Nat.le_refl _) _).alloc (by simp) _).alloc (by simp; omega) _)
  have KR : Hid (Cels W0 (w.heap.size + 1 + 1) 41 [.int .i64 0, .slice none 0 0]) := Lib.hid (by
    rw [hW0]
    have := Cels.new ((w.alloc (Obj.cells #[.slice az zss.length cz] 44)).alloc (Obj.cells #[.int .i64 at', .slice ax xs.length cx] 41)) 41 [.int .i64 0, .slice none 0 0]
    rwa [World.size_alloc, World.size_alloc] at this)
  have HW0 := Lib.hid hW0.symm
  obtain ⟨x1, hx1⟩ : ∃ x, x = cyA zss at' xs := ⟨_, rfl⟩
  obtain ⟨x2, hx2⟩ : ∃ x, x = cyW zss at' xs := ⟨_, rfl⟩
  obtain ⟨x3, hx3⟩ : ∃ x, x = cyC zss at' xs := ⟨_, rfl⟩
  rw [← hx1, ← hx2, ← hx3]
  have HXX : Hid (cyA zss at' xs = x1 ∧ cyW zss at' xs = x2 ∧ cyC zss at' xs = x3) := Lib.hid ⟨hx1.symm, hx2.symm, hx3.symm⟩
  clear hW0 he hx1 hx2 hx3
  go_enter Tryd.func22, Tryd.ntmps22
  go_wp2_with fail
  rw [HW0.out]
  refine (implNewCyc _ _ zss at' xs _ (HZ.out.below HB.out (Nat.le_refl _)) (HX.out.below HB.out (Nat.le_refl _))).mono ?_
  rintro e w1 ⟨g, q, n, rfl, hr, hn, hb⟩
  have HKEY := Lib.hid (implBhY hr hn (HE.out.below HB.out (Nat.le_refl _)) hb)
  rw [HXX.out.1, HXX.out.2.1, HXX.out.2.2] at HKEY
  clear hr hn hb
  go_wp2_with fail
  refine HKEY.out.mono ?_
  rintro e w3 ⟨r, rfl, or, hb3⟩
  have HO := Lib.hid or
  obtain ⟨ga, gc, hr⟩ := or.shape
  subst hr
  have HS1 := Lib.hid HB.out.size
  have HL1 := Lib.hid KR.out.lt
  have KR3 := Lib.hid (KR.out.below hb3 KR.out.lt)
  have HB3 := Lib.hid (HB.out.trans (hb3.mono HB.out.size))
  have HF := Lib.hid (put2y KR3.out (.int .i64 x1) (.slice ga x2.length gc))
  obtain ⟨f1, f2, f3, f4, f7⟩ := HF.out
  have HF7 := Lib.hid f7
  clear or hb3 f7
  go_wp2
  obtain ⟨W, hW⟩ : ∃ W, W = (w3.setCell ⟨w.heap.size + 1 + 1, 0, none⟩ (.int .i64 x1)).setCell ⟨w.heap.size + 1 + 1, 1, none⟩ (.slice ga x2.length gc) := ⟨_, rfl⟩
  have f7 := HF7.out
  have hB : Below w.heap.size w W := by
    rw [hW]
    exact below_set (below_set HB3.out (by omega) _ _) (by omega) _ _
  have hO : Ow W w.heap.size W.heap.size (.slice ga x2.length gc) x2 := by
    have h1 := (HO.out.apartCell HL1.out 0 (.int .i64 x1)).apartCell HL1.out 1 (.slice ga x2.length gc)
    rw [← hW] at h1
    exact h1.mono HS1.out (by rw [hW]; simp) (Nat.le_refl _)
  rw [← hW] at f7 ⊢
  have z0 := f7.cell 0 rfl
  have z1 := f7.cell 1 rfl
  clear f1 f2 f3 f4 hW
  refine bodyPost_ret (v := .tuple #[.agg #[.int .i64 x1, .slice ga x2.length gc], .int .i64 x3]) (by simp [results, Tryd.f22, go_sem, z0, z1]) rfl ⟨_, rfl, hO, hB⟩
end Go.Proofs.YtkjoakdepjpkhaaDoor.Ints
