/- RunProgram: the program's. -/
import Derived.Test.YtgbhbbapkpgmiaaDoorEnP
namespace Go.Proofs.YtgbhbbapkpgmiaaDoor.Ints
open Go.RowKit
set_option linter.unusedVariables false
set_option linter.unusedSimpArgs false
set_option maxHeartbeats 4000000 in
set_option maxRecDepth 100000 in
theorem implRP (v : Value) (rs : List Ins) (at' : Int) (u : Value) (cs : List Int) (bu : Int) (w : World) (hv : RdIns w v rs) (hu : Rd w u cs) (he : EtV w) :
    Calls Tryd.prog 22 #[v, .agg #[.int .i64 at', u], .int .i64 bu] w fun e w' => ∃ r, e = .returned (.tuple #[.agg #[.int .i64 (rpR rs at' cs bu).at', r], .int .i64 (rpR rs at' cs bu).n, .bool (rpR rs at' cs bu).h, .int .i64 (rpR rs at' cs bu).code]) ∧ Ow w' w.heap.size w'.heap.size r (rpR rs at' cs bu).cs ∧ Below w.heap.size w w' := by
  have HV := Lib.hid hv
  have HU := Lib.hid hu
  obtain ⟨_, _, a0, c0, rfl, _, _⟩ := hv
  obtain ⟨_, _, a1, c1, rfl, _, _⟩ := hu
  have HE := Lib.hid he
  have HB0 : Hid (∀ o1 o2 : Obj, Below w.heap.size w ((w.alloc o1).alloc o2)) := Lib.hid (fun o1 o2 => ((Below.refl _ _).alloc (Nat.le_refl _) _).alloc (by simp) _)
  obtain ⟨R, hR⟩ : ∃ R, R = rpR rs at' cs bu := ⟨_, rfl⟩
  rw [← hR]
  have HR := Lib.hid hR.symm
  obtain ⟨x0, x1, x2, x4, x5⟩ := R
  dsimp only
  clear he hR
  go_enter Tryd.func22, Tryd.ntmps22
  go_wp2_with fail
  obtain ⟨W1, hW1⟩ : ∃ W, W = (w.alloc (Obj.cells #[.int .i64 at', .slice a1 cs.length c1] 39)).alloc (Obj.cells #[.int .i64 0, .slice none 0 0] 39) := ⟨_, rfl⟩
  have hB1 : Below w.heap.size w W1 := by rw [hW1]; exact HB0.out _ _
  have kr : Cels W1 (w.heap.size + 1) 39 [.int .i64 0, .slice none 0 0] := by
    rw [hW1]
    have := Cels.new (w.alloc (Obj.cells #[.int .i64 at', .slice a1 cs.length c1] 39)) 39 [.int .i64 0, .slice none 0 0]
    rwa [World.size_alloc] at this
  rw [← hW1]
  clear hW1
  refine (implNewSRun at' _ cs a0 c0 rs W1 (HV.out.below hB1 (Nat.le_refl _)) (HU.out.below hB1 (Nat.le_refl _))).mono ?_
  rintro e w2 ⟨g, uu, rfl, hg2, hk2, hr2, hsh, hb2⟩
  have HK2 := Lib.hid hk2
  have HST : Hid (vsB rs at' cs = true → ∃ gb c0', StR W1 w2 g 169 gb c0' a0 c0 rs at' cs true 1000000) := Lib.hid (fun hv => by
    rcases hsh with ⟨gb, c', hs⟩ | hs
    · have := hr2 gb c' hs
      rw [hv] at this
      exact ⟨gb, c', this⟩
    · have := (vsB_ok hv).2.2.1
      rw [hs] at this
      simp at this)
  have KR1 := Lib.hid kr
  have HE2 := Lib.hid (HE.out.below hB1 (Nat.le_refl _))
  have HB1 := Lib.hid hB1
  have HB2 := Lib.hid hb2
  have HL1 := Lib.hid kr.lt
  have HS1 := Lib.hid hB1.size
  clear hr2 kr hb2 hB1 hg2 hk2 hsh
  go_wp2_with fail
  refine (callsIn_wide.1 (implEnP_in W1 w2 g uu a0 c0 rs at' cs bu HK2.out HST.out HE2.out HB2.out)).mono ?_
  rintro e w3 ⟨r, rfl, or, hb3⟩
  rw [HR.out] at or
  rw [HR.out]
  dsimp only at or ⊢
  have HO := Lib.hid or
  obtain ⟨ga, gc, hr⟩ := or.shape
  subst hr
  have KR3 := Lib.hid (KR1.out.below hb3 HL1.out)
  have HB3 := Lib.hid (HB1.out.trans (hb3.mono HS1.out))
  have HF := Lib.hid (put2s KR3.out (.int .i64 x1) (.slice ga x2.length gc))
  obtain ⟨f1, f2, f3, f4, f7⟩ := HF.out
  have HF7 := Lib.hid f7
  clear or hb3 f7
  go_wp2
  obtain ⟨W, hW⟩ : ∃ W, W = (w3.setCell ⟨w.heap.size + 1, 0, none⟩ (.int .i64 x1)).setCell ⟨w.heap.size + 1, 1, none⟩ (.slice ga x2.length gc) := ⟨_, rfl⟩
  have f7 := HF7.out
  have hB : Below w.heap.size w W := by
    rw [hW]
    exact below_set (below_set HB3.out (by omega) _ _) (by omega) _ _
  have hO : Ow W w.heap.size W.heap.size (.slice ga x2.length gc) x2 := by
    have h1 := (HO.out.apartCell HL1.out 0 (.int .i64 x1)).apartCell HL1.out 1 (.slice ga x2.length gc)
    rw [← hW] at h1
    exact h1.mono HS1.out (by rw [hW]; simp) (Nat.le_refl _)
  rw [← hW] at f7 ⊢
  have z0 := f7.cell 0 rfl
  have z1 := f7.cell 1 rfl
  clear f1 f2 f3 f4 hW
  refine bodyPost_ret (v := .tuple #[.agg #[.int .i64 x1, .slice ga x2.length gc], .int .i64 x4, .bool x5, .int .i64 x0]) (by simp [results, Tryd.f22, go_sem, z0, z1]) rfl ⟨_, rfl, hO, hB⟩
end Go.Proofs.YtgbhbbapkpgmiaaDoor.Ints
