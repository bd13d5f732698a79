/- A register machine at work: what lies in memory, and its methods. -/
import Derived.Test.YtkjoakdepjpkhaaDoorRun
import Derived.Test.YtkjoakdepjpkhaaDoorErr
import Derived.Test.YtkjoakdepjpkhaaDoorPrg
import Derived.Test.YtkjoakdepjpkhaaDoorInsL
import Derived.Deep.QuietTactic
import Derived.BigQuiet
import Derived.BigRegion
import Derived.RegionTactic
namespace Go.Proofs.YtkjoakdepjpkhaaDoor.Ints
open Go.RowKit
set_option linter.unusedVariables false
set_option linter.unusedSimpArgs false
theorem Kept.cell {T : Nat → Prop} {A B : World} (h : Kept T A B) {g j : Nat} {v : Value} (hc : A.cell? ⟨g, j, none⟩ = some v) (hT : T g) : B.cell? ⟨g, j, none⟩ = some v :=
  (World.cell?_of_block (a := ⟨g, j, none⟩) (h.block g (World.block_lt_of_cell? A _ hc) hT)).trans hc
theorem Cels.kept {T : Nat → Prop} {A B : World} {g : Nat} {t : TypeId} {cs : List Value} (h : Cels A g t cs) (k : Kept T A B) (hT : T g) : Cels B g t cs := k.kept h hT
/-- The run at the address g (its block of type t), its contents' row gb, for a program that lay in the world w0. -/
structure StR (w0 w : World) (g : Nat) (t : TypeId) (gb c0 : Nat) (pa : Option Addr) (pc : Nat) (rs : List Ins) (at' : Int) (cs : List Int) (ok : Bool) (most : Int) : Prop where
  head : Cels w g t [.int .i64 at', .slice (some ⟨gb, 0, none⟩) cs.length c0, .slice pa rs.length pc, .bool ok, .int .i64 most]
  row : Ow w w0.heap.size w.heap.size (.slice (some ⟨gb, 0, none⟩) cs.length c0) cs
  ne : gb ≠ g
  base : w0.heap.size ≤ g
  prg : RdIns w0 (.slice pa rs.length pc) rs
  old : Kept (fun k => k < w0.heap.size) w0 w
theorem StR.gb {w0 w : World} {g : Nat} {t : TypeId} {gb c0 : Nat} {pa : Option Addr} {pc : Nat} {rs : List Ins} {at' : Int} {cs : List Int} {ok : Bool} {most : Int} (h : StR w0 w g t gb c0 pa pc rs at' cs ok most) : w0.heap.size ≤ gb ∧ gb < w.heap.size := by
  have := h.row.row.lt gb rfl
  exact this
theorem RdIns.kept {w0 w : World} {v : Value} {rs : List Ins} (h : RdIns w0 v rs) (k : Kept (fun k => k < w0.heap.size) w0 w) : RdIns w v rs := by
  obtain ⟨l, f, a, c, rfl, hc, hr⟩ := h
  refine ⟨l, f, a, c, rfl, hc, fun hne => ?_⟩
  obtain ⟨b, o, ha, hb, hcell⟩ := hr hne
  refine ⟨b, o, ha, Nat.lt_of_lt_of_le hb k.size, fun i hi => ?_⟩
  obtain ⟨c0, c1, c2, c3⟩ := hcell i hi
  exact ⟨k.cell c0 hb, k.cell c1 hb, k.cell c2 hb, k.cell c3 hb⟩
theorem StR.kept {w0 w w' : World} {g : Nat} {t : TypeId} {gb c0 : Nat} {pa : Option Addr} {pc : Nat} {rs : List Ins} {at' : Int} {cs : List Int} {ok : Bool} {most : Int} (h : StR w0 w g t gb c0 pa pc rs at' cs ok most)
    (k : Kept (fun k => k < w0.heap.size ∨ k = g ∨ k = gb) w w') : StR w0 w' g t gb c0 pa pc rs at' cs ok most := by
  have hg := h.gb
  refine ⟨h.head.kept k (.inr (.inl rfl)), ?_, h.ne, h.base, h.prg, ?_⟩
  · have hb := k.block gb hg.2 (.inr (.inr rfl))
    refine ⟨h.row.len, h.row.fit, ?_, fun q hq => by cases hq; exact Nat.lt_of_lt_of_le hg.2 k.size, Nat.le_refl _, Nat.le_trans h.row.base k.size⟩
    obtain ⟨hl, hr⟩ := h.row.row
    refine ⟨hl, ?_⟩
    rcases hr with ⟨e, _⟩ | ⟨g', c', cur, e, h1, h2, h3⟩
    · cases e
    · simp only [Value.slice.injEq, Option.some.injEq, Addr.mk.injEq] at e
      obtain ⟨⟨rfl, _⟩, _, rfl⟩ := e
      exact .inr ⟨gb, c0, cur, rfl, h1, hb.trans h2, h3⟩
  · exact h.old.trans ⟨k.size, fun i hi q => k.block i hi (.inl q)⟩
theorem StR.below {w0 w w' : World} {g : Nat} {t : TypeId} {gb c0 : Nat} {pa : Option Addr} {pc : Nat} {rs : List Ins} {at' : Int} {cs : List Int} {ok : Bool} {most : Int} (h : StR w0 w g t gb c0 pa pc rs at' cs ok most)
    (k : Below w.heap.size w w') : StR w0 w' g t gb c0 pa pc rs at' cs ok most :=
  h.kept ⟨k.size, fun i hi _ => k.block i hi⟩
theorem strValid {w0 w : World} {g : Nat} {t : TypeId} {gb c0 : Nat} {pa : Option Addr} {pc : Nat} {rs : List Ins} {at' : Int} {cs : List Int} {ok : Bool} {most : Int} (h : StR w0 w g t gb c0 pa pc rs at' cs ok most) :
    Calls Tryd.prog 200 #[.pointer (some ⟨g, 0, none⟩)] w fun e w' => e = .returned (.bool ok) ∧ w = w' := by
  have z3 := h.head.cell 3 rfl
  clear h
  go_enter Tryd.func200, Tryd.ntmps200
  go_wp2
  go_ret
  exact ⟨rfl, rfl⟩
theorem strHalts {w0 w : World} {g : Nat} {t : TypeId} {gb c0 : Nat} {pa : Option Addr} {pc : Nat} {rs : List Ins} {at' : Int} {cs : List Int} {ok : Bool} {most : Int} (h : StR w0 w g t gb c0 pa pc rs at' cs ok most) (b : Bool) (hb : (at' == (rs.length : Int)) = b) :
    Calls Tryd.prog 198 #[.pointer (some ⟨g, 0, none⟩)] w fun e w' => e = .returned (.bool b) ∧ Below w.heap.size w w' := by
  have z0 := h.head.cell 0 rfl
  have z2 := h.head.cell 2 rfl
  have hl := h.prg.len
  clear h
  go_enter Tryd.func198, Tryd.ntmps198
  go_wp2
  go_quiet (fail)
  go_wp2
  go_ret
  exact ⟨rfl, below_drewN (Below.refl _ _) _⟩
theorem Fit.set {zs : List Int} (h : Fit zs) (k : Nat) {x : Int} (h0 : -9223372036854775808 ≤ x ∧ x ≤ 9223372036854775807) : Fit (zs.set k x) := fun z hz => by
  rcases List.mem_or_eq_of_mem_set hz with h1 | rfl
  · exact h z h1
  · exact h0
theorem StR.store {w0 w : World} {g : Nat} {t : TypeId} {gb c0 : Nat} {pa : Option Addr} {pc : Nat} {rs : List Ins} {at' : Int} {cs : List Int} {ok : Bool} {most : Int} (h : StR w0 w g t gb c0 pa pc rs at' cs ok most)
    (m : Nat) (hm : m < cs.length) (x : Int) (h0 : -9223372036854775808 ≤ x ∧ x ≤ 9223372036854775807) :
    w.cell? ⟨gb, m, none⟩ = some (.int .i64 (cs.getD m 0)) ∧ w.frozen? ⟨gb, m, none⟩ = false ∧
    StR w0 (w.setCell ⟨gb, m, none⟩ (.int .i64 x)) g t gb c0 pa pc rs at' (cs.set m x) ok most ∧ Only (fun q => q = g ∨ q = gb) w (w.setCell ⟨gb, m, none⟩ (.int .i64 x)) := by
  have hr := h.row.row
  have hgb := h.gb
  have hst := hr.stored m (.int .i64 x)
  have hs := hst.2.size
  have ho : Only (fun q => q = g ∨ q = gb) w (w.setCell ⟨gb, m, none⟩ (.int .i64 x)) := (Only.refl _ _).set (p := ⟨gb, m, none⟩) (.inr rfl) _
  refine ⟨?_, hr.frozenAt m, ⟨?_, ?_, h.ne, h.base, h.prg, ?_⟩, ho⟩
  · rw [hr.cellAt m (by omega)]; simp [List.getD_eq_getElem?_getD, List.getElem?_eq_getElem hm]
  · have := h.head.other (p := ⟨gb, m, none⟩) (Ne.symm h.ne) (.int .i64 x)
    simpa using this
  · refine ⟨by simpa using h.row.len, h.row.fit.set m h0, ?_, fun q hq => by cases hq; exact Nat.lt_of_lt_of_le hgb.2 hs, Nat.le_refl _, Nat.le_trans h.row.base hs⟩
    have := hst.1
    simpa [List.map_set] using this
  · exact h.old.trans (Kept.of_only ho (fun q hq => by have := h.base; omega))
theorem StR.jump {w0 w : World} {g : Nat} {t : TypeId} {gb c0 : Nat} {pa : Option Addr} {pc : Nat} {rs : List Ins} {at' : Int} {cs : List Int} {ok : Bool} {most : Int} (h : StR w0 w g t gb c0 pa pc rs at' cs ok most) (x : Int) :
    w.cell? ⟨g, 0, none⟩ = some (.int .i64 at') ∧ w.frozen? ⟨g, 0, none⟩ = false ∧
    StR w0 (w.setCell ⟨g, 0, none⟩ (.int .i64 x)) g t gb c0 pa pc rs x cs ok most ∧ Only (fun q => q = g ∨ q = gb) w (w.setCell ⟨g, 0, none⟩ (.int .i64 x)) := by
  have hgb := h.gb
  have ho : Only (fun q => q = g ∨ q = gb) w (w.setCell ⟨g, 0, none⟩ (.int .i64 x)) := (Only.refl _ _).set (p := ⟨g, 0, none⟩) (.inl rfl) _
  refine ⟨h.head.cell 0 rfl, h.head.frozen 0, ⟨h.head.set 0 (.int .i64 x), ?_, h.ne, h.base, h.prg, ?_⟩, ho⟩
  · have hb := ho.block gb hgb.2
    have hb2 : (w.setCell ⟨g, 0, none⟩ (.int .i64 x)).heap[gb]? = w.heap[gb]? := Below.heap_setCell w _ _ gb h.ne
    refine ⟨h.row.len, h.row.fit, ?_, fun q hq => by cases hq; exact Nat.lt_of_lt_of_le hgb.2 ho.size, Nat.le_refl _, Nat.le_trans h.row.base ho.size⟩
    obtain ⟨hl, hr⟩ := h.row.row
    refine ⟨hl, ?_⟩
    rcases hr with ⟨e, _⟩ | ⟨g', c', cur, e, h1, h2, h3⟩
    · cases e
    · simp only [Value.slice.injEq, Option.some.injEq, Addr.mk.injEq] at e
      obtain ⟨⟨rfl, _⟩, _, rfl⟩ := e
      exact .inr ⟨gb, c0, cur, rfl, h1, hb2.trans h2, h3⟩
  · exact h.old.trans (Kept.of_only ho (fun q hq => by have := h.base; omega))
end Go.Proofs.YtkjoakdepjpkhaaDoor.Ints
