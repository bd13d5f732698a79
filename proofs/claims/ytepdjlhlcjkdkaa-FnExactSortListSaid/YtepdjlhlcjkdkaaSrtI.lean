/- slices.Sort, slices.Compact on rows of the call's own; the program's SortList. -/
import Derived.Test.YtepdjlhlcjkdkaaSrtP
import Derived.Test.YtepdjlhlcjkdkaaShf
namespace Go.Proofs.Ytepdjlhlcjkdkaa.Ints
open Go.RowKit
set_option linter.unusedVariables false
set_option linter.unusedSimpArgs false
theorem libSort (v : Value) (zs : List Int) (B T : Nat) (w : World) (h : Ow w B T v zs) :
    Calls Try.prog 108 #[v] w fun e w' => e = .returned (.tuple #[]) ∧ Ow w' B T v (srt zs) ∧ w.grownBy w' v.ownBlock := by
  have hl := h.len
  rcases h.form with ⟨rfl, rfl⟩ | ⟨g, c, rfl, hb, hg, hn, hm, hr⟩
  · refine (Try.slices_Sort_int_none none 0 w).mono ?_
    rintro e w' ⟨rfl, rfl⟩
    exact ⟨rfl, by simpa [srt] using h, grown_refl _ _⟩
  · have hblk : g < w.heap.size := Nat.lt_of_lt_of_le hg h.size
    refine (Try.slices_Sort_int g 0 c zs w h.holds hblk (by omega)).mono ?_
    rintro e w' ⟨rfl, n, os, rfl⟩
    have := own_srt h n os
    exact ⟨rfl, this.1, this.2⟩
theorem libCompact (v : Value) (zs : List Int) (B T : Nat) (w : World) (h : Ow w B T v zs) :
    Calls Try.prog 147 #[v] w fun e w' => ∃ u, e = .returned u ∧ Ow w' B T u (Lib.compact zs) ∧ w.grownBy w' v.ownBlock := by
  have hl := h.len
  rcases h.form with ⟨rfl, rfl⟩ | ⟨g, c, rfl, hb, hg, hn, hm, hr⟩
  · refine (Try.slices_Compact_int_empty none 0 w).mono ?_
    rintro e w' ⟨rfl, rfl⟩
    exact ⟨_, rfl, by simpa [Lib.compact, Lib.compactUpTo] using h, grown_refl _ _⟩
  · refine (Try.slices_Compact_int g 0 c zs w h.holds (by omega) hn).mono ?_
    rintro e w' ⟨rfl, q, rfl⟩
    have hc := compact_le zs
    have ht : (Lib.compact zs ++ List.replicate (zs.length - (Lib.compact zs).length) 0).take (Lib.compact zs).length = Lib.compact zs := by simp
    have := own_put h (Lib.compact zs ++ List.replicate (zs.length - (Lib.compact zs).length) 0) (by simp; omega) (Lib.compact zs).length hc (by rw [ht]; exact fun z hz => h.fit z ((compact_mem zs z).1 hz)) q #[]
    rw [ht, Sort.grow_empty] at this
    exact ⟨_, rfl, this.1, this.2⟩
theorem implSortList (v : Value) (zs : List Int) (w : World) (h : Rd w v zs) :
    Calls Try.prog 50 #[v] w fun e w' => ∃ u, e = .returned u ∧ Ow w' w.heap.size w'.heap.size u (srt zs) ∧ Below w.heap.size w w' := by
  have H := Lib.hid h
  obtain ⟨_, _, a, c, rfl, _, _⟩ := h
  go_enter Try.func50, Try.ntmps50
  go_wp2_with fail
  refine (libClone _ zs _ H.out).mono ?_
  rintro e w1 ⟨u, rfl, ho, hb⟩
  have HO := Lib.hid ho
  have HB := Lib.hid hb
  clear ho hb
  go_wp2_with fail
  refine (libSort _ zs _ _ _ HO.out).mono ?_
  rintro e w2 ⟨rfl, ho, hg⟩
  have HO2 := Lib.hid (ho.mono (Nat.le_refl _) ho.size (Nat.le_refl _))
  have HB2 := Lib.hid (HB.out.trans (grown_below HO.out hg))
  clear ho hg
  go_wp2
  go_ret
  exact ⟨_, rfl, HO2.out, HB2.out⟩
end Go.Proofs.Ytepdjlhlcjkdkaa.Ints
