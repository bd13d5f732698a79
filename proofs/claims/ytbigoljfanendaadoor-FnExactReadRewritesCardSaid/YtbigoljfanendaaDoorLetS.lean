/- Letters as digits, of the model. -/
import Derived.Test.YtbigoljfanendaaDoorByB
import Derived.Test.YtbigoljfanendaaDoorOwn
import Derived.Test.YtbigoljfanendaaDoorDig
import Derived.Laws.IdiomStrings
import Derived.BigRegion
namespace Go.Proofs.YtbigoljfanendaaDoor.Ints
open Go.RowKit
set_option linter.unusedVariables false
set_option linter.unusedSimpArgs false

def wdT (zs : List Int) : List UInt8 := if zs = [] then [45] else dgT zs
set_option maxHeartbeats 4000000 in
theorem specText3 (v : Value) (zs : List Int) (w : World) (h : Rd w v zs) (hd : Dig 10 zs) :
    Calls Tryd.prog 109 #[v] w fun e w' => e = .returned (.string (bs (wdT zs))) ∧ Below w.heap.size w w' := by
  obtain ⟨hl, hf, a, c, rfl, hcap, hr⟩ := h
  have HC := Lib.hid hr
  have HDg := Lib.hid hd
  clear hr hf hd
  by_cases h0 : zs = []
  · subst h0
    go_enter Tryd.func109, Tryd.ntmps109
    go_wp2
    go_ret
    exact ⟨rfl, Below.refl _ _⟩
  have hpos : 0 < zs.length := List.length_pos_iff.2 h0
  have hzb : ((zs.length : Int) == 0) = false := by simpa using h0
  have HG : Hid (wdT zs = dgT zs) := Lib.hid (if_neg h0)
  obtain ⟨i0, hi, hz0, hz1, hz2⟩ := info_parts infoB
  clear h0
  go_enter Tryd.func109, Tryd.ntmps109
  go_wp2
  go_loopw [3, 4] (fun o i wr => ∃ (k : Nat) (ov : Value), o = ov ∧ k ≤ zs.length ∧ i = .int .i64 k ∧ wr.ownsRow w.heap.size 5 1 ov k (Lib.byteCells (dgT (zs.take k))) ∧ Below w.heap.size w wr) (fun _ i _ => zs.length - (intOf i).toNat)
  case atStart => exact ⟨0, _, rfl, Nat.zero_le _, rfl, by simpa [Lib.byteCells, dgT] using World.ownsRow_made w #[] 0 (Nat.le_refl _) (by unfold maxLen; omega) (by simp), (Below.refl _ _).alloc (Nat.le_refl _) _⟩
  case round =>
    obtain ⟨k, ov, hov, hk, rfl, hown, hbel⟩ := hrel
    obtain rfl := hov.symm
    have HW := Lib.hid hbel
    have hsz := hbel.size
    by_cases hlt : k < zs.length
    · obtain ⟨b, o, rfl, hb, hcell⟩ := HC.out (by intro h0; rw [h0] at hlt; simp at hlt)
      obtain ⟨x, hx⟩ : ∃ x, x = zs.getD k 0 := ⟨_, rfl⟩
      have hc : wr.cell? ⟨b, o + k, none⟩ = some (.int .i64 x) := by rw [hx]; exact (hbel.cell hb).trans (hcell k hlt)
      have hxd : 0 ≤ x ∧ x < 10 := by rw [hx]; exact HDg.out k hlt
      obtain ⟨x0, x1⟩ := hxd
      have i0' : (0 : Int) ≤ (k : Int) := by omega
      have i1 : (k : Int) < (zs.length : Int) := by omega
      obtain ⟨y, hy⟩ : ∃ y, y = UInt8.ofNat (48 + x.toNat) := ⟨_, rfl⟩
      have HS : Hid (dgT (zs.take (k + 1)) = dgT (zs.take k) ++ [y]) := Lib.hid (by rw [dgT_succ zs k hlt, hy, hx])
      have e3 : IntKind.u8.wrap (48 + x) = (y.toNat : Int) := by rw [hy]; exact u8digI x0 x1
      clear hbel hcell hx hy
      go_wp2_with (at_builtin; refine wpList_append_own _ rfl _ _ 51 rfl w.heap.size 5 i0 (.int .u8 0) 1 1 Tryd.underlying51 hi hz0 hz1 hz2 rfl (by decide) _ _ _ rfl (hown.alloc _) ⟨_, 0, none⟩ 1 1 [.int .u8 (y.toNat : Int)] rfl rfl ?c1 ?c2 ?c3 ?c4 ?c5 ?_)
      try (case c1 => exact cellNewB _)
      case c2 => first | rfl | (intro u hu; simp at hu; subst hu; rfl)
      case c3 => unfold maxLen; omega
      case c4 => omega
      case c5 => first | omega | (simp; omega)
      intro v' w1 hown1 hgrow _
      have HO : Hid (w1.ownsRow w.heap.size 5 1 v' (k + 1) (Lib.byteCells (dgT (zs.take (k + 1))))) := Lib.hid (by rw [HS.out]; simpa [Lib.byteCells] using hown1)
      have HQ := Lib.hid ((HW.out.alloc hsz (Obj.cells #[Value.int IntKind.u8 (y.toNat : Int)] 5)).grown hgrow (by simp; omega) (fun q hq => (hown.lt q hq).1))
      clear hown1 hgrow hown
      go_wp2
      go_roundw
      case rel => exact ⟨k + 1, v', rfl, by omega, by go_num, HO.out, HQ.out⟩
      case measure => simp [intOf]; omega
    · obtain rfl : k = zs.length := by omega
      rw [List.take_length] at hown
      rcases hown.2 with ⟨-, h0⟩ | ⟨g2, cp2, cur2, rfl, -, -, -, -, -, -⟩
      · omega
      obtain ⟨l, hl2⟩ : ∃ l, l = dgT zs := ⟨_, rfl⟩
      have hll : zs.length = l.length := by rw [hl2, dgT_length]
      rw [← hl2] at hown
      have hnlt : ¬ ((zs.length : Int) < (zs.length : Int)) := by omega
      have hcv := run_convert_bytes_back (P := Tryd.prog) wr 51 9 5 ⟨g2, 0, none⟩ cp2 l Tryd.underlying51 Tryd.underlying5 Tryd.underlying9 (fun j hj => hown.cells (g := g2) rfl j _ (by simp [Lib.byteCells, hj]))
      rw [← hll] at hcv
      have HL := Lib.hid hl2
      clear hown hbel hl2 hll hlt
      go_wp2
      go_ret
      exact ⟨by rw [HL.out, HG.out]; rfl, HW.out⟩
end Go.Proofs.YtbigoljfanendaaDoor.Ints
