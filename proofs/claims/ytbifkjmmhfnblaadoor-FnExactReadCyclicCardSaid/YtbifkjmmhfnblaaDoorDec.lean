/- The decimal numeral: the model's two loops over bytes, and the program's call of the library. -/
import Derived.Test.YtbifkjmmhfnblaaDoorTab
import Derived.Test.YtbifkjmmhfnblaaDoorByB
import Derived.Test.YtbifkjmmhfnblaaDoorItoa
import Derived.Test.YtbifkjmmhfnblaaDoorInts
import Derived.Test.YtbifkjmmhfnblaaDoorShf
import Derived.Laws.IdiomStrings
import Derived.Lib.UnsafeStr
import Derived.Lib.AppendIntMem
import Derived.BigRegion
import Derived.BigCall
namespace Go.Proofs.YtbifkjmmhfnblaaDoor.Ints
open Go.RowKit
set_option linter.unusedVariables false

set_option maxHeartbeats 4000000 in
set_option maxRecDepth 100000 in
theorem specDec (n : Int) (n0 : -9223372036854775808 ≤ n) (n1 : n ≤ 9223372036854775807) (w : World) :
    Calls Tryd.prog 98 #[.int .i64 n] w fun e w' => e = .returned (.string (bs (Lib.itoa n))) ∧ Below w.heap.size w w' := by
  by_cases hz : n = 0
  · subst hz
    go_enter Tryd.func98, Tryd.ntmps98
    go_wp2
    go_ret
    exact ⟨by rw [itoa_zero]; rfl, Below.refl _ _⟩
  obtain ⟨i0, hi, hz0, hz1, hz2⟩ := info_parts infoB
  have hzb : (n == 0) = false := by simp [hz]
  have HA : Hid (iRev n = dRev n.natAbs ++ (if n < 0 then [45] else [])) := Lib.hid rfl
  have HR : Hid ((iRev n).reverse = Lib.itoa n) := Lib.hid (iRev_reverse n hz)
  have HN : Hid ((dRev n.natAbs).length ≤ 20) := Lib.hid (dRev_length (by omega))
  have HP : Hid (dRev n.natAbs ≠ []) := Lib.hid (by rw [dRev_pos (by omega)]; simp)
  go_enter Tryd.func98, Tryd.ntmps98
  go_wp2
  go_loopw [3, 4] (fun o m wr => ∃ (ov : Value) (x : Int) (ds : List UInt8), o = ov ∧ m = .int .i64 x ∧ (0 ≤ n → 0 ≤ x) ∧ (n ≤ 0 → x ≤ 0) ∧ x.natAbs ≤ n.natAbs ∧ dRev n.natAbs = ds ++ dRev x.natAbs ∧ wr.ownsRow w.heap.size 5 1 ov ds.length (Lib.byteCells ds) ∧ Below w.heap.size w wr) (fun _ m _ => (intOf m).natAbs)
  case atStart => exact ⟨_, n, [], rfl, rfl, fun h => h, fun h => h, Nat.le_refl _, rfl, by simpa [Lib.byteCells] using World.ownsRow_made w #[] 0 (Nat.le_refl _) (by unfold maxLen; omega) (by simp), (Below.refl _ _).alloc (Nat.le_refl _) _⟩
  case round =>
    obtain ⟨ov, x, ds, hov, rfl, hx0, hx1, hx2, hds, hown, hbel⟩ := hrel
    obtain rfl := hov.symm
    have hsz := hbel.size
    have HW := Lib.hid hbel
    have hdl : ds.length ≤ 20 := by have h1 := congrArg List.length hds; rw [List.length_append] at h1; have := HN.out; omega
    by_cases hx : x = 0
    · subst hx
      obtain rfl : dRev n.natAbs = ds := by rw [hds]; simp [dRev_zero]
      clear hds hx0 hx1 hx2 hbel
      by_cases hn : n < 0
      · 
        go_wp2_with (at_builtin; refine wpList_append_own _ rfl _ _ 148 rfl w.heap.size 5 i0 (.int .u8 0) 1 1 Tryd.underlying148 hi hz0 hz1 hz2 rfl (by decide) _ _ _ rfl (hown.alloc _) ⟨_, 0, none⟩ 1 1 [.int .u8 45] rfl rfl ?a1 ?a2 ?a3 ?a4 ?a5 ?_)
        try (case a1 => exact cellNewB _ _)
        case a2 => first | rfl | (intro u hu; simp at hu; subst hu; rfl)
        case a3 => unfold maxLen; omega
        case a4 => omega
        case a5 => first | omega | (simp; omega)
        intro v' w1 hown1 hgrow _
        have HZ : Hid (Below w.heap.size w w1) := Lib.hid ((HW.out.alloc hsz (Obj.cells #[Value.int IntKind.u8 45] 5)).grown hgrow (by simp; omega) (fun q hq => (hown.lt q hq).1))
        have HR2 := Lib.hid HR.out
        obtain ⟨D, hD⟩ : ∃ D, D = iRev n := ⟨_, rfl⟩
        have hD2 : D = dRev n.natAbs ++ [45] := by rw [hD, HA.out, if_pos hn]
        rw [← hD] at HR
        have hfin : w1.ownsRow w.heap.size 5 1 v' D.length (Lib.byteCells D) := by rw [hD2]; simpa [Lib.byteCells] using hown1
        have hDl : D.length ≤ 21 := by rw [hD2, List.length_append]; simp; omega
        have hDp : 0 < D.length := by rw [hD2, List.length_append]; simp
        obtain ⟨wz, hwz⟩ : ∃ wz, wz = w1 := ⟨_, rfl⟩
        rw [← hwz] at hfin HZ ⊢
        clear hown1 hgrow hown hD hD2 hwz HA
        rcases hfin.2 with ⟨-, h0⟩ | ⟨g, cp, cur, rfl, -, -, -, -, -, -⟩
        · omega
        have HF := Lib.hid hfin
        have hgz := (hfin.lt g rfl).2
        clear hfin
        go_wp2
        go_loopw [6, 7] (fun o s wr => ∃ (k m : Nat) (ov : Value), o = ov ∧ k + m = D.length ∧ s = .int .i64 ((m : Int) - 1) ∧ wr.ownsRow wz.heap.size 5 1 ov k (Lib.byteCells (D.reverse.take k)) ∧ Below wz.heap.size wz wr) (fun _ s _ => (intOf s + 1).toNat)
        case atStart => exact ⟨0, D.length, _, rfl, by omega, rfl, by simpa [Lib.byteCells] using World.ownsRow_made wz #[] 0 (Nat.le_refl _) (by unfold maxLen; omega) (by simp), (Below.refl _ _).alloc (Nat.le_refl _) _⟩
        case round =>
          obtain ⟨k, m, ov, hov, hkm, hs, hown, hbel⟩ := hrel
          obtain rfl := hov.symm
          have hsz := hbel.size
          have HW := Lib.hid hbel
          cases m with
          | zero =>
            obtain rfl := hs
            obtain rfl : k = D.length := by omega
            rw [List.take_of_length_le (by simp)] at hown
            rcases hown.2 with ⟨-, h0⟩ | ⟨g2, cp2, cur2, rfl, -, -, -, -, -, -⟩
            · omega
            obtain ⟨l, hl⟩ : ∃ l, l = D.reverse := ⟨_, rfl⟩
            have hll : D.length = l.length := by rw [hl]; simp
            rw [← hl, hll] at hown
            have hcv := run_convert_bytes_back (P := Tryd.prog) wr 148 9 5 ⟨g2, 0, none⟩ cp2 l Tryd.underlying148 Tryd.underlying5 Tryd.underlying9 (fun j hj => hown.cells (g := g2) rfl j _ (by simp [Lib.byteCells, hj]))
            rw [hll]
            have HL := Lib.hid hl
            clear hown hbel hl hll
            go_wp2
            go_ret
            exact ⟨by rw [HL.out, HR.out]; rfl, (HZ.out.trans (HW.out.mono (by have := HZ.out.size; omega)))⟩
          | succ m =>
            rw [show (((m + 1 : Nat) : Int) - 1) = (m : Int) by omega] at hs
            obtain rfl := hs
            obtain ⟨x, hx⟩ : ∃ x, x = D.getD m 0 := ⟨_, rfl⟩
            have hc : wr.cell? ⟨g, m, none⟩ = some (.int .u8 (x.toNat : Int)) := by
              have h1 := HF.out.cellAt m (by omega)
              rw [hbel.cell (p := ⟨g, m, none⟩) hgz, h1, hx]
              simp [Lib.byteCells, List.getD_eq_getElem?_getD, List.getElem?_eq_getElem (show m < D.length by omega)]
            have i0' : (0 : Int) ≤ (m : Int) := by omega
            have i1 : (m : Int) < (D.length : Int) := by omega
            have HS : Hid (D.reverse.take (k + 1) = D.reverse.take k ++ [x]) := Lib.hid (by rw [rev_snocB D k (by omega), hx, show D.length - 1 - k = m by omega])
            clear hbel hx
            go_wp2_with (at_builtin; refine wpList_append_own _ rfl _ _ 148 rfl wz.heap.size 5 i0 (.int .u8 0) 1 1 Tryd.underlying148 hi hz0 hz1 hz2 rfl (by decide) _ _ _ rfl (hown.alloc _) ⟨_, 0, none⟩ 1 1 [.int .u8 (x.toNat : Int)] rfl rfl ?b1 ?b2 ?b3 ?b4 ?b5 ?_)
            try (case b1 => exact cellNewB _ _)
            case b2 => first | rfl | (intro u hu; simp at hu; subst hu; rfl)
            case b3 => unfold maxLen; omega
            case b4 => omega
            case b5 => first | omega | (simp; omega)
            intro v' w1 hown1 hgrow _
            have HO : Hid (w1.ownsRow wz.heap.size 5 1 v' (k + 1) (Lib.byteCells (D.reverse.take (k + 1)))) := Lib.hid (by rw [HS.out]; simpa [Lib.byteCells] using hown1)
            have HQ := Lib.hid ((HW.out.alloc hsz (Obj.cells #[Value.int IntKind.u8 (x.toNat : Int)] 5)).grown hgrow (by simp; omega) (fun q hq => (hown.lt q hq).1))
            clear hown1 hgrow hown
            go_wp2
            go_roundw
            case rel => exact ⟨k + 1, m, v', rfl, by omega, rfl, HO.out, HQ.out⟩
            case measure => simp [intOf]
      · obtain ⟨D, hD⟩ : ∃ D, D = iRev n := ⟨_, rfl⟩
        have hD2 : D = dRev n.natAbs := by rw [hD, HA.out, if_neg hn, List.append_nil]
        rw [← hD] at HR
        rw [← hD2] at hown hdl
        have HPD := Lib.hid HP.out
        rw [← hD2] at HPD
        have hDp : 0 < D.length := List.length_pos_iff.2 HPD.out
        have hDl : D.length ≤ 21 := by omega
        obtain ⟨wz, hwz⟩ : ∃ wz, wz = wr := ⟨_, rfl⟩
        rw [← hwz] at hown HW ⊢
        have HZ : Hid (Below w.heap.size w wz) := Lib.hid HW.out
        have hfin := hown
        clear hown hD hwz HA HPD HW hsz
        clear hD2
        rcases hfin.2 with ⟨-, h0⟩ | ⟨g, cp, cur, rfl, -, -, -, -, -, -⟩
        · omega
        have HF := Lib.hid hfin
        have hgz := (hfin.lt g rfl).2
        clear hfin
        go_wp2
        go_loopw [6, 7] (fun o s wr => ∃ (k m : Nat) (ov : Value), o = ov ∧ k + m = D.length ∧ s = .int .i64 ((m : Int) - 1) ∧ wr.ownsRow wz.heap.size 5 1 ov k (Lib.byteCells (D.reverse.take k)) ∧ Below wz.heap.size wz wr) (fun _ s _ => (intOf s + 1).toNat)
        case atStart => exact ⟨0, D.length, _, rfl, by omega, rfl, by simpa [Lib.byteCells] using World.ownsRow_made wz #[] 0 (Nat.le_refl _) (by unfold maxLen; omega) (by simp), (Below.refl _ _).alloc (Nat.le_refl _) _⟩
        case round =>
          obtain ⟨k, m, ov, hov, hkm, hs, hown, hbel⟩ := hrel
          obtain rfl := hov.symm
          have hsz := hbel.size
          have HW := Lib.hid hbel
          cases m with
          | zero =>
            obtain rfl := hs
            obtain rfl : k = D.length := by omega
            rw [List.take_of_length_le (by simp)] at hown
            rcases hown.2 with ⟨-, h0⟩ | ⟨g2, cp2, cur2, rfl, -, -, -, -, -, -⟩
            · omega
            obtain ⟨l, hl⟩ : ∃ l, l = D.reverse := ⟨_, rfl⟩
            have hll : D.length = l.length := by rw [hl]; simp
            rw [← hl, hll] at hown
            have hcv := run_convert_bytes_back (P := Tryd.prog) wr 148 9 5 ⟨g2, 0, none⟩ cp2 l Tryd.underlying148 Tryd.underlying5 Tryd.underlying9 (fun j hj => hown.cells (g := g2) rfl j _ (by simp [Lib.byteCells, hj]))
            rw [hll]
            have HL := Lib.hid hl
            clear hown hbel hl hll
            go_wp2
            go_ret
            exact ⟨by rw [HL.out, HR.out]; rfl, (HZ.out.trans (HW.out.mono (by have := HZ.out.size; omega)))⟩
          | succ m =>
            rw [show (((m + 1 : Nat) : Int) - 1) = (m : Int) by omega] at hs
            obtain rfl := hs
            obtain ⟨x, hx⟩ : ∃ x, x = D.getD m 0 := ⟨_, rfl⟩
            have hc : wr.cell? ⟨g, m, none⟩ = some (.int .u8 (x.toNat : Int)) := by
              have h1 := HF.out.cellAt m (by omega)
              rw [hbel.cell (p := ⟨g, m, none⟩) hgz, h1, hx]
              simp [Lib.byteCells, List.getD_eq_getElem?_getD, List.getElem?_eq_getElem (show m < D.length by omega)]
            have i0' : (0 : Int) ≤ (m : Int) := by omega
            have i1 : (m : Int) < (D.length : Int) := by omega
            have HS : Hid (D.reverse.take (k + 1) = D.reverse.take k ++ [x]) := Lib.hid (by rw [rev_snocB D k (by omega), hx, show D.length - 1 - k = m by omega])
            clear hbel hx
            go_wp2_with (at_builtin; refine wpList_append_own _ rfl _ _ 148 rfl wz.heap.size 5 i0 (.int .u8 0) 1 1 Tryd.underlying148 hi hz0 hz1 hz2 rfl (by decide) _ _ _ rfl (hown.alloc _) ⟨_, 0, none⟩ 1 1 [.int .u8 (x.toNat : Int)] rfl rfl ?c1 ?c2 ?c3 ?c4 ?c5 ?_)
            try (case c1 => exact cellNewB _ _)
            case c2 => first | rfl | (intro u hu; simp at hu; subst hu; rfl)
            case c3 => unfold maxLen; omega
            case c4 => omega
            case c5 => first | omega | (simp; omega)
            intro v' w1 hown1 hgrow _
            have HO : Hid (w1.ownsRow wz.heap.size 5 1 v' (k + 1) (Lib.byteCells (D.reverse.take (k + 1)))) := Lib.hid (by rw [HS.out]; simpa [Lib.byteCells] using hown1)
            have HQ := Lib.hid ((HW.out.alloc hsz (Obj.cells #[Value.int IntKind.u8 (x.toNat : Int)] 5)).grown hgrow (by simp; omega) (fun q hq => (hown.lt q hq).1))
            clear hown1 hgrow hown
            go_wp2
            go_roundw
            case rel => exact ⟨k + 1, m, v', rfl, by omega, rfl, HO.out, HQ.out⟩
            case measure => simp [intOf]
    · obtain ⟨c, q, hc10, hce, hqa, hq0, hq1, e2, e1⟩ := decParts x hx
      obtain ⟨b, hb⟩ : ∃ b, b = UInt8.ofNat (48 + c) := ⟨_, rfl⟩
      have HBv := Lib.hid hb
      have HX : Hid ((0 ≤ n → 0 ≤ q) ∧ (n ≤ 0 → q ≤ 0) ∧ q.natAbs ≤ n.natAbs) := Lib.hid ⟨fun h => hq0 (hx0 h), fun h => hq1 (hx1 h), by omega⟩
      have HS : Hid (dRev n.natAbs = (ds ++ [b]) ++ dRev q.natAbs) := Lib.hid (by rw [hds, dRev_pos (u := x.natAbs) (by omega), hb, hce, hqa]; simp)
      have HM : Hid (q.natAbs < x.natAbs) := Lib.hid (by omega)
      have q0 : -9223372036854775808 ≤ q := by omega
      have q1 : q ≤ 9223372036854775807 := by omega
      clear hb hce hqa hq0 hq1 hx0 hx1 hx2 hds hbel
      rcases e1 with e1 | ⟨hcp, e1⟩
      · 
        have e3 : IntKind.u8.wrap (48 + (c : Int)) = (b.toNat : Int) := by rw [HBv.out]; exact u8dig hc10
        have c0 : (0 : Int) ≤ (c : Int) := by omega
        have c1 : (c : Int) < 10 := by omega
        have c2 : ¬ (c : Int) < 0 := by omega
        go_wp2_with (at_builtin; refine wpList_append_own _ rfl _ _ 148 rfl w.heap.size 5 i0 (.int .u8 0) 1 1 Tryd.underlying148 hi hz0 hz1 hz2 rfl (by decide) _ _ _ rfl (hown.alloc _) ⟨_, 0, none⟩ 1 1 [.int .u8 (b.toNat : Int)] rfl rfl ?d1 ?d2 ?d3 ?d4 ?d5 ?_)
        try (case d1 => exact cellNewB _ _)
        case d2 => first | rfl | (intro u hu; simp at hu; subst hu; rfl)
        case d3 => unfold maxLen; omega
        case d4 => omega
        case d5 => first | omega | (simp; omega)
        intro v' w1 hown1 hgrow _
        have HO : Hid (w1.ownsRow w.heap.size 5 1 v' (ds ++ [b]).length (Lib.byteCells (ds ++ [b]))) := Lib.hid (by simpa [Lib.byteCells] using hown1)
        have HQ := Lib.hid ((HW.out.alloc hsz (Obj.cells #[Value.int IntKind.u8 (b.toNat : Int)] 5)).grown hgrow (by simp; omega) (fun q hq => (hown.lt q hq).1))
        clear hown1 hgrow hown
        go_wp2
        go_roundw
        case rel => exact ⟨v', q, ds ++ [b], rfl, rfl, HX.out.1, HX.out.2.1, HX.out.2.2, HS.out, HO.out, HQ.out⟩
        case measure => have := HM.out; simp [intOf]; omega
      · 
        have e3 : IntKind.u8.wrap (48 + (c : Int)) = (b.toNat : Int) := by rw [HBv.out]; exact u8dig hc10
        have c0 : (0 : Int) ≤ (c : Int) := by omega
        have c1 : (c : Int) < 10 := by omega
        have c2 : -(c : Int) < 0 := by omega
        go_wp2_with (at_builtin; refine wpList_append_own _ rfl _ _ 148 rfl w.heap.size 5 i0 (.int .u8 0) 1 1 Tryd.underlying148 hi hz0 hz1 hz2 rfl (by decide) _ _ _ rfl (hown.alloc _) ⟨_, 0, none⟩ 1 1 [.int .u8 (b.toNat : Int)] rfl rfl ?e1 ?e2 ?e3 ?e4 ?e5 ?_)
        try (case e1 => exact cellNewB _ _)
        case e2 => first | rfl | (intro u hu; simp at hu; subst hu; rfl)
        case e3 => unfold maxLen; omega
        case e4 => omega
        case e5 => first | omega | (simp; omega)
        intro v' w1 hown1 hgrow _
        have HO : Hid (w1.ownsRow w.heap.size 5 1 v' (ds ++ [b]).length (Lib.byteCells (ds ++ [b]))) := Lib.hid (by simpa [Lib.byteCells] using hown1)
        have HQ := Lib.hid ((HW.out.alloc hsz (Obj.cells #[Value.int IntKind.u8 (b.toNat : Int)] 5)).grown hgrow (by simp; omega) (fun q hq => (hown.lt q hq).1))
        clear hown1 hgrow hown
        go_wp2
        go_roundw
        case rel => exact ⟨v', q, ds ++ [b], rfl, rfl, HX.out.1, HX.out.2.1, HX.out.2.2, HS.out, HO.out, HQ.out⟩
        case measure => have := HM.out; simp [intOf]; omega

theorem implDec (n : Int) (n0 : -9223372036854775808 ≤ n) (n1 : n ≤ 9223372036854775807) (w : World) (ht : TabV w) :
    Calls Tryd.prog 85 #[.int .i64 n] w fun e w' => e = .returned (.string (bs (Lib.itoa n))) ∧ Below w.heap.size w w' := by
  have HT := Lib.hid ht
  clear ht
  go_enter Tryd.func85, Tryd.ntmps85
  go_wp2_with fail
  refine (Tryd.strconv_FormatInt_10 n n0 n1 _ HT.out).mono ?_
  rintro e w' ⟨rfl, k, os, rfl⟩
  have HB : Hid (Below w.heap.size w (Sort.grow (w.drewN k) os)) := Lib.hid (Lib.below_grow _ _ (Nat.le_refl _) k os)
  go_wp2
  go_ret
  exact ⟨rfl, HB.out⟩
end Go.Proofs.YtbifkjmmhfnblaaDoor.Ints
