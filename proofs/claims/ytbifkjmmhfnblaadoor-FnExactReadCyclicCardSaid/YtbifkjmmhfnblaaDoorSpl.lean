/- A text parted at a byte: the model's. -/
import Derived.Test.YtbifkjmmhfnblaaDoorPcs
import Derived.Test.YtbifkjmmhfnblaaDoorBts
import Derived.Test.YtbifkjmmhfnblaaDoorInts
import Derived.Test.YtbifkjmmhfnblaaDoorOwn
import Derived.Test.YtbifkjmmhfnblaaDoorCel
import Derived.Lib.OthersKept
import Derived.WalkSmall
import Derived.OneCell
namespace Go.Proofs.YtbifkjmmhfnblaaDoor.Ints
open Go.RowKit
set_option linter.unusedVariables false
set_option linter.unusedSimpArgs false
theorem infoSt : (Tryd.prog.info? 9).map (fun i => (i.zero, i.size, i.bytes)) = some (some (.string ⟨#[]⟩), 1, 16) := by kernel_rfl
/-- Texts as a row's values. -/
def strL (ts : List (List UInt8)) : List Value := ts.map fun l => .string (bs l)
theorem strL_len (ts : List (List UInt8)) : (strL ts).length = ts.length := by simp [strL]
theorem strL_snoc (ts : List (List UInt8)) (t : List UInt8) : strL (ts ++ [t]) = strL ts ++ [.string (bs t)] := by simp [strL]
theorem strL_at {ts : List (List UInt8)} {j : Nat} (h : j < ts.length) : (strL ts)[j]? = some (.string (bs (ts.getD j []))) := by
  rw [strL, List.getElem?_map, List.getElem?_eq_getElem h, List.getD_eq_getElem?_getD, List.getElem?_eq_getElem h]; rfl
/-- A row of texts that can be read. -/
def RdS (w : World) (v : Value) (ts : List (List UInt8)) : Prop := ∃ b c, v = .slice (some ⟨b, 0, none⟩) ts.length c ∧ ts.length ≤ c ∧ b < w.heap.size ∧ ∀ j, j < ts.length → w.cell? ⟨b, j, none⟩ = some (.string (bs (ts.getD j [])))
theorem RdS.below {w w' : World} {B : Nat} {v : Value} {ts : List (List UInt8)} (h : RdS w v ts) (hb : Below B w w') (hB : w.heap.size ≤ B) : RdS w' v ts := by
  obtain ⟨b, c, rfl, h1, h2, h3⟩ := h
  exact ⟨b, c, rfl, h1, Nat.lt_of_lt_of_le h2 hb.size, fun j hj => (hb.cell (Nat.lt_of_lt_of_le h2 hB)).trans (h3 j hj)⟩
theorem rds_of_own {w : World} {B : Nat} {v : Value} {ts : List (List UInt8)} (h : w.ownsRow B 9 1 v ts.length (strL ts)) (h0 : 0 < ts.length) : RdS w v ts := by
  rcases h.2 with ⟨rfl, h1⟩ | ⟨g, cp, cur, rfl, _, _, hcp, _⟩
  · omega
  · have hc := h.cells (g := g) rfl
    have hlt := (h.lt g rfl).2
    exact ⟨g, cp, rfl, hcp, hlt, fun j hj => by have := hc j _ (strL_at hj); rw [Addr.add_lit, Nat.zero_add] at this; exact this⟩
/-- The same with its block laid open. -/
def RdSC (w : World) (v : Value) (ts : List (List UInt8)) : Prop := ∃ b c cs, v = .slice (some ⟨b, 0, none⟩) ts.length c ∧ ts.length ≤ c ∧ Cels w b 9 cs ∧ ∀ j, j < ts.length → cs[j]? = some (.string (bs (ts.getD j [])))
theorem rdsc_of_own {w : World} {B : Nat} {v : Value} {ts : List (List UInt8)} (h : w.ownsRow B 9 1 v ts.length (strL ts)) (h0 : 0 < ts.length) : RdSC w v ts := by
  rcases h.2 with ⟨rfl, h1⟩ | ⟨g, cp, cur, rfl, h2, h3, hcp, h5, h6, h7⟩
  · omega
  · refine ⟨g, cp, cur.toList, rfl, hcp, by show w.heap[g]? = _; rw [h3], fun j hj => ?_⟩
    have h8 := strL_at hj
    rw [← h7, List.getElem?_take] at h8
    rwa [if_pos (by omega)] at h8
theorem rds_alloc (w : World) (ts : List (List UInt8)) (t : TypeId) (n : Nat) (hn : n = ts.length) : RdS (w.alloc (.cells (strL ts).toArray t)) (.slice (some ⟨w.heap.size, 0, none⟩) n n) ts := by
  subst hn
  refine ⟨_, _, rfl, Nat.le_refl _, by simp, fun j hj => ?_⟩
  have hn := heap_alloc_new w (.cells (strL ts).toArray t)
  have ha := strL_at hj
  simp only [World.cell?, hn]
  simpa using ha
theorem bt_gets {s : ByteArray} {i : Nat} (h : i < s.size) : bt s i = (s.data.toList.getD i 0).toNat := by
  rw [bt_at h, List.getD_eq_getElem?_getD, List.getElem?_eq_getElem (by simpa using h)]; rfl
set_option maxHeartbeats 4000000 in
theorem specSplitO (s : ByteArray) (c : UInt8) (b : Int) (hb : b = (c.toNat : Int)) (w : World) (hs : s.size ≤ 1048576) :
    Calls Tryd.prog 41 #[.string s, .int .u8 b] w fun e w' => ∃ u, e = .returned u ∧ w'.ownsRow w.heap.size 9 1 u (pcs c s.data.toList).length (strL (pcs c s.data.toList)) ∧ Below w.heap.size w w' := by
  obtain ⟨n0, hi, hz0, hz1, hz2⟩ := info_parts infoSt
  obtain ⟨cn, hcn⟩ : ∃ n : Nat, n = c.toNat := ⟨_, rfl⟩
  obtain rfl : b = (cn : Int) := by rw [hb, hcn]
  have HCn := Lib.hid hcn
  have HB0 : Hid (∀ k, k < s.size → s.data.toList.take (k + 1) = s.data.toList.take k ++ [s.data.toList.getD k 0] ∧ bt s k = (s.data.toList.getD k 0).toNat) := Lib.hid (fun k hk => by
    have hk2 : k < s.data.toList.length := by have := Lib.size_eq s; omega
    exact ⟨by rw [List.take_succ_eq_append_getElem hk2, List.getD_eq_getElem?_getD, List.getElem?_eq_getElem hk2]; rfl, bt_gets hk⟩)
  have HEx : Hid (∀ k, k ≤ s.size → s.extract (k - (pcRun c (s.data.toList.take k)).2.length) k = bs (pcRun c (s.data.toList.take k)).2) := Lib.hid (fun k hk => extract_cur c s k hk)
  have HLe : Hid (∀ k, (pcRun c (s.data.toList.take k)).1.length + (pcRun c (s.data.toList.take k)).2.length ≤ k) := Lib.hid (fun k => by
    have := pcRun_le c (s.data.toList.take k)
    rw [List.length_take] at this
    omega)
  have HAl : Hid (s.data.toList.take s.size = s.data.toList) := Lib.hid (by rw [Lib.size_eq s, List.take_length])
  clear hb hcn
  go_enter Tryd.func41, Tryd.ntmps41
  go_wp2
  go_loopw [5, 6, 7] (fun o f i wr => ∃ (k f' : Nat) (ov : Value), o = ov ∧ k ≤ s.size ∧ i = .int .i64 (k : Int) ∧ f = .int .i64 (f' : Int) ∧ f' = k - (pcRun c (s.data.toList.take k)).2.length ∧ wr.ownsRow w.heap.size 9 1 ov (pcRun c (s.data.toList.take k)).1.length (strL (pcRun c (s.data.toList.take k)).1) ∧ Below w.heap.size w wr) (fun _ _ i _ => s.size - (intOf i).toNat)
  case atStart =>
    exact ⟨0, 0, _, rfl, Nat.zero_le _, rfl, rfl, by simp, by simpa [pcRun, strL] using World.ownsRow_made w #[] 0 (Nat.le_refl _) (by unfold maxLen; omega) (by simp), (Below.refl _ _).alloc (Nat.le_refl _) _⟩
  case round =>
    obtain ⟨k, f', ov, hov, hk, rfl, rfl, hf', hown, hbel⟩ := hrel
    obtain rfl := hov.symm
    have HW := Lib.hid hbel
    have hsz := hbel.size
    obtain ⟨ds, hds⟩ : ∃ ds, ds = (pcRun c (s.data.toList.take k)).1 := ⟨_, rfl⟩
    obtain ⟨cur, hcur⟩ : ∃ ds, ds = (pcRun c (s.data.toList.take k)).2 := ⟨_, rfl⟩
    have HR : Hid (pcRun c (s.data.toList.take k) = (ds, cur)) := Lib.hid (by rw [hds, hcur])
    have hex := HEx.out k hk
    have hle := HLe.out k
    rw [← hds, ← hcur] at hle
    rw [← hds] at hown
    rw [← hcur] at hf'
    rw [← hcur, ← hf'] at hex
    have hfk : f' ≤ k := by omega
    have hdl : ds.length ≤ 1048576 := by omega
    obtain ⟨n, hn⟩ : ∃ n, n = ds.length := ⟨_, rfl⟩
    rw [← hn] at hown hdl
    have HF := Lib.hid hf'
    have HN := Lib.hid hn
    have HEX := Lib.hid hex
    have f0 : (0 : Int) ≤ (f' : Int) := by omega
    have f1 : (f' : Int) ≤ (k : Int) := by omega
    have f2 : (k : Int) ≤ (s.size : Int) := by omega
    clear hbel hds hcur hf' hle hn hex
    by_cases hlt : k < s.size
    · obtain ⟨x, hx⟩ : ∃ x, x = bt s k := ⟨_, rfl⟩
      have hidk := idxS hlt hx
      have hck : (s[k]'hlt).toNat = x := by rw [hx, bt_at hlt]
      have i0' : (0 : Int) ≤ (k : Int) := by omega
      have i1 : (k : Int) < (s.size : Int) := by omega
      have HX : Hid (x = (s.data.toList.getD k 0).toNat) := Lib.hid (by rw [hx]; exact (HB0.out k hlt).2)
      have HT := Lib.hid (HB0.out k hlt).1
      by_cases hq : x = cn
      · have hbq : ((x : Int) == (cn : Int)) = true := by rw [hq]; simp
        have HS : Hid (pcRun c (s.data.toList.take (k + 1)) = (ds ++ [cur], [])) := Lib.hid (by
          rw [HT.out, pcRun_snoc, HR.out, pcStep, if_pos]
          exact UInt8.toNat_inj.1 (by rw [← HX.out, hq, HCn.out]))
        obtain ⟨t, ht⟩ : ∃ t, t = bs cur := ⟨_, rfl⟩
        have hxt : s.extract f' k = t := by rw [HEX.out, ht]
        have HTt := Lib.hid ht
        clear hx hq ht
        go_wp2_with (at_builtin; refine wpList_append_own _ rfl _ _ 64 rfl w.heap.size 9 n0 (.string ⟨#[]⟩) 1 16 Tryd.underlying64 hi hz0 hz1 hz2 rfl (by decide) _ _ _ rfl (hown.alloc _) ⟨_, 0, none⟩ 1 1 [.string t] rfl rfl ?c1 ?c2 ?c3 ?c4 ?c5 ?_)
        try (case c1 => exact cellNew _ _ _)
        case c2 => first | rfl | (intro u hu; simp at hu; subst hu; rfl)
        case c3 => unfold maxLen; omega
        case c4 => omega
        case c5 => first | omega | (simp; omega)
        intro v' w2 hown2 hgrow _
        have HO : Hid (w2.ownsRow w.heap.size 9 1 v' (pcRun c (s.data.toList.take (k + 1))).1.length (strL (pcRun c (s.data.toList.take (k + 1))).1)) := Lib.hid (by
          rw [HS.out, strL_snoc, ← HTt.out, List.length_append, List.length_singleton, ← HN.out]; exact hown2)
        have HQ := Lib.hid ((HW.out.alloc hsz (Obj.cells #[Value.string t] 9)).grown hgrow (by simp; omega) (fun q hq => (hown.lt q hq).1))
        clear hown2 hgrow hown
        go_wp2
        go_roundw
        case rel => exact ⟨k + 1, k + 1, v', rfl, by omega, by go_num, by go_num, by rw [HS.out]; simp, HO.out, HQ.out⟩
        case measure => simp [intOf]; omega
      · have hbq : ((x : Int) == (cn : Int)) = false := by rw [beq_eq_false_iff_ne]; omega
        have HS : Hid (pcRun c (s.data.toList.take (k + 1)) = (ds, cur ++ [s.data.toList.getD k 0])) := Lib.hid (by
          rw [HT.out, pcRun_snoc, HR.out, pcStep, if_neg]
          intro e
          exact hq (by rw [HX.out, e, HCn.out]))
        have HO : Hid (wr.ownsRow w.heap.size 9 1 ov (pcRun c (s.data.toList.take (k + 1))).1.length (strL (pcRun c (s.data.toList.take (k + 1))).1)) := Lib.hid (by
          rw [HS.out]; show wr.ownsRow _ _ _ _ ds.length (strL ds); rw [← HN.out]; exact hown)
        have HF2 : Hid (f' = k + 1 - (pcRun c (s.data.toList.take (k + 1))).2.length) := Lib.hid (by
          have h1 := HLe.out k
          rw [HR.out] at h1
          dsimp only at h1
          rw [HS.out, List.length_append, List.length_singleton, HF.out]
          omega)
        clear hx hq hown
        go_wp2
        go_roundw
        case rel => exact ⟨k + 1, f', ov, rfl, by omega, by go_num, rfl, HF2.out, HO.out, HW.out⟩
        case measure => simp [intOf]; omega
    · obtain rfl : k = s.size := by omega
      have hnlt : ¬ ((s.size : Int) < (s.size : Int)) := by omega
      have HP : Hid (pcs c s.data.toList = ds ++ [cur]) := Lib.hid (by
        have h1 := HR.out
        rw [HAl.out] at h1
        rw [pcs, h1])
      obtain ⟨t, ht⟩ : ∃ t, t = bs cur := ⟨_, rfl⟩
      have hxt : s.extract f' s.size = t := by rw [HEX.out, ht]
      have HTt := Lib.hid ht
      clear ht hlt
      go_wp2_with (at_builtin; refine wpList_append_own _ rfl _ _ 64 rfl w.heap.size 9 n0 (.string ⟨#[]⟩) 1 16 Tryd.underlying64 hi hz0 hz1 hz2 rfl (by decide) _ _ _ rfl (hown.alloc _) ⟨_, 0, none⟩ 1 1 [.string t] rfl rfl ?d1 ?d2 ?d3 ?d4 ?d5 ?_)
      try (case d1 => exact cellNew _ _ _)
      case d2 => first | rfl | (intro u hu; simp at hu; subst hu; rfl)
      case d3 => unfold maxLen; omega
      case d4 => omega
      case d5 => first | omega | (simp; omega)
      intro v' w2 hown2 hgrow _
      have HO : Hid (w2.ownsRow w.heap.size 9 1 v' (pcs c s.data.toList).length (strL (pcs c s.data.toList))) := Lib.hid (by
        rw [HP.out]
        rw [strL_snoc, ← HTt.out, List.length_append, List.length_singleton, ← HN.out]; exact hown2)
      have HQ := Lib.hid ((HW.out.alloc hsz (Obj.cells #[Value.string t] 9)).grown hgrow (by simp; omega) (fun q hq => (hown.lt q hq).1))
      clear hown2 hgrow hown
      go_wp2
      go_ret
      exact ⟨_, rfl, HO.out, HQ.out⟩
theorem specSplit (s : ByteArray) (c : UInt8) (b : Int) (hb : b = (c.toNat : Int)) (w : World) (hs : s.size ≤ 1048576) :
    Calls Tryd.prog 41 #[.string s, .int .u8 b] w fun e w' => ∃ u, e = .returned u ∧ RdS w' u (pcs c s.data.toList) ∧ Below w.heap.size w w' :=
  (specSplitO s c b hb w hs).mono fun e w' ⟨u, h1, h2, h3⟩ => ⟨u, h1, rds_of_own h2 (pcs_pos _ _), h3⟩
theorem specSplitC (s : ByteArray) (c : UInt8) (b : Int) (hb : b = (c.toNat : Int)) (w : World) (hs : s.size ≤ 1048576) :
    Calls Tryd.prog 41 #[.string s, .int .u8 b] w fun e w' => ∃ u, e = .returned u ∧ RdSC w' u (pcs c s.data.toList) ∧ Below w.heap.size w w' :=
  (specSplitO s c b hb w hs).mono fun e w' ⟨u, h1, h2, h3⟩ => ⟨u, h1, rdsc_of_own h2 (pcs_pos _ _), h3⟩
end Go.Proofs.YtbifkjmmhfnblaaDoor.Ints
