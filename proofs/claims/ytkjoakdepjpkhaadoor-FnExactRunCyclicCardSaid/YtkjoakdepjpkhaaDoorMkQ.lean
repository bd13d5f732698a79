/- Marks on lists of lists and on tag systems. (gen_mkq.py) -/
import Derived.Test.YtkjoakdepjpkhaaDoorTgC
import Derived.Test.YtkjoakdepjpkhaaDoorRun
namespace Go.Proofs.YtkjoakdepjpkhaaDoor.Ints
open Go.RowKit
set_option linter.unusedVariables false
set_option linter.unusedSimpArgs false
/-- A row of lists of the call's own, in blocks from B on and below T. -/
structure OwQT (w : World) (B T : Nat) (v : Value) (ts : List (List Int)) : Prop where
  len : ts.length ≤ 1048576
  size : T ≤ w.heap.size
  val : ∃ g c cs, v = .slice (some ⟨g, 0, none⟩) ts.length c ∧ g < T ∧ B ≤ g ∧ w.ownsRow B 23 1 (.slice (some ⟨g, 0, none⟩) ts.length c) ts.length cs ∧ (∀ i, i < ts.length → ∃ x, cs[i]? = some x ∧ Ow w B T x (ts.getD i [])) ∧ SepQ cs ts.length
theorem OwQ.t {w : World} {B : Nat} {v : Value} {ts : List (List Int)} (h : OwQ w B v ts) : OwQT w B w.heap.size v ts := by
  obtain ⟨hl, g, c, cs, rfl, ho, hc, hs⟩ := h
  exact ⟨hl, Nat.le_refl _, g, c, cs, rfl, (ho.lt g rfl).2, (ho.lt g rfl).1, ho, hc, hs⟩
theorem rowQ_kept {w w' : World} {B g c n : Nat} {cs : List Value} (ho : w.ownsRow B 23 1 (.slice (some ⟨g, 0, none⟩) n c) n cs) (hb : w'.heap[g]? = w.heap[g]?) : w'.ownsRow B 23 1 (.slice (some ⟨g, 0, none⟩) n c) n cs := by
  refine ⟨ho.1, ?_⟩
  rcases ho.2 with hn | ⟨g', cap, cur, hv, hbb, hgg, rest⟩
  · exact .inl hn
  · refine .inr ⟨g', cap, cur, hv, hbb, ?_, rest⟩
    cases hv
    rw [hb]; exact hgg
theorem Ow.keptQ {w w' : World} {B T : Nat} {v : Value} {zs : List Int} (h : Ow w B T v zs) (hs : w.heap.size ≤ w'.heap.size) (hb : ∀ k, B ≤ k → k < T → w'.heap[k]? = w.heap[k]?) : Ow w' B T v zs := by
  refine ⟨h.len, h.fit, ⟨h.row.1, ?_⟩, h.top, Nat.le_trans h.size hs, h.base⟩
  rcases h.row.2 with hn | ⟨g', cap, cur, hv, hbb, hgg, rest⟩
  · exact .inl hn
  · refine .inr ⟨g', cap, cur, hv, hbb, ?_, rest⟩
    subst hv
    rw [hb g' hbb (h.top g' rfl)]; exact hgg
theorem Ow.onlyQ {w w' : World} {B T : Nat} {v : Value} {zs : List Int} {S : Nat → Prop} (h : Ow w B T v zs) (k : Only S w w') (hS : ∀ b, B ≤ b → b < T → ¬ S b) : Ow w' B T v zs :=
  h.keptQ k.size (fun b h1 h2 => k.block b (Nat.lt_of_lt_of_le h2 h.size) (hS b h1 h2))
theorem OwQT.below {w w' : World} {B T C : Nat} {v : Value} {ts : List (List Int)} (h : OwQT w B T v ts) (hb : Below C w w') (hC : T ≤ C) : OwQT w' B T v ts := by
  obtain ⟨hl, hs, g, c, cs, rfl, h1, h2, ho, hc, hsq⟩ := h
  exact ⟨hl, Nat.le_trans hs hb.size, g, c, cs, rfl, h1, h2, rowQ_kept ho (hb.block g (by omega)), fun i hi => by
    obtain ⟨x, e, k⟩ := hc i hi
    exact ⟨x, e, k.below hb hC⟩, hsq⟩
theorem OwQT.apart {w : World} {B T g' : Nat} {v : Value} {ts : List (List Int)} (h : OwQT w B T v ts) (hg : g' < B) (j : Nat) (x : Value) : OwQT (w.setCell ⟨g', j, none⟩ x) B T v ts := by
  obtain ⟨hl, hs, g, c, cs, rfl, h1, h2, ho, hc, hsq⟩ := h
  exact ⟨hl, by simpa using hs, g, c, cs, rfl, h1, h2, rowQ_kept ho (Below.heap_setCell w ⟨g', j, none⟩ x g (by show g ≠ g'; omega)), fun i hi => by
    obtain ⟨u, e, k⟩ := hc i hi
    exact ⟨u, e, k.apartCell hg j x⟩, hsq⟩
theorem OwQT.mono {w : World} {B B' T : Nat} {v : Value} {ts : List (List Int)} (h : OwQT w B T v ts) (hB : B' ≤ B) : OwQT w B' T v ts := by
  obtain ⟨hl, hs, g, c, cs, rfl, h1, h2, ho, hc, hsq⟩ := h
  refine ⟨hl, hs, g, c, cs, rfl, h1, Nat.le_trans hB h2, ⟨ho.1, ?_⟩, fun i hi => by
    obtain ⟨u, e, k⟩ := hc i hi
    exact ⟨u, e, k.mono hB (Nat.le_refl _) hs⟩, hsq⟩
  rcases ho.2 with hn | ⟨g', cap, cur, hv, hbb, rest⟩
  · exact .inl hn
  · exact .inr ⟨g', cap, cur, hv, Nat.le_trans hB hbb, rest⟩
theorem OwQT.shape {w : World} {B T : Nat} {v : Value} {ts : List (List Int)} (h : OwQT w B T v ts) : ∃ a c, v = .slice a ts.length c := by
  obtain ⟨_, _, g, c, _, rfl, _⟩ := h
  exact ⟨_, _, rfl⟩
theorem OwQT.rdl {w : World} {B T : Nat} {v : Value} {ts : List (List Int)} (h : OwQT w B T v ts) : RdL w v ts := by
  obtain ⟨hl, hs, g, c, cs, rfl, h1, h2, ho, hc, hsq⟩ := h
  have hcap : ts.length ≤ c := by
    rcases ho.2 with ⟨hv, _⟩ | ⟨g2, c2, cur2, hv, _, _, hh, _⟩
    · cases hv
    · cases hv; exact hh
  refine ⟨hl, _, _, rfl, hcap, fun hne => ⟨g, 0, rfl, by omega, fun i hi => ?_⟩⟩
  obtain ⟨x, e, k⟩ := hc i hi
  exact ⟨x, by rw [Nat.zero_add, ho.cellAt _ (by have := ho.1; omega)]; exact e, k.rd⟩
/-- How many numbers lists have. -/
def tot : List (List Int) → Nat
  | [] => 0
  | t :: ts => t.length + tot ts
theorem tot_take (ts : List (List Int)) (i : Nat) (h : i < ts.length) : tot (ts.take (i + 1)) = tot (ts.take i) + (ts.getD i []).length := by
  induction ts generalizing i with
  | nil => simp at h
  | cons t ts ih =>
    cases i with
    | zero => simp [tot]
    | succ i =>
      simp only [List.take_succ_cons, tot, List.getD_cons_succ]
      rw [ih i (by simpa using h)]
      omega
theorem tot_le (ts : List (List Int)) (i : Nat) : tot (ts.take i) ≤ tot ts := by
  induction ts generalizing i with
  | nil => simp [tot]
  | cons t ts ih =>
    cases i with
    | zero => simp [tot]
    | succ i => simp only [List.take_succ_cons, tot]; have := ih i; omega
theorem szQ_tot (zs : List Qin) : ∀ L : Int, 0 ≤ szQ L zs → (tot (zs.map Qin.q) : Int) ≤ L := by
  induction zs with
  | nil => intro L h; simpa [szQ, tot] using h
  | cons t ts ih =>
    intro L h
    rw [szQ] at h
    split at h
    · omega
    · have := ih _ h
      simp only [List.map_cons, tot, Qin.q, List.length_take]
      push_cast
      omega
theorem szQV_tot {L : Int} {n : Nat} {zs : List Qin} (h : 0 ≤ szQV L n zs) : (tot ((zs.take n).map Qin.q) : Int) ≤ L := by
  unfold szQV at h
  split at h
  · omega
  · have := szQ_tot (zs.take n) (L - (n : Int)) h
    omega
set_option maxHeartbeats 2000000 in
theorem markLists (v : Value) (ts : List (List Int)) (k0 : Nat) (B T : Nat) (w : World) (h : OwQT w B T v ts) (h1 : k0 + tot ts ≤ 100000000000) :
    Calls Tryd.prog 35 #[v, .int .i64 (k0 : Int)] w fun e w' => e = .returned (.int .i64 ((k0 + tot ts : Nat) : Int)) ∧ Only (fun b => B ≤ b ∧ b < T) w w' := by
  obtain ⟨hl, hs, g, c, cs, rfl, hgT, hgB, ho, hc, hsq⟩ := h
  have HO := Lib.hid ho
  have HC := Lib.hid hc
  have HSQ := Lib.hid hsq
  have HG := Lib.hid (And.intro hgT hgB)
  have HS := Lib.hid hs
  clear ho hc hsq hgT hgB hs
  go_enter Tryd.func35, Tryd.ntmps35
  go_wp2
  go_loopw [1, 5] (fun q s wr => ∃ i : Nat, i ≤ ts.length ∧ s = .int .i64 i ∧ q = .int .i64 ((k0 + tot (ts.take i) : Nat) : Int) ∧ wr.heap[g]? = w.heap[g]? ∧ (∀ j, i ≤ j → j < ts.length → ∃ x, cs[j]? = some x ∧ Ow wr B T x (ts.getD j [])) ∧ Only (fun b => B ≤ b ∧ b < T) w wr)
    (fun _ s _ => ts.length - (intOf s).toNat)
  case atStart => exact ⟨0, Nat.zero_le _, rfl, by simp [tot], rfl, fun j _ hj => HC.out j hj, Only.refl _ _⟩
  case round =>
    obtain ⟨i, hi, rfl, rfl, hg, hrest, hon⟩ := hrel
    by_cases hlt : i < ts.length
    · obtain ⟨x, hx, hox⟩ := hrest i (Nat.le_refl _) hlt
      have hc2 : wr.cell? ⟨g, i, none⟩ = some x := by
        rw [(rowQ_kept HO.out hg).cellAt i (by have := HO.out.1; omega)]; exact hx
      obtain ⟨ax, cx, rfl⟩ := hox.shape
      obtain ⟨t, ht⟩ : ∃ t, t = ts.getD i [] := ⟨_, rfl⟩
      rw [← ht] at hox hc2 hx
      have HX := Lib.hid hox
      have HTT := Lib.hid ht
      have HR := Lib.hid hrest
      have HON := Lib.hid hon
      have HGE := Lib.hid hg
      have HCX := Lib.hid hx
      have htk := tot_take ts i hlt
      have htl := tot_le ts (i + 1)
      have HK := Lib.hid (And.intro htk htl)
      obtain ⟨k, hk⟩ : ∃ k, k = k0 + tot (ts.take i) := ⟨_, rfl⟩
      have HKE := Lib.hid hk
      have hkb : (k : Int) ≤ 1000000000000 := by rw [← ht] at htk; omega
      rw [← hk]
      have i0 : (0 : Int) ≤ (i : Int) := by omega
      have i1 : (i : Int) < (ts.length : Int) := by omega
      clear hrest hon hg hox ht hk hx htk htl
      go_wp2_with fail
      refine (markInts _ t (k : Int) B T _ HX.out (by omega) hkb).mono ?_
      rintro e w3 ⟨rfl, ho3, hg3⟩
      have HG3 : Hid (Only (fun b => B ≤ b ∧ b < T) wr w3) := Lib.hid ⟨hg3.os, hg3.tape, hg3.output, hg3.size, fun b hb hn => hg3.block b hb (fun e => by
        have hlt2 := HX.out.top b e.symm
        have hge := (HX.out.row.lt b e.symm).1
        exact hn ⟨hge, hlt2⟩)⟩
      have HGB : Hid (w3.heap[g]? = w.heap[g]?) := Lib.hid ((hg3.block g (by have := HON.out.size; have := HS.out; have := HG.out.1; omega) (fun e => HX.out.qapart (rowQ_kept HO.out HGE.out) e.symm)).trans HGE.out)
      have HR3 : Hid (∀ j, i + 1 ≤ j → j < ts.length → ∃ x, cs[j]? = some x ∧ Ow w3 B T x (ts.getD j [])) := Lib.hid (fun j hj hjl => by
        obtain ⟨y, e1, e2⟩ := HR.out j (by omega) hjl
        exact ⟨y, e1, e2.grown hg3 (HSQ.out i j _ _ (by omega) hjl HCX.out e1).2⟩)
      have e9 : (k : Int) + (t.length : Int) = ((k0 + tot (ts.take (i + 1)) : Nat) : Int) := by rw [HK.out.1, HKE.out, HTT.out]; push_cast; omega
      have E9 := Lib.hid e9
      clear ho3 hg3 hc2 e9
      go_wp2
      go_roundw
      case rel => exact ⟨i + 1, by omega, by go_num, by rw [← E9.out], HGB.out, HR3.out, HON.out.trans HG3.out⟩
      case measure => simp [intOf]; omega
    · obtain rfl : i = ts.length := by omega
      have HON := Lib.hid hon
      have hnlt : ¬ ((ts.length : Int) < (ts.length : Int)) := by omega
      clear hon hrest hg
      rw [List.take_length]
      go_wp2
      go_ret
      exact ⟨rfl, HON.out⟩
set_option maxHeartbeats 2000000 in
theorem toTagT (d : Int) (u : Value) (ts : List (List Int)) (v : Value) (rs : List Int) (w : World) (hu : RdL w u ts) (hv : Rd w v rs) :
    Calls Tryd.prog 12 #[.agg #[.int .i64 d, u, v]] w fun e w' => ∃ u1 u2 T, e = .returned (.agg #[.int .i64 d, u1, u2]) ∧ OwQT w' w.heap.size T u1 ts ∧ Ow w' T w'.heap.size u2 rs ∧ w.heap.size ≤ T ∧ Below w.heap.size w w' := by
  have HU := Lib.hid hu
  have HV := Lib.hid hv
  obtain ⟨_, a, c, rfl, _, _⟩ := hu
  obtain ⟨_, _, a', c', rfl, _, _⟩ := hv
  have HC := Lib.hid (cels3 w (Obj.cells #[.int .i64 d, .slice a ts.length c, .slice a' rs.length c'] 25) 29 29 [.int .i64 0, .slice none 0 0, .slice none 0 0] [.int .i64 d, .slice none 0 0, .slice none 0 0])
  have HC0 := Lib.hid (((Cels.new w 25 [.int .i64 d, .slice a ts.length c, .slice a' rs.length c']).alloc (Obj.cells #[.int .i64 0, .slice none 0 0, .slice none 0 0] 29)).alloc (Obj.cells #[.int .i64 d, .slice none 0 0, .slice none 0 0] 29))
  go_enter Tryd.func12, Tryd.ntmps12
  go_wp2_with fail
  obtain ⟨k1, k2, hb0, hs0⟩ := HC.out
  have k0 := HC0.out
  simp only [List.toArray] at k0 k1 k2 hb0 hs0
  refine (toLists _ ts _ (HU.out.below hb0 (Nat.le_refl _))).mono ?_
  rintro e w1 ⟨u1, rfl, ho, hb1⟩
  obtain ⟨ga, gc, hga⟩ := ho.shape
  subst hga
  replace k0 := k0.below hb1 (by rw [hs0]; omega)
  replace k1 := k1.below hb1 (by rw [hs0]; omega)
  replace k2 := k2.below hb1 (by rw [hs0]; omega)
  have hB1 := hb0.trans (hb1.mono hb0.size)
  have hsz : w.heap.size + 1 + 1 < w1.heap.size := by have := hb1.size; omega
  have hO1 : OwQ w1 (w.heap.size + 1 + 1 + 1) (.slice ga ts.length gc) ts := by rw [← hs0]; exact ho
  have s2 := k2.set 1 (.slice ga ts.length gc)
  have s0 := k0.other (p := ⟨w.heap.size + 1 + 1, 1, none⟩) (by show w.heap.size ≠ w.heap.size + 1 + 1; omega) (.slice ga ts.length gc)
  have s1 := k1.other (p := ⟨w.heap.size + 1 + 1, 1, none⟩) (by show w.heap.size + 1 ≠ w.heap.size + 1 + 1; omega) (.slice ga ts.length gc)
  have hB2 : Below w.heap.size w (w1.setCell ⟨w.heap.size + 1 + 1, 1, none⟩ (.slice ga ts.length gc)) := below_set hB1 (by omega) 1 _
  have hO2 := hO1.apart (g' := w.heap.size + 1 + 1) (by omega) 1 (.slice ga ts.length gc)
  have f0 := k2.cell 1 rfl
  have f1 := k2.frozen 1
  have f2 := s0.cell 2 rfl
  obtain ⟨W1, hW1⟩ : ∃ W, W = w1.setCell ⟨w.heap.size + 1 + 1, 1, none⟩ (.slice ga ts.length gc) := ⟨_, rfl⟩
  have hWs : W1.heap.size = w1.heap.size := by rw [hW1]; simp
  rw [← hW1] at s0 s1 s2 hB2 hO2
  have HB2 := Lib.hid hB2
  have HO2 := Lib.hid hO2.t
  have HS1 := Lib.hid s1
  have HS2 := Lib.hid s2
  have HW1 := Lib.hid hW1.symm
  clear ho hb0 hb1 hs0 k0 k1 k2 s0 s1 s2 hB1 hB2 hO1 hO2 hW1
  go_wp2_with fail
  rw [HW1.out]
  refine (toInts _ rs _ (HV.out.below HB2.out (Nat.le_refl _))).mono ?_
  rintro e w2 ⟨u2, rfl, ho, hb⟩
  obtain ⟨gb, gd, hgb⟩ := ho.shape
  subst hgb
  have k1 := HS1.out.below hb (by omega)
  have k2 := HS2.out.below hb (by omega)
  have HO3 := Lib.hid (HO2.out.below hb (Nat.le_refl _))
  have HO4 : Hid (Ow w2 W1.heap.size w2.heap.size (.slice gb rs.length gd) rs) := Lib.hid ho
  have HWS : Hid (w.heap.size + 1 + 1 < W1.heap.size) := Lib.hid (by omega)
  have HB3 := Lib.hid (HB2.out.trans (hb.mono HB2.out.size))
  have hsz2 : w.heap.size + 1 + 1 < w2.heap.size := by have := hb.size; omega
  have HF := Lib.hid (ret3q k1 k2 (by omega) (.slice gb rs.length gd))
  obtain ⟨⟨f1, f2, f3, f4, f5, f6, f7, f8, f9, f10, f11⟩, f12⟩ := HF.out
  clear ho hb k1 k2 f0
  go_wp2
  obtain ⟨W, hW⟩ : ∃ W, W = (((w2.setCell ⟨w.heap.size + 1 + 1, 2, none⟩ (.slice gb rs.length gd)).setCell ⟨w.heap.size + 1, 0, none⟩ (.int .i64 d)).setCell ⟨w.heap.size + 1, 1, none⟩ (.slice ga ts.length gc)).setCell ⟨w.heap.size + 1, 2, none⟩ (.slice gb rs.length gd) := ⟨_, rfl⟩
  have hB : Below w.heap.size w W ∧ OwQT W (w.heap.size + 1 + 1 + 1) W1.heap.size (.slice ga ts.length gc) ts ∧ Ow W W1.heap.size W.heap.size (.slice gb rs.length gd) rs := by
    rw [hW]
    have hws := HWS.out
    exact ⟨below_set (below_set (below_set (below_set HB3.out (by omega) _ _) (by omega) _ _) (by omega) _ _) (by omega) _ _,
      (((HO3.out.apart (by omega) _ _).apart (by omega) _ _).apart (by omega) _ _).apart (by omega) _ _,
      ((((HO4.out.apartCell (by omega) _ _).apartCell (by omega) _ _).apartCell (by omega) _ _).apartCell (by omega) _ _).up⟩
  rw [← hW] at f12 ⊢
  have z0 := f12.cell 0 rfl
  have z1 := f12.cell 1 rfl
  have z2 := f12.cell 2 rfl
  clear f1 f2 f3 f4 f5 f6 f7 f8 f9 f10 f11 HF HC hW
  refine bodyPost_ret (v := .agg #[.int .i64 d, .slice ga ts.length gc, .slice gb rs.length gd]) (by simp [results, Tryd.f12, go_sem, z0, z1, z2]) rfl ⟨_, _, _, rfl, hB.2.1.mono (by omega), hB.2.2, by have := HWS.out; omega, hB.1⟩
theorem markTag' (d : Int) (u : Value) (ts : List (List Int)) (v : Value) (rs : List Int) (k0 : Nat) (B T T2 : Nat) (w : World) (hu : OwQT w B T u ts) (hv : Ow w T T2 v rs) (hBT : B ≤ T) (h1 : k0 + tot ts ≤ 100000000000) :
    Calls Tryd.prog 33 #[.agg #[.int .i64 d, u, v], .int .i64 (k0 : Int)] w fun e w' => e = .returned (.int .i64 ((k0 + tot ts + rs.length : Nat) : Int)) ∧ ∃ w1, Below w.heap.size w w1 ∧ Only (fun b => B ≤ b ∧ b < T2) w1 w' := by
  obtain ⟨a1, c1, rfl⟩ := hu.shape
  obtain ⟨a2, c2, rfl⟩ := hv.shape
  obtain ⟨W0, hW0⟩ : ∃ W, W = w.alloc (Obj.cells #[.int .i64 d, .slice a1 ts.length c1, .slice a2 rs.length c2] 29) := ⟨_, rfl⟩
  have HB : Hid (Below w.heap.size w W0) := Lib.hid (by rw [hW0]; exact (Below.refl w.heap.size w).alloc (Nat.le_refl _) _)
  have K0 : Hid (Cels W0 w.heap.size 29 [.int .i64 d, .slice a1 ts.length c1, .slice a2 rs.length c2]) := Lib.hid (by rw [hW0]; exact Cels.new _ _ _)
  have HW0 := Lib.hid hW0.symm
  have HU := Lib.hid (hu.below HB.out hu.size)
  have HV := Lib.hid (hv.below HB.out hv.size)
  have HN := Lib.hid (And.intro hu.size (And.intro hv.size (And.intro hBT hv.len)))
  clear hW0 hu hv
  go_enter Tryd.func33, Tryd.ntmps33
  go_wp2_with fail
  rw [HW0.out]
  refine (markLists _ ts k0 B T _ HU.out h1).mono ?_
  rintro e w1 ⟨rfl, ho1⟩
  have K1 : Hid (Cels w1 w.heap.size 29 [.int .i64 d, .slice a1 ts.length c1, .slice a2 rs.length c2]) := Lib.hid (ho1.kept K0.out (by have := HN.out; omega))
  have HV1 := Lib.hid (HV.out.onlyQ ho1 (fun b hb _ => by omega))
  have HO1 : Hid (Only (fun b => B ≤ b ∧ b < T2) W0 w1) := Lib.hid (ho1.mono (fun b _ h => by have := HV.out.base; omega))
  have z2 := K1.out.cell 2 rfl
  obtain ⟨k, hk⟩ : ∃ k, k = k0 + tot ts := ⟨_, rfl⟩
  have HK := Lib.hid hk
  rw [← hk]
  clear ho1 hk
  go_wp2_with fail
  refine (markInts _ rs (k : Int) T T2 _ HV1.out (by omega) (by have := HK.out; omega)).mono ?_
  rintro e w2 ⟨rfl, _, hg2⟩
  have HO2 : Hid (Only (fun b => B ≤ b ∧ b < T2) W0 w2) := Lib.hid (HO1.out.trans ⟨hg2.os, hg2.tape, hg2.output, hg2.size, fun b hb hn => hg2.block b hb (fun e => by
    have h2 := HV1.out.top b e.symm
    have h3 := (HV1.out.row.lt b e.symm).1
    have := HN.out
    exact hn ⟨by omega, h2⟩)⟩)
  have E9 : Hid ((k : Int) + (rs.length : Int) = ((k0 + tot ts + rs.length : Nat) : Int)) := Lib.hid (by rw [HK.out]; push_cast; rfl)
  clear hg2 z2
  go_wp2
  go_ret
  exact ⟨by rw [← E9.out] <;> rfl, W0, HB.out, HO2.out⟩
end Go.Proofs.YtkjoakdepjpkhaaDoor.Ints
