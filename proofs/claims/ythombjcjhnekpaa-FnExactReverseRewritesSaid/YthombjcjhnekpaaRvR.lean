/- Both sides of all rewriting rules exchanged, by the model and by the program. -/
import Derived.Test.YthombjcjhnekpaaRwM
import Derived.Test.YthombjcjhnekpaaRwV
import Derived.Deep.RegionHeld3
namespace Go.Proofs.Ythombjcjhnekpaa.Ints
open Go.RowKit
set_option linter.unusedVariables false
set_option linter.unusedSimpArgs false
def swT (t : Tp) : Tp := ⟨t.r, t.l⟩
def rvL (ts : List Tp) : List Tp := ts.map swT
noncomputable def rvR (ts : List Tp) : List Tp × Int := if rwsB ts = true then (if rwsB (rvL ts) = true then (rvL ts, 0) else ([], 6)) else ([], 1)
@[simp] theorem rvL_len (ts : List Tp) : (rvL ts).length = ts.length := by simp [rvL]
theorem rvL_at (ts : List Tp) (i : Nat) : (rvL ts).getD i tp0 = swT (ts.getD i tp0) := by
  simp only [rvL, List.getD_eq_getElem?_getD, List.getElem?_map]
  cases ts[i]? <;> rfl
theorem totR_rvL (ts : List Tp) : totR (rvL ts) = totR ts := by
  induction ts with
  | nil => rfl
  | cons t ts ih =>
    simp only [rvL, List.map_cons, totR, swT] at ih ⊢
    rw [ih]; omega
theorem rvR_tot (ts : List Tp) : totR (rvR ts).1 ≤ totR ts := by
  unfold rvR
  split
  · split
    · rw [totR_rvL]; exact Nat.le_refl _
    · simp [totR]
  · simp [totR]
theorem rv_good {ts : List Tp} (h : rwsB ts = true) (h2 : ∀ i, i < ts.length → 0 < (ts.getD i tp0).r.length) : rwsB (rvL ts) = true := by
  have h1 := rwsB_len h
  have ha := rwsB_all h
  simp only [rwsB, rvL_len, Bool.and_eq_true, decide_eq_true_iff]
  refine ⟨h1, rwA_true (fun i hi => ?_)⟩
  rw [rvL_len] at hi
  have hb := rwB_both (rwA_at ha hi)
  rw [rvL_at]
  simp only [rwB, swT, Bool.and_eq_true, decide_eq_true_iff]
  exact ⟨wordB_true hb.2.1, wordB_true hb.1, decide_eq_true (h2 i hi)⟩
theorem rv_bad {ts : List Tp} {i : Nat} (hi : i < ts.length) (h2 : (ts.getD i tp0).r.length = 0) : rwsB (rvL ts) = false := by
  have h3 : rwA (rvL ts) = false := rwA_false (i := i) (by rw [rvL_len]; exact hi) (by rw [rvL_at]; simp only [rwB, swT, h2]; simp)
  simp only [rwsB, h3, Bool.and_false]
theorem rvR_good {ts : List Tp} (h : rwsB ts = true) (h2 : rwsB (rvL ts) = true) : rvR ts = (rvL ts, 0) := by rw [rvR, if_pos h, if_pos h2]
theorem rvR_bad {ts : List Tp} (h : rwsB ts = true) (h2 : rwsB (rvL ts) = false) : rvR ts = ([], 6) := by rw [rvR, if_pos h, if_neg (by rw [h2]; simp)]
theorem rvR_no {ts : List Tp} (h : rwsB ts = false) : rvR ts = ([], 1) := by rw [rvR, if_neg (by rw [h]; simp)]
theorem OwRN.none {w : World} {B : Nat} (h : B ≤ w.heap.size) : OwRN w B w.heap.size (.slice none 0 0) [] := .inr ⟨rfl, rfl, h, Nat.le_refl _⟩
theorem OwRT.wide {w : World} {B T B' : Nat} {v : Value} {ts : List Tp} (h : OwRT w B T v ts) (hB : B' ≤ B) (hT : T ≤ w.heap.size) : OwRT w B' w.heap.size v ts := by
  obtain ⟨hl, hs, g, c, cs, rfl, h1, h2, ho, hc, hsq⟩ := h
  refine ⟨hl, Nat.le_refl _, g, c, cs, rfl, by omega, by omega, ?_, fun i hi => ?_, hsq⟩
  · refine ⟨ho.1, ?_⟩
    rcases ho.2 with hn | ⟨g', cap, cur, hv, hbb, rest⟩
    · exact .inl hn
    · exact .inr ⟨g', cap, cur, hv, Nat.le_trans hB hbb, rest⟩
  · obtain ⟨x, y, e, e', k, k'⟩ := hc i hi
    exact ⟨x, y, e, e', k.mono hB hT (Nat.le_refl _), k'.mono hB hT (Nat.le_refl _)⟩
theorem OwRN.wide {w : World} {B T B' : Nat} {v : Value} {ts : List Tp} (h : OwRN w B T v ts) (hB : B' ≤ B) (hT : T ≤ w.heap.size) : OwRN w B' w.heap.size v ts := by
  rcases h with h | ⟨rfl, rfl, h1, h2⟩
  · exact .inl (h.wide hB hT)
  · exact .inr ⟨rfl, rfl, Nat.le_trans hB (Nat.le_trans h1 h2), Nat.le_refl _⟩
/-- A growing row of rules of the call's own, all rows apart from each other. -/
def GrT (w : World) (B : Nat) (v : Value) (ts : List Tp) : Prop := ∃ cs, w.ownsRow B 64 2 v ts.length cs ∧ Cop w B ts cs ts.length ∧ SepC cs (ts.length * 2)
theorem GrT.own {w : World} {B : Nat} {v : Value} {ts : List Tp} (h : GrT w B v ts) (hl : ts.length ≤ 1048576) (hB : B ≤ w.heap.size) : OwRN w B w.heap.size v ts := by
  obtain ⟨cs, ho, hc, hq⟩ := h
  rcases ho.2 with ⟨rfl, h0⟩ | ⟨g, c, cur, rfl, h1, h2, _⟩
  · exact .inr ⟨rfl, List.eq_nil_of_length_eq_zero h0, hB, Nat.le_refl _⟩
  · exact .inl ⟨hl, Nat.le_refl _, g, c, cs, rfl, (ho.lt g rfl).2, (ho.lt g rfl).1, ho, hc, hq⟩
theorem GrT.start (w : World) (B : Nat) : GrT w B (.slice none 0 0) [] := ⟨[], World.ownsRow_nil _ _ _ _, fun i hi => by simp at hi, fun i j x y _ hj => by simp at hj⟩
theorem ownC_below {w w' : World} {B C : Nat} {t : TypeId} {s : Nat} {v : Value} {n : Nat} {xs : List Value} (h : w.ownsRow B t s v n xs) (hb : Below C w w') (hC : w.heap.size ≤ C) : w'.ownsRow B t s v n xs := by
  refine ⟨h.1, ?_⟩
  rcases h.2 with hn | ⟨g, cap, cur, hv, hbb, hgg, rest⟩
  · exact .inl hn
  · refine .inr ⟨g, cap, cur, hv, hbb, ?_, rest⟩
    rw [hb.block g (by have := (Array.getElem?_eq_some_iff.1 hgg).1; omega)]; exact hgg
theorem Ow.nap {w : World} {B T B' n : Nat} {u v : Value} {zs : List Int} {cs : List Value} (h : Ow w B T u zs) (k : w.ownsRow B' 64 2 v n cs) : u.ownBlock = none ∨ u.ownBlock ≠ v.ownBlock := by
  rcases k.2 with ⟨rfl, _⟩ | ⟨g, c, cur, rfl, _⟩
  · cases e : u.ownBlock with
    | none => exact .inl rfl
    | some b => exact .inr (by simp [Value.ownBlock])
  · exact .inr (h.napart k)
theorem rows_snoc {w0 w W : World} {B : Nat} {v v' : Value} {ts : List Tp} {t : Tp} {cs : List Value} {x y : Value} (hc : Cop w0 B ts cs ts.length) (hq : SepC cs (ts.length * 2)) (hb : Below w0.heap.size w0 w) (hB : B ≤ w0.heap.size)
    (hrow : w.ownsRow B 64 2 v ts.length cs) (h0 : Ow w w0.heap.size w.heap.size x t.l) (h1 : Ow w w0.heap.size w.heap.size y t.r) (hs : Sep x y) (hg : w.grownBy W v.ownBlock) (hW : W.ownsRow B 64 2 v' (ts.length + 1) (cs ++ [x, y])) :
    GrT W B v' (ts ++ [t]) := by
  have hl : cs.length = ts.length * 2 := hrow.1
  have hx : (cs ++ [x, y])[ts.length * 2]? = some x := by rw [List.getElem?_append_right (by omega), hl]; simp
  have hy : (cs ++ [x, y])[ts.length * 2 + 1]? = some y := by rw [List.getElem?_append_right (by omega), hl]; simp
  have hold : ∀ i, i < ts.length * 2 → (cs ++ [x, y])[i]? = cs[i]? := fun i hi => List.getElem?_append_left (by omega)
  refine ⟨cs ++ [x, y], by simpa using hW, ?_, ?_⟩
  · intro i hi
    rw [List.length_append, List.length_singleton] at hi
    by_cases e : i = ts.length
    · subst e
      have ht : (ts ++ [t]).getD ts.length tp0 = t := by simp [List.getD_eq_getElem?_getD]
      rw [ht]
      exact ⟨x, y, hx, hy, (h0.grown hg (h0.nap hrow)).up.mono hB (Nat.le_refl _) (Nat.le_refl _), (h1.grown hg (h1.nap hrow)).up.mono hB (Nat.le_refl _) (Nat.le_refl _)⟩
    · obtain ⟨p, q, q0, q1, q2, q3⟩ := hc i (by omega)
      have ht : (ts ++ [t]).getD i tp0 = ts.getD i tp0 := by
        rw [List.getD_eq_getElem?_getD, List.getD_eq_getElem?_getD, List.getElem?_append_left (by omega)]
      rw [ht]
      have r2 := q2.below hb (Nat.le_refl _)
      have r3 := q3.below hb (Nat.le_refl _)
      exact ⟨p, q, (hold _ (by omega)).trans q0, (hold _ (by omega)).trans q1, (r2.grown hg (r2.nap hrow)).up, (r3.grown hg (r3.nap hrow)).up⟩
  · intro i j a b hij hj ha hb'
    rw [List.length_append, List.length_singleton] at hj
    by_cases j1 : j = ts.length * 2 + 1
    · subst j1
      rw [hy] at hb'; cases hb'
      by_cases i0 : i = ts.length * 2
      · subst i0
        rw [hx] at ha; cases ha; exact hs
      · rw [hold i (by omega)] at ha
        exact sep_of (hc.cellTop (by omega) ha) h1.row.lt (Nat.le_refl _)
    · by_cases j0 : j = ts.length * 2
      · subst j0
        rw [hx] at hb'; cases hb'
        rw [hold i (by omega)] at ha
        exact sep_of (hc.cellTop (by omega) ha) h0.row.lt (Nat.le_refl _)
      · rw [hold i (by omega)] at ha
        rw [hold j (by omega)] at hb'
        exact hq i j a b hij (by omega) ha hb'
theorem cellNew2 (w : World) (x y : Value) (t : TypeId) : ∀ j u, [x, y][j]? = some u → (w.alloc (.cells #[x, y] t)).cell? ((⟨w.heap.size, 0, none⟩ : Addr).add j) = some u := fun j u hj => by
  rw [Addr.add_lit]
  exact (Cels.new w t [x, y]).cell (0 + j) (by simpa using hj)
theorem put2w {w : World} {g : Nat} {t : TypeId} {a0 a1 : Value} (h : Cels w g t [a0, a1]) (b0 b1 : Value) :
    w.cell? ⟨g, 0, none⟩ = some a0 ∧ w.frozen? ⟨g, 0, none⟩ = false ∧ (w.setCell ⟨g, 0, none⟩ b0).cell? ⟨g, 1, none⟩ = some a1 ∧ (w.setCell ⟨g, 0, none⟩ b0).frozen? ⟨g, 1, none⟩ = false ∧
    Cels ((w.setCell ⟨g, 0, none⟩ b0).setCell ⟨g, 1, none⟩ b1) g t [b0, b1] := by
  have r2 := h.set 0 b0
  have r3 := r2.set 1 b1
  exact ⟨h.cell 0 rfl, h.frozen 0, r2.cell 1 rfl, r2.frozen 1, r3⟩
theorem rvL_take (ts : List Tp) (k : Nat) (h : k < ts.length) : (rvL ts).take (k + 1) = (rvL ts).take k ++ [swT (ts.getD k tp0)] := by
  rw [List.take_succ_eq_append_getElem (by rw [rvL_len]; exact h), ← rvL_at, List.getD_eq_getElem?_getD, List.getElem?_eq_getElem (by rw [rvL_len]; exact h)]; rfl
set_option maxRecDepth 100000 in
set_option maxHeartbeats 4000000 in
theorem revOne (u v : Value) (xs ys : List Int) (w : World) (hu : Rd w u xs) (hv : Rd w v ys) :
    Calls Try.prog 78 #[.agg #[u, v]] w fun e w' => ∃ a b, e = .returned (.agg #[a, b]) ∧ Ow w' w.heap.size w'.heap.size a ys ∧ Ow w' w.heap.size w'.heap.size b xs ∧ Sep a b ∧ Below w.heap.size w w' := by
  have HU := Lib.hid hu
  have HV := Lib.hid hv
  obtain ⟨_, _, ax, cx, rfl, _, _⟩ := hu
  obtain ⟨_, _, ay, cy, rfl, _, _⟩ := hv
  obtain ⟨W0, hW0⟩ : ∃ W, W = (w.alloc (Obj.cells #[.slice ax xs.length cx, .slice ay ys.length cy] 64)).alloc (Obj.cells #[.slice none 0 0, .slice none 0 0] 64) := ⟨_, rfl⟩
  have hs0 : W0.heap.size = w.heap.size + 1 + 1 := by rw [hW0]; simp
  have K0 : Hid (Cels W0 w.heap.size 64 [.slice ax xs.length cx, .slice ay ys.length cy]) := Lib.hid (by rw [hW0]; exact (Cels.new _ _ _).alloc _)
  have K1 : Hid (Cels W0 (w.heap.size + 1) 64 [.slice none 0 0, .slice none 0 0]) := Lib.hid (by
    rw [hW0]
    have := Cels.new (w.alloc (Obj.cells #[.slice ax xs.length cx, .slice ay ys.length cy] 64)) 64 [.slice none 0 0, .slice none 0 0]
    simpa using this)
  have HB0 : Hid (Below w.heap.size w W0) := Lib.hid (by rw [hW0]; exact ((Below.refl _ _).alloc (Nat.le_refl _) _).alloc (by simp) _)
  have HS0 := Lib.hid hs0
  have HW0 := Lib.hid hW0.symm
  have HS : Hid (∀ W, Below (w.heap.size + 1) W0 W → W.cell? ⟨w.heap.size, 0, none⟩ = some (.slice ax xs.length cx) ∧ W.cell? ⟨w.heap.size, 1, none⟩ = some (.slice ay ys.length cy)) := Lib.hid (fun W h => ⟨(K0.out.below h (Nat.lt_succ_self _)).cell 0 rfl, (K0.out.below h (Nat.lt_succ_self _)).cell 1 rfl⟩)
  have HM : Hid (w.heap.size + 1 ≤ W0.heap.size) := Lib.hid (by omega)
  clear hW0 hs0
  go_enter Try.func78, Try.ntmps78
  go_wp2_with fail
  rw [HW0.out]
  have HD : Hid (Below W0.heap.size W0 W0.drew) := Lib.hid (Below.refl _ _).drew
  go_region_held3 (fun W => W.cell? ⟨w.heap.size, 0, none⟩ = some (.slice ax xs.length cx) ∧ W.cell? ⟨w.heap.size, 1, none⟩ = some (.slice ay ys.length cy))
    (first | exact HS.out _ (HD.out.mono HM.out) | exact HS.out _ (below_set (HD.out.mono HM.out) (Nat.le_refl _) _ _) | exact HS.out _ (below_set (below_set (HD.out.mono HM.out) (Nat.le_refl _) _ _) (Nat.le_refl _) _ _))
    (first
      | (go_at_call 69; with_reducible refine (libClone _ ys _ (HV.out.below (HB0.out.trans (HD.out.mono HB0.out.size)) (Nat.le_refl _))).mono ?_; rintro e3 w3 ⟨ua, rfl, ho, hb3⟩; obtain ⟨ga, gc, hua⟩ := ho.shape; subst hua; have HSZ := Lib.hid HD.out.size; have HBQ := Lib.hid hb3; replace HD := Lib.hid (HD.out.trans (hb3.mono HD.out.size)); have HOA := Lib.hid ho; clear ho hb3; try (have HSEP := Lib.hid (sep_of HOB.out.top HOA.out.row.lt HOB.out.size).symm; replace HOB := Lib.hid (HOB.out.below HBQ.out HOB.out.size); have K4 := Lib.hid (K1.out.below HD.out K1.out.lt); have HF3 := Lib.hid (put2w K4.out (.slice ga ys.length gc) (.slice gb xs.length gd)); obtain ⟨f1, f2, f3, f4, f5⟩ := HF3.out))
      | (go_at_call 69; with_reducible refine (libClone _ xs _ (HU.out.below (HB0.out.trans (HD.out.mono HB0.out.size)) (Nat.le_refl _))).mono ?_; rintro e3 w3 ⟨ub, rfl, ho, hb3⟩; obtain ⟨gb, gd, hub⟩ := ho.shape; subst hub; have HSY := Lib.hid HD.out.size; have HBQ := Lib.hid hb3; replace HD := Lib.hid (HD.out.trans (hb3.mono HD.out.size)); have HOB := Lib.hid ho; clear ho hb3; try (have HSEP := Lib.hid (sep_of HOA.out.top HOB.out.row.lt HOA.out.size); replace HOA := Lib.hid (HOA.out.below HBQ.out HOA.out.size); have K4 := Lib.hid (K1.out.below HD.out K1.out.lt); have HF3 := Lib.hid (put2w K4.out (.slice ga ys.length gc) (.slice gb xs.length gd)); obtain ⟨f1, f2, f3, f4, f5⟩ := HF3.out)))
  all_goals
    have hs0 := HS0.out
    have hA := HOA.out.up.mono HSZ.out (Nat.le_refl _) (Nat.le_refl _)
    have hBq := HOB.out.up.mono HSY.out (Nat.le_refl _) (Nat.le_refl _)
    have hD := HB0.out.trans (HD.out.mono HB0.out.size)
    rw [hs0] at hA hBq
    obtain ⟨W, hW⟩ : ∃ W, W = (w3.setCell ⟨w.heap.size + 1, 0, none⟩ (.slice ga ys.length gc)).setCell ⟨w.heap.size + 1, 1, none⟩ (.slice gb xs.length gd) := ⟨_, rfl⟩
    have hB : Below w.heap.size w W ∧ Ow W (w.heap.size + 1 + 1) W.heap.size (.slice ga ys.length gc) ys ∧ Ow W (w.heap.size + 1 + 1) W.heap.size (.slice gb xs.length gd) xs := by
      rw [hW]
      exact ⟨below_set (below_set hD (by omega) _ _) (by omega) _ _, ((hA.apartCell (by omega) _ _).apartCell (by omega) _ _).up, ((hBq.apartCell (by omega) _ _).apartCell (by omega) _ _).up⟩
    rw [← hW] at f5 ⊢
    have z0 := f5.cell 0 rfl
    have z1 := f5.cell 1 rfl
    clear f1 f2 f3 f4 hW
    first
      | (rename_i hk _; refine hk _ _ ?_)
      | (rename_i hk _ _; refine hk _ _ ?_)
      | (rename_i hk _ _ _; refine hk _ _ ?_)
      | (rename_i hk _ _ _ _; refine hk _ _ ?_)
      | (rename_i hk _ _ _ _ _; refine hk _ _ ?_)
      | (rename_i hk _ _ _ _ _ _; refine hk _ _ ?_)
      | (rename_i hk _ _ _ _ _ _ _; refine hk _ _ ?_)
      | (rename_i hk _ _ _ _ _ _ _ _; refine hk _ _ ?_)
    go_wp2
    refine bodyPost_ret (v := .agg #[.slice ga ys.length gc, .slice gb xs.length gd]) (by simp [results, Try.f78, go_sem, z0, z1]) rfl ⟨_, _, rfl, hB.2.1.mono (by omega) (Nat.le_refl _) (Nat.le_refl _), hB.2.2.mono (by omega) (Nat.le_refl _) (Nat.le_refl _), HSEP.out, hB.1⟩
set_option maxRecDepth 100000 in
set_option maxHeartbeats 4000000 in
theorem mapRev (v : Value) (ts : List Tp) (w : World) (h : RdT w v ts) (hn : ts.length ≤ 60) :
    Calls Try.prog 77 #[v, .func (Fn.func 78) #[] #[]] w fun e w' => ∃ u, e = .returned u ∧ OwRN w' w.heap.size w'.heap.size u (rvL ts) ∧ Below w.heap.size w w' := by
  obtain ⟨i0, hi, hz0, hz1, hz2⟩ := info_parts infoT
  have HH := Lib.hid h
  have hl := h.len
  obtain ⟨_, a, c, rfl, hcap, hr⟩ := h
  clear hr
  go_enter Try.func77, Try.ntmps77
  go_wp2
  go_loopw [5, 10] (fun o s wr => ∃ (k : Nat) (ov : Value), o = ov ∧ k ≤ ts.length ∧ s = .int .i64 k ∧ GrT wr w.heap.size ov ((rvL ts).take k) ∧ Below w.heap.size w wr) (fun _ s _ => ts.length - (intOf s).toNat)
  case atStart => exact ⟨0, _, rfl, Nat.zero_le _, rfl, by simpa using GrT.start w w.heap.size, Below.refl _ _⟩
  case round =>
    obtain ⟨k, ov, hov, hk, rfl, hgr, hbel⟩ := hrel
    obtain rfl := hov.symm
    have HB := Lib.hid hbel
    by_cases hlt : k < ts.length
    · obtain ⟨_, a', c', he, _, hr⟩ := HH.out.below HB.out (Nat.le_refl _)
      obtain ⟨b, o, ha, hb, hcell⟩ := hr (by intro h0; rw [h0] at hlt; simp at hlt)
      simp only [Value.slice.injEq] at he
      obtain ⟨rfl, _, rfl⟩ := he
      subst ha
      obtain ⟨x, y, c0, c1, hx, hy⟩ := hcell k hlt
      have HTK := Lib.hid (rvL_take ts k hlt)
      obtain ⟨t, ht⟩ : ∃ t, t = ts.getD k tp0 := ⟨_, rfl⟩
      rw [← ht] at hx hy HTK
      obtain ⟨l, r⟩ := t
      dsimp only at hx hy
      have HX := Lib.hid hx
      have HY := Lib.hid hy
      obtain ⟨_, _, ax, cx, rfl, _, _⟩ := hx
      obtain ⟨_, _, ay, cy, rfl, _, _⟩ := hy
      have HGR := Lib.hid hgr
      have i0' : (0 : Int) ≤ (k : Int) := by omega
      have i1 : (k : Int) < (ts.length : Int) := by omega
      have hq : Below wr.heap.size wr (wr.alloc (Obj.cells #[.slice ax l.length cx, .slice ay r.length cy] 64)) := (Below.refl _ _).alloc (Nat.le_refl _) _
      have HQ := Lib.hid hq
      clear hcell hr ht hgr hbel hq
      go_wp2_with fail
      refine (revOne _ _ l r _ (HX.out.below HQ.out (Nat.le_refl _)) (HY.out.below HQ.out (Nat.le_refl _))).mono ?_
      rintro e w1 ⟨p, q, rfl, hp, hq, hsep, hb1⟩
      obtain ⟨ga, gc, hp'⟩ := hp.shape
      subst hp'
      obtain ⟨gb, gd, hq'⟩ := hq.shape
      subst hq'
      have HB1 := Lib.hid (HQ.out.trans (hb1.mono HQ.out.size))
      have HP : Hid (Ow w1 wr.heap.size w1.heap.size (.slice ga r.length gc) r) := Lib.hid (hp.mono HQ.out.size (Nat.le_refl _) (Nat.le_refl _))
      have HQ2 : Hid (Ow w1 wr.heap.size w1.heap.size (.slice gb l.length gd) l) := Lib.hid (hq.mono HQ.out.size (Nat.le_refl _) (Nat.le_refl _))
      have HSEP := Lib.hid hsep
      obtain ⟨cs, hown, hcop, hsq⟩ := HGR.out
      have HCO := Lib.hid hcop
      have HSQ := Lib.hid hsq
      have hlk : ((rvL ts).take k).length = k := by rw [List.length_take, rvL_len]; omega
      have HLK := Lib.hid hlk
      have hown1 : w1.ownsRow w.heap.size 64 2 ov k cs := by rw [hlk] at hown; exact ownC_below hown HB1.out (Nat.le_refl _)
      have HOW := Lib.hid hown1
      have hsz := Nat.le_trans HB.out.size HB1.out.size
      clear hp hq hsep hb1 hown hcop hsq hlk
      go_wp2_with (at_builtin; refine wpList_append_own _ rfl _ _ 32 rfl w.heap.size 64 i0 (.agg #[.slice none 0 0, .slice none 0 0]) 2 48 Try.underlying32 hi hz0 hz1 hz2 rfl (by decide) _ _ _ rfl (hown1.alloc _) ⟨_, 0, none⟩ 1 1 [.slice ga r.length gc, .slice gb l.length gd] rfl rfl ?c1 ?c2 ?c3 ?c4 ?c5 ?_)
      case c1 => exact cellNew2 _ _ _ _
      case c2 => intro u hu; simp at hu; rcases hu with rfl | rfl <;> rfl
      case c3 => unfold maxLen; omega
      case c4 => omega
      case c5 => first | omega | (simp; omega)
      intro v' w2 hown2 hgrow _
      have HBA : Hid (Below wr.heap.size wr (w1.alloc (Obj.cells #[.slice ga r.length gc, .slice gb l.length gd] 64))) := Lib.hid (HB1.out.alloc HB1.out.size _)
      have hbw : Below w1.heap.size w1 (w1.alloc (Obj.cells #[.slice ga r.length gc, .slice gb l.length gd] 64)) := (Below.refl _ _).alloc (Nat.le_refl _) _
      have HG2 : Hid (GrT w2 w.heap.size v' ((rvL ts).take (k + 1))) := Lib.hid (by
        rw [HTK.out]
        have hlk := HLK.out
        exact rows_snoc (t := swT ⟨l, r⟩) (w0 := wr) (w := w1.alloc (Obj.cells #[.slice ga r.length gc, .slice gb l.length gd] 64)) HCO.out HSQ.out HBA.out HB.out.size (by rw [hlk]; exact HOW.out.alloc _) (HP.out.below hbw (Nat.le_refl _)).up (HQ2.out.below hbw (Nat.le_refl _)).up HSEP.out hgrow (by rw [hlk]; exact hown2))
      have HBX := Lib.hid ((HB.out.trans (HBA.out.mono HB.out.size)).grown hgrow (by simp; omega) (fun q hq => (HOW.out.lt q hq).1))
      clear hown2 hgrow hown1 hbw
      go_wp2
      go_roundw
      case rel => exact ⟨k + 1, v', rfl, by omega, by go_num, HG2.out, HBX.out⟩
      case measure => simp [intOf]; omega
    · obtain rfl : k = ts.length := by omega
      have HO : Hid (OwRN wr w.heap.size wr.heap.size ov (rvL ts)) := Lib.hid (by
        have h1 := hgr
        rw [List.take_of_length_le (by rw [rvL_len]; exact Nat.le_refl _)] at h1
        exact h1.own (by rw [rvL_len]; exact hl) HB.out.size)
      clear hgr hbel
      go_wp2
      go_ret
      exact ⟨_, rfl, HO.out, HB.out⟩
set_option maxRecDepth 100000 in
set_option maxHeartbeats 2000000 in
theorem implRevRw (v : Value) (ts : List Tp) (w : World) (h : RdT w v ts) :
    Calls Try.prog 41 #[v] w fun e w' => ∃ u, e = .returned (.tuple #[u, .int .i64 (rvR ts).2]) ∧ OwRN w' w.heap.size w'.heap.size u (rvR ts).1 ∧ Below w.heap.size w w' := by
  have H := Lib.hid h
  obtain ⟨ok, hok⟩ : ∃ b, b = rwsB ts := ⟨_, rfl⟩
  have HOK := Lib.hid hok
  clear hok h
  rcases eqOr ok with hb | hb
  · subst hb
    have HF := Lib.hid (rvR_no HOK.out.symm)
    go_enter Try.func41, Try.ntmps41
    go_wp2_with fail
    refine (implValidRws _ ts _ H.out).mono ?_
    rintro e w1 ⟨rfl, hb1⟩
    rw [← HOK.out]
    have HB1 := Lib.hid hb1
    clear hb1
    go_wp2
    go_ret2
    exact ⟨_, by rw [HF.out] <;> rfl, by rw [HF.out]; exact OwRN.none HB1.out.size, HB1.out⟩
  subst hb
  have HN := Lib.hid (rwsB_len HOK.out.symm).2
  obtain ⟨ok2, hok2⟩ : ∃ b, b = rwsB (rvL ts) := ⟨_, rfl⟩
  have HOK2 := Lib.hid hok2
  clear hok2
  go_enter Try.func41, Try.ntmps41
  go_wp2_with fail
  refine (implValidRws _ ts _ H.out).mono ?_
  rintro e w1 ⟨rfl, hb1⟩
  rw [← HOK.out]
  have HB1 := Lib.hid hb1
  clear hb1
  go_wp2_with fail
  refine (mapRev _ ts _ (H.out.below HB1.out (Nat.le_refl _)) HN.out).mono ?_
  rintro e w2 ⟨u, rfl, ho, hb2⟩
  obtain ⟨ga, gc, hu⟩ := ho.shape
  rw [rvL_len] at hu
  subst hu
  have HO := Lib.hid ho
  have HB2 := Lib.hid (HB1.out.trans (hb2.mono HB1.out.size))
  have HSZ := Lib.hid HB1.out.size
  clear ho hb2
  go_wp2_with fail
  refine (implValidRws _ (rvL ts) _ HO.out.rdt).mono ?_
  rintro e w3 ⟨rfl, hb3⟩
  rw [← HOK2.out]
  have HO3 := Lib.hid (HO.out.below hb3 HO.out.size)
  have HB3 := Lib.hid (HB2.out.trans (hb3.mono HB2.out.size))
  clear hb3
  rcases eqOr ok2 with hb | hb
  · subst hb
    have HF := Lib.hid (rvR_bad HOK.out.symm HOK2.out.symm)
    go_wp2
    go_ret2
    exact ⟨_, by rw [HF.out] <;> rfl, by rw [HF.out]; exact OwRN.none HB3.out.size, HB3.out⟩
  · subst hb
    have HF := Lib.hid (rvR_good HOK.out.symm HOK2.out.symm)
    go_wp2
    go_ret2
    exact ⟨_, by rw [HF.out] <;> rfl, by rw [HF.out]; exact HO3.out.wide HSZ.out HO3.out.size, HB3.out⟩
/-- A struct of two slices appended to a row of the call's own, in a region. -/
theorem step_append_two {w : World} {ops : Array Oper} {o : Oper} {a : Act} {K : Act → World → Prop} {Q : Exit → Act → World → Prop} {E : Prop} {a0 a1 : Option Addr} {n0 n1 c0 c1 : Nat} (hgd : o.guard = none) (s x : Operand)
    (ho : o.op = .call { callee := .builtin .append, args := #[s, x], argTypes := #[32, 32] })
    (base n : Nat) (v : Value) (xs : List Value) (hs : a.eval s = v) (hown : w.ownsRow base 64 2 v n xs) (hx : a.eval x = .slice (some ⟨w.heap.size, 0, none⟩) 1 1) (hn : n ≤ 1048576) (hbase : base ≤ w.heap.size)
    (h : ∀ v' w', w'.ownsRow base 64 2 v' (n + 1) (xs ++ [.slice a0 n0 c0, .slice a1 n1 c1]) → (w.alloc (.cells #[.slice a0 n0 c0, .slice a1 n1 c1] 64)).grownBy w' v.ownBlock → K (a.put o.dst v') w') :
    if Region.wanted o (yielded ops a.tmps) = true then Oper.wp Try.prog o a (w.alloc (.cells #[.slice a0 n0 c0, .slice a1 n1 c1] 64)) K Q else E := by
  have hw : Region.wanted o (yielded ops a.tmps) = true := by simp [Region.wanted, hgd]
  rw [if_pos hw]
  obtain ⟨i0, hi, hz0, hz1, hz2⟩ := info_parts infoT
  exact wp_append_own _ s x 32 ho base 64 i0 (.agg #[.slice none 0 0, .slice none 0 0]) 2 48 Try.underlying32 hi hz0 hz1 hz2 rfl (by decide) v n xs hs (hown.alloc _) ⟨w.heap.size, 0, none⟩ 1 1 [.slice a0 n0 c0, .slice a1 n1 c1] hx rfl (cellNew2 _ _ _ _)
      (by intro u hu; simp at hu; rcases hu with rfl | rfl <;> rfl) (by unfold maxLen; omega) (by omega) (Nat.le_trans hbase (by simp)) (fun v' w' h1 h2 _ => h v' w' h1 h2)
theorem rv_len {ts : List Tp} {k : Nat} (h : k ≤ ts.length) : ((rvL ts).take k).length = k := by rw [List.length_take, rvL_len]; omega
set_option maxRecDepth 100000 in
set_option maxHeartbeats 8000000 in
theorem specRevRw (v : Value) (ts : List Tp) (w : World) (h : RdT w v ts) :
    Calls Try.prog 40 #[v] w fun e w' => ∃ u, e = .returned (.tuple #[u, .int .i64 (rvR ts).2]) ∧ OwRN w' w.heap.size w'.heap.size u (rvR ts).1 ∧ Below w.heap.size w w' := by
  have H := Lib.hid h
  have hl := h.len
  obtain ⟨ok, hok⟩ : ∃ b, b = rwsB ts := ⟨_, rfl⟩
  have HOK := Lib.hid hok
  clear hok
  rcases eqOr ok with hb | hb
  · subst hb
    have HF := Lib.hid (rvR_no HOK.out.symm)
    clear h
    go_enter Try.func40, Try.ntmps40
    go_wp2_with fail
    refine (specRws _ ts _ H.out).mono ?_
    rintro e w1 ⟨rfl, rfl⟩
    rw [← HOK.out]
    go_wp2
    go_ret2
    exact ⟨_, by rw [HF.out] <;> rfl, by rw [HF.out]; exact OwRN.none (Nat.le_refl _), Below.refl _ _⟩
  subst hb
  have HN := Lib.hid (rwsB_len HOK.out.symm).2
  obtain ⟨_, a, c, rfl, hcap, hr⟩ := h
  clear hr
  have HR0 : Hid ((w.alloc (.cells #[] 64)).ownsRow w.heap.size 64 2 (.slice (some ⟨w.heap.size, 0, none⟩) 0 0) 0 []) := Lib.hid (World.ownsRow_made w #[] 0 (Nat.le_refl _) (by unfold maxLen; omega) (by simp))
  have HA0 : Hid (Below w.heap.size w (w.alloc (.cells #[] 64))) := Lib.hid ((Below.refl _ _).alloc (Nat.le_refl _) _)
  go_enter Try.func40, Try.ntmps40
  go_wp2_with fail
  refine (specRws _ ts _ H.out).mono ?_
  rintro e w1 ⟨rfl, rfl⟩
  rw [← HOK.out]
  go_wp2
  go_loopw [4, 5] (fun o s wr => ∃ (k : Nat) (ov : Value), o = ov ∧ k ≤ ts.length ∧ s = .int .i64 k ∧ (∀ i, i < k → 0 < (ts.getD i tp0).r.length) ∧ GrT wr w.heap.size ov ((rvL ts).take k) ∧ Below w.heap.size w wr) (fun _ s _ => ts.length - (intOf s).toNat)
  case atStart => exact ⟨0, _, rfl, Nat.zero_le _, rfl, fun i hi => by omega, ⟨[], by simpa using HR0.out, fun i hi => by simp at hi, fun i j x y _ hj => by simp at hj⟩, HA0.out⟩
  case round =>
    obtain ⟨k, ov, hov, hk, rfl, hall, hgr, hbel⟩ := hrel
    obtain rfl := hov.symm
    have HA := Lib.hid hall
    have HB := Lib.hid hbel
    have HGR := Lib.hid hgr
    clear hall hgr hbel
    by_cases hlt : k < ts.length
    · obtain ⟨_, a', c', he, _, hr⟩ := H.out
      obtain ⟨b, o, ha, hb, hcell⟩ := hr (by intro h0; rw [h0] at hlt; simp at hlt)
      simp only [Value.slice.injEq] at he
      obtain ⟨rfl, _, rfl⟩ := he
      subst ha
      obtain ⟨x, y, c0, c1, hx, hy⟩ := hcell k hlt
      replace c0 := (HB.out.cell (p := ⟨b, o + k * 2, none⟩) hb).trans c0
      replace c1 := (HB.out.cell (p := ⟨b, o + k * 2 + 1, none⟩) hb).trans c1
      replace hx := hx.below HB.out (Nat.le_refl _)
      replace hy := hy.below HB.out (Nat.le_refl _)
      have HTK := Lib.hid (rvL_take ts k hlt)
      obtain ⟨t, ht⟩ : ∃ t, t = ts.getD k tp0 := ⟨_, rfl⟩
      have HT := Lib.hid ht
      rw [← ht] at hx hy HTK
      obtain ⟨l, r⟩ := t
      dsimp only at hx hy
      have HX := Lib.hid hx
      have HY := Lib.hid hy
      obtain ⟨_, _, ax, cx, rfl, _, _⟩ := hx
      obtain ⟨_, _, ay, cy, rfl, _, _⟩ := hy
      have i0' : (0 : Int) ≤ (k : Int) := by omega
      have i1 : (k : Int) < (ts.length : Int) := by omega
      clear hcell hr ht
      by_cases hr0 : r.length = 0
      · have hz : ((r.length : Int) == 0) = true := by rw [hr0]; rfl
        have HF := Lib.hid (rvR_bad HOK.out.symm (rv_bad hlt (by rw [← HT.out]; exact hr0)))
        clear hr0
        go_wp2
        go_ret2
        exact ⟨_, by rw [HF.out] <;> rfl, by rw [HF.out]; exact OwRN.none HB.out.size, HB.out⟩
      have hz : ((r.length : Int) == 0) = false := by simp only [beq_eq_false_iff_ne]; omega
      have HA2 : Hid (∀ i, i < k + 1 → 0 < (ts.getD i tp0).r.length) := Lib.hid (fun i hi => by
        by_cases hik : i = k
        · subst hik; rw [← HT.out]; show 0 < r.length; omega
        · exact HA.out i (by omega))
      obtain ⟨cs, hown, hcop, hsq⟩ := HGR.out
      have HCO := Lib.hid hcop
      have HSQ := Lib.hid hsq
      have HLK := Lib.hid (rv_len (ts := ts) hk)
      rw [HLK.out] at hown
      have HOW := Lib.hid hown
      have HCC : Hid (∀ W, Below w.heap.size wr W → W.cell? ⟨b, o + k * 2, none⟩ = some (.slice ax l.length cx) ∧ W.cell? ⟨b, o + k * 2 + 1, none⟩ = some (.slice ay r.length cy)) := Lib.hid (fun W hW => ⟨(hW.cell (p := ⟨b, o + k * 2, none⟩) hb).trans c0, (hW.cell (p := ⟨b, o + k * 2 + 1, none⟩) hb).trans c1⟩)
      have HK8 : Hid (k ≤ 1048576) := Lib.hid (by omega)
      clear hown hcop hsq hr0
      go_wp2_with fail
      have HD : Hid (Below wr.heap.size wr wr.drew) := Lib.hid (Below.refl _ _).drew
      go_region_held3 (fun W => W.cell? ⟨b, o + k * 2, none⟩ = some (.slice ax l.length cx) ∧ W.cell? ⟨b, o + k * 2 + 1, none⟩ = some (.slice ay r.length cy))
        (first | exact HCC.out _ (HD.out.mono HB.out.size) | exact HCC.out _ ((HD.out.mono HB.out.size).alloc (Nat.le_trans HB.out.size HD.out.size) _) | exact HCC.out _ HDX.out)
        (first
          | (go_at_call 68; with_reducible refine (specOwn _ r _ (HY.out.below HD.out (Nat.le_refl _))).mono ?_; rintro e3 w3 ⟨ua, rfl, ho, hb3⟩; obtain ⟨ga, gc, hua⟩ := ho.shape; subst hua; have HSZ := Lib.hid HD.out.size; have HBQ := Lib.hid hb3; replace HD := Lib.hid (HD.out.trans (hb3.mono HD.out.size)); have HOA := Lib.hid ho; clear ho hb3; try (have HSEP := Lib.hid (sep_of HOB.out.top HOA.out.row.lt HOB.out.size).symm; replace HOB := Lib.hid (HOB.out.below HBQ.out HOB.out.size)))
          | (go_at_call 68; with_reducible refine (specOwn _ l _ (HX.out.below HD.out (Nat.le_refl _))).mono ?_; rintro e3 w3 ⟨ub, rfl, ho, hb3⟩; obtain ⟨gb, gd, hub⟩ := ho.shape; subst hub; have HSY := Lib.hid HD.out.size; have HBQ := Lib.hid hb3; replace HD := Lib.hid (HD.out.trans (hb3.mono HD.out.size)); have HOB := Lib.hid ho; clear ho hb3; try (have HSEP := Lib.hid (sep_of HOA.out.top HOB.out.row.lt HOA.out.size); replace HOA := Lib.hid (HOA.out.below HBQ.out HOA.out.size)))
          | (refine step_append_two (by rfl) _ _ (by rfl) w.heap.size k _ cs (by rfl) (ownC_below HOW.out HD.out (Nat.le_refl _)) (by rfl) HK8.out (Nat.le_trans HB.out.size HD.out.size) ?_; intro v' w4 hown4 hgrow4; have HO4 := Lib.hid hown4; have HG4 := Lib.hid hgrow4; have HDX := Lib.hid (((HD.out.mono HB.out.size).alloc (Nat.le_trans HB.out.size HD.out.size) _).grown hgrow4 (Nat.le_trans (Nat.le_trans HB.out.size HD.out.size) (by simp)) (fun q hq => (HOW.out.lt q hq).1)); clear hown4 hgrow4))
      all_goals
        have HBA : Hid (Below wr.heap.size wr (w3.alloc (Obj.cells #[.slice ga r.length gc, .slice gb l.length gd] 64))) := Lib.hid (HD.out.alloc HD.out.size _)
        have hbw : Below w3.heap.size w3 (w3.alloc (Obj.cells #[.slice ga r.length gc, .slice gb l.length gd] 64)) := (Below.refl _ _).alloc (Nat.le_refl _) _
        have HP := Lib.hid (HOA.out.up.mono HSZ.out (Nat.le_refl _) (Nat.le_refl _))
        have HQ2 := Lib.hid (HOB.out.up.mono HSY.out (Nat.le_refl _) (Nat.le_refl _))
        have HG2 : Hid (GrT w4 w.heap.size v' ((rvL ts).take (k + 1))) := Lib.hid (by
          rw [HTK.out]
          have hlk := HLK.out
          exact rows_snoc (t := swT ⟨l, r⟩) (w0 := wr) (w := w3.alloc (Obj.cells #[.slice ga r.length gc, .slice gb l.length gd] 64)) HCO.out HSQ.out HBA.out HB.out.size (by rw [hlk]; exact (ownC_below HOW.out HD.out (Nat.le_refl _)).alloc _) (HP.out.below hbw (Nat.le_refl _)).up (HQ2.out.below hbw (Nat.le_refl _)).up HSEP.out HG4.out (by rw [hlk]; exact HO4.out))
        have HBX := Lib.hid (HB.out.trans HDX.out)
        clear hbw
        go_wp2
        go_roundw
        case rel => exact ⟨k + 1, v', rfl, by omega, by go_num, HA2.out, HG2.out, HBX.out⟩
        case measure => simp [intOf]; omega
    · obtain rfl : k = ts.length := by omega
      have HG := Lib.hid (rv_good HOK.out.symm HA.out)
      have HF := Lib.hid (rvR_good HOK.out.symm HG.out)
      have HO : Hid (OwRN wr w.heap.size wr.heap.size ov (rvL ts)) := Lib.hid (by
        have h1 := HGR.out
        rw [List.take_of_length_le (by rw [rvL_len]; exact Nat.le_refl _)] at h1
        exact h1.own (by rw [rvL_len]; exact hl) HB.out.size)
      obtain ⟨ga, gc, hu⟩ := HO.out.shape
      rw [rvL_len] at hu
      subst hu
      have hnlt : ¬ ((ts.length : Int) < (ts.length : Int)) := by omega
      clear hlt
      go_wp2
      go_ret2
      exact ⟨_, by rw [HF.out] <;> rfl, by rw [HF.out]; exact HO.out, HB.out⟩
end Go.Proofs.Ythombjcjhnekpaa.Ints
