/- Contracts of TupleOf, of the model and of the program. -/
import Derived.Test.YtfnopnaaahkklaaLlm
import Derived.Test.YtfnopnaaahkklaaUpV
import Derived.Test.YtfnopnaaahkklaaIn
import Derived.Test.YtfnopnaaahkklaaOwn
namespace Go.Proofs.Ytfnopnaaahkklaa.Ints
open Go.RowKit
set_option linter.unusedVariables false
set_option linter.unusedSimpArgs false
/-- The marks on lists. -/
def mkQ : Nat → List (List Int) → List (List Int)
  | _, [] => []
  | k, t :: ts => marks (k : Int) t.length :: mkQ (k + t.length) ts
@[simp] theorem mkQ_len (k : Nat) (ts : List (List Int)) : (mkQ k ts).length = ts.length := by
  induction ts generalizing k with
  | nil => rfl
  | cons t ts ih => simp [mkQ, ih]
theorem mkQ_at (ts : List (List Int)) : ∀ (k i : Nat), i < ts.length → (mkQ k ts).getD i [] = marks ((k + tot (ts.take i) : Nat) : Int) (ts.getD i []).length := by
  induction ts with
  | nil => intro k i h; simp at h
  | cons t ts ih =>
    intro k i h
    cases i with
    | zero => simp [mkQ, tot]
    | succ i =>
      simp only [mkQ, List.getD_cons_succ, List.take_succ_cons, tot]
      rw [ih _ i (by simpa using h)]
      simp only [Nat.add_assoc]
theorem SepQ.ne {cs : List Value} {k i j : Nat} {x y : Value} (h : SepQ cs k) (hij : i ≠ j) (hi : i < k) (hj : j < k) (hx : cs[i]? = some x) (hy : cs[j]? = some y) : Sep x y := by
  rcases Nat.lt_or_gt_of_ne hij with h' | h'
  · exact h i j x y h' hj hx hy
  · exact ⟨(h j i y x h' hi hy hx).2, (h j i y x h' hi hy hx).1⟩
/-- Lists of the call's own, or none. -/
def OwQN (w : World) (B T : Nat) (v : Value) (ts : List (List Int)) : Prop := OwQT w B T v ts ∨ (v = .slice none 0 0 ∧ ts = [] ∧ B ≤ T ∧ T ≤ w.heap.size)
theorem OwQN.below {w w' : World} {B T C : Nat} {v : Value} {ts : List (List Int)} (h : OwQN w B T v ts) (hb : Below C w w') (hC : T ≤ C) : OwQN w' B T v ts := by
  rcases h with h | ⟨rfl, rfl, h1, h2⟩
  · exact .inl (h.below hb hC)
  · exact .inr ⟨rfl, rfl, h1, Nat.le_trans h2 hb.size⟩
theorem OwQN.onlyQ {w w' : World} {B T : Nat} {v : Value} {ts : List (List Int)} {S : Nat → Prop} (h : OwQN w B T v ts) (k : Only S w w') (hS : ∀ b, B ≤ b → b < T → ¬ S b) : OwQN w' B T v ts := by
  rcases h with h | ⟨rfl, rfl, h1, h2⟩
  · exact .inl (h.onlyQ k hS)
  · exact .inr ⟨rfl, rfl, h1, Nat.le_trans h2 k.size⟩
theorem OwQN.shape {w : World} {B T : Nat} {v : Value} {ts : List (List Int)} (h : OwQN w B T v ts) : ∃ a c, v = .slice a ts.length c := by
  rcases h with h | ⟨rfl, rfl, h1, h2⟩
  · exact h.shape
  · exact ⟨_, _, rfl⟩
theorem OwQN.rdl {w : World} {B T : Nat} {v : Value} {ts : List (List Int)} (h : OwQN w B T v ts) : RdL w v ts := by
  rcases h with h | ⟨rfl, rfl, h1, h2⟩
  · exact h.rdl
  · exact ⟨by simp, none, 0, rfl, Nat.le_refl _, fun h => absurd rfl h⟩
theorem OwQN.len {w : World} {B T : Nat} {v : Value} {ts : List (List Int)} (h : OwQN w B T v ts) : ts.length ≤ 1048576 := by
  rcases h with h | ⟨rfl, rfl, h1, h2⟩
  · exact h.len
  · simp
theorem OwQN.size {w : World} {B T : Nat} {v : Value} {ts : List (List Int)} (h : OwQN w B T v ts) : T ≤ w.heap.size := by
  rcases h with h | ⟨rfl, rfl, h1, h2⟩
  · exact h.size
  · exact h2
/-- The lists when the first i of them bear marks. -/
def mxq (k : Nat) (ts : List (List Int)) (i j : Nat) : List Int := if j < i then (mkQ k ts).getD j [] else ts.getD j []
theorem mxq_lt {k : Nat} {ts : List (List Int)} {i j : Nat} (h : j < i) : mxq k ts i j = (mkQ k ts).getD j [] := if_pos h
theorem mxq_ge {k : Nat} {ts : List (List Int)} {i j : Nat} (h : i ≤ j) : mxq k ts i j = ts.getD j [] := if_neg (by omega)
theorem mxq_ne {k : Nat} {ts : List (List Int)} {i j : Nat} (h : j ≠ i) : mxq k ts (i + 1) j = mxq k ts i j := by
  unfold mxq
  by_cases h1 : j < i
  · rw [if_pos h1, if_pos (by omega)]
  · rw [if_neg h1, if_neg (by omega)]
set_option maxHeartbeats 4000000 in
theorem markListsM (v : Value) (ts : List (List Int)) (k0 : Nat) (B T : Nat) (w : World) (h : OwQN w B T v ts) (h1 : k0 + tot ts ≤ 100000000000) :
    Calls Try.prog 25 #[v, .int .i64 (k0 : Int)] w fun e w' => e = .returned (.int .i64 ((k0 + tot ts : Nat) : Int)) ∧ OwQN w' B T v (mkQ k0 ts) ∧ Only (fun b => B ≤ b ∧ b < T) w w' := by
  rcases h with h | ⟨rfl, rfl, hh⟩
  rotate_left
  · have HH := Lib.hid hh
    clear hh
    go_enter Try.func25, Try.ntmps25
    go_wp2
    refine wp_loop_rounds 1 ?_
    rw [rounds_succ]
    go_wp2
    go_ret
    exact ⟨by simp [tot], .inr ⟨rfl, rfl, HH.out.1, HH.out.2⟩, Only.refl _ _⟩
  obtain ⟨hl, hs, g, c, cs, rfl, hgT, hgB, ho, hc, hsq⟩ := h
  have HL := Lib.hid hl
  have HO := Lib.hid ho
  have HC := Lib.hid hc
  have HSQ := Lib.hid hsq
  have HG := Lib.hid (And.intro hgT hgB)
  have HS := Lib.hid hs
  clear ho hc hsq hgT hgB hs
  go_enter Try.func25, Try.ntmps25
  go_wp2
  go_loopw [1, 5] (fun q s wr => ∃ i : Nat, i ≤ ts.length ∧ s = .int .i64 i ∧ q = .int .i64 ((k0 + tot (ts.take i) : Nat) : Int) ∧ wr.heap[g]? = w.heap[g]? ∧ (∀ j, j < ts.length → ∃ x, cs[j]? = some x ∧ Ow wr B T x (mxq k0 ts i j)) ∧ Only (fun b => B ≤ b ∧ b < T) w wr)
    (fun _ s _ => ts.length - (intOf s).toNat)
  case atStart => exact ⟨0, Nat.zero_le _, rfl, by simp [tot], rfl, fun j hj => by rw [mxq_ge (Nat.zero_le _)]; exact HC.out j hj, Only.refl _ _⟩
  case round =>
    obtain ⟨i, hi, rfl, rfl, hg, hrest, hon⟩ := hrel
    by_cases hlt : i < ts.length
    · obtain ⟨x, hx, hox⟩ := hrest i hlt
      rw [mxq_ge (Nat.le_refl _)] at hox
      have hc2 : wr.cell? ⟨g, i, none⟩ = some x := by
        rw [(rowQ_kept HO.out hg).cellAt i (by have := HO.out.1; omega)]; exact hx
      obtain ⟨ax, cx, rfl⟩ := hox.shape
      have HMK := Lib.hid (mkQ_at ts k0 i hlt)
      obtain ⟨t, ht⟩ : ∃ t, t = ts.getD i [] := ⟨_, rfl⟩
      rw [← ht] at hox hc2 hx HMK
      have HX := Lib.hid hox
      have HTT := Lib.hid ht
      have HR := Lib.hid hrest
      have HON := Lib.hid hon
      have HGE := Lib.hid hg
      have HCX := Lib.hid hx
      have htk := tot_take ts i hlt
      have htl := tot_le ts (i + 1)
      have HK := Lib.hid (And.intro htk htl)
      obtain ⟨k, hk⟩ : ∃ k, k = k0 + tot (ts.take i) := ⟨_, rfl⟩
      have HKE := Lib.hid hk
      have hkb : (k : Int) ≤ 1000000000000 := by rw [← ht] at htk; omega
      rw [← hk] at HMK
      rw [← hk]
      have i0 : (0 : Int) ≤ (i : Int) := by omega
      have i1 : (i : Int) < (ts.length : Int) := by omega
      clear hrest hon hg hox ht hk hx htk htl
      go_wp2_with fail
      refine (markInts _ t (k : Int) B T _ HX.out (by omega) hkb).mono ?_
      rintro e w3 ⟨rfl, ho3, hg3⟩
      have HX3 := Lib.hid ho3
      have HG3 : Hid (Only (fun b => B ≤ b ∧ b < T) wr w3) := Lib.hid ⟨hg3.os, hg3.tape, hg3.output, hg3.size, fun b hb hn => hg3.block b hb (fun e => by
        have hlt2 := HX.out.top b e.symm
        have hge := (HX.out.row.lt b e.symm).1
        exact hn ⟨hge, hlt2⟩)⟩
      have HGB : Hid (w3.heap[g]? = w.heap[g]?) := Lib.hid ((hg3.block g (by have := HON.out.size; have := HS.out; have := HG.out.1; omega) (fun e => HX.out.qapart (rowQ_kept HO.out HGE.out) e.symm)).trans HGE.out)
      have HR3 : Hid (∀ j, j < ts.length → ∃ x, cs[j]? = some x ∧ Ow w3 B T x (mxq k0 ts (i + 1) j)) := Lib.hid (fun j hjl => by
        by_cases hj : j = i
        · subst hj
          rw [mxq_lt (Nat.lt_succ_self _), HMK.out]
          exact ⟨_, HCX.out, HX3.out⟩
        · obtain ⟨y, e1, e2⟩ := HR.out j hjl
          rw [mxq_ne hj]
          exact ⟨y, e1, e2.grown hg3 (HSQ.out.ne (i := i) (j := j) (by omega) (by omega) (by omega) HCX.out e1).2⟩)
      have e9 : (k : Int) + (t.length : Int) = ((k0 + tot (ts.take (i + 1)) : Nat) : Int) := by rw [HK.out.1, HKE.out, HTT.out]; push_cast; omega
      have E9 := Lib.hid e9
      clear ho3 hg3 hc2 e9
      go_wp2
      go_roundw
      case rel => exact ⟨i + 1, by omega, by go_num, by rw [← E9.out], HGB.out, HR3.out, HON.out.trans HG3.out⟩
      case measure => simp [intOf]; omega
    · obtain rfl : i = ts.length := by omega
      have HON := Lib.hid hon
      have HR := Lib.hid hrest
      have HGE := Lib.hid hg
      have hnlt : ¬ ((ts.length : Int) < (ts.length : Int)) := by omega
      have HF : Hid (OwQN wr B T (.slice (some ⟨g, 0, none⟩) ts.length c) (mkQ k0 ts)) := Lib.hid (.inl ⟨by rw [mkQ_len]; exact HL.out, Nat.le_trans HS.out HON.out.size, g, c, cs, by rw [mkQ_len], HG.out.1, HG.out.2, by rw [mkQ_len]; exact rowQ_kept HO.out HGE.out, fun i hi => by
        rw [mkQ_len] at hi
        have := HR.out i hi
        rw [mxq_lt hi] at this
        exact this, by rw [mkQ_len]; exact HSQ.out⟩)
      clear hon hrest hg
      rw [List.take_length]
      go_wp2
      go_ret
      exact ⟨rfl, HF.out, HON.out⟩
set_option maxHeartbeats 4000000 in
theorem heldLists (v : Value) (ts : List (List Int)) (k0 : Nat) (w : World) (h : RdL w v (mkQ k0 ts)) (h1 : k0 + tot ts ≤ 100000000000) :
    Calls Try.prog 26 #[v, .int .i64 (k0 : Int)] w fun e w' => e = .returned (.int .i64 ((k0 + tot ts : Nat) : Int)) ∧ w = w' := by
  obtain ⟨hl, a, c, rfl, hcap, hr⟩ := h
  simp only [mkQ_len] at hl hcap hr
  rw [mkQ_len]
  have HR := Lib.hid hr
  clear hr
  go_enter Try.func26, Try.ntmps26
  go_wp2
  go_loop [1, 5] (fun q s => ∃ i : Nat, i ≤ ts.length ∧ s = .int .i64 i ∧ q = .int .i64 ((k0 + tot (ts.take i) : Nat) : Int)) (fun _ s => ts.length - (intOf s).toNat)
  case atStart => exact ⟨0, Nat.zero_le _, rfl, by simp [tot]⟩
  case round =>
    obtain ⟨i, hi, rfl, rfl⟩ := hrel
    by_cases hlt : i < ts.length
    · obtain ⟨b, o, rfl, hb, hcell⟩ := HR.out (by intro h0; have := congrArg List.length h0; rw [mkQ_len, List.length_nil] at this; omega)
      obtain ⟨x, c0, hx⟩ := hcell i hlt
      rw [mkQ_at ts k0 i hlt] at hx
      obtain ⟨l, hle⟩ : ∃ l, l = (ts.getD i []).length := ⟨_, rfl⟩
      have htk := tot_take ts i hlt
      have htl := tot_le ts (i + 1)
      rw [← hle] at hx htk
      have HK := Lib.hid (And.intro htk htl)
      obtain ⟨k, hk⟩ : ∃ k, k = k0 + tot (ts.take i) := ⟨_, rfl⟩
      have HKE := Lib.hid hk
      have hkb : (k : Int) ≤ 1000000000000 := by omega
      have hn1 : ¬ ((k : Int) + (l : Int) < 0) := by omega
      rw [← hk] at hx ⊢
      have HX := Lib.hid hx
      obtain ⟨_, _, ax, cx, rfl, _, _⟩ := hx
      simp only [length_marks] at HX c0
      have i0 : (0 : Int) ≤ (i : Int) := by omega
      have i1 : (i : Int) < (ts.length : Int) := by omega
      clear hcell hle hk htk htl
      have E9 : Hid ((k : Int) + (l : Int) = ((k0 + tot (ts.take (i + 1)) : Nat) : Int)) := Lib.hid (by rw [HK.out.1, HKE.out]; push_cast; omega)
      go_wp2_with fail
      refine (heldInts _ l (k : Int) _ HX.out (by omega) hkb).mono ?_
      rintro e w3 ⟨rfl, rfl⟩
      go_wp2
      go_round
      case rel => exact ⟨i + 1, by omega, by go_num, by rw [← E9.out]⟩
      case measure => simp [intOf]; omega
    · obtain rfl : i = ts.length := by omega
      have hnlt : ¬ ((ts.length : Int) < (ts.length : Int)) := by omega
      rw [List.take_length]
      go_wp2
      go_ret
      exact ⟨rfl, rfl⟩
theorem OwQN.none {w : World} {B : Nat} (h : B ≤ w.heap.size) : OwQN w B w.heap.size (.slice none 0 0) [] := .inr ⟨rfl, rfl, h, Nat.le_refl _⟩
/-- A growing row of lists of the call's own, all apart from each other. -/
def GrQ (w : World) (B : Nat) (v : Value) (ts : List (List Int)) : Prop := ∃ cs, w.ownsRow B 22 1 v ts.length cs ∧ Coq w B ts cs ts.length ∧ SepQ cs ts.length
theorem GrQ.own {w : World} {B : Nat} {v : Value} {ts : List (List Int)} (h : GrQ w B v ts) (hl : ts.length ≤ 1048576) (hB : B ≤ w.heap.size) : OwQN w B w.heap.size v ts := by
  obtain ⟨cs, ho, hc, hq⟩ := h
  rcases ho.2 with ⟨rfl, h0⟩ | ⟨g, c, cur, rfl, h1, h2, _⟩
  · exact .inr ⟨rfl, List.eq_nil_of_length_eq_zero h0, hB, Nat.le_refl _⟩
  · exact .inl ⟨hl, Nat.le_refl _, g, c, cs, rfl, (ho.lt g rfl).2, (ho.lt g rfl).1, ho, hc, hq⟩
theorem GrQ.start (w : World) (B : Nat) : GrQ w B (.slice none 0 0) [] := ⟨[], World.ownsRow_nil _ _ _ _, fun i hi => by simp at hi, fun i j x y _ hj => by simp at hj⟩
theorem ownQ_below {w w' : World} {B C : Nat} {t : TypeId} {s : Nat} {v : Value} {n : Nat} {xs : List Value} (h : w.ownsRow B t s v n xs) (hb : Below C w w') (hC : w.heap.size ≤ C) : w'.ownsRow B t s v n xs := by
  refine ⟨h.1, ?_⟩
  rcases h.2 with hn | ⟨g, cap, cur, hv, hbb, hgg, rest⟩
  · exact .inl hn
  · refine .inr ⟨g, cap, cur, hv, hbb, ?_, rest⟩
    rw [hb.block g (by have := (Array.getElem?_eq_some_iff.1 hgg).1; omega)]; exact hgg
theorem GrQ.below {w w' : World} {B C : Nat} {v : Value} {ts : List (List Int)} (h : GrQ w B v ts) (hb : Below C w w') (hC : w.heap.size ≤ C) : GrQ w' B v ts := by
  obtain ⟨cs, ho, hc, hq⟩ := h
  exact ⟨cs, ownQ_below ho hb hC, fun i hi => by
    obtain ⟨u, q0, q2⟩ := hc i hi
    exact ⟨u, q0, (q2.below hb hC).up⟩, hq⟩
theorem Ow.nqp {w : World} {B T B' n : Nat} {u v : Value} {zs : List Int} {cs : List Value} (h : Ow w B T u zs) (k : w.ownsRow B' 22 1 v n cs) : u.ownBlock = none ∨ u.ownBlock ≠ v.ownBlock := by
  rcases k.2 with ⟨rfl, _⟩ | ⟨g, c, cur, rfl, _⟩
  · cases e : u.ownBlock with
    | none => exact .inl rfl
    | some b => exact .inr (by simp [Value.ownBlock])
  · exact .inr (h.qapart k)
theorem rowsQ_snoc {w0 w W : World} {B : Nat} {v v' : Value} {ts : List (List Int)} {t : List Int} {cs : List Value} {x : Value} (hc : Coq w0 B ts cs ts.length) (hq : SepQ cs ts.length) (hb : Below w0.heap.size w0 w) (hB : B ≤ w0.heap.size)
    (hrow : w.ownsRow B 22 1 v ts.length cs) (h0 : Ow w w0.heap.size w.heap.size x t) (hg : w.grownBy W v.ownBlock) (hW : W.ownsRow B 22 1 v' (ts.length + 1) (cs ++ [x])) :
    GrQ W B v' (ts ++ [t]) := by
  have hl : cs.length = ts.length := by have := hrow.1; omega
  have hx : (cs ++ [x])[ts.length]? = some x := by rw [List.getElem?_append_right (by omega), hl]; simp
  have hold : ∀ i, i < ts.length → (cs ++ [x])[i]? = cs[i]? := fun i hi => List.getElem?_append_left (by omega)
  refine ⟨cs ++ [x], by simpa using hW, ?_, ?_⟩
  · intro i hi
    rw [List.length_append, List.length_singleton] at hi
    by_cases e : i = ts.length
    · subst e
      have ht : (ts ++ [t]).getD ts.length [] = t := by simp [List.getD_eq_getElem?_getD]
      rw [ht]
      exact ⟨x, hx, (h0.grown hg (h0.nqp hrow)).up.mono hB (Nat.le_refl _) (Nat.le_refl _)⟩
    · obtain ⟨p, q0, q2⟩ := hc i (by omega)
      have ht : (ts ++ [t]).getD i [] = ts.getD i [] := by
        rw [List.getD_eq_getElem?_getD, List.getD_eq_getElem?_getD, List.getElem?_append_left (by omega)]
      rw [ht]
      have r2 := q2.below hb (Nat.le_refl _)
      exact ⟨p, (hold _ (by omega)).trans q0, (r2.grown hg (r2.nqp hrow)).up⟩
  · intro i j a b hij hj ha hb'
    rw [List.length_append, List.length_singleton] at hj
    by_cases j0 : j = ts.length
    · subst j0
      rw [hx] at hb'; cases hb'
      rw [hold i (by omega)] at ha
      obtain ⟨u, q0, q2⟩ := hc i (by omega)
      rw [q0] at ha
      cases ha
      exact sep_of q2.top h0.row.lt (Nat.le_refl _)
    · rw [hold i (by omega)] at ha
      rw [hold j (by omega)] at hb'
      exact hq i j a b hij (by omega) ha hb'
theorem cellNew1 (w : World) (x : Value) (t : TypeId) : ∀ j u, [x][j]? = some u → (w.alloc (.cells #[x] t)).cell? ((⟨w.heap.size, 0, none⟩ : Addr).add j) = some u := fun j u hj => by
  rw [Addr.add_lit]
  exact (Cels.new w t [x]).cell (0 + j) (by simpa using hj)
/-- A growing row of lists and one more list behind it that is not yet appended, all apart from each other. -/
def PeQ (w : World) (B : Nat) (v : Value) (ts : List (List Int)) (r : Value) (zs : List Int) : Prop := ∃ cs, w.ownsRow B 22 1 v ts.length cs ∧ Coq w B (ts ++ [zs]) (cs ++ [r]) (ts.length + 1) ∧ SepQ (cs ++ [r]) (ts.length + 1)
theorem pe_last {cs : List Value} {r : Value} {n : Nat} (h : cs.length = n) : (cs ++ [r])[n]? = some r := by rw [List.getElem?_append_right (by omega), h]; simp
theorem pe_getD (ts : List (List Int)) (zs : List Int) : (ts ++ [zs]).getD ts.length [] = zs := by simp [List.getD_eq_getElem?_getD]
theorem pe_getL (ts : List (List Int)) (zs : List Int) {i : Nat} (h : i < ts.length) : (ts ++ [zs]).getD i [] = ts.getD i [] := by
  rw [List.getD_eq_getElem?_getD, List.getD_eq_getElem?_getD, List.getElem?_append_left (by omega)]
theorem PeQ.rest {w : World} {B : Nat} {v r : Value} {ts : List (List Int)} {zs : List Int} (h : PeQ w B v ts r zs) : Ow w B w.heap.size r zs := by
  obtain ⟨cs, ho, hc, hq⟩ := h
  obtain ⟨x, q0, q2⟩ := hc ts.length (by omega)
  rw [pe_last (by have := ho.1; omega)] at q0
  cases q0
  rwa [pe_getD] at q2
theorem PeQ.below {w w' : World} {B C : Nat} {v r : Value} {ts : List (List Int)} {zs : List Int} (h : PeQ w B v ts r zs) (hb : Below C w w') (hC : w.heap.size ≤ C) : PeQ w' B v ts r zs := by
  obtain ⟨cs, ho, hc, hq⟩ := h
  exact ⟨cs, ownQ_below ho hb hC, fun i hi => by
    obtain ⟨u, q0, q2⟩ := hc i hi
    exact ⟨u, q0, (q2.below hb hC).up⟩, hq⟩
theorem PeQ.start {w : World} {B : Nat} {v r : Value} {zs : List Int} (h : Ow w B w.heap.size r zs) (hv : w.ownsRow B 22 1 v 0 []) : PeQ w B v [] r zs :=
  ⟨[], hv, fun i hi => by
    simp only [List.length_nil, Nat.zero_add, Nat.lt_one_iff] at hi
    subst hi
    exact ⟨r, rfl, h⟩, fun i j x y hij hj => by simp at hj; omega⟩
/-- The list behind the row appended. -/
theorem PeQ.last {w W : World} {B : Nat} {v v' r : Value} {ts : List (List Int)} {zs : List Int} {cs : List Value} (ho : w.ownsRow B 22 1 v ts.length cs) (hc : Coq w B (ts ++ [zs]) (cs ++ [r]) (ts.length + 1)) (hq : SepQ (cs ++ [r]) (ts.length + 1))
    (hg : w.grownBy W v.ownBlock) (hW : W.ownsRow B 22 1 v' (ts.length + 1) (cs ++ [r])) : GrQ W B v' (ts ++ [zs]) := by
  refine ⟨cs ++ [r], by simpa using hW, fun i hi => ?_, by simpa using hq⟩
  rw [List.length_append, List.length_singleton] at hi
  obtain ⟨u, q0, q2⟩ := hc i hi
  exact ⟨u, q0, (q2.grown hg (q2.nqp ho)).up⟩
/-- One list appended, another one behind the row. -/
theorem PeQ.snoc {w0 w W : World} {B : Nat} {v v' r a b : Value} {ts : List (List Int)} {zs za zb : List Int} {cs : List Value} (hc : Coq w0 B (ts ++ [zs]) (cs ++ [r]) (ts.length + 1)) (hq : SepQ (cs ++ [r]) (ts.length + 1)) (hb : Below w0.heap.size w0 w) (hB : B ≤ w0.heap.size)
    (hrow : w.ownsRow B 22 1 v ts.length cs) (h0 : Ow w w0.heap.size w.heap.size a za) (h1 : Ow w w0.heap.size w.heap.size b zb) (hs : Sep a b) (hg : w.grownBy W v.ownBlock) (hW : W.ownsRow B 22 1 v' (ts.length + 1) (cs ++ [a])) :
    PeQ W B v' (ts ++ [za]) b zb := by
  have hl : cs.length = ts.length := by have := hrow.1; omega
  have hn : (ts ++ [za]).length = ts.length + 1 := by simp
  have hold : ∀ i, i < ts.length → (cs ++ [a] ++ [b])[i]? = cs[i]? ∧ (cs ++ [r])[i]? = cs[i]? := fun i hi => ⟨by rw [List.append_assoc, List.getElem?_append_left (by omega)], List.getElem?_append_left (by omega)⟩
  have ha' : (cs ++ [a] ++ [b])[ts.length]? = some a := by rw [List.append_assoc, List.getElem?_append_right (by omega), hl]; simp
  have hb' : (cs ++ [a] ++ [b])[ts.length + 1]? = some b := by rw [List.getElem?_append_right (by simp; omega)]; simp [hl]
  have olds : ∀ i x, i < ts.length → cs[i]? = some x → Ow w0 B w0.heap.size x (ts.getD i []) := fun i x hi hx => by
    obtain ⟨u, q0, q2⟩ := hc i (by omega)
    rw [(hold i hi).2, hx] at q0
    cases q0
    rwa [pe_getL _ _ hi] at q2
  refine ⟨cs ++ [a], by rw [hn]; exact hW, fun i hi => ?_, fun i j x y hij hj hx hy => ?_⟩
  · rw [hn] at hi
    by_cases e1 : i = ts.length + 1
    · subst e1
      refine ⟨b, hb', ?_⟩
      rw [← hn, pe_getD]
      exact (h1.grown hg (h1.nqp hrow)).up.mono hB (Nat.le_refl _) (Nat.le_refl _)
    · by_cases e0 : i = ts.length
      · subst e0
        refine ⟨a, ha', ?_⟩
        rw [pe_getL _ _ (by omega), pe_getD]
        exact (h0.grown hg (h0.nqp hrow)).up.mono hB (Nat.le_refl _) (Nat.le_refl _)
      · have hi' : i < ts.length := by omega
        obtain ⟨u, q0, q2⟩ := hc i (by omega)
        rw [(hold i hi').2] at q0
        have q3 := olds i u hi' q0
        refine ⟨u, (hold i hi').1.trans q0, ?_⟩
        rw [pe_getL _ _ (by omega), pe_getL _ _ hi']
        have r2 := q3.below hb (Nat.le_refl _)
        exact (r2.grown hg (r2.nqp hrow)).up
  · rw [hn] at hj
    by_cases j1 : j = ts.length + 1
    · subst j1
      rw [hb'] at hy; cases hy
      by_cases i0 : i = ts.length
      · subst i0
        rw [ha'] at hx; cases hx
        exact hs
      · rw [(hold i (by omega)).1] at hx
        have q := olds i x (by omega) hx
        exact sep_of q.top h1.row.lt (Nat.le_refl _)
    · by_cases j0 : j = ts.length
      · subst j0
        rw [ha'] at hy; cases hy
        rw [(hold i (by omega)).1] at hx
        have q := olds i x (by omega) hx
        exact sep_of q.top h0.row.lt (Nat.le_refl _)
      · rw [(hold i (by omega)).1] at hx
        rw [(hold j (by omega)).1] at hy
        exact hq i j x y hij (by omega) ((hold i (by omega)).2.trans hx) ((hold j (by omega)).2.trans hy)
/-- The tuple of k + 1 numbers that a number stands for. -/
noncomputable def tfL : Nat → Int → List (List Int)
  | 0, N => [canOf N]
  | k + 1, N => canOf (unA N) :: tfL k (unB N)
theorem tfL_len : ∀ (k : Nat) (N : Int), (tfL k N).length = k + 1
  | 0, _ => rfl
  | k + 1, N => by rw [tfL, List.length_cons, tfL_len k]
theorem tfL_tot : ∀ (k : Nat) (N : Int), Nn 40 N → tot (tfL k N) ≤ 42 * (k + 1)
  | 0, N, h => by
    have := h.can.2.2
    simp only [tfL, tot]; omega
  | k + 1, N, h => by
    obtain ⟨_, _, _, _, _, _, nb, na⟩ := nn_un h
    have h1 := na.can.2.2
    have h2 := tfL_tot k (unB N) nb
    simp only [tfL, tot]; omega
noncomputable def toR (ps : List Int) (k : Int) : List (List Int) × Int := if natB ps = false then ([], 1) else if ¬ (1 ≤ k ∧ k ≤ 8) then ([], 2) else (tfL (k - 1).toNat (val ps), 0)
theorem toR_tot (ps : List Int) (k : Int) : tot (toR ps k).1 ≤ 1048576 := by
  unfold toR
  split
  · simp [tot]
  · rename_i h
    split
    · simp [tot]
    · rename_i h8
      have hn : natB ps = true := by cases e : natB ps <;> simp_all
      have := tfL_tot (k - 1).toNat (val ps) (nn_of (natB_can hn).1 (natB_can hn).2)
      show tot (tfL (k - 1).toNat (val ps)) ≤ 1048576
      omega
theorem PeQ.open {w : World} {B : Nat} {v r : Value} {ts : List (List Int)} {zs : List Int} (h : PeQ w B v ts r zs) : ∃ cs, w.ownsRow B 22 1 v ts.length cs ∧ Hid (Coq w B (ts ++ [zs]) (cs ++ [r]) (ts.length + 1)) ∧ Hid (SepQ (cs ++ [r]) (ts.length + 1)) := by
  obtain ⟨cs, ho, hc, hq⟩ := h
  exact ⟨cs, ho, Lib.hid hc, Lib.hid hq⟩
set_option maxRecDepth 100000 in
set_option maxHeartbeats 8000000 in
theorem implTupleOf (u : Value) (ps : List Int) (k : Int) (w : World) (hu : Rd w u ps) :
    Calls Try.prog 23 #[u, .int .i64 k] w fun e w' => ∃ r, e = .returned (.tuple #[r, .int .i64 (toR ps k).2]) ∧ OwQN w' w.heap.size w'.heap.size r (toR ps k).1 ∧ Below w.heap.size w w' := by
  obtain ⟨i0, hi, hz0, hz1, hz2⟩ := info_parts infoQ
  have HU := Lib.hid hu
  clear hu
  rcases eq_or (natB ps) with hx | hx
  · have HX := Lib.hid hx
    have HR : Hid (toR ps k = ([], 1)) := Lib.hid (if_pos hx)
    clear hx
    go_enter Try.func23, Try.ntmps23
    go_wp2_with fail
    refine (implNat _ ps _ HU.out).mono ?_
    rintro e w1 ⟨rfl, hb⟩
    rw [HX.out]
    have HB := Lib.hid hb
    clear hb
    go_wp2
    go_ret2
    exact ⟨_, by rw [HR.out] <;> rfl, by rw [HR.out]; exact OwQN.none HB.out.size, HB.out⟩
  have HX := Lib.hid hx
  have hx0 : ¬ natB ps = false := by rw [hx]; simp
  by_cases h8 : 1 ≤ k ∧ k ≤ 8
  rotate_left
  · have HR : Hid (toR ps k = ([], 2)) := Lib.hid (by rw [toR, if_neg hx0, if_pos h8])
    have d8 : (decide ((1 : Int) ≤ k) = false) ∨ ((1 : Int) ≤ k ∧ decide (k ≤ 8) = false) := by
      by_cases q : 1 ≤ k
      · exact .inr ⟨by omega, decide_eq_false (by omega)⟩
      · exact .inl (decide_eq_false (by omega))
    clear hx hx0 h8
    rcases d8 with d8 | ⟨d7, d8⟩
    all_goals
      go_enter Try.func23, Try.ntmps23
      go_wp2_with fail
      refine (implNat _ ps _ HU.out).mono ?_
      rintro e w1 ⟨rfl, hb⟩
      rw [HX.out]
      have HB := Lib.hid hb
      clear hb
      go_wp2_with (go_at_call 49; go_in)
      go_ret2
      exact ⟨_, by rw [HR.out] <;> rfl, by rw [HR.out]; exact OwQN.none HB.out.size, HB.out⟩
  obtain ⟨K, hK⟩ : ∃ K : Nat, k = (K : Int) + 1 := ⟨(k - 1).toNat, by omega⟩
  subst hK
  have HR : Hid (toR ps ((K : Int) + 1) = (tfL K (val ps), 0)) := Lib.hid (by rw [toR, if_neg hx0, if_neg (by omega), show ((K : Int) + 1 - 1).toNat = K by omega])
  have HP := Lib.hid (natB_can hx)
  obtain ⟨L, hL⟩ : ∃ L, L = tfL K (val ps) := ⟨_, rfl⟩
  have HL := Lib.hid hL
  have k1 : (1 : Int) ≤ (K : Int) + 1 := h8.1
  have k8 : (K : Int) + 1 ≤ 8 := h8.2
  have e1 : IntKind.i64.wrap ((K : Int) + 1 - 1) = (K : Int) := by rw [IntKind.wrap_i64]; omega
  have e2 : ((K : Int) + 1 - 1) = (K : Int) := by omega
  clear hx hx0 h8 hL
  go_enter Try.func23, Try.ntmps23
  go_wp2_with fail
  refine (implNat _ ps _ HU.out).mono ?_
  rintro e w1 ⟨rfl, hb⟩
  rw [HX.out]
  have HB0 := Lib.hid hb
  clear hb
  go_wp2_with (go_at_call 49; go_in)
  refine (libClone _ ps _ (HU.out.below HB0.out (Nat.le_refl _))).mono ?_
  rintro e w2 ⟨r, rfl, ho, hb⟩
  have HB1 := Lib.hid (HB0.out.trans (hb.mono HB0.out.size))
  have HO : Hid (Ow w2 w.heap.size w2.heap.size r (canOf (val ps))) := Lib.hid (by rw [canOf_val HP.out.1]; exact ho.mono HB0.out.size (Nat.le_refl _) (Nat.le_refl _))
  clear ho hb
  go_wp2
  go_loopw [6, 7, 20] (fun o r c wr => ∃ (i : Nat) (ts : List (List Int)) (N : Int) (ov rv : Value), o = ov ∧ r = rv ∧ c = .int .i64 (i : Int) ∧ i ≤ K ∧ ts.length = i ∧ Nn 40 N ∧ PeQ wr w.heap.size ov ts rv (canOf N) ∧ ts ++ tfL (K - i) N = L ∧ Below w.heap.size w wr) (fun _ _ c _ => K - (intOf c).toNat)
  case atStart => exact ⟨0, [], val ps, _, _, rfl, rfl, rfl, Nat.zero_le _, rfl, nn_of HP.out.1 HP.out.2, PeQ.start HO.out (World.ownsRow_nil _ _ _ _), by rw [List.nil_append, Nat.sub_zero, HL.out], HB1.out⟩
  case round =>
    obtain ⟨i, ts, N, ov, rv, hov, hrv, rfl, hik, hti, hN, hpe, htl, hbel⟩ := hrel
    obtain rfl := hov.symm
    obtain rfl := hrv.symm
    have HN := Lib.hid hN
    have HPE := Lib.hid hpe
    have HB := Lib.hid hbel
    have HTL := Lib.hid htl
    have HTI := Lib.hid hti
    obtain ⟨cs, hown, HCQ, HSQ⟩ := hpe.open
    clear hN hpe htl hbel
    by_cases hlt : i < K
    · have i1 : (i : Int) < (K : Int) := by omega
      have hcond : (i : Int) < (K : Int) + 1 - 1 := by omega
      have HOW := Lib.hid hown
      clear hown
      go_wp2_with fail
      refine (iUnpair _ N _ HPE.out.rest.rd HN.out).mono ?_
      rintro e w3 ⟨a, b, rfl, oa, ob, sp, hb⟩
      obtain ⟨ga, gc, ha⟩ := oa.shape
      subst ha
      obtain ⟨gb, gd, hb'⟩ := ob.shape
      subst hb'
      have HA := Lib.hid oa
      have HBo := Lib.hid ob
      have HSP := Lib.hid sp
      have HB3 := Lib.hid hb
      have hown1 := ownQ_below HOW.out hb (Nat.le_refl _)
      have HOW1 := Lib.hid hown1
      have hsz := Nat.le_trans HB.out.size hb.size
      rw [hti] at hown1
      clear oa ob sp hb
      go_wp2_with (at_builtin; refine wpList_append_own _ rfl _ _ 33 rfl w.heap.size 22 i0 (.slice none 0 0) 1 24 Try.underlying33 hi hz0 hz1 hz2 rfl (by decide) _ _ _ rfl (hown1.alloc _) ⟨_, 0, none⟩ 1 1 [.slice ga (canOf (unA N)).length gc] rfl rfl ?c1 ?c2 ?c3 ?c4 ?c5 ?_)
      case c1 => exact cellNew1 _ _ _
      case c2 => intro u hu; simp at hu; subst hu; rfl
      case c3 => unfold maxLen; omega
      case c4 => omega
      case c5 => first | omega | (simp; omega)
      intro v' w4 hown4 hgrow _
      have HBA : Hid (Below wr.heap.size wr (w3.alloc (Obj.cells #[.slice ga (canOf (unA N)).length gc] 22))) := Lib.hid (HB3.out.alloc HB3.out.size _)
      have hbw : Below w3.heap.size w3 (w3.alloc (Obj.cells #[.slice ga (canOf (unA N)).length gc] 22)) := (Below.refl _ _).alloc (Nat.le_refl _) _
      have HPE2 : Hid (PeQ w4 w.heap.size v' (ts ++ [canOf (unA N)]) (.slice gb (canOf (unB N)).length gd) (canOf (unB N))) := Lib.hid
        (PeQ.snoc HCQ.out HSQ.out HBA.out HB.out.size (HOW1.out.alloc _) (HA.out.below hbw (Nat.le_refl _)).up (HBo.out.below hbw (Nat.le_refl _)).up HSP.out hgrow (by rw [HTI.out]; exact hown4))
      have HBX := Lib.hid ((HB.out.trans (HBA.out.mono HB.out.size)).grown hgrow (by simp; omega) (fun q hq => (HOW.out.lt q hq).1))
      have HTL2 : Hid (ts ++ [canOf (unA N)] ++ tfL (K - (i + 1)) (unB N) = L) := Lib.hid (by
        rw [← HTL.out, show K - i = (K - (i + 1)) + 1 by omega, tfL, List.append_assoc]; rfl)
      clear hown4 hgrow hown1
      go_wp2
      go_roundw
      case rel => exact ⟨i + 1, ts ++ [canOf (unA N)], unB N, _, _, rfl, rfl, by go_num, by omega, by simp [HTI.out], (nn_un HN.out).2.2.2.2.2.2.1, HPE2.out, HTL2.out, HBX.out⟩
      case measure => simp [intOf]; omega
    · obtain rfl : i = K := by omega
      have i1 : ¬ (i : Int) < (i : Int) := by omega
      have hcond : ¬ (i : Int) < (i : Int) + 1 - 1 := by omega
      have HTL2 : Hid (ts ++ [canOf N] = L) := Lib.hid (by have := HTL.out; rwa [Nat.sub_self, tfL] at this)
      obtain ⟨gr, gd, hr⟩ := HPE.out.rest.shape
      have HOW := Lib.hid hown
      rw [hti] at hown
      have hsz := HB.out.size
      subst hr
      go_wp2_with (at_builtin; refine wpList_append_own _ rfl _ _ 33 rfl w.heap.size 22 i0 (.slice none 0 0) 1 24 Try.underlying33 hi hz0 hz1 hz2 rfl (by decide) _ _ _ rfl (hown.alloc _) ⟨_, 0, none⟩ 1 1 [.slice gr (canOf N).length gd] rfl rfl ?d1 ?d2 ?d3 ?d4 ?d5 ?_)
      case d2 => first | rfl | (intro u hu; simp at hu; subst hu; rfl)
      case d3 => unfold maxLen; omega
      case d4 => omega
      case d5 => first | omega | (simp; omega)
      intro v' w4 hown4 hgrow _
      have hbw : Below wr.heap.size wr (wr.alloc (Obj.cells #[.slice gr (canOf N).length gd] 22)) := (Below.refl _ _).alloc (Nat.le_refl _) _
      have HGQ : Hid (OwQN w4 w.heap.size w4.heap.size v' L) := Lib.hid (by
        have hc : Coq (wr.alloc (Obj.cells #[.slice gr (canOf N).length gd] 22)) w.heap.size (ts ++ [canOf N]) (cs ++ [.slice gr (canOf N).length gd]) (ts.length + 1) := fun i hi => by
          obtain ⟨u, q0, q2⟩ := HCQ.out i hi
          exact ⟨u, q0, (q2.below hbw (Nat.le_refl _)).up⟩
        have h1 := PeQ.last (HOW.out.alloc _) hc HSQ.out hgrow (by rw [HTI.out]; exact hown4)
        rw [HTL2.out] at h1
        have hlen : L.length = i + 1 := by rw [HL.out, tfL_len]
        exact h1.own (by omega) (by have := hgrow.size; simp at this; omega))
      have HBX := Lib.hid ((HB.out.trans (hbw.mono HB.out.size)).grown hgrow (by simp; omega) (fun q hq => (HOW.out.lt q hq).1))
      clear hown4 hgrow hown
      go_wp2
      go_ret2
      exact ⟨_, by rw [HR.out] <;> rfl, by rw [HR.out, ← HL.out]; exact HGQ.out, HBX.out⟩
set_option maxRecDepth 100000 in
set_option maxHeartbeats 8000000 in
theorem specTupleOf (u : Value) (ps : List Int) (k : Int) (w : World) (hu : Rd w u ps) :
    Calls Try.prog 22 #[u, .int .i64 k] w fun e w' => ∃ r, e = .returned (.tuple #[r, .int .i64 (toR ps k).2]) ∧ OwQN w' w.heap.size w'.heap.size r (toR ps k).1 ∧ Below w.heap.size w w' := by
  obtain ⟨i0, hi, hz0, hz1, hz2⟩ := info_parts infoQ
  have HU := Lib.hid hu
  clear hu
  rcases eq_or (natB ps) with hx | hx
  · have HX := Lib.hid hx
    have HR : Hid (toR ps k = ([], 1)) := Lib.hid (if_pos hx)
    clear hx
    go_enter Try.func22, Try.ntmps22
    go_wp2_with (go_at_call 36; refine (specNat _ ps _ HU.out).mono ?_; rintro e w' ⟨rfl, rfl⟩; rw [HX.out])
    go_ret2
    exact ⟨_, by rw [HR.out] <;> rfl, by rw [HR.out]; exact OwQN.none (Nat.le_refl _), Below.refl _ _⟩
  have HX := Lib.hid hx
  have hx0 : ¬ natB ps = false := by rw [hx]; simp
  by_cases h8 : 1 ≤ k ∧ k ≤ 8
  rotate_left
  · have HR : Hid (toR ps k = ([], 2)) := Lib.hid (by rw [toR, if_neg hx0, if_pos h8])
    have HI : Hid (¬ (1 ≤ k ∧ k ≤ 8)) := Lib.hid h8
    clear hx hx0 h8
    go_enter Try.func22, Try.ntmps22
    go_wp2_with fail
    refine (specNat _ ps _ HU.out).mono ?_
    rintro e w' ⟨rfl, rfl⟩
    rw [HX.out]
    go_wp2_with fail
    refine (specInB k 1 8 false _ ⟨fun q => by (cases q), fun q => absurd q HI.out⟩).mono ?_
    rintro e w' ⟨rfl, hw'⟩
    have hw2 := hw'.symm
    clear hw'
    subst hw2
    go_wp2
    go_ret2
    exact ⟨_, by rw [HR.out] <;> rfl, by rw [HR.out]; exact OwQN.none (Nat.le_refl _), Below.refl _ _⟩
  obtain ⟨K, hK⟩ : ∃ K : Nat, k = (K : Int) + 1 := ⟨(k - 1).toNat, by omega⟩
  subst hK
  have HR : Hid (toR ps ((K : Int) + 1) = (tfL K (val ps), 0)) := Lib.hid (by rw [toR, if_neg hx0, if_neg (by omega), show ((K : Int) + 1 - 1).toNat = K by omega])
  have HP := Lib.hid (natB_can hx)
  obtain ⟨L, hL⟩ : ∃ L, L = tfL K (val ps) := ⟨_, rfl⟩
  have HL := Lib.hid hL
  have k1 : (1 : Int) ≤ (K : Int) + 1 := h8.1
  have k8 : (K : Int) + 1 ≤ 8 := h8.2
  have HB1 : Hid (Below w.heap.size w (w.alloc (.cells #[] 22))) := Lib.hid ((Below.refl _ _).alloc (Nat.le_refl _) _)
  have HMD : Hid ((w.alloc (.cells #[] 22)).ownsRow w.heap.size 22 1 (.slice (some ⟨w.heap.size, 0, none⟩) 0 0) 0 []) := Lib.hid (World.ownsRow_made w #[] 0 (Nat.le_refl _) (by unfold maxLen; omega) (by simp))
  clear hx hx0 h8 hL
  go_enter Try.func22, Try.ntmps22
  go_wp2_with fail
  refine (specNat _ ps _ HU.out).mono ?_
  rintro e w' ⟨rfl, rfl⟩
  rw [HX.out]
  go_wp2_with fail
  refine (specInB ((K : Int) + 1) 1 8 true _ ⟨fun _ => ⟨k1, k8⟩, fun _ => rfl⟩).mono ?_
  rintro e w' ⟨rfl, hw'⟩
  have hw2 := hw'.symm
  clear hw'
  subst hw2
  go_wp2_with fail
  refine (specOwn _ ps _ (HU.out.below HB1.out (Nat.le_refl _))).mono ?_
  rintro e w2 ⟨r, rfl, ho, hb⟩
  have HMD2 := Lib.hid (ownQ_below HMD.out hb (Nat.le_refl _))
  have HB2 := Lib.hid (HB1.out.trans (hb.mono HB1.out.size))
  have HO : Hid (Ow w2 w.heap.size w2.heap.size r (canOf (val ps))) := Lib.hid (by rw [canOf_val HP.out.1]; exact ho.mono HB1.out.size (Nat.le_refl _) (Nat.le_refl _))
  clear ho hb
  go_wp2
  go_loopw [1, 6, 7] (fun c o r wr => ∃ (m : Nat) (ts : List (List Int)) (N : Int) (ov rv : Value), o = ov ∧ r = rv ∧ c = .int .i64 ((m : Int) + 1) ∧ m ≤ K ∧ ts.length = K - m ∧ Nn 40 N ∧ PeQ wr w.heap.size ov ts rv (canOf N) ∧ ts ++ tfL m N = L ∧ Below w.heap.size w wr) (fun c _ _ _ => (intOf c).toNat)
  case atStart => exact ⟨K, [], val ps, _, _, rfl, rfl, rfl, Nat.le_refl _, by simp, nn_of HP.out.1 HP.out.2, PeQ.start HO.out HMD2.out, by rw [List.nil_append, HL.out], HB2.out⟩
  case round =>
    obtain ⟨m, ts, N, ov, rv, hov, hrv, rfl, hik, hti, hN, hpe, htl, hbel⟩ := hrel
    obtain rfl := hov.symm
    obtain rfl := hrv.symm
    have HN := Lib.hid hN
    have HPE := Lib.hid hpe
    have HB := Lib.hid hbel
    have HTL := Lib.hid htl
    have HTI := Lib.hid hti
    obtain ⟨cs, hown, HCQ, HSQ⟩ := hpe.open
    clear hN hpe htl hbel
    by_cases hlt : 0 < m
    · obtain ⟨n, rfl⟩ : ∃ n, m = n + 1 := ⟨m - 1, by omega⟩
      have hcond : ((n + 1 : Nat) : Int) + 1 > 1 := by omega
      have hlen0 : ts.length ≤ 8 := by omega
      have HOW := Lib.hid hown
      clear hown
      go_wp2_with fail
      refine (sUnpair _ N _ HPE.out.rest.rd HN.out).mono ?_
      rintro e w3 ⟨a, b, rfl, oa, ob, sp, hb⟩
      obtain ⟨ga, gc, ha⟩ := oa.shape
      subst ha
      obtain ⟨gb, gd, hb'⟩ := ob.shape
      subst hb'
      have HA := Lib.hid oa
      have HBo := Lib.hid ob
      have HSP := Lib.hid sp
      have HB3 := Lib.hid hb
      have hown1 := ownQ_below HOW.out hb (Nat.le_refl _)
      have HOW1 := Lib.hid hown1
      have hsz := Nat.le_trans HB.out.size hb.size
      have HNL : Hid (ts.length + 1 ≤ 9) := Lib.hid (by omega)
      clear oa ob sp hb
      go_wp2_with (at_builtin; refine wpList_append_own _ rfl _ _ 33 rfl w.heap.size 22 i0 (.slice none 0 0) 1 24 Try.underlying33 hi hz0 hz1 hz2 rfl (by decide) _ _ _ rfl (hown1.alloc _) ⟨_, 0, none⟩ 1 1 [.slice ga (canOf (unA N)).length gc] rfl rfl ?c1 ?c2 ?c3 ?c4 ?c5 ?_)
      case c1 => exact cellNew1 _ _ _
      case c2 => intro u hu; simp at hu; subst hu; rfl
      case c3 => unfold maxLen; omega
      case c4 => omega
      case c5 => first | omega | (simp; omega)
      intro v' w4 hown4 hgrow _
      have HBA : Hid (Below wr.heap.size wr (w3.alloc (Obj.cells #[.slice ga (canOf (unA N)).length gc] 22))) := Lib.hid (HB3.out.alloc HB3.out.size _)
      have hbw : Below w3.heap.size w3 (w3.alloc (Obj.cells #[.slice ga (canOf (unA N)).length gc] 22)) := (Below.refl _ _).alloc (Nat.le_refl _) _
      have HPE2 : Hid (PeQ w4 w.heap.size v' (ts ++ [canOf (unA N)]) (.slice gb (canOf (unB N)).length gd) (canOf (unB N))) := Lib.hid
        (PeQ.snoc HCQ.out HSQ.out HBA.out HB.out.size (HOW1.out.alloc _) (HA.out.below hbw (Nat.le_refl _)).up (HBo.out.below hbw (Nat.le_refl _)).up HSP.out hgrow (by rw [HTI.out]; exact hown4))
      have HBX := Lib.hid ((HB.out.trans (HBA.out.mono HB.out.size)).grown hgrow (by simp; omega) (fun q hq => (HOW.out.lt q hq).1))
      have HTL2 : Hid (ts ++ [canOf (unA N)] ++ tfL n (unB N) = L) := Lib.hid (by
        rw [← HTL.out, tfL, List.append_assoc]; rfl)
      clear hown4 hgrow hown1
      go_wp2
      go_roundw
      case rel => exact ⟨n, ts ++ [canOf (unA N)], unB N, _, _, rfl, rfl, by go_num, by omega, by (have := HTI.out; simp; omega), (nn_un HN.out).2.2.2.2.2.2.1, HPE2.out, HTL2.out, HBX.out⟩
      case measure => simp [intOf]; omega
    · obtain rfl : m = 0 := by omega
      have hcond : ¬ (((0 : Nat) : Int) + 1 > 1) := by omega
      have hlen0 : ts.length ≤ 8 := by omega
      have HTL2 : Hid (ts ++ [canOf N] = L) := Lib.hid (by have := HTL.out; rwa [tfL] at this)
      obtain ⟨gr, gd, hr⟩ := HPE.out.rest.shape
      have HOW := Lib.hid hown
      have hsz := HB.out.size
      subst hr
      go_wp2_with (at_builtin; refine wpList_append_own _ rfl _ _ 33 rfl w.heap.size 22 i0 (.slice none 0 0) 1 24 Try.underlying33 hi hz0 hz1 hz2 rfl (by decide) _ _ _ rfl (hown.alloc _) ⟨_, 0, none⟩ 1 1 [.slice gr (canOf N).length gd] rfl rfl ?d1 ?d2 ?d3 ?d4 ?d5 ?_)
      case d2 => first | rfl | (intro u hu; simp at hu; subst hu; rfl)
      case d3 => unfold maxLen; omega
      case d4 => omega
      case d5 => first | omega | (simp; omega)
      intro v' w4 hown4 hgrow _
      have hbw : Below wr.heap.size wr (wr.alloc (Obj.cells #[.slice gr (canOf N).length gd] 22)) := (Below.refl _ _).alloc (Nat.le_refl _) _
      have HGQ : Hid (OwQN w4 w.heap.size w4.heap.size v' L) := Lib.hid (by
        have hc : Coq (wr.alloc (Obj.cells #[.slice gr (canOf N).length gd] 22)) w.heap.size (ts ++ [canOf N]) (cs ++ [.slice gr (canOf N).length gd]) (ts.length + 1) := fun i hi => by
          obtain ⟨u, q0, q2⟩ := HCQ.out i hi
          exact ⟨u, q0, (q2.below hbw (Nat.le_refl _)).up⟩
        have h1 := PeQ.last (HOW.out.alloc _) hc HSQ.out hgrow (by have e := HTI.out; rw [Nat.sub_zero] at e; rw [e]; exact hown4)
        rw [HTL2.out] at h1
        have hlen : L.length = K + 1 := by rw [HL.out, tfL_len]
        exact h1.own (by omega) (by have := hgrow.size; simp at this; omega))
      have HBX := Lib.hid ((HB.out.trans (hbw.mono HB.out.size)).grown hgrow (by simp; omega) (fun q hq => (HOW.out.lt q hq).1))
      clear hown4 hgrow hown
      go_wp2
      go_ret2
      exact ⟨_, by rw [HR.out] <;> rfl, by rw [HR.out, ← HL.out]; exact HGQ.out, HBX.out⟩
end Go.Proofs.Ytfnopnaaahkklaa.Ints
