/- Lists of the call's own, or none; marks on them; a row of lists that grows. -/
import Derived.Test.YtbifkjmmhfnblaaDoorLlm
import Derived.Test.YtbifkjmmhfnblaaDoorIn
import Derived.Test.YtbifkjmmhfnblaaDoorOwn
namespace Go.Proofs.YtbifkjmmhfnblaaDoor.Ints
open Go.RowKit
set_option linter.unusedVariables false
set_option linter.unusedSimpArgs false
/-- The marks on lists. -/
def mkQ : Nat → List (List Int) → List (List Int)
  | _, [] => []
  | k, t :: ts => marks (k : Int) t.length :: mkQ (k + t.length) ts
@[simp] theorem mkQ_len (k : Nat) (ts : List (List Int)) : (mkQ k ts).length = ts.length := by
  induction ts generalizing k with
  | nil => rfl
  | cons t ts ih => simp [mkQ, ih]
theorem mkQ_at (ts : List (List Int)) : ∀ (k i : Nat), i < ts.length → (mkQ k ts).getD i [] = marks ((k + tot (ts.take i) : Nat) : Int) (ts.getD i []).length := by
  induction ts with
  | nil => intro k i h; simp at h
  | cons t ts ih =>
    intro k i h
    cases i with
    | zero => simp [mkQ, tot]
    | succ i =>
      simp only [mkQ, List.getD_cons_succ, List.take_succ_cons, tot]
      rw [ih _ i (by simpa using h)]
      simp only [Nat.add_assoc]
theorem SepQ.ne {cs : List Value} {k i j : Nat} {x y : Value} (h : SepQ cs k) (hij : i ≠ j) (hi : i < k) (hj : j < k) (hx : cs[i]? = some x) (hy : cs[j]? = some y) : Sep x y := by
  rcases Nat.lt_or_gt_of_ne hij with h' | h'
  · exact h i j x y h' hj hx hy
  · exact ⟨(h j i y x h' hi hy hx).2, (h j i y x h' hi hy hx).1⟩
/-- Lists of the call's own, or none. -/
def OwQN (w : World) (B T : Nat) (v : Value) (ts : List (List Int)) : Prop := OwQT w B T v ts ∨ (v = .slice none 0 0 ∧ ts = [] ∧ B ≤ T ∧ T ≤ w.heap.size)
theorem OwQN.below {w w' : World} {B T C : Nat} {v : Value} {ts : List (List Int)} (h : OwQN w B T v ts) (hb : Below C w w') (hC : T ≤ C) : OwQN w' B T v ts := by
  rcases h with h | ⟨rfl, rfl, h1, h2⟩
  · exact .inl (h.below hb hC)
  · exact .inr ⟨rfl, rfl, h1, Nat.le_trans h2 hb.size⟩
theorem OwQN.onlyQ {w w' : World} {B T : Nat} {v : Value} {ts : List (List Int)} {S : Nat → Prop} (h : OwQN w B T v ts) (k : Only S w w') (hS : ∀ b, B ≤ b → b < T → ¬ S b) : OwQN w' B T v ts := by
  rcases h with h | ⟨rfl, rfl, h1, h2⟩
  · exact .inl (h.onlyQ k hS)
  · exact .inr ⟨rfl, rfl, h1, Nat.le_trans h2 k.size⟩
theorem OwQN.shape {w : World} {B T : Nat} {v : Value} {ts : List (List Int)} (h : OwQN w B T v ts) : ∃ a c, v = .slice a ts.length c := by
  rcases h with h | ⟨rfl, rfl, h1, h2⟩
  · exact h.shape
  · exact ⟨_, _, rfl⟩
theorem OwQN.rdl {w : World} {B T : Nat} {v : Value} {ts : List (List Int)} (h : OwQN w B T v ts) : RdL w v ts := by
  rcases h with h | ⟨rfl, rfl, h1, h2⟩
  · exact h.rdl
  · exact ⟨by simp, none, 0, rfl, Nat.le_refl _, fun h => absurd rfl h⟩
theorem OwQN.len {w : World} {B T : Nat} {v : Value} {ts : List (List Int)} (h : OwQN w B T v ts) : ts.length ≤ 1048576 := by
  rcases h with h | ⟨rfl, rfl, h1, h2⟩
  · exact h.len
  · simp
theorem OwQN.size {w : World} {B T : Nat} {v : Value} {ts : List (List Int)} (h : OwQN w B T v ts) : T ≤ w.heap.size := by
  rcases h with h | ⟨rfl, rfl, h1, h2⟩
  · exact h.size
  · exact h2
/-- The lists when the first i of them bear marks. -/
def mxq (k : Nat) (ts : List (List Int)) (i j : Nat) : List Int := if j < i then (mkQ k ts).getD j [] else ts.getD j []
theorem mxq_lt {k : Nat} {ts : List (List Int)} {i j : Nat} (h : j < i) : mxq k ts i j = (mkQ k ts).getD j [] := if_pos h
theorem mxq_ge {k : Nat} {ts : List (List Int)} {i j : Nat} (h : i ≤ j) : mxq k ts i j = ts.getD j [] := if_neg (by omega)
theorem mxq_ne {k : Nat} {ts : List (List Int)} {i j : Nat} (h : j ≠ i) : mxq k ts (i + 1) j = mxq k ts i j := by
  unfold mxq
  by_cases h1 : j < i
  · rw [if_pos h1, if_pos (by omega)]
  · rw [if_neg h1, if_neg (by omega)]
set_option maxHeartbeats 4000000 in
theorem markListsM (v : Value) (ts : List (List Int)) (k0 : Nat) (B T : Nat) (w : World) (h : OwQN w B T v ts) (h1 : k0 + tot ts ≤ 100000000000) :
    Calls Tryd.prog 74 #[v, .int .i64 (k0 : Int)] w fun e w' => e = .returned (.int .i64 ((k0 + tot ts : Nat) : Int)) ∧ OwQN w' B T v (mkQ k0 ts) ∧ Only (fun b => B ≤ b ∧ b < T) w w' := by
  rcases h with h | ⟨rfl, rfl, hh⟩
  rotate_left
  · have HH := Lib.hid hh
    clear hh
    go_enter Tryd.func74, Tryd.ntmps74
    go_wp2
    refine wp_loop_rounds 1 ?_
    rw [rounds_succ]
    go_wp2
    go_ret
    exact ⟨by simp [tot], .inr ⟨rfl, rfl, HH.out.1, HH.out.2⟩, Only.refl _ _⟩
  obtain ⟨hl, hs, g, c, cs, rfl, hgT, hgB, ho, hc, hsq⟩ := h
  have HL := Lib.hid hl
  have HO := Lib.hid ho
  have HC := Lib.hid hc
  have HSQ := Lib.hid hsq
  have HG := Lib.hid (And.intro hgT hgB)
  have HS := Lib.hid hs
  clear ho hc hsq hgT hgB hs
  go_enter Tryd.func74, Tryd.ntmps74
  go_wp2
  go_loopw [1, 5] (fun q s wr => ∃ i : Nat, i ≤ ts.length ∧ s = .int .i64 i ∧ q = .int .i64 ((k0 + tot (ts.take i) : Nat) : Int) ∧ wr.heap[g]? = w.heap[g]? ∧ (∀ j, j < ts.length → ∃ x, cs[j]? = some x ∧ Ow wr B T x (mxq k0 ts i j)) ∧ Only (fun b => B ≤ b ∧ b < T) w wr)
    (fun _ s _ => ts.length - (intOf s).toNat)
  case atStart => exact ⟨0, Nat.zero_le _, rfl, by simp [tot], rfl, fun j hj => by rw [mxq_ge (Nat.zero_le _)]; exact HC.out j hj, Only.refl _ _⟩
  case round =>
    obtain ⟨i, hi, rfl, rfl, hg, hrest, hon⟩ := hrel
    by_cases hlt : i < ts.length
    · obtain ⟨x, hx, hox⟩ := hrest i hlt
      rw [mxq_ge (Nat.le_refl _)] at hox
      have hc2 : wr.cell? ⟨g, i, none⟩ = some x := by
        rw [(rowQ_kept HO.out hg).cellAt i (by have := HO.out.1; omega)]; exact hx
      obtain ⟨ax, cx, rfl⟩ := hox.shape
      have HMK := Lib.hid (mkQ_at ts k0 i hlt)
      obtain ⟨t, ht⟩ : ∃ t, t = ts.getD i [] := ⟨_, rfl⟩
      rw [← ht] at hox hc2 hx HMK
      have HX := Lib.hid hox
      have HTT := Lib.hid ht
      have HR := Lib.hid hrest
      have HON := Lib.hid hon
      have HGE := Lib.hid hg
      have HCX := Lib.hid hx
      have htk := tot_take ts i hlt
      have htl := tot_le ts (i + 1)
      have HK := Lib.hid (And.intro htk htl)
      obtain ⟨k, hk⟩ : ∃ k, k = k0 + tot (ts.take i) := ⟨_, rfl⟩
      have HKE := Lib.hid hk
      have hkb : (k : Int) ≤ 1000000000000 := by rw [← ht] at htk; omega
      rw [← hk] at HMK
      rw [← hk]
      have i0 : (0 : Int) ≤ (i : Int) := by omega
      have i1 : (i : Int) < (ts.length : Int) := by omega
      clear hrest hon hg hox ht hk hx htk htl
      go_wp2_with fail
      refine (markInts _ t (k : Int) B T _ HX.out (by omega) hkb).mono ?_
      rintro e w3 ⟨rfl, ho3, hg3⟩
      have HX3 := Lib.hid ho3
      have HG3 : Hid (Only (fun b => B ≤ b ∧ b < T) wr w3) := Lib.hid ⟨hg3.os, hg3.tape, hg3.output, hg3.size, fun b hb hn => hg3.block b hb (fun e => by
        have hlt2 := HX.out.top b e.symm
        have hge := (HX.out.row.lt b e.symm).1
        exact hn ⟨hge, hlt2⟩)⟩
      have HGB : Hid (w3.heap[g]? = w.heap[g]?) := Lib.hid ((hg3.block g (by have := HON.out.size; have := HS.out; have := HG.out.1; omega) (fun e => HX.out.qapart (rowQ_kept HO.out HGE.out) e.symm)).trans HGE.out)
      have HR3 : Hid (∀ j, j < ts.length → ∃ x, cs[j]? = some x ∧ Ow w3 B T x (mxq k0 ts (i + 1) j)) := Lib.hid (fun j hjl => by
        by_cases hj : j = i
        · subst hj
          rw [mxq_lt (Nat.lt_succ_self _), HMK.out]
          exact ⟨_, HCX.out, HX3.out⟩
        · obtain ⟨y, e1, e2⟩ := HR.out j hjl
          rw [mxq_ne hj]
          exact ⟨y, e1, e2.grown hg3 (HSQ.out.ne (i := i) (j := j) (by omega) (by omega) (by omega) HCX.out e1).2⟩)
      have e9 : (k : Int) + (t.length : Int) = ((k0 + tot (ts.take (i + 1)) : Nat) : Int) := by rw [HK.out.1, HKE.out, HTT.out]; push_cast; omega
      have E9 := Lib.hid e9
      clear ho3 hg3 hc2 e9
      go_wp2
      go_roundw
      case rel => exact ⟨i + 1, by omega, by go_num, by rw [← E9.out], HGB.out, HR3.out, HON.out.trans HG3.out⟩
      case measure => simp [intOf]; omega
    · obtain rfl : i = ts.length := by omega
      have HON := Lib.hid hon
      have HR := Lib.hid hrest
      have HGE := Lib.hid hg
      have hnlt : ¬ ((ts.length : Int) < (ts.length : Int)) := by omega
      have HF : Hid (OwQN wr B T (.slice (some ⟨g, 0, none⟩) ts.length c) (mkQ k0 ts)) := Lib.hid (.inl ⟨by rw [mkQ_len]; exact HL.out, Nat.le_trans HS.out HON.out.size, g, c, cs, by rw [mkQ_len], HG.out.1, HG.out.2, by rw [mkQ_len]; exact rowQ_kept HO.out HGE.out, fun i hi => by
        rw [mkQ_len] at hi
        have := HR.out i hi
        rw [mxq_lt hi] at this
        exact this, by rw [mkQ_len]; exact HSQ.out⟩)
      clear hon hrest hg
      rw [List.take_length]
      go_wp2
      go_ret
      exact ⟨rfl, HF.out, HON.out⟩
set_option maxHeartbeats 4000000 in
theorem heldLists (v : Value) (ts : List (List Int)) (k0 : Nat) (w : World) (h : RdL w v (mkQ k0 ts)) (h1 : k0 + tot ts ≤ 100000000000) :
    Calls Tryd.prog 75 #[v, .int .i64 (k0 : Int)] w fun e w' => e = .returned (.int .i64 ((k0 + tot ts : Nat) : Int)) ∧ w = w' := by
  obtain ⟨hl, a, c, rfl, hcap, hr⟩ := h
  simp only [mkQ_len] at hl hcap hr
  rw [mkQ_len]
  have HR := Lib.hid hr
  clear hr
  go_enter Tryd.func75, Tryd.ntmps75
  go_wp2
  go_loop [1, 5] (fun q s => ∃ i : Nat, i ≤ ts.length ∧ s = .int .i64 i ∧ q = .int .i64 ((k0 + tot (ts.take i) : Nat) : Int)) (fun _ s => ts.length - (intOf s).toNat)
  case atStart => exact ⟨0, Nat.zero_le _, rfl, by simp [tot]⟩
  case round =>
    obtain ⟨i, hi, rfl, rfl⟩ := hrel
    by_cases hlt : i < ts.length
    · obtain ⟨b, o, rfl, hb, hcell⟩ := HR.out (by intro h0; have := congrArg List.length h0; rw [mkQ_len, List.length_nil] at this; omega)
      obtain ⟨x, c0, hx⟩ := hcell i hlt
      rw [mkQ_at ts k0 i hlt] at hx
      obtain ⟨l, hle⟩ : ∃ l, l = (ts.getD i []).length := ⟨_, rfl⟩
      have htk := tot_take ts i hlt
      have htl := tot_le ts (i + 1)
      rw [← hle] at hx htk
      have HK := Lib.hid (And.intro htk htl)
      obtain ⟨k, hk⟩ : ∃ k, k = k0 + tot (ts.take i) := ⟨_, rfl⟩
      have HKE := Lib.hid hk
      have hkb : (k : Int) ≤ 1000000000000 := by omega
      have hn1 : ¬ ((k : Int) + (l : Int) < 0) := by omega
      rw [← hk] at hx ⊢
      have HX := Lib.hid hx
      obtain ⟨_, _, ax, cx, rfl, _, _⟩ := hx
      simp only [length_marks] at HX c0
      have i0 : (0 : Int) ≤ (i : Int) := by omega
      have i1 : (i : Int) < (ts.length : Int) := by omega
      clear hcell hle hk htk htl
      have E9 : Hid ((k : Int) + (l : Int) = ((k0 + tot (ts.take (i + 1)) : Nat) : Int)) := Lib.hid (by rw [HK.out.1, HKE.out]; push_cast; omega)
      go_wp2_with fail
      refine (heldInts _ l (k : Int) _ HX.out (by omega) hkb).mono ?_
      rintro e w3 ⟨rfl, rfl⟩
      go_wp2
      go_round
      case rel => exact ⟨i + 1, by omega, by go_num, by rw [← E9.out]⟩
      case measure => simp [intOf]; omega
    · obtain rfl : i = ts.length := by omega
      have hnlt : ¬ ((ts.length : Int) < (ts.length : Int)) := by omega
      rw [List.take_length]
      go_wp2
      go_ret
      exact ⟨rfl, rfl⟩
theorem OwQN.none {w : World} {B : Nat} (h : B ≤ w.heap.size) : OwQN w B w.heap.size (.slice none 0 0) [] := .inr ⟨rfl, rfl, h, Nat.le_refl _⟩
/-- A growing row of lists of the call's own, all apart from each other. -/
def GrQ (w : World) (B : Nat) (v : Value) (ts : List (List Int)) : Prop := ∃ cs, w.ownsRow B 22 1 v ts.length cs ∧ Coq w B ts cs ts.length ∧ SepQ cs ts.length
theorem GrQ.own {w : World} {B : Nat} {v : Value} {ts : List (List Int)} (h : GrQ w B v ts) (hl : ts.length ≤ 1048576) (hB : B ≤ w.heap.size) : OwQN w B w.heap.size v ts := by
  obtain ⟨cs, ho, hc, hq⟩ := h
  rcases ho.2 with ⟨rfl, h0⟩ | ⟨g, c, cur, rfl, h1, h2, _⟩
  · exact .inr ⟨rfl, List.eq_nil_of_length_eq_zero h0, hB, Nat.le_refl _⟩
  · exact .inl ⟨hl, Nat.le_refl _, g, c, cs, rfl, (ho.lt g rfl).2, (ho.lt g rfl).1, ho, hc, hq⟩
theorem GrQ.start (w : World) (B : Nat) : GrQ w B (.slice none 0 0) [] := ⟨[], World.ownsRow_nil _ _ _ _, fun i hi => by simp at hi, fun i j x y _ hj => by simp at hj⟩
theorem ownQ_below {w w' : World} {B C : Nat} {t : TypeId} {s : Nat} {v : Value} {n : Nat} {xs : List Value} (h : w.ownsRow B t s v n xs) (hb : Below C w w') (hC : w.heap.size ≤ C) : w'.ownsRow B t s v n xs := by
  refine ⟨h.1, ?_⟩
  rcases h.2 with hn | ⟨g, cap, cur, hv, hbb, hgg, rest⟩
  · exact .inl hn
  · refine .inr ⟨g, cap, cur, hv, hbb, ?_, rest⟩
    rw [hb.block g (by have := (Array.getElem?_eq_some_iff.1 hgg).1; omega)]; exact hgg
theorem GrQ.below {w w' : World} {B C : Nat} {v : Value} {ts : List (List Int)} (h : GrQ w B v ts) (hb : Below C w w') (hC : w.heap.size ≤ C) : GrQ w' B v ts := by
  obtain ⟨cs, ho, hc, hq⟩ := h
  exact ⟨cs, ownQ_below ho hb hC, fun i hi => by
    obtain ⟨u, q0, q2⟩ := hc i hi
    exact ⟨u, q0, (q2.below hb hC).up⟩, hq⟩
theorem Ow.nqp {w : World} {B T B' n : Nat} {u v : Value} {zs : List Int} {cs : List Value} (h : Ow w B T u zs) (k : w.ownsRow B' 22 1 v n cs) : u.ownBlock = none ∨ u.ownBlock ≠ v.ownBlock := by
  rcases k.2 with ⟨rfl, _⟩ | ⟨g, c, cur, rfl, _⟩
  · cases e : u.ownBlock with
    | none => exact .inl rfl
    | some b => exact .inr (by simp [Value.ownBlock])
  · exact .inr (h.qapart k)
theorem rowsQ_snoc {w0 w W : World} {B : Nat} {v v' : Value} {ts : List (List Int)} {t : List Int} {cs : List Value} {x : Value} (hc : Coq w0 B ts cs ts.length) (hq : SepQ cs ts.length) (hb : Below w0.heap.size w0 w) (hB : B ≤ w0.heap.size)
    (hrow : w.ownsRow B 22 1 v ts.length cs) (h0 : Ow w w0.heap.size w.heap.size x t) (hg : w.grownBy W v.ownBlock) (hW : W.ownsRow B 22 1 v' (ts.length + 1) (cs ++ [x])) :
    GrQ W B v' (ts ++ [t]) := by
  have hl : cs.length = ts.length := by have := hrow.1; omega
  have hx : (cs ++ [x])[ts.length]? = some x := by rw [List.getElem?_append_right (by omega), hl]; simp
  have hold : ∀ i, i < ts.length → (cs ++ [x])[i]? = cs[i]? := fun i hi => List.getElem?_append_left (by omega)
  refine ⟨cs ++ [x], by simpa using hW, ?_, ?_⟩
  · intro i hi
    rw [List.length_append, List.length_singleton] at hi
    by_cases e : i = ts.length
    · subst e
      have ht : (ts ++ [t]).getD ts.length [] = t := by simp [List.getD_eq_getElem?_getD]
      rw [ht]
      exact ⟨x, hx, (h0.grown hg (h0.nqp hrow)).up.mono hB (Nat.le_refl _) (Nat.le_refl _)⟩
    · obtain ⟨p, q0, q2⟩ := hc i (by omega)
      have ht : (ts ++ [t]).getD i [] = ts.getD i [] := by
        rw [List.getD_eq_getElem?_getD, List.getD_eq_getElem?_getD, List.getElem?_append_left (by omega)]
      rw [ht]
      have r2 := q2.below hb (Nat.le_refl _)
      exact ⟨p, (hold _ (by omega)).trans q0, (r2.grown hg (r2.nqp hrow)).up⟩
  · intro i j a b hij hj ha hb'
    rw [List.length_append, List.length_singleton] at hj
    by_cases j0 : j = ts.length
    · subst j0
      rw [hx] at hb'; cases hb'
      rw [hold i (by omega)] at ha
      obtain ⟨u, q0, q2⟩ := hc i (by omega)
      rw [q0] at ha
      cases ha
      exact sep_of q2.top h0.row.lt (Nat.le_refl _)
    · rw [hold i (by omega)] at ha
      rw [hold j (by omega)] at hb'
      exact hq i j a b hij (by omega) ha hb'
theorem cellNew1 (w : World) (x : Value) (t : TypeId) : ∀ j u, [x][j]? = some u → (w.alloc (.cells #[x] t)).cell? ((⟨w.heap.size, 0, none⟩ : Addr).add j) = some u := fun j u hj => by
  rw [Addr.add_lit]
  exact (Cels.new w t [x]).cell (0 + j) (by simpa using hj)
theorem OwQT.wideN {w : World} {B B' T : Nat} {v : Value} {ts : List (List Int)} (h : OwQT w B T v ts) (hB : B' ≤ B) (hT : T ≤ w.heap.size) : OwQT w B' w.heap.size v ts := by
  obtain ⟨hl, hs, g, c, cs, rfl, h1, h2, ho, hc, hsq⟩ := h
  refine ⟨hl, Nat.le_refl _, g, c, cs, rfl, by omega, Nat.le_trans hB h2, ⟨ho.1, ?_⟩, fun i hi => by
    obtain ⟨u, e, k⟩ := hc i hi
    exact ⟨u, e, k.mono hB hT (Nat.le_refl _)⟩, hsq⟩
  rcases ho.2 with hn | ⟨g', cap, cur, hv, hbb, rest⟩
  · exact .inl hn
  · exact .inr ⟨g', cap, cur, hv, Nat.le_trans hB hbb, rest⟩
theorem OwQN.wide {w : World} {B T B' : Nat} {v : Value} {ts : List (List Int)} (h : OwQN w B T v ts) (hB : B' ≤ B) (hT : T ≤ w.heap.size) : OwQN w B' w.heap.size v ts := by
  rcases h with h | ⟨rfl, rfl, h1, h2⟩
  · exact .inl (h.wideN hB hT)
  · exact .inr ⟨rfl, rfl, Nat.le_trans hB (Nat.le_trans h1 h2), Nat.le_refl _⟩
theorem OwQN.low {w : World} {B g : Nat} {v : Value} {ts : List (List Int)} (h : OwQN w B w.heap.size v ts) (hg : g < B) (j : Nat) (x : Value) : OwQN (w.setCell ⟨g, j, Option.none⟩ x) B (w.setCell ⟨g, j, Option.none⟩ x).heap.size v ts := by
  have := h.onlyQ ((Only.refl (fun k => k = g) w).set (p := ⟨g, j, Option.none⟩) rfl x) (fun b hb _ h => by omega)
  simpa using this
end Go.Proofs.YtbifkjmmhfnblaaDoor.Ints
