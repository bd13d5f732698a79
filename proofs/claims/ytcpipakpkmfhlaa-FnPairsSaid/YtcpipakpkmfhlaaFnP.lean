/- Tuples and sequences, the laws' source, and what FnPairs draws and compares: texts merged (gen_fnp.py). -/
import Derived.Test.YtcpipakpkmfhlaaLlm
import Derived.Test.YtcpipakpkmfhlaaUpV
import Derived.Test.YtcpipakpkmfhlaaIn
import Derived.Test.YtcpipakpkmfhlaaOwn
import Derived.Test.YtcpipakpkmfhlaaPair
import Derived.Test.YtcpipakpkmfhlaaNats
import Derived.Test.YtcpipakpkmfhlaaFit
import Derived.Test.YtcpipakpkmfhlaaRdL
import Derived.Test.YtcpipakpkmfhlaaCel
import Derived.Deep.RegionHeld3
import Derived.Test.YtcpipakpkmfhlaaOnl
import Derived.Test.YtcpipakpkmfhlaaCmpNat2
import Derived.Test.YtcpipakpkmfhlaaDvN
import Derived.Test.YtcpipakpkmfhlaaCmpNat
import Derived.Test.YtcpipakpkmfhlaaCan
import Derived.Test.YtcpipakpkmfhlaaMul
namespace Go.Proofs.Ytcpipakpkmfhlaa.Ints
open Go.RowKit
section
open Go.RowKit
set_option linter.unusedVariables false
set_option linter.unusedSimpArgs false
/-- The marks on lists. -/
def mkQ : Nat → List (List Int) → List (List Int)
  | _, [] => []
  | k, t :: ts => marks (k : Int) t.length :: mkQ (k + t.length) ts
@[simp] theorem mkQ_len (k : Nat) (ts : List (List Int)) : (mkQ k ts).length = ts.length := by
  induction ts generalizing k with
  | nil => rfl
  | cons t ts ih => simp [mkQ, ih]
theorem mkQ_at (ts : List (List Int)) : ∀ (k i : Nat), i < ts.length → (mkQ k ts).getD i [] = marks ((k + tot (ts.take i) : Nat) : Int) (ts.getD i []).length := by
  induction ts with
  | nil => intro k i h; simp at h
  | cons t ts ih =>
    intro k i h
    cases i with
    | zero => simp [mkQ, tot]
    | succ i =>
      simp only [mkQ, List.getD_cons_succ, List.take_succ_cons, tot]
      rw [ih _ i (by simpa using h)]
      simp only [Nat.add_assoc]
theorem SepQ.ne {cs : List Value} {k i j : Nat} {x y : Value} (h : SepQ cs k) (hij : i ≠ j) (hi : i < k) (hj : j < k) (hx : cs[i]? = some x) (hy : cs[j]? = some y) : Sep x y := by
  rcases Nat.lt_or_gt_of_ne hij with h' | h'
  · exact h i j x y h' hj hx hy
  · exact ⟨(h j i y x h' hi hy hx).2, (h j i y x h' hi hy hx).1⟩
/-- Lists of the call's own, or none. -/
def OwQN (w : World) (B T : Nat) (v : Value) (ts : List (List Int)) : Prop := OwQT w B T v ts ∨ (v = .slice none 0 0 ∧ ts = [] ∧ B ≤ T ∧ T ≤ w.heap.size)
theorem OwQN.below {w w' : World} {B T C : Nat} {v : Value} {ts : List (List Int)} (h : OwQN w B T v ts) (hb : Below C w w') (hC : T ≤ C) : OwQN w' B T v ts := by
  rcases h with h | ⟨rfl, rfl, h1, h2⟩
  · exact .inl (h.below hb hC)
  · exact .inr ⟨rfl, rfl, h1, Nat.le_trans h2 hb.size⟩
theorem OwQN.onlyQ {w w' : World} {B T : Nat} {v : Value} {ts : List (List Int)} {S : Nat → Prop} (h : OwQN w B T v ts) (k : Only S w w') (hS : ∀ b, B ≤ b → b < T → ¬ S b) : OwQN w' B T v ts := by
  rcases h with h | ⟨rfl, rfl, h1, h2⟩
  · exact .inl (h.onlyQ k hS)
  · exact .inr ⟨rfl, rfl, h1, Nat.le_trans h2 k.size⟩
theorem OwQN.shape {w : World} {B T : Nat} {v : Value} {ts : List (List Int)} (h : OwQN w B T v ts) : ∃ a c, v = .slice a ts.length c := by
  rcases h with h | ⟨rfl, rfl, h1, h2⟩
  · exact h.shape
  · exact ⟨_, _, rfl⟩
theorem OwQN.rdl {w : World} {B T : Nat} {v : Value} {ts : List (List Int)} (h : OwQN w B T v ts) : RdL w v ts := by
  rcases h with h | ⟨rfl, rfl, h1, h2⟩
  · exact h.rdl
  · exact ⟨by simp, none, 0, rfl, Nat.le_refl _, fun h => absurd rfl h⟩
theorem OwQN.len {w : World} {B T : Nat} {v : Value} {ts : List (List Int)} (h : OwQN w B T v ts) : ts.length ≤ 1048576 := by
  rcases h with h | ⟨rfl, rfl, h1, h2⟩
  · exact h.len
  · simp
theorem OwQN.size {w : World} {B T : Nat} {v : Value} {ts : List (List Int)} (h : OwQN w B T v ts) : T ≤ w.heap.size := by
  rcases h with h | ⟨rfl, rfl, h1, h2⟩
  · exact h.size
  · exact h2
/-- The lists when the first i of them bear marks. -/
def mxq (k : Nat) (ts : List (List Int)) (i j : Nat) : List Int := if j < i then (mkQ k ts).getD j [] else ts.getD j []
theorem mxq_lt {k : Nat} {ts : List (List Int)} {i j : Nat} (h : j < i) : mxq k ts i j = (mkQ k ts).getD j [] := if_pos h
theorem mxq_ge {k : Nat} {ts : List (List Int)} {i j : Nat} (h : i ≤ j) : mxq k ts i j = ts.getD j [] := if_neg (by omega)
theorem mxq_ne {k : Nat} {ts : List (List Int)} {i j : Nat} (h : j ≠ i) : mxq k ts (i + 1) j = mxq k ts i j := by
  unfold mxq
  by_cases h1 : j < i
  · rw [if_pos h1, if_pos (by omega)]
  · rw [if_neg h1, if_neg (by omega)]
theorem OwQN.none {w : World} {B : Nat} (h : B ≤ w.heap.size) : OwQN w B w.heap.size (.slice none 0 0) [] := .inr ⟨rfl, rfl, h, Nat.le_refl _⟩
/-- A growing row of lists of the call's own, all apart from each other. -/
def GrQ (w : World) (B : Nat) (v : Value) (ts : List (List Int)) : Prop := ∃ cs, w.ownsRow B 24 1 v ts.length cs ∧ Coq w B ts cs ts.length ∧ SepQ cs ts.length
theorem GrQ.own {w : World} {B : Nat} {v : Value} {ts : List (List Int)} (h : GrQ w B v ts) (hl : ts.length ≤ 1048576) (hB : B ≤ w.heap.size) : OwQN w B w.heap.size v ts := by
  obtain ⟨cs, ho, hc, hq⟩ := h
  rcases ho.2 with ⟨rfl, h0⟩ | ⟨g, c, cur, rfl, h1, h2, _⟩
  · exact .inr ⟨rfl, List.eq_nil_of_length_eq_zero h0, hB, Nat.le_refl _⟩
  · exact .inl ⟨hl, Nat.le_refl _, g, c, cs, rfl, (ho.lt g rfl).2, (ho.lt g rfl).1, ho, hc, hq⟩
theorem GrQ.start (w : World) (B : Nat) : GrQ w B (.slice none 0 0) [] := ⟨[], World.ownsRow_nil _ _ _ _, fun i hi => by simp at hi, fun i j x y _ hj => by simp at hj⟩
theorem ownQ_below {w w' : World} {B C : Nat} {t : TypeId} {s : Nat} {v : Value} {n : Nat} {xs : List Value} (h : w.ownsRow B t s v n xs) (hb : Below C w w') (hC : w.heap.size ≤ C) : w'.ownsRow B t s v n xs := by
  refine ⟨h.1, ?_⟩
  rcases h.2 with hn | ⟨g, cap, cur, hv, hbb, hgg, rest⟩
  · exact .inl hn
  · refine .inr ⟨g, cap, cur, hv, hbb, ?_, rest⟩
    rw [hb.block g (by have := (Array.getElem?_eq_some_iff.1 hgg).1; omega)]; exact hgg
theorem GrQ.below {w w' : World} {B C : Nat} {v : Value} {ts : List (List Int)} (h : GrQ w B v ts) (hb : Below C w w') (hC : w.heap.size ≤ C) : GrQ w' B v ts := by
  obtain ⟨cs, ho, hc, hq⟩ := h
  exact ⟨cs, ownQ_below ho hb hC, fun i hi => by
    obtain ⟨u, q0, q2⟩ := hc i hi
    exact ⟨u, q0, (q2.below hb hC).up⟩, hq⟩
theorem Ow.nqp {w : World} {B T B' n : Nat} {u v : Value} {zs : List Int} {cs : List Value} (h : Ow w B T u zs) (k : w.ownsRow B' 24 1 v n cs) : u.ownBlock = none ∨ u.ownBlock ≠ v.ownBlock := by
  rcases k.2 with ⟨rfl, _⟩ | ⟨g, c, cur, rfl, _⟩
  · cases e : u.ownBlock with
    | none => exact .inl rfl
    | some b => exact .inr (by simp [Value.ownBlock])
  · exact .inr (h.qapart k)
theorem rowsQ_snoc {w0 w W : World} {B : Nat} {v v' : Value} {ts : List (List Int)} {t : List Int} {cs : List Value} {x : Value} (hc : Coq w0 B ts cs ts.length) (hq : SepQ cs ts.length) (hb : Below w0.heap.size w0 w) (hB : B ≤ w0.heap.size)
    (hrow : w.ownsRow B 24 1 v ts.length cs) (h0 : Ow w w0.heap.size w.heap.size x t) (hg : w.grownBy W v.ownBlock) (hW : W.ownsRow B 24 1 v' (ts.length + 1) (cs ++ [x])) :
    GrQ W B v' (ts ++ [t]) := by
  have hl : cs.length = ts.length := by have := hrow.1; omega
  have hx : (cs ++ [x])[ts.length]? = some x := by rw [List.getElem?_append_right (by omega), hl]; simp
  have hold : ∀ i, i < ts.length → (cs ++ [x])[i]? = cs[i]? := fun i hi => List.getElem?_append_left (by omega)
  refine ⟨cs ++ [x], by simpa using hW, ?_, ?_⟩
  · intro i hi
    rw [List.length_append, List.length_singleton] at hi
    by_cases e : i = ts.length
    · subst e
      have ht : (ts ++ [t]).getD ts.length [] = t := by simp [List.getD_eq_getElem?_getD]
      rw [ht]
      exact ⟨x, hx, (h0.grown hg (h0.nqp hrow)).up.mono hB (Nat.le_refl _) (Nat.le_refl _)⟩
    · obtain ⟨p, q0, q2⟩ := hc i (by omega)
      have ht : (ts ++ [t]).getD i [] = ts.getD i [] := by
        rw [List.getD_eq_getElem?_getD, List.getD_eq_getElem?_getD, List.getElem?_append_left (by omega)]
      rw [ht]
      have r2 := q2.below hb (Nat.le_refl _)
      exact ⟨p, (hold _ (by omega)).trans q0, (r2.grown hg (r2.nqp hrow)).up⟩
  · intro i j a b hij hj ha hb'
    rw [List.length_append, List.length_singleton] at hj
    by_cases j0 : j = ts.length
    · subst j0
      rw [hx] at hb'; cases hb'
      rw [hold i (by omega)] at ha
      obtain ⟨u, q0, q2⟩ := hc i (by omega)
      rw [q0] at ha
      cases ha
      exact sep_of q2.top h0.row.lt (Nat.le_refl _)
    · rw [hold i (by omega)] at ha
      rw [hold j (by omega)] at hb'
      exact hq i j a b hij (by omega) ha hb'
theorem cellNew1 (w : World) (x : Value) (t : TypeId) : ∀ j u, [x][j]? = some u → (w.alloc (.cells #[x] t)).cell? ((⟨w.heap.size, 0, none⟩ : Addr).add j) = some u := fun j u hj => by
  rw [Addr.add_lit]
  exact (Cels.new w t [x]).cell (0 + j) (by simpa using hj)
/-- A growing row of lists and one more list behind it that is not yet appended, all apart from each other. -/
def PeQ (w : World) (B : Nat) (v : Value) (ts : List (List Int)) (r : Value) (zs : List Int) : Prop := ∃ cs, w.ownsRow B 24 1 v ts.length cs ∧ Coq w B (ts ++ [zs]) (cs ++ [r]) (ts.length + 1) ∧ SepQ (cs ++ [r]) (ts.length + 1)
theorem pe_last {cs : List Value} {r : Value} {n : Nat} (h : cs.length = n) : (cs ++ [r])[n]? = some r := by rw [List.getElem?_append_right (by omega), h]; simp
theorem pe_getD (ts : List (List Int)) (zs : List Int) : (ts ++ [zs]).getD ts.length [] = zs := by simp [List.getD_eq_getElem?_getD]
theorem pe_getL (ts : List (List Int)) (zs : List Int) {i : Nat} (h : i < ts.length) : (ts ++ [zs]).getD i [] = ts.getD i [] := by
  rw [List.getD_eq_getElem?_getD, List.getD_eq_getElem?_getD, List.getElem?_append_left (by omega)]
theorem PeQ.rest {w : World} {B : Nat} {v r : Value} {ts : List (List Int)} {zs : List Int} (h : PeQ w B v ts r zs) : Ow w B w.heap.size r zs := by
  obtain ⟨cs, ho, hc, hq⟩ := h
  obtain ⟨x, q0, q2⟩ := hc ts.length (by omega)
  rw [pe_last (by have := ho.1; omega)] at q0
  cases q0
  rwa [pe_getD] at q2
theorem PeQ.below {w w' : World} {B C : Nat} {v r : Value} {ts : List (List Int)} {zs : List Int} (h : PeQ w B v ts r zs) (hb : Below C w w') (hC : w.heap.size ≤ C) : PeQ w' B v ts r zs := by
  obtain ⟨cs, ho, hc, hq⟩ := h
  exact ⟨cs, ownQ_below ho hb hC, fun i hi => by
    obtain ⟨u, q0, q2⟩ := hc i hi
    exact ⟨u, q0, (q2.below hb hC).up⟩, hq⟩
theorem PeQ.start {w : World} {B : Nat} {v r : Value} {zs : List Int} (h : Ow w B w.heap.size r zs) (hv : w.ownsRow B 24 1 v 0 []) : PeQ w B v [] r zs :=
  ⟨[], hv, fun i hi => by
    simp only [List.length_nil, Nat.zero_add, Nat.lt_one_iff] at hi
    subst hi
    exact ⟨r, rfl, h⟩, fun i j x y hij hj => by simp at hj; omega⟩
/-- The list behind the row appended. -/
theorem PeQ.last {w W : World} {B : Nat} {v v' r : Value} {ts : List (List Int)} {zs : List Int} {cs : List Value} (ho : w.ownsRow B 24 1 v ts.length cs) (hc : Coq w B (ts ++ [zs]) (cs ++ [r]) (ts.length + 1)) (hq : SepQ (cs ++ [r]) (ts.length + 1))
    (hg : w.grownBy W v.ownBlock) (hW : W.ownsRow B 24 1 v' (ts.length + 1) (cs ++ [r])) : GrQ W B v' (ts ++ [zs]) := by
  refine ⟨cs ++ [r], by simpa using hW, fun i hi => ?_, by simpa using hq⟩
  rw [List.length_append, List.length_singleton] at hi
  obtain ⟨u, q0, q2⟩ := hc i hi
  exact ⟨u, q0, (q2.grown hg (q2.nqp ho)).up⟩
/-- One list appended, another one behind the row. -/
theorem PeQ.snoc {w0 w W : World} {B : Nat} {v v' r a b : Value} {ts : List (List Int)} {zs za zb : List Int} {cs : List Value} (hc : Coq w0 B (ts ++ [zs]) (cs ++ [r]) (ts.length + 1)) (hq : SepQ (cs ++ [r]) (ts.length + 1)) (hb : Below w0.heap.size w0 w) (hB : B ≤ w0.heap.size)
    (hrow : w.ownsRow B 24 1 v ts.length cs) (h0 : Ow w w0.heap.size w.heap.size a za) (h1 : Ow w w0.heap.size w.heap.size b zb) (hs : Sep a b) (hg : w.grownBy W v.ownBlock) (hW : W.ownsRow B 24 1 v' (ts.length + 1) (cs ++ [a])) :
    PeQ W B v' (ts ++ [za]) b zb := by
  have hl : cs.length = ts.length := by have := hrow.1; omega
  have hn : (ts ++ [za]).length = ts.length + 1 := by simp
  have hold : ∀ i, i < ts.length → (cs ++ [a] ++ [b])[i]? = cs[i]? ∧ (cs ++ [r])[i]? = cs[i]? := fun i hi => ⟨by rw [List.append_assoc, List.getElem?_append_left (by omega)], List.getElem?_append_left (by omega)⟩
  have ha' : (cs ++ [a] ++ [b])[ts.length]? = some a := by rw [List.append_assoc, List.getElem?_append_right (by omega), hl]; simp
  have hb' : (cs ++ [a] ++ [b])[ts.length + 1]? = some b := by rw [List.getElem?_append_right (by simp; omega)]; simp [hl]
  have olds : ∀ i x, i < ts.length → cs[i]? = some x → Ow w0 B w0.heap.size x (ts.getD i []) := fun i x hi hx => by
    obtain ⟨u, q0, q2⟩ := hc i (by omega)
    rw [(hold i hi).2, hx] at q0
    cases q0
    rwa [pe_getL _ _ hi] at q2
  refine ⟨cs ++ [a], by rw [hn]; exact hW, fun i hi => ?_, fun i j x y hij hj hx hy => ?_⟩
  · rw [hn] at hi
    by_cases e1 : i = ts.length + 1
    · subst e1
      refine ⟨b, hb', ?_⟩
      rw [← hn, pe_getD]
      exact (h1.grown hg (h1.nqp hrow)).up.mono hB (Nat.le_refl _) (Nat.le_refl _)
    · by_cases e0 : i = ts.length
      · subst e0
        refine ⟨a, ha', ?_⟩
        rw [pe_getL _ _ (by omega), pe_getD]
        exact (h0.grown hg (h0.nqp hrow)).up.mono hB (Nat.le_refl _) (Nat.le_refl _)
      · have hi' : i < ts.length := by omega
        obtain ⟨u, q0, q2⟩ := hc i (by omega)
        rw [(hold i hi').2] at q0
        have q3 := olds i u hi' q0
        refine ⟨u, (hold i hi').1.trans q0, ?_⟩
        rw [pe_getL _ _ (by omega), pe_getL _ _ hi']
        have r2 := q3.below hb (Nat.le_refl _)
        exact (r2.grown hg (r2.nqp hrow)).up
  · rw [hn] at hj
    by_cases j1 : j = ts.length + 1
    · subst j1
      rw [hb'] at hy; cases hy
      by_cases i0 : i = ts.length
      · subst i0
        rw [ha'] at hx; cases hx
        exact hs
      · rw [(hold i (by omega)).1] at hx
        have q := olds i x (by omega) hx
        exact sep_of q.top h1.row.lt (Nat.le_refl _)
    · by_cases j0 : j = ts.length
      · subst j0
        rw [ha'] at hy; cases hy
        rw [(hold i (by omega)).1] at hx
        have q := olds i x (by omega) hx
        exact sep_of q.top h0.row.lt (Nat.le_refl _)
      · rw [(hold i (by omega)).1] at hx
        rw [(hold j (by omega)).1] at hy
        exact hq i j x y hij (by omega) ((hold i (by omega)).2.trans hx) ((hold j (by omega)).2.trans hy)
/-- The tuple of k + 1 numbers that a number stands for. -/
noncomputable def tfL : Nat → Int → List (List Int)
  | 0, N => [canOf N]
  | k + 1, N => canOf (unA N) :: tfL k (unB N)
theorem tfL_len : ∀ (k : Nat) (N : Int), (tfL k N).length = k + 1
  | 0, _ => rfl
  | k + 1, N => by rw [tfL, List.length_cons, tfL_len k]
theorem tfL_tot : ∀ (k : Nat) (N : Int), Nn 40 N → tot (tfL k N) ≤ 42 * (k + 1)
  | 0, N, h => by
    have := h.can.2.2
    simp only [tfL, tot]; omega
  | k + 1, N, h => by
    obtain ⟨_, _, _, _, _, _, nb, na⟩ := nn_un h
    have h1 := na.can.2.2
    have h2 := tfL_tot k (unB N) nb
    simp only [tfL, tot]; omega
noncomputable def toR (ps : List Int) (k : Int) : List (List Int) × Int := if natB ps = false then ([], 1) else if ¬ (1 ≤ k ∧ k ≤ 8) then ([], 2) else (tfL (k - 1).toNat (val ps), 0)
theorem toR_tot (ps : List Int) (k : Int) : tot (toR ps k).1 ≤ 1048576 := by
  unfold toR
  split
  · simp [tot]
  · rename_i h
    split
    · simp [tot]
    · rename_i h8
      have hn : natB ps = true := by cases e : natB ps <;> simp_all
      have := tfL_tot (k - 1).toNat (val ps) (nn_of (natB_can hn).1 (natB_can hn).2)
      show tot (tfL (k - 1).toNat (val ps)) ≤ 1048576
      omega
theorem PeQ.open {w : World} {B : Nat} {v r : Value} {ts : List (List Int)} {zs : List Int} (h : PeQ w B v ts r zs) : ∃ cs, w.ownsRow B 24 1 v ts.length cs ∧ Hid (Coq w B (ts ++ [zs]) (cs ++ [r]) (ts.length + 1)) ∧ Hid (SepQ (cs ++ [r]) (ts.length + 1)) := by
  obtain ⟨cs, ho, hc, hq⟩ := h
  exact ⟨cs, ho, Lib.hid hc, Lib.hid hq⟩
set_option maxRecDepth 100000 in
set_option maxHeartbeats 8000000 in
theorem implTupleOf (u : Value) (ps : List Int) (k : Int) (w : World) (hu : Rd w u ps) :
    Calls Try.prog 12 #[u, .int .i64 k] w fun e w' => ∃ r, e = .returned (.tuple #[r, .int .i64 (toR ps k).2]) ∧ OwQN w' w.heap.size w'.heap.size r (toR ps k).1 ∧ Below w.heap.size w w' := by
  obtain ⟨i0, hi, hz0, hz1, hz2⟩ := info_parts infoQ
  have HU := Lib.hid hu
  clear hu
  rcases eq_or (natB ps) with hx | hx
  · have HX := Lib.hid hx
    have HR : Hid (toR ps k = ([], 1)) := Lib.hid (if_pos hx)
    clear hx
    go_enter Try.func12, Try.ntmps12
    go_wp2_with fail
    refine (implNat _ ps _ HU.out).mono ?_
    rintro e w1 ⟨rfl, hb⟩
    rw [HX.out]
    have HB := Lib.hid hb
    clear hb
    go_wp2
    go_ret2
    exact ⟨_, by rw [HR.out] <;> rfl, by rw [HR.out]; exact OwQN.none HB.out.size, HB.out⟩
  have HX := Lib.hid hx
  have hx0 : ¬ natB ps = false := by rw [hx]; simp
  by_cases h8 : 1 ≤ k ∧ k ≤ 8
  rotate_left
  · have HR : Hid (toR ps k = ([], 2)) := Lib.hid (by rw [toR, if_neg hx0, if_pos h8])
    have d8 : (decide ((1 : Int) ≤ k) = false) ∨ ((1 : Int) ≤ k ∧ decide (k ≤ 8) = false) := by
      by_cases q : 1 ≤ k
      · exact .inr ⟨by omega, decide_eq_false (by omega)⟩
      · exact .inl (decide_eq_false (by omega))
    clear hx hx0 h8
    rcases d8 with d8 | ⟨d7, d8⟩
    all_goals
      go_enter Try.func12, Try.ntmps12
      go_wp2_with fail
      refine (implNat _ ps _ HU.out).mono ?_
      rintro e w1 ⟨rfl, hb⟩
      rw [HX.out]
      have HB := Lib.hid hb
      clear hb
      go_wp2_with (go_at_call 26; go_in)
      go_ret2
      exact ⟨_, by rw [HR.out] <;> rfl, by rw [HR.out]; exact OwQN.none HB.out.size, HB.out⟩
  obtain ⟨K, hK⟩ : ∃ K : Nat, k = (K : Int) + 1 := ⟨(k - 1).toNat, by omega⟩
  subst hK
  have HR : Hid (toR ps ((K : Int) + 1) = (tfL K (val ps), 0)) := Lib.hid (by rw [toR, if_neg hx0, if_neg (by omega), show ((K : Int) + 1 - 1).toNat = K by omega])
  have HP := Lib.hid (natB_can hx)
  obtain ⟨L, hL⟩ : ∃ L, L = tfL K (val ps) := ⟨_, rfl⟩
  have HL := Lib.hid hL
  have k1 : (1 : Int) ≤ (K : Int) + 1 := h8.1
  have k8 : (K : Int) + 1 ≤ 8 := h8.2
  have e1 : IntKind.i64.wrap ((K : Int) + 1 - 1) = (K : Int) := by rw [IntKind.wrap_i64]; omega
  have e2 : ((K : Int) + 1 - 1) = (K : Int) := by omega
  clear hx hx0 h8 hL
  go_enter Try.func12, Try.ntmps12
  go_wp2_with fail
  refine (implNat _ ps _ HU.out).mono ?_
  rintro e w1 ⟨rfl, hb⟩
  rw [HX.out]
  have HB0 := Lib.hid hb
  clear hb
  go_wp2_with (go_at_call 26; go_in)
  refine (libClone _ ps _ (HU.out.below HB0.out (Nat.le_refl _))).mono ?_
  rintro e w2 ⟨r, rfl, ho, hb⟩
  have HB1 := Lib.hid (HB0.out.trans (hb.mono HB0.out.size))
  have HO : Hid (Ow w2 w.heap.size w2.heap.size r (canOf (val ps))) := Lib.hid (by rw [canOf_val HP.out.1]; exact ho.mono HB0.out.size (Nat.le_refl _) (Nat.le_refl _))
  clear ho hb
  go_wp2
  go_loopw [6, 7, 20] (fun o r c wr => ∃ (i : Nat) (ts : List (List Int)) (N : Int) (ov rv : Value), o = ov ∧ r = rv ∧ c = .int .i64 (i : Int) ∧ i ≤ K ∧ ts.length = i ∧ Nn 40 N ∧ PeQ wr w.heap.size ov ts rv (canOf N) ∧ ts ++ tfL (K - i) N = L ∧ Below w.heap.size w wr) (fun _ _ c _ => K - (intOf c).toNat)
  case atStart => exact ⟨0, [], val ps, _, _, rfl, rfl, rfl, Nat.zero_le _, rfl, nn_of HP.out.1 HP.out.2, PeQ.start HO.out (World.ownsRow_nil _ _ _ _), by rw [List.nil_append, Nat.sub_zero, HL.out], HB1.out⟩
  case round =>
    obtain ⟨i, ts, N, ov, rv, hov, hrv, rfl, hik, hti, hN, hpe, htl, hbel⟩ := hrel
    obtain rfl := hov.symm
    obtain rfl := hrv.symm
    have HN := Lib.hid hN
    have HPE := Lib.hid hpe
    have HB := Lib.hid hbel
    have HTL := Lib.hid htl
    have HTI := Lib.hid hti
    obtain ⟨cs, hown, HCQ, HSQ⟩ := hpe.open
    clear hN hpe htl hbel
    by_cases hlt : i < K
    · have i1 : (i : Int) < (K : Int) := by omega
      have hcond : (i : Int) < (K : Int) + 1 - 1 := by omega
      have HOW := Lib.hid hown
      clear hown
      go_wp2_with fail
      refine (iUnpair _ N _ HPE.out.rest.rd HN.out).mono ?_
      rintro e w3 ⟨a, b, rfl, oa, ob, sp, hb⟩
      obtain ⟨ga, gc, ha⟩ := oa.shape
      subst ha
      obtain ⟨gb, gd, hb'⟩ := ob.shape
      subst hb'
      have HA := Lib.hid oa
      have HBo := Lib.hid ob
      have HSP := Lib.hid sp
      have HB3 := Lib.hid hb
      have hown1 := ownQ_below HOW.out hb (Nat.le_refl _)
      have HOW1 := Lib.hid hown1
      have hsz := Nat.le_trans HB.out.size hb.size
      rw [hti] at hown1
      clear oa ob sp hb
      go_wp2_with (at_builtin; refine wpList_append_own _ rfl _ _ 32 rfl w.heap.size 24 i0 (.slice none 0 0) 1 24 Try.underlying32 hi hz0 hz1 hz2 rfl (by decide) _ _ _ rfl (hown1.alloc _) ⟨_, 0, none⟩ 1 1 [.slice ga (canOf (unA N)).length gc] rfl rfl ?c1 ?c2 ?c3 ?c4 ?c5 ?_)
      case c1 => exact cellNew1 _ _ _
      case c2 => intro u hu; simp at hu; subst hu; rfl
      case c3 => unfold maxLen; omega
      case c4 => omega
      case c5 => first | omega | (simp; omega)
      intro v' w4 hown4 hgrow _
      have HBA : Hid (Below wr.heap.size wr (w3.alloc (Obj.cells #[.slice ga (canOf (unA N)).length gc] 24))) := Lib.hid (HB3.out.alloc HB3.out.size _)
      have hbw : Below w3.heap.size w3 (w3.alloc (Obj.cells #[.slice ga (canOf (unA N)).length gc] 24)) := (Below.refl _ _).alloc (Nat.le_refl _) _
      have HPE2 : Hid (PeQ w4 w.heap.size v' (ts ++ [canOf (unA N)]) (.slice gb (canOf (unB N)).length gd) (canOf (unB N))) := Lib.hid
        (PeQ.snoc HCQ.out HSQ.out HBA.out HB.out.size (HOW1.out.alloc _) (HA.out.below hbw (Nat.le_refl _)).up (HBo.out.below hbw (Nat.le_refl _)).up HSP.out hgrow (by rw [HTI.out]; exact hown4))
      have HBX := Lib.hid ((HB.out.trans (HBA.out.mono HB.out.size)).grown hgrow (by simp; omega) (fun q hq => (HOW.out.lt q hq).1))
      have HTL2 : Hid (ts ++ [canOf (unA N)] ++ tfL (K - (i + 1)) (unB N) = L) := Lib.hid (by
        rw [← HTL.out, show K - i = (K - (i + 1)) + 1 by omega, tfL, List.append_assoc]; rfl)
      clear hown4 hgrow hown1
      go_wp2
      go_roundw
      case rel => exact ⟨i + 1, ts ++ [canOf (unA N)], unB N, _, _, rfl, rfl, by go_num, by omega, by simp [HTI.out], (nn_un HN.out).2.2.2.2.2.2.1, HPE2.out, HTL2.out, HBX.out⟩
      case measure => simp [intOf]; omega
    · obtain rfl : i = K := by omega
      have i1 : ¬ (i : Int) < (i : Int) := by omega
      have hcond : ¬ (i : Int) < (i : Int) + 1 - 1 := by omega
      have HTL2 : Hid (ts ++ [canOf N] = L) := Lib.hid (by have := HTL.out; rwa [Nat.sub_self, tfL] at this)
      obtain ⟨gr, gd, hr⟩ := HPE.out.rest.shape
      have HOW := Lib.hid hown
      rw [hti] at hown
      have hsz := HB.out.size
      subst hr
      go_wp2_with (at_builtin; refine wpList_append_own _ rfl _ _ 32 rfl w.heap.size 24 i0 (.slice none 0 0) 1 24 Try.underlying32 hi hz0 hz1 hz2 rfl (by decide) _ _ _ rfl (hown.alloc _) ⟨_, 0, none⟩ 1 1 [.slice gr (canOf N).length gd] rfl rfl ?d1 ?d2 ?d3 ?d4 ?d5 ?_)
      case d2 => first | rfl | (intro u hu; simp at hu; subst hu; rfl)
      case d3 => unfold maxLen; omega
      case d4 => omega
      case d5 => first | omega | (simp; omega)
      intro v' w4 hown4 hgrow _
      have hbw : Below wr.heap.size wr (wr.alloc (Obj.cells #[.slice gr (canOf N).length gd] 24)) := (Below.refl _ _).alloc (Nat.le_refl _) _
      have HGQ : Hid (OwQN w4 w.heap.size w4.heap.size v' L) := Lib.hid (by
        have hc : Coq (wr.alloc (Obj.cells #[.slice gr (canOf N).length gd] 24)) w.heap.size (ts ++ [canOf N]) (cs ++ [.slice gr (canOf N).length gd]) (ts.length + 1) := fun i hi => by
          obtain ⟨u, q0, q2⟩ := HCQ.out i hi
          exact ⟨u, q0, (q2.below hbw (Nat.le_refl _)).up⟩
        have h1 := PeQ.last (HOW.out.alloc _) hc HSQ.out hgrow (by rw [HTI.out]; exact hown4)
        rw [HTL2.out] at h1
        have hlen : L.length = i + 1 := by rw [HL.out, tfL_len]
        exact h1.own (by omega) (by have := hgrow.size; simp at this; omega))
      have HBX := Lib.hid ((HB.out.trans (hbw.mono HB.out.size)).grown hgrow (by simp; omega) (fun q hq => (HOW.out.lt q hq).1))
      clear hown4 hgrow hown
      go_wp2
      go_ret2
      exact ⟨_, by rw [HR.out] <;> rfl, by rw [HR.out, ← HL.out]; exact HGQ.out, HBX.out⟩
end
section
open Go.RowKit
set_option linter.unusedVariables false
set_option linter.unusedSimpArgs false
/-- The sequence of at most m numbers that a number stands for. -/
noncomputable def sqG : Nat → Int → Option (List (List Int))
  | 0, N => if N = 0 then some [] else none
  | m + 1, N => if N = 0 then some [] else (sqG m (unB (N - 1))).map fun L => canOf (unA (N - 1)) :: L
theorem nn_pred {N : Int} (h : Nn 40 N) (h1 : 1 ≤ N) : Nn 40 (N - 1) := ⟨by omega, by have := h.lt; omega⟩
theorem sqG_zero (m : Nat) : sqG m 0 = some [] := by cases m <;> simp [sqG]
theorem sqG_none {N : Int} (h : 1 ≤ N) : sqG 0 N = none := by rw [sqG, if_neg (by omega)]
theorem sqG_succ {m : Nat} {N : Int} (h : 1 ≤ N) : sqG (m + 1) N = (sqG m (unB (N - 1))).map fun L => canOf (unA (N - 1)) :: L := by rw [sqG, if_neg (by omega)]
theorem sqG_tot : ∀ (m : Nat) (N : Int) (L : List (List Int)), Nn 40 N → sqG m N = some L → tot L ≤ 42 * m
  | 0, N, L, h, e => by
    rw [sqG] at e
    split at e
    · cases e; simp [tot]
    · cases e
  | m + 1, N, L, h, e => by
    rcases Int.lt_or_eq_of_le h.nn with h1 | h1
    · rw [sqG_succ (by omega)] at e
      obtain ⟨_, _, _, _, _, _, nb, na⟩ := nn_un (nn_pred h (by omega))
      cases e2 : sqG m (unB (N - 1)) with
      | none => rw [e2] at e; cases e
      | some M =>
        rw [e2] at e
        cases e
        have h2 := sqG_tot m _ M nb e2
        have h3 := na.can.2.2
        simp only [tot]; omega
    · rw [← h1, sqG_zero] at e
      cases e; simp [tot]
def opQ : Option (List (List Int)) → List (List Int) × Int
  | some L => (L, 0)
  | none => ([], 5)
noncomputable def soR (ps : List Int) : List (List Int) × Int := if natB ps = false then ([], 1) else opQ (sqG 8 (val ps))
theorem soR_tot (ps : List Int) : tot (soR ps).1 ≤ 1048576 := by
  unfold soR
  split
  · simp [tot]
  · rename_i h
    have hn : natB ps = true := by cases e : natB ps <;> simp_all
    cases e : sqG 8 (val ps) with
    | none => simp [opQ, tot]
    | some L =>
      have := sqG_tot 8 (val ps) L (nn_of (natB_can hn).1 (natB_can hn).2) e
      show tot L ≤ 1048576
      omega
theorem canOf_pos {N : Int} (h : Nn 40 N) : (0 < (canOf N).length ∧ 1 ≤ N) ∨ (¬ 0 < (canOf N).length ∧ N = 0) := by
  obtain ⟨h1, h2, _⟩ := h.can
  by_cases e : 0 < (canOf N).length
  · exact .inl ⟨e, by have := val_pos h1 e; omega⟩
  · refine .inr ⟨e, ?_⟩
    rw [← h2, List.length_eq_zero_iff.1 (show (canOf N).length = 0 by omega)]; rfl
theorem GrQ.shape {w : World} {B : Nat} {v : Value} {ts : List (List Int)} (h : GrQ w B v ts) : ∃ a c, v = .slice a ts.length c := by
  obtain ⟨cs, ho, hc, hq⟩ := h
  rcases ho.2 with ⟨rfl, h0⟩ | ⟨g, c, cur, rfl, _⟩
  · rw [h0]; exact ⟨_, _, rfl⟩
  · exact ⟨_, _, rfl⟩
theorem GrQ.open {w : World} {B : Nat} {v : Value} {ts : List (List Int)} (h : GrQ w B v ts) : ∃ cs, w.ownsRow B 24 1 v ts.length cs ∧ Hid (Coq w B ts cs ts.length) ∧ Hid (SepQ cs ts.length) := by
  obtain ⟨cs, ho, hc, hq⟩ := h
  exact ⟨cs, ho, Lib.hid hc, Lib.hid hq⟩
set_option maxRecDepth 100000 in
set_option maxHeartbeats 8000000 in
theorem implSequenceOf (u : Value) (ps : List Int) (w : World) (hu : Rd w u ps) :
    Calls Try.prog 15 #[u] w fun e w' => ∃ r, e = .returned (.tuple #[r, .int .i64 (soR ps).2]) ∧ OwQN w' w.heap.size w'.heap.size r (soR ps).1 ∧ Below w.heap.size w w' := by
  obtain ⟨i0, hi, hz0, hz1, hz2⟩ := info_parts infoQ
  have HU := Lib.hid hu
  clear hu
  rcases eq_or (natB ps) with hx | hx
  · have HX := Lib.hid hx
    have HR : Hid (soR ps = ([], 1)) := Lib.hid (if_pos hx)
    clear hx
    go_enter Try.func15, Try.ntmps15
    go_wp2_with fail
    refine (implNat _ ps _ HU.out).mono ?_
    rintro e w1 ⟨rfl, hb⟩
    rw [HX.out]
    have HB := Lib.hid hb
    clear hb
    go_wp2
    go_ret2
    exact ⟨_, by rw [HR.out] <;> rfl, by rw [HR.out]; exact OwQN.none HB.out.size, HB.out⟩
  have HX := Lib.hid hx
  have hx0 : ¬ natB ps = false := by rw [hx]; simp
  have HR : Hid (soR ps = opQ (sqG 8 (val ps))) := Lib.hid (by rw [soR, if_neg hx0])
  have HP := Lib.hid (natB_can hx)
  obtain ⟨G, hG⟩ : ∃ G, G = sqG 8 (val ps) := ⟨_, rfl⟩
  have HG := Lib.hid hG
  rw [← hG] at HR
  clear hx hx0 hG
  go_enter Try.func15, Try.ntmps15
  go_wp2_with fail
  refine (implNat _ ps _ HU.out).mono ?_
  rintro e w1 ⟨rfl, hb⟩
  rw [HX.out]
  have HB0 := Lib.hid hb
  clear hb
  go_wp2
  go_loopw [0, 4] (fun r o wr => ∃ (m : Nat) (ts : List (List Int)) (N : Int) (ov rv : Value), o = ov ∧ r = rv ∧ ts.length + m = 8 ∧ Nn 40 N ∧ GrQ wr w.heap.size ov ts ∧ Rd wr rv (canOf N) ∧ (sqG m N).map (fun L => ts ++ L) = G ∧ Below w.heap.size w wr) (fun r _ wr => rdVal wr r)
  case atStart => exact ⟨8, [], val ps, _, _, rfl, rfl, rfl, nn_of HP.out.1 HP.out.2, GrQ.start _ _, by rw [canOf_val HP.out.1]; exact HU.out.below HB0.out (Nat.le_refl _), by rw [HG.out]; simp, HB0.out⟩
  case round =>
    obtain ⟨m, ts, N, ov, rv, hov, hrv, htm, hN, hgr, hrd, hR, hbel⟩ := hrel
    obtain rfl := hov.symm
    obtain rfl := hrv.symm
    have HN := Lib.hid hN
    have HGR := Lib.hid hgr
    have HB := Lib.hid hbel
    have HRR := Lib.hid hR
    have HTM := Lib.hid htm
    have HRD := Lib.hid hrd
    obtain ⟨cs, hown, HCQ, HSQ⟩ := hgr.open
    have HOW := Lib.hid hown
    obtain ⟨go, gp, hov2⟩ := hgr.shape
    subst hov2
    obtain ⟨_, _, ay, cy, rfl, _, _⟩ := hrd
    have hcp := canOf_pos hN
    clear hN hgr hR hbel hown
    rcases hcp with ⟨hpos, hN1⟩ | ⟨hpos, hN0⟩
    · have p1 : (0 : Int) < ((canOf N).length : Int) := by omega
      have HN1 := Lib.hid hN1
      rcases Nat.eq_zero_or_pos m with hm | hm
      · subst hm
        have z1 : ((ts.length : Int) == 8) = true := by rw [beq_iff_eq]; omega
        have z2 : (ts.length : Int) = 8 := by omega
        have HG0 : Hid (opQ G = ([], 5)) := Lib.hid (by rw [← HRR.out, sqG_none hN1]; rfl)
        clear hN1 htm
        go_wp2
        go_ret2
        exact ⟨_, by rw [HR.out, HG0.out] <;> rfl, by rw [HR.out, HG0.out]; exact OwQN.none HB.out.size, HB.out⟩
      obtain ⟨n, rfl⟩ : ∃ n, m = n + 1 := ⟨m - 1, by omega⟩
      have z1 : ((ts.length : Int) == 8) = false := by rw [beq_eq_false_iff_ne]; omega
      have z2 : ¬ (ts.length : Int) = 8 := by omega
      have hlen0 : ts.length ≤ 8 := by omega
      clear hN1 hm
      go_wp2_with fail
      refine (iLess _ N 40 _ HRD.out HN.out (by omega) (by omega) HN1.out).mono ?_
      rintro e w2 ⟨r2, rfl, ho, hb⟩
      have X2 := Lib.hid ho.rd
      have HB2 := Lib.hid hb
      clear ho hb
      go_wp2_with fail
      refine (iUnpair _ (N - 1) _ X2.out (nn_pred HN.out HN1.out)).mono ?_
      rintro e w3 ⟨a, b, rfl, oa, ob, sp, hb⟩
      obtain ⟨ga, gc, ha⟩ := oa.shape
      subst ha
      obtain ⟨gb, gd, hb'⟩ := ob.shape
      subst hb'
      have HA : Hid (Ow w3 wr.heap.size w3.heap.size (.slice ga (canOf (unA (N - 1))).length gc) (canOf (unA (N - 1)))) := Lib.hid (oa.mono HB2.out.size (Nat.le_refl _) (Nat.le_refl _))
      have HBo := Lib.hid ob
      have HB3 := Lib.hid (HB2.out.trans (hb.mono HB2.out.size))
      have hown1 := ownQ_below HOW.out HB3.out (Nat.le_refl _)
      have HOW1 := Lib.hid hown1
      have hsz := Nat.le_trans HB.out.size HB3.out.size
      clear oa ob sp hb
      go_wp2_with (at_builtin; refine wpList_append_own _ rfl _ _ 32 rfl w.heap.size 24 i0 (.slice none 0 0) 1 24 Try.underlying32 hi hz0 hz1 hz2 rfl (by decide) _ _ _ rfl (hown1.alloc _) ⟨_, 0, none⟩ 1 1 [.slice ga (canOf (unA (N - 1))).length gc] rfl rfl ?c1 ?c2 ?c3 ?c4 ?c5 ?_)
      case c1 => exact cellNew1 _ _ _
      case c2 => first | rfl | (intro u hu; simp at hu; subst hu; rfl)
      case c3 => unfold maxLen; omega
      case c4 => omega
      case c5 => first | omega | (simp; omega)
      intro v' w4 hown4 hgrow _
      have HBA : Hid (Below wr.heap.size wr (w3.alloc (Obj.cells #[.slice ga (canOf (unA (N - 1))).length gc] 24))) := Lib.hid (HB3.out.alloc HB3.out.size _)
      have hbw : Below w3.heap.size w3 (w3.alloc (Obj.cells #[.slice ga (canOf (unA (N - 1))).length gc] 24)) := (Below.refl _ _).alloc (Nat.le_refl _) _
      have HGR2 : Hid (GrQ w4 w.heap.size v' (ts ++ [canOf (unA (N - 1))])) := Lib.hid
        (rowsQ_snoc HCQ.out HSQ.out HBA.out HB.out.size (HOW1.out.alloc _) (HA.out.below hbw (Nat.le_refl _)).up hgrow hown4)
      have HBo4 : Hid (Rd w4 (.slice gb (canOf (unB (N - 1))).length gd) (canOf (unB (N - 1)))) := Lib.hid ((HBo.out.below hbw (Nat.le_refl _)).grown hgrow ((HBo.out.below hbw (Nat.le_refl _)).nqp (HOW1.out.alloc _))).rd
      have HBX := Lib.hid ((HB.out.trans (HBA.out.mono HB.out.size)).grown hgrow (by simp; omega) (fun q hq => (HOW.out.lt q hq).1))
      have HR2 : Hid ((sqG n (unB (N - 1))).map (fun L => ts ++ [canOf (unA (N - 1))] ++ L) = G) := Lib.hid (by
        rw [← HRR.out, sqG_succ HN1.out, Option.map_map]
        congr 1
        funext L
        simp)
      have HNB := Lib.hid (nn_un (nn_pred HN.out HN1.out)).2.2.2.2.2.2.1
      have HUB := Lib.hid (un_spec (nn_pred HN.out HN1.out).nn)
      clear hown4 hgrow hown1
      go_wp2
      go_roundw
      case rel => exact ⟨n, ts ++ [canOf (unA (N - 1))], unB (N - 1), _, _, rfl, rfl, by (have := HTM.out; simp; omega), HNB.out, HGR2.out, HBo4.out, HR2.out, HBX.out⟩
      case measure =>
        rw [rdVal_eq HBo4.out, rdVal_eq HRD.out, HNB.out.can.2.1, HN.out.can.2.1]
        have h1 := HUB.out
        have h2 := HN1.out
        have h3 : unB (N - 1) = N - 1 - triV (unT (N - 1)) := rfl
        have h4 := tri_two h1.2.1
        have h5 := Int.mul_nonneg h1.2.1 h1.2.1
        have h6 := h1.2.1
        omega
    · have p1 : ¬ (0 : Int) < ((canOf N).length : Int) := by omega
      have HG0 : Hid (opQ G = (ts, 0)) := Lib.hid (by rw [← HRR.out, hN0, sqG_zero]; simp [opQ])
      have HQ : Hid (OwQN wr w.heap.size wr.heap.size (.slice go ts.length gp) ts) := Lib.hid (HGR.out.own (by omega) HB.out.size)
      clear hN0 htm
      go_wp2
      go_ret2
      exact ⟨_, by rw [HR.out, HG0.out] <;> rfl, by rw [HR.out, HG0.out]; exact HQ.out, HB.out⟩
end
section
open Go.RowKit
set_option linter.unusedVariables false
set_option linter.unusedSimpArgs false
theorem pair_un {N : Int} : pairV (unA N) (unB N) = N := by
  have e : unA N + unB N = unT N := by unfold unA; omega
  rw [pairV, e, unB]; omega
theorem unT_pair {a b : Int} (ha : 0 ≤ a) (hb : 0 ≤ b) : unT (pairV a b) = a + b := by
  obtain ⟨s, hs⟩ : ∃ s, s = a + b := ⟨_, rfl⟩
  have s0 : 0 ≤ s := by omega
  have e := tri_two s0
  have hp : pairV a b = triV s + b := by rw [pairV, hs]
  have t0 : 0 ≤ triV s := by have := Int.mul_nonneg s0 s0; omega
  obtain ⟨r0, r1, r2⟩ := isq_spec (N := pairV a b * 8 + 1) (by omega)
  obtain ⟨R, hR⟩ : ∃ R, R = isq (pairV a b * 8 + 1) := ⟨_, rfl⟩
  have hT : unT (pairV a b) = (R - 1) / 2 := by rw [unT, hR]
  rw [← hR] at r0 r1 r2
  have e1 : (2 * s + 1) * (2 * s + 1) = 4 * (s * s) + 4 * s + 1 := by
    rw [Int.add_mul, Int.mul_add, Int.mul_one, Int.one_mul, show 2 * s * (2 * s) = 4 * (s * s) by rw [Int.mul_assoc, Int.mul_left_comm s 2 s, ← Int.mul_assoc 2 2]; rfl]
    omega
  have e2 : (2 * s + 3) * (2 * s + 3) = 4 * (s * s) + 12 * s + 9 := by
    rw [Int.add_mul, Int.mul_add, Int.mul_add, show 2 * s * (2 * s) = 4 * (s * s) by rw [Int.mul_assoc, Int.mul_left_comm s 2 s, ← Int.mul_assoc 2 2]; rfl]
    omega
  have l1 : 2 * s + 1 ≤ R := by
    rcases Int.lt_or_le R (2 * s + 1) with h | h
    · have := sq_le (a := R + 1) (b := 2 * s + 1) (by omega) (by omega)
      omega
    · exact h
  have l2 : R < 2 * s + 3 := by
    rcases Int.lt_or_le R (2 * s + 3) with h | h
    · exact h
    · have := sq_le (a := 2 * s + 3) (b := R) (by omega) (by omega)
      omega
  rw [hT, ← hs]; omega
theorem un_pair {a b : Int} (ha : 0 ≤ a) (hb : 0 ≤ b) : unA (pairV a b) = a ∧ unB (pairV a b) = b := by
  have h := unT_pair ha hb
  have hB : unB (pairV a b) = b := by rw [unB, h, pairV]; omega
  exact ⟨by rw [unA, hB, h]; omega, hB⟩
end
section
open Go.RowKit
set_option linter.unusedVariables false
set_option linter.unusedSimpArgs false
noncomputable def tpF : List (List Int) → Option (List Int)
  | [] => none
  | [x] => some x
  | x :: y :: xs => (tpF (y :: xs)).bind fun r => if (canOf (pairV (val x) (val r))).length ≤ 40 then some (canOf (pairV (val x) (val r))) else none
noncomputable def sqF : List (List Int) → Option (List Int)
  | [] => some []
  | x :: xs => (sqF xs).bind fun r => if (canOf (pairV (val x) (val r) + 1)).length ≤ 40 then some (canOf (pairV (val x) (val r) + 1)) else none
def optF : Option (List Int) → List Int × Int
  | some z => (z, 0)
  | none => ([], 5)
noncomputable def tnR (ss : List (List Int)) : List Int × Int := if allN ss = false then ([], 1) else if ¬ (1 ≤ ss.length ∧ ss.length ≤ 8) then ([], 2) else optF (tpF ss)
noncomputable def sqR (ss : List (List Int)) : List Int × Int := if allN ss = false then ([], 1) else if ¬ ss.length ≤ 8 then ([], 2) else optF (sqF ss)
theorem tpF_cons {x : List Int} {xs : List (List Int)} (h : xs ≠ []) : tpF (x :: xs) = (tpF xs).bind fun r => if (canOf (pairV (val x) (val r))).length ≤ 40 then some (canOf (pairV (val x) (val r))) else none := by
  match xs, h with
  | y :: ys, _ => rfl
theorem allN_cons {x : List Int} {xs : List (List Int)} (h : allN (x :: xs) = true) : natB x = true ∧ allN xs = true := by simpa [allN] using h
theorem allN_at {zss : List (List Int)} (h : allN zss = true) {i : Nat} (hi : i < zss.length) : natB (zss.getD i []) = true := by
  rw [allN, List.all_eq_true] at h
  have := h _ (List.getElem_mem hi)
  rwa [List.getD_eq_getElem?_getD, List.getElem?_eq_getElem hi]
theorem pair_nat {x r : List Int} (hx : natB x = true) (hr : natB r = true) (h : (canOf (pairV (val x) (val r))).length ≤ 40) : natB (canOf (pairV (val x) (val r))) = true := by
  obtain ⟨c1, l1⟩ := natB_can hx
  obtain ⟨c2, l2⟩ := natB_can hr
  exact can_natB (nn_pair (nn_of c1 l1) (nn_of c2 l2) (by omega)).can.1 h
theorem nn_pair1 {x r : List Int} (hx : natB x = true) (hr : natB r = true) : Nn 85 (pairV (val x) (val r) + 1) := by
  obtain ⟨c1, l1⟩ := natB_can hx
  obtain ⟨c2, l2⟩ := natB_can hr
  exact (nn_pair (nn_of c1 l1) (nn_of c2 l2) (by omega)).add ((nn_small (a := 1) (by omega) (by omega)).up (by omega))
theorem tpF_nat : ∀ (ss : List (List Int)) (r : List Int), allN ss = true → tpF ss = some r → natB r = true := by
  intro ss
  induction ss with
  | nil => intro r _ h; cases h
  | cons x xs ih =>
    intro r ha h
    obtain ⟨h1, h2⟩ := allN_cons ha
    cases xs with
    | nil => cases h; exact h1
    | cons y ys =>
      rw [tpF_cons (by simp)] at h
      cases ht : tpF (y :: ys) with
      | none => rw [ht] at h; cases h
      | some q =>
        rw [ht] at h
        simp only [Option.bind_some] at h
        split at h
        · rename_i hl
          cases h
          exact pair_nat h1 (ih q h2 ht) hl
        · cases h
theorem sqF_nat : ∀ (ss : List (List Int)) (r : List Int), allN ss = true → sqF ss = some r → natB r = true := by
  intro ss
  induction ss with
  | nil => intro r _ h; cases h; exact can_natB can_nil (by simp)
  | cons x xs ih =>
    intro r ha h
    obtain ⟨h1, h2⟩ := allN_cons ha
    rw [sqF] at h
    cases ht : sqF xs with
    | none => rw [ht] at h; cases h
    | some q =>
      rw [ht] at h
      simp only [Option.bind_some] at h
      split at h
      · rename_i hl
        cases h
        exact can_natB (nn_pair1 h1 (ih q h2 ht)).can.1 hl
      · cases h
theorem tpF_up : ∀ (ss : List (List Int)) (j : Nat), j < ss.length → tpF (ss.drop j) = none → tpF ss = none := by
  intro ss
  induction ss with
  | nil => intro j hj; simp at hj
  | cons x xs ih =>
    intro j hj h
    cases j with
    | zero => exact h
    | succ j =>
      have hne : xs ≠ [] := by intro e; subst e; simp at hj
      rw [tpF_cons hne, ih j (by simpa using hj) h]; rfl
theorem sqF_up : ∀ (ss : List (List Int)) (j : Nat), sqF (ss.drop j) = none → sqF ss = none := by
  intro ss
  induction ss with
  | nil => intro j h; simpa using h
  | cons x xs ih =>
    intro j h
    cases j with
    | zero => exact h
    | succ j => rw [sqF, ih j h]; rfl
theorem drop_one (ss : List (List Int)) (k : Nat) (h : k < ss.length) : ss.drop k = ss.getD k [] :: ss.drop (k + 1) := by
  rw [List.drop_eq_getElem_cons h, List.getD_eq_getElem?_getD, List.getElem?_eq_getElem h]; rfl
theorem rd_can {w : World} {v : Value} {x : List Int} (h : Rd w v x) (hx : natB x = true) : Rd w v (canOf (val x)) := by rw [canOf_val (natB_can hx).1]; exact h
theorem specNats (v : Value) (zss : List (List Int)) (w : World) (h : RdL w v zss) :
    Calls Try.prog 28 #[v] w fun e w' => e = .returned (.bool (allN zss)) ∧ w = w' := by
  have hl := h.len
  obtain ⟨_, a, c, rfl, hcap, hr⟩ := h
  go_enter Try.func28, Try.ntmps28
  go_wp2
  go_loop [3] (fun s => ∃ k : Nat, k ≤ zss.length ∧ s = .int .i64 k ∧ ∀ i, i < k → natB (zss.getD i []) = true) (fun s => zss.length - (intOf s).toNat)
  case atStart => exact ⟨0, Nat.zero_le _, rfl, fun i hi => by omega⟩
  case round =>
    obtain ⟨k, hk, rfl, hall⟩ := hrel
    have HA := Lib.hid hall
    clear hall
    by_cases hlt : k < zss.length
    · obtain ⟨b, o, rfl, hb, hcell⟩ := hr (by intro h0; rw [h0] at hlt; simp at hlt)
      obtain ⟨x, hc, hx⟩ := hcell k hlt
      obtain ⟨zs, hzs⟩ : ∃ z, z = zss.getD k [] := ⟨_, rfl⟩
      rw [← hzs] at hx
      have HZ := Lib.hid hzs
      have HX := Lib.hid hx
      obtain ⟨_, _, ax, cx, rfl, _, _⟩ := hx
      have i0 : (0 : Int) ≤ (k : Int) := by omega
      have i1 : (k : Int) < (zss.length : Int) := by omega
      clear hcell hr hzs
      cases hw : natB zs with
      | true =>
        have HW := Lib.hid hw
        have HN : Hid (∀ i, i < k + 1 → natB (zss.getD i []) = true) := Lib.hid (fun i hi => by
          by_cases he : i = k
          · subst he; rw [← HZ.out]; exact HW.out
          · exact HA.out i (by omega))
        clear hw
        go_wp2_with fail
        refine (specNat _ zs _ HX.out).mono ?_
        rintro e w2 ⟨rfl, rfl⟩
        rw [HW.out]
        go_wp2
        go_round
        case rel => exact ⟨k + 1, by omega, by go_num, HN.out⟩
        case measure => simp [intOf]; omega
      | false =>
        have HW := Lib.hid hw
        have HF := Lib.hid (allN_false hlt (by rw [← HZ.out]; exact hw))
        clear hw
        go_wp2_with fail
        refine (specNat _ zs _ HX.out).mono ?_
        rintro e w2 ⟨rfl, rfl⟩
        rw [HW.out]
        go_wp2
        go_ret
        exact ⟨by rw [HF.out] <;> rfl, rfl⟩
    · obtain rfl : k = zss.length := by omega
      have HF := Lib.hid (allN_true (zss := zss) (fun i hi => HA.out i hi))
      have hnlt : ¬ ((zss.length : Int) < (zss.length : Int)) := by omega
      go_wp2
      go_ret
      exact ⟨by rw [HF.out] <;> rfl, rfl⟩
set_option maxRecDepth 100000 in
set_option maxHeartbeats 4000000 in
theorem specTup (v : Value) (ss : List (List Int)) (w : World) (h : RdL w v ss) :
    Calls Try.prog 11 #[v] w fun e w' => ∃ r, e = .returned (.tuple #[r, .int .i64 (tnR ss).2]) ∧ Ow w' w.heap.size w'.heap.size r (tnR ss).1 ∧ Below w.heap.size w w' := by
  have HV := Lib.hid h
  have hl := h.len
  obtain ⟨_, a, c, rfl, hcap, hr⟩ := h
  have HR0 := Lib.hid hr
  rcases eqOr (allN ss) with hn | hn
  · have HN := Lib.hid hn
    have e0 : Hid (tnR ss = ([], 1)) := Lib.hid (by rw [tnR, if_pos hn])
    clear hn hr
    go_enter Try.func11, Try.ntmps11
    go_wp2_with fail
    refine (specNats _ ss _ HV.out).mono ?_
    rintro e w' ⟨rfl, hw'⟩
    subst hw'
    rw [HN.out]
    go_wp2
    go_ret2
    exact ⟨_, by rw [e0.out] <;> rfl, by rw [e0.out]; exact Ow.empty w, Below.refl _ _⟩
  have HN := Lib.hid hn
  have hn1 : ¬ allN ss = false := by rw [hn]; simp
  by_cases h8 : 1 ≤ ss.length ∧ ss.length ≤ 8
  rotate_left
  · have e0 : Hid (tnR ss = ([], 2)) := Lib.hid (by rw [tnR, if_neg hn1, if_pos h8])
    have HI : Hid (¬ (1 ≤ ss.length ∧ ss.length ≤ 8)) := Lib.hid h8
    clear hn hn1 h8 hr
    go_enter Try.func11, Try.ntmps11
    go_wp2_with fail
    refine (specNats _ ss _ HV.out).mono ?_
    rintro e w' ⟨rfl, hw'⟩
    subst hw'
    rw [HN.out]
    go_wp2_with fail
    refine (specInB (ss.length : Int) 1 8 false _ ⟨fun q => by (cases q), fun q => absurd (by omega) HI.out⟩).mono ?_
    rintro e w' ⟨rfl, hw'⟩
    have hw2 := hw'.symm
    clear hw'
    subst hw2
    go_wp2
    go_ret2
    exact ⟨_, by rw [e0.out] <;> rfl, by rw [e0.out]; exact Ow.empty _, Below.refl _ _⟩
  have HRES : Hid (tnR ss = optF (tpF ss)) := Lib.hid (by rw [tnR, if_neg hn1, if_neg (by omega)])
  obtain ⟨b, o, rfl, hb, hcell⟩ := hr (by intro h0; rw [h0] at h8; simp at h8)
  obtain ⟨n, hnl⟩ : ∃ n, ss.length = n + 1 := ⟨ss.length - 1, by omega⟩
  have HCL := Lib.hid hcell
  have HBB := Lib.hid hb
  obtain ⟨xv, hc, hx⟩ := hcell n (by omega)
  have HX := Lib.hid hx
  obtain ⟨_, _, ax, cx, hxv, _, _⟩ := hx
  rw [hxv] at hc HX
  have HNL := Lib.hid hnl
  have e1 : IntKind.i64.wrap ((ss.length : Int) - 1) = (n : Int) := by rw [IntKind.wrap_i64]; omega
  have e2 : IntKind.i64.wrap ((ss.length : Int) - 2) = (n : Int) - 1 := by rw [IntKind.wrap_i64]; omega
  have i1 : (0 : Int) ≤ (n : Int) := by omega
  have i2 : (n : Int) < (ss.length : Int) := by omega
  have i8 : Hid (1 ≤ (ss.length : Int) ∧ (ss.length : Int) ≤ 8) := Lib.hid (by omega)
  have HST : Hid (tpF (ss.drop n) = some (ss.getD n [])) := Lib.hid (by rw [drop_one ss n (by omega), List.drop_of_length_le (by omega)]; rfl)
  clear hn hn1 hr hcell hxv h8 hnl
  go_enter Try.func11, Try.ntmps11
  go_wp2_with fail
  refine (specNats _ ss _ HV.out).mono ?_
  rintro e w' ⟨rfl, hw'⟩
  subst hw'
  rw [HN.out]
  go_wp2_with fail
  refine (specInB (ss.length : Int) 1 8 true _ ⟨fun _ => i8.out, fun _ => rfl⟩).mono ?_
  rintro e w' ⟨rfl, hw'⟩
  have hw2 := hw'.symm
  clear hw'
  subst hw2
  go_wp2_with fail
  refine (specOwn _ (ss.getD n []) _ HX.out).mono ?_
  rintro e w1 ⟨q0, rfl, ho1, hb1⟩
  have HO1 := Lib.hid ho1
  have HB1 := Lib.hid hb1
  clear ho1 hb1 hc
  go_wp2
  go_loopw [4, 5] (fun o i wr => ∃ (k : Nat) (z : List Int) (ov : Value), o = ov ∧ i = .int .i64 ((k : Int) - 1) ∧ k < ss.length ∧ tpF (ss.drop k) = some z ∧ Ow wr w.heap.size wr.heap.size ov z ∧ Below w.heap.size w wr) (fun _ i _ => (intOf i + 1).toNat)
  case atStart => exact ⟨n, _, _, rfl, rfl, by have := HNL.out; omega, HST.out, HO1.out, HB1.out⟩
  case round =>
    obtain ⟨k, z, ov, hov, rfl, hk, htp, hown, hbel⟩ := hrel
    obtain rfl := hov.symm
    have HO := Lib.hid hown
    have HB := Lib.hid hbel
    have HTP := Lib.hid htp
    have HZN := Lib.hid (tpF_nat (ss.drop k) z (by rw [allN, List.all_eq_true]; intro x hx; have h1 := HN.out; rw [allN, List.all_eq_true] at h1; exact h1 x (List.mem_of_mem_drop hx)) htp)
    by_cases h0 : 0 < k
    · obtain ⟨j, rfl⟩ : ∃ j, k = j + 1 := ⟨k - 1, by omega⟩
      obtain ⟨xv, hc, hx⟩ := HCL.out j (by omega)
      replace hc := (hbel.cell (p := ⟨b, o + j, none⟩) HBB.out).trans hc
      have hxn := allN_at HN.out (i := j) (by omega)
      have hdr := drop_one ss j (by omega)
      obtain ⟨x, hxe⟩ : ∃ x, x = ss.getD j [] := ⟨_, rfl⟩
      rw [← hxe] at hx hxn hdr
      have HX := Lib.hid (rd_can (hx.below hbel (Nat.le_refl _)) hxn)
      have HZ := Lib.hid (rd_can hown.rd HZN.out)
      obtain ⟨_, _, ax, cx, rfl, _, _⟩ := hx
      have hstep : tpF (ss.drop j) = if (canOf (pairV (val x) (val z))).length ≤ 40 then some (canOf (pairV (val x) (val z))) else none := by
        rw [hdr, tpF_cons (by intro e; have h1 := congrArg List.length e; rw [List.length_drop, List.length_nil] at h1; omega), htp]; rfl
      have HSTP := Lib.hid hstep
      have hnx := nn_of (natB_can hxn).1 (natB_can hxn).2
      have hnz := nn_of (natB_can HZN.out).1 (natB_can HZN.out).2
      have HNX := Lib.hid hnx
      have HNZ := Lib.hid hnz
      have ek : (((j + 1 : Nat) : Int) - 1) = (j : Int) := by omega
      have j0 : (0 : Int) ≤ (j : Int) := by omega
      have j1 : (j : Int) < (ss.length : Int) := by omega
      have e3 : IntKind.i64.wrap ((j : Int) - 1) = (j : Int) - 1 := by rw [IntKind.wrap_i64]; omega
      rw [ek]
      clear hown htp hxe hdr hstep hnx hnz hxn hbel ek
      go_wp2_with fail
      refine (sPair _ _ (val x) (val z) 40 _ HX.out HZ.out HNX.out HNZ.out (by omega) (by omega)).mono ?_
      rintro e w5 ⟨r5, rfl, ho5, hb5⟩
      obtain ⟨L, hL⟩ : ∃ L, L = canOf (pairV (val x) (val z)) := ⟨_, rfl⟩
      rw [← hL] at HSTP ho5
      have HO5 := Lib.hid (ho5.mono HB.out.size (Nat.le_refl _) (Nat.le_refl _))
      have HB5 := Lib.hid (HB.out.trans (hb5.mono HB.out.size))
      obtain ⟨ga, gc, rfl⟩ := ho5.shape
      clear ho5 hb5 hL hc
      by_cases h40 : L.length ≤ 40
      · have HS2 : Hid (tpF (ss.drop j) = some L) := Lib.hid (by rw [HSTP.out, if_pos h40])
        have k1 : ¬ (40 : Int) < (L.length : Int) := by omega
        go_wp2
        go_roundw
        case rel => exact ⟨j, L, _, rfl, by first | rfl | go_num, by omega, HS2.out, HO5.out, HB5.out⟩
        case measure => simp [intOf] <;> omega
      · have e0 : Hid (tnR ss = ([], 5)) := Lib.hid (by rw [HRES.out, tpF_up ss j (by omega) (by rw [HSTP.out, if_neg h40])]; rfl)
        have k1 : (40 : Int) < (L.length : Int) := by omega
        go_wp2
        go_ret2
        exact ⟨_, by rw [e0.out] <;> rfl, by rw [e0.out]; exact Ow.emptyUp HB5.out.size, HB5.out⟩
    · obtain rfl : k = 0 := by omega
      have e0 : Hid (tnR ss = (z, 0)) := Lib.hid (by rw [HRES.out]; have := HTP.out; rw [List.drop_zero] at this; rw [this]; rfl)
      clear hown hbel htp h0
      go_wp2
      go_ret2
      exact ⟨_, by rw [e0.out] <;> rfl, by rw [e0.out]; exact HO.out, HB.out⟩
set_option maxRecDepth 100000 in
set_option maxHeartbeats 4000000 in
theorem specSeq (v : Value) (ss : List (List Int)) (w : World) (h : RdL w v ss) :
    Calls Try.prog 14 #[v] w fun e w' => ∃ r, e = .returned (.tuple #[r, .int .i64 (sqR ss).2]) ∧ Ow w' w.heap.size w'.heap.size r (sqR ss).1 ∧ Below w.heap.size w w' := by
  have HV := Lib.hid h
  have hl := h.len
  obtain ⟨_, a, c, rfl, hcap, hr⟩ := h
  have HR0 := Lib.hid hr
  rcases eqOr (allN ss) with hn | hn
  · have HN := Lib.hid hn
    have e0 : Hid (sqR ss = ([], 1)) := Lib.hid (by rw [sqR, if_pos hn])
    clear hn hr
    go_enter Try.func14, Try.ntmps14
    go_wp2_with fail
    refine (specNats _ ss _ HV.out).mono ?_
    rintro e w' ⟨rfl, hw'⟩
    subst hw'
    rw [HN.out]
    go_wp2
    go_ret2
    exact ⟨_, by rw [e0.out] <;> rfl, by rw [e0.out]; exact Ow.empty w, Below.refl _ _⟩
  have HN := Lib.hid hn
  have hn1 : ¬ allN ss = false := by rw [hn]; simp
  by_cases h8 : ss.length ≤ 8
  rotate_left
  · have e0 : Hid (sqR ss = ([], 2)) := Lib.hid (by rw [sqR, if_neg hn1, if_pos h8])
    have k1 : (8 : Int) < (ss.length : Int) := by omega
    clear hn hn1 h8 hr
    go_enter Try.func14, Try.ntmps14
    go_wp2_with fail
    refine (specNats _ ss _ HV.out).mono ?_
    rintro e w' ⟨rfl, hw'⟩
    subst hw'
    rw [HN.out]
    go_wp2
    go_ret2
    exact ⟨_, by rw [e0.out] <;> rfl, by rw [e0.out]; exact Ow.empty _, Below.refl _ _⟩
  have HRES : Hid (sqR ss = optF (sqF ss)) := Lib.hid (by rw [sqR, if_neg hn1, if_neg (by omega)])
  have k1 : ¬ (8 : Int) < (ss.length : Int) := by omega
  have e1 : IntKind.i64.wrap ((ss.length : Int) - 1) = (ss.length : Int) - 1 := by rw [IntKind.wrap_i64]; omega
  have HB0 : Hid (Below w.heap.size w (w.alloc (Obj.cells #[] 2))) := Lib.hid ((Below.refl _ _).alloc (Nat.le_refl _) _)
  clear hn hn1 hr
  go_enter Try.func14, Try.ntmps14
  go_wp2_with fail
  refine (specNats _ ss _ HV.out).mono ?_
  rintro e w' ⟨rfl, hw'⟩
  subst hw'
  rw [HN.out]
  go_wp2
  go_loopw [4, 5] (fun o i wr => ∃ (k : Nat) (z : List Int) (ov : Value), o = ov ∧ i = .int .i64 ((k : Int) - 1) ∧ k ≤ ss.length ∧ sqF (ss.drop k) = some z ∧ Ow wr w.heap.size wr.heap.size ov z ∧ Below w.heap.size w wr) (fun _ i _ => (intOf i + 1).toNat)
  case atStart => exact ⟨ss.length, _, _, rfl, rfl, Nat.le_refl _, by rw [List.drop_length]; rfl, Ow.made w, HB0.out⟩
  case round =>
    obtain ⟨k, z, ov, hov, rfl, hk, htp, hown, hbel⟩ := hrel
    obtain rfl := hov.symm
    have HO := Lib.hid hown
    have HB := Lib.hid hbel
    have HTP := Lib.hid htp
    have HZN := Lib.hid (sqF_nat (ss.drop k) z (by rw [allN, List.all_eq_true]; intro x hx; have h1 := HN.out; rw [allN, List.all_eq_true] at h1; exact h1 x (List.mem_of_mem_drop hx)) htp)
    by_cases h0 : 0 < k
    · obtain ⟨j, rfl⟩ : ∃ j, k = j + 1 := ⟨k - 1, by omega⟩
      obtain ⟨b, o, rfl, hb, hcell⟩ := HR0.out (by intro q; rw [q] at hk; simp at hk)
      obtain ⟨xv, hc, hx⟩ := hcell j (by omega)
      replace hc := (hbel.cell (p := ⟨b, o + j, none⟩) hb).trans hc
      have hxn := allN_at HN.out (i := j) (by omega)
      have hdr := drop_one ss j (by omega)
      obtain ⟨x, hxe⟩ : ∃ x, x = ss.getD j [] := ⟨_, rfl⟩
      rw [← hxe] at hx hxn hdr
      have HX := Lib.hid (rd_can (hx.below hbel (Nat.le_refl _)) hxn)
      have HZ := Lib.hid (rd_can hown.rd HZN.out)
      obtain ⟨_, _, ax, cx, rfl, _, _⟩ := hx
      have hstep : sqF (ss.drop j) = if (canOf (pairV (val x) (val z) + 1)).length ≤ 40 then some (canOf (pairV (val x) (val z) + 1)) else none := by
        rw [hdr, sqF, htp]; rfl
      have HSTP := Lib.hid hstep
      have hnx := nn_of (natB_can hxn).1 (natB_can hxn).2
      have hnz := nn_of (natB_can HZN.out).1 (natB_can HZN.out).2
      have HNX := Lib.hid hnx
      have HNZ := Lib.hid hnz
      have HNP := Lib.hid (nn_pair hnx hnz (by omega))
      have HN1 := Lib.hid ((nn_small (a := 1) (by omega) (by omega)).up (show 1 ≤ 84 by omega))
      have ek : (((j + 1 : Nat) : Int) - 1) = (j : Int) := by omega
      have j0 : (0 : Int) ≤ (j : Int) := by omega
      have j1 : (j : Int) < (ss.length : Int) := by omega
      have e3 : IntKind.i64.wrap ((j : Int) - 1) = (j : Int) - 1 := by rw [IntKind.wrap_i64]; omega
      rw [ek]
      clear hown htp hxe hdr hstep hnx hnz hxn hbel ek hcell
      go_wp2_with fail
      refine (sPair _ _ (val x) (val z) 40 _ HX.out HZ.out HNX.out HNZ.out (by omega) (by omega)).mono ?_
      rintro e w5 ⟨r5, rfl, ho5, hb5⟩
      have hone := Rd.one w5 1 (by omega)
      rw [← one_can] at hone
      have hbo : Below w5.heap.size w5 (w5.alloc (.cells #[.int .i64 1] 2)) := (Below.refl _ _).alloc (Nat.le_refl _) _
      have HONE := Lib.hid hone
      have X1a := Lib.hid ((ho5.below hbo (Nat.le_refl _)).up)
      have HB5 := Lib.hid ((HB.out.trans (hb5.mono HB.out.size)).trans (hbo.mono (HB.out.trans (hb5.mono HB.out.size)).size))
      clear ho5 hb5 hone hbo hc
      go_wp2_with fail
      refine (sAdd _ _ (pairV (val x) (val z)) 1 84 _ X1a.out.rd HONE.out HNP.out HN1.out (by omega)).mono ?_
      rintro e w6 ⟨r6, rfl, ho6, hb6⟩
      obtain ⟨L, hL⟩ : ∃ L, L = canOf (pairV (val x) (val z) + 1) := ⟨_, rfl⟩
      rw [← hL] at HSTP ho6
      have HO6 := Lib.hid (ho6.mono HB5.out.size (Nat.le_refl _) (Nat.le_refl _))
      have HB6 := Lib.hid (HB5.out.trans (hb6.mono HB5.out.size))
      obtain ⟨ga, gc, rfl⟩ := ho6.shape
      clear ho6 hb6 hL
      by_cases h40 : L.length ≤ 40
      · have HS2 : Hid (sqF (ss.drop j) = some L) := Lib.hid (by rw [HSTP.out, if_pos h40])
        have k1 : ¬ (40 : Int) < (L.length : Int) := by omega
        go_wp2
        go_roundw
        case rel => exact ⟨j, L, _, rfl, by first | rfl | go_num, by omega, HS2.out, HO6.out, HB6.out⟩
        case measure => simp [intOf] <;> omega
      · have e0 : Hid (sqR ss = ([], 5)) := Lib.hid (by rw [HRES.out, sqF_up ss j (by rw [HSTP.out, if_neg h40])]; rfl)
        have k1 : (40 : Int) < (L.length : Int) := by omega
        go_wp2
        go_ret2
        exact ⟨_, by rw [e0.out] <;> rfl, by rw [e0.out]; exact Ow.emptyUp HB6.out.size, HB6.out⟩
    · obtain rfl : k = 0 := by omega
      have e0 : Hid (sqR ss = (z, 0)) := Lib.hid (by rw [HRES.out]; have := HTP.out; rw [List.drop_zero] at this; rw [this]; rfl)
      clear hown hbel htp h0
      go_wp2
      go_ret2
      exact ⟨_, by rw [e0.out] <;> rfl, by rw [e0.out]; exact HO.out, HB.out⟩
end
section
open Go.RowKit
set_option linter.unusedVariables false
set_option linter.unusedSimpArgs false
theorem rdl_tail {w : World} {a : Option Addr} {c : Nat} {y : List Int} {ys : List (List Int)} (h : RdL w (.slice a (ys.length + 1) c) (y :: ys)) :
    RdL w (.slice (if c = 1 then a else Option.map (fun x => x.add 1) a) ys.length (c - 1)) ys := by
  obtain ⟨hl, a2, c2, he, hc, hr⟩ := h
  simp only [List.length_cons, Value.slice.injEq] at he hl hc
  obtain ⟨rfl, _, rfl⟩ := he
  obtain ⟨b, o, rfl, hb, hcell⟩ := hr (by simp)
  refine ⟨by omega, _, c - 1, rfl, by omega, fun hne => ?_⟩
  have h1 : 0 < ys.length := List.length_pos_iff.2 hne
  have hc1 : ¬ c = 1 := by omega
  rw [if_neg hc1]
  refine ⟨b, o + 1, by simp only [Option.map_some, Addr.add_lit], hb, fun i hi => ?_⟩
  obtain ⟨x, k1, k2⟩ := hcell (i + 1) (by simp; omega)
  refine ⟨x, ?_, by simpa using k2⟩
  rw [show o + 1 + i = o + (i + 1) by omega]; exact k1
theorem rdl_head {w : World} {a : Option Addr} {c : Nat} {y : List Int} {ys : List (List Int)} (h : RdL w (.slice a (ys.length + 1) c) (y :: ys)) :
    ∃ b o ax cx, a = some ⟨b, o, none⟩ ∧ b < w.heap.size ∧ w.cell? ⟨b, o, none⟩ = some (.slice ax y.length cx) ∧ Rd w (.slice ax y.length cx) y ∧ ys.length + 1 ≤ c := by
  obtain ⟨hl, a2, c2, he, hc, hr⟩ := h
  simp only [List.length_cons, Value.slice.injEq] at he hc
  obtain ⟨rfl, _, rfl⟩ := he
  obtain ⟨b, o, rfl, hb, hcell⟩ := hr (by simp)
  obtain ⟨x, k1, k2⟩ := hcell 0 (by simp)
  have k3 : Rd w x y := by simpa using k2
  obtain ⟨h1, h2, ax, cx, rfl, h3, h4⟩ := k3
  exact ⟨b, o, ax, cx, rfl, hb, by simpa using k1, ⟨h1, h2, ax, cx, rfl, h3, h4⟩, by omega⟩
noncomputable def tpO (x : List Int) (ys : List (List Int)) : List Int × Int := optF (tpF (x :: ys))
theorem tpO_cases (x : List Int) (ys : List (List Int)) (h : allN (x :: ys) = true) : (∃ z, tpF (x :: ys) = some z ∧ natB z = true ∧ tpO x ys = (z, 0)) ∨ (tpF (x :: ys) = none ∧ tpO x ys = ([], 5)) := by
  cases ht : tpF (x :: ys) with
  | none => exact .inr ⟨rfl, by rw [tpO, ht]; rfl⟩
  | some z => exact .inl ⟨z, rfl, tpF_nat _ _ h ht, by rw [tpO, ht]; rfl⟩
set_option maxRecDepth 100000 in
set_option maxHeartbeats 8000000 in
theorem implTpl (ys : List (List Int)) : ∀ (x : List Int) (u v : Value) (w : World), Rd w u x → RdL w v ys → allN (x :: ys) = true →
    Calls Try.prog 27 #[u, v] w fun e w' => ∃ r, e = .returned (.tuple #[r, .int .i64 (tpO x ys).2]) ∧ Ow w' w.heap.size w'.heap.size r (tpO x ys).1 ∧ Below w.heap.size w w' := by
  induction ys with
  | nil =>
    intro x u v w hu hv ha
    have HU := Lib.hid hu
    obtain ⟨_, a, c, rfl, _, _⟩ := hv
    have E : Hid (tpO x [] = (x, 0)) := Lib.hid rfl
    clear hu ha
    go_enter Try.func27, Try.ntmps27
    go_wp2_with fail
    refine (libClone _ x _ HU.out).mono ?_
    rintro e w1 ⟨r, rfl, ho, hb⟩
    have HO := Lib.hid ho
    have HB := Lib.hid hb
    clear ho hb
    go_wp2
    go_ret2
    exact ⟨_, by rw [E.out] <;> rfl, by rw [E.out]; exact HO.out, HB.out⟩
  | cons y ys ih =>
    intro x u v w hu hv ha
    obtain ⟨hx, hys⟩ := allN_cons ha
    have HU := Lib.hid (rd_can hu hx)
    obtain ⟨au, cu, rfl⟩ : ∃ a c, u = .slice a x.length c := by obtain ⟨_, _, a, c, e, _⟩ := hu; exact ⟨a, c, e⟩
    obtain ⟨a, c, rfl⟩ : ∃ a c, v = .slice a (ys.length + 1) c := by obtain ⟨_, a, c, e, _⟩ := hv; exact ⟨a, c, e⟩
    obtain ⟨b, o, ax, cx, rfl, hb, hc, hy, hcap⟩ := rdl_head hv
    have HTL0 := rdl_tail hv
    have HY := Lib.hid hy
    have HAY := Lib.hid hys
    have HNX := Lib.hid (nn_of (natB_can hx).1 (natB_can hx).2)
    have HSTP : Hid (∀ z, tpF (y :: ys) = some z → tpO x (y :: ys) = (fitL (canOf (pairV (val x) (val z))), fitC (canOf (pairV (val x) (val z))))) := Lib.hid (fun z hz => by
      rw [tpO, tpF_cons (by simp), hz]
      simp only [Option.bind_some]
      by_cases h40 : (canOf (pairV (val x) (val z))).length ≤ 40
      · rw [if_pos h40]; simp [optF, fitL, fitC, h40]
      · rw [if_neg h40]; simp [optF, fitL, fitC, h40])
    have HNON : Hid (tpF (y :: ys) = none → tpO x (y :: ys) = ([], 5)) := Lib.hid (fun hz => by rw [tpO, tpF_cons (by simp), hz]; rfl)
    have hzl : ((ys.length : Int) + 1 == 0) = false := by rw [beq_eq_false_iff_ne]; omega
    have hzl2 : ¬ ((ys.length : Int) + 1 = 0) := by omega
    have j1 : (0 : Int) < (ys.length : Int) + 1 := by omega
    have j2 : 1 ≤ ys.length + 1 := by omega
    have j3 : 1 ≤ c := by omega
    have j4 : (1 : Int) ≤ (ys.length : Int) + 1 := by omega
    have j5 : (1 : Int) ≤ (c : Int) := by omega
    obtain ⟨ad, had⟩ : ∃ ad, ad = (if c = 1 then some (⟨b, o, none⟩ : Addr) else some (⟨b, o + 1, none⟩ : Addr)) := ⟨_, rfl⟩
    simp only [Option.map_some, Addr.add_lit] at HTL0
    rw [← had] at HTL0
    have HTL := Lib.hid HTL0
    clear HTL0
    have HAD := Lib.hid had
    have HCALL : Hid (∀ W, Below w.heap.size w W → Calls Try.prog 27 #[.slice ax y.length cx, .slice ad ys.length (c - 1)] W fun e w' => ∃ r, e = .returned (.tuple #[r, .int .i64 (tpO y ys).2]) ∧ Ow w' W.heap.size w'.heap.size r (tpO y ys).1 ∧ Below W.heap.size W w') := Lib.hid (fun W hW => ih y _ _ W (HY.out.below hW (Nat.le_refl _)) (HTL.out.below hW (Nat.le_refl _)) HAY.out)
    have HS : Hid (∀ W, Below w.heap.size w W → W.cell? ⟨b, o, none⟩ = some (.slice ax y.length cx)) := Lib.hid (fun W hW => (hW.cell (p := ⟨b, o, none⟩) hb).trans hc)
    have HD : Hid (Below w.heap.size w w.drew) := Lib.hid (Below.refl _ _).drew
    rcases tpO_cases y ys hys with ⟨z, hz1, hz2, hz3⟩ | ⟨hz1, hz3⟩
    · have E := Lib.hid (HSTP.out z hz1)
      have HNZ := Lib.hid (nn_of (natB_can hz2).1 (natB_can hz2).2)
      have HZN := Lib.hid hz2
      rw [hz3] at HCALL
      clear ih hu hv ha hx hys hy had hz1 hz2 hz3 HSTP HNON
      go_enter Try.func27, Try.ntmps27
      go_wp2_with fail
      go_region_held3 (fun W => W.cell? ⟨b, o, none⟩ = some (.slice ax y.length cx))
        (exact HS.out _ HD.out)
        (first | (go_at_call 27; (try rw [← HAD.out]); with_reducible refine (HCALL.out _ HD.out).mono ?_; rintro e3 w3 ⟨r3, rfl, ho3, hb3⟩; have HO3 := Lib.hid (rd_can ho3.rd HZN.out); replace HD := Lib.hid (HD.out.trans (hb3.mono HD.out.size)); clear ho3 hb3))
      all_goals
        go_wp2_with fail
        refine (iPair _ _ (val x) (val z) 40 _ (HU.out.below HD.out (Nat.le_refl _)) HO3.out HNX.out HNZ.out (by omega) (by omega)).mono ?_
        rintro e5 w5 ⟨r5, rfl, ho5, hb5⟩
        have HB5 := Lib.hid (HD.out.trans (hb5.mono HD.out.size))
        have HO5 := Lib.hid (ho5.mono HD.out.size (Nat.le_refl _) (Nat.le_refl _))
        clear ho5 hb5
        go_wp2_with fail
        refine (implFit _ _ _ _ _ HO5.out).mono ?_
        rintro e6 w6 ⟨r6, rfl, ho6, rfl⟩
        have HO6 := Lib.hid ho6
        clear ho6
        go_wp2
        go_ret2
        exact ⟨_, by rw [E.out] <;> rfl, by rw [E.out]; exact HO6.out, HB5.out⟩
    · have E := Lib.hid (HNON.out hz1)
      rw [hz3] at HCALL
      clear ih hu hv ha hx hys hy had hz1 hz3 HSTP HNON
      go_enter Try.func27, Try.ntmps27
      go_wp2_with fail
      go_region_held3 (fun W => W.cell? ⟨b, o, none⟩ = some (.slice ax y.length cx))
        (exact HS.out _ HD.out)
        (first | (go_at_call 27; (try rw [← HAD.out]); with_reducible refine (HCALL.out _ HD.out).mono ?_; rintro e3 w3 ⟨r3, rfl, ho3, hb3⟩; replace HD := Lib.hid (HD.out.trans (hb3.mono HD.out.size)); clear ho3 hb3))
      all_goals
        go_wp2
        go_ret2
        exact ⟨_, by rw [E.out] <;> rfl, by rw [E.out]; exact Ow.emptyUp HD.out.size, HD.out⟩
set_option maxRecDepth 100000 in
set_option maxHeartbeats 8000000 in
theorem implTup (v : Value) (ss : List (List Int)) (w : World) (h : RdL w v ss) :
    Calls Try.prog 10 #[v] w fun e w' => ∃ r, e = .returned (.tuple #[r, .int .i64 (tnR ss).2]) ∧ Ow w' w.heap.size w'.heap.size r (tnR ss).1 ∧ Below w.heap.size w w' := by
  have HV := Lib.hid h
  obtain ⟨a, c, rfl⟩ : ∃ a c, v = .slice a ss.length c := by obtain ⟨_, a, c, e, _⟩ := h; exact ⟨a, c, e⟩
  rcases eqOr (allN ss) with hn | hn
  · have HN := Lib.hid hn
    have e0 : Hid (tnR ss = ([], 1)) := Lib.hid (by rw [tnR, if_pos hn])
    clear hn h
    go_enter Try.func10, Try.ntmps10
    go_wp2_with fail
    refine (areNats_any _ ss _ HV.out).mono ?_
    rintro e w1 ⟨rfl, hb1⟩
    rw [HN.out]
    have HB := Lib.hid hb1
    clear hb1
    go_wp2
    go_ret2
    exact ⟨_, by rw [e0.out] <;> rfl, by rw [e0.out]; exact Ow.emptyUp HB.out.size, HB.out⟩
  have HN := Lib.hid hn
  have hn1 : ¬ allN ss = false := by rw [hn]; simp
  by_cases h8 : 1 ≤ ss.length ∧ ss.length ≤ 8
  rotate_left
  · have e0 : Hid (tnR ss = ([], 2)) := Lib.hid (by rw [tnR, if_neg hn1, if_pos h8])
    have d8 : (decide ((1 : Int) ≤ (ss.length : Int)) = false) ∨ ((1 : Int) ≤ (ss.length : Int) ∧ decide ((ss.length : Int) ≤ 8) = false) := by
      by_cases q : 1 ≤ ss.length
      · exact .inr ⟨by omega, decide_eq_false (by omega)⟩
      · exact .inl (decide_eq_false (by omega))
    clear hn hn1 h8 h
    rcases d8 with d8 | ⟨d7, d8⟩
    all_goals
      go_enter Try.func10, Try.ntmps10
      go_wp2_with (first | (go_at_call 21; refine (areNats_any _ ss _ HV.out).mono ?_; rintro e w1 ⟨rfl, hb1⟩; rw [HN.out]; have HB := Lib.hid hb1; clear hb1) | go_in)
      go_ret2
      exact ⟨_, by rw [e0.out] <;> rfl, by rw [e0.out]; exact Ow.emptyUp HB.out.size, HB.out⟩
  have HRES : Hid (tnR ss = optF (tpF ss)) := Lib.hid (by rw [tnR, if_neg hn1, if_neg (by omega)])
  clear hn hn1
  match ss, h8, h, HV, HN, HRES with
  | y :: ys, h8, h, HV, HN, HRES =>
    simp only [List.length_cons] at *
    obtain ⟨b, o, ax, cx, rfl, hb, hc, hy, hcap⟩ := rdl_head h
    have HTL0 := rdl_tail h
    have HY := Lib.hid hy
    have d1 : (1 : Int) ≤ (ys.length : Int) + 1 := by omega
    have d2 : (ys.length : Int) + 1 ≤ 8 := by omega
    have j1 : (0 : Int) < (ys.length : Int) + 1 := by omega
    have j2 : 1 ≤ ys.length + 1 := by omega
    have j3 : 1 ≤ c := by omega
    have j5 : (1 : Int) ≤ (c : Int) := by omega
    obtain ⟨ad, had⟩ : ∃ ad, ad = (if c = 1 then some (⟨b, o, none⟩ : Addr) else some (⟨b, o + 1, none⟩ : Addr)) := ⟨_, rfl⟩
    simp only [Option.map_some, Addr.add_lit] at HTL0
    rw [← had] at HTL0
    have HTL := Lib.hid HTL0
    clear HTL0
    have HAD := Lib.hid had
    have E : Hid (tnR (y :: ys) = tpO y ys) := HRES
    have HCALL : Hid (∀ W, Below w.heap.size w W → Calls Try.prog 27 #[.slice ax y.length cx, .slice ad ys.length (c - 1)] W fun e w' => ∃ r, e = .returned (.tuple #[r, .int .i64 (tpO y ys).2]) ∧ Ow w' W.heap.size w'.heap.size r (tpO y ys).1 ∧ Below W.heap.size W w') := Lib.hid (fun W hW => implTpl ys y _ _ W (HY.out.below hW (Nat.le_refl _)) (HTL.out.below hW (Nat.le_refl _)) HN.out)
    have HCL : Hid (∀ W, Below w.heap.size w W → W.cell? ⟨b, o, none⟩ = some (.slice ax y.length cx)) := Lib.hid (fun W hW => (hW.cell (p := ⟨b, o, none⟩) hb).trans hc)
    clear h hy had h8 hc
    go_enter Try.func10, Try.ntmps10
    go_wp2_with (first | (go_at_call 27; fail) | (go_at_call 21; refine (areNats_any _ (y :: ys) _ HV.out).mono ?_; rintro e w1 ⟨rfl, hb1⟩; rw [HN.out]; have HB := Lib.hid hb1; clear hb1) | (go_at_call 26; go_in))
    have HS : Hid (∀ W, Below w1.heap.size w1 W → W.cell? ⟨b, o, none⟩ = some (.slice ax y.length cx)) := Lib.hid (fun W hW => HCL.out W (HB.out.trans (hW.mono HB.out.size)))
    have HD : Hid (Below w1.heap.size w1 w1.drew) := Lib.hid (Below.refl _ _).drew
    go_region_held3 (fun W => W.cell? ⟨b, o, none⟩ = some (.slice ax y.length cx))
      (exact HS.out _ HD.out)
      (first | (go_at_call 27; (try rw [← HAD.out]); with_reducible refine (HCALL.out _ (HB.out.trans (HD.out.mono HB.out.size))).mono ?_; rintro e3 w3 ⟨r3, rfl, ho3, hb3⟩; have HO3 := Lib.hid (ho3.mono (Nat.le_trans HB.out.size HD.out.size) (Nat.le_refl _) (Nat.le_refl _)); replace HD := Lib.hid (HD.out.trans (hb3.mono HD.out.size)); clear ho3 hb3))
    all_goals
      go_wp2
      go_ret2
      exact ⟨_, by rw [E.out] <;> rfl, by rw [E.out]; exact HO3.out, HB.out.trans (HD.out.mono HB.out.size)⟩
noncomputable def sqO (ys : List (List Int)) : List Int × Int := optF (sqF ys)
theorem sqO_cases (ys : List (List Int)) (h : allN ys = true) : (∃ z, sqF ys = some z ∧ natB z = true ∧ sqO ys = (z, 0)) ∨ (sqF ys = none ∧ sqO ys = ([], 5)) := by
  cases ht : sqF ys with
  | none => exact .inr ⟨rfl, by rw [sqO, ht]; rfl⟩
  | some z => exact .inl ⟨z, rfl, sqF_nat _ _ h ht, by rw [sqO, ht]; rfl⟩
set_option maxRecDepth 100000 in
set_option maxHeartbeats 8000000 in
theorem implSql (ys : List (List Int)) : ∀ (v : Value) (w : World), RdL w v ys → allN ys = true →
    Calls Try.prog 33 #[v] w fun e w' => ∃ r, e = .returned (.tuple #[r, .int .i64 (sqO ys).2]) ∧ Ow w' w.heap.size w'.heap.size r (sqO ys).1 ∧ Below w.heap.size w w' := by
  induction ys with
  | nil =>
    intro v w hv ha
    obtain ⟨_, a, c, rfl, _, _⟩ := hv
    have E : Hid (sqO [] = ([], 0)) := Lib.hid rfl
    clear ha
    go_enter Try.func33, Try.ntmps33
    go_wp2
    go_ret2
    exact ⟨_, by rw [E.out] <;> rfl, by rw [E.out]; exact Ow.empty w, Below.refl _ _⟩
  | cons x ys ih =>
    intro v w hv ha
    obtain ⟨hx, hys⟩ := allN_cons ha
    obtain ⟨a, c, rfl⟩ : ∃ a c, v = .slice a (ys.length + 1) c := by obtain ⟨_, a, c, e, _⟩ := hv; exact ⟨a, c, e⟩
    obtain ⟨b, o, ax, cx, rfl, hb, hc, hy, hcap⟩ := rdl_head hv
    have HTL0 := rdl_tail hv
    have HY := Lib.hid (rd_can hy hx)
    have HAY := Lib.hid hys
    have HNX := Lib.hid (nn_of (natB_can hx).1 (natB_can hx).2)
    have HSTP : Hid (∀ z, sqF ys = some z → sqO (x :: ys) = (fitL (canOf (pairV (val x) (val z) + 1)), fitC (canOf (pairV (val x) (val z) + 1)))) := Lib.hid (fun z hz => by
      rw [sqO, sqF, hz]
      simp only [Option.bind_some]
      by_cases h40 : (canOf (pairV (val x) (val z) + 1)).length ≤ 40
      · rw [if_pos h40]; simp [optF, fitL, fitC, h40]
      · rw [if_neg h40]; simp [optF, fitL, fitC, h40])
    have HNON : Hid (sqF ys = none → sqO (x :: ys) = ([], 5)) := Lib.hid (fun hz => by rw [sqO, sqF, hz]; rfl)
    have hzl : ((ys.length : Int) + 1 == 0) = false := by rw [beq_eq_false_iff_ne]; omega
    have hzl2 : ¬ ((ys.length : Int) + 1 = 0) := by omega
    have j1 : (0 : Int) < (ys.length : Int) + 1 := by omega
    have j2 : 1 ≤ ys.length + 1 := by omega
    have j3 : 1 ≤ c := by omega
    have j4 : (1 : Int) ≤ (ys.length : Int) + 1 := by omega
    have j5 : (1 : Int) ≤ (c : Int) := by omega
    obtain ⟨ad, had⟩ : ∃ ad, ad = (if c = 1 then some (⟨b, o, none⟩ : Addr) else some (⟨b, o + 1, none⟩ : Addr)) := ⟨_, rfl⟩
    simp only [Option.map_some, Addr.add_lit] at HTL0
    rw [← had] at HTL0
    have HTL := Lib.hid HTL0
    clear HTL0
    have HAD := Lib.hid had
    have HCALL : Hid (Calls Try.prog 33 #[.slice ad ys.length (c - 1)] w fun e w' => ∃ r, e = .returned (.tuple #[r, .int .i64 (sqO ys).2]) ∧ Ow w' w.heap.size w'.heap.size r (sqO ys).1 ∧ Below w.heap.size w w') := Lib.hid (ih _ w HTL.out HAY.out)
    have HCL : Hid (∀ W, Below w.heap.size w W → W.cell? ⟨b, o, none⟩ = some (.slice ax x.length cx)) := Lib.hid (fun W hW => (hW.cell (p := ⟨b, o, none⟩) hb).trans hc)
    rcases sqO_cases ys hys with ⟨z, hz1, hz2, hz3⟩ | ⟨hz1, hz3⟩
    · have E := Lib.hid (HSTP.out z hz1)
      have HNZ := Lib.hid (nn_of (natB_can hz2).1 (natB_can hz2).2)
      have HZN := Lib.hid hz2
      have HNP := Lib.hid (nn_pair HNX.out HNZ.out (by omega))
      rw [hz3] at HCALL
      clear ih hv ha hx hys hy had hz1 hz2 hz3 HSTP HNON
      have hcc : (c = 1 ∧ ad = some ⟨b, o, none⟩) ∨ (c ≠ 1 ∧ ad = some ⟨b, o + 1, none⟩) := by
        by_cases hc1 : c = 1
        · exact .inl ⟨hc1, by rw [HAD.out, if_pos hc1]⟩
        · exact .inr ⟨hc1, by rw [HAD.out, if_neg hc1]⟩
      clear HAD HTL
      rcases hcc with ⟨hc1, hA⟩ | ⟨hc1, hA⟩
      · have h0 : c - 1 = 0 := by omega
        have h1 : ys.length = 0 := by omega
        rw [h0, h1] at HCALL
        subst hA hc1
        clear h0 h1
        go_enter Try.func33, Try.ntmps33
        go_wp2_with fail
        with_reducible refine HCALL.out.mono ?_
        rintro e3 w3 ⟨r3, rfl, ho3, hb3⟩
        have HO3 := Lib.hid (rd_can ho3.rd HZN.out)
        have HB3 := Lib.hid hb3
        have hc3 := HCL.out _ HB3.out
        clear ho3 hb3 hc
        go_wp2_with fail
        refine (iPair _ _ (val x) (val z) 40 _ (HY.out.below HB3.out (Nat.le_refl _)) HO3.out HNX.out HNZ.out (by omega) (by omega)).mono ?_
        rintro e5 w5 ⟨r5, rfl, ho5, hb5⟩
        have HB5 := Lib.hid (HB3.out.trans (hb5.mono HB3.out.size))
        have HO5 := Lib.hid ho5
        clear ho5 hb5 hc3
        go_wp2_with fail
        refine (iMore _ (pairV (val x) (val z)) 84 _ HO5.out.rd HNP.out (by omega) (by omega)).mono ?_
        rintro e6 w6 ⟨r6, rfl, ho6, hb6⟩
        have HB6 := Lib.hid (HB5.out.trans (hb6.mono HB5.out.size))
        have HO6 := Lib.hid (ho6.mono HB5.out.size (Nat.le_refl _) (Nat.le_refl _))
        clear ho6 hb6
        go_wp2_with fail
        refine (implFit _ _ _ _ _ HO6.out).mono ?_
        rintro e7 w7 ⟨r7, rfl, ho7, rfl⟩
        have HO7 := Lib.hid ho7
        clear ho7
        go_wp2
        go_ret2
        exact ⟨_, by rw [E.out] <;> rfl, by rw [E.out]; exact HO7.out, HB6.out⟩
      · subst hA
        go_enter Try.func33, Try.ntmps33
        go_wp2_with fail
        with_reducible refine HCALL.out.mono ?_
        rintro e3 w3 ⟨r3, rfl, ho3, hb3⟩
        have HO3 := Lib.hid (rd_can ho3.rd HZN.out)
        have HB3 := Lib.hid hb3
        have hc3 := HCL.out _ HB3.out
        clear ho3 hb3 hc
        go_wp2_with fail
        refine (iPair _ _ (val x) (val z) 40 _ (HY.out.below HB3.out (Nat.le_refl _)) HO3.out HNX.out HNZ.out (by omega) (by omega)).mono ?_
        rintro e5 w5 ⟨r5, rfl, ho5, hb5⟩
        have HB5 := Lib.hid (HB3.out.trans (hb5.mono HB3.out.size))
        have HO5 := Lib.hid ho5
        clear ho5 hb5 hc3
        go_wp2_with fail
        refine (iMore _ (pairV (val x) (val z)) 84 _ HO5.out.rd HNP.out (by omega) (by omega)).mono ?_
        rintro e6 w6 ⟨r6, rfl, ho6, hb6⟩
        have HB6 := Lib.hid (HB5.out.trans (hb6.mono HB5.out.size))
        have HO6 := Lib.hid (ho6.mono HB5.out.size (Nat.le_refl _) (Nat.le_refl _))
        clear ho6 hb6
        go_wp2_with fail
        refine (implFit _ _ _ _ _ HO6.out).mono ?_
        rintro e7 w7 ⟨r7, rfl, ho7, rfl⟩
        have HO7 := Lib.hid ho7
        clear ho7
        go_wp2
        go_ret2
        exact ⟨_, by rw [E.out] <;> rfl, by rw [E.out]; exact HO7.out, HB6.out⟩
    · have E := Lib.hid (HNON.out hz1)
      rw [hz3] at HCALL
      clear ih hv ha hx hys hy had hz1 hz3 HSTP HNON
      have hcc : (c = 1 ∧ ad = some ⟨b, o, none⟩) ∨ (c ≠ 1 ∧ ad = some ⟨b, o + 1, none⟩) := by
        by_cases hc1 : c = 1
        · exact .inl ⟨hc1, by rw [HAD.out, if_pos hc1]⟩
        · exact .inr ⟨hc1, by rw [HAD.out, if_neg hc1]⟩
      clear HAD HTL
      rcases hcc with ⟨hc1, hA⟩ | ⟨hc1, hA⟩
      · have h0 : c - 1 = 0 := by omega
        have h1 : ys.length = 0 := by omega
        rw [h0, h1] at HCALL
        subst hA hc1
        clear h0 h1
        go_enter Try.func33, Try.ntmps33
        go_wp2_with fail
        with_reducible refine HCALL.out.mono ?_
        rintro e3 w3 ⟨r3, rfl, ho3, hb3⟩
        have HB3 := Lib.hid hb3
        clear ho3 hb3 hc
        go_wp2
        go_ret2
        exact ⟨_, by rw [E.out] <;> rfl, by rw [E.out]; exact Ow.emptyUp HB3.out.size, HB3.out⟩
      · subst hA
        go_enter Try.func33, Try.ntmps33
        go_wp2_with fail
        with_reducible refine HCALL.out.mono ?_
        rintro e3 w3 ⟨r3, rfl, ho3, hb3⟩
        have HB3 := Lib.hid hb3
        clear ho3 hb3 hc
        go_wp2
        go_ret2
        exact ⟨_, by rw [E.out] <;> rfl, by rw [E.out]; exact Ow.emptyUp HB3.out.size, HB3.out⟩
set_option maxHeartbeats 4000000 in
theorem implSeq (v : Value) (ss : List (List Int)) (w : World) (h : RdL w v ss) :
    Calls Try.prog 13 #[v] w fun e w' => ∃ r, e = .returned (.tuple #[r, .int .i64 (sqR ss).2]) ∧ Ow w' w.heap.size w'.heap.size r (sqR ss).1 ∧ Below w.heap.size w w' := by
  have HV := Lib.hid h
  obtain ⟨a, c, rfl⟩ : ∃ a c, v = .slice a ss.length c := by obtain ⟨_, a, c, e, _⟩ := h; exact ⟨a, c, e⟩
  clear h
  rcases eqOr (allN ss) with hn | hn
  · have HN := Lib.hid hn
    have e0 : Hid (sqR ss = ([], 1)) := Lib.hid (by rw [sqR, if_pos hn])
    clear hn
    go_enter Try.func13, Try.ntmps13
    go_wp2_with fail
    refine (areNats_any _ ss _ HV.out).mono ?_
    rintro e w1 ⟨rfl, hb1⟩
    rw [HN.out]
    have HB := Lib.hid hb1
    clear hb1
    go_wp2
    go_ret2
    exact ⟨_, by rw [e0.out] <;> rfl, by rw [e0.out]; exact Ow.emptyUp HB.out.size, HB.out⟩
  have HN := Lib.hid hn
  have hn1 : ¬ allN ss = false := by rw [hn]; simp
  by_cases h8 : ss.length ≤ 8
  rotate_left
  · have e0 : Hid (sqR ss = ([], 2)) := Lib.hid (by rw [sqR, if_neg hn1, if_pos h8])
    have k1 : (8 : Int) < (ss.length : Int) := by omega
    clear hn hn1 h8
    go_enter Try.func13, Try.ntmps13
    go_wp2_with fail
    refine (areNats_any _ ss _ HV.out).mono ?_
    rintro e w1 ⟨rfl, hb1⟩
    rw [HN.out]
    have HB := Lib.hid hb1
    clear hb1
    go_wp2
    go_ret2
    exact ⟨_, by rw [e0.out] <;> rfl, by rw [e0.out]; exact Ow.emptyUp HB.out.size, HB.out⟩
  have E : Hid (sqR ss = sqO ss) := Lib.hid (by rw [sqR, if_neg hn1, if_neg (by omega)]; rfl)
  have k1 : ¬ (8 : Int) < (ss.length : Int) := by omega
  clear hn hn1
  go_enter Try.func13, Try.ntmps13
  go_wp2_with fail
  refine (areNats_any _ ss _ HV.out).mono ?_
  rintro e w1 ⟨rfl, hb1⟩
  rw [HN.out]
  have HB := Lib.hid hb1
  clear hb1
  go_wp2_with fail
  refine (implSql ss _ _ (HV.out.below HB.out (Nat.le_refl _)) HN.out).mono ?_
  rintro e2 w2 ⟨r2, rfl, ho2, hb2⟩
  have HB2 := Lib.hid (HB.out.trans (hb2.mono HB.out.size))
  have HO2 := Lib.hid (ho2.mono HB.out.size (Nat.le_refl _) (Nat.le_refl _))
  clear ho2 hb2
  go_wp2
  go_ret2
  exact ⟨_, by rw [E.out] <;> rfl, by rw [E.out]; exact HO2.out, HB2.out⟩
end
section
open Go.RowKit
set_option linter.unusedVariables false
set_option linter.unusedSimpArgs false
theorem nat_nn {x : List Int} (h : natB x = true) : 0 ≤ val x ∧ canOf (val x) = x := ⟨val_nonneg (natB_can h).1.1, canOf_val (natB_can h).1⟩
theorem tri_nonneg {s : Int} (h : 0 ≤ s) : 0 ≤ triV s := by
  have := tri_two h
  have := Int.mul_nonneg h h
  omega
theorem pairV_nonneg {a b : Int} (ha : 0 ≤ a) (hb : 0 ≤ b) : 0 ≤ pairV a b := by
  have := tri_nonneg (s := a + b) (by omega)
  unfold pairV; omega
theorem tpF_inv : ∀ (ss : List (List Int)) (t : List Int), allN ss = true → tpF ss = some t → tfL (ss.length - 1) (val t) = ss
  | [], t, _, e => by simp [tpF] at e
  | [x], t, h, e => by
    rw [tpF] at e
    cases e
    show [canOf (val x)] = [x]
    rw [(nat_nn (allN_cons h).1).2]
  | x :: y :: xs, t, h, e => by
    obtain ⟨hx, hs⟩ := allN_cons h
    rw [tpF] at e
    cases er : tpF (y :: xs) with
    | none => rw [er] at e; simp at e
    | some r =>
      rw [er] at e
      simp only [Option.bind_some] at e
      have hr := tpF_nat (y :: xs) r hs er
      have ih := tpF_inv (y :: xs) r hs er
      split at e
      · cases e
        have hv : val (canOf (pairV (val x) (val r))) = pairV (val x) (val r) := (canOf_spec (pairV_nonneg (nat_nn hx).1 (nat_nn hr).1)).2
        obtain ⟨e1, e2⟩ := un_pair (nat_nn hx).1 (nat_nn hr).1
        have hl : (x :: y :: xs).length - 1 = ((y :: xs).length - 1) + 1 := by simp
        rw [hv, hl, tfL, e1, e2, ih, (nat_nn hx).2]
      · cases e
theorem sqF_inv : ∀ (m : Nat) (ss : List (List Int)) (t : List Int), allN ss = true → ss.length ≤ m → sqF ss = some t → sqG m (val t) = some ss
  | m, [], t, _, _, e => by
    rw [sqF] at e
    cases e
    exact sqG_zero m
  | 0, x :: xs, t, _, hl, _ => by simp at hl
  | m + 1, x :: xs, t, h, hl, e => by
    obtain ⟨hx, hs⟩ := allN_cons h
    rw [sqF] at e
    cases er : sqF xs with
    | none => rw [er] at e; simp at e
    | some r =>
      rw [er] at e
      simp only [Option.bind_some] at e
      have hr := sqF_nat xs r hs er
      have ih := sqF_inv m xs r hs (by simpa using hl) er
      split at e
      · cases e
        have p0 := pairV_nonneg (nat_nn hx).1 (nat_nn hr).1
        have hv : val (canOf (pairV (val x) (val r) + 1)) = pairV (val x) (val r) + 1 := (canOf_spec (by omega)).2
        obtain ⟨e1, e2⟩ := un_pair (nat_nn hx).1 (nat_nn hr).1
        rw [hv, sqG_succ (by omega), show pairV (val x) (val r) + 1 - 1 = pairV (val x) (val r) by omega, e1, e2, ih, (nat_nn hx).2]
        rfl
      · cases e
end
section
open Go.RowKit
set_option linter.unusedVariables false
set_option linter.unusedSimpArgs false
def IsBts (w : World) (a : Option Addr) (len cap : Nat) (zs : List Int) : Prop :=
  (a = none ∧ len = 0 ∧ cap = 0 ∧ zs = []) ∨ ∃ x, a = some x ∧ len ≤ cap ∧ cap ≤ maxLen ∧ zs.length = cap ∧ (∀ i, i < zs.length → w.cell? (x.add i) = some (.int .u8 (zs.getD i 0))) ∧ ∀ n ∈ zs, (Lit.int .u8 n).wf = true
section
open Go.ChangeShapes Go.WideShapes Go.Deep
set_option maxRecDepth 100000 in
/-- Bytes that came in, opened. -/
theorem open_bts {H : Type} {enc : TypeId × Value → H} {w : World} {base : Nat} {held : Bool} {fuel : Nat} {cs : List Value} {x : DataW H × List MemPlace}
    (h : DataW.trod enc Try.prog w base (fun _ => true) held fuel 22 cs = some x) : ∃ a len cap zs, cs = [.slice a len cap] ∧ IsBts w a len cap zs := by
  rcases open_ints Try.underlying22 Try.underlying5 (by kernel_rfl) h with ⟨rfl, _⟩ | ⟨x, l, c, zs, rfl, _, hl, hm, hz, _, hcell, hwz⟩
  · exact ⟨none, 0, 0, [], rfl, .inl ⟨rfl, rfl, rfl, rfl⟩⟩
  · exact ⟨_, _, _, zs, rfl, .inr ⟨_, rfl, hl, hm, by simpa using hz, hcell, hwz⟩⟩
end
/-- The value v is a slice of n bytes, all in one block below B. -/
def RdB (w : World) (B : Nat) (v : Value) (n : Nat) : Prop := n ≤ 1048576 ∧ B ≤ w.heap.size ∧ ∃ a c, v = .slice a n c ∧ n ≤ c ∧ (0 < n → ∃ b o, a = some ⟨b, o, none⟩ ∧ b < B ∧ ∀ i, i < n → ∃ x, w.cell? ⟨b, o + i, none⟩ = some (.int .u8 x) ∧ 0 ≤ x ∧ x ≤ 255)
theorem rdb_of_row {w : World} {a : Option Addr} {len cap : Nat} {zs : List Int} (h : IsBts w a len cap zs) (hl : len ≤ 1048576) : RdB w w.heap.size (.slice a len cap) len := by
  refine ⟨hl, Nat.le_refl _, a, cap, rfl, ?_, fun h0 => ?_⟩
  · rcases h with ⟨_, rfl, rfl, _⟩ | ⟨_, _, h1, _⟩
    · exact Nat.le_refl _
    · exact h1
  · rcases h with ⟨_, rfl, _, _⟩ | ⟨x, rfl, h1, h2, h3, h4, h5⟩
    · omega
    · obtain ⟨b, off, spot⟩ := x
      have hz := h4 0 (by omega)
      have hspot : spot = none := by simpa [Addr.add] using World.cell?_spot hz
      subst hspot
      refine ⟨b, off, rfl, World.block_lt_of_cell? w _ hz, fun i hi => ⟨zs.getD i 0, ?_, ?_⟩⟩
      · have := h4 i (by omega)
        rwa [Addr.add_lit] at this
      · have hw := h5 (zs.getD i 0) (by rw [List.getD_eq_getElem?_getD, List.getElem?_eq_getElem (by omega)]; exact List.getElem_mem (by omega))
        exact bounds_u8 hw
theorem RdB.below {w w' : World} {B C : Nat} {v : Value} {n : Nat} (h : RdB w B v n) (hb : Below C w w') (hC : B ≤ C) : RdB w' B v n := by
  obtain ⟨h1, h2, a, c, rfl, h3, h4⟩ := h
  refine ⟨h1, Nat.le_trans h2 hb.size, a, c, rfl, h3, fun h0 => ?_⟩
  obtain ⟨b, o, rfl, hlt, hc⟩ := h4 h0
  exact ⟨b, o, rfl, hlt, fun i hi => by
    obtain ⟨x, e, hx⟩ := hc i hi
    exact ⟨x, (hb.cell (p := ⟨b, o + i, none⟩) (by show b < C; omega)).trans e, hx⟩⟩
theorem Cels.drewN {w : World} {g : Nat} {t : TypeId} {cs : List Value} (h : Cels w g t cs) (m : Nat) : Cels (w.drewN m) g t cs := h
theorem Only.drewN {w w' : World} {S : Nat → Prop} (h : Only S w w') (m : Nat) : Only S w (w'.drewN m) := ⟨h.os, h.tape, h.output, h.size, h.block⟩
theorem and255 (y : Int) : 0 ≤ wrap64 (Go.bits .and .u64 y 255) ∧ wrap64 (Go.bits .and .u64 y 255) ≤ 255 := by
  have h : (BitVec.ofInt 64 y &&& BitVec.ofInt 64 255).toNat ≤ 255 := by
    rw [BitVec.toNat_and]
    exact Nat.le_trans Nat.and_le_right (by decide)
  obtain ⟨m, hm⟩ : ∃ m, m = (BitVec.ofInt 64 y &&& BitVec.ofInt 64 255).toNat := ⟨_, rfl⟩
  have e : Go.bits .and .u64 y 255 = IntKind.u64.wrap ((m : Nat) : Int) := by rw [hm]; rfl
  rw [← hm] at h
  have e2 : IntKind.u64.wrap ((m : Nat) : Int) = (m : Int) := by
    simp only [IntKind.wrap, IntKind.signed, IntKind.bits]
    simp
    omega
  rw [e, e2]
  unfold wrap64
  omega
/-- The source behind a choice. -/
theorem src_put {w : World} {g k : Nat} {v : Value} {s : Int} (h : Cels w g 56 [v, .int .i64 (k : Int), .int .u64 s]) (m : Nat) (S : Int) :
    Cels (((w.drewN m).setCell ⟨g, 1, none⟩ (.int .i64 ((k : Int) + 1))).setCell ⟨g, 2, none⟩ (.int .u64 S)) g 56 [v, .int .i64 ((k : Int) + 1), .int .u64 S] ∧
    Below g w (((w.drewN m).setCell ⟨g, 1, none⟩ (.int .i64 ((k : Int) + 1))).setCell ⟨g, 2, none⟩ (.int .u64 S)) ∧
    Only (fun b => b = g) w (((w.drewN m).setCell ⟨g, 1, none⟩ (.int .i64 ((k : Int) + 1))).setCell ⟨g, 2, none⟩ (.int .u64 S)) := by
  have h1 := (((h.drewN m).set 1 (.int .i64 ((k : Int) + 1))).set 2 (.int .u64 S))
  have hb : Below g w (w.drewN m) := below_drewN (Below.refl _ _) m
  have hb2 := below_set (below_set hb (Nat.le_refl _) 1 (.int .i64 ((k : Int) + 1))) (Nat.le_refl _) 2 (.int .u64 S)
  refine ⟨h1, hb2, hb2.os, hb2.tape, hb2.output, hb2.size, fun j hj hne => ?_⟩
  rw [Below.heap_setCell _ _ _ _ (by exact hne), Below.heap_setCell _ _ _ _ (by exact hne)]; rfl
set_option maxRecDepth 100000 in
set_option maxHeartbeats 4000000 in
theorem srcNext (g k n B : Nat) (v : Value) (s : Int) (w : World) (hc : Cels w g 56 [v, .int .i64 (k : Int), .int .u64 s]) (hv : RdB w B v n) (hg : B ≤ g) (hk : k ≤ 1000) :
    Calls Try.prog 47 #[.pointer (some ⟨g, 0, none⟩)] w fun e w' => ∃ x s' : Int, e = .returned (.int .i64 x) ∧ 0 ≤ x ∧ x ≤ 255 ∧ Cels w' g 56 [v, .int .i64 ((k : Int) + 1), .int .u64 s'] ∧ Below g w w' ∧ Only (fun b => b = g) w w' := by
  obtain ⟨hn, hB, a, c, rfl, hcap, hr⟩ := hv
  have HC := Lib.hid hc
  have q0 := hc.cell 0 rfl
  have q1 := hc.cell 1 rfl
  have q2 := hc.cell 2 rfl
  have hfr : ∀ j, w.frozen? ⟨g, j, none⟩ = false := fun j => hc.frozen j
  have k0 : (0 : Int) ≤ (k : Int) := by omega
  have wk : IntKind.i64.wrap ((k : Int) + 1) = (k : Int) + 1 := by rw [IntKind.wrap_i64]; omega
  have z0 := fun m S => (src_put hc m S).1.cell 0 rfl
  have z1 := fun m S => (src_put hc m S).1.cell 1 rfl
  have z2 := fun m S => (src_put hc m S).1.cell 2 rfl
  by_cases hlt : k < n
  · obtain ⟨b, o, rfl, hb, hcell⟩ := hr (by omega)
    obtain ⟨x, cx, x0, x1⟩ := hcell k hlt
    have kn : (k : Int) < (n : Int) := by omega
    have kn2 : (k : Int) + 1 ≤ (n : Int) := by omega
    have wx : IntKind.i64.wrap x = x := by rw [IntKind.wrap_i64]; omega
    clear hcell hr hc
    go_enter Try.func47, Try.ntmps47
    go_wp2
    go_quiet (fail)
    go_wp2
    go_quiet (fail)
    go_wp2
    go_quiet (fail)
    go_wp2
    go_ret
    exact ⟨x, _, rfl, x0, x1, ((src_put HC.out _ _).1).drewN _, below_drewN (src_put HC.out _ _).2.1 _, ((src_put HC.out _ _).2.2).drewN _⟩
  · have kn : ¬ (k : Int) < (n : Int) := by omega
    have kn2 : ¬ (k : Int) + 1 ≤ (n : Int) := by omega
    clear hr hc
    go_enter Try.func47, Try.ntmps47
    go_wp2
    go_quiet (fail)
    go_wp2
    go_quiet (fail)
    go_wp2
    go_ret
    exact ⟨_, _, rfl, (and255 _).1, (and255 _).2, ((src_put HC.out _ _).1).drewN _, below_drewN (src_put HC.out _ _).2.1 _, ((src_put HC.out _ _).2.2).drewN _⟩
theorem srcPick (g k n B : Nat) (v : Value) (s m : Int) (w : World) (hc : Cels w g 56 [v, .int .i64 (k : Int), .int .u64 s]) (hv : RdB w B v n) (hg : B ≤ g) (hk : k ≤ 1000) (h1 : 1 ≤ m) (h2 : m ≤ 200) :
    Calls Try.prog 24 #[.pointer (some ⟨g, 0, none⟩), .int .i64 m] w fun e w' => ∃ (x s' : Int) (k' : Nat), e = .returned (.int .i64 x) ∧ 0 ≤ x ∧ x < m ∧ k' ≤ k + 1 ∧ Cels w' g 56 [v, .int .i64 (k' : Int), .int .u64 s'] ∧ Below g w w' ∧ Only (fun b => b = g) w w' := by
  have HC := Lib.hid hc
  clear hc
  by_cases hm : m ≤ 1
  · go_enter Try.func24, Try.ntmps24
    go_wp2
    go_ret
    exact ⟨0, s, k, rfl, by omega, by omega, by omega, HC.out, Below.refl _ _, Only.refl _ _⟩
  have hm2 : ¬ (200 : Int) < m := by omega
  go_enter Try.func24, Try.ntmps24
  go_wp2_with fail
  refine (srcNext g k n B v s _ HC.out hv hg hk).mono ?_
  rintro e w1 ⟨x, s', rfl, x0, x1, hc1, hb1, ho1⟩
  have HC1 := Lib.hid hc1
  have HB1 := Lib.hid hb1
  have HO1 := Lib.hid ho1
  obtain ⟨y, hy⟩ : ∃ y, y = x % m := ⟨_, rfl⟩
  have hty : x.tmod m = y := by rw [Int.tmod_eq_emod_of_nonneg x0, hy]
  have y0 : 0 ≤ y := by rw [hy]; exact Int.emod_nonneg _ (by omega)
  have y1 : y < m := by rw [hy]; exact Int.emod_lt_of_pos _ (by omega)
  clear hc1 hb1 ho1 hy
  go_wp2
  go_ret
  exact ⟨y, s', k + 1, rfl, y0, y1, Nat.le_refl _, by push_cast; exact HC1.out, HB1.out, HO1.out⟩
theorem srcFrom (a : Option Addr) (n c : Nat) (w : World) :
    Calls Try.prog 17 #[.slice a n c] w fun e w' => e = .returned (.pointer (some ⟨w.heap.size, 0, none⟩)) ∧ Cels w' w.heap.size 56 [.slice a n c, .int .i64 ((0 : Nat) : Int), .int .u64 0] ∧ Below w.heap.size w w' ∧ w'.heap.size = w.heap.size + 1 := by
  go_enter Try.func17, Try.ntmps17
  go_wp2
  go_ret
  exact ⟨rfl, Cels.new _ _ _, (Below.refl _ _).alloc (Nat.le_refl _) _, by simp⟩
end
section
open Go.RowKit
set_option linter.unusedVariables false
set_option linter.unusedSimpArgs false
set_option maxHeartbeats 1000000 in
theorem b10Nums (u v : Value) (zs : List Int) (w : World) (hu : Rd w u zs) (hv : Rd w v zs) :
    Calls Try.prog 8 #[u, v] w fun e w' => e = .returned (.bool true) ∧ Below w.heap.size w w' := by
  obtain ⟨hl, hf, a, c, rfl, hcap, hr⟩ := hu
  obtain ⟨_, _, a', c', rfl, _, hr'⟩ := hv
  go_enter Try.func8, Try.ntmps8
  go_wp2
  go_loopw [5] (fun s wr => ∃ k : Nat, k ≤ zs.length ∧ s = .int .i64 k ∧ Below w.heap.size w wr) (fun s _ => zs.length - (intOf s).toNat)
  case atStart => exact ⟨0, Nat.zero_le _, rfl, Below.refl _ _⟩
  case round =>
    obtain ⟨k, hk, rfl, hbel⟩ := hrel
    by_cases hlt : k < zs.length
    · obtain ⟨b, o, rfl, hb, hcell⟩ := hr (by intro h0; rw [h0] at hlt; simp at hlt)
      obtain ⟨b', o', rfl, hb', hcell'⟩ := hr' (by intro h0; rw [h0] at hlt; simp at hlt)
      have hc : wr.cell? ⟨b, o + k, none⟩ = some (.int .i64 (zs.getD k 0)) := (hbel.cell hb).trans (hcell k hlt)
      have hc' : wr.cell? ⟨b', o' + k, none⟩ = some (.int .i64 (zs.getD k 0)) := (hbel.cell hb').trans (hcell' k hlt)
      have i0 : (0 : Int) ≤ (k : Int) := by omega
      have i1 : (k : Int) < (zs.length : Int) := by omega
      have HB := Lib.hid hbel
      clear hcell hcell' hbel hr hr'
      go_wp2
      go_quiet (fail)
      go_wp2
      go_roundw
      case rel => exact ⟨k + 1, by omega, by go_num, below_drewN HB.out _⟩
      case measure => simp [intOf]; omega
    · have HB := Lib.hid hbel
      have hnlt : ¬ (k : Int) < (zs.length : Int) := by omega
      clear hbel
      go_wp2
      go_ret
      exact ⟨rfl, HB.out⟩
set_option maxHeartbeats 1000000 in
theorem srcPickW (g k n B : Nat) (v : Value) (s m : Int) (w : World) (hc : Cels w g 56 [v, .int .i64 (k : Int), .int .u64 s]) (hv : RdB w B v n) (hg : B ≤ g) (hk : k ≤ 900) (h1 : 1 ≤ m) (h2 : m ≤ 60000) :
    Calls Try.prog 24 #[.pointer (some ⟨g, 0, none⟩), .int .i64 m] w fun e w' => ∃ (x s' : Int) (k' : Nat), e = .returned (.int .i64 x) ∧ 0 ≤ x ∧ x < m ∧ k' ≤ k + 2 ∧ Cels w' g 56 [v, .int .i64 (k' : Int), .int .u64 s'] ∧ Below g w w' ∧ Only (fun b => b = g) w w' := by
  by_cases hm : m ≤ 200
  · refine (srcPick g k n B v s m w hc hv hg (by omega) h1 hm).mono ?_
    rintro e w' ⟨x, s', k', rfl, x0, x1, k0, r⟩
    exact ⟨x, s', k', rfl, x0, x1, by omega, r⟩
  have HC := Lib.hid hc
  have HV := Lib.hid hv
  clear hc hv
  have hm1 : ¬ m ≤ 1 := by omega
  have hm2 : (200 : Int) < m := by omega
  go_enter Try.func24, Try.ntmps24
  go_wp2_with fail
  refine (srcNext g k n B v s _ HC.out HV.out hg (by omega)).mono ?_
  rintro e w1 ⟨x, s', rfl, x0, x1, hc1, hb1, ho1⟩
  have HC1 := Lib.hid hc1
  have HB1 := Lib.hid hb1
  have HO1 := Lib.hid ho1
  have wx : IntKind.i64.wrap (x * 256) = x * 256 := by rw [IntKind.wrap_i64]; omega
  clear hc1 hb1 ho1
  go_wp2_with fail
  refine (srcNext g (k + 1) n B v s' _ (by push_cast; exact HC1.out) (HV.out.below HB1.out hg) hg (by omega)).mono ?_
  rintro e w2 ⟨z, s2, rfl, z0, z1, hc2, hb2, ho2⟩
  have HC2 := Lib.hid hc2
  have HB2 := Lib.hid (HB1.out.trans hb2)
  have HO2 := Lib.hid (HO1.out.trans ho2)
  have wz : IntKind.i64.wrap (x * 256 + z) = x * 256 + z := by rw [IntKind.wrap_i64]; omega
  obtain ⟨y, hy⟩ : ∃ y, y = (x * 256 + z) % m := ⟨_, rfl⟩
  have hty : (x * 256 + z).tmod m = y := by rw [Int.tmod_eq_emod_of_nonneg (by omega), hy]
  have y0 : 0 ≤ y := by rw [hy]; exact Int.emod_nonneg _ (by omega)
  have y1 : y < m := by rw [hy]; exact Int.emod_lt_of_pos _ (by omega)
  clear hc2 hb2 ho2 hy
  go_wp2
  go_ret
  exact ⟨y, s2, k + 2, rfl, y0, y1, Nat.le_refl _, by (have := HC2.out; push_cast at this ⊢; simpa [Int.add_assoc] using this), HB2.out, HO2.out⟩
end
section
open Go.RowKit
set_option linter.unusedVariables false
set_option linter.unusedSimpArgs false
theorem cellBuilt (w : World) (xs : List Int) (j : Nat) (hj : j < xs.length) : (w.alloc (.cells (xs.map (Value.int .i64)).toArray 2)).cell? ⟨w.heap.size, j, none⟩ = some (.int .i64 (xs.getD j 0)) := by
  have h := (Cels.new w 2 (xs.map (Value.int .i64))).cell (v := .int .i64 (xs.getD j 0)) j (by
    rw [List.getElem?_map, List.getElem?_eq_getElem hj, List.getD_eq_getElem?_getD, List.getElem?_eq_getElem hj]; rfl)
  simpa using h
set_option maxHeartbeats 1000000 in
theorem srcOne (g k n B : Nat) (v : Value) (s m : Int) (w : World) (hc : Cels w g 56 [v, .int .i64 (k : Int), .int .u64 s]) (hv : RdB w B v n) (hg : B ≤ g) (hk : k ≤ 900) (h1 : 1 ≤ m) (h2 : m ≤ 60000) :
    Calls Try.prog 36 #[.pointer (some ⟨g, 0, none⟩), .int .i64 m] w fun e w' => ∃ (b : Bool) (s' : Int) (k' : Nat), e = .returned (.bool b) ∧ k' ≤ k + 2 ∧ Cels w' g 56 [v, .int .i64 (k' : Int), .int .u64 s'] ∧ Below g w w' ∧ Only (fun b => b = g) w w' := by
  have HC := Lib.hid hc
  have HV := Lib.hid hv
  clear hc hv
  go_enter Try.func36, Try.ntmps36
  go_wp2_with fail
  refine (srcPickW g k n B v s m _ HC.out HV.out hg hk h1 h2).mono ?_
  rintro e w1 ⟨x, s', k', rfl, x0, x1, hk', hc1, hb1, ho1⟩
  have HC1 := Lib.hid hc1
  have HB1 := Lib.hid hb1
  have HO1 := Lib.hid ho1
  clear hc1 hb1 ho1
  go_wp2
  go_ret
  exact ⟨_, s', k', rfl, hk', HC1.out, HB1.out, HO1.out⟩
set_option maxHeartbeats 1000000 in
theorem srcAmong (g k n B b : Nat) (v : Value) (s : Int) (xs : List Int) (w : World) (hc : Cels w g 56 [v, .int .i64 (k : Int), .int .u64 s]) (hv : RdB w B v n) (hg : B ≤ g) (hk : k ≤ 900)
    (hb : g < b) (hbs : b < w.heap.size) (hcell : ∀ j, j < xs.length → w.cell? ⟨b, j, none⟩ = some (.int .i64 (xs.getD j 0))) (h1 : 1 ≤ xs.length) (h2 : xs.length ≤ 200) :
    Calls Try.prog 37 #[.pointer (some ⟨g, 0, none⟩), .slice (some ⟨b, 0, none⟩) xs.length xs.length] w fun e w' => ∃ (x s' : Int) (k' : Nat), e = .returned (.int .i64 x) ∧ x ∈ xs ∧ k' ≤ k + 2 ∧ Cels w' g 56 [v, .int .i64 (k' : Int), .int .u64 s'] ∧ Below g w w' ∧ Only (fun b => b = g) w w' := by
  have HC := Lib.hid hc
  have HV := Lib.hid hv
  have HCE := Lib.hid hcell
  clear hc hv hcell
  go_enter Try.func37, Try.ntmps37
  go_wp2_with fail
  refine (srcPickW g k n B v s (xs.length : Int) _ HC.out HV.out hg hk (by omega) (by omega)).mono ?_
  rintro e w1 ⟨y, s', k', rfl, y0, y1, hk', hc1, hb1, ho1⟩
  obtain ⟨j, rfl⟩ : ∃ j : Nat, y = (j : Int) := ⟨y.toNat, by omega⟩
  have hj : j < xs.length := by omega
  obtain ⟨x, hx⟩ : ∃ x, x = xs.getD j 0 := ⟨_, rfl⟩
  have hcc : w1.cell? ⟨b, j, none⟩ = some (.int .i64 x) := by
    rw [hx]
    exact (World.cell?_of_block (a := ⟨b, j, none⟩) (ho1.block b hbs (by omega))).trans (HCE.out j hj)
  have HM : Hid (x ∈ xs) := Lib.hid (by rw [hx, List.getD_eq_getElem?_getD, List.getElem?_eq_getElem hj]; exact List.getElem_mem hj)
  have HC1 := Lib.hid hc1
  have HB1 := Lib.hid hb1
  have HO1 := Lib.hid ho1
  clear hc1 hb1 ho1 hx
  go_wp2
  go_ret
  exact ⟨x, s', k', rfl, HM.out, hk', HC1.out, HB1.out, HO1.out⟩
theorem trim_natB {xs : List Int} (h : ∀ y ∈ xs, 0 ≤ y ∧ y < 1000000) (hl : xs.length ≤ 40) : natB (trim xs) = true := by
  refine can_natB (trim_can fun i hi => ?_) (Nat.le_trans (trim_length xs) hl)
  rw [List.getD_eq_getElem?_getD, List.getElem?_eq_getElem hi]
  exact h _ (List.getElem_mem hi)
theorem limbs_natB {x : Int} (h0 : 0 ≤ x) (h1 : x ≤ 1000001) : natB (limbs x) = true := by
  obtain ⟨c, e⟩ := limbs_can h0
  have h10 : Pw 2 = 1000000000000 := by decide
  have := can_len (k := 2) c (by rw [e]; omega)
  exact can_natB c (by omega)
theorem fits_all {xs : List Int} (h : ∀ y ∈ xs, 0 ≤ y ∧ y < 1000000) {z : Int} (h0 : 0 ≤ z) (h1 : z < 1000000) : ∀ y ∈ xs ++ [z], 0 ≤ y ∧ y < 1000000 := fun y hy => by
  rcases List.mem_append.1 hy with hy | hy
  · exact h y hy
  · rw [List.mem_singleton] at hy; subst hy; exact ⟨h0, h1⟩
def slLen : Value → Nat
  | .slice _ n _ => n
  | _ => 0
theorem belowOnly {S : Nat → Prop} {w w' : World} (h : Below w.heap.size w w') : Only S w w' := ⟨h.os, h.tape, h.output, h.size, fun b hb _ => h.block b hb⟩
set_option maxRecDepth 100000 in
set_option maxHeartbeats 8000000 in
theorem specDraw (g k n B : Nat) (v : Value) (s : Int) (w : World) (hc : Cels w g 56 [v, .int .i64 (k : Int), .int .u64 s]) (hv : RdB w B v n) (hg : B ≤ g) (hk : k ≤ 400) :
    Calls Try.prog 18 #[.pointer (some ⟨g, 0, none⟩)] w fun e w' => ∃ (u : Value) (xs : List Int) (s' : Int) (k' : Nat), e = .returned u ∧ natB xs = true ∧ k' ≤ k + 100 ∧ Ow w' w.heap.size w'.heap.size u xs ∧ Cels w' g 56 [v, .int .i64 (k' : Int), .int .u64 s'] ∧ Below g w w' ∧ Only (fun b => b = g) w w' := by
  obtain ⟨i0, hi, hz0, hz1, hz2⟩ := info_parts infoE
  have HC := Lib.hid hc
  have HV := Lib.hid hv
  have hgs := hc.lt
  clear hc hv
  go_enter Try.func18, Try.ntmps18
  go_wp2_with fail
  refine (srcOne g k n B v s 2 _ HC.out HV.out hg (by omega) (by omega) (by omega)).mono ?_
  rintro e w1 ⟨b, s1, k1, rfl, hk1, hc1, hb1, ho1⟩
  have HC1 := Lib.hid hc1
  have HB1 := Lib.hid hb1
  have HO1 := Lib.hid ho1
  have hs1 := ho1.size
  clear hc1 hb1 ho1
  cases b with
  | true =>
    obtain ⟨xs, hxs⟩ : ∃ xs : List Int, xs = [0, 1, 2, 3, 6, 7, 9, 10, 24, 64, 97, 99, 100, 720, 999999, 1000000, 1000001, 30030] := ⟨_, rfl⟩
    have hxl : xs.length = 18 := by rw [hxs]; rfl
    have HXI : Hid (∀ y ∈ xs, 0 ≤ y ∧ y ≤ 1000001) := Lib.hid (by rw [hxs]; decide)
    have hal : (w1.alloc (.cells (xs.map (Value.int .i64)).toArray 2)) = w1.alloc (.cells #[.int .i64 0, .int .i64 1, .int .i64 2, .int .i64 3, .int .i64 6, .int .i64 7, .int .i64 9, .int .i64 10, .int .i64 24, .int .i64 64, .int .i64 97, .int .i64 99, .int .i64 100, .int .i64 720, .int .i64 999999, .int .i64 1000000, .int .i64 1000001, .int .i64 30030] 2) := by rw [hxs]; rfl
    have HCE := Lib.hid (cellBuilt w1 xs)
    rw [hal] at HCE
    have HBA : Hid (Below w1.heap.size w1 (w1.alloc (.cells #[.int .i64 0, .int .i64 1, .int .i64 2, .int .i64 3, .int .i64 6, .int .i64 7, .int .i64 9, .int .i64 10, .int .i64 24, .int .i64 64, .int .i64 97, .int .i64 99, .int .i64 100, .int .i64 720, .int .i64 999999, .int .i64 1000000, .int .i64 1000001, .int .i64 30030] 2))) := Lib.hid ((Below.refl _ _).alloc (Nat.le_refl _) _)
    have HAM := fun (a1 : _) (a2 : _) (a3 : _) => srcAmong g k1 n B w1.heap.size v s1 xs (w1.alloc (.cells #[.int .i64 0, .int .i64 1, .int .i64 2, .int .i64 3, .int .i64 6, .int .i64 7, .int .i64 9, .int .i64 10, .int .i64 24, .int .i64 64, .int .i64 97, .int .i64 99, .int .i64 100, .int .i64 720, .int .i64 999999, .int .i64 1000000, .int .i64 1000001, .int .i64 30030] 2)) a1 a2 hg (by omega) (by omega) a3 HCE.out (by omega) (by omega)
    rw [hxl] at HAM
    have HAMH := Lib.hid HAM
    clear hal HAM hxs
    go_wp2_with fail
    refine (HAMH.out (HC1.out.below HBA.out (by omega)) ((HV.out.below HB1.out hg).below HBA.out (by omega)) (by simp)).mono ?_
    rintro e w2 ⟨x, s2, k2, rfl, hx, hk2, hc2, hb2, ho2⟩
    have HX := Lib.hid (HXI.out x hx)
    have HC2 := Lib.hid hc2
    have hs2 : w1.heap.size ≤ w2.heap.size := Nat.le_trans HBA.out.size ho2.size
    have HB2 : Hid (Below g w w2) := Lib.hid ((HB1.out.trans (HBA.out.mono (by omega))).trans hb2)
    have HO2 : Hid (Only (fun b => b = g) w w2) := Lib.hid ((HO1.out.trans ⟨HBA.out.os, HBA.out.tape, HBA.out.output, HBA.out.size, fun b hb _ => HBA.out.block b hb⟩).trans ho2)
    clear hc2 hb2 ho2 hx
    go_wp2_with fail
    refine (specLimbs x _ HX.out.1 (by have := HX.out.2; omega)).mono ?_
    rintro e w3 ⟨u, rfl, ho, hb⟩
    have HO3 := Lib.hid (ho.mono (B' := w.heap.size) (by omega) (Nat.le_refl _) (Nat.le_refl _))
    have HC3 := Lib.hid (HC2.out.below hb (by omega))
    have HB3 := Lib.hid (HB2.out.trans (hb.mono (by omega)))
    have HOn3 : Hid (Only (fun b => b = g) w w3) := Lib.hid (HO2.out.trans ⟨hb.os, hb.tape, hb.output, hb.size, fun b hb' _ => hb.block b hb'⟩)
    clear ho hb
    go_wp2
    go_ret
    exact ⟨u, limbs x, s2, k2, rfl, limbs_natB HX.out.1 HX.out.2, by omega, HO3.out, HC3.out, HB3.out, HOn3.out⟩
  | false =>
    have HO2 := Lib.hid (Ow.made w1)
    have HA2 : Hid (Below w1.heap.size w1 (w1.alloc (.cells #[] 2))) := Lib.hid ((Below.refl _ _).alloc (Nat.le_refl _) _)
    go_wp2_with fail
    refine (srcPickW g k1 n B v s1 5 _ (HC1.out.below HA2.out (by omega)) ((HV.out.below HB1.out hg).below HA2.out (by omega)) hg (by omega) (by omega) (by omega)).mono ?_
    rintro e w2 ⟨y, s2, k2, rfl, y0, y1, hk2, hc2, hb2, ho2⟩
    obtain ⟨j0, rfl⟩ : ∃ j : Nat, y = (j : Int) := ⟨y.toNat, by omega⟩
    have wx : IntKind.i64.wrap (1 + (j0 : Int)) = 1 + (j0 : Int) := by rw [IntKind.wrap_i64]; omega
    have HC2 := Lib.hid hc2
    have HB2 : Hid (Below g w w2) := Lib.hid ((HB1.out.trans (HA2.out.mono (by omega))).trans hb2)
    have HOn2 : Hid (Only (fun b => b = g) w w2) := Lib.hid ((HO1.out.trans (belowOnly HA2.out)).trans ho2)
    have HO3 : Hid (Ow w2 w.heap.size w2.heap.size (.slice (some ⟨w1.heap.size, 0, none⟩) 0 0) []) := Lib.hid (((HO2.out.onlyQ ho2 (fun b h1 h2 h3 => by omega)).up).mono hs1 (Nat.le_refl _) (Nat.le_refl _))
    clear hc2 hb2 ho2
    go_wp2
    go_loopw [3, 4] (fun o q wr => ∃ (j k' : Nat) (s : Int) (xs : List Int) (ov : Value), o = ov ∧ q = .int .i64 (j : Int) ∧ j + xs.length ≤ 5 ∧ k' ≤ k + 6 + 6 * xs.length ∧ (∀ y ∈ xs, 0 ≤ y ∧ y < 1000000) ∧ Ow wr w.heap.size wr.heap.size ov xs ∧ Cels wr g 56 [v, .int .i64 (k' : Int), .int .u64 s] ∧ Below g w wr ∧ Only (fun b => b = g) w wr) (fun _ q _ => (intOf q).toNat)
    case atStart => exact ⟨1 + j0, k2, s2, [], _, rfl, by go_num, by simp; omega, by simp; omega, (fun y hy => by cases hy), HO3.out, HC2.out, HB2.out, HOn2.out⟩
    case round =>
      clear HC1 HB1 HO1 HO2 HA2 HC2 HB2 HOn2 HO3
      obtain ⟨j, kk, s, xs, ov, hov, rfl, hj, hkk, hin, how, hcl, hbel, hon⟩ := hrel
      obtain rfl := hov.symm
      have HO := Lib.hid how
      have HC := Lib.hid hcl
      have HB := Lib.hid hbel
      have HOn := Lib.hid hon
      have HIN := Lib.hid hin
      have hsz := hon.size
      obtain ⟨ga, gc, hu⟩ := how.shape
      subst hu
      clear hin how hcl hbel hon
      by_cases hp : 0 < j
      · have hp' : (0 : Int) < (j : Int) := by omega
        go_wp2_with fail
        refine (srcPickW g kk n B v s 1000 _ HC.out (HV.out.below HB.out hg) hg (by omega) (by omega) (by omega)).mono ?_
        rintro e w3 ⟨x, s3, k3, rfl, x0, x1, hk3, hc3, hb3, ho3⟩
        have HC3 := Lib.hid hc3
        have HB3 := Lib.hid (HB.out.trans hb3)
        have HOn3 := Lib.hid (HOn.out.trans ho3)
        have HO3 : Hid (Ow w3 w.heap.size w3.heap.size (.slice ga xs.length gc) xs) := Lib.hid ((HO.out.onlyQ ho3 (fun b h1 h2 h3 => by omega)).up)
        clear hc3 hb3 ho3
        go_wp2_with fail
        refine (srcPickW g k3 n B v s3 1000 _ HC3.out (HV.out.below HB3.out hg) hg (by omega) (by omega) (by omega)).mono ?_
        rintro e w4 ⟨y, s4, k4, rfl, y0, y1, hk4, hc4, hb4, ho4⟩
        have wy : IntKind.i64.wrap (y * 1000) = y * 1000 := by rw [IntKind.wrap_i64]; omega
        have HC4 := Lib.hid hc4
        have HB4 := Lib.hid (HB3.out.trans hb4)
        have HOn4 := Lib.hid (HOn3.out.trans ho4)
        have HO4 : Hid (Ow w4 w.heap.size w4.heap.size (.slice ga xs.length gc) xs) := Lib.hid ((HO3.out.onlyQ ho4 (fun b h1 h2 h3 => by omega)).up)
        have hs4 := HOn4.out.size
        obtain ⟨ls, hls⟩ : ∃ ls : List Int, ls = [0, 1, 2, 999999, 500000, x, y * 1000] := ⟨_, rfl⟩
        have hll : ls.length = 7 := by rw [hls]; rfl
        have HLI : Hid (∀ z ∈ ls, 0 ≤ z ∧ z < 1000000) := Lib.hid (by
          rw [hls]
          intro z hz
          simp only [List.mem_cons, List.not_mem_nil, or_false] at hz
          omega)
        have hal : (w4.alloc (.cells (ls.map (Value.int .i64)).toArray 2)) = w4.alloc (.cells #[.int .i64 0, .int .i64 1, .int .i64 2, .int .i64 999999, .int .i64 500000, .int .i64 x, .int .i64 (y * 1000)] 2) := by rw [hls]; rfl
        have HCE := Lib.hid (cellBuilt w4 ls)
        rw [hal] at HCE
        have HBA : Hid (Below w4.heap.size w4 (w4.alloc (.cells #[.int .i64 0, .int .i64 1, .int .i64 2, .int .i64 999999, .int .i64 500000, .int .i64 x, .int .i64 (y * 1000)] 2))) := Lib.hid ((Below.refl _ _).alloc (Nat.le_refl _) _)
        have HAM := fun (a1 : _) (a2 : _) (a3 : _) => srcAmong g k4 n B w4.heap.size v s4 ls (w4.alloc (.cells #[.int .i64 0, .int .i64 1, .int .i64 2, .int .i64 999999, .int .i64 500000, .int .i64 x, .int .i64 (y * 1000)] 2)) a1 a2 hg (by omega) (by omega) a3 HCE.out (by omega) (by omega)
        rw [hll] at HAM
        have HAMH := Lib.hid HAM
        clear hc4 hb4 ho4 hal HAM hls
        go_wp2_with fail
        refine (HAMH.out (HC4.out.below HBA.out (by omega)) ((HV.out.below HB4.out hg).below HBA.out (by omega)) (by simp)).mono ?_
        rintro e w5 ⟨z, s5, k5, rfl, hz, hk5, hc5, hb5, ho5⟩
        have HZ := Lib.hid (HLI.out z hz)
        have HC5 := Lib.hid hc5
        have HB5 : Hid (Below g w w5) := Lib.hid ((HB4.out.trans (HBA.out.mono (by omega))).trans hb5)
        have HOn5 : Hid (Only (fun b => b = g) w w5) := Lib.hid ((HOn4.out.trans (belowOnly HBA.out)).trans ho5)
        have HO5 : Hid (Ow w5 w.heap.size w5.heap.size (.slice ga xs.length gc) xs) := Lib.hid (((HO4.out.below HBA.out (Nat.le_refl _)).onlyQ ho5 (fun b h1 h2 h3 => by omega)).up)
        clear hc5 hb5 ho5 hz
        have hown5 := HO5.out.row
        have hsz5 := HOn5.out.size
        go_wp2_with (at_builtin; refine wpList_append_own _ rfl _ _ 24 rfl w.heap.size 2 i0 (.int .i64 0) 1 8 Try.underlying24 hi hz0 hz1 hz2 rfl (by decide) _ _ _ rfl (hown5.alloc _) ⟨_, 0, none⟩ 1 1 [.int .i64 z] rfl rfl ?c1 ?c2 ?c3 ?c4 ?c5 ?_)
        case c1 => exact cellNew _ _ _
        case c2 => first | exact oneCell _ | rfl
        case c3 => unfold maxLen; omega
        case c4 => omega
        case c5 => first | omega | (simp; omega)
        intro v6 w6 hown6 hgrow6 _
        obtain ⟨q1, q2⟩ := HO5.out.snoc (x := z) (by have := HZ.out; omega) (by omega) (by simpa using hown6) hgrow6
        have HO6 := Lib.hid q1
        have HC6 := Lib.hid (HC5.out.below q2 hgs)
        have HB6 := Lib.hid (HB5.out.trans (q2.mono (by omega)))
        have HOn6 : Hid (Only (fun b => b = g) w w6) := Lib.hid ⟨HOn5.out.os.symm ▸ q2.os, HOn5.out.tape.symm ▸ q2.tape, HOn5.out.output.symm ▸ q2.output, Nat.le_trans HOn5.out.size q2.size, fun b hb hn => (q2.block b hb).trans (HOn5.out.block b hb hn)⟩
        have HI6 := Lib.hid (fits_all HIN.out HZ.out.1 HZ.out.2)
        clear hown6 hgrow6 hown5 q1 q2
        go_wp2
        go_roundw
        case rel => exact ⟨j - 1, k5, s5, xs ++ [z], v6, rfl, by first | (go_num; omega) | go_num, by simp; omega, by simp; omega, HI6.out, HO6.out, HC6.out, HB6.out, HOn6.out⟩
        case measure => simp [intOf]; omega
      · have hp' : ¬ (0 : Int) < (j : Int) := by omega
        go_wp2_with fail
        refine (srcOne g kk n B v s 12 _ HC.out (HV.out.below HB.out hg) hg (by omega) (by omega) (by omega)).mono ?_
        rintro e w3 ⟨b, s3, k3, rfl, hk3, hc3, hb3, ho3⟩
        have HC3 := Lib.hid hc3
        have HB3 := Lib.hid (HB.out.trans hb3)
        have HOn3 := Lib.hid (HOn.out.trans ho3)
        have HO3 : Hid (Ow w3 w.heap.size w3.heap.size (.slice ga xs.length gc) xs) := Lib.hid ((HO.out.onlyQ ho3 (fun b h1 h2 h3 => by omega)).up)
        clear hc3 hb3 ho3
        cases b with
        | false =>
          go_wp2_with fail
          refine (specTrim _ xs _ _ _ HO3.out).mono ?_
          rintro e w4 ⟨u, rfl, hu, rfl⟩
          have HU := Lib.hid hu
          clear hu
          go_wp2
          go_ret
          exact ⟨u, trim xs, s3, k3, rfl, trim_natB HIN.out (by omega), by omega, HU.out, HC3.out, HB3.out, HOn3.out⟩
        | true =>
          go_wp2
          go_loopw [3] (fun o wr => ∃ (xs : List Int) (ov : Value), o = ov ∧ xs.length ≤ 40 ∧ (∀ y ∈ xs, 0 ≤ y ∧ y < 1000000) ∧ Ow wr w.heap.size wr.heap.size ov xs ∧ Cels wr g 56 [v, .int .i64 (k3 : Int), .int .u64 s3] ∧ Below g w wr ∧ Only (fun b => b = g) w wr) (fun o _ => 40 - slLen o)
          case atStart => exact ⟨xs, _, rfl, by omega, HIN.out, HO3.out, HC3.out, HB3.out, HOn3.out⟩
          case round =>
            obtain ⟨ys, ov, hov, hyl, hin, how, hcl, hbel, hon⟩ := hrel
            obtain rfl := hov.symm
            have HY := Lib.hid how
            have HYC := Lib.hid hcl
            have HYB := Lib.hid hbel
            have HYOn := Lib.hid hon
            have HYIN := Lib.hid hin
            have hszy := hon.size
            obtain ⟨ya, yc, hu⟩ := how.shape
            subst hu
            clear hin how hcl hbel hon
            by_cases hq : ys.length < 40
            · have hq' : (ys.length : Int) < 40 := by omega
              have hownY := HY.out.row
              go_wp2_with (at_builtin; refine wpList_append_own _ rfl _ _ 24 rfl w.heap.size 2 i0 (.int .i64 0) 1 8 Try.underlying24 hi hz0 hz1 hz2 rfl (by decide) _ _ _ rfl (hownY.alloc _) ⟨_, 0, none⟩ 1 1 [.int .i64 999999] rfl rfl ?e1 ?e2 ?e3 ?e4 ?e5 ?_)
              case e1 => exact cellNew _ _ _
              case e2 => first | exact oneCell _ | rfl
              case e3 => unfold maxLen; omega
              case e4 => omega
              case e5 => first | omega | (simp; omega)
              intro v6 w6 hown6 hgrow6 _
              obtain ⟨q1, q2⟩ := HY.out.snoc (x := 999999) (by omega) (by omega) (by simpa using hown6) hgrow6
              have HO6 := Lib.hid q1
              have HC6 := Lib.hid (HYC.out.below q2 hgs)
              have HB6 := Lib.hid (HYB.out.trans (q2.mono (by omega)))
              have HOn6 : Hid (Only (fun b => b = g) w w6) := Lib.hid ⟨HYOn.out.os.symm ▸ q2.os, HYOn.out.tape.symm ▸ q2.tape, HYOn.out.output.symm ▸ q2.output, Nat.le_trans HYOn.out.size q2.size, fun b hb hn => (q2.block b hb).trans (HYOn.out.block b hb hn)⟩
              have HI6 := Lib.hid (fits_all (z := 999999) HYIN.out (by omega) (by omega))
              obtain ⟨xa, xc, hu6⟩ := HO6.out.shape
              subst hu6
              clear hown6 hgrow6 hownY q1 q2
              go_wp2
              go_roundw
              case rel => exact ⟨ys ++ [999999], _, rfl, by simp; omega, HI6.out, HO6.out, HC6.out, HB6.out, HOn6.out⟩
              case measure => simp [slLen]; omega
            · have hq' : ¬ (ys.length : Int) < 40 := by omega
              go_wp2_with fail
              refine (specTrim _ ys _ _ _ HY.out).mono ?_
              rintro e w4 ⟨u, rfl, hu, rfl⟩
              have HU := Lib.hid hu
              clear hu
              go_wp2
              go_ret
              exact ⟨u, trim ys, s3, k3, rfl, trim_natB HYIN.out hyl, by omega, HU.out, HYC.out, HYB.out, HYOn.out⟩
end
section
set_option linter.unusedVariables false
set_option linter.unusedSimpArgs false
theorem unA_le {N : Int} (h : 0 ≤ N) : 0 ≤ unA N ∧ unA N ≤ N := by
  obtain ⟨_, s2, s3, s4, s5, _, _⟩ := un_spec h
  have e := tri_two s2
  have e2 : unA N = unT N - unB N := rfl
  have e3 : unB N = N - triV (unT N) := rfl
  rcases Int.lt_or_eq_of_le s2 with h1 | h1
  · have h2 := Int.mul_le_mul_of_nonneg_left (a := 1) (b := unT N) (c := unT N) (by omega) (by omega)
    omega
  · omega
theorem pr_spec {xs : List Int} (hx : natB xs = true) : ∃ a b, upA xs = a ∧ upB xs = b ∧ rtC xs = 0 ∧ prL a b = xs ∧ prC a b = 0 := by
  obtain ⟨cx, lx⟩ := natB_can hx
  have nx := nn_of cx lx
  obtain ⟨h1, h2⟩ := unA_le nx.nn
  have na : Nn 40 (unA (val xs)) := ⟨h1, by have := nx.lt; omega⟩
  have nb := (nn_un nx).2.2.2.2.2.2.1
  obtain ⟨e1, e2⟩ := pr_good (can_natB na.can.1 na.can.2.2) (can_natB nb.can.1 nb.can.2.2)
  rw [na.can.2.1, nb.can.2.1, pair_un, canOf_val cx] at e1 e2
  exact ⟨_, _, if_pos hx, if_pos hx, if_pos hx, by rw [e1, fitL, if_pos lx], by rw [e2, fitC, if_pos lx]⟩
theorem tn_spec {ss : List (List Int)} (ha : allN ss = true) (h1 : 1 ≤ ss.length) (h5 : ss.length ≤ 5) : (tnR ss).2 = 5 ∨ ∃ t, (tnR ss).1 = t ∧ (tnR ss).2 = 0 ∧ (toR t (ss.length : Int)).1 = ss ∧ (toR t (ss.length : Int)).2 = 0 := by
  have e : tnR ss = optF (tpF ss) := by rw [tnR, if_neg (by rw [ha]; simp), if_neg (by omega)]
  cases et : tpF ss with
  | none => left; rw [e, et]; rfl
  | some t =>
    right
    have hn := tpF_nat ss t ha et
    have hr : toR t (ss.length : Int) = (tfL ((ss.length : Int) - 1).toNat (val t), 0) := by rw [toR, if_neg (by rw [hn]; simp), if_neg (by omega)]
    rw [show ((ss.length : Int) - 1).toNat = ss.length - 1 by omega, tpF_inv ss t ha et] at hr
    exact ⟨t, by rw [e, et]; rfl, by rw [e, et]; rfl, by rw [hr], by rw [hr]⟩
theorem sq_spec {ss : List (List Int)} (ha : allN ss = true) (h5 : ss.length ≤ 5) : (sqR ss).2 = 5 ∨ ∃ z, (sqR ss).1 = z ∧ (sqR ss).2 = 0 ∧ (soR z).1 = ss ∧ (soR z).2 = 0 := by
  have e : sqR ss = optF (sqF ss) := by rw [sqR, if_neg (by rw [ha]; simp), if_neg (by omega)]
  cases et : sqF ss with
  | none => left; rw [e, et]; rfl
  | some z =>
    right
    have hn := sqF_nat ss z ha et
    have hr : soR z = (ss, 0) := by rw [soR, if_neg (by rw [hn]; simp), sqF_inv 8 ss z ha (by omega) et]; rfl
    exact ⟨z, by rw [e, et]; rfl, by rw [e, et]; rfl, by rw [hr], by rw [hr]⟩
set_option maxHeartbeats 2000000 in
theorem b10Nat (v : Value) (n : Nat) (w : World) (hv : RdB w w.heap.size v n) :
    Calls Try.prog 5 #[v] w fun e w' => ∃ (u1 u2 : Value) (xs ys : List Int), e = .returned (.tuple #[u1, u2]) ∧ natB xs = true ∧ natB ys = true ∧ Rd w' u1 xs ∧ Rd w' u2 ys ∧ Below w.heap.size w w' := by
  have HV := Lib.hid hv
  obtain ⟨_, _, a, c, rfl, _, _⟩ := hv
  go_enter Try.func5, Try.ntmps5
  go_wp2_with fail
  refine (srcFrom a n c _).mono ?_
  rintro e w1 ⟨rfl, hc1, hb1, hs1⟩
  have HC1 := Lib.hid hc1
  have HB1 := Lib.hid hb1
  have HS1 := Lib.hid hs1
  clear hc1 hb1 hs1
  go_wp2_with fail
  refine (specDraw w.heap.size 0 n w.heap.size _ 0 _ HC1.out (HV.out.below HB1.out (Nat.le_refl _)) (Nat.le_refl _) (by omega)).mono ?_
  rintro e w2 ⟨u1, xs, s2, k2, rfl, hn1, hk2, ho2, hc2, hb2, hon2⟩
  have HN1 := Lib.hid hn1
  have HC2 := Lib.hid hc2
  have HO2 := Lib.hid ho2
  have HB2 := Lib.hid (HB1.out.trans hb2)
  have hs2 : w.heap.size + 1 ≤ w2.heap.size := by have := hb2.size; have := HS1.out; omega
  clear ho2 hc2 hb2 hon2 hn1
  go_wp2_with fail
  refine (specDraw w.heap.size k2 n w.heap.size _ s2 _ HC2.out (HV.out.below HB2.out (Nat.le_refl _)) (Nat.le_refl _) (by omega)).mono ?_
  rintro e w3 ⟨u2, ys, s3, k3, rfl, hn2, hk3, ho3, hc3, hb3, hon3⟩
  have HN2 := Lib.hid hn2
  have HR2 := Lib.hid ho3.rd
  have HR1 : Hid (Rd w3 u1 xs) := Lib.hid (HO2.out.onlyQ hon3 (fun b h1 h2 h3 => by have := HS1.out; omega)).rd
  have HB3 := Lib.hid (HB2.out.trans hb3)
  clear ho3 hc3 hb3 hon3 hn2
  go_wp2
  go_ret2
  exact ⟨u1, u2, xs, ys, rfl, HN1.out, HN2.out, HR1.out, HR2.out, HB3.out⟩
set_option maxHeartbeats 1000000 in
theorem b10Rows (u v : Value) (ts : List (List Int)) (w : World) (hu : RdL w u ts) (hv : RdL w v ts) :
    Calls Try.prog 16 #[u, v] w fun e w' => e = .returned (.bool true) ∧ Below w.heap.size w w' := by
  obtain ⟨hl, a, c, rfl, hcap, hr⟩ := hu
  obtain ⟨_, a', c', rfl, _, hr'⟩ := hv
  go_enter Try.func16, Try.ntmps16
  go_wp2
  go_loopw [5] (fun s wr => ∃ k : Nat, k ≤ ts.length ∧ s = .int .i64 k ∧ Below w.heap.size w wr) (fun s _ => ts.length - (intOf s).toNat)
  case atStart => exact ⟨0, Nat.zero_le _, rfl, Below.refl _ _⟩
  case round =>
    obtain ⟨k, hk, rfl, hbel⟩ := hrel
    by_cases hlt : k < ts.length
    · obtain ⟨b, o, rfl, hb, hcell⟩ := hr (by intro h0; rw [h0] at hlt; simp at hlt)
      obtain ⟨b', o', rfl, hb', hcell'⟩ := hr' (by intro h0; rw [h0] at hlt; simp at hlt)
      obtain ⟨x, c0, hx⟩ := hcell k hlt
      obtain ⟨x', d0, hx'⟩ := hcell' k hlt
      replace c0 := (hbel.cell (p := ⟨b, o + k, none⟩) hb).trans c0
      replace d0 := (hbel.cell (p := ⟨b', o' + k, none⟩) hb').trans d0
      have HX := Lib.hid (hx.below hbel (Nat.le_refl _))
      have HX' := Lib.hid (hx'.below hbel (Nat.le_refl _))
      have HB := Lib.hid hbel
      have i0 : (0 : Int) ≤ (k : Int) := by omega
      have i1 : (k : Int) < (ts.length : Int) := by omega
      have HC : Hid (∀ W, Below wr.heap.size wr W → W.cell? ⟨b, o + k, none⟩ = some x ∧ W.cell? ⟨b', o' + k, none⟩ = some x') := Lib.hid (fun W hW => by
        have hb1 : b < wr.heap.size := World.block_lt_of_cell? wr _ c0
        have hb2 : b' < wr.heap.size := World.block_lt_of_cell? wr _ d0
        exact ⟨(hW.cell (p := ⟨b, o + k, none⟩) hb1).trans c0, (hW.cell (p := ⟨b', o' + k, none⟩) hb2).trans d0⟩)
      have HXX : Hid (Below wr.heap.size wr wr.drew) := Lib.hid (Below.refl _ _).drew
      have HW : Hid (Below w.heap.size w wr.drew) := Lib.hid HB.out.drew
      clear hcell hcell' hr hr' hbel hx hx' c0 d0
      go_wp2_with fail
      go_region_held3 (fun w' => w'.cell? ⟨b, o + k, none⟩ = some x ∧ w'.cell? ⟨b', o' + k, none⟩ = some x')
        (exact HC.out _ HXX.out)
        (first | (go_at_call 8; refine (b10Nums _ _ _ _ (HX.out.below HXX.out (Nat.le_refl _)) (HX'.out.below HXX.out (Nat.le_refl _))).mono ?_; rintro e3 w3 ⟨rfl, hb3⟩; replace HW := Lib.hid (HW.out.trans (hb3.mono HW.out.size)); replace HXX := Lib.hid (HXX.out.trans (hb3.mono HXX.out.size)); clear hb3))
      all_goals
        go_wp2
        go_roundw
        case rel => exact ⟨k + 1, by omega, by go_num, HW.out⟩
        case measure => simp [intOf]; omega
    · obtain rfl : k = ts.length := by omega
      have HB := Lib.hid hbel
      clear hbel
      have hnlt : ¬ ((ts.length : Int) < (ts.length : Int)) := by omega
      go_wp2
      go_ret
      exact ⟨rfl, HB.out⟩
theorem limbs_small {x : Int} (h0 : 0 ≤ x) (h1 : x < 40) : natB (limbs x) = true := limbs_natB h0 (by omega)
theorem allN_snoc {ts : List (List Int)} {x : List Int} (h : allN ts = true) (hx : natB x = true) : allN (ts ++ [x]) = true := by
  simp only [allN, List.all_append, Bool.and_eq_true] at h ⊢
  exact ⟨h, by simpa using hx⟩
theorem GrQ.onlyG {w w' : World} {B g : Nat} {v : Value} {ts : List (List Int)} (h : GrQ w B v ts) (k : Only (fun b => b = g) w w') (hg : g < B) : GrQ w' B v ts := by
  obtain ⟨cs, ho, hc, hq⟩ := h
  refine ⟨cs, ⟨ho.1, ?_⟩, fun i hi => ?_, hq⟩
  · rcases ho.2 with hn | ⟨g', cap, cur, hv, hbb, hgg, rest⟩
    · exact .inl hn
    · refine .inr ⟨g', cap, cur, hv, hbb, ?_, rest⟩
      rw [k.block g' (Array.getElem?_eq_some_iff.1 hgg).1 (by omega)]; exact hgg
  · obtain ⟨u, q0, q2⟩ := hc i hi
    exact ⟨u, q0, (q2.onlyQ k (fun b h1 h2 h3 => by omega)).up⟩
set_option maxHeartbeats 4000000 in
theorem b10Smalls (v : Value) (n : Nat) (w : World) (hv : RdB w w.heap.size v n) :
    Calls Try.prog 9 #[v] w fun e w' => ∃ (u : Value) (ss : List (List Int)), e = .returned u ∧ allN ss = true ∧ 1 ≤ ss.length ∧ ss.length ≤ 5 ∧ RdL w' u ss ∧ Below w.heap.size w w' := by
  obtain ⟨i0, hi, hz0, hz1, hz2⟩ := info_parts infoQ
  have HV := Lib.hid hv
  obtain ⟨_, _, a, c, rfl, _, _⟩ := hv
  go_enter Try.func9, Try.ntmps9
  go_wp2_with fail
  refine (srcFrom a n c _).mono ?_
  rintro e w1 ⟨rfl, hc1, hb1, hs1⟩
  have HC1 := Lib.hid hc1
  have HB1 := Lib.hid hb1
  have HBA : Hid (Below w1.heap.size w1 (w1.alloc (.cells #[] 24))) := Lib.hid ((Below.refl _ _).alloc (Nat.le_refl _) _)
  have HMD : Hid (GrQ (w1.alloc (.cells #[] 24)) (w.heap.size + 1) (.slice (some ⟨w1.heap.size, 0, none⟩) 0 0) []) := Lib.hid ⟨[], World.ownsRow_made w1 #[] 0 (by omega) (by unfold maxLen; omega) (by simp), fun i hi => by simp at hi, fun i j x y _ hj => by simp at hj⟩
  have hs1' : w.heap.size + 1 ≤ w1.heap.size := by omega
  clear hc1 hb1 hs1
  go_wp2_with fail
  refine (srcPickW w.heap.size 0 n w.heap.size _ 0 5 _ (HC1.out.below HBA.out (by omega)) ((HV.out.below HB1.out (Nat.le_refl _)).below HBA.out (by omega)) (Nat.le_refl _) (by omega) (by omega) (by omega)).mono ?_
  rintro e w2 ⟨y, s2, k2, rfl, y0, y1, hk2, hc2, hb2, hon2⟩
  obtain ⟨j0, rfl⟩ : ∃ j : Nat, y = (j : Int) := ⟨y.toNat, by omega⟩
  have HC2 := Lib.hid hc2
  have HB2 := Lib.hid ((HB1.out.trans (HBA.out.mono (by omega))).trans hb2)
  have HG2 := Lib.hid (HMD.out.onlyG hon2 (by omega))
  have HSZ2 : Hid (w.heap.size + 1 ≤ w2.heap.size) := Lib.hid (by have := hon2.size; simp at this; omega)
  clear hc2 hb2 hon2
  go_wp2
  go_loopw [4, 5] (fun o q wr => ∃ (m k : Nat) (s : Int) (ts : List (List Int)) (ov : Value), o = ov ∧ q = .int .i64 ((m : Int) - 1) ∧ m + ts.length = j0 + 1 ∧ k ≤ 2 + 2 * ts.length ∧ allN ts = true ∧ w.heap.size + 1 ≤ wr.heap.size ∧ GrQ wr (w.heap.size + 1) ov ts ∧ Cels wr w.heap.size 56 [.slice a n c, .int .i64 (k : Int), .int .u64 s] ∧ Below w.heap.size w wr) (fun _ q _ => (intOf q + 1).toNat)
  case atStart => exact ⟨j0 + 1, k2, s2, [], _, rfl, by go_num, by simp, by simpa using hk2, rfl, HSZ2.out, HG2.out, HC2.out, HB2.out⟩
  case round =>
    clear HC1 HB1 HBA HMD HC2 HB2 HG2 HSZ2
    obtain ⟨m, k, s, ts, ov, hov, hqv, hm, hk, hal, hsz, hgr, hcl, hbel⟩ := hrel
    obtain rfl := hov.symm
    have HGR := Lib.hid hgr
    have HC := Lib.hid hcl
    have HB := Lib.hid hbel
    have HAL := Lib.hid hal
    obtain ⟨go, gp, hov2⟩ := hgr.shape
    subst hov2
    clear hgr hcl hbel hal
    cases m with
    | zero =>
      obtain rfl := hqv
      have p1 : ¬ (0 : Int) ≤ ((0 : Nat) : Int) - 1 := by omega
      have HR : Hid (RdL wr (.slice go ts.length gp) ts) := Lib.hid (HGR.out.own (by omega) hsz).rdl
      go_wp2
      go_ret
      exact ⟨_, rfl, ts, HAL.out, by omega, by omega, HR.out, HB.out⟩
    | succ m =>
      rw [show (((m + 1 : Nat) : Int) - 1) = (m : Int) by omega] at hqv
      obtain rfl := hqv
      have p1 : (0 : Int) ≤ (m : Int) := by omega
      go_wp2_with fail
      refine (srcPickW w.heap.size k n w.heap.size _ s 40 _ HC.out (HV.out.below HB.out (Nat.le_refl _)) (Nat.le_refl _) (by omega) (by omega) (by omega)).mono ?_
      rintro e w3 ⟨x, s3, k3, rfl, x0, x1, hk3, hc3, hb3, hon3⟩
      have HC3 := Lib.hid hc3
      have HB3 := Lib.hid (HB.out.trans hb3)
      have HG3 := Lib.hid (HGR.out.onlyG hon3 (by omega))
      have hsz3 := Nat.le_trans hsz hon3.size
      clear hc3 hb3 hon3
      go_wp2_with fail
      refine (specLimbs x _ x0 (by omega)).mono ?_
      rintro e w4 ⟨u, rfl, ho, hb⟩
      obtain ⟨ga, gc, hu⟩ := ho.shape
      subst hu
      have HO := Lib.hid ho
      have HB4' := Lib.hid hb
      have HC4 := Lib.hid (HC3.out.below hb (by omega))
      have HB4 := Lib.hid (HB3.out.trans (hb.mono (by omega)))
      obtain ⟨cs, hown, HCQ, HSQ⟩ := HG3.out.open
      have HOW := Lib.hid hown
      have hown1 := ownQ_below hown hb (Nat.le_refl _)
      have HOW1 := Lib.hid hown1
      have hsz4 := Nat.le_trans hsz3 hb.size
      have hlen0 : ts.length ≤ 8 := by omega
      clear ho hb hown
      go_wp2_with (at_builtin; refine wpList_append_own _ rfl _ _ 32 rfl (w.heap.size + 1) 24 i0 (.slice none 0 0) 1 24 Try.underlying32 hi hz0 hz1 hz2 rfl (by decide) _ _ _ rfl (hown1.alloc _) ⟨_, 0, none⟩ 1 1 [.slice ga (limbs x).length gc] rfl rfl ?c1 ?c2 ?c3 ?c4 ?c5 ?_)
      case c1 => exact cellNew1 _ _ _
      case c2 => first | rfl | (intro u hu; simp at hu; subst hu; rfl)
      case c3 => unfold maxLen; omega
      case c4 => omega
      case c5 => first | omega | (simp; omega)
      intro v' w5 hown5 hgrow _
      have HBA : Hid (Below w3.heap.size w3 (w4.alloc (Obj.cells #[.slice ga (limbs x).length gc] 24))) := Lib.hid (HB4'.out.alloc HB4'.out.size _)
      have hbw : Below w4.heap.size w4 (w4.alloc (Obj.cells #[.slice ga (limbs x).length gc] 24)) := (Below.refl _ _).alloc (Nat.le_refl _) _
      have HGR5 : Hid (GrQ w5 (w.heap.size + 1) v' (ts ++ [limbs x])) := Lib.hid
        (rowsQ_snoc HCQ.out HSQ.out HBA.out hsz3 (HOW1.out.alloc _) (HO.out.below hbw (Nat.le_refl _)).up hgrow hown5)
      have hb5 : Below (w.heap.size + 1) w4 w5 := (hbw.mono hsz4).grown hgrow (by simp; omega) (fun q hq => (HOW1.out.lt q hq).1)
      have HC5 := Lib.hid (HC4.out.below hb5 (Nat.lt_succ_self _))
      have HB5 := Lib.hid (HB4.out.trans (hb5.mono (Nat.le_succ _)))
      have HSZ5 : Hid (w.heap.size + 1 ≤ w5.heap.size) := Lib.hid (Nat.le_trans hsz4 hb5.size)
      have HAL5 := Lib.hid (allN_snoc HAL.out (limbs_small x0 x1))
      clear hown5 hgrow hown1 hb5
      go_wp2
      go_roundw
      case rel => exact ⟨m, k3, s3, ts ++ [limbs x], _, rfl, by go_num, by simp; omega, by simp; omega, HAL5.out, HSZ5.out, HGR5.out, HC5.out, HB5.out⟩
      case measure => simp [intOf]
end
end Go.Proofs.Ytcpipakpkmfhlaa.Ints
