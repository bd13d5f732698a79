/- Lists of lists in memory, and the laws' own helpers on them. -/
import Derived.Test.YtbifkjmmhfnblaaDoorCel
import Derived.Test.YtbifkjmmhfnblaaDoorRdL
import Derived.ChangeSame
import Derived.Lib.Hide
import Derived.Deep.RegionHeld3
namespace Go.Proofs.YtbifkjmmhfnblaaDoor.Ints
open Go.RowKit
set_option linter.unusedVariables false
set_option linter.unusedSimpArgs false
/-- A list as it comes in. -/
structure Qin where
  a : Option Addr
  n : Nat
  c : Nat
  z : List Int
def qin0 : Qin := ⟨none, 0, 0, []⟩
def Qin.q (t : Qin) : List Int := t.z.take t.n
def IsLists (w : World) (a : Option Addr) (len cap : Nat) (zs : List Qin) : Prop :=
  (a = none ∧ len = 0 ∧ cap = 0 ∧ zs = []) ∨
  ∃ x, a = some x ∧ len ≤ cap ∧ cap ≤ maxLen ∧ zs.length = cap ∧ ∀ i, i < zs.length →
    w.cell? (x.add i) = some (.slice (zs.getD i qin0).a (zs.getD i qin0).n (zs.getD i qin0).c) ∧ IsList w (zs.getD i qin0).a (zs.getD i qin0).n (zs.getD i qin0).c (zs.getD i qin0).z
theorem IsLists.le {w : World} {a : Option Addr} {len cap : Nat} {zs : List Qin} (h : IsLists w a len cap zs) : (len : Int) ≤ 9223372036854775807 := by
  rcases h with ⟨_, h, _, _⟩ | ⟨_, _, h1, h2, _⟩
  · omega
  · unfold maxLen at h2; omega
theorem cellKeptQ {w : World} {v : Value} (o : Obj) {p : Addr} (h : w.cell? p = some v) : (w.alloc o).cell? p = some v := cellOld o p h (World.block_lt_of_cell? w _ h)
theorem IsList.allocQ {w : World} {a : Option Addr} {len cap : Nat} {zs : List Int} (h : IsList w a len cap zs) (o : Obj) : IsList (w.alloc o) a len cap zs := by
  rcases h with h | ⟨x, h0, h1, h2, h3, h4, h5⟩
  · exact .inl h
  · exact .inr ⟨x, h0, h1, h2, h3, fun i hi => cellKeptQ o (h4 i hi), h5⟩
theorem IsLists.alloc {w : World} {a : Option Addr} {len cap : Nat} {zs : List Qin} (h : IsLists w a len cap zs) (o : Obj) : IsLists (w.alloc o) a len cap zs := by
  rcases h with h | ⟨x, h0, h1, h2, h3, h4⟩
  · exact .inl h
  · exact .inr ⟨x, h0, h1, h2, h3, fun i hi => ⟨cellKeptQ o (h4 i hi).1, (h4 i hi).2.allocQ o⟩⟩
section
open Go.ChangeShapes Go.WideShapes Go.Deep
set_option maxRecDepth 100000 in
theorem open_lists {H : Type} {enc : TypeId × Value → H} {w : World} {base : Nat} {held : Bool} {fuel : Nat} {cs : List Value} {x : DataW H × List MemPlace}
    (h : DataW.trod enc Tryd.prog w base (fun _ => true) held fuel 51 cs = some x) : ∃ a len cap zs, cs = [.slice a len cap] ∧ IsLists w a len cap zs := by
  rcases open_slice Tryd.underlying51 h with ⟨rfl, _⟩ | ⟨a, len, cap, m, n, D, Pl, rfl, hb, hl, hm, hmm, _, hi⟩
  · exact ⟨none, 0, 0, [], rfl, .inl ⟨rfl, rfl, rfl, rfl⟩⟩
  · have hmc : m = cap := by simpa using hmm
    have hC : Tryd.prog.cellsOf 22 = 1 := by kernel_rfl
    have each : ∀ i, i < cap → ∃ t : Qin, IsList w t.a t.n t.c t.z ∧ w.cell? (a.add i) = some (.slice t.a t.n t.c) := fun i hic => by
      obtain ⟨cs', hc, ht⟩ := hi i (by omega)
      rw [hC, Nat.mul_one] at hc
      obtain ⟨_, hcl, hat⟩ := World.cells?_some hc
      obtain ⟨a0, n0, k0, z0, e0, f0⟩ := open_list ht
      subst e0
      have q0 := hat 0 (by simp)
      rw [Go.Deep.add_add] at q0
      exact ⟨⟨a0, n0, k0, z0⟩, f0, by simpa using q0⟩
    obtain ⟨f, hf⟩ : ∃ f : Nat → Qin, ∀ i, i < cap → IsList w (f i).a (f i).n (f i).c (f i).z ∧ w.cell? (a.add i) = some (.slice (f i).a (f i).n (f i).c) :=
      ⟨fun i => if h : i < cap then Classical.choose (each i h) else qin0, fun i h => by simp only [dif_pos h]; exact Classical.choose_spec (each i h)⟩
    refine ⟨some a, len, cap, (List.range cap).map f, rfl, .inr ⟨a, rfl, hl, hm, by simp, fun i hi => ?_⟩⟩
    have hi' : i < cap := by simpa using hi
    have e : ((List.range cap).map f).getD i qin0 = f i := by simp [List.getD_eq_getElem?_getD, hi']
    rw [e]
    exact ⟨(hf i hi').2, (hf i hi').1⟩
end
/-- What is left behind the lists' sizes; -1 if that is not enough. -/
def szQ : Int → List Qin → Int
  | L, [] => L
  | L, t :: ts => if L - (t.n : Int) < 0 then -1 else szQ (L - (t.n : Int)) ts
theorem szQ_le (ts : List Qin) : ∀ L : Int, szQ L ts ≤ L ∨ szQ L ts = -1 := by
  induction ts with
  | nil => intro L; exact .inl (Int.le_refl _)
  | cons t ts ih =>
    intro L
    rw [szQ]
    split
    · exact .inr rfl
    · rcases ih (L - (t.n : Int)) with h | h
      · exact .inl (by omega)
      · exact .inr h
theorem szQ_good (ts : List Qin) : ∀ L : Int, 0 ≤ szQ L ts → L ≤ 1048576 → ∀ t ∈ ts, t.n ≤ 1048576 := by
  induction ts with
  | nil => intro L _ _ t ht; cases ht
  | cons t ts ih =>
    intro L h hL u hu
    rw [szQ] at h
    split at h
    · omega
    · rcases List.mem_cons.1 hu with rfl | hu
      · omega
      · exact ih _ h (by omega) u hu
def szL (L : Int) (len : Nat) : Int := if L - (len : Int) < 0 then -1 else L - (len : Int)
def szQV (L : Int) (len : Nat) (zs : List Qin) : Int := if L - (len : Int) < 0 then -1 else szQ (L - (len : Int)) (zs.take len)
/-- Lists that came in and are not too many and not too long. -/
theorem rdl_of_row {w : World} {a : Option Addr} {len cap : Nat} {zs : List Qin} (h : IsLists w a len cap zs) (hl : len ≤ 1048576) (hs : ∀ t ∈ zs.take len, t.n ≤ 1048576) :
    RdL w (.slice a len cap) ((zs.take len).map Qin.q) := by
  rcases h with ⟨rfl, rfl, rfl, rfl⟩ | ⟨x, rfl, h1, h2, h3, hc⟩
  · exact ⟨by simp, none, 0, by simp, by simp, fun h => absurd rfl h⟩
  · have hlen : ((zs.take len).map Qin.q).length = len := by simp; omega
    refine ⟨by omega, some x, cap, by rw [hlen], by omega, fun hne => ?_⟩
    have hpos : 0 < len := by
      rcases Nat.eq_zero_or_pos len with h0 | h0
      · subst h0; simp at hne
      · exact h0
    obtain ⟨b, off, spot⟩ := x
    have h0 := (hc 0 (by omega)).1
    have hspot : spot = none := by simpa [Addr.add] using World.cell?_spot h0
    subst hspot
    refine ⟨b, off, rfl, World.block_lt_of_cell? w _ h0, fun i hi => ?_⟩
    rw [hlen] at hi
    obtain ⟨q0, q2⟩ := hc i (by omega)
    have hm : zs.getD i qin0 ∈ zs.take len := by
      rw [List.getD_eq_getElem?_getD, List.getElem?_eq_getElem (by omega)]
      exact List.mem_take_iff_getElem.2 ⟨i, by omega, rfl⟩
    have s1 := hs _ hm
    have e : ((zs.take len).map Qin.q).getD i [] = (zs.getD i qin0).q := by
      simp only [List.getD_eq_getElem?_getD, List.getElem?_map, List.getElem?_take, if_pos hi]
      rw [List.getElem?_eq_getElem (by omega)]; rfl
    rw [e]
    rw [Addr.add_lit] at q0
    exact ⟨_, q0, rd_of_row q2 s1⟩
theorem rdl_of_sz {w : World} {a : Option Addr} {len cap : Nat} {zs : List Qin} {L : Int} (h : IsLists w a len cap zs) (hL : L ≤ 1048576) (hs : 0 ≤ szQV L len zs) :
    RdL w (.slice a len cap) ((zs.take len).map Qin.q) := by
  unfold szQV at hs
  split at hs
  · omega
  · exact rdl_of_row h (by omega) (szQ_good _ _ hs (by omega))
theorem szQV_le (L : Int) (len : Nat) (zs : List Qin) : szQV L len zs ≤ L ∨ szQV L len zs = -1 := by
  unfold szQV
  split
  · exact .inr rfl
  · rcases szQ_le (zs.take len) (L - (len : Int)) with h | h
    · exact .inl (by omega)
    · exact .inr h
theorem infoQ : (Tryd.prog.info? 22).map (fun i => (i.zero, i.size, i.bytes)) = some (some (.slice none 0 0), 1, 24) := by kernel_rfl
/-- What a store of a list into a row of the call's own asks and leaves. -/
theorem rowQ_open {w w1 : World} {B g c : Nat} {cs : List Value} {k n : Nat} (h : w.ownsRow B 22 1 (.slice (some ⟨g, 0, none⟩) n c) n cs) (hb : Below w.heap.size w w1) (hg : g < w.heap.size) (hk : k < n) (x : Value) :
    (∃ u, w1.cell? ⟨g, k, none⟩ = some u) ∧ w1.frozen? ⟨g, k, none⟩ = false ∧
    (w1.setCell ⟨g, k, none⟩ x).ownsRow B 22 1 (.slice (some ⟨g, 0, none⟩) n c) n (cs.set k x) ∧
    w1.grownBy (w1.setCell ⟨g, k, none⟩ x) (some g) ∧ cs.length = n ∧
    w1.ownsRow B 22 1 (.slice (some ⟨g, 0, none⟩) n c) n cs := by
  have hn : cs.length = n := by have := h.1; omega
  have h' : w1.ownsRow B 22 1 (.slice (some ⟨g, 0, none⟩) n c) n cs := by
    refine ⟨h.1, ?_⟩
    rcases h.2 with hn | ⟨g', cap, cur, hv, hbb, hgg, rest⟩
    · exact .inl hn
    · refine .inr ⟨g', cap, cur, hv, hbb, ?_, rest⟩
      cases hv
      rw [hb.block g hg]; exact hgg
  obtain ⟨h1, g1⟩ := h'.stored k x
  exact ⟨⟨_, (h'.cellAt _ (by omega)).trans (List.getElem?_eq_getElem (by omega))⟩, h'.frozenAt _, h1, g1, hn, h'⟩
/-- A row of numbers and a row of lists lie in different blocks. -/
theorem Ow.qapart {w : World} {B T B' g n c : Nat} {v : Value} {zs : List Int} {cs : List Value} (h : Ow w B T v zs) (k : w.ownsRow B' 22 1 (.slice (some ⟨g, 0, none⟩) n c) n cs) : v.ownBlock ≠ some g := by
  intro e
  rcases h.row.2 with ⟨rfl, _⟩ | ⟨g1, c1, cur1, rfl, _, hg1, _⟩
  · cases e
  · cases e
    rcases k.2 with ⟨hv, _⟩ | ⟨g2, c2, cur2, hv, _, hg2, _⟩
    · cases hv
    · cases hv
      rw [hg1] at hg2
      simp only [Option.some.injEq, Obj.cells.injEq] at hg2
      exact absurd hg2.2.1 (by decide)
/-- The first k lists of a row are copied. -/
def Coq (w : World) (B : Nat) (ts : List (List Int)) (cs : List Value) (k : Nat) : Prop :=
  ∀ i, i < k → ∃ x, cs[i]? = some x ∧ Ow w B w.heap.size x (ts.getD i [])
theorem Coq.step {w w1 : World} {B g n c k : Nat} {ts : List (List Int)} {cs : List Value} {x : Value} (h : Coq w B ts cs k) (hb : Below w.heap.size w w1) (hrow : w1.ownsRow B 22 1 (.slice (some ⟨g, 0, none⟩) n c) n cs) (hk : k < n) (hl : cs.length = n)
    (h0 : Ow w1 w.heap.size w1.heap.size x (ts.getD k [])) (hB : B ≤ w.heap.size) {W : World} (hg : w1.grownBy W (some g)) :
    Coq W B ts (cs.set k x) (k + 1) := by
  intro i hi
  by_cases e : i = k
  · subst e
    refine ⟨x, ?_, (h0.grown hg (Or.inr (h0.qapart hrow))).up.mono hB (Nat.le_refl _) (Nat.le_refl _)⟩
    rw [List.getElem?_set_self (by omega)]
  · obtain ⟨u, q0, q2⟩ := h i (by omega)
    have r2 := q2.below hb (Nat.le_refl _)
    refine ⟨u, ?_, (r2.grown hg (Or.inr (r2.qapart hrow))).up⟩
    rw [List.getElem?_set_ne (by omega)]; exact q0
/-- The rows lie apart from each other. -/
def SepQ (cs : List Value) (k : Nat) : Prop := ∀ (i j : Nat) (x y : Value), i < j → j < k → cs[i]? = some x → cs[j]? = some y → Sep x y
theorem SepQ.step {w w1 : World} {B k : Nat} {ts : List (List Int)} {cs : List Value} {x : Value} (h : SepQ cs k) (hc : Coq w B ts cs k) (hk : k < cs.length) (h0 : Ow w1 w.heap.size w1.heap.size x (ts.getD k [])) : SepQ (cs.set k x) (k + 1) := by
  intro i j a b hij hj ha hb
  rw [List.getElem?_set_ne (by omega)] at ha
  by_cases e : j = k
  · subst e
    rw [List.getElem?_set_self hk] at hb
    cases hb
    obtain ⟨u, q0, q2⟩ := hc i hij
    rw [q0] at ha
    cases ha
    exact sep_of q2.top h0.row.lt (Nat.le_refl _)
  · rw [List.getElem?_set_ne (by omega)] at hb
    exact h i j a b hij (by omega) ha hb
theorem Coq.rdl {w : World} {B g n c : Nat} {ts : List (List Int)} {cs : List Value} (h : Coq w B ts cs n) (hrow : w.ownsRow B 22 1 (.slice (some ⟨g, 0, none⟩) n c) n cs) (hn : n = ts.length) (hl : ts.length ≤ 1048576) : RdL w (.slice (some ⟨g, 0, none⟩) n c) ts := by
  subst hn
  have hcs : cs.length = ts.length := by have := hrow.1; omega
  have hlt := (hrow.lt g rfl).2
  have hc : ts.length ≤ c := by
    rcases hrow.2 with ⟨hv, _⟩ | ⟨g2, c2, cur2, hv, _, _, hh, _⟩
    · cases hv
    · cases hv; exact hh
  refine ⟨hl, _, _, rfl, hc, fun hne => ⟨g, 0, rfl, hlt, fun i hi => ?_⟩⟩
  obtain ⟨x, q0, q2⟩ := h i hi
  exact ⟨x, by rw [Nat.zero_add, hrow.cellAt _ (by omega)]; exact q0, q2.rd⟩
/-- A row of lists of the call's own, with all that lies below it. -/
def OwQ (w : World) (B : Nat) (v : Value) (ts : List (List Int)) : Prop :=
  ts.length ≤ 1048576 ∧ ∃ g c cs, v = .slice (some ⟨g, 0, none⟩) ts.length c ∧ w.ownsRow B 22 1 (.slice (some ⟨g, 0, none⟩) ts.length c) ts.length cs ∧ Coq w B ts cs ts.length ∧ SepQ cs ts.length
theorem OwQ.rdl {w : World} {B : Nat} {v : Value} {ts : List (List Int)} (h : OwQ w B v ts) : RdL w v ts := by
  obtain ⟨hl, g, c, cs, rfl, ho, hc, _⟩ := h
  exact hc.rdl ho rfl hl
theorem OwQ.apart {w : World} {B g' : Nat} {v : Value} {ts : List (List Int)} (h : OwQ w B v ts) (hg : g' < B) (j : Nat) (x : Value) : OwQ (w.setCell ⟨g', j, none⟩ x) B v ts := by
  obtain ⟨hl, g, c, cs, rfl, ho, hc, hs⟩ := h
  have hB := (ho.lt g rfl).1
  refine ⟨hl, g, c, cs, rfl, ho.kept (put1g w g' j x) (.inr (fun e => by have e2 : g = g' := Option.some.inj e; omega)), fun i hi => ?_, hs⟩
  obtain ⟨u, q0, q2⟩ := hc i hi
  exact ⟨u, q0, (q2.apartCell hg j x).up⟩
theorem OwQ.below {w w' : World} {B C : Nat} {v : Value} {ts : List (List Int)} (h : OwQ w B v ts) (hb : Below C w w') (hC : w.heap.size ≤ C) : OwQ w' B v ts := by
  obtain ⟨hl, g, c, cs, rfl, ho, hc, hsq⟩ := h
  have hg := (ho.lt g rfl).2
  refine ⟨hl, g, c, cs, rfl, ⟨ho.1, ?_⟩, fun i hi => ?_, hsq⟩
  · rcases ho.2 with hn | ⟨g', cap, cur, hv, hbb, hgg, rest⟩
    · exact .inl hn
    · refine .inr ⟨g', cap, cur, hv, hbb, ?_, rest⟩
      cases hv
      rw [hb.block g (by omega)]; exact hgg
  · obtain ⟨u, q0, q2⟩ := hc i hi
    exact ⟨u, q0, (q2.below hb hC).up⟩
theorem OwQ.shape {w : World} {B : Nat} {v : Value} {ts : List (List Int)} (h : OwQ w B v ts) : ∃ a c, v = .slice a ts.length c := by
  obtain ⟨_, g, c, _, rfl, _, _⟩ := h
  exact ⟨_, _, rfl⟩
set_option maxHeartbeats 1000000 in
theorem eqLists (u v : Value) (ts : List (List Int)) (w : World) (hu : RdL w u ts) (hv : RdL w v ts) :
    Calls Tryd.prog 73 #[u, v] w fun e w' => e = .returned (.bool true) ∧ Below w.heap.size w w' := by
  obtain ⟨hl, a, c, rfl, hcap, hr⟩ := hu
  obtain ⟨_, a', c', rfl, _, hr'⟩ := hv
  go_enter Tryd.func73, Tryd.ntmps73
  go_wp2
  go_loopw [5] (fun s wr => ∃ k : Nat, k ≤ ts.length ∧ s = .int .i64 k ∧ Below w.heap.size w wr) (fun s _ => ts.length - (intOf s).toNat)
  case atStart => exact ⟨0, Nat.zero_le _, rfl, Below.refl _ _⟩
  case round =>
    obtain ⟨k, hk, rfl, hbel⟩ := hrel
    by_cases hlt : k < ts.length
    · obtain ⟨b, o, rfl, hb, hcell⟩ := hr (by intro h0; rw [h0] at hlt; simp at hlt)
      obtain ⟨b', o', rfl, hb', hcell'⟩ := hr' (by intro h0; rw [h0] at hlt; simp at hlt)
      obtain ⟨x, c0, hx⟩ := hcell k hlt
      obtain ⟨x', d0, hx'⟩ := hcell' k hlt
      replace c0 := (hbel.cell (p := ⟨b, o + k, none⟩) hb).trans c0
      replace d0 := (hbel.cell (p := ⟨b', o' + k, none⟩) hb').trans d0
      have HX := Lib.hid (hx.below hbel (Nat.le_refl _))
      have HX' := Lib.hid (hx'.below hbel (Nat.le_refl _))
      have HB := Lib.hid hbel
      have i0 : (0 : Int) ≤ (k : Int) := by omega
      have i1 : (k : Int) < (ts.length : Int) := by omega
      have HC : Hid (∀ W, Below wr.heap.size wr W → W.cell? ⟨b, o + k, none⟩ = some x ∧ W.cell? ⟨b', o' + k, none⟩ = some x') := Lib.hid (fun W hW => by
        have hb1 : b < wr.heap.size := World.block_lt_of_cell? wr _ c0
        have hb2 : b' < wr.heap.size := World.block_lt_of_cell? wr _ d0
        exact ⟨(hW.cell (p := ⟨b, o + k, none⟩) hb1).trans c0, (hW.cell (p := ⟨b', o' + k, none⟩) hb2).trans d0⟩)
      have HXX : Hid (Below wr.heap.size wr wr.drew) := Lib.hid (Below.refl _ _).drew
      have HW : Hid (Below w.heap.size w wr.drew) := Lib.hid HB.out.drew
      clear hcell hcell' hr hr' hbel hx hx' c0 d0
      go_wp2_with fail
      go_region_held3 (fun w' => w'.cell? ⟨b, o + k, none⟩ = some x ∧ w'.cell? ⟨b', o' + k, none⟩ = some x')
        (exact HC.out _ HXX.out)
        (first | (go_at_call 11; refine (eqInts _ _ _ _ (HX.out.below HXX.out (Nat.le_refl _)) (HX'.out.below HXX.out (Nat.le_refl _))).mono ?_; rintro e3 w3 ⟨rfl, hb3⟩; replace HW := Lib.hid (HW.out.trans (hb3.mono HW.out.size)); replace HXX := Lib.hid (HXX.out.trans (hb3.mono HXX.out.size)); clear hb3))
      all_goals
        go_wp2
        go_roundw
        case rel => exact ⟨k + 1, by omega, by go_num, HW.out⟩
        case measure => simp [intOf]; omega
    · obtain rfl : k = ts.length := by omega
      have HB := Lib.hid hbel
      clear hbel
      have hnlt : ¬ ((ts.length : Int) < (ts.length : Int)) := by omega
      go_wp2
      go_ret
      exact ⟨rfl, HB.out⟩
end Go.Proofs.YtbifkjmmhfnblaaDoor.Ints
