/- Lists of rewriting rules in memory, and the laws' own helpers on them and on configurations with several tapes. -/
import Derived.Test.YtbigoljfanendaaDoorRwC
import Derived.ChangeSame
import Derived.Lib.Hide
namespace Go.Proofs.YtbigoljfanendaaDoor.Ints
open Go.RowKit
set_option linter.unusedVariables false
set_option linter.unusedSimpArgs false
/-- A tape's two sides. -/
structure Tp where
  l : List Int
  r : List Int
def tp0 : Tp := ⟨[], []⟩
/-- The value v is a slice that reads the tapes ts. -/
structure RdT (w : World) (v : Value) (ts : List Tp) : Prop where
  len : ts.length ≤ 1048576
  val : ∃ a c, v = .slice a ts.length c ∧ ts.length ≤ c ∧ (ts ≠ [] → ∃ b o, a = some ⟨b, o, none⟩ ∧ b < w.heap.size ∧ ∀ i, i < ts.length → ∃ x y,
    w.cell? ⟨b, o + i * 2, none⟩ = some x ∧ w.cell? ⟨b, o + i * 2 + 1, none⟩ = some y ∧ Rd w x (ts.getD i tp0).l ∧ Rd w y (ts.getD i tp0).r)
theorem RdT.below {w w' : World} {v : Value} {ts : List Tp} (h : RdT w v ts) {B : Nat} (hb : Below B w w') (hB : w.heap.size ≤ B) : RdT w' v ts := by
  obtain ⟨l, a, c, rfl, hc, hr⟩ := h
  refine ⟨l, a, c, rfl, hc, fun hne => ?_⟩
  obtain ⟨b, o, rfl, hlt, hcell⟩ := hr hne
  refine ⟨b, o, rfl, Nat.lt_of_lt_of_le hlt hb.size, fun i hi => ?_⟩
  obtain ⟨x, y, h1, h2, h3, h4⟩ := hcell i hi
  exact ⟨x, y, (hb.cell (p := ⟨b, o + i * 2, none⟩) (by show b < B; omega)).trans h1, (hb.cell (p := ⟨b, o + i * 2 + 1, none⟩) (by show b < B; omega)).trans h2, h3.below hb hB, h4.below hb hB⟩
/-- A tape as it comes in. -/
structure Tin where
  a : Option Addr
  n : Nat
  c : Nat
  z : List Int
  a' : Option Addr
  n' : Nat
  c' : Nat
  z' : List Int
def tin0 : Tin := ⟨none, 0, 0, [], none, 0, 0, []⟩
def Tin.ok (w : World) (t : Tin) : Prop := IsList w t.a t.n t.c t.z ∧ IsList w t.a' t.n' t.c' t.z'
def Tin.tp (t : Tin) : Tp := ⟨t.z.take t.n, t.z'.take t.n'⟩
def IsTapes (w : World) (a : Option Addr) (len cap : Nat) (zs : List Tin) : Prop :=
  (a = none ∧ len = 0 ∧ cap = 0 ∧ zs = []) ∨
  ∃ x, a = some x ∧ len ≤ cap ∧ cap ≤ maxLen ∧ zs.length = cap ∧ ∀ i, i < zs.length →
    w.cell? (x.add (i * 2)) = some (.slice (zs.getD i tin0).a (zs.getD i tin0).n (zs.getD i tin0).c) ∧ w.cell? (x.add (i * 2 + 1)) = some (.slice (zs.getD i tin0).a' (zs.getD i tin0).n' (zs.getD i tin0).c') ∧ (zs.getD i tin0).ok w
theorem IsTapes.le {w : World} {a : Option Addr} {len cap : Nat} {zs : List Tin} (h : IsTapes w a len cap zs) : (len : Int) ≤ 9223372036854775807 := by
  rcases h with ⟨_, h, _, _⟩ | ⟨_, _, h1, h2, _⟩
  · omega
  · unfold maxLen at h2; omega
section
open Go.ChangeShapes Go.WideShapes Go.Deep
end
/-- What is left behind the tapes' sizes. -/
def szT : Int → List Tin → Int
  | L, [] => L
  | L, t :: ts => if L - (t.n : Int) < 0 then -1 else if L - (t.n : Int) - (t.n' : Int) < 0 then -1 else szT (L - (t.n : Int) - (t.n' : Int)) ts
theorem szT_le (ts : List Tin) : ∀ L : Int, szT L ts ≤ L ∨ szT L ts = -1 := by
  induction ts with
  | nil => intro L; exact .inl (Int.le_refl _)
  | cons t ts ih =>
    intro L
    rw [szT]
    split
    · exact .inr rfl
    · split
      · exact .inr rfl
      · rcases ih (L - (t.n : Int) - (t.n' : Int)) with h | h
        · exact .inl (by omega)
        · exact .inr h
theorem szT_good (ts : List Tin) : ∀ L : Int, 0 ≤ szT L ts → L ≤ 1048576 → ∀ t ∈ ts, t.n ≤ 1048576 ∧ t.n' ≤ 1048576 := by
  induction ts with
  | nil => intro L _ _ t ht; cases ht
  | cons t ts ih =>
    intro L h hL u hu
    rw [szT] at h
    split at h
    · omega
    · split at h
      · omega
      · rcases List.mem_cons.1 hu with rfl | hu
        · omega
        · exact ih _ h (by omega) u hu
/-- Tapes that came in and are not too many and not too long. -/
theorem rdt_of_row {w : World} {a : Option Addr} {len cap : Nat} {zs : List Tin} (h : IsTapes w a len cap zs) (hl : len ≤ 1048576) (hs : ∀ t ∈ zs.take len, t.n ≤ 1048576 ∧ t.n' ≤ 1048576) :
    RdT w (.slice a len cap) ((zs.take len).map Tin.tp) := by
  rcases h with ⟨rfl, rfl, rfl, rfl⟩ | ⟨x, rfl, h1, h2, h3, hc⟩
  · exact ⟨by simp, none, 0, by simp, by simp, fun h => absurd rfl h⟩
  · have hlen : ((zs.take len).map Tin.tp).length = len := by simp; omega
    refine ⟨by omega, some x, cap, by rw [hlen], by omega, fun hne => ?_⟩
    have hpos : 0 < len := by
      rcases Nat.eq_zero_or_pos len with h0 | h0
      · subst h0; simp at hne
      · exact h0
    obtain ⟨b, off, spot⟩ := x
    have h0 := (hc 0 (by omega)).1
    have hspot : spot = none := by simpa [Addr.add] using World.cell?_spot h0
    subst hspot
    refine ⟨b, off, rfl, World.block_lt_of_cell? w _ h0, fun i hi => ?_⟩
    rw [hlen] at hi
    obtain ⟨q0, q1, q2⟩ := hc i (by omega)
    have hm : zs.getD i tin0 ∈ zs.take len := by
      rw [List.getD_eq_getElem?_getD, List.getElem?_eq_getElem (by omega)]
      exact List.mem_take_iff_getElem.2 ⟨i, by omega, rfl⟩
    obtain ⟨s1, s2⟩ := hs _ hm
    have e : ((zs.take len).map Tin.tp).getD i tp0 = (zs.getD i tin0).tp := by
      simp only [List.getD_eq_getElem?_getD, List.getElem?_map, List.getElem?_take, if_pos hi]
      rw [List.getElem?_eq_getElem (by omega)]; rfl
    rw [e]
    rw [Addr.add_lit] at q0 q1
    rw [← Nat.add_assoc] at q1
    exact ⟨_, _, q0, q1, rd_of_row q2.1 s1, rd_of_row q2.2 s2⟩
end Go.Proofs.YtbigoljfanendaaDoor.Ints
