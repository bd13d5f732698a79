/- Lists of rewriting rules in memory, and the laws' own helpers on them and on configurations with several tapes. -/
import Derived.Test.YthombjcjhnekpaaRwC
import Derived.ChangeSame
import Derived.Lib.Hide
namespace Go.Proofs.Ythombjcjhnekpaa.Ints
open Go.RowKit
set_option linter.unusedVariables false
set_option linter.unusedSimpArgs false
/-- A tape's two sides. -/
structure Tp where
  l : List Int
  r : List Int
def tp0 : Tp := ⟨[], []⟩
/-- The value v is a slice that reads the tapes ts. -/
structure RdT (w : World) (v : Value) (ts : List Tp) : Prop where
  len : ts.length ≤ 1048576
  val : ∃ a c, v = .slice a ts.length c ∧ ts.length ≤ c ∧ (ts ≠ [] → ∃ b o, a = some ⟨b, o, none⟩ ∧ b < w.heap.size ∧ ∀ i, i < ts.length → ∃ x y,
    w.cell? ⟨b, o + i * 2, none⟩ = some x ∧ w.cell? ⟨b, o + i * 2 + 1, none⟩ = some y ∧ Rd w x (ts.getD i tp0).l ∧ Rd w y (ts.getD i tp0).r)
theorem RdT.below {w w' : World} {v : Value} {ts : List Tp} (h : RdT w v ts) {B : Nat} (hb : Below B w w') (hB : w.heap.size ≤ B) : RdT w' v ts := by
  obtain ⟨l, a, c, rfl, hc, hr⟩ := h
  refine ⟨l, a, c, rfl, hc, fun hne => ?_⟩
  obtain ⟨b, o, rfl, hlt, hcell⟩ := hr hne
  refine ⟨b, o, rfl, Nat.lt_of_lt_of_le hlt hb.size, fun i hi => ?_⟩
  obtain ⟨x, y, h1, h2, h3, h4⟩ := hcell i hi
  exact ⟨x, y, (hb.cell (p := ⟨b, o + i * 2, none⟩) (by show b < B; omega)).trans h1, (hb.cell (p := ⟨b, o + i * 2 + 1, none⟩) (by show b < B; omega)).trans h2, h3.below hb hB, h4.below hb hB⟩
/-- A tape as it comes in. -/
structure Tin where
  a : Option Addr
  n : Nat
  c : Nat
  z : List Int
  a' : Option Addr
  n' : Nat
  c' : Nat
  z' : List Int
def tin0 : Tin := ⟨none, 0, 0, [], none, 0, 0, []⟩
def Tin.ok (w : World) (t : Tin) : Prop := IsList w t.a t.n t.c t.z ∧ IsList w t.a' t.n' t.c' t.z'
def Tin.tp (t : Tin) : Tp := ⟨t.z.take t.n, t.z'.take t.n'⟩
def IsTapes (w : World) (a : Option Addr) (len cap : Nat) (zs : List Tin) : Prop :=
  (a = none ∧ len = 0 ∧ cap = 0 ∧ zs = []) ∨
  ∃ x, a = some x ∧ len ≤ cap ∧ cap ≤ maxLen ∧ zs.length = cap ∧ ∀ i, i < zs.length →
    w.cell? (x.add (i * 2)) = some (.slice (zs.getD i tin0).a (zs.getD i tin0).n (zs.getD i tin0).c) ∧ w.cell? (x.add (i * 2 + 1)) = some (.slice (zs.getD i tin0).a' (zs.getD i tin0).n' (zs.getD i tin0).c') ∧ (zs.getD i tin0).ok w
theorem IsTapes.le {w : World} {a : Option Addr} {len cap : Nat} {zs : List Tin} (h : IsTapes w a len cap zs) : (len : Int) ≤ 9223372036854775807 := by
  rcases h with ⟨_, h, _, _⟩ | ⟨_, _, h1, h2, _⟩
  · omega
  · unfold maxLen at h2; omega
section
open Go.ChangeShapes Go.WideShapes Go.Deep
set_option maxRecDepth 100000 in
theorem open_tapes {H : Type} {enc : TypeId × Value → H} {w : World} {base : Nat} {held : Bool} {fuel : Nat} {cs : List Value} {x : DataW H × List MemPlace}
    (h : DataW.trod enc Try.prog w base (fun _ => true) held fuel 29 cs = some x) : ∃ a len cap zs, cs = [.slice a len cap] ∧ IsTapes w a len cap zs := by
  rcases open_slice Try.underlying29 h with ⟨rfl, _⟩ | ⟨a, len, cap, m, n, D, Pl, rfl, hb, hl, hm, hmm, _, hi⟩
  · exact ⟨none, 0, 0, [], rfl, .inl ⟨rfl, rfl, rfl, rfl⟩⟩
  · have hmc : m = cap := by simpa using hmm
    have hC : Try.prog.cellsOf 63 = 2 := by kernel_rfl
    have hI : Try.prog.cellsOf 22 = 1 := by kernel_rfl
    have each : ∀ i, i < cap → ∃ t : Tin, t.ok w ∧ w.cell? (a.add (i * 2)) = some (.slice t.a t.n t.c) ∧ w.cell? (a.add (i * 2 + 1)) = some (.slice t.a' t.n' t.c') := fun i hic => by
      obtain ⟨cs', hc, ht⟩ := hi i (by omega)
      rw [hC] at hc
      obtain ⟨_, hcl, hat⟩ := World.cells?_some hc
      obtain ⟨y0, y1, n', _, _, h0, h1⟩ := trod_struct2 Try.underlying63 ht
      match cs', hcl with
      | [c0, c1], _ =>
        simp only [hI, List.drop_zero, List.drop_succ_cons, List.take_succ_cons, List.take_zero] at h0 h1
        obtain ⟨a0, n0, k0, z0, e0, f0⟩ := open_list h0
        obtain ⟨a1, n1, k1, z1, e1, f1⟩ := open_list h1
        simp only [List.cons.injEq, and_true] at e0 e1
        subst e0; subst e1
        have q0 := hat 0 (by omega)
        have q1 := hat 1 (by omega)
        rw [Go.Deep.add_add] at q0 q1
        exact ⟨⟨a0, n0, k0, z0, a1, n1, k1, z1⟩, ⟨f0, f1⟩, by simpa using q0, by simpa using q1⟩
    obtain ⟨f, hf⟩ : ∃ f : Nat → Tin, ∀ i, i < cap → (f i).ok w ∧ w.cell? (a.add (i * 2)) = some (.slice (f i).a (f i).n (f i).c) ∧ w.cell? (a.add (i * 2 + 1)) = some (.slice (f i).a' (f i).n' (f i).c') :=
      ⟨fun i => if h : i < cap then Classical.choose (each i h) else tin0, fun i h => by simp only [dif_pos h]; exact Classical.choose_spec (each i h)⟩
    refine ⟨some a, len, cap, (List.range cap).map f, rfl, .inr ⟨a, rfl, hl, hm, by simp, fun i hi => ?_⟩⟩
    have hi' : i < cap := by simpa using hi
    have e : ((List.range cap).map f).getD i tin0 = f i := by simp [List.getD_eq_getElem?_getD, hi']
    rw [e]
    exact ⟨(hf i hi').2.1, (hf i hi').2.2, (hf i hi').1⟩
end
/-- What is left behind the tapes' sizes. -/
def szT : Int → List Tin → Int
  | L, [] => L
  | L, t :: ts => if L - (t.n : Int) < 0 then -1 else if L - (t.n : Int) - (t.n' : Int) < 0 then -1 else szT (L - (t.n : Int) - (t.n' : Int)) ts
theorem szT_le (ts : List Tin) : ∀ L : Int, szT L ts ≤ L ∨ szT L ts = -1 := by
  induction ts with
  | nil => intro L; exact .inl (Int.le_refl _)
  | cons t ts ih =>
    intro L
    rw [szT]
    split
    · exact .inr rfl
    · split
      · exact .inr rfl
      · rcases ih (L - (t.n : Int) - (t.n' : Int)) with h | h
        · exact .inl (by omega)
        · exact .inr h
theorem szT_good (ts : List Tin) : ∀ L : Int, 0 ≤ szT L ts → L ≤ 1048576 → ∀ t ∈ ts, t.n ≤ 1048576 ∧ t.n' ≤ 1048576 := by
  induction ts with
  | nil => intro L _ _ t ht; cases ht
  | cons t ts ih =>
    intro L h hL u hu
    rw [szT] at h
    split at h
    · omega
    · split at h
      · omega
      · rcases List.mem_cons.1 hu with rfl | hu
        · omega
        · exact ih _ h (by omega) u hu
/-- Tapes that came in and are not too many and not too long. -/
theorem rdt_of_row {w : World} {a : Option Addr} {len cap : Nat} {zs : List Tin} (h : IsTapes w a len cap zs) (hl : len ≤ 1048576) (hs : ∀ t ∈ zs.take len, t.n ≤ 1048576 ∧ t.n' ≤ 1048576) :
    RdT w (.slice a len cap) ((zs.take len).map Tin.tp) := by
  rcases h with ⟨rfl, rfl, rfl, rfl⟩ | ⟨x, rfl, h1, h2, h3, hc⟩
  · exact ⟨by simp, none, 0, by simp, by simp, fun h => absurd rfl h⟩
  · have hlen : ((zs.take len).map Tin.tp).length = len := by simp; omega
    refine ⟨by omega, some x, cap, by rw [hlen], by omega, fun hne => ?_⟩
    have hpos : 0 < len := by
      rcases Nat.eq_zero_or_pos len with h0 | h0
      · subst h0; simp at hne
      · exact h0
    obtain ⟨b, off, spot⟩ := x
    have h0 := (hc 0 (by omega)).1
    have hspot : spot = none := by simpa [Addr.add] using World.cell?_spot h0
    subst hspot
    refine ⟨b, off, rfl, World.block_lt_of_cell? w _ h0, fun i hi => ?_⟩
    rw [hlen] at hi
    obtain ⟨q0, q1, q2⟩ := hc i (by omega)
    have hm : zs.getD i tin0 ∈ zs.take len := by
      rw [List.getD_eq_getElem?_getD, List.getElem?_eq_getElem (by omega)]
      exact List.mem_take_iff_getElem.2 ⟨i, by omega, rfl⟩
    obtain ⟨s1, s2⟩ := hs _ hm
    have e : ((zs.take len).map Tin.tp).getD i tp0 = (zs.getD i tin0).tp := by
      simp only [List.getD_eq_getElem?_getD, List.getElem?_map, List.getElem?_take, if_pos hi]
      rw [List.getElem?_eq_getElem (by omega)]; rfl
    rw [e]
    rw [Addr.add_lit] at q0 q1
    rw [← Nat.add_assoc] at q1
    exact ⟨_, _, q0, q1, rd_of_row q2.1 s1, rd_of_row q2.2 s2⟩
set_option maxHeartbeats 2000000 in
theorem szTapes (a : Option Addr) (len cap : Nat) (zs : List Tin) (w : World) {L l : Int} (h : IsTapes w a len cap zs) (hL : 0 ≤ L ∧ L ≤ 1048576) (hl : l = L - (len : Int)) (h0 : 0 ≤ l) :
    Calls Try.prog 17 #[.slice a len cap, .int .i64 L] w fun e w' => e = .returned (.int .i64 (szT l (zs.take len))) ∧ Below w.heap.size w w' := by
  have hz := h.le
  have e : IntKind.i64.wrap (L - (len : Int)) = l := by rw [IntKind.wrap_i64]; omega
  have hn : ¬ l < 0 := by omega
  have HQ : Hid (0 ≤ l ∧ l ≤ 1048576) := Lib.hid (by omega)
  have hlb : len ≤ 1048576 := by omega
  have hlen : (zs.take len).length = len := by
    rcases h with ⟨_, rfl, _, rfl⟩ | ⟨_, _, h1, _, h3, _⟩
    · rfl
    · rw [List.length_take]; omega
  have HLEN := Lib.hid hlen
  have HZ := Lib.hid hz
  clear hL hl h0 hz hlen
  go_enter Try.func17, Try.ntmps17
  go_wp2
  go_loopw [1, 5] (fun q s wr => ∃ (k : Nat) (m : Int), k ≤ len ∧ s = .int .i64 k ∧ q = .int .i64 m ∧ 0 ≤ m ∧ m ≤ 1048576 ∧ szT m ((zs.take len).drop k) = szT l (zs.take len) ∧ Below w.heap.size w wr) (fun _ s _ => len - (intOf s).toNat)
  case atStart => exact ⟨0, l, Nat.zero_le _, rfl, rfl, HQ.out.1, HQ.out.2, by simp, Below.refl _ _⟩
  case round =>
    obtain ⟨k, m, hk, rfl, rfl, hm0, hm1, hsz, hbel⟩ := hrel
    have HB := Lib.hid hbel
    have HS := Lib.hid hsz
    clear hsz
    by_cases hlt : k < len
    · rcases h with ⟨rfl, h2, _, _⟩ | ⟨x, rfl, h1, h2, h3, hc⟩
      · omega
      have hcap : len ≤ cap := h1
      obtain ⟨q0, q1, q2⟩ := hc k (by omega)
      obtain ⟨t, ht⟩ : ∃ t, t = zs.getD k tin0 := ⟨_, rfl⟩
      rw [← ht] at q0 q1 q2
      have q00 := (hc 0 (by omega)).1
      obtain ⟨b, off, spot⟩ := x
      have hspot : spot = none := by simpa [Addr.add] using World.cell?_spot q00
      subst hspot
      rw [Addr.add_lit] at q0 q1
      rw [← Nat.add_assoc] at q1
      have hb : b < w.heap.size := World.block_lt_of_cell? w _ q0
      clear q00
      replace q0 := (hbel.cell (p := ⟨b, off + k * 2, none⟩) hb).trans q0
      replace q1 := (hbel.cell (p := ⟨b, off + k * 2 + 1, none⟩) hb).trans q1
      have hd : (zs.take len).drop k = t :: (zs.take len).drop (k + 1) := by
        rw [List.drop_eq_getElem_cons (by rw [HLEN.out]; exact hlt), ht]
        congr 1
        rw [List.getElem_take, List.getD_eq_getElem?_getD, List.getElem?_eq_getElem (by omega)]; rfl
      have z1 := q2.1.le
      have z2 := q2.2.le
      obtain ⟨a1, n1, c1, y1, a2, n2, c2, y2⟩ := t
      dsimp only at q0 q1 z1 z2
      have HD : Hid (szT m ((zs.take len).drop k) = if m - (n1 : Int) < 0 then -1 else if m - (n1 : Int) - (n2 : Int) < 0 then -1 else szT (m - (n1 : Int) - (n2 : Int)) ((zs.take len).drop (k + 1))) := Lib.hid (by rw [hd, szT])
      have i0 : (0 : Int) ≤ (k : Int) := by omega
      have i1 : (k : Int) < (len : Int) := by omega
      have HM : Hid (0 ≤ m ∧ m ≤ 1048576) := Lib.hid ⟨hm0, hm1⟩
      obtain ⟨m1, hm1e⟩ : ∃ x : Int, x = m - (n1 : Int) := ⟨_, rfl⟩
      obtain ⟨m2, hm2e⟩ : ∃ x : Int, x = m1 - (n2 : Int) := ⟨_, rfl⟩
      rw [← hm1e, ← hm2e] at HD
      have HE1 := Lib.hid hm1e
      have HE2 := Lib.hid hm2e
      have HZ1 := Lib.hid z1
      have HZ2 := Lib.hid z2
      clear hc h2 h3 q2 hd hm0 hm1 hm1e hm2e z1 z2 hbel ht
      by_cases g1 : m1 < 0
      · have HF : Hid (szT l (zs.take len) = -1) := Lib.hid (by rw [← HS.out, HD.out, if_pos g1])
        go_wp2_with fail
        refine (szTape_bad0 _ _ _ _ _ _ _ HM.out HE1.out g1 HZ1.out).mono ?_
        rintro e1 w1 ⟨rfl, hb1⟩
        have HB1 := Lib.hid (HB.out.trans (hb1.mono HB.out.size))
        clear hb1
        go_wp2
        go_ret
        exact ⟨by rw [HF.out] <;> rfl, HB1.out⟩
      · by_cases g2 : m2 < 0
        · have HF : Hid (szT l (zs.take len) = -1) := Lib.hid (by rw [← HS.out, HD.out, if_neg g1, if_pos g2])
          have g3 : 0 ≤ m1 := by omega
          go_wp2_with fail
          refine (szTape_bad1 _ _ _ _ _ _ _ HM.out HE1.out g3 HZ1.out HE2.out g2 HZ2.out).mono ?_
          rintro e1 w1 ⟨rfl, hb1⟩
          have HB1 := Lib.hid (HB.out.trans (hb1.mono HB.out.size))
          clear hb1
          go_wp2
          go_ret
          exact ⟨by rw [HF.out] <;> rfl, HB1.out⟩
        · have HF : Hid (szT m2 ((zs.take len).drop (k + 1)) = szT l (zs.take len)) := Lib.hid (by rw [← HS.out, HD.out, if_neg g1, if_neg g2])
          have g3 : 0 ≤ m1 := by omega
          have g4 : 0 ≤ m2 := by omega
          have HG : Hid (0 ≤ m2 ∧ m2 ≤ 1048576) := Lib.hid (by have := HE1.out; have := HE2.out; have := HM.out; omega)
          go_wp2_with fail
          refine (szTape _ _ _ _ _ _ _ HM.out HE1.out g3 HZ1.out HE2.out g4 HZ2.out).mono ?_
          rintro e1 w1 ⟨rfl, hb1⟩
          have HB1 := Lib.hid (HB.out.trans (hb1.mono HB.out.size))
          clear hb1
          go_wp2
          go_roundw
          case rel => exact ⟨k + 1, m2, by omega, by go_num, rfl, HG.out.1, HG.out.2, HF.out, HB1.out⟩
          case measure => simp [intOf]; omega
    · obtain rfl : k = len := by omega
      have HF : Hid (szT l (zs.take k) = m) := Lib.hid (by rw [← HS.out, List.drop_of_length_le (by rw [HLEN.out]; exact Nat.le_refl _)]; rfl)
      clear hbel
      have hnlt : ¬ ((k : Int) < (k : Int)) := by omega
      go_wp2
      go_ret
      exact ⟨by rw [HF.out] <;> rfl, HB.out⟩
theorem szTapes_bad (a : Option Addr) (len cap : Nat) (w : World) {L l : Int} (hz : (len : Int) ≤ 9223372036854775807) (hL : 0 ≤ L ∧ L ≤ 1048576) (hl : l = L - (len : Int)) (h0 : l < 0) :
    Calls Try.prog 17 #[.slice a len cap, .int .i64 L] w fun e w' => e = .returned (.int .i64 (-1)) ∧ Below w.heap.size w w' := by
  have e : IntKind.i64.wrap (L - (len : Int)) = l := by rw [IntKind.wrap_i64]; omega
  clear hz hL hl
  go_enter Try.func17, Try.ntmps17
  go_wp2
  go_ret
  exact ⟨rfl, Below.refl _ _⟩
end Go.Proofs.Ythombjcjhnekpaa.Ints
