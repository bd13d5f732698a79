/- Lists of rules of machines with several tapes in memory: what comes in, its size. -/
import Derived.Test.YtepdjlhlcjkdkaaTps2
import Derived.Lib.Hide
namespace Go.Proofs.Ytepdjlhlcjkdkaa.Ints
open Go.RowKit
set_option linter.unusedVariables false
set_option linter.unusedSimpArgs false
/-- A rule. -/
structure Mr where
  st : Int
  rd : List Int
  wr : List Int
  mv : List Int
  nx : Int
def mr0 : Mr := ⟨0, [], [], [], 0⟩
/-- The value v is a slice that reads the rules ms. -/
structure RdM (w : World) (v : Value) (ms : List Mr) : Prop where
  len : ms.length ≤ 1048576
  val : ∃ a c, v = .slice a ms.length c ∧ ms.length ≤ c ∧ (ms ≠ [] → ∃ b o, a = some ⟨b, o, none⟩ ∧ b < w.heap.size ∧ ∀ i, i < ms.length → ∃ x y z,
    w.cell? ⟨b, o + i * 5, none⟩ = some (.int .i64 (ms.getD i mr0).st) ∧ w.cell? ⟨b, o + i * 5 + 1, none⟩ = some x ∧ w.cell? ⟨b, o + i * 5 + 2, none⟩ = some y ∧ w.cell? ⟨b, o + i * 5 + 3, none⟩ = some z ∧
    w.cell? ⟨b, o + i * 5 + 4, none⟩ = some (.int .i64 (ms.getD i mr0).nx) ∧ Rd w x (ms.getD i mr0).rd ∧ Rd w y (ms.getD i mr0).wr ∧ Rd w z (ms.getD i mr0).mv)
theorem RdM.below {w w' : World} {v : Value} {ms : List Mr} (h : RdM w v ms) {B : Nat} (hb : Below B w w') (hB : w.heap.size ≤ B) : RdM w' v ms := by
  obtain ⟨l, a, c, rfl, hc, hr⟩ := h
  refine ⟨l, a, c, rfl, hc, fun hne => ?_⟩
  obtain ⟨b, o, rfl, hlt, hcell⟩ := hr hne
  have hq : ∀ j v, w.cell? ⟨b, j, none⟩ = some v → w'.cell? ⟨b, j, none⟩ = some v := fun j v h => (hb.cell (p := ⟨b, j, none⟩) (by show b < B; omega)).trans h
  refine ⟨b, o, rfl, Nat.lt_of_lt_of_le hlt hb.size, fun i hi => ?_⟩
  obtain ⟨x, y, z, h0, h1, h2, h3, h4, r1, r2, r3⟩ := hcell i hi
  exact ⟨x, y, z, hq _ _ h0, hq _ _ h1, hq _ _ h2, hq _ _ h3, hq _ _ h4, r1.below hb hB, r2.below hb hB, r3.below hb hB⟩
/-- A rule as it comes in. -/
structure Jin where
  st : Int
  a1 : Option Addr
  n1 : Nat
  c1 : Nat
  z1 : List Int
  a2 : Option Addr
  n2 : Nat
  c2 : Nat
  z2 : List Int
  a3 : Option Addr
  n3 : Nat
  c3 : Nat
  z3 : List Int
  nx : Int
def jin0 : Jin := ⟨0, none, 0, 0, [], none, 0, 0, [], none, 0, 0, [], 0⟩
def Jin.ok (w : World) (t : Jin) : Prop := IsList w t.a1 t.n1 t.c1 t.z1 ∧ IsList w t.a2 t.n2 t.c2 t.z2 ∧ IsList w t.a3 t.n3 t.c3 t.z3
def Jin.mr (t : Jin) : Mr := ⟨t.st, t.z1.take t.n1, t.z2.take t.n2, t.z3.take t.n3, t.nx⟩
def Jin.at (w : World) (t : Jin) (p : Nat → Addr) : Prop :=
  w.cell? (p 0) = some (.int .i64 t.st) ∧ w.cell? (p 1) = some (.slice t.a1 t.n1 t.c1) ∧ w.cell? (p 2) = some (.slice t.a2 t.n2 t.c2) ∧ w.cell? (p 3) = some (.slice t.a3 t.n3 t.c3) ∧ w.cell? (p 4) = some (.int .i64 t.nx)
def IsMrules (w : World) (a : Option Addr) (len cap : Nat) (zs : List Jin) : Prop :=
  (a = none ∧ len = 0 ∧ cap = 0 ∧ zs = []) ∨
  ∃ x, a = some x ∧ len ≤ cap ∧ cap ≤ maxLen ∧ zs.length = cap ∧ ∀ i, i < zs.length → (zs.getD i jin0).at w (fun j => x.add (i * 5 + j)) ∧ (zs.getD i jin0).ok w
theorem IsMrules.le {w : World} {a : Option Addr} {len cap : Nat} {zs : List Jin} (h : IsMrules w a len cap zs) : (len : Int) ≤ 9223372036854775807 := by
  rcases h with ⟨_, h, _, _⟩ | ⟨_, _, h1, h2, _⟩
  · omega
  · unfold maxLen at h2; omega
theorem Jin.at_alloc {w : World} {t : Jin} {p : Nat → Addr} (h : t.at w p) (o : Obj) : t.at (w.alloc o) p :=
  ⟨cellKept o h.1, cellKept o h.2.1, cellKept o h.2.2.1, cellKept o h.2.2.2.1, cellKept o h.2.2.2.2⟩
theorem IsMrules.alloc {w : World} {a : Option Addr} {len cap : Nat} {zs : List Jin} (h : IsMrules w a len cap zs) (o : Obj) : IsMrules (w.alloc o) a len cap zs := by
  rcases h with h | ⟨x, h0, h1, h2, h3, h4⟩
  · exact .inl h
  · exact .inr ⟨x, h0, h1, h2, h3, fun i hi => ⟨Jin.at_alloc (h4 i hi).1 o, (h4 i hi).2.1.alloc o, (h4 i hi).2.2.1.alloc o, (h4 i hi).2.2.2.alloc o⟩⟩
section
open Go.ChangeShapes Go.WideShapes Go.Deep
set_option maxRecDepth 100000 in
theorem open_mrules {H : Type} {enc : TypeId × Value → H} {w : World} {base : Nat} {held : Bool} {fuel : Nat} {cs : List Value} {x : DataW H × List MemPlace}
    (h : DataW.trod enc Try.prog w base (fun _ => true) held fuel 22 cs = some x) : ∃ a len cap zs, cs = [.slice a len cap] ∧ IsMrules w a len cap zs := by
  rcases open_slice Try.underlying22 h with ⟨rfl, _⟩ | ⟨a, len, cap, m, n, D, Pl, rfl, hb, hl, hm, hmm, _, hi⟩
  · exact ⟨none, 0, 0, [], rfl, .inl ⟨rfl, rfl, rfl, rfl⟩⟩
  · have hmc : m = cap := by simpa using hmm
    have hC : Try.prog.cellsOf 126 = 5 := by kernel_rfl
    have hI : Try.prog.cellsOf 59 = 1 := by kernel_rfl
    have hJ : Try.prog.cellsOf 2 = 1 := by kernel_rfl
    have each : ∀ i, i < cap → ∃ t : Jin, t.ok w ∧ t.at w (fun j => a.add (i * 5 + j)) := fun i hic => by
      obtain ⟨cs', hc, ht⟩ := hi i (by omega)
      rw [hC] at hc
      obtain ⟨_, hcl, hat⟩ := World.cells?_some hc
      obtain ⟨xs, n', _, _, _, hlen, hf⟩ := DataW.trod_struct Try.underlying126 ht
      match cs', hcl, xs, hlen with
      | [c0, c1, c2, c3, c4], _, [y0, y1, y2, y3, y4], _ =>
        have h0 := hf 0 _ rfl
        have h1 := hf 1 _ rfl
        have h2 := hf 2 _ rfl
        have h3 := hf 3 _ rfl
        have h4 := hf 4 _ rfl
        simp [hI, hJ] at h0 h1 h2 h3 h4
        obtain ⟨s0, e0, _, f0⟩ := DataW.trod_int Try.underlying2 h0
        obtain ⟨a1, n1, k1, z1, e1, f1⟩ := open_list h1
        obtain ⟨a2, n2, k2, z2, e2, f2⟩ := open_list h2
        obtain ⟨a3, n3, k3, z3, e3, f3⟩ := open_list h3
        obtain ⟨s4, e4, _, f4⟩ := DataW.trod_int Try.underlying2 h4
        simp only [List.cons.injEq, and_true] at e0 e1 e2 e3 e4
        subst e0; subst e1; subst e2; subst e3; subst e4
        have q0 := hat 0 (by omega)
        have q1 := hat 1 (by omega)
        have q2 := hat 2 (by omega)
        have q3 := hat 3 (by omega)
        have q4 := hat 4 (by omega)
        rw [Go.Deep.add_add] at q0 q1 q2 q3 q4
        exact ⟨⟨s0, a1, n1, k1, z1, a2, n2, k2, z2, a3, n3, k3, z3, s4⟩, ⟨f1, f2, f3⟩, by simpa using q0, by simpa using q1, by simpa using q2, by simpa using q3, by simpa using q4⟩
    obtain ⟨f, hf⟩ : ∃ f : Nat → Jin, ∀ i, i < cap → (f i).ok w ∧ (f i).at w (fun j => a.add (i * 5 + j)) :=
      ⟨fun i => if h : i < cap then Classical.choose (each i h) else jin0, fun i h => by simp only [dif_pos h]; exact Classical.choose_spec (each i h)⟩
    refine ⟨some a, len, cap, (List.range cap).map f, rfl, .inr ⟨a, rfl, hl, hm, by simp, fun i hi => ?_⟩⟩
    have hi' : i < cap := by simpa using hi
    have e : ((List.range cap).map f).getD i jin0 = f i := by simp [List.getD_eq_getElem?_getD, hi']
    rw [e]
    exact ⟨(hf i hi').2, (hf i hi').1⟩
end
/-- What is left behind three sizes. -/
def sz3 (L a b c : Int) : Int := if L - a < 0 then -1 else if L - a - b < 0 then -1 else if L - a - b - c < 0 then -1 else L - a - b - c
theorem sz3_cases (L a b c : Int) : sz3 L a b c = -1 ∨ (0 ≤ L - a ∧ 0 ≤ L - a - b ∧ 0 ≤ L - a - b - c ∧ sz3 L a b c = L - a - b - c) := by
  unfold sz3
  split
  · exact .inl rfl
  · split
    · exact .inl rfl
    · split
      · exact .inl rfl
      · exact .inr ⟨by omega, by omega, by omega, rfl⟩
def szM : Int → List Jin → Int
  | L, [] => L
  | L, t :: ts => if sz3 L t.n1 t.n2 t.n3 < 0 then -1 else szM (sz3 L t.n1 t.n2 t.n3) ts
theorem szM_le (ts : List Jin) : ∀ L : Int, szM L ts ≤ L ∨ szM L ts = -1 := by
  induction ts with
  | nil => intro L; exact .inl (Int.le_refl _)
  | cons t ts ih =>
    intro L
    rw [szM]
    split
    · exact .inr rfl
    · rcases sz3_cases L t.n1 t.n2 t.n3 with h | ⟨_, _, _, h⟩
      · omega
      · rcases ih (sz3 L t.n1 t.n2 t.n3) with h' | h'
        · exact .inl (by omega)
        · exact .inr h'
theorem szM_good (ts : List Jin) : ∀ L : Int, 0 ≤ szM L ts → L ≤ 1048576 → ∀ t ∈ ts, t.n1 ≤ 1048576 ∧ t.n2 ≤ 1048576 ∧ t.n3 ≤ 1048576 := by
  induction ts with
  | nil => intro L _ _ t ht; cases ht
  | cons t ts ih =>
    intro L h hL u hu
    rw [szM] at h
    split at h
    · omega
    · rcases sz3_cases L t.n1 t.n2 t.n3 with h' | ⟨q1, q2, q3, h'⟩
      · omega
      · rcases List.mem_cons.1 hu with rfl | hu
        · omega
        · exact ih _ h (by omega) u hu
theorem rdm_of_row {w : World} {a : Option Addr} {len cap : Nat} {zs : List Jin} (h : IsMrules w a len cap zs) (hl : len ≤ 1048576) (hs : ∀ t ∈ zs.take len, t.n1 ≤ 1048576 ∧ t.n2 ≤ 1048576 ∧ t.n3 ≤ 1048576) :
    RdM w (.slice a len cap) ((zs.take len).map Jin.mr) := by
  rcases h with ⟨rfl, rfl, rfl, rfl⟩ | ⟨x, rfl, h1, h2, h3, hc⟩
  · exact ⟨by simp, none, 0, by simp, by simp, fun h => absurd rfl h⟩
  · have hlen : ((zs.take len).map Jin.mr).length = len := by simp; omega
    refine ⟨by omega, some x, cap, by rw [hlen], by omega, fun hne => ?_⟩
    have hpos : 0 < len := by
      rcases Nat.eq_zero_or_pos len with h0 | h0
      · subst h0; simp at hne
      · exact h0
    obtain ⟨b, off, spot⟩ := x
    have h0 := (hc 0 (by omega)).1.1
    have hspot : spot = none := by simpa [Addr.add] using World.cell?_spot h0
    subst hspot
    refine ⟨b, off, rfl, World.block_lt_of_cell? w _ h0, fun i hi => ?_⟩
    rw [hlen] at hi
    obtain ⟨⟨q0, q1, q2, q3, q4⟩, r1, r2, r3⟩ := hc i (by omega)
    have hm : zs.getD i jin0 ∈ zs.take len := by
      rw [List.getD_eq_getElem?_getD, List.getElem?_eq_getElem (by omega)]
      exact List.mem_take_iff_getElem.2 ⟨i, by omega, rfl⟩
    obtain ⟨s1, s2, s3⟩ := hs _ hm
    have e : ((zs.take len).map Jin.mr).getD i mr0 = (zs.getD i jin0).mr := by
      simp only [List.getD_eq_getElem?_getD, List.getElem?_map, List.getElem?_take, if_pos hi]
      rw [List.getElem?_eq_getElem (by omega)]; rfl
    rw [e]
    simp only [Addr.add_lit, ← Nat.add_assoc, Nat.add_zero] at q0 q1 q2 q3 q4
    exact ⟨_, _, _, q0, q1, q2, q3, q4, rd_of_row r1 s1, rd_of_row r2 s2, rd_of_row r3 s3⟩
set_option maxHeartbeats 2000000 in
theorem szMr (st nx : Int) (a1 : Option Addr) (n1 c1 : Nat) (a2 : Option Addr) (n2 c2 : Nat) (a3 : Option Addr) (n3 c3 : Nat) (w : World) {L : Int} (hL : 0 ≤ L ∧ L ≤ 1048576)
    (hz1 : (n1 : Int) ≤ 9223372036854775807) (hz2 : (n2 : Int) ≤ 9223372036854775807) (hz3 : (n3 : Int) ≤ 9223372036854775807) :
    Calls Try.prog 117 #[.agg #[.int .i64 st, .slice a1 n1 c1, .slice a2 n2 c2, .slice a3 n3 c3, .int .i64 nx], .int .i64 L] w fun e w' => e = .returned (.int .i64 (sz3 L n1 n2 n3)) ∧ Below w.heap.size w w' := by
  obtain ⟨l1, h1⟩ : ∃ l : Int, l = L - (n1 : Int) := ⟨_, rfl⟩
  obtain ⟨l2, h2⟩ : ∃ l : Int, l = l1 - (n2 : Int) := ⟨_, rfl⟩
  obtain ⟨l3, h3⟩ : ∃ l : Int, l = l2 - (n3 : Int) := ⟨_, rfl⟩
  have HZ : Hid (sz3 L n1 n2 n3 = if l1 < 0 then -1 else if l2 < 0 then -1 else if l3 < 0 then -1 else l3) := Lib.hid (by rw [sz3, h3, h2, h1])
  have e1 : IntKind.i64.wrap (L - (n1 : Int)) = l1 := by rw [IntKind.wrap_i64]; omega
  by_cases g1 : l1 < 0
  · have HF : Hid (sz3 L n1 n2 n3 = -1) := Lib.hid (by rw [HZ.out, if_pos g1])
    clear h1 h2 h3 hL hz1 hz2 hz3
    go_enter Try.func117, Try.ntmps117
    go_wp2
    go_ret
    exact ⟨by rw [HF.out] <;> rfl, (Below.refl _ _).alloc (Nat.le_refl _) _⟩
  have e2 : IntKind.i64.wrap (l1 - (n2 : Int)) = l2 := by rw [IntKind.wrap_i64]; omega
  by_cases g2 : l2 < 0
  · have HF : Hid (sz3 L n1 n2 n3 = -1) := Lib.hid (by rw [HZ.out, if_neg g1, if_pos g2])
    clear h1 h2 h3 hL hz1 hz2 hz3
    go_enter Try.func117, Try.ntmps117
    go_wp2
    go_ret
    exact ⟨by rw [HF.out] <;> rfl, (Below.refl _ _).alloc (Nat.le_refl _) _⟩
  have e3 : IntKind.i64.wrap (l2 - (n3 : Int)) = l3 := by rw [IntKind.wrap_i64]; omega
  by_cases g3 : l3 < 0
  · have HF : Hid (sz3 L n1 n2 n3 = -1) := Lib.hid (by rw [HZ.out, if_neg g1, if_neg g2, if_pos g3])
    clear h1 h2 h3 hL hz1 hz2 hz3
    go_enter Try.func117, Try.ntmps117
    go_wp2
    go_ret
    exact ⟨by rw [HF.out] <;> rfl, (Below.refl _ _).alloc (Nat.le_refl _) _⟩
  have HF : Hid (sz3 L n1 n2 n3 = l3) := Lib.hid (by rw [HZ.out, if_neg g1, if_neg g2, if_neg g3])
  clear h1 h2 h3 hL hz1 hz2 hz3
  go_enter Try.func117, Try.ntmps117
  go_wp2
  go_ret
  exact ⟨by rw [HF.out] <;> rfl, (Below.refl _ _).alloc (Nat.le_refl _) _⟩
set_option maxHeartbeats 2000000 in
theorem szMrs (a : Option Addr) (len cap : Nat) (zs : List Jin) (w : World) {L l : Int} (h : IsMrules w a len cap zs) (hL : 0 ≤ L ∧ L ≤ 1048576) (hl : l = L - (len : Int)) (h0 : 0 ≤ l) :
    Calls Try.prog 58 #[.slice a len cap, .int .i64 L] w fun e w' => e = .returned (.int .i64 (szM l (zs.take len))) ∧ Below w.heap.size w w' := by
  have hz := h.le
  have e : IntKind.i64.wrap (L - (len : Int)) = l := by rw [IntKind.wrap_i64]; omega
  have hn : ¬ l < 0 := by omega
  have HQ : Hid (0 ≤ l ∧ l ≤ 1048576) := Lib.hid (by omega)
  have hlb : len ≤ 1048576 := by omega
  have hlen : (zs.take len).length = len := by
    rcases h with ⟨_, rfl, _, rfl⟩ | ⟨_, _, h1, _, h3, _⟩
    · rfl
    · rw [List.length_take]; omega
  have HLEN := Lib.hid hlen
  have HZ := Lib.hid hz
  clear hL hl h0 hz hlen
  go_enter Try.func58, Try.ntmps58
  go_wp2
  go_loopw [1, 5] (fun q s wr => ∃ (k : Nat) (m : Int), k ≤ len ∧ s = .int .i64 k ∧ q = .int .i64 m ∧ 0 ≤ m ∧ m ≤ 1048576 ∧ szM m ((zs.take len).drop k) = szM l (zs.take len) ∧ Below w.heap.size w wr) (fun _ s _ => len - (intOf s).toNat)
  case atStart => exact ⟨0, l, Nat.zero_le _, rfl, rfl, HQ.out.1, HQ.out.2, by simp, Below.refl _ _⟩
  case round =>
    obtain ⟨k, m, hk, rfl, rfl, hm0, hm1, hsz, hbel⟩ := hrel
    have HB := Lib.hid hbel
    have HS := Lib.hid hsz
    clear hsz
    by_cases hlt : k < len
    · rcases h with ⟨rfl, h2, _, _⟩ | ⟨x, rfl, h1, h2, h3, hc⟩
      · omega
      have hcap : len ≤ cap := h1
      obtain ⟨⟨q0, q1, q2, q3, q4⟩, r1, r2, r3⟩ := hc k (by omega)
      obtain ⟨t, ht⟩ : ∃ t, t = zs.getD k jin0 := ⟨_, rfl⟩
      rw [← ht] at q0 q1 q2 q3 q4 r1 r2 r3
      have q00 := (hc 0 (by omega)).1.1
      obtain ⟨b, off, spot⟩ := x
      have hspot : spot = none := by simpa [Addr.add] using World.cell?_spot q00
      subst hspot
      simp only [Addr.add_lit, ← Nat.add_assoc, Nat.add_zero] at q0 q1 q2 q3 q4
      have hb : b < w.heap.size := World.block_lt_of_cell? w _ q0
      clear q00
      have hq : ∀ j v, w.cell? ⟨b, j, none⟩ = some v → wr.cell? ⟨b, j, none⟩ = some v := fun j v h => (hbel.cell (p := ⟨b, j, none⟩) hb).trans h
      replace q0 := hq _ _ q0
      replace q1 := hq _ _ q1
      replace q2 := hq _ _ q2
      replace q3 := hq _ _ q3
      replace q4 := hq _ _ q4
      have hd : (zs.take len).drop k = t :: (zs.take len).drop (k + 1) := by
        rw [List.drop_eq_getElem_cons (by rw [HLEN.out]; exact hlt), ht]
        congr 1
        rw [List.getElem_take, List.getD_eq_getElem?_getD, List.getElem?_eq_getElem (by omega)]; rfl
      have z1 := r1.le
      have z2 := r2.le
      have z3 := r3.le
      obtain ⟨s0, a1, n1, c1, y1, a2, n2, c2, y2, a3, n3, c3, y3, s4⟩ := t
      dsimp only at q0 q1 q2 q3 q4 z1 z2 z3
      obtain ⟨p, hp⟩ : ∃ p, p = sz3 m n1 n2 n3 := ⟨_, rfl⟩
      have HD : Hid (szM m ((zs.take len).drop k) = if p < 0 then -1 else szM p ((zs.take len).drop (k + 1))) := Lib.hid (by rw [hd, szM, hp])
      have HP := Lib.hid hp
      have i0 : (0 : Int) ≤ (k : Int) := by omega
      have i1 : (k : Int) < (len : Int) := by omega
      have HM : Hid (0 ≤ m ∧ m ≤ 1048576) := Lib.hid ⟨hm0, hm1⟩
      have HZ1 := Lib.hid z1
      have HZ2 := Lib.hid z2
      have HZ3 := Lib.hid z3
      clear hc h2 h3 r1 r2 r3 hd hm0 hm1 z1 z2 z3 hbel ht hq hp
      by_cases g1 : p < 0
      · have HF : Hid (szM l (zs.take len) = -1) := Lib.hid (by rw [← HS.out, HD.out, if_pos g1])
        go_wp2_with fail
        refine (szMr s0 s4 _ n1 _ _ n2 _ _ n3 _ _ HM.out HZ1.out HZ2.out HZ3.out).mono ?_
        rintro e1 w1 ⟨rfl, hb1⟩
        rw [← HP.out]
        have HB1 := Lib.hid (HB.out.trans (hb1.mono HB.out.size))
        clear hb1
        go_wp2
        go_ret
        exact ⟨by rw [HF.out] <;> rfl, HB1.out⟩
      · have HF : Hid (szM p ((zs.take len).drop (k + 1)) = szM l (zs.take len)) := Lib.hid (by rw [← HS.out, HD.out, if_neg g1])
        have HG : Hid (0 ≤ p ∧ p ≤ 1048576) := Lib.hid (by
          have := HM.out
          rcases sz3_cases m n1 n2 n3 with h | ⟨_, _, _, h⟩
          · rw [← HP.out] at h; omega
          · rw [← HP.out] at h; omega)
        go_wp2_with fail
        refine (szMr s0 s4 _ n1 _ _ n2 _ _ n3 _ _ HM.out HZ1.out HZ2.out HZ3.out).mono ?_
        rintro e1 w1 ⟨rfl, hb1⟩
        rw [← HP.out]
        have HB1 := Lib.hid (HB.out.trans (hb1.mono HB.out.size))
        clear hb1
        go_wp2
        go_roundw
        case rel => exact ⟨k + 1, p, by omega, by go_num, rfl, HG.out.1, HG.out.2, HF.out, HB1.out⟩
        case measure => simp [intOf]; omega
    · obtain rfl : k = len := by omega
      have HF : Hid (szM l (zs.take k) = m) := Lib.hid (by rw [← HS.out, List.drop_of_length_le (by rw [HLEN.out]; exact Nat.le_refl _)]; rfl)
      clear hbel
      have hnlt : ¬ ((k : Int) < (k : Int)) := by omega
      go_wp2
      go_ret
      exact ⟨by rw [HF.out] <;> rfl, HB.out⟩
theorem szMrs_bad (a : Option Addr) (len cap : Nat) (w : World) {L l : Int} (hz : (len : Int) ≤ 9223372036854775807) (hL : 0 ≤ L ∧ L ≤ 1048576) (hl : l = L - (len : Int)) (h0 : l < 0) :
    Calls Try.prog 58 #[.slice a len cap, .int .i64 L] w fun e w' => e = .returned (.int .i64 (-1)) ∧ Below w.heap.size w w' := by
  have e : IntKind.i64.wrap (L - (len : Int)) = l := by rw [IntKind.wrap_i64]; omega
  clear hz hL hl
  go_enter Try.func58, Try.ntmps58
  go_wp2
  go_ret
  exact ⟨rfl, Below.refl _ _⟩
end Go.Proofs.Ytepdjlhlcjkdkaa.Ints
