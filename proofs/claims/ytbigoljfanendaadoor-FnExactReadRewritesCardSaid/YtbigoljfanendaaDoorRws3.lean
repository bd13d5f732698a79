/- Rewriting rules copied into rows apart from each other, marks on them. (gen_rws3.py) -/
import Derived.Test.YtbigoljfanendaaDoorRws2
import Derived.Test.YtbigoljfanendaaDoorOnl
namespace Go.Proofs.YtbigoljfanendaaDoor.Ints
open Go.RowKit
set_option linter.unusedVariables false
set_option linter.unusedSimpArgs false
/-- The cells of a row lie apart from each other. -/
def SepC (cs : List Value) (k : Nat) : Prop := ∀ (i j : Nat) (x y : Value), i < j → j < k → cs[i]? = some x → cs[j]? = some y → Sep x y
theorem Cop.cellTop {w : World} {B k : Nat} {ts : List Tp} {cs : List Value} (h : Cop w B ts cs k) {i : Nat} {x : Value} (hi : i < k * 2) (hx : cs[i]? = some x) : ∀ b, x.ownBlock = some b → b < w.heap.size := by
  obtain ⟨u, v, q0, q1, q2, q3⟩ := h (i / 2) (by omega)
  rcases Nat.mod_two_eq_zero_or_one i with e | e
  · rw [show i / 2 * 2 = i by omega] at q0
    rw [q0] at hx; cases hx; exact q2.top
  · rw [show i / 2 * 2 + 1 = i by omega] at q1
    rw [q1] at hx; cases hx; exact q3.top
theorem SepC.step {w w1 : World} {B n k : Nat} {ts : List Tp} {cs : List Value} {x y : Value} {ls rs : List Int} (h : SepC cs (k * 2)) (hc : Cop w B ts cs k) (hkn : k < n) (hl : cs.length = n * 2)
    (h0 : Ow w1 w.heap.size w1.heap.size x ls) (h1 : Ow w1 w.heap.size w1.heap.size y rs) (hs : Sep x y) : SepC ((cs.set (k * 2) x).set (k * 2 + 1) y) ((k + 1) * 2) := by
  intro i j a b hij hj ha hb
  by_cases j1 : j = k * 2 + 1
  · subst j1
    rw [List.getElem?_set_self (by simp; omega)] at hb
    cases hb
    by_cases i0 : i = k * 2
    · subst i0
      rw [List.getElem?_set_ne (by omega), List.getElem?_set_self (by omega)] at ha
      cases ha; exact hs
    · rw [List.getElem?_set_ne (by omega), List.getElem?_set_ne (by omega)] at ha
      exact sep_of (hc.cellTop (by omega) ha) h1.row.lt (Nat.le_refl _)
  · rw [List.getElem?_set_ne (by omega)] at hb
    by_cases j0 : j = k * 2
    · subst j0
      rw [List.getElem?_set_self (by omega)] at hb
      cases hb
      rw [List.getElem?_set_ne (by omega), List.getElem?_set_ne (by omega)] at ha
      exact sep_of (hc.cellTop (by omega) ha) h0.row.lt (Nat.le_refl _)
    · rw [List.getElem?_set_ne (by omega)] at hb
      rw [List.getElem?_set_ne (by omega), List.getElem?_set_ne (by omega)] at ha
      exact h i j a b hij (by omega) ha hb
/-- A row of rewriting rules of the call's own, in blocks from B on and below T. -/
structure OwRT (w : World) (B T : Nat) (v : Value) (ts : List Tp) : Prop where
  len : ts.length ≤ 1048576
  size : T ≤ w.heap.size
  val : ∃ g c cs, v = .slice (some ⟨g, 0, none⟩) ts.length c ∧ g < T ∧ B ≤ g ∧ w.ownsRow B 97 2 (.slice (some ⟨g, 0, none⟩) ts.length c) ts.length cs ∧ (∀ i, i < ts.length → ∃ x y, cs[i * 2]? = some x ∧ cs[i * 2 + 1]? = some y ∧ Ow w B T x (ts.getD i tp0).l ∧ Ow w B T y (ts.getD i tp0).r) ∧ SepC cs (ts.length * 2)
theorem rowC_kept {w w' : World} {B g c n : Nat} {cs : List Value} (ho : w.ownsRow B 97 2 (.slice (some ⟨g, 0, none⟩) n c) n cs) (hb : w'.heap[g]? = w.heap[g]?) : w'.ownsRow B 97 2 (.slice (some ⟨g, 0, none⟩) n c) n cs := by
  refine ⟨ho.1, ?_⟩
  rcases ho.2 with hn | ⟨g', cap, cur, hv, hbb, hgg, rest⟩
  · exact .inl hn
  · refine .inr ⟨g', cap, cur, hv, hbb, ?_, rest⟩
    cases hv
    rw [hb]; exact hgg
theorem OwRT.below {w w' : World} {B T C : Nat} {v : Value} {ts : List Tp} (h : OwRT w B T v ts) (hb : Below C w w') (hC : T ≤ C) : OwRT w' B T v ts := by
  obtain ⟨hl, hs, g, c, cs, rfl, h1, h2, ho, hc, hsq⟩ := h
  exact ⟨hl, Nat.le_trans hs hb.size, g, c, cs, rfl, h1, h2, rowC_kept ho (hb.block g (by omega)), fun i hi => by
    obtain ⟨x, y, e, e', k, k'⟩ := hc i hi
    exact ⟨x, y, e, e', k.below hb hC, k'.below hb hC⟩, hsq⟩
theorem OwRT.onlyQ {w w' : World} {B T : Nat} {v : Value} {ts : List Tp} {S : Nat → Prop} (h : OwRT w B T v ts) (k : Only S w w') (hS : ∀ b, B ≤ b → b < T → ¬ S b) : OwRT w' B T v ts := by
  obtain ⟨hl, hs, g, c, cs, rfl, h1, h2, ho, hc, hsq⟩ := h
  exact ⟨hl, Nat.le_trans hs k.size, g, c, cs, rfl, h1, h2, rowC_kept ho (k.block g (by omega) (hS g h2 h1)), fun i hi => by
    obtain ⟨x, y, e, e', q, q'⟩ := hc i hi
    exact ⟨x, y, e, e', q.onlyQ k hS, q'.onlyQ k hS⟩, hsq⟩
theorem OwRT.shape {w : World} {B T : Nat} {v : Value} {ts : List Tp} (h : OwRT w B T v ts) : ∃ a c, v = .slice a ts.length c := by
  obtain ⟨_, _, g, c, _, rfl, _⟩ := h
  exact ⟨_, _, rfl⟩
theorem OwRT.base {w : World} {B T : Nat} {v : Value} {ts : List Tp} (h : OwRT w B T v ts) : B ≤ T := by
  obtain ⟨_, _, g, c, _, _, h1, h2, _⟩ := h
  omega
theorem OwRT.rdt {w : World} {B T : Nat} {v : Value} {ts : List Tp} (h : OwRT w B T v ts) : RdT w v ts := by
  obtain ⟨hl, hs, g, c, cs, rfl, h1, h2, ho, hc, hsq⟩ := h
  have hcap : ts.length ≤ c := by
    rcases ho.2 with ⟨hv, _⟩ | ⟨g2, c2, cur2, hv, _, _, hh, _⟩
    · cases hv
    · cases hv; exact hh
  refine ⟨hl, _, _, rfl, hcap, fun hne => ⟨g, 0, rfl, by omega, fun i hi => ?_⟩⟩
  obtain ⟨x, y, e, e', k, k'⟩ := hc i hi
  exact ⟨x, y, by rw [Nat.zero_add, ho.cellAt _ (by have := ho.1; omega)]; exact e, by rw [Nat.zero_add, ho.cellAt _ (by have := ho.1; omega)]; exact e', k.rd, k'.rd⟩
/-- How many numbers rules have. -/
def totR : List Tp → Nat
  | [] => 0
  | t :: ts => t.l.length + t.r.length + totR ts
theorem totR_take (ts : List Tp) (i : Nat) (h : i < ts.length) : totR (ts.take (i + 1)) = totR (ts.take i) + (ts.getD i tp0).l.length + (ts.getD i tp0).r.length := by
  induction ts generalizing i with
  | nil => simp at h
  | cons t ts ih =>
    cases i with
    | zero => simp [totR]
    | succ i =>
      simp only [List.take_succ_cons, totR, List.getD_cons_succ]
      rw [ih i (by simpa using h)]
      omega
theorem totR_le (ts : List Tp) (i : Nat) : totR (ts.take i) ≤ totR ts := by
  induction ts generalizing i with
  | nil => simp [totR]
  | cons t ts ih =>
    cases i with
    | zero => simp [totR]
    | succ i => simp only [List.take_succ_cons, totR]; have := ih i; omega
theorem szT_tot (zs : List Tin) : ∀ L : Int, 0 ≤ szT L zs → (totR (zs.map Tin.tp) : Int) ≤ L := by
  induction zs with
  | nil => intro L h; simpa [szT, totR] using h
  | cons t ts ih =>
    intro L h
    rw [szT] at h
    split at h
    · omega
    · split at h
      · omega
      · have := ih _ h
        simp only [List.map_cons, totR, Tin.tp, List.length_take]
        push_cast
        omega
set_option maxHeartbeats 2000000 in
theorem markRws (v : Value) (ts : List Tp) (k0 : Nat) (B T : Nat) (w : World) (h : OwRT w B T v ts) (h1 : k0 + totR ts ≤ 100000000000) :
    Calls Tryd.prog 24 #[v, .int .i64 (k0 : Int)] w fun e w' => e = .returned (.int .i64 ((k0 + totR ts : Nat) : Int)) ∧ Only (fun b => B ≤ b ∧ b < T) w w' := by
  obtain ⟨hl, hs, g, c, cs, rfl, hgT, hgB, ho, hc, hsq⟩ := h
  have HO := Lib.hid ho
  have HC := Lib.hid hc
  have HSQ := Lib.hid hsq
  have HG := Lib.hid (And.intro hgT hgB)
  have HS := Lib.hid hs
  clear ho hc hsq hgT hgB hs
  go_enter Tryd.func24, Tryd.ntmps24
  go_wp2
  go_loopw [1, 5] (fun q s wr => ∃ i : Nat, i ≤ ts.length ∧ s = .int .i64 i ∧ q = .int .i64 ((k0 + totR (ts.take i) : Nat) : Int) ∧ wr.heap[g]? = w.heap[g]? ∧ (∀ j, i ≤ j → j < ts.length → ∃ x y, cs[j * 2]? = some x ∧ cs[j * 2 + 1]? = some y ∧ Ow wr B T x (ts.getD j tp0).l ∧ Ow wr B T y (ts.getD j tp0).r) ∧ Only (fun b => B ≤ b ∧ b < T) w wr)
    (fun _ s _ => ts.length - (intOf s).toNat)
  case atStart => exact ⟨0, Nat.zero_le _, rfl, by simp [totR], rfl, fun j _ hj => HC.out j hj, Only.refl _ _⟩
  case round =>
    obtain ⟨i, hi, rfl, rfl, hg, hrest, hon⟩ := hrel
    by_cases hlt : i < ts.length
    · obtain ⟨x, y, hx, hy, hox, hoy⟩ := hrest i (Nat.le_refl _) hlt
      have hrow := rowC_kept HO.out hg
      have hc2 : wr.cell? ⟨g, i * 2, none⟩ = some x := by
        rw [hrow.cellAt (i * 2) (by have := HO.out.1; omega)]; exact hx
      obtain ⟨ax, cx, rfl⟩ := hox.shape
      obtain ⟨ay, cy, rfl⟩ := hoy.shape
      obtain ⟨l, hle⟩ : ∃ l, l = (ts.getD i tp0).l := ⟨_, rfl⟩
      obtain ⟨r, hre⟩ : ∃ r, r = (ts.getD i tp0).r := ⟨_, rfl⟩
      rw [← hle] at hox hc2 hx
      rw [← hre] at hoy hy
      have HX := Lib.hid hox
      have HY := Lib.hid hoy
      have HR := Lib.hid hrest
      have HON := Lib.hid hon
      have HGE := Lib.hid hg
      have HCX := Lib.hid hx
      have HCY := Lib.hid hy
      have htk := totR_take ts i hlt
      have htl := totR_le ts (i + 1)
      rw [← hle, ← hre] at htk
      have HK := Lib.hid (And.intro htk htl)
      obtain ⟨k, hk⟩ : ∃ k, k = k0 + totR (ts.take i) := ⟨_, rfl⟩
      have HKE := Lib.hid hk
      have hkb : (k : Int) ≤ 1000000000000 := by omega
      have hkb2 : (k : Int) + (l.length : Int) ≤ 1000000000000 := by omega
      rw [← hk]
      have i0 : (0 : Int) ≤ (i : Int) := by omega
      have i1 : (i : Int) < (ts.length : Int) := by omega
      clear hrest hon hg hox hoy hle hre hk hx hy htk htl hrow
      go_wp2_with fail
      refine (markInts _ l (k : Int) B T _ HX.out (by omega) hkb).mono ?_
      rintro e w3 ⟨rfl, ho3, hg3⟩
      have HG3 : Hid (Only (fun b => B ≤ b ∧ b < T) wr w3) := Lib.hid ⟨hg3.os, hg3.tape, hg3.output, hg3.size, fun b hb hn => hg3.block b hb (fun e => by
        have hlt2 := HX.out.top b e.symm
        have hge := (HX.out.row.lt b e.symm).1
        exact hn ⟨hge, hlt2⟩)⟩
      have HGB : Hid (w3.heap[g]? = w.heap[g]?) := Lib.hid ((hg3.block g (by have := HON.out.size; have := HS.out; have := HG.out.1; omega) (fun e => HX.out.napart (rowC_kept HO.out HGE.out) e.symm)).trans HGE.out)
      have HY3 : Hid (Ow w3 B T (.slice ay r.length cy) r) := Lib.hid (HY.out.grown hg3 (HSQ.out (i * 2) (i * 2 + 1) _ _ (by omega) (by omega) HCX.out HCY.out).2)
      have HR3 : Hid (∀ j, i + 1 ≤ j → j < ts.length → ∃ x y, cs[j * 2]? = some x ∧ cs[j * 2 + 1]? = some y ∧ Ow w3 B T x (ts.getD j tp0).l ∧ Ow w3 B T y (ts.getD j tp0).r) := Lib.hid (fun j hj hjl => by
        obtain ⟨u, v, e1, e2, e3, e4⟩ := HR.out j (by omega) hjl
        exact ⟨u, v, e1, e2, e3.grown hg3 (HSQ.out (i * 2) (j * 2) _ _ (by omega) (by omega) HCX.out e1).2, e4.grown hg3 (HSQ.out (i * 2) (j * 2 + 1) _ _ (by omega) (by omega) HCX.out e2).2⟩)
      have hc4 : w3.cell? ⟨g, i * 2 + 1, none⟩ = some (.slice ay r.length cy) := by
        rw [(rowC_kept HO.out HGB.out).cellAt (i * 2 + 1) (by have := HO.out.1; omega)]; exact HCY.out
      clear ho3 hg3 hc2
      go_wp2_with fail
      refine (markInts _ r ((k : Int) + (l.length : Int)) B T _ HY3.out (by omega) hkb2).mono ?_
      rintro e w4 ⟨rfl, ho4, hg4⟩
      have HG4 : Hid (Only (fun b => B ≤ b ∧ b < T) wr w4) := Lib.hid (HG3.out.trans ⟨hg4.os, hg4.tape, hg4.output, hg4.size, fun b hb hn => hg4.block b hb (fun e => by
        have hlt2 := HY3.out.top b e.symm
        have hge := (HY3.out.row.lt b e.symm).1
        exact hn ⟨hge, hlt2⟩)⟩)
      have HGB4 : Hid (w4.heap[g]? = w.heap[g]?) := Lib.hid ((hg4.block g (by have := HON.out.size; have := HG3.out.size; have := HS.out; have := HG.out.1; omega) (fun e => HY3.out.napart (rowC_kept HO.out HGB.out) e.symm)).trans HGB.out)
      have HR4 : Hid (∀ j, i + 1 ≤ j → j < ts.length → ∃ x y, cs[j * 2]? = some x ∧ cs[j * 2 + 1]? = some y ∧ Ow w4 B T x (ts.getD j tp0).l ∧ Ow w4 B T y (ts.getD j tp0).r) := Lib.hid (fun j hj hjl => by
        obtain ⟨u, v, e1, e2, e3, e4⟩ := HR3.out j hj hjl
        exact ⟨u, v, e1, e2, e3.grown hg4 (HSQ.out (i * 2 + 1) (j * 2) _ _ (by omega) (by omega) HCY.out e1).2, e4.grown hg4 (HSQ.out (i * 2 + 1) (j * 2 + 1) _ _ (by omega) (by omega) HCY.out e2).2⟩)
      have E9 : Hid ((k : Int) + (l.length : Int) + (r.length : Int) = ((k0 + totR (ts.take (i + 1)) : Nat) : Int)) := Lib.hid (by rw [HK.out.1, HKE.out]; push_cast; omega)
      clear ho4 hg4 hc4
      go_wp2
      go_roundw
      case rel => exact ⟨i + 1, by omega, by go_num, by rw [← E9.out], HGB4.out, HR4.out, HON.out.trans HG4.out⟩
      case measure => simp [intOf]; omega
    · obtain rfl : i = ts.length := by omega
      have HON := Lib.hid hon
      have hnlt : ¬ ((ts.length : Int) < (ts.length : Int)) := by omega
      clear hon hrest hg
      rw [List.take_length]
      go_wp2
      go_ret
      exact ⟨rfl, HON.out⟩
end Go.Proofs.YtbigoljfanendaaDoor.Ints
