/- Rewriting rules of the call's own, or none: marks on them, and whether they are there still. -/
import Derived.Test.YtbigoljfanendaaDoorRws3
namespace Go.Proofs.YtbigoljfanendaaDoor.Ints
open Go.RowKit
set_option linter.unusedVariables false
set_option linter.unusedSimpArgs false
/-- The marks on rules. -/
def mkT : Nat → List Tp → List Tp
  | _, [] => []
  | k, t :: ts => ⟨marks (k : Int) t.l.length, marks ((k + t.l.length : Nat) : Int) t.r.length⟩ :: mkT (k + t.l.length + t.r.length) ts
@[simp] theorem mkT_len (k : Nat) (ts : List Tp) : (mkT k ts).length = ts.length := by
  induction ts generalizing k with
  | nil => rfl
  | cons t ts ih => simp [mkT, ih]
theorem mkT_at (ts : List Tp) : ∀ (k i : Nat), i < ts.length → (mkT k ts).getD i tp0 = ⟨marks ((k + totR (ts.take i) : Nat) : Int) (ts.getD i tp0).l.length, marks ((k + totR (ts.take i) + (ts.getD i tp0).l.length : Nat) : Int) (ts.getD i tp0).r.length⟩ := by
  induction ts with
  | nil => intro k i h; simp at h
  | cons t ts ih =>
    intro k i h
    cases i with
    | zero => simp [mkT, totR]
    | succ i =>
      simp only [mkT, List.getD_cons_succ, List.take_succ_cons, totR]
      rw [ih _ i (by simpa using h)]
      simp only [Nat.add_assoc]
theorem SepC.ne {cs : List Value} {k i j : Nat} {x y : Value} (h : SepC cs k) (hij : i ≠ j) (hi : i < k) (hj : j < k) (hx : cs[i]? = some x) (hy : cs[j]? = some y) : Sep x y := by
  rcases Nat.lt_or_gt_of_ne hij with h' | h'
  · exact h i j x y h' hj hx hy
  · exact (h j i y x h' hi hy hx).symm
/-- Rules of the call's own, or none. -/
def OwRN (w : World) (B T : Nat) (v : Value) (ts : List Tp) : Prop := OwRT w B T v ts ∨ (v = .slice none 0 0 ∧ ts = [] ∧ B ≤ T ∧ T ≤ w.heap.size)
theorem OwRN.below {w w' : World} {B T C : Nat} {v : Value} {ts : List Tp} (h : OwRN w B T v ts) (hb : Below C w w') (hC : T ≤ C) : OwRN w' B T v ts := by
  rcases h with h | ⟨rfl, rfl, h1, h2⟩
  · exact .inl (h.below hb hC)
  · exact .inr ⟨rfl, rfl, h1, Nat.le_trans h2 hb.size⟩
theorem OwRN.onlyQ {w w' : World} {B T : Nat} {v : Value} {ts : List Tp} {S : Nat → Prop} (h : OwRN w B T v ts) (k : Only S w w') (hS : ∀ b, B ≤ b → b < T → ¬ S b) : OwRN w' B T v ts := by
  rcases h with h | ⟨rfl, rfl, h1, h2⟩
  · exact .inl (h.onlyQ k hS)
  · exact .inr ⟨rfl, rfl, h1, Nat.le_trans h2 k.size⟩
theorem OwRN.shape {w : World} {B T : Nat} {v : Value} {ts : List Tp} (h : OwRN w B T v ts) : ∃ a c, v = .slice a ts.length c := by
  rcases h with h | ⟨rfl, rfl, h1, h2⟩
  · exact h.shape
  · exact ⟨_, _, rfl⟩
theorem OwRN.rdt {w : World} {B T : Nat} {v : Value} {ts : List Tp} (h : OwRN w B T v ts) : RdT w v ts := by
  rcases h with h | ⟨rfl, rfl, h1, h2⟩
  · exact h.rdt
  · exact ⟨by simp, none, 0, rfl, Nat.le_refl _, fun h => absurd rfl h⟩
theorem OwRN.held {w : World} {B T : Nat} {v : Value} {ts : List Tp} (h : OwRN w B T v ts) : RdT w v ts := h.rdt
theorem OwRN.len {w : World} {B T : Nat} {v : Value} {ts : List Tp} (h : OwRN w B T v ts) : ts.length ≤ 1048576 := by
  rcases h with h | ⟨rfl, rfl, h1, h2⟩
  · exact h.len
  · simp
theorem OwRN.size {w : World} {B T : Nat} {v : Value} {ts : List Tp} (h : OwRN w B T v ts) : T ≤ w.heap.size := by
  rcases h with h | ⟨rfl, rfl, h1, h2⟩
  · exact h.size
  · exact h2
/-- The rules when the first i of them bear marks. -/
def mx (k : Nat) (ts : List Tp) (i j : Nat) : Tp := if j < i then (mkT k ts).getD j tp0 else ts.getD j tp0
theorem mx_lt {k : Nat} {ts : List Tp} {i j : Nat} (h : j < i) : mx k ts i j = (mkT k ts).getD j tp0 := if_pos h
theorem mx_ge {k : Nat} {ts : List Tp} {i j : Nat} (h : i ≤ j) : mx k ts i j = ts.getD j tp0 := if_neg (by omega)
theorem mx_ne {k : Nat} {ts : List Tp} {i j : Nat} (h : j ≠ i) : mx k ts (i + 1) j = mx k ts i j := by
  unfold mx
  by_cases h1 : j < i
  · rw [if_pos h1, if_pos (by omega)]
  · rw [if_neg h1, if_neg (by omega)]
set_option maxHeartbeats 4000000 in
theorem markRwsM (v : Value) (ts : List Tp) (k0 : Nat) (B T : Nat) (w : World) (h : OwRN w B T v ts) (h1 : k0 + totR ts ≤ 100000000000) :
    Calls Tryd.prog 24 #[v, .int .i64 (k0 : Int)] w fun e w' => e = .returned (.int .i64 ((k0 + totR ts : Nat) : Int)) ∧ OwRN w' B T v (mkT k0 ts) ∧ Only (fun b => B ≤ b ∧ b < T) w w' := by
  rcases h with h | ⟨rfl, rfl, hh⟩
  rotate_left
  · have HH := Lib.hid hh
    clear hh
    go_enter Tryd.func24, Tryd.ntmps24
    go_wp2
    refine wp_loop_rounds 1 ?_
    rw [rounds_succ]
    go_wp2
    go_ret
    exact ⟨by simp [totR], .inr ⟨rfl, rfl, HH.out.1, HH.out.2⟩, Only.refl _ _⟩
  obtain ⟨hl, hs, g, c, cs, rfl, hgT, hgB, ho, hc, hsq⟩ := h
  have HL := Lib.hid hl
  have HO := Lib.hid ho
  have HC := Lib.hid hc
  have HSQ := Lib.hid hsq
  have HG := Lib.hid (And.intro hgT hgB)
  have HS := Lib.hid hs
  clear ho hc hsq hgT hgB hs
  go_enter Tryd.func24, Tryd.ntmps24
  go_wp2
  go_loopw [1, 5] (fun q s wr => ∃ i : Nat, i ≤ ts.length ∧ s = .int .i64 i ∧ q = .int .i64 ((k0 + totR (ts.take i) : Nat) : Int) ∧ wr.heap[g]? = w.heap[g]? ∧ (∀ j, j < ts.length → ∃ x y, cs[j * 2]? = some x ∧ cs[j * 2 + 1]? = some y ∧ Ow wr B T x (mx k0 ts i j).l ∧ Ow wr B T y (mx k0 ts i j).r) ∧ Only (fun b => B ≤ b ∧ b < T) w wr)
    (fun _ s _ => ts.length - (intOf s).toNat)
  case atStart => exact ⟨0, Nat.zero_le _, rfl, by simp [totR], rfl, fun j hj => by rw [mx_ge (Nat.zero_le _)]; exact HC.out j hj, Only.refl _ _⟩
  case round =>
    obtain ⟨i, hi, rfl, rfl, hg, hrest, hon⟩ := hrel
    by_cases hlt : i < ts.length
    · obtain ⟨x, y, hx, hy, hox, hoy⟩ := hrest i hlt
      rw [mx_ge (Nat.le_refl _)] at hox hoy
      have hrow := rowC_kept HO.out hg
      have hc2 : wr.cell? ⟨g, i * 2, none⟩ = some x := by
        rw [hrow.cellAt (i * 2) (by have := HO.out.1; omega)]; exact hx
      obtain ⟨ax, cx, rfl⟩ := hox.shape
      obtain ⟨ay, cy, rfl⟩ := hoy.shape
      have HMK := Lib.hid (mkT_at ts k0 i hlt)
      obtain ⟨l, hle⟩ : ∃ l, l = (ts.getD i tp0).l := ⟨_, rfl⟩
      obtain ⟨r, hre⟩ : ∃ r, r = (ts.getD i tp0).r := ⟨_, rfl⟩
      rw [← hle] at hox hc2 hx HMK
      rw [← hre] at hoy hy HMK
      have HX := Lib.hid hox
      have HY := Lib.hid hoy
      have HR := Lib.hid hrest
      have HON := Lib.hid hon
      have HGE := Lib.hid hg
      have HCX := Lib.hid hx
      have HCY := Lib.hid hy
      have htk := totR_take ts i hlt
      have htl := totR_le ts (i + 1)
      rw [← hle, ← hre] at htk
      have HK := Lib.hid (And.intro htk htl)
      obtain ⟨k, hk⟩ : ∃ k, k = k0 + totR (ts.take i) := ⟨_, rfl⟩
      have HKE := Lib.hid hk
      have hkb : (k : Int) ≤ 1000000000000 := by omega
      have hkb2 : (k : Int) + (l.length : Int) ≤ 1000000000000 := by omega
      rw [← hk] at HMK
      rw [← hk]
      have i0 : (0 : Int) ≤ (i : Int) := by omega
      have i1 : (i : Int) < (ts.length : Int) := by omega
      clear hrest hon hg hox hoy hle hre hk hx hy htk htl hrow
      go_wp2_with fail
      refine (markInts _ l (k : Int) B T _ HX.out (by omega) hkb).mono ?_
      rintro e w3 ⟨rfl, ho3, hg3⟩
      have HX3 := Lib.hid ho3
      have HG3 : Hid (Only (fun b => B ≤ b ∧ b < T) wr w3) := Lib.hid ⟨hg3.os, hg3.tape, hg3.output, hg3.size, fun b hb hn => hg3.block b hb (fun e => by
        have hlt2 := HX.out.top b e.symm
        have hge := (HX.out.row.lt b e.symm).1
        exact hn ⟨hge, hlt2⟩)⟩
      have HGB : Hid (w3.heap[g]? = w.heap[g]?) := Lib.hid ((hg3.block g (by have := HON.out.size; have := HS.out; have := HG.out.1; omega) (fun e => HX.out.napart (rowC_kept HO.out HGE.out) e.symm)).trans HGE.out)
      have HY3 : Hid (Ow w3 B T (.slice ay r.length cy) r) := Lib.hid (HY.out.grown hg3 (HSQ.out (i * 2) (i * 2 + 1) _ _ (by omega) (by omega) HCX.out HCY.out).2)
      have HR3 : Hid (∀ j, j ≠ i → j < ts.length → ∃ x y, cs[j * 2]? = some x ∧ cs[j * 2 + 1]? = some y ∧ Ow w3 B T x (mx k0 ts i j).l ∧ Ow w3 B T y (mx k0 ts i j).r) := Lib.hid (fun j hj hjl => by
        obtain ⟨u, v, e1, e2, e3, e4⟩ := HR.out j hjl
        exact ⟨u, v, e1, e2, e3.grown hg3 (HSQ.out.ne (i := i * 2) (j := j * 2) (by omega) (by omega) (by omega) HCX.out e1).2, e4.grown hg3 (HSQ.out.ne (i := i * 2) (j := j * 2 + 1) (by omega) (by omega) (by omega) HCX.out e2).2⟩)
      have hc4 : w3.cell? ⟨g, i * 2 + 1, none⟩ = some (.slice ay r.length cy) := by
        rw [(rowC_kept HO.out HGB.out).cellAt (i * 2 + 1) (by have := HO.out.1; omega)]; exact HCY.out
      clear ho3 hg3 hc2
      go_wp2_with fail
      refine (markInts _ r ((k : Int) + (l.length : Int)) B T _ HY3.out (by omega) hkb2).mono ?_
      rintro e w4 ⟨rfl, ho4, hg4⟩
      have HX4 : Hid (Ow w4 B T (.slice ax l.length cx) (marks (k : Int) l.length)) := Lib.hid (HX3.out.grown hg4 (HSQ.out (i * 2) (i * 2 + 1) _ _ (by omega) (by omega) HCX.out HCY.out).1)
      have HY4 := Lib.hid ho4
      have HG4 : Hid (Only (fun b => B ≤ b ∧ b < T) wr w4) := Lib.hid (HG3.out.trans ⟨hg4.os, hg4.tape, hg4.output, hg4.size, fun b hb hn => hg4.block b hb (fun e => by
        have hlt2 := HY3.out.top b e.symm
        have hge := (HY3.out.row.lt b e.symm).1
        exact hn ⟨hge, hlt2⟩)⟩)
      have HGB4 : Hid (w4.heap[g]? = w.heap[g]?) := Lib.hid ((hg4.block g (by have := HON.out.size; have := HG3.out.size; have := HS.out; have := HG.out.1; omega) (fun e => HY3.out.napart (rowC_kept HO.out HGB.out) e.symm)).trans HGB.out)
      have HR4 : Hid (∀ j, j < ts.length → ∃ x y, cs[j * 2]? = some x ∧ cs[j * 2 + 1]? = some y ∧ Ow w4 B T x (mx k0 ts (i + 1) j).l ∧ Ow w4 B T y (mx k0 ts (i + 1) j).r) := Lib.hid (fun j hjl => by
        by_cases hj : j = i
        · subst hj
          rw [mx_lt (Nat.lt_succ_self _), HMK.out]
          exact ⟨_, _, HCX.out, HCY.out, HX4.out, by push_cast; exact HY4.out⟩
        · obtain ⟨u, v, e1, e2, e3, e4⟩ := HR3.out j hj hjl
          rw [mx_ne hj]
          exact ⟨u, v, e1, e2, e3.grown hg4 (HSQ.out.ne (i := i * 2 + 1) (j := j * 2) (by omega) (by omega) (by omega) HCY.out e1).2, e4.grown hg4 (HSQ.out.ne (i := i * 2 + 1) (j := j * 2 + 1) (by omega) (by omega) (by omega) HCY.out e2).2⟩)
      have E9 : Hid ((k : Int) + (l.length : Int) + (r.length : Int) = ((k0 + totR (ts.take (i + 1)) : Nat) : Int)) := Lib.hid (by rw [HK.out.1, HKE.out]; push_cast; omega)
      clear ho4 hg4 hc4
      go_wp2
      go_roundw
      case rel => exact ⟨i + 1, by omega, by go_num, by rw [← E9.out], HGB4.out, HR4.out, HON.out.trans HG4.out⟩
      case measure => simp [intOf]; omega
    · obtain rfl : i = ts.length := by omega
      have HON := Lib.hid hon
      have HR := Lib.hid hrest
      have HGE := Lib.hid hg
      have hnlt : ¬ ((ts.length : Int) < (ts.length : Int)) := by omega
      have HF : Hid (OwRN wr B T (.slice (some ⟨g, 0, none⟩) ts.length c) (mkT k0 ts)) := Lib.hid (.inl ⟨by rw [mkT_len]; exact HL.out, Nat.le_trans HS.out HON.out.size, g, c, cs, by rw [mkT_len], HG.out.1, HG.out.2, by rw [mkT_len]; exact rowC_kept HO.out HGE.out, fun i hi => by
        rw [mkT_len] at hi
        have := HR.out i hi
        rw [mx_lt hi] at this
        exact this, by rw [mkT_len]; exact HSQ.out⟩)
      clear hon hrest hg
      rw [List.take_length]
      go_wp2
      go_ret
      exact ⟨rfl, HF.out, HON.out⟩
set_option maxHeartbeats 4000000 in
theorem heldRws (v : Value) (ts : List Tp) (k0 : Nat) (w : World) (h : RdT w v (mkT k0 ts)) (h1 : k0 + totR ts ≤ 100000000000) :
    Calls Tryd.prog 25 #[v, .int .i64 (k0 : Int)] w fun e w' => e = .returned (.int .i64 ((k0 + totR ts : Nat) : Int)) ∧ w = w' := by
  obtain ⟨hl, a, c, rfl, hcap, hr⟩ := h
  simp only [mkT_len] at hl hcap hr
  rw [mkT_len]
  have HR := Lib.hid hr
  clear hr
  go_enter Tryd.func25, Tryd.ntmps25
  go_wp2
  go_loop [1, 5] (fun q s => ∃ i : Nat, i ≤ ts.length ∧ s = .int .i64 i ∧ q = .int .i64 ((k0 + totR (ts.take i) : Nat) : Int)) (fun _ s => ts.length - (intOf s).toNat)
  case atStart => exact ⟨0, Nat.zero_le _, rfl, by simp [totR]⟩
  case round =>
    obtain ⟨i, hi, rfl, rfl⟩ := hrel
    by_cases hlt : i < ts.length
    · obtain ⟨b, o, rfl, hb, hcell⟩ := HR.out (by intro h0; have := congrArg List.length h0; rw [mkT_len, List.length_nil] at this; omega)
      obtain ⟨x, y, c0, c1, hx, hy⟩ := hcell i hlt
      rw [mkT_at ts k0 i hlt] at hx hy
      dsimp only at hx hy
      obtain ⟨l, hle⟩ : ∃ l, l = (ts.getD i tp0).l.length := ⟨_, rfl⟩
      obtain ⟨r, hre⟩ : ∃ r, r = (ts.getD i tp0).r.length := ⟨_, rfl⟩
      have htk := totR_take ts i hlt
      have htl := totR_le ts (i + 1)
      rw [← hle] at hx hy htk
      rw [← hre] at hy htk
      have HK := Lib.hid (And.intro htk htl)
      obtain ⟨k, hk⟩ : ∃ k, k = k0 + totR (ts.take i) := ⟨_, rfl⟩
      have HKE := Lib.hid hk
      have hkb : (k : Int) ≤ 1000000000000 := by omega
      have hkb2 : (k : Int) + (l : Int) ≤ 1000000000000 := by omega
      have hn1 : ¬ ((k : Int) + (l : Int) < 0) := by omega
      have hn2 : ¬ ((k : Int) + (l : Int) + (r : Int) < 0) := by omega
      rw [← hk] at hx hy ⊢
      have HX := Lib.hid hx
      have HY : Hid (Rd w y (marks ((k : Int) + (l : Int)) r)) := Lib.hid (by push_cast at hy; exact hy)
      obtain ⟨_, _, ax, cx, rfl, _, _⟩ := hx
      obtain ⟨_, _, ay, cy, rfl, _, _⟩ := hy
      simp only [length_marks] at HX HY c0 c1
      have i0 : (0 : Int) ≤ (i : Int) := by omega
      have i1 : (i : Int) < (ts.length : Int) := by omega
      clear hcell hle hre hk htk htl
      have E9 : Hid ((k : Int) + (l : Int) + (r : Int) = ((k0 + totR (ts.take (i + 1)) : Nat) : Int)) := Lib.hid (by rw [HK.out.1, HKE.out]; push_cast; omega)
      go_wp2_with fail
      refine (heldInts _ l (k : Int) _ HX.out (by omega) hkb).mono ?_
      rintro e w3 ⟨rfl, rfl⟩
      go_wp2_with fail
      refine (heldInts _ r ((k : Int) + (l : Int)) _ HY.out (by omega) hkb2).mono ?_
      rintro e w4 ⟨rfl, rfl⟩
      go_wp2
      go_round
      case rel => exact ⟨i + 1, by omega, by go_num, by rw [← E9.out]⟩
      case measure => simp [intOf]; omega
    · obtain rfl : i = ts.length := by omega
      have hnlt : ¬ ((ts.length : Int) < (ts.length : Int)) := by omega
      rw [List.take_length]
      go_wp2
      go_ret
      exact ⟨rfl, rfl⟩
end Go.Proofs.YtbigoljfanendaaDoor.Ints
