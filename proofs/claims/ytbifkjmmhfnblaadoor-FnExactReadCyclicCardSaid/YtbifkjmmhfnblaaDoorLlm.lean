/- Marks on lists of lists. (gen_chd.py) -/
import Derived.Test.YtbifkjmmhfnblaaDoorLls
import Derived.Test.YtbifkjmmhfnblaaDoorOnl
namespace Go.Proofs.YtbifkjmmhfnblaaDoor.Ints
open Go.RowKit
set_option linter.unusedVariables false
set_option linter.unusedSimpArgs false
/-- A row of lists of the call's own, in blocks from B on and below T. -/
structure OwQT (w : World) (B T : Nat) (v : Value) (ts : List (List Int)) : Prop where
  len : ts.length ≤ 1048576
  size : T ≤ w.heap.size
  val : ∃ g c cs, v = .slice (some ⟨g, 0, none⟩) ts.length c ∧ g < T ∧ B ≤ g ∧ w.ownsRow B 22 1 (.slice (some ⟨g, 0, none⟩) ts.length c) ts.length cs ∧ (∀ i, i < ts.length → ∃ x, cs[i]? = some x ∧ Ow w B T x (ts.getD i [])) ∧ SepQ cs ts.length
theorem OwQ.t {w : World} {B : Nat} {v : Value} {ts : List (List Int)} (h : OwQ w B v ts) : OwQT w B w.heap.size v ts := by
  obtain ⟨hl, g, c, cs, rfl, ho, hc, hs⟩ := h
  exact ⟨hl, Nat.le_refl _, g, c, cs, rfl, (ho.lt g rfl).2, (ho.lt g rfl).1, ho, hc, hs⟩
theorem rowQ_kept {w w' : World} {B g c n : Nat} {cs : List Value} (ho : w.ownsRow B 22 1 (.slice (some ⟨g, 0, none⟩) n c) n cs) (hb : w'.heap[g]? = w.heap[g]?) : w'.ownsRow B 22 1 (.slice (some ⟨g, 0, none⟩) n c) n cs := by
  refine ⟨ho.1, ?_⟩
  rcases ho.2 with hn | ⟨g', cap, cur, hv, hbb, hgg, rest⟩
  · exact .inl hn
  · refine .inr ⟨g', cap, cur, hv, hbb, ?_, rest⟩
    cases hv
    rw [hb]; exact hgg
theorem OwQT.below {w w' : World} {B T C : Nat} {v : Value} {ts : List (List Int)} (h : OwQT w B T v ts) (hb : Below C w w') (hC : T ≤ C) : OwQT w' B T v ts := by
  obtain ⟨hl, hs, g, c, cs, rfl, h1, h2, ho, hc, hsq⟩ := h
  exact ⟨hl, Nat.le_trans hs hb.size, g, c, cs, rfl, h1, h2, rowQ_kept ho (hb.block g (by omega)), fun i hi => by
    obtain ⟨x, e, k⟩ := hc i hi
    exact ⟨x, e, k.below hb hC⟩, hsq⟩
theorem OwQT.apart {w : World} {B T g' : Nat} {v : Value} {ts : List (List Int)} (h : OwQT w B T v ts) (hg : g' < B) (j : Nat) (x : Value) : OwQT (w.setCell ⟨g', j, none⟩ x) B T v ts := by
  obtain ⟨hl, hs, g, c, cs, rfl, h1, h2, ho, hc, hsq⟩ := h
  exact ⟨hl, by simpa using hs, g, c, cs, rfl, h1, h2, rowQ_kept ho (Below.heap_setCell w ⟨g', j, none⟩ x g (by show g ≠ g'; omega)), fun i hi => by
    obtain ⟨u, e, k⟩ := hc i hi
    exact ⟨u, e, k.apartCell hg j x⟩, hsq⟩
theorem OwQT.mono {w : World} {B B' T : Nat} {v : Value} {ts : List (List Int)} (h : OwQT w B T v ts) (hB : B' ≤ B) : OwQT w B' T v ts := by
  obtain ⟨hl, hs, g, c, cs, rfl, h1, h2, ho, hc, hsq⟩ := h
  refine ⟨hl, hs, g, c, cs, rfl, h1, Nat.le_trans hB h2, ⟨ho.1, ?_⟩, fun i hi => by
    obtain ⟨u, e, k⟩ := hc i hi
    exact ⟨u, e, k.mono hB (Nat.le_refl _) hs⟩, hsq⟩
  rcases ho.2 with hn | ⟨g', cap, cur, hv, hbb, rest⟩
  · exact .inl hn
  · exact .inr ⟨g', cap, cur, hv, Nat.le_trans hB hbb, rest⟩
theorem OwQT.shape {w : World} {B T : Nat} {v : Value} {ts : List (List Int)} (h : OwQT w B T v ts) : ∃ a c, v = .slice a ts.length c := by
  obtain ⟨_, _, g, c, _, rfl, _⟩ := h
  exact ⟨_, _, rfl⟩
theorem OwQT.rdl {w : World} {B T : Nat} {v : Value} {ts : List (List Int)} (h : OwQT w B T v ts) : RdL w v ts := by
  obtain ⟨hl, hs, g, c, cs, rfl, h1, h2, ho, hc, hsq⟩ := h
  have hcap : ts.length ≤ c := by
    rcases ho.2 with ⟨hv, _⟩ | ⟨g2, c2, cur2, hv, _, _, hh, _⟩
    · cases hv
    · cases hv; exact hh
  refine ⟨hl, _, _, rfl, hcap, fun hne => ⟨g, 0, rfl, by omega, fun i hi => ?_⟩⟩
  obtain ⟨x, e, k⟩ := hc i hi
  exact ⟨x, by rw [Nat.zero_add, ho.cellAt _ (by have := ho.1; omega)]; exact e, k.rd⟩
/-- How many numbers lists have. -/
def tot : List (List Int) → Nat
  | [] => 0
  | t :: ts => t.length + tot ts
theorem tot_take (ts : List (List Int)) (i : Nat) (h : i < ts.length) : tot (ts.take (i + 1)) = tot (ts.take i) + (ts.getD i []).length := by
  induction ts generalizing i with
  | nil => simp at h
  | cons t ts ih =>
    cases i with
    | zero => simp [tot]
    | succ i =>
      simp only [List.take_succ_cons, tot, List.getD_cons_succ]
      rw [ih i (by simpa using h)]
      omega
theorem tot_le (ts : List (List Int)) (i : Nat) : tot (ts.take i) ≤ tot ts := by
  induction ts generalizing i with
  | nil => simp [tot]
  | cons t ts ih =>
    cases i with
    | zero => simp [tot]
    | succ i => simp only [List.take_succ_cons, tot]; have := ih i; omega
theorem szQ_tot (zs : List Qin) : ∀ L : Int, 0 ≤ szQ L zs → (tot (zs.map Qin.q) : Int) ≤ L := by
  induction zs with
  | nil => intro L h; simpa [szQ, tot] using h
  | cons t ts ih =>
    intro L h
    rw [szQ] at h
    split at h
    · omega
    · have := ih _ h
      simp only [List.map_cons, tot, Qin.q, List.length_take]
      push_cast
      omega
theorem szQV_tot {L : Int} {n : Nat} {zs : List Qin} (h : 0 ≤ szQV L n zs) : (tot ((zs.take n).map Qin.q) : Int) ≤ L := by
  unfold szQV at h
  split at h
  · omega
  · have := szQ_tot (zs.take n) (L - (n : Int)) h
    omega
set_option maxHeartbeats 2000000 in
theorem markLists (v : Value) (ts : List (List Int)) (k0 : Nat) (B T : Nat) (w : World) (h : OwQT w B T v ts) (h1 : k0 + tot ts ≤ 100000000000) :
    Calls Tryd.prog 74 #[v, .int .i64 (k0 : Int)] w fun e w' => e = .returned (.int .i64 ((k0 + tot ts : Nat) : Int)) ∧ Only (fun b => B ≤ b ∧ b < T) w w' := by
  obtain ⟨hl, hs, g, c, cs, rfl, hgT, hgB, ho, hc, hsq⟩ := h
  have HO := Lib.hid ho
  have HC := Lib.hid hc
  have HSQ := Lib.hid hsq
  have HG := Lib.hid (And.intro hgT hgB)
  have HS := Lib.hid hs
  clear ho hc hsq hgT hgB hs
  go_enter Tryd.func74, Tryd.ntmps74
  go_wp2
  go_loopw [1, 5] (fun q s wr => ∃ i : Nat, i ≤ ts.length ∧ s = .int .i64 i ∧ q = .int .i64 ((k0 + tot (ts.take i) : Nat) : Int) ∧ wr.heap[g]? = w.heap[g]? ∧ (∀ j, i ≤ j → j < ts.length → ∃ x, cs[j]? = some x ∧ Ow wr B T x (ts.getD j [])) ∧ Only (fun b => B ≤ b ∧ b < T) w wr)
    (fun _ s _ => ts.length - (intOf s).toNat)
  case atStart => exact ⟨0, Nat.zero_le _, rfl, by simp [tot], rfl, fun j _ hj => HC.out j hj, Only.refl _ _⟩
  case round =>
    obtain ⟨i, hi, rfl, rfl, hg, hrest, hon⟩ := hrel
    by_cases hlt : i < ts.length
    · obtain ⟨x, hx, hox⟩ := hrest i (Nat.le_refl _) hlt
      have hc2 : wr.cell? ⟨g, i, none⟩ = some x := by
        rw [(rowQ_kept HO.out hg).cellAt i (by have := HO.out.1; omega)]; exact hx
      obtain ⟨ax, cx, rfl⟩ := hox.shape
      obtain ⟨t, ht⟩ : ∃ t, t = ts.getD i [] := ⟨_, rfl⟩
      rw [← ht] at hox hc2 hx
      have HX := Lib.hid hox
      have HTT := Lib.hid ht
      have HR := Lib.hid hrest
      have HON := Lib.hid hon
      have HGE := Lib.hid hg
      have HCX := Lib.hid hx
      have htk := tot_take ts i hlt
      have htl := tot_le ts (i + 1)
      have HK := Lib.hid (And.intro htk htl)
      obtain ⟨k, hk⟩ : ∃ k, k = k0 + tot (ts.take i) := ⟨_, rfl⟩
      have HKE := Lib.hid hk
      have hkb : (k : Int) ≤ 1000000000000 := by rw [← ht] at htk; omega
      rw [← hk]
      have i0 : (0 : Int) ≤ (i : Int) := by omega
      have i1 : (i : Int) < (ts.length : Int) := by omega
      clear hrest hon hg hox ht hk hx htk htl
      go_wp2_with fail
      refine (markInts _ t (k : Int) B T _ HX.out (by omega) hkb).mono ?_
      rintro e w3 ⟨rfl, ho3, hg3⟩
      have HG3 : Hid (Only (fun b => B ≤ b ∧ b < T) wr w3) := Lib.hid ⟨hg3.os, hg3.tape, hg3.output, hg3.size, fun b hb hn => hg3.block b hb (fun e => by
        have hlt2 := HX.out.top b e.symm
        have hge := (HX.out.row.lt b e.symm).1
        exact hn ⟨hge, hlt2⟩)⟩
      have HGB : Hid (w3.heap[g]? = w.heap[g]?) := Lib.hid ((hg3.block g (by have := HON.out.size; have := HS.out; have := HG.out.1; omega) (fun e => HX.out.qapart (rowQ_kept HO.out HGE.out) e.symm)).trans HGE.out)
      have HR3 : Hid (∀ j, i + 1 ≤ j → j < ts.length → ∃ x, cs[j]? = some x ∧ Ow w3 B T x (ts.getD j [])) := Lib.hid (fun j hj hjl => by
        obtain ⟨y, e1, e2⟩ := HR.out j (by omega) hjl
        exact ⟨y, e1, e2.grown hg3 (HSQ.out i j _ _ (by omega) hjl HCX.out e1).2⟩)
      have e9 : (k : Int) + (t.length : Int) = ((k0 + tot (ts.take (i + 1)) : Nat) : Int) := by rw [HK.out.1, HKE.out, HTT.out]; push_cast; omega
      have E9 := Lib.hid e9
      clear ho3 hg3 hc2 e9
      go_wp2
      go_roundw
      case rel => exact ⟨i + 1, by omega, by go_num, by rw [← E9.out], HGB.out, HR3.out, HON.out.trans HG3.out⟩
      case measure => simp [intOf]; omega
    · obtain rfl : i = ts.length := by omega
      have HON := Lib.hid hon
      have hnlt : ¬ ((ts.length : Int) < (ts.length : Int)) := by omega
      clear hon hrest hg
      rw [List.take_length]
      go_wp2
      go_ret
      exact ⟨rfl, HON.out⟩
theorem OwQT.onlyQ {w w' : World} {B T : Nat} {v : Value} {ts : List (List Int)} {S : Nat → Prop} (h : OwQT w B T v ts) (k : Only S w w') (hS : ∀ b, B ≤ b → b < T → ¬ S b) : OwQT w' B T v ts := by
  obtain ⟨hl, hs, g, c, cs, rfl, h1, h2, ho, hc, hsq⟩ := h
  exact ⟨hl, Nat.le_trans hs k.size, g, c, cs, rfl, h1, h2, rowQ_kept ho (k.block g (by omega) (hS g h2 h1)), fun i hi => by
    obtain ⟨x, e, q⟩ := hc i hi
    exact ⟨x, e, q.onlyQ k hS⟩, hsq⟩
end Go.Proofs.YtbifkjmmhfnblaaDoor.Ints
