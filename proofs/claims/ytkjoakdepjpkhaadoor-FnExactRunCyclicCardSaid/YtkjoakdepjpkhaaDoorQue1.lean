/- The queue at offset 1: head, put, take, letters. (gen_que.py) -/
import Derived.Test.YtkjoakdepjpkhaaDoorRng
import Derived.Test.YtkjoakdepjpkhaaDoorStR
import Derived.Deep.DeepCutAuto
namespace Go.Proofs.YtkjoakdepjpkhaaDoor.Ints
open Go.RowKit
set_option linter.unusedVariables false
set_option linter.unusedSimpArgs false
/-- The queue's three cells among a block's. -/
structure QAt1 (cs : List Value) (q f l : Nat) : Prop where
  ring : cs[1]? = some (.slice (some ⟨q, 0, none⟩) 1000 1000)
  first : cs[2]? = some (.int .i64 (f : Int))
  len : cs[3]? = some (.int .i64 (l : Int))
theorem QAt1.set {cs : List Value} {q f l : Nat} (h : QAt1 cs q f l) (l' : Nat) : QAt1 (cs.set 3 (.int .i64 (l' : Int))) q f l' :=
  ⟨by rw [List.getElem?_set_ne (by omega)]; exact h.ring, by rw [List.getElem?_set_ne (by omega)]; exact h.first, by rw [List.getElem?_set_self (List.getElem?_eq_some_iff.1 h.len).1]⟩
theorem QAt1.setF {cs : List Value} {q f l : Nat} (h : QAt1 cs q f l) (f' : Nat) : QAt1 (cs.set 2 (.int .i64 (f' : Int))) q f' l :=
  ⟨by rw [List.getElem?_set_ne (by omega)]; exact h.ring, by rw [List.getElem?_set_self (List.getElem?_eq_some_iff.1 h.first).1], by rw [List.getElem?_set_ne (by omega)]; exact h.len⟩
theorem queHead1 (g q f l : Nat) (t : TypeId) (cs : List Value) (zs : List Int) (w : World) (hc : Cels w g t cs) (hq : QAt1 cs q f l) (hr : Cels w q 2 (zs.map (.int .i64))) (hz : zs.length = 1000) (hf : f < 1000) :
    Calls Tryd.prog 188 #[.pointer (some ⟨g, 1, none⟩)] w fun e w' => e = .returned (.int .i64 (zs.getD f 0)) ∧ ∃ m, w' = w.drewN m := by
  have z0 := hc.cell 1 hq.ring
  have z1 := hc.cell 2 hq.first
  obtain ⟨x, hx⟩ : ∃ x, x = zs.getD f 0 := ⟨_, rfl⟩
  rw [← hx]
  have z2 : w.cell? ⟨q, f, none⟩ = some (.int .i64 x) := hr.cell f (by rw [List.getElem?_map, List.getElem?_eq_getElem (by omega), hx, List.getD_eq_getElem?_getD, List.getElem?_eq_getElem (by omega)]; rfl)
  have i0 : (0 : Int) ≤ (f : Int) := by omega
  have i1 : (f : Int) < 1000 := by omega
  clear hc hq hr hz hx hf
  go_enter Tryd.func188, Tryd.ntmps188
  go_wp2
  go_quiet (fail)
  go_wp2
  go_ret
  exact ⟨rfl, _, rfl⟩
theorem queTake1 (g q f l m : Nat) (t : TypeId) (cs : List Value) (w : World) (hc : Cels w g t cs) (hq : QAt1 cs q f l) (hf : f < 1000) (hl : l ≤ 1000) (hm : m ≤ l) :
    Calls Tryd.prog 190 #[.pointer (some ⟨g, 1, none⟩), .int .i64 (m : Int)] w fun e w' => (∃ v, e = .returned v) ∧ Cels w' g t ((cs.set 2 (.int .i64 (((f + m) % 1000 : Nat) : Int))).set 3 (.int .i64 ((l - m : Nat) : Int))) ∧ Only (fun k => k = g) w w' := by
  have z0 := hc.cell 1 hq.ring
  have z1 := hc.cell 2 hq.first
  have z2 := hc.cell 3 hq.len
  have r1 := hc.set 2 (.int .i64 (((f + m) % 1000 : Nat) : Int))
  have u2 := r1.cell 3 (by rw [List.getElem?_set_ne (by omega)]; exact hq.len)
  have v2 := r1.frozen 3
  have v1 := hc.frozen 2
  have e1 : IntKind.i64.wrap ((f : Int) + (m : Int)) = (f : Int) + (m : Int) := by rw [IntKind.wrap_i64]; omega
  have e2 : ((f : Int) + (m : Int)).tmod 1000 = (((f + m) % 1000 : Nat) : Int) := by rw [Int.tmod_eq_emod_of_nonneg (by omega)]; omega
  have e3 : IntKind.i64.wrap ((l : Int) - (m : Int)) = ((l - m : Nat) : Int) := by rw [IntKind.wrap_i64]; omega
  have HD : Hid (Cels (((w.setCell ⟨g, 2, none⟩ (.int .i64 (((f + m) % 1000 : Nat) : Int)))).drew) g t (cs.set 2 (.int .i64 (((f + m) % 1000 : Nat) : Int)))) := Lib.hid (r1.below (Below.refl _ _).drew r1.lt)
  have HR := Lib.hid r1
  obtain ⟨p, hp⟩ : ∃ p : Nat, p = (f + m) % 1000 := ⟨_, rfl⟩
  obtain ⟨d, hd⟩ : ∃ d : Nat, d = l - m := ⟨_, rfl⟩
  rw [← hp] at r1 u2 v2 e2 HD HR ⊢
  rw [← hd] at e3 ⊢
  clear hc hq hf hl hm hp hd r1
  go_enter Tryd.func190, Tryd.ntmps190
  go_wp2
  go_region
  all_goals
    go_wp2
    go_end0
    refine ⟨⟨_, rfl⟩, ?_, ?_⟩
    · exact ((HD.out).set 3 (.int .i64 (d : Int)))
    · exact ((((Only.refl (fun k => k = g) w).set (p := ⟨g, 2, none⟩) rfl (.int .i64 (p : Int))).trans (Only.of_below (Below.refl _ _).drew)).set (p := ⟨g, 3, none⟩) rfl (.int .i64 (d : Int)))
theorem quePutFull1 (g q f l : Nat) (t : TypeId) (cs : List Value) (lv : Value) (ys : List Int) (w : World) (hc : Cels w g t cs) (hq : QAt1 cs q f l) (hy : Rd w lv ys) (hl : l ≤ 1000) (hfull : 1000 < l + ys.length) :
    Calls Tryd.prog 189 #[.pointer (some ⟨g, 1, none⟩), lv] w fun e w' => e = .returned (.iface 162 (.int .i64 5)) ∧ Below w.heap.size w w' := by
  have z0 := hc.cell 1 hq.ring
  have z2 := hc.cell 3 hq.len
  have hn := hy.len
  obtain ⟨_, _, a, c, rfl, _, _⟩ := hy
  have e1 : IntKind.i64.wrap ((l : Int) + (ys.length : Int)) = (l : Int) + (ys.length : Int) := by rw [IntKind.wrap_i64]; omega
  have hd : decide ((1000 : Int) < (l : Int) + (ys.length : Int)) = true := decide_eq_true (by omega)
  clear hc hq hl hn
  go_enter Tryd.func189, Tryd.ntmps189
  go_wp2
  go_quiet (fail)
  go_wp2
  go_ret
  exact ⟨rfl, below_drewN (Below.refl _ _) _⟩
set_option maxRecDepth 100000 in
set_option maxHeartbeats 4000000 in
theorem quePut1 (g q f l : Nat) (t : TypeId) (cs : List Value) (lv : Value) (zs ys : List Int) (w : World) (hc : Cels w g t cs) (hq : QAt1 cs q f l) (hr : Cels w q 2 (zs.map (.int .i64))) (hgq : q ≠ g)
    (hy : ∀ W, Only (fun k => k = q ∨ k = g) w W → Rd W lv ys) (hz : zs.length = 1000) (hf : f < 1000) (hl : l + ys.length ≤ 1000) :
    Calls Tryd.prog 189 #[.pointer (some ⟨g, 1, none⟩), lv] w fun e w' => e = .returned .nilIface ∧ Cels w' g t (cs.set 3 (.int .i64 ((l + ys.length : Nat) : Int))) ∧ Cels w' q 2 ((pg zs ys ((f + l) % 1000)).map (.int .i64)) ∧ Only (fun k => k = g ∨ k = q) w w' := by
  have HC := Lib.hid hc
  have HQ := Lib.hid hq
  have HR := Lib.hid hr
  have HY := Lib.hid hy
  have HZ := Lib.hid hz
  obtain ⟨hn, _, a, c, rfl, hcap, hrr⟩ := hy w (Only.refl _ _)
  clear hrr
  obtain ⟨p, hp⟩ : ∃ p : Nat, p = (f + l) % 1000 := ⟨_, rfl⟩
  have hp1 : p < 1000 := by omega
  obtain ⟨k, hk⟩ : ∃ k, k = cpN ys p := ⟨_, rfl⟩
  have hk2 := cpN_le ys p
  rw [← hk] at hk2
  obtain ⟨n, hnn⟩ : ∃ n, n = ys.length := ⟨_, rfl⟩
  have HNN := Lib.hid hnn
  obtain ⟨X1, hX1⟩ : ∃ X, X = (ys.take k).map (Value.int .i64) := ⟨_, rfl⟩
  obtain ⟨X2, hX2⟩ : ∃ X, X = (ys.drop k).map (Value.int .i64) := ⟨_, rfl⟩
  have HX1 : Hid (X1 = (ys.take k).map (Value.int .i64) ∧ X1.length = k) := Lib.hid ⟨hX1, by rw [hX1]; simp; omega⟩
  have HX2 : Hid (X2 = (ys.drop k).map (Value.int .i64) ∧ X2.length = n - k) := Lib.hid ⟨hX2, by rw [hX2]; simp; omega⟩
  clear hX1 hX2
  have HP1 := Lib.hid hp1
  have HK := Lib.hid hk2
  have HKE := Lib.hid hk
  have HPE := Lib.hid hp
  have HGQ := Lib.hid hgq
  have HB := Lib.hid (And.intro hn hl)
  have HCAP := Lib.hid hcap
  have e1 : IntKind.i64.wrap ((l : Int) + (n : Int)) = (l : Int) + (n : Int) := by rw [IntKind.wrap_i64]; omega
  have e4 : IntKind.i64.wrap ((f : Int) + (l : Int)) = (f : Int) + (l : Int) := by rw [IntKind.wrap_i64]; omega
  have e5 : ((f : Int) + (l : Int)).tmod 1000 = (p : Int) := by rw [Int.tmod_eq_emod_of_nonneg (by omega), hp]; omega
  have hd : decide ((1000 : Int) < (l : Int) + (n : Int)) = false := decide_eq_false (by omega)
  have i1 : (0 : Int) ≤ (p : Int) := by omega
  have i2 : (p : Int) ≤ 1000 := by omega
  have i3 : IntKind.i64.wrap ((1000 : Int) - (p : Int)) = (1000 : Int) - (p : Int) := by rw [IntKind.wrap_i64]; omega
  have i4 : (0 : Int) ≤ (k : Int) := by omega
  have i5 : (k : Int) ≤ (n : Int) := by omega
  have i6 : (k : Int) ≤ (c : Int) := by omega
  have i7 : (n : Int) ≤ (c : Int) := by omega
  rw [← hnn]
  have z0 := hc.cell 1 hq.ring
  have z1 := hc.cell 2 hq.first
  have z2 := hc.cell 3 hq.len
  clear hc hq hr hy hz hp hp1 hk hk2 hn hnn hgq hl hf hcap
  go_enter Tryd.func189, Tryd.ntmps189
  go_upto_region 1 with fail
  go_cut [18] (fun s18 wx => s18 = .bool false ∧ Below w.heap.size w wx)
  case first =>
    go_quiet (fail)
    go_wp2
    go_meet
    exact ⟨rfl, below_drewN (Below.refl _ _) _⟩
  obtain ⟨rfl, hb1⟩ := hcut
  obtain ⟨w1, hw1⟩ : ∃ x, x = wc := ⟨_, rfl⟩
  subst hw1
  have HC1 := Lib.hid (HC.out.below hb1 HC.out.lt)
  have HR1 := Lib.hid (HR.out.below hb1 HR.out.lt)
  have HO1 : Hid (Only (fun k => k = g ∨ k = q) w w1) := Lib.hid (Only.of_below hb1)
  have z0 := HC1.out.cell 1 HQ.out.ring
  have z1 := HC1.out.cell 2 HQ.out.first
  have z2 := HC1.out.cell 3 HQ.out.len
  obtain ⟨wd, hwd⟩ : ∃ x, x = w1.drew := ⟨_, rfl⟩
  have hbd : Below w1.heap.size w1 wd := by rw [hwd]; exact (Below.refl _ _).drew
  have HWD := Lib.hid hwd
  have hpn : ¬ (1000 = p) := by have := HP1.out; omega
  have HC2 := Lib.hid (HC1.out.below hbd HC1.out.lt)
  have HR2 : Hid (wd.heap[q]? = some (.cells (zs.map (Value.int .i64)).toArray 2 (0, 0))) := Lib.hid (HR1.out.below hbd HR1.out.lt)
  have HO2 : Hid (Only (fun k => k = g ∨ k = q) w wd) := Lib.hid (HO1.out.trans (Only.of_below hbd))
  clear hb1 hwd hbd
  go_wp2_with fail
  go_still_tail 21, (by kernel_rfl)
  change wpList _ _ _ _ _ w1.drew
  rw [← HWD.out]
  go_wp2_with (with_reducible refine copyOnly rfl (.tmp 39) (.tmp 40) 23 23 rfl 2 Tryd.underlying23 sizeQ _ _ _ _ _ _ rfl rfl q p (zs.map (Value.int .i64)) 2 HR2.out X1 ?hn1 ?hpos1 ?hfit1 ?hone1 ?_)
  case hn1 => have h1 := HX1.out.2; have h2 := HK.out; have h3 := HNN.out; have h4 := HKE.out; rw [h1]; unfold cpN at h4; show k = min n (1000 - p); omega
  case hpos1 =>
    intro hpos
    rw [HX1.out.2] at hpos
    obtain ⟨_, _, a9, c9, ea, _, hr9⟩ := HY.out wd (by have := HO2.out; exact this.mono (fun j _ h => h.symm))
    obtain ⟨b, o, ha, _, hc9⟩ := hr9 (by intro h0; have := HK.out; rw [h0] at this; simp at this; omega)
    have ea' : a = a9 := by injection ea
    subst ea'
    have fin : ∃ ad, a = some ad ∧ ∀ j v, X1[j]? = some v → wd.cell? (ad.add j) = some v := by
      refine ⟨_, ha, fun j x hx => ?_⟩
      rw [HX1.out.1, List.getElem?_map, List.getElem?_take] at hx
      split at hx
      · obtain ⟨y, hy, rfl⟩ := Option.map_eq_some_iff.1 hx
        have hj := (List.getElem?_eq_some_iff.1 hy).1
        rw [Addr.add_lit, hc9 j hj, List.getD_eq_getElem?_getD, hy]; rfl
      · simp at hx
    first | exact fin | exact ⟨rfl, fin⟩
  case hfit1 => have h1 := HX1.out.2; have h2 := HK.out; have h3 := HZ.out; rw [h1, List.length_map, h3]; have := HP1.out; omega
  case hone1 => rw [HX1.out.1]; exact ints_oneCell .i64 _
  intro w4 hg4 ho4
  have hX1l : X1.length = k := HX1.out.2
  have HC4 := Lib.hid (show Cels w4 g t cs from ho4.out.1.kept HC2.out (fun h => HGQ.out h.symm))
  have HO4 : Hid (Only (fun k => k = g ∨ k = q) w w4) := Lib.hid (HO2.out.trans (ho4.out.1.mono (fun j _ h => .inr h)))
  have HR4 := Lib.hid hg4.out
  clear hg4 ho4 z0 z1 z2
  have z0 := HC4.out.cell 1 HQ.out.ring
  obtain ⟨we, hwe⟩ : ∃ x, x = w4.drew := ⟨_, rfl⟩
  have hbe : Below w4.heap.size w4 we := by rw [hwe]; exact (Below.refl _ _).drew
  have HWE := Lib.hid hwe
  obtain ⟨ad, had⟩ : ∃ ad, ad = (if c = k then a else Option.map (fun x => x.add k) a) := ⟨_, rfl⟩
  have HAD := Lib.hid had
  have HC5 := Lib.hid (HC4.out.below hbe HC4.out.lt)
  have HR5 : Hid (we.heap[q]? = some (.cells (splice (zs.map (Value.int .i64)) p X1).toArray 2 (0, 0))) := Lib.hid ((hbe.block q (Array.getElem?_eq_some_iff.1 HR4.out).1).trans HR4.out)
  have HO5 : Hid (Only (fun k => k = g ∨ k = q) w we) := Lib.hid (HO4.out.trans (Only.of_below hbe))
  have HZ2 : Hid ((splice (zs.map (Value.int .i64)) p X1).length = 1000) := Lib.hid (by rw [length_splice _ _ _ (by rw [List.length_map, HZ.out, hX1l]; have := HK.out; have := HP1.out; omega), List.length_map, HZ.out])
  clear hwe hbe had
  go_wp2_with fail
  go_still_tail 7, (by kernel_rfl)
  change wpList _ _ _ _ _ w4.drew
  rw [← HWE.out, ← HAD.out]
  go_wp2_with (with_reducible refine copyOnly rfl (.tmp 45) (.tmp 48) 23 23 rfl 2 Tryd.underlying23 sizeQ _ _ _ _ _ _ rfl rfl q 0 (splice (zs.map (Value.int .i64)) p X1) 2 HR5.out X2 ?hn2 ?hpos2 ?hfit2 ?hone2 ?_)
  case hn2 => have h1 := HX2.out.2; have h3 := HB.out.2; have h4 := HNN.out; rw [h1]; show n - k = min (n - k) 1000; omega
  case hpos2 =>
    intro hpos
    rw [HX2.out.2] at hpos
    obtain ⟨_, _, a9, c9, ea, _, hr9⟩ := HY.out we (by have := HO5.out; exact this.mono (fun j _ h => h.symm))
    obtain ⟨b, o, ha, _, hc9⟩ := hr9 (by intro h0; have := HNN.out; rw [h0] at this; simp at this; omega)
    have ea' : a = a9 := by injection ea
    subst ea'
    subst ha
    have fin : ∃ ad', ad = some ad' ∧ ∀ j v, X2[j]? = some v → we.cell? (ad'.add j) = some v := by
      refine ⟨⟨b, o + k, none⟩, by rw [HAD.out, if_neg (by have := HCAP.out; have := HNN.out; omega)]; simp [Addr.add_lit], fun j x hx => ?_⟩
      rw [HX2.out.1, List.getElem?_map, List.getElem?_drop] at hx
      obtain ⟨y, hy, rfl⟩ := Option.map_eq_some_iff.1 hx
      have hj := (List.getElem?_eq_some_iff.1 hy).1
      rw [Addr.add_lit, Nat.add_assoc, hc9 (k + j) hj, List.getD_eq_getElem?_getD, hy]; rfl
    first | exact fin | exact ⟨rfl, fin⟩
  case hfit2 => have h1 := HX2.out.2; have h3 := HB.out.2; have h4 := HNN.out; rw [h1, HZ2.out]; omega
  case hone2 => rw [HX2.out.1]; exact ints_oneCell .i64 _
  intro w5 hg5 ho5
  have HC6 := Lib.hid (show Cels w5 g t cs from ho5.out.1.kept HC5.out (fun h => HGQ.out h.symm))
  have HO6 : Hid (Only (fun k => k = g ∨ k = q) w w5) := Lib.hid (HO5.out.trans (ho5.out.1.mono (fun j _ h => .inr h)))
  have HR6 : Hid (Cels w5 q 2 ((pg zs ys p).map (.int .i64))) := Lib.hid (by
    have h := hg5.out
    rw [HX1.out.1, splice_map, HX2.out.1, splice_map] at h
    have e : pg zs ys p = splice (splice zs p (ys.take k)) 0 (ys.drop k) := by rw [pg, ← HKE.out]
    rw [e]; exact h)
  clear hg5 ho5 z0
  have z2 := HC6.out.cell 3 HQ.out.len
  have v2 := HC6.out.frozen 3
  clear e4 e5 hd
  go_wp2
  go_ret
  have e9 : (l : Int) + (n : Int) = ((l + n : Nat) : Int) := by omega
  refine ⟨rfl, ?_, ?_, ?_⟩
  · have := HC6.out.set 3 (.int .i64 ((l + n : Nat) : Int))
    first | exact this | (rw [e9]; exact this)
  · have := HR6.out.other (p := ⟨g, 3, none⟩) HGQ.out (.int .i64 ((l + n : Nat) : Int))
    rw [← HPE.out]
    first | exact this | (rw [e9]; exact this)
  · exact HO6.out.set (p := ⟨g, 3, none⟩) (.inl rfl) _
set_option maxRecDepth 100000 in
set_option maxHeartbeats 4000000 in
theorem queLetters1 (g q f l : Nat) (t : TypeId) (cs : List Value) (zs : List Int) (w : World) (hc : Cels w g t cs) (hq : QAt1 cs q f l) (hr : Cels w q 2 (zs.map (.int .i64))) (hz : zs.length = 1000) (hfz : Fit zs) (hf : f < 1000) (hl : l ≤ 1000) :
    Calls Tryd.prog 186 #[.pointer (some ⟨g, 1, none⟩)] w fun e w' => ∃ u, e = .returned u ∧ Ow w' w.heap.size w'.heap.size u (rg zs f l) ∧ Below w.heap.size w w' := by
  obtain ⟨n0, hi, hz0, hz1, hz2⟩ := info_parts infoE
  have HC := Lib.hid hc
  have HQ := Lib.hid hq
  have HR := Lib.hid hr
  have HZ := Lib.hid hz
  have HFZ := Lib.hid hfz
  obtain ⟨k, hk⟩ : ∃ k, k = cgN f l := ⟨_, rfl⟩
  have hk2 : k ≤ l ∧ k ≤ 1000 - f ∧ k = min l (1000 - f) := by rw [hk]; unfold cgN; omega
  have HK := Lib.hid hk2
  have HKE := Lib.hid hk
  have HB := Lib.hid (And.intro hf hl)
  obtain ⟨Z, hZ⟩ : ∃ Z, Z = (List.replicate l (0 : Int)).map (Value.int .i64) := ⟨_, rfl⟩
  have HZZ : Hid (Z = (List.replicate l (0 : Int)).map (Value.int .i64) ∧ Z.length = l) := Lib.hid ⟨hZ, by rw [hZ, List.length_map, List.length_replicate]⟩
  obtain ⟨X1, hX1⟩ : ∃ X, X = ((zs.drop f).take k).map (Value.int .i64) := ⟨_, rfl⟩
  obtain ⟨X2, hX2⟩ : ∃ X, X = (zs.take (l - k)).map (Value.int .i64) := ⟨_, rfl⟩
  have HX1 : Hid (X1 = ((zs.drop f).take k).map (Value.int .i64) ∧ X1.length = k) := Lib.hid ⟨hX1, by rw [hX1]; simp; omega⟩
  have HX2 : Hid (X2 = (zs.take (l - k)).map (Value.int .i64) ∧ X2.length = l - k) := Lib.hid ⟨hX2, by rw [hX2]; simp; omega⟩
  have e4 : ¬ (1000 = f) := by omega
  have i1 : (0 : Int) ≤ (f : Int) := by omega
  have i2 : (f : Int) ≤ 1000 := by omega
  have i3 : IntKind.i64.wrap ((1000 : Int) - (f : Int)) = (1000 : Int) - (f : Int) := by rw [IntKind.wrap_i64]; omega
  have i4 : (0 : Int) ≤ (k : Int) := by omega
  have i5 : (k : Int) ≤ (l : Int) := by omega
  have i6 : (0 : Int) ≤ (l : Int) := by omega
  have z2 := hc.cell 3 hq.len
  clear hc hq hr hz hfz hk hk2 hf hZ hX1 hX2
  go_enter Tryd.func186, Tryd.ntmps186
  go_wp2_with (at_make; refine wpList_make_full _ rfl _ _ 23 rfl w.heap.size 2 n0 (.int .i64 0) 1 Tryd.underlying23 hi hz0 hz1 _ _ _ _ l rfl rfl rfl rfl ?b2 ?b3 (Nat.le_refl _) ?_)
  case b2 => first | omega | (rw [hz2]; omega)
  case b3 => unfold maxLen; omega
  intro w0 hown0 hgrow0
  have HG0 : Hid (w0.heap[w.heap.size]? = some (.cells Z.toArray 2 (0, 0))) := Lib.hid (by
    have := row_fullQ hown0
    rw [toList_madeCells_one] at this
    rw [HZZ.out.1, List.map_replicate]
    exact this)
  have hb0 : Below w.heap.size w w0 := (Below.refl _ _).grown hgrow0 (Nat.le_refl _) (fun k h => by cases h)
  have HB0 := Lib.hid hb0
  obtain ⟨wd, hwd⟩ : ∃ x, x = w0.drew := ⟨_, rfl⟩
  have hbd : Below w0.heap.size w0 wd := by rw [hwd]; exact (Below.refl _ _).drew
  have HWD := Lib.hid hwd
  have z0 := (HC.out.below hb0 HC.out.lt).cell 1 HQ.out.ring
  have z1 := (HC.out.below hb0 HC.out.lt).cell 2 HQ.out.first
  have HSZ : Hid (w.heap.size < w0.heap.size) := Lib.hid (Array.getElem?_eq_some_iff.1 HG0.out).1
  have HGD : Hid (wd.heap[w.heap.size]? = some (.cells Z.toArray 2 (0, 0))) := Lib.hid ((hbd.block _ HSZ.out).trans HG0.out)
  have HBD : Hid (Below w.heap.size w wd) := Lib.hid (HB0.out.trans (hbd.mono HB0.out.size))
  clear hown0 hgrow0 hb0 hwd hbd z2
  go_wp2_with fail
  go_still_tail 10, (by kernel_rfl)
  change wpList _ _ _ _ _ w0.drew
  rw [← HWD.out]
  go_wp2_with (with_reducible refine copyOnly rfl (.tmp 10) (.tmp 19) 23 23 rfl 2 Tryd.underlying23 sizeQ _ _ _ _ _ _ rfl rfl w.heap.size 0 Z 2 HGD.out X1 ?hn1 ?hpos1 ?hfit1 ?hone1 ?_)
  case hn1 => have h1 := HX1.out.2; have h2 := HK.out; rw [h1]; show k = min (1000 - f) l; omega
  case hpos1 =>
    intro hpos
    have fin : ∀ j v, X1[j]? = some v → wd.cell? ((⟨q, f, none⟩ : Addr).add j) = some v := fun j x hx => by
      rw [HX1.out.1, List.getElem?_map, List.getElem?_take] at hx
      split at hx
      · rw [List.getElem?_drop] at hx
        obtain ⟨y, hy, rfl⟩ := Option.map_eq_some_iff.1 hx
        rw [Addr.add_lit]
        exact (HR.out.below HBD.out HR.out.lt).cell (f + j) (by rw [List.getElem?_map, hy]; rfl)
      · simp at hx
    first | exact ⟨rfl, _, rfl, fin⟩ | exact ⟨_, rfl, fin⟩ | exact fin | exact fun j v hx => (by have := fin j v hx; rwa [Addr.add_lit] at this)
  case hfit1 => have h1 := HX1.out.2; have h2 := HK.out; rw [h1, HZZ.out.2]; omega
  case hone1 => rw [HX1.out.1]; exact ints_oneCell .i64 _
  intro w4 hg4 ho4
  have hX1l : X1.length = k := HX1.out.2
  have HB4 : Hid (Below w.heap.size w w4) := Lib.hid (HBD.out.trans (ho4.out.1.below (fun j h => by rw [h]; exact Nat.le_refl _) HBD.out.size))
  have HR4 := Lib.hid hg4.out
  clear hg4 ho4 z0 z1
  have z0 := (HC.out.below HB4.out HC.out.lt).cell 1 HQ.out.ring
  obtain ⟨we, hwe⟩ : ∃ x, x = w4.drew := ⟨_, rfl⟩
  have hbe : Below w4.heap.size w4 we := by rw [hwe]; exact (Below.refl _ _).drew
  have HWE := Lib.hid hwe
  obtain ⟨ad, had⟩ : ∃ ad : Option Addr, ad = (if l = k then some ⟨w.heap.size, 0, none⟩ else some ⟨w.heap.size, k, none⟩) := ⟨_, rfl⟩
  have HAD := Lib.hid had
  have HR5 : Hid (we.heap[w.heap.size]? = some (.cells (splice Z 0 X1).toArray 2 (0, 0))) := Lib.hid ((hbe.block _ (Array.getElem?_eq_some_iff.1 HR4.out).1).trans HR4.out)
  have HB5 : Hid (Below w.heap.size w we) := Lib.hid (HB4.out.trans (hbe.mono HB4.out.size))
  have HZ2 : Hid ((splice Z 0 X1).length = l) := Lib.hid (by rw [length_splice _ _ _ (by rw [HZZ.out.2, hX1l]; have := HK.out; omega), HZZ.out.2])
  clear hwe hbe had
  go_wp2_with fail
  go_still_tail 7, (by kernel_rfl)
  change wpList _ _ _ _ _ w4.drew
  rw [← HWE.out, ← HAD.out]
  go_wp2_with (with_reducible refine copyOnly rfl (.tmp 23) (.tmp 27) 23 23 rfl 2 Tryd.underlying23 sizeQ _ _ _ _ _ _ rfl rfl w.heap.size k (splice Z 0 X1) 2 HR5.out X2 ?hn2 ?hpos2 ?hfit2 ?hone2 ?_)
  case hn2 => have h1 := HX2.out.2; have h3 := HB.out.2; rw [h1]; show l - k = min 1000 (l - k); omega
  case hpos2 =>
    intro hpos
    rw [HX2.out.2] at hpos
    have e : ad = some ⟨w.heap.size, k, none⟩ := by rw [HAD.out, if_neg (by omega)]
    have fin : ∀ j v, X2[j]? = some v → we.cell? ((⟨q, 0, none⟩ : Addr).add j) = some v := fun j x hx => by
      rw [HX2.out.1, List.getElem?_map, List.getElem?_take] at hx
      split at hx
      · obtain ⟨y, hy, rfl⟩ := Option.map_eq_some_iff.1 hx
        rw [Addr.add_lit, Nat.zero_add]
        exact (HR.out.below HB5.out HR.out.lt).cell j (by rw [List.getElem?_map, hy]; rfl)
      · simp at hx
    first | exact ⟨e, _, rfl, fin⟩ | exact ⟨e, fin⟩ | exact ⟨e, fun j v hx => (by have := fin j v hx; rwa [Addr.add_lit, Nat.zero_add] at this)⟩ | exact fun j v hx => (by have := fin j v hx; rwa [Addr.add_lit, Nat.zero_add] at this)
  case hfit2 => have h1 := HX2.out.2; have h3 := HK.out; rw [h1, HZ2.out]; omega
  case hone2 => rw [HX2.out.1]; exact ints_oneCell .i64 _
  intro w5 hg5 ho5
  have HB6 : Hid (Below w.heap.size w w5) := Lib.hid (HB5.out.trans (ho5.out.1.below (fun j h => by rw [h]; exact Nat.le_refl _) HB5.out.size))
  have HR6 : Hid (w5.heap[w.heap.size]? = some (.cells ((rg zs f l).map (Value.int .i64)).toArray 2 (0, 0))) := Lib.hid (by
    have h := hg5.out
    rw [HX1.out.1, HX2.out.1, HZZ.out.1, splice_map, splice_map, HKE.out, rg_letters HZ.out HB.out.1 HB.out.2] at h
    exact h)
  clear hg5 ho5 z0
  go_wp2
  go_ret
  exact ⟨_, rfl, ow_full HR6.out (Nat.le_refl _) (rg_len _ _ _).symm (by rw [rg_len]; have := HB.out.2; omega) (HFZ.out.rg _ _), HB6.out⟩
end Go.Proofs.YtkjoakdepjpkhaaDoor.Ints
