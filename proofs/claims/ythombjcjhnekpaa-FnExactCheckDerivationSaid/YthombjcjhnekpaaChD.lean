/- CheckDerivation, of the model and of the program. (gen_chd.py) -/
import Derived.Test.YthombjcjhnekpaaAwr
import Derived.Test.YthombjcjhnekpaaLlm
import Derived.Deep.RegionHeld3
namespace Go.Proofs.Ythombjcjhnekpaa.Ints
open Go.RowKit
set_option linter.unusedVariables false
set_option linter.unusedSimpArgs false

noncomputable def cdF (ts : List Tp) : List Int → List (List Int) → Option (List Int)
  | zs, [] => some zs
  | zs, s :: ss => if s.length = 2 ∧ (awR ts zs (s.getD 0 0) (s.getD 1 0)).2 = 0 then cdF ts (awR ts zs (s.getD 0 0) (s.getD 1 0)).1 ss else none
def optR : Option (List Int) → List Int × Int
  | some z => (z, 0)
  | none => ([], 7)
noncomputable def cdR (ts : List Tp) (zs : List Int) (ss : List (List Int)) : List Int × Int :=
  if (rwsB ts && wordB zs) = false then ([], 1) else if 100 < ss.length then ([], 2) else optR (cdF ts zs ss)
theorem drop_at (ss : List (List Int)) (k : Nat) (h : k < ss.length) : ss.drop k = ss.getD k [] :: ss.drop (k + 1) := by
  rw [List.drop_eq_getElem_cons h, List.getD_eq_getElem?_getD, List.getElem?_eq_getElem h]; rfl
theorem cdF_len {ts : List Tp} {zs : List Int} {s : List Int} {ss : List (List Int)} (h : ¬ s.length = 2) : cdF ts zs (s :: ss) = none := by
  rw [cdF, if_neg (fun q => h q.1)]
theorem cdF_bad {ts : List Tp} {zs : List Int} {r a : Int} {ss : List (List Int)} (h : ¬ (awR ts zs r a).2 = 0) : cdF ts zs ([r, a] :: ss) = none := by
  rw [cdF, if_neg (fun q => h q.2)]
theorem cdF_ok {ts : List Tp} {zs : List Int} {r a : Int} {ss : List (List Int)} (h : (awR ts zs r a).2 = 0) : cdF ts zs ([r, a] :: ss) = cdF ts (awR ts zs r a).1 ss := by
  rw [cdF, if_pos ⟨rfl, h⟩]; rfl
theorem two_of {s : List Int} (h : s.length = 2) : ∃ r a, s = [r, a] := by
  match s, h with
  | [r, a], _ => exact ⟨r, a, rfl⟩
set_option maxRecDepth 100000 in
set_option maxHeartbeats 8000000 in
theorem specCheckD (v : Value) (ts : List Tp) (u : Value) (zs : List Int) (q : Value) (ss : List (List Int)) (w : World) (hv : RdT w v ts) (hu : Rd w u zs) (hq : RdL w q ss) :
    Calls Try.prog 31 #[v, u, q] w fun e w' => ∃ r, e = .returned (.tuple #[r, .int .i64 (cdR ts zs ss).2]) ∧ Ow w' w.heap.size w'.heap.size r (cdR ts zs ss).1 ∧ Below w.heap.size w w' := by
  have HV := Lib.hid hv
  have HU := Lib.hid hu
  have hql := hq.len
  obtain ⟨_, aq, cq, rfl, hcq, hqr⟩ := hq
  obtain ⟨_, _, a', c', rfl, _, _⟩ := hu
  rcases eqOr (rwsB ts) with hn | hn
  · have HNN := Lib.hid hn
    have e0 : Hid (cdR ts zs ss = ([], 1)) := Lib.hid (by simp [cdR, hn])
    clear hn hqr
    go_enter Try.func31, Try.ntmps31
    go_wp2_with fail
    refine (specRws _ ts _ HV.out).mono ?_
    rintro e w' ⟨rfl, rfl⟩
    rw [HNN.out]
    go_wp2
    go_ret2
    exact ⟨_, by rw [e0.out] <;> rfl, by rw [e0.out]; exact Ow.empty w, Below.refl _ _⟩
  have HNN := Lib.hid hn
  rcases eqOr (wordB zs) with hm | hm
  · have HMM := Lib.hid hm
    have e0 : Hid (cdR ts zs ss = ([], 1)) := Lib.hid (by simp [cdR, hm])
    clear hn hm hqr
    go_enter Try.func31, Try.ntmps31
    go_wp2_with fail
    refine (specRws _ ts _ HV.out).mono ?_
    rintro e w' ⟨rfl, rfl⟩
    rw [HNN.out]
    go_wp2_with fail
    refine (specWord _ zs _ HU.out).mono ?_
    rintro e w' ⟨rfl, rfl⟩
    rw [HMM.out]
    go_wp2
    go_ret2
    exact ⟨_, by rw [e0.out] <;> rfl, by rw [e0.out]; exact Ow.empty w, Below.refl _ _⟩
  have HMM := Lib.hid hm
  have hok : (rwsB ts && wordB zs) = true := by rw [hn, hm]; rfl
  clear hn hm
  have hok1 : ¬ (rwsB ts && wordB zs) = false := by rw [hok]; simp
  by_cases h100 : 100 < ss.length
  · have e0 : Hid (cdR ts zs ss = ([], 2)) := Lib.hid (by rw [cdR, if_neg hok1, if_pos h100])
    have h1 : (100 : Int) < (ss.length : Int) := by omega
    clear hok hok1 h100 hqr
    go_enter Try.func31, Try.ntmps31
    go_wp2_with fail
    refine (specRws _ ts _ HV.out).mono ?_
    rintro e w' ⟨rfl, rfl⟩
    rw [HNN.out]
    go_wp2_with fail
    refine (specWord _ zs _ HU.out).mono ?_
    rintro e w' ⟨rfl, rfl⟩
    rw [HMM.out]
    go_wp2
    go_ret2
    exact ⟨_, by rw [e0.out] <;> rfl, by rw [e0.out]; exact Ow.emptyUp (Below.refl w.heap.size w).size, (Below.refl w.heap.size w)⟩
  have h1 : ¬ (100 : Int) < (ss.length : Int) := by omega
  have HR : Hid (cdR ts zs ss = optR (cdF ts zs ss)) := Lib.hid (by rw [cdR, if_neg hok1, if_neg h100])
  clear hok hok1 h100
  go_enter Try.func31, Try.ntmps31
  go_wp2_with fail
  refine (specRws _ ts _ HV.out).mono ?_
  rintro e w' ⟨rfl, rfl⟩
  rw [HNN.out]
  go_wp2_with fail
  refine (specWord _ zs _ HU.out).mono ?_
  rintro e w' ⟨rfl, rfl⟩
  rw [HMM.out]
  go_wp2_with fail
  refine (specOwn _ zs _ (HU.out.below (Below.refl w.heap.size w) (Nat.le_refl _))).mono ?_
  rintro e w4 ⟨nv0, rfl, ho4, hb4⟩
  have HO4 : Hid (Ow w4 w.heap.size w4.heap.size nv0 zs) := Lib.hid (ho4.mono ((Below.refl w.heap.size w)).size (Nat.le_refl _) (Nat.le_refl _))
  have HB4 : Hid (Below w.heap.size w w4) := Lib.hid (((Below.refl w.heap.size w)).trans (hb4.mono ((Below.refl w.heap.size w)).size))
  clear ho4 hb4
  go_wp2
  go_loopw [8, 9] (fun now i wr => ∃ (k : Nat) (xs : List Int) (nv : Value), now = nv ∧ k ≤ ss.length ∧ i = .int .i64 k ∧ cdF ts xs (ss.drop k) = cdF ts zs ss ∧ Ow wr w.heap.size wr.heap.size nv xs ∧ Below w.heap.size w wr) (fun _ i _ => ss.length - (intOf i).toNat)
  case atStart => exact ⟨0, zs, nv0, rfl, Nat.zero_le _, rfl, by rw [List.drop_zero], HO4.out, HB4.out⟩
  case round =>
    obtain ⟨k, xs, nv, hnv, hk, rfl, hcd, hown, hbel⟩ := hrel
    obtain rfl := hnv.symm
    have HB := Lib.hid hbel
    have HN := Lib.hid hown
    have HCD := Lib.hid hcd
    clear hcd hown
    by_cases hlt : k < ss.length
    · obtain ⟨b, o, rfl, hb, hcell⟩ := hqr (by intro h0; rw [h0] at hlt; simp at hlt)
      obtain ⟨x, hc, hx⟩ := hcell k hlt
      replace hc := (hbel.cell (p := ⟨b, o + k, none⟩) hb).trans hc
      have hdr := drop_at ss k hlt
      obtain ⟨s, hs⟩ : ∃ s, s = ss.getD k [] := ⟨_, rfl⟩
      rw [← hs] at hx hdr
      have HDR := Lib.hid hdr
      replace hx := hx.below hbel (Nat.le_refl _)
      have i0 : (0 : Int) ≤ (k : Int) := by omega
      have i1 : (k : Int) < (ss.length : Int) := by omega
      by_cases h2 : s.length = 2
      rotate_left
      · have HE : Hid (cdR ts zs ss = ([], 7)) := Lib.hid (by rw [HR.out, ← HCD.out, HDR.out, cdF_len h2]; rfl)
        obtain ⟨_, _, ax, cx, rfl, _, _⟩ := hx
        have h3 : ((s.length : Int) == 2) = false := by simpa using (by omega : ¬ (s.length : Int) = 2)
        clear hcell hqr hs hdr h2
        go_wp2
        go_ret2
        exact ⟨_, by rw [HE.out] <;> rfl, by rw [HE.out]; exact Ow.emptyUp HB.out.size, HB.out⟩
      obtain ⟨r, a, rfl⟩ := two_of h2
      have HBN : Hid (∀ W, Below wr.heap.size wr W → Calls Try.prog 27 #[v, nv, .int .i64 r, .int .i64 a] W fun e w' => ∃ z, e = .returned (.tuple #[z, .int .i64 (awR ts xs r a).2]) ∧ Ow w' W.heap.size w'.heap.size z (awR ts xs r a).1 ∧ Below W.heap.size W w') := Lib.hid (fun W hW => specApplyRewrite v ts nv xs r a W (HV.out.below (HB.out.trans (hW.mono HB.out.size)) (Nat.le_refl _)) (HN.out.rd.below hW (Nat.le_refl _)))
      obtain ⟨_, _, ax, cx, rfl, hcx, hxr⟩ := hx
      obtain ⟨bx, ox, rfl, hbx, hxc⟩ := hxr (by simp)
      have d0 := hxc 0 (by simp)
      have d1 := hxc 1 (by simp)
      simp only [List.getD_cons_zero, List.getD_cons_succ, Nat.add_zero, List.length_cons, List.length_nil, Nat.zero_add, Nat.reduceAdd] at d0 d1 hc
      have HS : Hid (∀ W, Below wr.heap.size wr W → W.cell? ⟨b, o + k, none⟩ = some (.slice (some ⟨bx, ox, none⟩) 2 cx) ∧ W.cell? ⟨bx, ox, none⟩ = some (.int .i64 r) ∧ W.cell? ⟨bx, ox + 1, none⟩ = some (.int .i64 a)) := Lib.hid (fun W hW => ⟨(hW.cell (p := ⟨b, o + k, none⟩) (Nat.lt_of_lt_of_le hb hbel.size)).trans hc, (hW.cell (p := ⟨bx, ox, none⟩) hbx).trans d0, (hW.cell (p := ⟨bx, ox + 1, none⟩) hbx).trans d1⟩)
      have HD : Hid (Below wr.heap.size wr wr.drew) := Lib.hid (Below.refl _ _).drew
      by_cases hz : (awR ts xs r a).2 = 0
      · have HE := Lib.hid (cdF_ok (ss := ss.drop (k + 1)) hz)
        rw [hz] at HBN
        obtain ⟨nz, hnz⟩ : ∃ z, z = (awR ts xs r a).1 := ⟨_, rfl⟩
        rw [← hnz] at HE HBN
        clear hcell hqr hs hdr h2 hxc hxr hnz hz d1 hbel d0
        go_wp2_with fail
        go_region_held3 (fun W => W.cell? ⟨b, o + k, none⟩ = some (.slice (some ⟨bx, ox, none⟩) 2 cx) ∧ W.cell? ⟨bx, ox, none⟩ = some (.int .i64 r) ∧ W.cell? ⟨bx, ox + 1, none⟩ = some (.int .i64 a))
          (exact HS.out _ HD.out)
          (first | (go_at_call 27; with_reducible refine (HBN.out _ HD.out).mono ?_; rintro e3 w3 ⟨z, rfl, ho, hb3⟩; have HO3 : Hid (Ow w3 w.heap.size w3.heap.size z nz) := Lib.hid (ho.mono (Nat.le_trans HB.out.size HD.out.size) (Nat.le_refl _) (Nat.le_refl _)); replace HD := Lib.hid (HD.out.trans (hb3.mono HD.out.size)); clear ho hb3))
        all_goals
          go_wp2
          go_roundw
          case rel => exact ⟨k + 1, nz, _, rfl, by omega, by go_num, by rw [← HE.out, ← HDR.out, HCD.out], HO3.out, HB.out.trans (HD.out.mono HB.out.size)⟩
          case measure => simp [intOf]; omega
      · have HE : Hid (cdR ts zs ss = ([], 7)) := Lib.hid (by rw [HR.out, ← HCD.out, HDR.out, cdF_bad hz]; rfl)
        obtain ⟨cd, hcd⟩ : ∃ z, z = (awR ts xs r a).2 := ⟨_, rfl⟩
        obtain ⟨nz, hnz⟩ : ∃ z, z = (awR ts xs r a).1 := ⟨_, rfl⟩
        rw [← hcd] at HBN hz
        rw [← hnz] at HBN
        have hz2 : (cd == 0) = false := by simpa using hz
        clear hcell hqr hs hdr h2 hxc hxr hnz hcd hz d1 hbel d0
        go_wp2_with fail
        go_region_held3 (fun W => W.cell? ⟨b, o + k, none⟩ = some (.slice (some ⟨bx, ox, none⟩) 2 cx) ∧ W.cell? ⟨bx, ox, none⟩ = some (.int .i64 r) ∧ W.cell? ⟨bx, ox + 1, none⟩ = some (.int .i64 a))
          (exact HS.out _ HD.out)
          (first | (go_at_call 27; with_reducible refine (HBN.out _ HD.out).mono ?_; rintro e3 w3 ⟨z, rfl, ho, hb3⟩; replace HD := Lib.hid (HD.out.trans (hb3.mono HD.out.size)); clear ho hb3))
        all_goals
          go_wp2
          go_ret2
          exact ⟨_, by rw [HE.out] <;> rfl, by rw [HE.out]; exact Ow.emptyUp (HB.out.trans (HD.out.mono HB.out.size)).size, HB.out.trans (HD.out.mono HB.out.size)⟩
    · obtain rfl : k = ss.length := by omega
      have HE : Hid (cdR ts zs ss = (xs, 0)) := Lib.hid (by rw [HR.out, ← HCD.out, List.drop_length]; rfl)
      have hnlt : ¬ ((ss.length : Int) < (ss.length : Int)) := by omega
      clear hbel hqr
      go_wp2
      go_ret2
      exact ⟨_, by rw [HE.out] <;> rfl, by rw [HE.out]; exact HN.out, HB.out⟩
set_option maxRecDepth 100000 in
set_option maxHeartbeats 8000000 in
theorem implCheckD (v : Value) (ts : List Tp) (u : Value) (zs : List Int) (q : Value) (ss : List (List Int)) (w : World) (hv : RdT w v ts) (hu : Rd w u zs) (hq : RdL w q ss) :
    Calls Try.prog 33 #[v, u, q] w fun e w' => ∃ r, e = .returned (.tuple #[r, .int .i64 (cdR ts zs ss).2]) ∧ Ow w' w.heap.size w'.heap.size r (cdR ts zs ss).1 ∧ Below w.heap.size w w' := by
  have HV := Lib.hid hv
  have HU := Lib.hid hu
  have hql := hq.len
  obtain ⟨_, aq, cq, rfl, hcq, hqr⟩ := hq
  obtain ⟨_, _, a', c', rfl, _, _⟩ := hu
  have HL := Lib.hid (rdl_one HU.out)
  have HA : Hid (Below w.heap.size w (w.alloc (.cells #[.slice a' zs.length c'] 22))) := Lib.hid ((Below.refl _ _).alloc (Nat.le_refl _) _)
  have hcode : (rcV ts [zs] = 1 ∧ (rwsB ts && wordB zs) = false) ∨ (rcV ts [zs] = 0 ∧ (rwsB ts && wordB zs) = true) := by
    rcases eqOr (rwsB ts) with h | h <;> rcases eqOr (wordB zs) with h' | h' <;> simp [rcV, allW, h, h']
  rcases hcode with ⟨hc1, hbad⟩ | ⟨hc0, hok⟩
  · have HC := Lib.hid hc1
    have e0 : Hid (cdR ts zs ss = ([], 1)) := Lib.hid (by rw [cdR, if_pos hbad])
    clear hc1 hbad hqr
    go_enter Try.func33, Try.ntmps33
    go_wp2_with fail
    refine (implRewCode _ ts _ [zs] _ (HV.out.below HA.out (Nat.le_refl _)) HL.out).mono ?_
    rintro e w1 ⟨rfl, hb1⟩
    rw [HC.out]
    have HB1 := Lib.hid (HA.out.trans (hb1.mono HA.out.size))
    clear hb1
    go_wp2
    go_ret2
    exact ⟨_, by rw [e0.out] <;> rfl, by rw [e0.out]; exact Ow.emptyUp HB1.out.size, HB1.out⟩
  have HC := Lib.hid hc0
  clear hc0
  have hok1 : ¬ (rwsB ts && wordB zs) = false := by rw [hok]; simp
  by_cases h100 : 100 < ss.length
  · have e0 : Hid (cdR ts zs ss = ([], 2)) := Lib.hid (by rw [cdR, if_neg hok1, if_pos h100])
    have h1 : (100 : Int) < (ss.length : Int) := by omega
    clear hok hok1 h100 hqr
    go_enter Try.func33, Try.ntmps33
    go_wp2_with fail
    refine (implRewCode _ ts _ [zs] _ (HV.out.below HA.out (Nat.le_refl _)) HL.out).mono ?_
    rintro e w1 ⟨rfl, hb1⟩
    rw [HC.out]
    have HB1 := Lib.hid (HA.out.trans (hb1.mono HA.out.size))
    clear hb1
    go_wp2
    go_ret2
    exact ⟨_, by rw [e0.out] <;> rfl, by rw [e0.out]; exact Ow.emptyUp HB1.out.size, HB1.out⟩
  have h1 : ¬ (100 : Int) < (ss.length : Int) := by omega
  have HR : Hid (cdR ts zs ss = optR (cdF ts zs ss)) := Lib.hid (by rw [cdR, if_neg hok1, if_neg h100])
  clear hok hok1 h100
  go_enter Try.func33, Try.ntmps33
  go_wp2_with fail
  refine (implRewCode _ ts _ [zs] _ (HV.out.below HA.out (Nat.le_refl _)) HL.out).mono ?_
  rintro e w1 ⟨rfl, hb1⟩
  rw [HC.out]
  have HB1 := Lib.hid (HA.out.trans (hb1.mono HA.out.size))
  clear hb1
  go_wp2_with fail
  refine (libClone _ zs _ (HU.out.below HB1.out (Nat.le_refl _))).mono ?_
  rintro e w4 ⟨nv0, rfl, ho4, hb4⟩
  have HO4 : Hid (Ow w4 w.heap.size w4.heap.size nv0 zs) := Lib.hid (ho4.mono (HB1.out).size (Nat.le_refl _) (Nat.le_refl _))
  have HB4 : Hid (Below w.heap.size w w4) := Lib.hid ((HB1.out).trans (hb4.mono (HB1.out).size))
  clear ho4 hb4
  go_wp2
  go_loopw [9, 28] (fun now i wr => ∃ (k : Nat) (xs : List Int) (nv : Value), now = nv ∧ k ≤ ss.length ∧ i = .int .i64 k ∧ cdF ts xs (ss.drop k) = cdF ts zs ss ∧ Ow wr w.heap.size wr.heap.size nv xs ∧ Below w.heap.size w wr) (fun _ i _ => ss.length - (intOf i).toNat)
  case atStart => exact ⟨0, zs, nv0, rfl, Nat.zero_le _, rfl, by rw [List.drop_zero], HO4.out, HB4.out⟩
  case round =>
    obtain ⟨k, xs, nv, hnv, hk, rfl, hcd, hown, hbel⟩ := hrel
    obtain rfl := hnv.symm
    have HB := Lib.hid hbel
    have HN := Lib.hid hown
    have HCD := Lib.hid hcd
    clear hcd hown
    by_cases hlt : k < ss.length
    · obtain ⟨b, o, rfl, hb, hcell⟩ := hqr (by intro h0; rw [h0] at hlt; simp at hlt)
      obtain ⟨x, hc, hx⟩ := hcell k hlt
      replace hc := (hbel.cell (p := ⟨b, o + k, none⟩) hb).trans hc
      have hdr := drop_at ss k hlt
      obtain ⟨s, hs⟩ : ∃ s, s = ss.getD k [] := ⟨_, rfl⟩
      rw [← hs] at hx hdr
      have HDR := Lib.hid hdr
      replace hx := hx.below hbel (Nat.le_refl _)
      have i0 : (0 : Int) ≤ (k : Int) := by omega
      have i1 : (k : Int) < (ss.length : Int) := by omega
      by_cases h2 : s.length = 2
      rotate_left
      · have HE : Hid (cdR ts zs ss = ([], 7)) := Lib.hid (by rw [HR.out, ← HCD.out, HDR.out, cdF_len h2]; rfl)
        obtain ⟨_, _, ax, cx, rfl, _, _⟩ := hx
        have h3 : ((s.length : Int) == 2) = false := by simpa using (by omega : ¬ (s.length : Int) = 2)
        clear hcell hqr hs hdr h2
        go_wp2
        go_ret2
        exact ⟨_, by rw [HE.out] <;> rfl, by rw [HE.out]; exact Ow.emptyUp HB.out.size, HB.out⟩
      obtain ⟨r, a, rfl⟩ := two_of h2
      have HBN : Hid (∀ W, Below wr.heap.size wr W → Calls Try.prog 28 #[v, nv, .int .i64 r, .int .i64 a] W fun e w' => ∃ z, e = .returned (.tuple #[z, .int .i64 (awR ts xs r a).2]) ∧ Ow w' W.heap.size w'.heap.size z (awR ts xs r a).1 ∧ Below W.heap.size W w') := Lib.hid (fun W hW => implApplyRewrite v ts nv xs r a W (HV.out.below (HB.out.trans (hW.mono HB.out.size)) (Nat.le_refl _)) (HN.out.rd.below hW (Nat.le_refl _)))
      obtain ⟨_, _, ax, cx, rfl, hcx, hxr⟩ := hx
      obtain ⟨bx, ox, rfl, hbx, hxc⟩ := hxr (by simp)
      have d0 := hxc 0 (by simp)
      have d1 := hxc 1 (by simp)
      simp only [List.getD_cons_zero, List.getD_cons_succ, Nat.add_zero, List.length_cons, List.length_nil, Nat.zero_add, Nat.reduceAdd] at d0 d1 hc
      have HS : Hid (∀ W, Below wr.heap.size wr W → W.cell? ⟨bx, ox, none⟩ = some (.int .i64 r) ∧ W.cell? ⟨bx, ox + 1, none⟩ = some (.int .i64 a)) := Lib.hid (fun W hW => ⟨(hW.cell (p := ⟨bx, ox, none⟩) hbx).trans d0, (hW.cell (p := ⟨bx, ox + 1, none⟩) hbx).trans d1⟩)
      have HD : Hid (Below wr.heap.size wr wr.drew) := Lib.hid (Below.refl _ _).drew
      by_cases hz : (awR ts xs r a).2 = 0
      · have HE := Lib.hid (cdF_ok (ss := ss.drop (k + 1)) hz)
        rw [hz] at HBN
        obtain ⟨nz, hnz⟩ : ∃ z, z = (awR ts xs r a).1 := ⟨_, rfl⟩
        rw [← hnz] at HE HBN
        clear hcell hqr hs hdr h2 hxc hxr hnz hz d1 hbel d0
        go_wp2_with fail
        go_region_held3 (fun W => W.cell? ⟨bx, ox, none⟩ = some (.int .i64 r) ∧ W.cell? ⟨bx, ox + 1, none⟩ = some (.int .i64 a))
          (exact HS.out _ HD.out)
          (first | (go_at_call 28; with_reducible refine (HBN.out _ HD.out).mono ?_; rintro e3 w3 ⟨z, rfl, ho, hb3⟩; have HO3 : Hid (Ow w3 w.heap.size w3.heap.size z nz) := Lib.hid (ho.mono (Nat.le_trans HB.out.size HD.out.size) (Nat.le_refl _) (Nat.le_refl _)); replace HD := Lib.hid (HD.out.trans (hb3.mono HD.out.size)); clear ho hb3))
        all_goals
          go_wp2
          go_roundw
          case rel => exact ⟨k + 1, nz, _, rfl, by omega, by go_num, by rw [← HE.out, ← HDR.out, HCD.out], HO3.out, HB.out.trans (HD.out.mono HB.out.size)⟩
          case measure => simp [intOf]; omega
      · have HE : Hid (cdR ts zs ss = ([], 7)) := Lib.hid (by rw [HR.out, ← HCD.out, HDR.out, cdF_bad hz]; rfl)
        obtain ⟨cd, hcd⟩ : ∃ z, z = (awR ts xs r a).2 := ⟨_, rfl⟩
        obtain ⟨nz, hnz⟩ : ∃ z, z = (awR ts xs r a).1 := ⟨_, rfl⟩
        rw [← hcd] at HBN hz
        rw [← hnz] at HBN
        have hz2 : (cd == 0) = false := by simpa using hz
        clear hcell hqr hs hdr h2 hxc hxr hnz hcd hz d1 hbel d0
        go_wp2_with fail
        go_region_held3 (fun W => W.cell? ⟨bx, ox, none⟩ = some (.int .i64 r) ∧ W.cell? ⟨bx, ox + 1, none⟩ = some (.int .i64 a))
          (exact HS.out _ HD.out)
          (first | (go_at_call 28; with_reducible refine (HBN.out _ HD.out).mono ?_; rintro e3 w3 ⟨z, rfl, ho, hb3⟩; replace HD := Lib.hid (HD.out.trans (hb3.mono HD.out.size)); clear ho hb3))
        all_goals
          go_wp2
          go_ret2
          exact ⟨_, by rw [HE.out] <;> rfl, by rw [HE.out]; exact Ow.emptyUp (HB.out.trans (HD.out.mono HB.out.size)).size, HB.out.trans (HD.out.mono HB.out.size)⟩
    · obtain rfl : k = ss.length := by omega
      have HE : Hid (cdR ts zs ss = (xs, 0)) := Lib.hid (by rw [HR.out, ← HCD.out, List.drop_length]; rfl)
      have hnlt : ¬ ((ss.length : Int) < (ss.length : Int)) := by omega
      clear hbel hqr
      go_wp2
      go_ret2
      exact ⟨_, by rw [HE.out] <;> rfl, by rw [HE.out]; exact HN.out, HB.out⟩
end Go.Proofs.Ythombjcjhnekpaa.Ints
