/- Contracts of DigitsOf, of the model and of the program. -/
import Derived.Test.YtmbppdebpjgjnaaVl
import Derived.Maps.AppendAt
namespace Go.Proofs.Ytmbppdebpjgjnaa.Ints
open Go.RowKit
set_option linter.unusedVariables false

/-- The length of a list's value. -/
def lenV : Value → Nat
  | .slice _ n _ => n
  | _ => 0
theorem lenV_row {w : World} {B : Nat} {v : Value} {n : Nat} {xs : List Value} {t : TypeId} {size : Nat} (h : w.ownsRow B t size v n xs) : lenV v = n := by
  rcases h.2 with ⟨rfl, h0⟩ | ⟨g, c, cur, rfl, _⟩
  · exact h0.symm
  · rfl
/-- A list that is read does not lie in the block of a row. -/
def Apt (r o : Value) (zs : List Int) : Prop := zs ≠ [] → ∀ a n c, r = .slice (some a) n c → o.ownBlock ≠ some a.block
theorem Rd.below_top {w : World} {r : Value} {zs : List Int} (h : Rd w r zs) (hne : zs ≠ []) (a : Addr) (n c : Nat) (e : r = .slice (some a) n c) : a.block < w.heap.size := by
  obtain ⟨_, _, a', c', e', _, hr⟩ := h
  obtain ⟨b, o, ha, hb, _⟩ := hr hne
  rw [e', ha] at e
  simp at e
  rw [← e.1]; exact hb
theorem Rd.grown {w1 w2 : World} {r : Value} {zs : List Int} {row : Option Nat} (h : Rd w1 r zs) (g : w1.grownBy w2 row) (hne : zs ≠ [] → ∀ a n c, r = .slice (some a) n c → row ≠ some a.block) : Rd w2 r zs := by
  obtain ⟨l, f, a, c, rfl, hc, hr⟩ := h
  refine ⟨l, f, a, c, rfl, hc, fun h0 => ?_⟩
  obtain ⟨b, o, rfl, hlt, hcell⟩ := hr h0
  exact ⟨b, o, rfl, Nat.lt_of_lt_of_le hlt g.size, fun i hi => (World.cell?_of_block (a := ⟨b, o + i, none⟩) (g.block b hlt (fun e => hne h0 _ _ _ rfl e.symm))).trans (hcell i hi)⟩
theorem Ow.row_low {w : World} {B T : Nat} {r : Value} {zs : List Int} (h : Ow w B T r zs) (hne : zs ≠ []) (a : Addr) (n c : Nat) (e : r = .slice (some a) n c) : B ≤ a.block := by
  rcases h.form with ⟨rfl, h0⟩ | ⟨g, c', rfl, hb, _⟩
  · exact absurd h0 hne
  · simp at e; rw [← e.1]; exact hb

noncomputable def dgN (ps : List Int) (p : Int) : List Int := dgF (val ps).toNat (val ps) p
noncomputable def dgV (ps : List Int) (p : Int) : List Int := if natB ps = true ∧ 2 ≤ p ∧ p ≤ 1000000 then dgN ps p else []
noncomputable def dgC (ps : List Int) (p : Int) : Int := if natB ps = true then (if 2 ≤ p ∧ p ≤ 1000000 then 0 else 2) else 1
theorem dg_bad {ps : List Int} {p : Int} (h : natB ps = false) : dgV ps p = [] ∧ dgC ps p = 1 := by simp [dgV, dgC, h]
theorem dg_range {ps : List Int} {p : Int} (h : natB ps = true) (k : ¬ (2 ≤ p ∧ p ≤ 1000000)) : dgV ps p = [] ∧ dgC ps p = 2 := by
  rw [dgV, dgC, if_neg (fun H => k H.2), if_pos h, if_neg k]; exact ⟨rfl, rfl⟩
theorem dg_good {ps : List Int} {p : Int} (h : natB ps = true) (k : 2 ≤ p ∧ p ≤ 1000000) : dgV ps p = dgN ps p ∧ dgC ps p = 0 := by
  rw [dgV, dgC, if_pos ⟨h, k⟩, if_pos h, if_pos k]; exact ⟨rfl, rfl⟩
set_option maxHeartbeats 4000000 in
theorem specDgLoop (u : Value) (ps : List Int) (p : Int) (w : World) (hu : Rd w u ps) (hp : Can ps ∧ ps.length ≤ 40) (p0 : 2 ≤ p) (p1 : p ≤ 1000000) :
    Calls Try.prog 51 #[u, .int .i64 p] w fun e w' => ∃ r, e = .returned r ∧ Ow w' w.heap.size w'.heap.size r (dgN ps p) ∧ Below w.heap.size w w' := by
  have HU := Lib.hid hu
  have HP := Lib.hid hp
  obtain ⟨G, hG⟩ : ∃ G, G = dgN ps p := ⟨_, rfl⟩
  have HT : Hid (G = dgF (val ps).toNat (val ps) p) := Lib.hid hG
  have hgl8 : G.length ≤ 800 := by rw [hG]; exact dg_small hp.1 hp.2 _ p p0
  have HD : Hid (∀ z ∈ G, 0 ≤ z ∧ z < 1000000) := Lib.hid (fun z hz => by
    obtain ⟨i, hi, he⟩ := List.getElem_of_mem hz
    have hG' : G = dgF (val ps).toNat (val ps) p := hG
    have h := dgF_dig (val ps).toNat (val ps) p p0 i (by rw [← hG']; exact hi)
    rw [← hG', List.getD_eq_getElem?_getD, List.getElem?_eq_getElem hi, Option.getD_some, he] at h
    omega)
  obtain ⟨i0, hi, hz0, hz1, hz2⟩ := info_parts infoE
  rw [← hG]
  have HU0 : Hid (Rd (w.alloc (.cells #[] 2)) u ps) := Lib.hid (hu.below ((Below.refl _ _).alloc (Nat.le_refl _) _) (Nat.le_refl _))
  have HA0 : Hid (Apt u (.slice (some ⟨w.heap.size, 0, none⟩) 0 0) ps) := Lib.hid (fun hne a n c e => by
    have := hu.below_top hne a n c e
    simp [Value.ownBlock]; omega)
  clear hu hp hG
  go_enter Try.func51, Try.ntmps51
  go_wp2
  go_loopw [0, 5] (fun n o wr => ∃ (f : Nat) (xs zs : List Int) (nv ov : Value), n = nv ∧ o = ov ∧ Rd wr nv xs ∧ Can xs ∧ xs.length ≤ 40 ∧ val xs ≤ f ∧ G = zs ++ dgF f (val xs) p ∧ Apt nv ov xs ∧ wr.ownsRow w.heap.size 2 1 ov zs.length (zs.map (Value.int .i64)) ∧ Below w.heap.size w wr) (fun _ o _ => G.length - lenV o)
  case atStart => exact ⟨(val ps).toNat, ps, [], _, _, rfl, rfl, HU0.out, HP.out.1, HP.out.2, by have := val_nonneg HP.out.1.1; omega, by rw [HT.out]; rfl, HA0.out, World.ownsRow_made w #[] 0 (Nat.le_refl _) (by unfold maxLen; omega) (by simp), (Below.refl _ _).alloc (Nat.le_refl _) _⟩
  case round =>
    obtain ⟨f, xs, zs, nv, o, hn, ho', hr, hc, hl, hf, hk, hapt, hown, hb⟩ := hrel
    obtain rfl := hn.symm
    obtain rfl := ho'.symm
    have HR := Lib.hid hr
    have HC := Lib.hid hc
    have HB := Lib.hid hb
    have hsz := hb.size
    obtain ⟨m, hm⟩ : ∃ m, m = val xs := ⟨_, rfl⟩
    have HM := Lib.hid hm
    rw [← hm] at hf hk
    have HK := Lib.hid hk
    obtain ⟨av, cv, hav⟩ : ∃ a c, nv = .slice a xs.length c := by obtain ⟨_, _, a, c, e, _⟩ := hr; exact ⟨a, c, e⟩
    obtain ⟨n, hn2⟩ : ∃ n, n = xs.length := ⟨_, rfl⟩
    rw [← hn2] at hav
    obtain rfl := hav
    have HN := Lib.hid hn2
    have hgl : G.length = zs.length + (dgF f m p).length := by rw [hk, List.length_append]
    obtain ⟨gl, hgl2⟩ : ∃ g, g = (dgF f m p).length := ⟨_, rfl⟩
    rw [← hgl2] at hgl
    have HGL := Lib.hid hgl2
    clear hr hc hb hm hk hn2 hgl2
    by_cases hp0 : 0 < n
    · have hm0 : Hid (0 < m) := Lib.hid (by rw [HM.out]; exact val_pos HC.out (by rw [← HN.out]; exact hp0))
      have hp1 : (0 : Int) < (n : Int) := by omega
      go_wp2_with fail
      refine (specBy _ xs p _ HR.out HC.out.1 (by omega) (by omega) (by omega)).mono ?_
      rintro x w1 ⟨r, rfl, ho, hb⟩
      rw [← HM.out]
      have HO : Hid (Rd w1 r (canOf (m / p))) := Lib.hid (by rw [HM.out]; exact ho.rd)
      have HB2 := Lib.hid (HB.out.trans (hb.mono HB.out.size))
      have hown1 : w1.ownsRow w.heap.size 2 1 o zs.length (zs.map (Value.int .i64)) :=
        (Ow.below (T := wr.heap.size) ⟨by omega, fun z hz => by have := HD.out z (by rw [HK.out]; exact List.mem_append_left _ hz); omega, hown, fun k hk => (hown.lt k hk).2, Nat.le_refl _, hsz⟩ hb (Nat.le_refl _)).row
      have hsz1 := HB2.out.size
      have HA1 : Hid (Apt r o (canOf (m / p))) := Lib.hid (fun hne a n c e => by
        intro h2
        have h1 := (hown.lt _ h2).2
        rw [HM.out] at hne
        have h3 := ho.row_low hne a n c e
        omega)
      clear ho hb hown
      obtain ⟨q, hq⟩ : ∃ q, q = m % p := ⟨_, rfl⟩
      rw [← hq]
      have HQ := Lib.hid hq
      have HS : Hid (∃ g, f = g + 1 ∧ dgF f m p = (m % p) :: dgF g (m / p) p) := Lib.hid (dgF_step hm0.out hf)
      have HDV : Hid (Can (canOf (m / p)) ∧ val (canOf (m / p)) = m / p ∧ (canOf (m / p)).length ≤ xs.length ∧ m / p < m) := Lib.hid (by
        have h1 := HC.out
        have h2 := div_fits h1 (p := p) (by omega)
        rw [← HM.out] at h2
        exact ⟨h2.1, h2.2.1, h2.2.2, (div_less hm0.out (by omega)).2.1⟩)
      have hgl3 : 1 ≤ gl := by
        obtain ⟨g, hg, hs⟩ := HS.out
        rw [HGL.out, hs]; simp
      clear hq
      go_wp2_with (at_builtin; refine wpList_append_own_at _ rfl _ _ 22 rfl w.heap.size 2 i0 (.int .i64 0) 1 8 Try.underlying22 hi hz0 hz1 hz2 rfl (by decide) _ _ _ rfl (hown1.alloc _) ⟨_, 0, none⟩ 1 1 [.int .i64 q] rfl rfl ?c1 ?c2 ?c3 ?c4 ?c5 ?_)
      case c1 => exact Go.Proofs.Ytmbppdebpjgjnaa.Ints.cell_new _ _ _
      case c2 => exact one_cell _
      case c3 => unfold maxLen; omega
      case c4 => omega
      case c5 => simp; omega
      intro v' w2 hown2 hgrow _ hv'
      have HO2 := Lib.hid (snoc_row hown2)
      have HW := Lib.hid ((HB2.out.alloc hsz1 (Obj.cells #[Value.int IntKind.i64 q] 2)).grown hgrow (by simp; omega) (fun k hk => (hown1.lt k hk).1))
      have HR2 : Hid (Rd w2 r (canOf (m / p))) := Lib.hid (HO.out.grown (grown_trans (World.grownBy_alloc w1 _ _) hgrow) HA1.out)
      have HA2 : Hid (Apt r v' (canOf (m / p))) := Lib.hid (fun hne a n c e => by
        rcases hv' with hv' | hv'
        · rw [hv']; exact HA1.out hne a n c e
        · rw [hv']
          have := HO.out.below_top hne a n c e
          simp; omega)
      have hlv := lenV_row hown2
      clear hown2 hgrow
      go_wp2
      go_roundw
      case rel =>
        obtain ⟨g, hg, hs⟩ := HS.out
        exact ⟨g, canOf (m / p), zs ++ [q], _, _, rfl, rfl, HR2.out, HDV.out.1, by have := HDV.out.2.2.1; omega, by have := HDV.out.2.2.2; rw [HDV.out.2.1]; omega, by rw [HDV.out.2.1, HK.out, hs, HQ.out]; simp, HA2.out, HO2.out, HW.out⟩
      case measure =>
        have h1 := lenV_row hown1
        rw [h1, hlv]; omega
    · have HE : Hid (G = zs) := Lib.hid (by
        have hn0 : xs.length = 0 := by have := HN.out; omega
        have : val xs = 0 := by rw [List.eq_nil_of_length_eq_zero hn0]; rfl
        rw [HK.out, dgF_stop (by rw [HM.out, this]; omega)]; simp)
      obtain rfl : n = 0 := by omega
      have HOW : Hid (Ow wr w.heap.size wr.heap.size o zs) := Lib.hid ⟨by omega, fun z hz => by have := HD.out z (by rw [HE.out]; exact hz); omega, hown, fun k hk => (hown.lt k hk).2, Nat.le_refl _, hsz⟩
      clear hown
      go_wp2
      go_ret
      exact ⟨_, rfl, by rw [HE.out]; exact HOW.out, HB.out⟩
set_option maxHeartbeats 4000000 in
theorem implDgGood (u : Value) (ps : List Int) (p : Int) (w : World) (hu : Rd w u ps) (hx : natB ps = true) (p0 : 2 ≤ p) (p1 : p ≤ 1000000) :
    Calls Try.prog 53 #[u, .int .i64 p] w fun e w' => ∃ r, e = .returned (.tuple #[r, .int .i64 0]) ∧ Ow w' w.heap.size w'.heap.size r (dgN ps p) ∧ Below w.heap.size w w' := by
  have HX := Lib.hid hx
  have hp := natB_can hx
  have HU := Lib.hid hu
  have HP := Lib.hid hp
  obtain ⟨G, hG⟩ : ∃ G, G = dgN ps p := ⟨_, rfl⟩
  have HT : Hid (G = dgF (val ps).toNat (val ps) p) := Lib.hid hG
  have hgl8 : G.length ≤ 800 := by rw [hG]; exact dg_small hp.1 hp.2 _ p p0
  have HD : Hid (∀ z ∈ G, 0 ≤ z ∧ z < 1000000) := Lib.hid (fun z hz => by
    obtain ⟨i, hi, he⟩ := List.getElem_of_mem hz
    have hG' : G = dgF (val ps).toNat (val ps) p := hG
    have h := dgF_dig (val ps).toNat (val ps) p p0 i (by rw [← hG']; exact hi)
    rw [← hG', List.getD_eq_getElem?_getD, List.getElem?_eq_getElem hi, Option.getD_some, he] at h
    omega)
  obtain ⟨i0, hi, hz0, hz1, hz2⟩ := info_parts infoE
  rw [← hG]
  have HA0 : Hid (Apt u (.slice none 0 0) ps) := Lib.hid (fun hne a n c e => by simp [Value.ownBlock])
  clear hu hp hG hx
  go_enter Try.func53, Try.ntmps53
  go_wp2_with fail
  refine (implNat _ ps _ HU.out).mono ?_
  rintro e w0 ⟨rfl, hb⟩
  rw [HX.out]
  have HU0 := Lib.hid (HU.out.below hb (Nat.le_refl _))
  have HB0 := Lib.hid hb
  clear hb
  go_wp2
  go_loopw [0, 6] (fun n o wr => ∃ (f : Nat) (xs zs : List Int) (nv ov : Value), n = nv ∧ o = ov ∧ Rd wr nv xs ∧ Can xs ∧ xs.length ≤ 40 ∧ val xs ≤ f ∧ G = zs ++ dgF f (val xs) p ∧ Apt nv ov xs ∧ wr.ownsRow w.heap.size 2 1 ov zs.length (zs.map (Value.int .i64)) ∧ Below w.heap.size w wr) (fun _ o _ => G.length - lenV o)
  case atStart => exact ⟨(val ps).toNat, ps, [], _, _, rfl, rfl, HU0.out, HP.out.1, HP.out.2, by have := val_nonneg HP.out.1.1; omega, by rw [HT.out]; rfl, HA0.out, World.ownsRow_nil _ _ _ _, HB0.out⟩
  case round =>
    obtain ⟨f, xs, zs, nv, o, hn, ho', hr, hc, hl, hf, hk, hapt, hown, hb⟩ := hrel
    obtain rfl := hn.symm
    obtain rfl := ho'.symm
    have HR := Lib.hid hr
    have HC := Lib.hid hc
    have HB := Lib.hid hb
    have hsz := hb.size
    obtain ⟨m, hm⟩ : ∃ m, m = val xs := ⟨_, rfl⟩
    have HM := Lib.hid hm
    rw [← hm] at hf hk
    have HK := Lib.hid hk
    obtain ⟨av, cv, hav⟩ : ∃ a c, nv = .slice a xs.length c := by obtain ⟨_, _, a, c, e, _⟩ := hr; exact ⟨a, c, e⟩
    obtain ⟨n, hn2⟩ : ∃ n, n = xs.length := ⟨_, rfl⟩
    rw [← hn2] at hav
    obtain rfl := hav
    have HN := Lib.hid hn2
    have hgl : G.length = zs.length + (dgF f m p).length := by rw [hk, List.length_append]
    obtain ⟨gl, hgl2⟩ : ∃ g, g = (dgF f m p).length := ⟨_, rfl⟩
    rw [← hgl2] at hgl
    have HGL := Lib.hid hgl2
    clear hr hc hb hm hk hn2 hgl2
    by_cases hp0 : 0 < n
    · have hm0 : Hid (0 < m) := Lib.hid (by rw [HM.out]; exact val_pos HC.out (by rw [← HN.out]; exact hp0))
      have hp1 : (0 : Int) < (n : Int) := by omega
      go_wp2_with fail
      refine (implBy _ xs p _ HR.out HC.out.1 (by omega) (by omega) (by omega)).mono ?_
      rintro x w1 ⟨r, rfl, ho, hb⟩
      rw [← HM.out]
      have HO : Hid (Rd w1 r (canOf (m / p))) := Lib.hid (by rw [HM.out]; exact ho.rd)
      have HB2 := Lib.hid (HB.out.trans (hb.mono HB.out.size))
      have hown1 : w1.ownsRow w.heap.size 2 1 o zs.length (zs.map (Value.int .i64)) :=
        (Ow.below (T := wr.heap.size) ⟨by omega, fun z hz => by have := HD.out z (by rw [HK.out]; exact List.mem_append_left _ hz); omega, hown, fun k hk => (hown.lt k hk).2, Nat.le_refl _, hsz⟩ hb (Nat.le_refl _)).row
      have hsz1 := HB2.out.size
      have HA1 : Hid (Apt r o (canOf (m / p))) := Lib.hid (fun hne a n c e => by
        intro h2
        have h1 := (hown.lt _ h2).2
        rw [HM.out] at hne
        have h3 := ho.row_low hne a n c e
        omega)
      clear ho hb hown
      obtain ⟨q, hq⟩ : ∃ q, q = m % p := ⟨_, rfl⟩
      rw [← hq]
      have HQ := Lib.hid hq
      have HS : Hid (∃ g, f = g + 1 ∧ dgF f m p = (m % p) :: dgF g (m / p) p) := Lib.hid (dgF_step hm0.out hf)
      have HDV : Hid (Can (canOf (m / p)) ∧ val (canOf (m / p)) = m / p ∧ (canOf (m / p)).length ≤ xs.length ∧ m / p < m) := Lib.hid (by
        have h1 := HC.out
        have h2 := div_fits h1 (p := p) (by omega)
        rw [← HM.out] at h2
        exact ⟨h2.1, h2.2.1, h2.2.2, (div_less hm0.out (by omega)).2.1⟩)
      have hgl3 : 1 ≤ gl := by
        obtain ⟨g, hg, hs⟩ := HS.out
        rw [HGL.out, hs]; simp
      clear hq
      go_wp2_with (at_builtin; refine wpList_append_own_at _ rfl _ _ 22 rfl w.heap.size 2 i0 (.int .i64 0) 1 8 Try.underlying22 hi hz0 hz1 hz2 rfl (by decide) _ _ _ rfl (hown1.alloc _) ⟨_, 0, none⟩ 1 1 [.int .i64 q] rfl rfl ?c1 ?c2 ?c3 ?c4 ?c5 ?_)
      case c1 => exact Go.Proofs.Ytmbppdebpjgjnaa.Ints.cell_new _ _ _
      case c2 => exact one_cell _
      case c3 => unfold maxLen; omega
      case c4 => omega
      case c5 => simp; omega
      intro v' w2 hown2 hgrow _ hv'
      have HO2 := Lib.hid (snoc_row hown2)
      have HW := Lib.hid ((HB2.out.alloc hsz1 (Obj.cells #[Value.int IntKind.i64 q] 2)).grown hgrow (by simp; omega) (fun k hk => (hown1.lt k hk).1))
      have HR2 : Hid (Rd w2 r (canOf (m / p))) := Lib.hid (HO.out.grown (grown_trans (World.grownBy_alloc w1 _ _) hgrow) HA1.out)
      have HA2 : Hid (Apt r v' (canOf (m / p))) := Lib.hid (fun hne a n c e => by
        rcases hv' with hv' | hv'
        · rw [hv']; exact HA1.out hne a n c e
        · rw [hv']
          have := HO.out.below_top hne a n c e
          simp; omega)
      have hlv := lenV_row hown2
      clear hown2 hgrow
      go_wp2
      go_roundw
      case rel =>
        obtain ⟨g, hg, hs⟩ := HS.out
        exact ⟨g, canOf (m / p), zs ++ [q], _, _, rfl, rfl, HR2.out, HDV.out.1, by have := HDV.out.2.2.1; omega, by have := HDV.out.2.2.2; rw [HDV.out.2.1]; omega, by rw [HDV.out.2.1, HK.out, hs, HQ.out]; simp, HA2.out, HO2.out, HW.out⟩
      case measure =>
        have h1 := lenV_row hown1
        rw [h1, hlv]; omega
    · have HE : Hid (G = zs) := Lib.hid (by
        have hn0 : xs.length = 0 := by have := HN.out; omega
        have : val xs = 0 := by rw [List.eq_nil_of_length_eq_zero hn0]; rfl
        rw [HK.out, dgF_stop (by rw [HM.out, this]; omega)]; simp)
      obtain rfl : n = 0 := by omega
      have HOW : Hid (Ow wr w.heap.size wr.heap.size o zs) := Lib.hid ⟨by omega, fun z hz => by have := HD.out z (by rw [HE.out]; exact hz); omega, hown, fun k hk => (hown.lt k hk).2, Nat.le_refl _, hsz⟩
      clear hown
      go_wp2
      go_ret2
      exact ⟨_, rfl, by rw [HE.out]; exact HOW.out, HB.out⟩
theorem implDigitsOf (u : Value) (ps : List Int) (p : Int) (w : World) (hu : Rd w u ps) :
    Calls Try.prog 53 #[u, .int .i64 p] w fun e w' => ∃ r, e = .returned (.tuple #[r, .int .i64 (dgC ps p)]) ∧ Ow w' w.heap.size w'.heap.size r (dgV ps p) ∧ Below w.heap.size w w' := by
  have HU := Lib.hid hu
  clear hu
  rcases eq_or (natB ps) with hx | hx
  · have HX := Lib.hid hx
    have HR := Lib.hid (dg_bad (p := p) hx)
    clear hx
    go_enter Try.func53, Try.ntmps53
    go_wp2_with (go_at_call 68; refine (implNat _ ps _ HU.out).mono ?_; rintro e w' ⟨rfl, hb⟩; rw [HX.out]; have HB := Lib.hid hb; clear hb)
    go_ret2
    exact ⟨_, by rw [HR.out.2] <;> rfl, by rw [HR.out.1]; exact Ow.nilUp HB.out.size, HB.out⟩
  · have HX := Lib.hid hx
    by_cases hr : 2 ≤ p ∧ p ≤ 1000000
    · have HG := Lib.hid (dg_good hx hr)
      refine (implDgGood _ ps p w HU.out hx hr.1 hr.2).mono ?_
      rintro e w1 ⟨r, rfl, ho, hb⟩
      exact ⟨r, by rw [HG.out.2], by rw [HG.out.1]; exact ho, hb⟩
    · have HG := Lib.hid (dg_range hx hr)
      clear hx
      by_cases p0 : 2 ≤ p
      · have p1 : ¬ p ≤ 1000000 := fun h => hr ⟨p0, h⟩
        have p1b : decide (1000000 < p) = true := decide_eq_true (by omega)
        have p0b : decide (p < 2) = false := decide_eq_false (by omega)
        clear hr p1 p0
        go_enter Try.func53, Try.ntmps53
        go_wp2_with (go_at_call 68; refine (implNat _ ps _ HU.out).mono ?_; rintro e w' ⟨rfl, hb⟩; rw [HX.out]; have HB := Lib.hid hb; clear hb)
        go_ret2
        exact ⟨_, by rw [HG.out.2] <;> rfl, by rw [HG.out.1]; exact Ow.nilUp HB.out.size, HB.out⟩
      · have p0b : decide (p < 2) = true := decide_eq_true (by omega)
        clear hr p0
        go_enter Try.func53, Try.ntmps53
        go_wp2_with (go_at_call 68; refine (implNat _ ps _ HU.out).mono ?_; rintro e w' ⟨rfl, hb⟩; rw [HX.out]; have HB := Lib.hid hb; clear hb)
        go_ret2
        exact ⟨_, by rw [HG.out.2] <;> rfl, by rw [HG.out.1]; exact Ow.nilUp HB.out.size, HB.out⟩
end Go.Proofs.Ytmbppdebpjgjnaa.Ints
