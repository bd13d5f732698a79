/- Contracts of WordOf, of the model and of the program. -/
import Derived.Test.YtknlpoeolicinabVsub
import Derived.Test.YtknlpoeolicinabDg
import Derived.Test.YtknlpoeolicinabRev
import Derived.Test.YtknlpoeolicinabSmall
namespace Go.Proofs.Ytknlpoeolicinab.Ints
open Go.RowKit
set_option linter.unusedVariables false

/-- The letters of the word with a number, the last one first, with fuel. -/
def bjF (b : Int) : Nat → Int → List Int
  | 0, _ => []
  | f + 1, m => if 0 < m then ((m - 1) % b) :: bjF b f ((m - 1) / b) else []
theorem bjF_step {b m : Int} {f : Nat} (h : 0 < m) (hf : m ≤ f) : ∃ g, f = g + 1 ∧ bjF b f m = ((m - 1) % b) :: bjF b g ((m - 1) / b) := by
  cases f with
  | zero => simp at hf; omega
  | succ g => exact ⟨g, rfl, by simp [bjF, h]⟩
theorem bjF_stop {b m : Int} {f : Nat} (h : ¬ 0 < m) : bjF b f m = [] := by
  cases f with
  | zero => rfl
  | succ g => simp [bjF, h]
theorem bj_div {b m : Int} (h : 0 < m) (hb : 1 ≤ b) : 0 ≤ (m - 1) / b ∧ (m - 1) / b ≤ m - 1 ∧ 0 ≤ (m - 1) % b ∧ (m - 1) % b < b :=
  ⟨Int.ediv_nonneg (by omega) (by omega), Int.ediv_le_self _ (by omega), Int.emod_nonneg _ (by omega), Int.emod_lt_of_pos _ (by omega)⟩
theorem bjF_dig {b : Int} (hb : 1 ≤ b) (f : Nat) : ∀ m, ∀ z ∈ bjF b f m, 0 ≤ z ∧ z < b := by
  induction f with
  | zero => intro m z hz; simp [bjF] at hz
  | succ f ih =>
    intro m z hz
    rw [bjF] at hz
    by_cases h : 0 < m
    · rw [if_pos h] at hz
      rcases List.mem_cons.1 hz with hz | hz
      · subst hz; exact (bj_div h hb).2.2
      · exact ih _ z hz
    · rw [if_neg h] at hz; cases hz
theorem bjF_pow {b : Int} (hb : 2 ≤ b) (f : Nat) : ∀ m, 0 ≤ m → ((2 ^ (bjF b f m).length : Nat) : Int) ≤ m + 1 := by
  induction f with
  | zero => intro m hm; simp [bjF]; omega
  | succ f ih =>
    intro m hm
    rw [bjF]
    by_cases h : 0 < m
    · rw [if_pos h, List.length_cons, Nat.pow_succ]
      have h1 := ih ((m - 1) / b) (bj_div h (by omega)).1
      have h2 : 2 * ((m - 1) / b) ≤ m - 1 := by
        have h3 : b * ((m - 1) / b) ≤ m - 1 := Int.mul_ediv_self_le (by omega)
        have h4 : 2 * ((m - 1) / b) ≤ b * ((m - 1) / b) := Int.mul_le_mul_of_nonneg_right hb (bj_div h (by omega)).1
        omega
      push_cast
      push_cast at h1
      omega
    · rw [if_neg h]; simp; omega
theorem bjF_one (f : Nat) : ∀ m : Int, 0 ≤ m → m ≤ f → bjF 1 f m = List.replicate m.toNat 0 := by
  induction f with
  | zero => intro m h0 h1; have : m = 0 := by simp at h1; omega
            subst this; rfl
  | succ f ih =>
    intro m h0 h1
    rw [bjF]
    by_cases h : 0 < m
    · rw [if_pos h, Int.ediv_one, Int.emod_one, ih (m - 1) (by omega) (by push_cast at h1; omega)]
      obtain ⟨k, hk⟩ : ∃ k : Nat, m = k + 1 := ⟨(m - 1).toNat, by omega⟩
      subst hk
      rw [show ((k : Int) + 1).toNat = k + 1 by omega, show ((k : Int) + 1 - 1).toNat = k by omega, List.replicate_succ]
    · rw [if_neg h, show m.toNat = 0 by omega]; rfl
noncomputable def bjN (ps : List Int) (b : Int) : List Int := bjF b (val ps).toNat (val ps)
theorem bj_len {ps : List Int} (h : Can ps) (hl : ps.length ≤ 40) {b : Int} (hb : 2 ≤ b) : (bjN ps b).length ≤ 800 := by
  have h1 := bjF_pow hb (val ps).toNat (val ps) (val_nonneg h.1)
  have h2 := Pw_two ps.length
  have h3 := val_lt h.1
  have := pow_small (k := 20 * ps.length + 1) h1 (by rw [Nat.pow_succ]; push_cast at h2 ⊢; have := Pw_pos ps.length; omega)
  rw [bjN]
  omega
noncomputable def woB (ps : List Int) (b : Int) : Bool := natB ps && decide (1 ≤ b ∧ b ≤ 10)
noncomputable def woL (ps : List Int) (b : Int) : List Int := if woB ps b = true ∧ (bjN ps b).length ≤ 400 then (bjN ps b).reverse else []
noncomputable def woC (ps : List Int) (b : Int) : Int := if natB ps = false then 1 else if ¬ (1 ≤ b ∧ b ≤ 10) then 2 else if (bjN ps b).length ≤ 400 then 0 else 5
theorem wo_bad {ps : List Int} {b : Int} (h : natB ps = false) : woL ps b = [] ∧ woC ps b = 1 := by simp [woL, woB, woC, h]
theorem wo_range {ps : List Int} {b : Int} (h : natB ps = true) (k : ¬ (1 ≤ b ∧ b ≤ 10)) : woL ps b = [] ∧ woC ps b = 2 := by
  constructor
  · rw [woL, if_neg]; intro g; simp [woB, h] at g; exact k g.1
  · rw [woC, if_neg (by rw [h]; simp), if_pos k]
theorem wo_full {ps : List Int} {b : Int} (h : natB ps = true) (k : 1 ≤ b ∧ b ≤ 10) (hl : ¬ (bjN ps b).length ≤ 400) : woL ps b = [] ∧ woC ps b = 5 := by
  constructor
  · rw [woL, if_neg (fun g => hl g.2)]
  · rw [woC, if_neg (by rw [h]; simp), if_neg (fun g => g k), if_neg hl]
theorem wo_good {ps : List Int} {b : Int} (h : natB ps = true) (k : 1 ≤ b ∧ b ≤ 10) (hl : (bjN ps b).length ≤ 400) : woL ps b = (bjN ps b).reverse ∧ woC ps b = 0 := by
  constructor
  · rw [woL, if_pos ⟨by simp [woB, h, k], hl⟩]
  · rw [woC, if_neg (by rw [h]; simp), if_neg (fun g => g k), if_pos hl]
theorem small_val (zs : List Int) : small zs = val zs := by
  have h : ∀ k, k ≤ zs.length → accR zs k = val (zs.drop (zs.length - k)) := by
    intro k
    induction k with
    | zero => intro _; rw [Nat.sub_zero, List.drop_eq_nil_of_le (Nat.le_refl _)]; rfl
    | succ k ih =>
      intro hk
      have h1 := ih (by omega)
      have h2 := val_drop zs (zs.length - 1 - k) (by omega)
      rw [show zs.length - 1 - k + 1 = zs.length - k by omega] at h2
      rw [accR, h1, show zs.length - (k + 1) = zs.length - 1 - k by omega, h2]
      omega
  have := h zs.length (Nat.le_refl _)
  rwa [Nat.sub_self, List.drop_zero] at this
theorem bj_one {ps : List Int} (h : Can ps) : bjN ps 1 = List.replicate (val ps).toNat 0 := bjF_one _ _ (val_nonneg h.1) (by have := val_nonneg h.1; omega)
theorem ls_small {ps : List Int} (h : Can ps) (hv : val ps ≤ 400) : lsB ps = true ∧ lsV ps = val ps := by
  have hl : ps.length ≤ 3 := can_len h (by simp [Pw]; omega)
  constructor
  · rw [lsB, decide_eq_true_eq, small_val]; exact ⟨hl, by omega⟩
  · rw [lsV, if_pos hl, small_val]
theorem ls_big {ps : List Int} (hv : ¬ val ps ≤ 400) : lsB ps = false ∨ (lsB ps = true ∧ 400 < lsV ps) := by
  rcases eqOr (lsB ps) with h | h
  · exact .inl h
  · refine .inr ⟨h, ?_⟩
    rw [lsB, decide_eq_true_eq] at h
    rw [lsV, if_pos h.1, small_val]; omega
theorem rowMono {w : World} {B B' : Nat} {e : TypeId} {v : Value} {n : Nat} {xs : List Value} (h : w.ownsRow B e 1 v n xs) (hB : B' ≤ B) : w.ownsRow B' e 1 v n xs := by
  refine ⟨h.1, ?_⟩
  rcases h.2 with hn | ⟨g, cap, cur, rfl, hbb, rest⟩
  · exact .inl hn
  · exact .inr ⟨g, cap, cur, rfl, Nat.le_trans hB hbb, rest⟩
structure BjInv (G : List Int) (b : Int) (m : Int) (xs : List Int) : Prop where
  ex : ∃ f : Nat, m ≤ f ∧ G = xs ++ bjF b f m
  m0 : 0 ≤ m
theorem BjInv.step {G : List Int} {b m : Int} {xs : List Int} (h : BjInv G b m xs) (hm : 0 < m) (hb : 1 ≤ b) : BjInv G b ((m - 1) / b) (xs ++ [(m - 1) % b]) ∧ xs.length < G.length := by
  obtain ⟨f, hf, he⟩ := h.ex
  obtain ⟨g, hg, hs⟩ := bjF_step (b := b) hm hf
  have hd := bj_div hm hb
  refine ⟨⟨⟨g, by omega, by rw [he, hs]; simp⟩, hd.1⟩, ?_⟩
  rw [he, hs]; simp
theorem BjInv.done {G : List Int} {b m : Int} {xs : List Int} (h : BjInv G b m xs) (hm : ¬ 0 < m) : G = xs := by
  obtain ⟨f, hf, he⟩ := h.ex
  rw [he, bjF_stop hm, List.append_nil]
set_option maxRecDepth 100000 in
set_option maxHeartbeats 4000000 in
theorem specWordOf (u : Value) (ps : List Int) (b : Int) (w : World) (hu : Rd w u ps) :
    Calls Try.prog 27 #[u, .int .i64 b] w fun e w' => ∃ r, e = .returned (.tuple #[r, .int .i64 (woC ps b)]) ∧ Ow w' w.heap.size w'.heap.size r (woL ps b) ∧ Below w.heap.size w w' := by
  have HU := Lib.hid hu
  obtain ⟨_, _, a, c, rfl, _, _⟩ := hu
  rcases eqOr (natB ps) with hx | hx
  · have HX := Lib.hid hx
    have e := Lib.hid (wo_bad (b := b) hx)
    clear hx
    go_enter Try.func27, Try.ntmps27
    go_wp2_with (go_at_call 43; refine (specNat _ ps _ HU.out).mono ?_; rintro e2 w' ⟨rfl, rfl⟩; rw [HX.out])
    go_ret2
    exact ⟨_, by rw [e.out.2] <;> rfl, by rw [e.out.1]; exact Ow.empty w, Below.refl _ _⟩
  have HX := Lib.hid hx
  by_cases h1 : 1 ≤ b
  rotate_left
  · have e := Lib.hid (wo_range (b := b) hx (fun g => h1 g.1))
    have h1b : decide (1 ≤ b) = false := decide_eq_false h1
    clear hx
    go_enter Try.func27, Try.ntmps27
    go_wp2_with (first | (go_at_call 43; refine (specNat _ ps _ HU.out).mono ?_; rintro e2 w' ⟨rfl, rfl⟩; rw [HX.out]) | go_in)
    go_ret2
    exact ⟨_, by rw [e.out.2] <;> rfl, by rw [e.out.1]; exact Ow.empty w, Below.refl _ _⟩
  by_cases h2 : b ≤ 10
  rotate_left
  · have e := Lib.hid (wo_range (b := b) hx (fun g => h2 g.2))
    have h1b : decide (1 ≤ b) = true := decide_eq_true h1
    have h2b : decide (b ≤ 10) = false := decide_eq_false h2
    clear hx
    go_enter Try.func27, Try.ntmps27
    go_wp2_with (first | (go_at_call 43; refine (specNat _ ps _ HU.out).mono ?_; rintro e2 w' ⟨rfl, rfl⟩; rw [HX.out]) | go_in)
    go_ret2
    exact ⟨_, by rw [e.out.2] <;> rfl, by rw [e.out.1]; exact Ow.empty w, Below.refl _ _⟩
  have HP := Lib.hid (natB_can hx)
  have HC : Hid (Rd w (.slice a ps.length c) (canOf (val ps))) := Lib.hid (by rw [canOf_val HP.out.1]; exact HU.out)
  have HNN := Lib.hid (nn_of HP.out.1 HP.out.2)
  obtain ⟨i0, hi, hz0, hz1, hz2⟩ := info_parts infoE
  by_cases hb1 : b = 1
  · subst hb1
    have hg := bj_one HP.out.1
    by_cases hv : val ps ≤ 400
    · have hls := ls_small HP.out.1 hv
      have hvn := val_nonneg HP.out.1.1
      obtain ⟨n, hn⟩ : ∃ n : Nat, val ps = n := ⟨(val ps).toNat, by omega⟩
      have hlen : (bjN ps 1).length ≤ 400 := by rw [hg]; simp; omega
      have e := Lib.hid (wo_good hx ⟨h1, h2⟩ hlen)
      have HG : Hid ((bjN ps 1).reverse = List.replicate n 0) := Lib.hid (by rw [hg, hn]; simp)
      have HLS : Hid (lsB ps = true ∧ lsV ps = (n : Int)) := Lib.hid (by rw [← hn]; exact hls)
      have j1 : ¬ (400 : Int) < (n : Int) := by omega
      clear hx hv hls hvn hn hlen hg
      go_enter Try.func27, Try.ntmps27
      go_wp2_with fail
      refine (specNat _ ps _ HU.out).mono ?_
      rintro e2 w' ⟨rfl, rfl⟩
      rw [HX.out]
      go_wp2_with fail
      refine (specInT _ _ _ _ (by omega) (by omega)).mono ?_
      rintro e2 w' ⟨rfl, rfl⟩
      go_wp2_with fail
      refine (specSmallLoop _ ps _ HU.out HP.out.1.1).mono ?_
      rintro e2 w' ⟨rfl, rfl⟩
      rw [HLS.out.1, HLS.out.2]
      go_wp2_with (at_make; refine wpList_make_cap rfl _ _ rfl n n _ _ _ _ rfl rfl rfl rfl (Nat.le_refl _) (by omega) ?_)
      intro w1 hown hgrow
      have HB := Lib.hid ((Below.refl w.heap.size w).grown hgrow (Nat.le_refl _) (fun k h => by cases h))
      have HO : Hid (Ow w1 w.heap.size w1.heap.size (.slice (some ⟨w.heap.size, 0, none⟩) n n) (List.replicate n 0)) := Lib.hid ⟨by simp; omega, fun z hz => by have := (List.mem_replicate.1 hz).2; omega, by simpa using hown, fun k hk => (hown.lt k hk).2, Nat.le_refl _, HB.out.size⟩
      clear hown hgrow
      go_wp2
      go_ret2
      exact ⟨_, by rw [e.out.2] <;> rfl, by rw [e.out.1, HG.out]; exact HO.out, HB.out⟩
    · have hvn := val_nonneg HP.out.1.1
      have hlen : ¬ (bjN ps 1).length ≤ 400 := by rw [hg]; simp; omega
      have e := Lib.hid (wo_full hx ⟨h1, h2⟩ hlen)
      obtain ⟨q, hq⟩ : ∃ q, q = lsV ps := ⟨_, rfl⟩
      have HQ := Lib.hid hq
      rcases ls_big hv with hl | ⟨hl, hl2⟩
      · have HL := Lib.hid hl
        clear hx hv hvn hlen hg hl hq
        go_enter Try.func27, Try.ntmps27
        go_wp2_with fail
        refine (specNat _ ps _ HU.out).mono ?_
        rintro e2 w' ⟨rfl, rfl⟩
        rw [HX.out]
        go_wp2_with fail
        refine (specInT _ _ _ _ (by omega) (by omega)).mono ?_
        rintro e2 w' ⟨rfl, rfl⟩
        go_wp2_with fail
        refine (specSmallLoop _ ps _ HU.out HP.out.1.1).mono ?_
        rintro e2 w' ⟨rfl, rfl⟩
        rw [HL.out, ← HQ.out]
        go_wp2
        go_ret2
        exact ⟨_, by rw [e.out.2] <;> rfl, by rw [e.out.1]; exact Ow.empty w, Below.refl _ _⟩
      · have HL := Lib.hid hl
        rw [← hq] at hl2
        clear hx hv hvn hlen hg hl hq
        go_enter Try.func27, Try.ntmps27
        go_wp2_with fail
        refine (specNat _ ps _ HU.out).mono ?_
        rintro e2 w' ⟨rfl, rfl⟩
        rw [HX.out]
        go_wp2_with fail
        refine (specInT _ _ _ _ (by omega) (by omega)).mono ?_
        rintro e2 w' ⟨rfl, rfl⟩
        go_wp2_with fail
        refine (specSmallLoop _ ps _ HU.out HP.out.1.1).mono ?_
        rintro e2 w' ⟨rfl, rfl⟩
        rw [HL.out, ← HQ.out]
        go_wp2
        go_ret2
        exact ⟨_, by rw [e.out.2] <;> rfl, by rw [e.out.1]; exact Ow.empty w, Below.refl _ _⟩
  · have hbb : (b == 1) = false := by simp [hb1]
    have hb2 : 2 ≤ b := by omega
    obtain ⟨G, hG⟩ : ∃ G, G = bjN ps b := ⟨_, rfl⟩
    have hgl : G.length ≤ 800 := by rw [hG]; exact bj_len HP.out.1 HP.out.2 hb2
    have HGG := Lib.hid hG
    have HGD : Hid (∀ z ∈ G, 0 ≤ z ∧ z < b) := Lib.hid (fun z hz => by rw [hG] at hz; exact bjF_dig h1 _ _ z hz)
    have HI0 : Hid (BjInv G b (val ps) []) := Lib.hid ⟨⟨(val ps).toNat, by have := val_nonneg HP.out.1.1; omega, by rw [hG]; rfl⟩, val_nonneg HP.out.1.1⟩
    clear hG hb1
    go_enter Try.func27, Try.ntmps27
    go_wp2_with fail
    refine (specNat _ ps _ HU.out).mono ?_
    rintro e2 w' ⟨rfl, rfl⟩
    rw [HX.out]
    go_wp2_with fail
    refine (specInT _ _ _ _ (by omega) (by omega)).mono ?_
    rintro e2 w' ⟨rfl, rfl⟩
    have HB1 := Lib.hid ((Below.refl w.heap.size w).alloc (Nat.le_refl _) (Obj.cells #[] 2))
    have HC1 := Lib.hid (HC.out.below HB1.out (Nat.le_refl _))
    go_wp2
    go_loopw [8, 9] (fun o n wr => ∃ (m : Int) (xs : List Int) (ov nv : Value), o = ov ∧ n = nv ∧ BjInv G b m xs ∧ Nn 40 m ∧ Rd wr nv (canOf m) ∧ Ow wr w.heap.size wr.heap.size ov xs.reverse ∧ Below w.heap.size w wr) (fun o _ _ => G.length + 1 - lenV o)
    case atStart => exact ⟨val ps, [], _, _, rfl, rfl, HI0.out, HNN.out, HC1.out, Ow.made w, HB1.out⟩
    case round =>
      obtain ⟨m, xs, ov, nv, hov, hnv, hinv, hnn, hrd, hown, hbel⟩ := hrel
      obtain rfl := hov.symm
      obtain rfl := hnv.symm
      have HI := Lib.hid hinv
      have HN := Lib.hid hnn
      have HR := Lib.hid hrd
      have HOV := Lib.hid hown
      have HW := Lib.hid hbel
      have hm0 := hinv.m0
      obtain ⟨av, cv, hav⟩ : ∃ a c, nv = .slice a (canOf m).length c := by obtain ⟨_, _, a, c, e, _⟩ := hrd; exact ⟨a, c, e⟩
      obtain ⟨L, hL⟩ : ∃ L, L = (canOf m).length := ⟨_, rfl⟩
      rw [← hL] at hav
      obtain rfl := hav
      by_cases hm : 0 < m
      · have hLp : (0 : Int) < (L : Int) := by
          have h3 := hnn.can
          rcases Nat.eq_zero_or_pos L with h | h
          · have h4 : canOf m = [] := List.eq_nil_of_length_eq_zero (by omega)
            have h5 := h3.2.1
            rw [h4] at h5
            simp [val] at h5
            omega
          · omega
        have hst := hinv.step hm h1
        have HS := Lib.hid hst
        have HM := Lib.hid hm
        obtain ⟨q, hq⟩ : ∃ q, q = (m - 1) % b := ⟨_, rfl⟩
        have HQ := Lib.hid hq
        have hqb : 0 ≤ q ∧ q < b := by rw [hq]; exact (bj_div hm h1).2.2
        have hxl := hst.2
        have hone := Rd.one wr 1 (by omega)
        rw [← one_can] at hone
        have hbo : Below wr.heap.size wr (wr.alloc (.cells #[.int .i64 1] 2)) := (Below.refl _ _).alloc (Nat.le_refl _) _
        have HONE := Lib.hid hone
        have HR1 := Lib.hid (hrd.below hbo (Nat.le_refl _))
        have HO1 := Lib.hid ((hown.below hbo (Nat.le_refl _)).up)
        have HW1 := Lib.hid (hbel.trans (hbo.mono hbel.size))
        clear hinv hnn hrd hown hbel hL hst hq hone hbo
        go_wp2_with fail
        refine (sSub _ _ m 1 40 _ HR1.out HONE.out HN.out ((nn_small (a := 1) (by omega) (by omega)).up (by omega)) (by omega) (by omega)).mono ?_
        rintro e2 w1 ⟨r1, rfl, ho, hb⟩
        have X1 := Lib.hid ho
        have HO2 := Lib.hid ((HO1.out.below hb (Nat.le_refl _)).up)
        have HW2 := Lib.hid (HW1.out.trans (hb.mono HW1.out.size))
        clear ho hb
        have NM1 : Hid (Nn 40 (m - 1)) := Lib.hid ⟨by omega, by have := HN.out.lt; omega⟩
        go_wp2_with fail
        refine (sBy _ (m - 1) b 40 _ X1.out.rd NM1.out (by omega) h1 (by omega)).mono ?_
        rintro e2 w2 ⟨r2, rfl, ho, hb⟩
        rw [← HQ.out]
        have X2 := Lib.hid ho
        have HO3 := Lib.hid ((HO2.out.below hb (Nat.le_refl _)).up)
        have HW3 := Lib.hid (HW2.out.trans (hb.mono HW2.out.size))
        clear ho hb
        have hbq : Below w2.heap.size w2 (w2.alloc (.cells #[.int .i64 q] 2)) := (Below.refl _ _).alloc (Nat.le_refl _) _
        have hlit : (w2.alloc (.cells #[.int .i64 q] 2)).ownsRow w2.heap.size 2 1 (.slice (some ⟨w2.heap.size, 0, none⟩) 1 1) [q].length ([q].map (Value.int .i64)) := World.ownsRow_lit w2 #[.int .i64 q] 1 (Nat.le_refl _) (by unfold maxLen; omega) (by simp)
        obtain ⟨R, hR⟩ : ∃ R, R = xs.reverse := ⟨_, rfl⟩
        have hRl : R.length = xs.length := by rw [hR]; simp
        rw [← hR] at HO3
        have HO4 := Lib.hid (HO3.out.rd.below hbq (Nat.le_refl _))
        have X3 := Lib.hid ((X2.out.below hbq (Nat.le_refl _)).up)
        have HRR := Lib.hid hR
        clear hR
        go_wp2_with (at_builtin; refine wpList_append_rd rfl _ _ rfl w2.heap.size _ _ [q] R rfl hlit rfl HO4.out (by simp; omega) (by simp) ?_)
        intro v' w3 hown3 hgrow3
        have hb3 : Below w2.heap.size (w2.alloc (.cells #[.int .i64 q] 2)) w3 := (Below.refl _ _).grown hgrow3 (by simp) (fun k hk => (hlit.lt k hk).1)
        have HW4 := Lib.hid (HW3.out.trans (((hbq.trans hb3)).mono HW3.out.size))
        have HO5 : Hid (Ow w3 w.heap.size w3.heap.size v' (xs ++ [q]).reverse) := Lib.hid ⟨by simp; omega, fun z hz => by
          rw [List.reverse_append, List.mem_append] at hz
          rcases hz with hz | hz
          · simp at hz; omega
          · rw [← HRR.out] at hz; exact HO3.out.fit z hz, by
            have : (xs ++ [q]).reverse = [q] ++ R := by rw [HRR.out]; simp
            rw [this, List.length_append, hRl]
            exact rowMono (by simpa using hown3) HW3.out.size, fun k hk => (hown3.lt k hk).2, Nat.le_refl _, HW4.out.size⟩
        have hlv : lenV v' = xs.length + 1 := by have := lenV_row hown3; omega
        have hlo : lenV ov = xs.length := by have := lenV_row HOV.out.row; rw [this]; simp
        have HX3 := Lib.hid (X2.out.rd.below (hbq.trans hb3) (Nat.le_refl _))
        have HBI : Hid (BjInv G b ((m - 1) / b) (xs ++ [q])) := Lib.hid (by rw [HQ.out]; exact HS.out.1)
        clear hown3 hgrow3 hb3 hlit hbq
        go_wp2
        go_roundw
        case rel => exact ⟨(m - 1) / b, xs ++ [q], v', _, rfl, rfl, HBI.out, NM1.out.div h1, HX3.out, HO5.out, HW4.out⟩
        case measure => rw [hlv, hlo]; omega
      · have hm00 : m = 0 := by omega
        have HE := Lib.hid (hinv.done hm)
        have hL0 : L = 0 := by rw [hL, hm00, zero_can]; rfl
        have hLp : ¬ (0 : Int) < (L : Int) := by omega
        obtain ⟨ga, gc, hg⟩ := hown.shape
        have hrl : xs.reverse.length = xs.length := by simp
        rw [hrl] at hg
        clear hinv hnn hrd hown hbel hL hm hm00 hL0 HR HN HI
        subst hg
        by_cases hlen : xs.length ≤ 400
        · have e := Lib.hid (wo_good hx ⟨h1, h2⟩ (by rw [← HGG.out, HE.out]; exact hlen))
          have HF : Hid ((bjN ps b).reverse = xs.reverse) := Lib.hid (by rw [← HGG.out, HE.out])
          have j1 : ¬ (400 : Int) < (xs.length : Int) := by omega
          clear hlen hx
          go_wp2
          go_ret2
          exact ⟨_, by rw [e.out.2] <;> rfl, by rw [e.out.1, HF.out]; exact HOV.out, HW.out⟩
        · have e := Lib.hid (wo_full hx ⟨h1, h2⟩ (by rw [← HGG.out, HE.out]; exact hlen))
          have j1 : (400 : Int) < (xs.length : Int) := by omega
          clear hlen hx
          go_wp2
          go_ret2
          exact ⟨_, by rw [e.out.2] <;> rfl, by rw [e.out.1]; exact Ow.emptyUp HW.out.size, HW.out⟩
set_option maxRecDepth 100000 in
set_option maxHeartbeats 4000000 in
theorem implWordOf (u : Value) (ps : List Int) (b : Int) (w : World) (hu : Rd w u ps) :
    Calls Try.prog 28 #[u, .int .i64 b] w fun e w' => ∃ r, e = .returned (.tuple #[r, .int .i64 (woC ps b)]) ∧ Ow w' w.heap.size w'.heap.size r (woL ps b) ∧ Below w.heap.size w w' := by
  have HU := Lib.hid hu
  obtain ⟨_, _, a, c, rfl, _, _⟩ := hu
  rcases eqOr (natB ps) with hx | hx
  · have HX := Lib.hid hx
    have e := Lib.hid (wo_bad (b := b) hx)
    clear hx
    go_enter Try.func28, Try.ntmps28
    go_wp2_with (go_at_call 51; refine (implNat _ ps _ HU.out).mono ?_; rintro e2 w' ⟨rfl, hb⟩; rw [HX.out]; have HB := Lib.hid hb; clear hb)
    go_ret2
    exact ⟨_, by rw [e.out.2] <;> rfl, by rw [e.out.1]; exact Ow.emptyUp HB.out.size, HB.out⟩
  have HX := Lib.hid hx
  by_cases h1 : 1 ≤ b
  rotate_left
  · have e := Lib.hid (wo_range (b := b) hx (fun g => h1 g.1))
    have h1b : decide (1 ≤ b) = false := decide_eq_false h1
    clear hx
    go_enter Try.func28, Try.ntmps28
    go_wp2_with (first | (go_at_call 51; refine (implNat _ ps _ HU.out).mono ?_; rintro e2 w' ⟨rfl, hb⟩; rw [HX.out]; have HB := Lib.hid hb; clear hb) | go_in)
    go_ret2
    exact ⟨_, by rw [e.out.2] <;> rfl, by rw [e.out.1]; exact Ow.emptyUp HB.out.size, HB.out⟩
  by_cases h2 : b ≤ 10
  rotate_left
  · have e := Lib.hid (wo_range (b := b) hx (fun g => h2 g.2))
    have h1b : decide (1 ≤ b) = true := decide_eq_true h1
    have h2b : decide (b ≤ 10) = false := decide_eq_false h2
    clear hx
    go_enter Try.func28, Try.ntmps28
    go_wp2_with (first | (go_at_call 51; refine (implNat _ ps _ HU.out).mono ?_; rintro e2 w' ⟨rfl, hb⟩; rw [HX.out]; have HB := Lib.hid hb; clear hb) | go_in)
    go_ret2
    exact ⟨_, by rw [e.out.2] <;> rfl, by rw [e.out.1]; exact Ow.emptyUp HB.out.size, HB.out⟩
  have HP := Lib.hid (natB_can hx)
  have HC : Hid (Rd w (.slice a ps.length c) (canOf (val ps))) := Lib.hid (by rw [canOf_val HP.out.1]; exact HU.out)
  have HNN := Lib.hid (nn_of HP.out.1 HP.out.2)
  obtain ⟨i0, hi, hz0, hz1, hz2⟩ := info_parts infoE
  obtain ⟨G, hG⟩ : ∃ G, G = bjN ps b := ⟨_, rfl⟩
  have HGG := Lib.hid hG
  have HI0 : Hid (BjInv G b (val ps) []) := Lib.hid ⟨⟨(val ps).toNat, by have := val_nonneg HP.out.1.1; omega, by rw [hG]; rfl⟩, val_nonneg HP.out.1.1⟩
  have HHX := Lib.hid hx
  clear hG hx
  go_enter Try.func28, Try.ntmps28
  go_wp2_with fail
  refine (implNat _ ps _ HU.out).mono ?_
  rintro e2 w0 ⟨rfl, hb⟩
  rw [HX.out]
  have HB0 := Lib.hid hb
  have HC0 := Lib.hid (HC.out.below hb (Nat.le_refl _))
  clear hb
  go_wp2_with fail
  refine (alphaT _ _ h1 h2).mono ?_
  rintro e2 w' ⟨rfl, rfl⟩
  have HA0 : Hid (Apt (.slice a ps.length c) (.slice none 0 0) (canOf (val ps))) := Lib.hid (fun hne a n c e => by simp [Value.ownBlock])
  go_wp2
  go_loopw [0, 6] (fun n o wr => ∃ (m : Int) (xs : List Int) (nv ov : Value), n = nv ∧ o = ov ∧ BjInv G b m xs ∧ Nn 40 m ∧ Rd wr nv (canOf m) ∧ Apt nv ov (canOf m) ∧ xs.length ≤ 400 ∧ Ow wr w.heap.size wr.heap.size ov xs ∧ Below w.heap.size w wr) (fun _ o _ => G.length + 1 - lenV o)
  case atStart => exact ⟨val ps, [], _, _, rfl, rfl, HI0.out, HNN.out, HC0.out, HA0.out, by simp, Ow.emptyUp HB0.out.size, HB0.out⟩
  case round =>
    obtain ⟨m, xs, nv, ov, hnv, hov, hinv, hnn, hrd, hapt, hxl, hown, hbel⟩ := hrel
    obtain rfl := hov.symm
    obtain rfl := hnv.symm
    have HN := Lib.hid hnn
    have HR := Lib.hid hrd
    have HOV := Lib.hid hown
    have HW := Lib.hid hbel
    have hm0 := hinv.m0
    obtain ⟨av, cv, hav⟩ : ∃ a c, nv = .slice a (canOf m).length c := by obtain ⟨_, _, a, c, e, _⟩ := hrd; exact ⟨a, c, e⟩
    obtain ⟨L, hL⟩ : ∃ L, L = (canOf m).length := ⟨_, rfl⟩
    rw [← hL] at hav
    obtain rfl := hav
    obtain ⟨ga, gc, hg⟩ := hown.shape
    have HG := Lib.hid hg
    by_cases hm : 0 < m
    · have hLp : (0 : Int) < (L : Int) := by
        have h3 := hnn.can
        rcases Nat.eq_zero_or_pos L with h | h
        · have h4 : canOf m = [] := List.eq_nil_of_length_eq_zero (by omega)
          have h5 := h3.2.1
          rw [h4] at h5
          simp [val] at h5
          omega
        · omega
      have hst := hinv.step hm h1
      by_cases hfull : xs.length = 400
      · have e := Lib.hid (wo_full HHX.out ⟨h1, h2⟩ (by rw [← HGG.out]; have := hst.2; omega))
        have hb1 : ((xs.length : Int) == 400) = true := by simp [hfull]
        clear hinv hnn hrd hapt hown hbel hL hst hfull hm HR HN
        subst hg
        go_wp2
        go_ret2
        exact ⟨_, by rw [e.out.2] <;> rfl, by rw [e.out.1]; exact Ow.emptyUp HW.out.size, HW.out⟩
      have hb1 : ((xs.length : Int) == 400) = false := by simp; omega
      have HS := Lib.hid hst
      obtain ⟨q, hq⟩ : ∃ q, q = (m - 1) % b := ⟨_, rfl⟩
      have HQ := Lib.hid hq
      have hqb : 0 ≤ q ∧ q < b := by rw [hq]; exact (bj_div hm h1).2.2
      have hgx := hst.2
      have hlo : lenV ov = xs.length := lenV_row HOV.out.row
      subst hg
      clear hinv hnn hrd hapt hown hbel hL hst hq HG
      go_wp2_with fail
      refine (iLess _ m 40 _ HR.out HN.out (by omega) (by omega) (by omega)).mono ?_
      rintro e2 w1 ⟨r1, rfl, ho, hb⟩
      have X1 := Lib.hid ho
      have HO2 := Lib.hid ((HOV.out.below hb (Nat.le_refl _)).up)
      have HW2 := Lib.hid (HW.out.trans (hb.mono HW.out.size))
      clear ho hb
      have NM1 : Hid (Nn 40 (m - 1)) := Lib.hid ⟨by omega, by have := HN.out.lt; omega⟩
      go_wp2_with fail
      refine (iBy _ (m - 1) b 40 _ X1.out.rd NM1.out (by omega) h1 (by omega)).mono ?_
      rintro e2 w2 ⟨r2, rfl, ho, hb⟩
      rw [← HQ.out]
      have X2 := Lib.hid ho
      have HA1 : Hid (Apt r2 (.slice ga xs.length gc) (canOf ((m - 1) / b))) := Lib.hid (fun hne a n c e => by
        intro h2
        have h4 := (HO2.out.row.lt _ h2).2
        have h3 := ho.row_low hne a n c e
        omega)
      have HO3 := Lib.hid ((HO2.out.below hb (Nat.le_refl _)).up)
      have HW3 := Lib.hid (HW2.out.trans (hb.mono HW2.out.size))
      have hrow := HO3.out.row.alloc (Obj.cells #[Value.int IntKind.i64 q] 2)
      have hsz := HW3.out.size
      clear ho hb
      go_wp2_with (at_builtin; refine wpList_append_own_at _ rfl _ _ 22 rfl w.heap.size 2 i0 (.int .i64 0) 1 8 Try.underlying22 hi hz0 hz1 hz2 rfl (by decide) _ _ _ rfl hrow ⟨_, 0, none⟩ 1 1 [.int .i64 q] rfl rfl ?c1 ?c2 ?c3 ?c4 ?c5 ?_)
      case c1 => exact cellNew _ _ _
      case c2 => first | exact oneCell _ | rfl
      case c3 => unfold maxLen; omega
      case c4 => omega
      case c5 => first | omega | (simp; omega)
      intro v' w3 hown3 hgrow _ hv'
      obtain ⟨ho, hb⟩ := HO3.out.snoc (by omega) (by omega) hown3 hgrow
      have HO4 := Lib.hid ho
      have HW4 := Lib.hid (HW3.out.trans hb)
      have HR2 : Hid (Rd w3 r2 (canOf ((m - 1) / b))) := Lib.hid (X2.out.rd.grown (grown_trans (World.grownBy_alloc w2 _ _) hgrow) HA1.out)
      have HA2 : Hid (Apt r2 v' (canOf ((m - 1) / b))) := Lib.hid (fun hne a n c e => by
        rcases hv' with hv' | hv'
        · rw [hv']; exact HA1.out hne a n c e
        · rw [hv']
          have := X2.out.rd.below_top hne a n c e
          simp; omega)
      have hlv : lenV v' = xs.length + 1 := lenV_row hown3
      have HBI : Hid (BjInv G b ((m - 1) / b) (xs ++ [q])) := Lib.hid (by rw [HQ.out]; exact HS.out.1)
      clear hown3 hgrow ho hb hrow hv'
      go_wp2
      go_roundw
      case rel => exact ⟨(m - 1) / b, xs ++ [q], _, v', rfl, rfl, HBI.out, NM1.out.div h1, HR2.out, HA2.out, by simp; omega, HO4.out, HW4.out⟩
      case measure => rw [hlv, hlo]; omega
    · have hm00 : m = 0 := by omega
      have HE := Lib.hid (hinv.done hm)
      have hL0 : L = 0 := by rw [hL, hm00, zero_can]; rfl
      have hLp : ¬ (0 : Int) < (L : Int) := by omega
      have e := Lib.hid (wo_good HHX.out ⟨h1, h2⟩ (by rw [← HGG.out, HE.out]; exact hxl))
      have HF : Hid ((bjN ps b).reverse = xs.reverse) := Lib.hid (by rw [← HGG.out, HE.out])
      clear hinv hnn hrd hapt hown hbel hL hm hm00 hL0 HR HN HG hg
      go_wp2_with (go_at_call 64; refine (libReverse _ xs _ _ _ HOV.out).mono ?_; rintro e2 w2 ⟨rfl, ho, hg⟩; have HB2 := Lib.hid (HW.out.trans hg); have HO2 := Lib.hid ho; clear ho hg)
      go_ret2
      exact ⟨_, by rw [e.out.2] <;> rfl, by rw [e.out.1, HF.out]; exact HO2.out.up, HB2.out⟩
end Go.Proofs.Ytknlpoeolicinab.Ints
