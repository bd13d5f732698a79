/- Long division, of the program. -/
import Derived.Test.YtcpipakpkmfhlaaBackV
import Derived.Test.YtcpipakpkmfhlaaDvV
import Derived.Test.YtcpipakpkmfhlaaTakA
import Derived.Test.YtcpipakpkmfhlaaDivBy
import Derived.Test.YtcpipakpkmfhlaaVcalc
import Derived.Test.YtcpipakpkmfhlaaCel
import Derived.Test.YtcpipakpkmfhlaaDg
import Derived.Test.YtcpipakpkmfhlaaRrd
namespace Go.Proofs.Ytcpipakpkmfhlaa.Ints
open Go.RowKit Go.Shelf
set_option linter.unusedVariables false
set_option linter.unusedSimpArgs false
attribute [local go_sem] Oper.semAt_some
attribute [local go_sem, local simp] wide_fn
theorem can_lt_len {ps qs : List Int} (hp : Can ps) (hq : Can qs) (h : ps.length < qs.length) : val ps < val qs := by
  have h1 := val_lt hp.1
  have h2 := can_ge hq (by omega)
  have h3 := Pw_mono (a := ps.length) (b := qs.length - 1) (by omega)
  omega
theorem canOf_zero : canOf 0 = [] := canOf_eq can_nil rfl
theorem limbs_canOf {n : Int} (h : 0 ≤ n) : limbs n = canOf n := (canOf_eq (limbs_can h).1 (limbs_can h).2).symm
/-- What lies in memory while it is divided. -/
structure DvM (H0 B8 B9 g c G N L : Nat) (bv : Value) (w : World) (Z Y : List Int) (W : World) : Prop where
  b : Boxed W H0 24 bv
  r : Boxed W B8 24 (.slice (some ⟨g, 0, none⟩) L c)
  q : Boxed W B9 24 (.slice (some ⟨G, 0, none⟩) N N)
  zb : Blk W g c Z
  yb : Blk W G N Y
  be : Below w.heap.size w W
  sz : B9 + 1 < W.heap.size
theorem DvM.grown {H0 B8 B9 g c G N L : Nat} {bv : Value} {w : World} {Z Y : List Int} {W W' : World} (h : DvM H0 B8 B9 g c G N L bv w Z Y W) {row : Option Nat} (hg : W.grownBy W' row)
    (hr : ∀ k, row = some k → w.heap.size ≤ k ∧ k ≠ H0 ∧ k ≠ B8 ∧ k ≠ B9 ∧ k ≠ g ∧ k ≠ G) : DvM H0 B8 B9 g c G N L bv w Z Y W' :=
  ⟨h.b.kept hg (fun e => (hr _ e.symm).2.1 rfl), h.r.kept hg (fun e => (hr _ e.symm).2.2.1 rfl), h.q.kept hg (fun e => (hr _ e.symm).2.2.2.1 rfl), h.zb.grown hg (fun e => (hr _ e).2.2.2.2.1 rfl), h.yb.grown hg (fun e => (hr _ e).2.2.2.2.2 rfl),
   h.be.grown hg h.be.size (fun k e => (hr k e).1), Nat.lt_of_lt_of_le h.sz hg.size⟩
theorem DvM.took {H0 B8 B9 g c G N L : Nat} {bv : Value} {w : World} {Z Z2 T Y : List Int} {o n : Nat} {q : Int} {W W2 : World} (h : DvM H0 B8 B9 g c G N L bv w Z Y W) (ht : TakeP Z T o n g c W.drew W2 Z2 q)
    (hne : w.heap.size ≤ g ∧ g ≠ H0 ∧ g ≠ B8 ∧ g ≠ B9 ∧ g ≠ G) : DvM H0 B8 B9 g c G N L bv w Z2 Y W2 :=
  have hg : W.grownBy W2 (some g) := ⟨ht.grown.1, ht.grown.2, ht.grown.3, ht.grown.4, ht.grown.5⟩
  ⟨h.b.kept hg (fun e => by cases e; exact hne.2.1 rfl), h.r.kept hg (fun e => by cases e; exact hne.2.2.1 rfl), h.q.kept hg (fun e => by cases e; exact hne.2.2.2.1 rfl), ht.blk, h.yb.grown hg (fun e => by cases e; exact hne.2.2.2.2 rfl),
   h.be.grown hg h.be.size (fun k e => by cases e; exact hne.1), Nat.lt_of_lt_of_le h.sz hg.size⟩
theorem DvM.put {H0 B8 B9 g c G N L : Nat} {bv : Value} {w : World} {Z Y : List Int} {W : World} (h : DvM H0 B8 B9 g c G N L bv w Z Y W) (i : Nat) (hi : i < Y.length) (q : Int)
    (hne : w.heap.size ≤ G ∧ G ≠ H0 ∧ G ≠ B8 ∧ G ≠ B9 ∧ G ≠ g) : DvM H0 B8 B9 g c G N L bv w Z (Y.set i q) (W.setCell ⟨G, i, none⟩ (.int .i64 q)) :=
  have hg := (h.yb.set i hi q).2
  ⟨h.b.kept hg (fun e => by cases e; exact hne.2.1 rfl), h.r.kept hg (fun e => by cases e; exact hne.2.2.1 rfl), h.q.kept hg (fun e => by cases e; exact hne.2.2.2.1 rfl), h.zb.grown hg (fun e => by cases e; exact hne.2.2.2.2 rfl), (h.yb.set i hi q).1,
   h.be.grown hg h.be.size (fun k e => by cases e; exact hne.1), Nat.lt_of_lt_of_le h.sz hg.size⟩
theorem DvM.kbv {H0 B8 B9 g c G N L Bs : Nat} {bv : Value} {w : World} {Z Y : List Int} {W W' : World} {row : Option Nat} (hg : W.grownBy W' row) (hr : ∀ k, row = some k → w.heap.size ≤ k ∧ k ≠ Bs) (hB : Bs < W.heap.size)
    (h' : DvM H0 B8 B9 g c G N L bv w Z Y W') (hY : Y.length = N) (hW : w.heap.size ≤ W.heap.size) : KBV w.heap.size Bs G N W W' :=
  ⟨⟨(Below.refl w.heap.size W).grown hg hW (fun k e => (hr k e).1), hg.block Bs hB (fun e => (hr _ e.symm).2 rfl)⟩, fun _ j hj => ⟨_, h'.yb.cell j (by rw [hY]; exact hj)⟩⟩
structure DvT (ps qs : List Int) (N : Nat) (pre : List (AtV N)) (Z Y : List Int) : Prop where
  zl : Z.length = ps.length + 1
  zd : Dig 1000000 Z
  yl : Y.length = N
  st : ∀ m, m ≤ N → DnV N m pre → DvI ps qs Z Y N m
def DvJ (H0 B8 B9 g c G N : Nat) (bv : Value) (ps qs : List Int) (w : World) (pre : List (AtV N)) (W : World) : Prop :=
  ∃ Z Y, DvT ps qs N pre Z Y ∧ DvM H0 B8 B9 g c G N (ps.length + 1) bv w Z Y W
theorem dvJ_own {H0 B8 B9 g c G N B : Nat} {bv : Value} {ps qs : List Int} {w : World} (h1 : H0 < B) (h2 : B8 < B) (h3 : B9 < B) (h4 : g < B) (h5 : G < B) (h6 : w.heap.size ≤ B) : OwnFrom B (DvJ H0 B8 B9 g c G N bv ps qs w) :=
  fun s W W' row hs hg hr => by
    obtain ⟨Z, Y, ht, hm⟩ := hs
    exact ⟨Z, Y, ht, hm.grown hg (fun k e => by have := (hr k e).1; omega)⟩
theorem DnV.inv {N m : Nat} {pre : List (AtV N)} {x : AtV N} (hm : m ≤ N) (h : DnV N m (pre ++ [x])) : m < N ∧ DnV N (m + 1) pre ∧ x.1.1 = m := by
  have hl := h.length
  rw [List.length_append] at hl
  simp only [List.length_cons, List.length_nil] at hl
  have hlt : m < N := by omega
  unfold DnV at h ⊢
  have e : N - m = (N - (m + 1)) + 1 := by omega
  have e2 : N - 1 - (N - (m + 1)) = m := by omega
  rw [e, dnI, List.map_append, e2] at h
  have hi := List.append_inj' h rfl
  exact ⟨hlt, hi.1, by simpa using hi.2⟩
theorem DvT.step {ps qs Z Z2 Y : List Int} {N g K : Nat} {pre : List (AtV N)} {x : AtV N} {w w' : World} {q : Int} (h : DvT ps qs N pre Z Y) (hq : Can qs) (hl : 2 ≤ qs.length) (hn : N + qs.length = ps.length + 1)
    (ht : TakeP Z qs x.1.1 (qs.length + 1) g K w w' Z2 q) : DvT ps qs N (pre ++ [x]) Z2 (Y.set x.1.1 q) := by
  refine ⟨by rw [ht.len, h.zl], ht.digs h.zd, by rw [List.length_set, h.yl], fun m hm hd => ?_⟩
  obtain ⟨hlt, hd1, hx⟩ := hd.inv hm
  have hst := h.st (m + 1) (by omega) hd1
  obtain ⟨x1, hx1⟩ : ∃ x1, x1 = x.1.1 := ⟨_, rfl⟩
  rw [← hx1] at ht hx ⊢
  subst hx
  have hw := (hst.win hq hl hn hlt).1
  rw [ht.quo hw]
  exact hst.step hq hl hn hlt (ht.post hw)
set_option maxRecDepth 100000 in
set_option maxHeartbeats 4000000 in
theorem implDvA (u v : Value) (ps qs : List Int) (w : World) (hu : Rd w u ps) (hv : Rd w v qs) (hp : Can ps) (hq : Can qs) (hla : ps.length ≤ 1000) (h1 : qs.length = 1) :
    Calls Try.prog 57 #[u, v] w fun e w' => ∃ r0 r1, e = .returned (.tuple #[r0, r1]) ∧ Ow w' w.heap.size w'.heap.size r0 (canOf (val ps / val qs)) ∧ Ow w' w.heap.size w'.heap.size r1 (canOf (val ps % val qs)) ∧ Sep r0 r1 ∧ Below w.heap.size w w' := by
  obtain ⟨y, rfl⟩ : ∃ y, qs = [y] := by
    cases qs with
    | nil => simp at h1
    | cons y t => cases t with
      | nil => exact ⟨y, rfl⟩
      | cons z t => simp at h1
  have hy := hq.1 0 (by simp)
  have hy1 := val_pos hq (by simp)
  have hvv : val [y] = y := by simp [val]
  rw [hvv] at hy1 ⊢
  simp only [List.getD_cons_zero] at hy
  have hb0 : Below w.heap.size w (w.alloc (.cells #[v] 24)) := (Below.refl _ _).alloc (Nat.le_refl _) _
  have HB0 := Lib.hid hb0
  have HU := Lib.hid (hu.below hb0 (Nat.le_refl _))
  have HP := Lib.hid hp
  obtain ⟨hl, hf, a, c, rfl, hcap, hr⟩ := hv
  obtain ⟨bb, o, rfl, hbb, hcell⟩ := hr (by simp)
  have hc0 : (w.alloc (.cells #[.slice (some ⟨bb, o, none⟩) 1 c] 24)).cell? ⟨bb, o, none⟩ = some (.int .i64 y) := by
    have := hcell 0 (by simp)
    simp only [Nat.add_zero, List.getD_cons_zero] at this
    exact (hb0.cell (p := ⟨bb, o, none⟩) hbb).trans this
  simp only [List.length_singleton] at hb0 HU hc0 HB0 hcap ⊢
  clear hcell hr hp hu hb0 hf hl
  go_enter Try.func57, Try.ntmps57
  go_wp2_with fail
  refine (implBy _ ps y _ HU.out HP.out.1 hla (by omega) (by omega)).mono ?_
  rintro e w1 ⟨r, rfl, ho, hb⟩
  have HB1 := Lib.hid (HB0.out.trans (hb.mono HB0.out.size))
  have HO := Lib.hid (ho.mono HB0.out.size (Nat.le_refl _) (Nat.le_refl _))
  have hm0 : 0 ≤ val ps % y := Int.emod_nonneg _ (by omega)
  have hm1 : val ps % y < y := Int.emod_lt_of_pos _ (by omega)
  clear ho hb
  go_wp2_with fail
  refine (implLimbs (val ps % y) _ hm0 (by omega)).mono ?_
  rintro e w2 ⟨r2, rfl, ho2, hb2⟩
  rw [limbs_canOf hm0] at ho2
  have HO2 := Lib.hid (ho2.mono HB1.out.size (Nat.le_refl _) (Nat.le_refl _))
  have HO1 := Lib.hid ((HO.out.below hb2 (Nat.le_refl _)).up)
  have HB2 := Lib.hid (HB1.out.trans (hb2.mono HB1.out.size))
  have HSep : Hid (Sep r r2) := Lib.hid (sep_of (T := w1.heap.size) (B := w1.heap.size) (s := w2.heap.size) HO.out.top (fun k hk => ⟨(ho2.row.lt k hk).1, ho2.top k hk⟩) (Nat.le_refl _))
  clear ho2 hb2
  go_wp2
  go_ret2
  exact ⟨_, _, rfl, HO1.out, HO2.out, HSep.out, HB2.out⟩
set_option maxRecDepth 100000 in
set_option maxHeartbeats 4000000 in
theorem implDvB (u v : Value) (ps qs : List Int) (w : World) (hu : Rd w u ps) (hv : Rd w v qs) (hp : Can ps) (hq : Can qs) (h1 : 2 ≤ qs.length) (hlt : ps.length < qs.length) :
    Calls Try.prog 57 #[u, v] w fun e w' => ∃ r0 r1, e = .returned (.tuple #[r0, r1]) ∧ Ow w' w.heap.size w'.heap.size r0 (canOf (val ps / val qs)) ∧ Ow w' w.heap.size w'.heap.size r1 (canOf (val ps % val qs)) ∧ Sep r0 r1 ∧ Below w.heap.size w w' := by
  have hvl := can_lt_len hp hq hlt
  have hv0 := val_nonneg hp.1
  rw [Int.ediv_eq_zero_of_lt hv0 hvl, Int.emod_eq_of_lt hv0 hvl, canOf_zero, canOf_val hp]
  have hb0 : Below w.heap.size w (w.alloc (.cells #[v] 24)) := (Below.refl _ _).alloc (Nat.le_refl _) _
  have HB0 := Lib.hid hb0
  have HU := Lib.hid (hu.below hb0 (Nat.le_refl _))
  obtain ⟨hl, hf, a, c, rfl, hcap, hr⟩ := hv
  obtain ⟨_, _, a2, c2, rfl, _, _⟩ := hu
  have e1 : ((qs.length : Int) == 1) = false := by rw [beq_eq_false_iff_ne]; omega
  have e2 : ¬ (qs.length : Int) = 1 := by omega
  have e3 : (ps.length : Int) < (qs.length : Int) := by omega
  clear hr hb0 hf hl hvl hv0 hp hq
  go_enter Try.func57, Try.ntmps57
  go_wp2_with fail
  refine (libClone _ ps _ HU.out).mono ?_
  rintro e w1 ⟨r, rfl, ho, hb⟩
  have HB1 := Lib.hid (HB0.out.trans (hb.mono HB0.out.size))
  have HO := Lib.hid (ho.mono HB0.out.size (Nat.le_refl _) (Nat.le_refl _))
  clear ho hb
  go_wp2
  go_ret2
  exact ⟨_, _, rfl, Ow.emptyUp HB1.out.size, HO.out, ⟨.inl rfl, by by_cases h : r.ownBlock = none; exact .inl h; exact .inr h⟩, HB1.out⟩
set_option maxRecDepth 100000 in
set_option maxHeartbeats 8000000 in
theorem implDvC_in (u v : Value) (ps qs : List Int) (w : World) (hu : Rd w u ps) (hv : Rd w v qs) (hp : Can ps) (hq : Can qs) (hla : ps.length ≤ 1000) (h1 : 2 ≤ qs.length) (hlt : qs.length ≤ ps.length) :
    CallsIn Fence.wide 6 Try.prog 57 #[u, v] w fun e w' => ∃ r0 r1, e = .returned (.tuple #[r0, r1]) ∧ Ow w' w.heap.size w'.heap.size r0 (canOf (val ps / val qs)) ∧ Ow w' w.heap.size w'.heap.size r1 (canOf (val ps % val qs)) ∧ Sep r0 r1 ∧ Below w.heap.size w w' := by
  have hb0 : Below w.heap.size w (w.alloc (.cells #[v] 24)) := (Below.refl _ _).alloc (Nat.le_refl _) _
  have HB0 := Lib.hid hb0
  have HU := Lib.hid (hu.below hb0 (Nat.le_refl _))
  have HV := Lib.hid hv
  have HP := Lib.hid hp
  have HQ := Lib.hid hq
  have HX0 := Lib.hid (Boxed.new w 24 v)
  obtain ⟨hl, hf, a, c, rfl, hcap, hr⟩ := hv
  obtain ⟨_, _, a2, c2, rfl, _, _⟩ := hu
  have e1 : ((qs.length : Int) == 1) = false := by rw [beq_eq_false_iff_ne]; omega
  have e2 : ¬ (qs.length : Int) = 1 := by omega
  have e3 : ¬ (ps.length : Int) < (qs.length : Int) := by omega
  obtain ⟨i0, hi, hz0, hz1, hz2⟩ := info_parts infoE
  have mixed : Try.prog.follows .mixedOrders = true := by kernel_rfl
  clear hr hb0 hf hp hq
  refine callsIn_of_wp_marks Try.func57 rfl trivial ?_ rfl
  simp only [Try.ntmps57, List.size_toArray, List.length_cons, List.length_nil, Nat.reduceAdd, Nat.reduceSub, Array.replicate_succ, Array.replicate_zero, List.push_toArray, List.append_toArray, List.nil_append, List.cons_append]
  gi_wp2_with fail
  refine (callsIn_wide.2 (libClone _ ps _ HU.out)).mono ?_
  rintro e w1 ⟨r, rfl, ho, hb⟩
  have HO1 := Lib.hid (ho.mono HB0.out.size (Nat.le_refl _) (Nat.le_refl _))
  have HB1 := Lib.hid (HB0.out.trans (hb.mono HB0.out.size))
  have HX1 : Hid (Boxed w1 w.heap.size 24 (.slice a qs.length c)) := Lib.hid ((hb.block w.heap.size (by simp)).trans HX0.out)
  have HR1 : Hid (∀ k, r.ownBlock = some k → w.heap.size + 1 ≤ k) := Lib.hid (fun k hk => by have := (ho.row.lt k hk).1; simpa using this)
  have hs1 : w.heap.size + 1 ≤ w1.heap.size := HX1.out.lt
  have hown := ho.row.mono (base' := w.heap.size + 1) (by simp)
  clear ho hb
  gi_wp2_with (gi_at_builtin; refine wpListIn_append_own _ rfl _ _ 24 rfl (w.heap.size + 1) 2 i0 (.int .i64 0) 1 8 Try.underlying24 hi hz0 hz1 hz2 rfl (by decide) _ _ _ rfl (hown.alloc _) ⟨_, 0, none⟩ 1 1 [.int .i64 0] rfl rfl ?c1 ?c2 ?c3 ?c4 ?c5 ?_)
  try (case c1 => exact cellNew _ _ _)
  case c2 => first | exact oneCell _ | rfl
  case c3 => unfold maxLen; omega
  case c4 => omega
  case c5 => first | (simp; omega) | omega
  intro v' w2 hown2 hgrow _
  obtain ⟨ho2, hb2⟩ := HO1.out.snoc (x := 0) ⟨by omega, by omega⟩ (by omega) (by simpa using hown2.mono (base' := w.heap.size) (by omega)) hgrow
  have HR2 := Lib.hid (fun k hk => (hown2.lt k hk).1)
  have HX2 : Hid (Boxed w2 w.heap.size 24 (.slice a qs.length c)) := Lib.hid ((HX1.out.alloc _).kept hgrow (fun h => by have := HR1.out _ h.symm; omega))
  have HB2 := Lib.hid (HB1.out.trans hb2)
  rcases ho2.form with ⟨_, h0⟩ | ⟨g, cp, rfl, hgb, hcell, hn, hm, hrow⟩
  · simp at h0
  have HK2 := Lib.hid ho2.blk.1
  have hg2 : w.heap.size + 1 ≤ g := HR2.out g rfl
  have hgl := HK2.out.lt
  have hl1 : (ps ++ [0]).length = ps.length + 1 := by simp
  rw [hl1]
  clear ho2 hb2 hown2 hgrow hcell hrow hown
  obtain ⟨N, hN⟩ : ∃ N, N + qs.length = ps.length + 1 := ⟨ps.length + 1 - qs.length, by omega⟩
  have hN1 : (ps.length : Int) - (qs.length : Int) + 1 = (N : Int) := by omega
  obtain ⟨W2, hW2⟩ : ∃ W2, W2 = w2.alloc (.cells #[.slice (some ⟨g, 0, none⟩) (ps.length + 1) cp] 24) := ⟨_, rfl⟩
  have hW2s : W2.heap.size = w2.heap.size + 1 := by rw [hW2]; simp
  have hX3 : Boxed W2 w.heap.size 24 (.slice a qs.length c) := by rw [hW2]; exact HX2.out.alloc _
  have hR3 : Boxed W2 w2.heap.size 24 (.slice (some ⟨g, 0, none⟩) (ps.length + 1) cp) := by rw [hW2]; exact Boxed.new _ _ _
  have hK3 : Blk W2 g cp (ps ++ [0]) := by rw [hW2]; exact HK2.out.grown (World.grownBy_alloc _ _ none) (by simp)
  have hB3 : Below w.heap.size w W2 := by rw [hW2]; exact HB2.out.alloc HB2.out.size _
  have hc3 := hX3.cell
  have hs2 := HB2.out.size
  have hla2 : ps.length ≤ 1000 := hla
  rw [hW2] at hc3
  gi_wp2_with (gi_at_make; (try rw [← hW2]); refine wpListIn_make_full _ rfl _ _ 24 rfl (w2.heap.size + 1) 2 i0 (.int .i64 0) 1 Try.underlying24 hi hz0 hz1 _ _ _ _ N rfl rfl ?m1 ?m2 ?m3 ?m4 ?m5 ?_)
  case m1 => first | exact hN1 | rfl | omega
  case m2 => first | exact hN1 | rfl | omega
  case m3 => rw [hz2]; omega
  case m4 => unfold maxLen; omega
  case m5 => omega
  intro w3 hown3 hgrow3
  clear hc3
  rw [← hW2] at hgrow3
  have hG : w2.heap.size + 1 < w3.heap.size := by have := (hown3.lt _ rfl).2; omega
  have hK4 : Blk w3 (w2.heap.size + 1) N (List.replicate N 0) := Blk.zeros hown3
  have hX4 := hX3.kept hgrow3 (by simp)
  have hR4 := hR3.kept hgrow3 (by simp)
  have hZ4 := hK3.grown hgrow3 (by simp)
  have hB4 := hB3.grown hgrow3 hB3.size (fun k h => by cases h)
  gi_wp2_with (gi_at_call 59; refine (back_in Fence.wide _ trivial rfl _ ⟨_, _, _, rfl⟩ _).mono ?_; rintro e w' ⟨rfl, rfl⟩)
  obtain ⟨wi, hwi⟩ : ∃ x, x = (w3.alloc (.cells #[.slice (some ⟨w2.heap.size + 1, 0, none⟩) N N] 24)).alloc (.cells #[.slice (some ⟨w2.heap.size + 1, 0, none⟩) N N] 24) := ⟨_, rfl⟩
  have si : wi.heap.size = w3.heap.size + 2 := by rw [hwi]; simp
  have bI : Boxed wi (w3.heap.size + 1) 24 (.slice (some ⟨w2.heap.size + 1, 0, none⟩) N N) := by
    rw [hwi]
    have := Boxed.new (w3.alloc (.cells #[.slice (some ⟨w2.heap.size + 1, 0, none⟩) N N] 24)) 24 (.slice (some ⟨w2.heap.size + 1, 0, none⟩) N N)
    simpa using this
  have hM : DvM w.heap.size w2.heap.size w3.heap.size g cp (w2.heap.size + 1) N (ps.length + 1) (.slice a qs.length c) w (ps ++ [0]) (List.replicate N 0) wi := by
    rw [hwi]
    exact ⟨(hX4.alloc _).alloc _, (hR4.alloc _).alloc _, (Boxed.new _ _ _).alloc _, (hZ4.grown (World.grownBy_alloc _ _ none) (by simp)).grown (World.grownBy_alloc _ _ none) (by simp), (hK4.grown (World.grownBy_alloc _ _ none) (by simp)).grown (World.grownBy_alloc _ _ none) (by simp), (hB4.alloc hB4.size _).alloc (by simp; have := hB4.size; omega) _, by simp⟩
  rw [← hwi]
  have hT0 : DvT ps qs N [] (ps ++ [0]) (List.replicate N 0) := ⟨by simp, HP.out.1.snoc (by omega) (by omega), by simp, fun m hm hd => by
    have := hd.length
    simp at this
    have : m = N := by omega
    subst this
    exact DvI.start HP.out.1 HQ.out h1 hN⟩
  clear hown3 hgrow3 hK4 hX4 hR4 hZ4 hB4 hX3 hR3 hK3 hB3 hwi
  have hIn : IntsAt (w2.heap.size + 1) N wi := fun j hj => ⟨_, hM.yb.cell j (by simp; omega)⟩
  have hs3 : w.heap.size ≤ w3.heap.size := by omega
  have hH0 := hM.b.lt
  refine wpIn_rangeFunc_ownG rfl (by omega) (gf := 68) (lb := #[.pointer (some ⟨w3.heap.size + 1, 0, none⟩)]) rfl trivial (enters_of Try.func68 (by kernel_rfl) rfl)
    (backV_stops Fence.wide 5 trivial rfl (by omega) (w3.heap.size + 1) w.heap.size (w2.heap.size + 1) N N (by omega) wi (by omega) (by omega) bI.cell hIn) KBV.trans (KBV.book (by omega) (by omega) (by omega)) (Below.refl _ _) (fun _ => rfl)
    (DvJ w.heap.size w2.heap.size w3.heap.size g cp (w2.heap.size + 1) N (.slice a qs.length c) ps qs w)
    (fun _ _ _ => False)
    (dvJ_own (by omega) (by omega) (by omega) (by omega) (by omega) (by omega))
    (fun _ _ _ _ _ hs _ _ => hs)
    ⟨_, _, hT0, hM⟩
    (fun x => { tmps := #[Value.slice a2 ps.length c2, Value.slice a qs.length c, undef,
          Value.pointer (some { block := w.heap.size, off := 0 }), Value.slice none 0 0, Value.slice none 0 0, undef,
          undef, Value.pointer (some { block := w2.heap.size, off := 0 }),
          Value.pointer (some { block := w3.heap.size, off := 0 }), .int .i64 ((x.1.1 : Nat) : Int), Value.slice a qs.length c,
          Value.int IntKind.i64 qs.length, Value.bool false, undef, undef, undef, undef, undef, undef, undef, undef,
          undef, undef, undef, Value.slice a2 ps.length c2, Value.int IntKind.i64 ps.length, Value.slice a qs.length c,
          Value.int IntKind.i64 qs.length, Value.bool false, undef, undef, Value.slice a2 ps.length c2, r,
          Value.slice (some { block := w1.heap.size, off := 0 }) 1 1,
          Value.slice (some { block := g, off := 0 }) (ps.length + 1) cp, Value.slice a2 ps.length c2,
          Value.int IntKind.i64 ps.length, Value.slice a qs.length c, Value.int IntKind.i64 qs.length,
          Value.int IntKind.i64 ((ps.length : Int) - qs.length), Value.int IntKind.i64 N,
          Value.slice (some { block := w2.heap.size + 1, off := 0 }) N N,
          Value.slice (some { block := w2.heap.size + 1, off := 0 }) N N, Value.func (Fn.func 68) #[] #[Value.pointer (some { block := w3.heap.size + 1, off := 0 })], .int .i64 ((x.1.1 : Nat) : Int), .int .i64 x.1.2,
          undef, undef, undef, undef, undef, undef, undef, undef, undef, undef, undef, undef, undef, undef, undef, undef,
          undef], defers := [] }) ?assign ?body ?done ?stop
  case assign =>
    intro l x W K hK
    gi_wp2
    exact hK
  case body =>
    rintro l pre x W ⟨Z, Y, hT, hM2⟩ _
    have HT := Lib.hid hT
    have HM := Lib.hid hM2
    obtain ⟨⟨i, z⟩, hi9⟩ := x
    dsimp only at hi9 ⊢
    have c3 : W.drew.cell? ⟨w.heap.size, 0, none⟩ = some (.slice a qs.length c) := hM2.b.cell
    have c8 : W.drew.cell? ⟨w2.heap.size, 0, none⟩ = some (.slice (some ⟨g, 0, none⟩) (ps.length + 1) cp) := hM2.r.cell
    have c9 : W.drew.cell? ⟨w3.heap.size, 0, none⟩ = some (.slice (some ⟨w2.heap.size + 1, 0, none⟩) N N) := hM2.q.cell
    have i0' : (0 : Int) ≤ (i : Int) := by omega
    have i1 : (i : Int) < (N : Int) := by omega
    have hcp : ps.length + 1 ≤ cp := by rw [← hl1]; exact hn
    obtain ⟨E, hE⟩ : ∃ E, E = i + qs.length + 1 := ⟨_, rfl⟩
    have hE1 : (i : Int) + (qs.length : Int) + 1 = (E : Int) := by omega
    have hE2 : (i : Int) ≤ (E : Int) := by omega
    have hE3 : (E : Int) ≤ (cp : Int) := by omega
    have hE4 : (0 : Int) ≤ (E : Int) := by omega
    have hE5 : i ≤ E := by omega
    have hE6 : E ≤ cp := by omega
    have hE7 : E - i = qs.length + 1 := by omega
    have hE8 : ¬ cp = i := by omega
    obtain ⟨F, hF⟩ : ∃ F : Int, F = (i : Int) + (qs.length : Int) := ⟨_, rfl⟩
    have hw1 : IntKind.i64.wrap ((i : Int) + (qs.length : Int)) = F := by rw [IntKind.wrap_i64]; omega
    have hw2 : IntKind.i64.wrap (F + 1) = (E : Int) := by rw [IntKind.wrap_i64]; omega
    have hsl : ∀ W' : World, (Instr.slice 24 (.slice (some ⟨g, 0, none⟩) (ps.length + 1) cp) (some (.int .i64 (i : Int))) (some (.int .i64 (E : Int))) none).run Try.prog W' = .ok (.slice (some ⟨g, i, none⟩) (qs.length + 1) (cp - i)) W' := fun W' => by
      rw [run_slice_lh W' 24 (some ⟨g, 0, none⟩) (ps.length + 1) cp Try.underlying24 .i64 .i64 (i : Int) (E : Int) i0' hE2 hE3]
      rw [show Try.prog.elem 24 = 2 by kernel_rfl, show (sizeOf 2).run Try.prog W' = .ok 1 W' by kernel_rfl]
      simp [Result.andThen, sliced, hE8, hE7, Addr.add]
      try omega
    have HEL : Hid (i + (qs.length + 1) ≤ ps.length + 1) := Lib.hid (by omega)
    clear hT hM2 hE hF hE1
    gi_wp2
    have HVd : Hid (Rd W.drew (.slice a qs.length c) qs) := Lib.hid (HV.out.below (below_drewN HM.out.be 1) (Nat.le_refl _))
    have hab : ∀ ad l c', Value.slice a qs.length c = .slice (some ad) l c' → ad.block ≠ g := fun ad l c' e => by
      have h9 := HV.out.below_top (by intro h0; rw [h0] at h1; simp at h1) ad l c' e
      omega
    have HAB := Lib.hid hab
    have hZl : Z.length = ps.length + 1 := HT.out.zl
    have hYl : Y.length = N := HT.out.yl
    have HN := Lib.hid (show w.heap.size ≤ g ∧ g ≠ w.heap.size ∧ g ≠ w2.heap.size ∧ g ≠ w3.heap.size ∧ g ≠ w2.heap.size + 1 by omega)
    have HN2 := Lib.hid (show w.heap.size ≤ w2.heap.size + 1 ∧ w2.heap.size + 1 ≠ w.heap.size ∧ w2.heap.size + 1 ≠ w2.heap.size ∧ w2.heap.size + 1 ≠ w3.heap.size ∧ w2.heap.size + 1 ≠ g by omega)
    obtain ⟨y0, hy0⟩ : ∃ y, y = Y.getD i 0 := ⟨_, rfl⟩
    have HY0 := Lib.hid hy0
    have HBi := Lib.hid (HM.out.be.size)
    have hWi : w3.heap.size < W.heap.size := HM.out.q.lt
    have hWB : w3.heap.size + 1 < W.heap.size := HM.out.sz
    clear hab hy0
    have HCALL := Lib.hid (takeMulA g cp i (qs.length + 1) (cp - i) (.slice a qs.length c) Z qs W.drew HM.out.zb HVd.out HAB.out (by rw [hZl]; exact HEL.out) (by omega) (fun j hj => HT.out.zd (i + j) (by have := HEL.out; rw [hZl]; omega)) HQ.out.1 rfl h1 (by
        have h8 := HQ.out.2
        rcases h8 with h8 | h8
        · omega
        · have h9 := (HQ.out.1 (qs.length - 1) (by omega)).1
          omega))
    have HCs : Hid (∀ W', DvM w.heap.size w2.heap.size w3.heap.size g cp (w2.heap.size + 1) N (ps.length + 1) (.slice a qs.length c) w Z Y W' → True) := Lib.hid (fun _ _ => trivial)
    have hS0 : W.drew.cell? ⟨w.heap.size, 0, none⟩ = some (.slice a qs.length c) ∧ W.drew.cell? ⟨w2.heap.size, 0, none⟩ = some (.slice (some ⟨g, 0, none⟩) (ps.length + 1) cp) ∧ W.drew.cell? ⟨w3.heap.size, 0, none⟩ = some (.slice (some ⟨w2.heap.size + 1, 0, none⟩) N N) := ⟨c3, c8, c9⟩
    clear c3 c8 c9
    refine region_round (S := fun W' => W'.cell? ⟨w.heap.size, 0, none⟩ = some (.slice a qs.length c) ∧ W'.cell? ⟨w2.heap.size, 0, none⟩ = some (.slice (some ⟨g, 0, none⟩) (ps.length + 1) cp) ∧ W'.cell? ⟨w3.heap.size, 0, none⟩ = some (.slice (some ⟨w2.heap.size + 1, 0, none⟩) N N)) (by kernel_rfl) (by kernel_rfl) ?_ (fun hHeld => ?_)
    · exact hS0
    refine wpAnyH_take (i := 1) (v := ?_) rfl (by kernel_rfl) (by kernel_rfl) (by kernel_rfl) (fun _ _ _ h => h) (Or.inl ⟨by rfl, ?_⟩) (by assumption) ?_
    rotate_left
    · intro w' hSw
      try dsimp only at hSw
      go_simp
      try with_reducible rfl
    try simp only [Array.getInternal_eq_getElem, List.getElem_toArray, List.getElem_cons_succ, List.getElem_cons_zero, Act.put, List.setIfInBounds_toArray, List.set_cons_zero, List.set_cons_succ]
    refine wpAnyH_take (i := 3) (v := ?_) rfl (by kernel_rfl) (by kernel_rfl) (by kernel_rfl) (fun _ _ _ h => h) (Or.inl ⟨by rfl, ?_⟩) (by assumption) ?_
    rotate_left
    · intro w' hSw
      try dsimp only at hSw
      go_simp
      try with_reducible rfl
    try simp only [Array.getInternal_eq_getElem, List.getElem_toArray, List.getElem_cons_succ, List.getElem_cons_zero, Act.put, List.setIfInBounds_toArray, List.set_cons_zero, List.set_cons_succ]
    refine wpAnyH_take (i := 4) (v := ?_) rfl (by kernel_rfl) (by kernel_rfl) (by kernel_rfl) (fun _ _ _ h => h) (Or.inl ⟨by rfl, ?_⟩) (by assumption) ?_
    rotate_left
    · intro w' hSw
      try dsimp only at hSw
      go_simp
      try with_reducible rfl
    try simp only [Array.getInternal_eq_getElem, List.getElem_toArray, List.getElem_cons_succ, List.getElem_cons_zero, Act.put, List.setIfInBounds_toArray, List.set_cons_zero, List.set_cons_succ]
    refine wpAnyH_take (i := 0) (v := ?_) rfl (by kernel_rfl) (by kernel_rfl) (by kernel_rfl) (fun _ _ _ h => h) (Or.inl ⟨by rfl, ?_⟩) (by assumption) ?_
    rotate_left
    · intro w' hSw
      try dsimp only at hSw
      go_simp
      try with_reducible rfl
    try simp only [Array.getInternal_eq_getElem, List.getElem_toArray, List.getElem_cons_succ, List.getElem_cons_zero, Act.put, List.setIfInBounds_toArray, List.set_cons_zero, List.set_cons_succ]
    refine wpAnyH_take (i := 2) (v := ?_) rfl (by kernel_rfl) (by kernel_rfl) (by kernel_rfl) (fun _ _ _ h => h) (Or.inl ⟨by rfl, ?_⟩) (by assumption) ?_
    rotate_left
    · intro w' hSw
      try dsimp only at hSw
      go_simp
      try with_reducible rfl
    try simp only [Array.getInternal_eq_getElem, List.getElem_toArray, List.getElem_cons_succ, List.getElem_cons_zero, Act.put, List.setIfInBounds_toArray, List.set_cons_zero, List.set_cons_succ]
    refine wpAnyH_take (i := 5) (v := ?_) rfl (by kernel_rfl) (by kernel_rfl) (by kernel_rfl) (fun _ _ _ h => h) (Or.inl ⟨by rfl, ?_⟩) (by assumption) ?_
    rotate_left
    · intro w' hSw
      try dsimp only at hSw
      go_simp
      try with_reducible rfl
    try simp only [Array.getInternal_eq_getElem, List.getElem_toArray, List.getElem_cons_succ, List.getElem_cons_zero, Act.put, List.setIfInBounds_toArray, List.set_cons_zero, List.set_cons_succ]
    refine wpAnyH_take (i := 10) (v := ?_) rfl (by kernel_rfl) (by kernel_rfl) (by kernel_rfl) (fun _ _ _ h => h) (Or.inl ⟨by rfl, ?_⟩) (by assumption) ?_
    rotate_left
    · intro w' hSw
      try dsimp only at hSw
      go_simp
      try with_reducible rfl
    try simp only [Array.getInternal_eq_getElem, List.getElem_toArray, List.getElem_cons_succ, List.getElem_cons_zero, Act.put, List.setIfInBounds_toArray, List.set_cons_zero, List.set_cons_succ]
    refine wpAnyH_take (i := 6) (v := ?_) rfl (by kernel_rfl) (by kernel_rfl) (by kernel_rfl) (fun _ _ _ h => h) (Or.inl ⟨by rfl, ?_⟩) (by assumption) ?_
    rotate_left
    · intro w' hSw
      try dsimp only at hSw
      go_simp
      try with_reducible rfl
    try simp only [Array.getInternal_eq_getElem, List.getElem_toArray, List.getElem_cons_succ, List.getElem_cons_zero, Act.put, List.setIfInBounds_toArray, List.set_cons_zero, List.set_cons_succ]
    refine wpAnyH_take (i := 7) (v := ?_) rfl (by kernel_rfl) (by kernel_rfl) (by kernel_rfl) (fun _ _ _ h => h) (Or.inl ⟨by rfl, ?_⟩) (by assumption) ?_
    rotate_left
    · intro w' hSw
      try dsimp only at hSw
      go_simp
      try with_reducible rfl
    try simp only [Array.getInternal_eq_getElem, List.getElem_toArray, List.getElem_cons_succ, List.getElem_cons_zero, Act.put, List.setIfInBounds_toArray, List.set_cons_zero, List.set_cons_succ]
    refine wpAnyH_take (i := 8) (v := ?_) rfl (by kernel_rfl) (by kernel_rfl) (by kernel_rfl) (fun _ _ _ h => h) (Or.inl ⟨by rfl, ?_⟩) (by assumption) ?_
    rotate_left
    · intro w' hSw
      try dsimp only at hSw
      go_simp
      try with_reducible rfl
    try simp only [Array.getInternal_eq_getElem, List.getElem_toArray, List.getElem_cons_succ, List.getElem_cons_zero, Act.put, List.setIfInBounds_toArray, List.set_cons_zero, List.set_cons_succ]
    refine wpAnyH_take (i := 9) (v := ?_) rfl (by kernel_rfl) (by kernel_rfl) (by kernel_rfl) (fun _ _ _ h => h) (Or.inl ⟨by rfl, ?_⟩) (by assumption) ?_
    rotate_left
    · intro w' hSw
      try dsimp only at hSw
      go_simp
      try with_reducible rfl
    try simp only [Array.getInternal_eq_getElem, List.getElem_toArray, List.getElem_cons_succ, List.getElem_cons_zero, Act.put, List.setIfInBounds_toArray, List.set_cons_zero, List.set_cons_succ]
    refine wpAnyH_ready (rs := [11]) (by kernel_rfl) (by simp) ?_
    refine (AllReadyH.cons rfl (fun K hK => ?_) AllReadyH.nil)
    go_simp
    refine HCALL.out.mono ?_
    rintro e W2 ⟨q, Z2, rfl, ht⟩
    have HTK := Lib.hid ht
    have HM2 := Lib.hid (HM.out.took ht HN.out)
    have HTS := Lib.hid (HT.out.step (x := ⟨(i, z), hi9⟩) HQ.out h1 hN HTK.out)
    have HMS := Lib.hid (HM2.out.put i (by omega) q HN2.out)
    have k10 : W2.cell? ⟨w2.heap.size + 1, i, none⟩ = some (.int .i64 y0) := by rw [HY0.out]; exact HM2.out.yb.cell i (by omega)
    have kf : W2.frozen? ⟨w2.heap.size + 1, i, none⟩ = false := HM2.out.yb.frozen i
    have hgA : W.grownBy W2 (some g) := ⟨HTK.out.grown.1, HTK.out.grown.2, HTK.out.grown.3, HTK.out.grown.4, HTK.out.grown.5⟩
    have hgB := (HM2.out.yb.set i (by omega) q).2
    have HK1 := Lib.hid (((KeepsFrom.of_grownBy (B := w3.heap.size + 2) hgA (fun j e => by cases e; omega)).trans (KeepsFrom.of_grownBy hgB (fun j e => by cases e; omega))))
    have HK2 := Lib.hid ((DvM.kbv (Bs := w3.heap.size + 1) hgA (fun k e => by cases e; omega) (by omega) HM2.out (by omega) HBi.out).trans (DvM.kbv (Bs := w3.heap.size + 1) hgB (fun k e => by cases e; omega) (by have := hgA.size; omega) HMS.out (by rw [List.length_set]; omega) (by have := hgA.size; have := HBi.out; omega)))
    clear hgA hgB ht
    dsimp only
    refine hK.out _ _ ?_ (fun hHeld2 => ?_)
    · exact ⟨HM2.out.b.cell, HM2.out.r.cell, HM2.out.q.cell⟩
    clear hK K
    try simp only [Array.getInternal_eq_getElem, List.getElem_toArray, List.getElem_cons_succ, List.getElem_cons_zero, Act.put, List.setIfInBounds_toArray, List.set_cons_zero, List.set_cons_succ]
    refine wpAnyH_take (i := 12) (v := ?_) rfl (by kernel_rfl) (by kernel_rfl) (by kernel_rfl) (fun _ _ _ h => h) (Or.inl ⟨by rfl, ?_⟩) (by assumption) ?_
    rotate_left
    · intro w' hSw
      try dsimp only at hSw
      go_simp
      try with_reducible rfl
    try simp only [Array.getInternal_eq_getElem, List.getElem_toArray, List.getElem_cons_succ, List.getElem_cons_zero, Act.put, List.setIfInBounds_toArray, List.set_cons_zero, List.set_cons_succ]
    refine wpAnyH_ready (rs := [13]) (by kernel_rfl) (by simp) ?_
    refine (AllReadyH.cons rfl (fun K hK => ?_) AllReadyH.nil)
    go_simp
    refine hK.out _ _ ?_ (fun hHeld3 => ?_)
    · exact ⟨HMS.out.b.cell, HMS.out.r.cell, HMS.out.q.cell⟩
    clear hK K
    try simp only [Array.getInternal_eq_getElem, List.getElem_toArray, List.getElem_cons_succ, List.getElem_cons_zero, Act.put, List.setIfInBounds_toArray, List.set_cons_zero, List.set_cons_succ]
    refine wpAnyH_done (by kernel_rfl) ?_ _
    dsimp only [NormalOnly]
    gi_wp2_with fail
    exact ⟨HK1.out, HK2.out, _, _, HTS.out, HMS.out⟩
  case done =>
    rintro D ys W hD hdn ⟨Z, Y, hT, hM2⟩ hK
    have hst := (hT.st 0 (Nat.zero_le _) hdn).done HQ.out h1
    have HD := Lib.hid hst
    have hYl : Y.length = N := hT.yl
    have hZl : Z.length = ps.length + 1 := hT.zl
    have hWs : wi.heap.size ≤ W.heap.size := by have := (Array.getElem?_eq_some_iff.1 hK).1; omega
    have hcp : ps.length + 1 ≤ cp := by rw [← hl1]; exact hn
    have HY : Hid (Ow W w.heap.size wi.heap.size (.slice (some ⟨w2.heap.size + 1, 0, none⟩) Y.length N) Y) := Lib.hid (by
      have h := hM2.yb.ow (B := w.heap.size) (by omega) (by unfold maxLen; omega) (by omega) hst.2.2.1.fit
      exact ⟨h.len, h.fit, h.row, fun k hk => by cases hk; show w2.heap.size + 1 < _; omega, hWs, by omega⟩)
    have HZ : Hid (Ow W w.heap.size wi.heap.size (.slice (some ⟨g, 0, none⟩) Z.length cp) Z) := Lib.hid (by
      have h := hM2.zb.ow (B := w.heap.size) (by omega) hm (by omega) hst.2.2.2.fit
      exact ⟨h.len, h.fit, h.row, fun k hk => by cases hk; show g < _; omega, hWs, by omega⟩)
    have HB : Hid (Below w.heap.size w W) := Lib.hid hM2.be
    have c9 : W.cell? ⟨w3.heap.size, 0, none⟩ = some (.slice (some ⟨w2.heap.size + 1, 0, none⟩) Y.length N) := by rw [hYl]; exact hM2.q.cell
    have c8 : W.cell? ⟨w2.heap.size, 0, none⟩ = some (.slice (some ⟨g, 0, none⟩) Z.length cp) := by rw [hZl]; exact hM2.r.cell
    have hK' : W.drew.heap[D]? = some (.deferred (some [])) := hK
    have hgG : g ≠ w2.heap.size + 1 := by omega
    clear hT hM2 hst hK hdn
    gi_wp2
    have HK3 := Lib.hid hK'
    have HC1 : Hid (∀ k, Calls Try.prog 60 #[.slice (some ⟨w2.heap.size + 1, 0, none⟩) Y.length N] (W.drewN k) fun e w' => e = .returned (.slice (some ⟨w2.heap.size + 1, 0, none⟩) (trimN Y Y.length) N) ∧ w' = W.drewN k) := Lib.hid (fun k => implTrimAt _ _ Y w.heap.size wi.heap.size _ (HY.out.below (below_drewN (Below.refl _ _) k) HY.out.size))
    have HC2 : Hid (∀ k, Calls Try.prog 60 #[.slice (some ⟨g, 0, none⟩) Z.length cp] (W.drewN k) fun e w' => e = .returned (.slice (some ⟨g, 0, none⟩) (trimN Z Z.length) cp) ∧ w' = W.drewN k) := Lib.hid (fun k => implTrimAt _ _ Z w.heap.size wi.heap.size _ (HZ.out.below (below_drewN (Below.refl _ _) k) HZ.out.size))
    obtain ⟨LY, hLY⟩ : ∃ L, L = Y.length := ⟨_, rfl⟩
    obtain ⟨LZ, hLZ⟩ : ∃ L, L = Z.length := ⟨_, rfl⟩
    rw [← hLY] at c9
    rw [← hLZ] at c8
    obtain ⟨TY, hTY⟩ : ∃ L, L = trimN Y Y.length := ⟨_, rfl⟩
    obtain ⟨TZ, hTZ⟩ : ∃ L, L = trimN Z Z.length := ⟨_, rfl⟩
    have HTY := Lib.hid hTY
    have HTZ := Lib.hid hTZ
    rw [← hTY, ← hLY] at HC1
    rw [← hTZ, ← hLZ] at HC2
    clear hK' hYl hZl hLY hLZ hTY hTZ
    gi_quiet_th (first | (with_reducible refine CallsIn.quiet_of_same (callsIn_wide.2 (HC1.out _))) | (with_reducible refine CallsIn.quiet_of_same (callsIn_wide.2 (HC2.out _))))
    have hk2 : (W.drewN nq).heap[D]? = some (.deferred (some [])) := HK3.out
    have hb3 : Below wi.heap.size W ((W.drewN nq).putObj D (.deferred none)) := (below_drewN (Below.refl wi.heap.size W) nq).trans (belowK_b (w := wi) (Nat.le_refl _) (W.drewN nq) D _ (.deferred none) hD hk2 rfl rfl)
    have HR2 : Hid (Ow ((W.drewN nq).putObj D (.deferred none)) w.heap.size ((W.drewN nq).putObj D (.deferred none)).heap.size (.slice (some ⟨w2.heap.size + 1, 0, none⟩) (trimN Y Y.length) N) (canOf (val ps / val qs))) := Lib.hid (by
      have h2 := (HY.out.below hb3 (Nat.le_refl _)).take (trimN Y Y.length) (trimN_le Y Y.length)
      rw [HD.out.1]
      exact h2.mono (Nat.le_refl _) (Nat.le_trans hWs hb3.size) (Nat.le_refl _))
    have HR3 : Hid (Ow ((W.drewN nq).putObj D (.deferred none)) w.heap.size ((W.drewN nq).putObj D (.deferred none)).heap.size (.slice (some ⟨g, 0, none⟩) (trimN Z Z.length) cp) (canOf (val ps % val qs))) := Lib.hid (by
      have h2 := (HZ.out.below hb3 (Nat.le_refl _)).take (trimN Z Z.length) (trimN_le Z Z.length)
      rw [HD.out.2.1]
      exact h2.mono (Nat.le_refl _) (Nat.le_trans hWs hb3.size) (Nat.le_refl _))
    have HB2 : Hid (Below w.heap.size w ((W.drewN nq).putObj D (.deferred none))) := Lib.hid (HB.out.trans (hb3.mono (by omega)))
    have HSp : Hid (Sep (.slice (some ⟨w2.heap.size + 1, 0, none⟩) (trimN Y Y.length) N) (.slice (some ⟨g, 0, none⟩) (trimN Z Z.length) cp)) := Lib.hid ⟨.inr (by intro e; cases e; exact hgG rfl), .inr (by intro e; cases e; exact hgG rfl)⟩
    rw [← HTY.out] at HR2 HSp
    rw [← HTZ.out] at HR3 HSp
    gi_wp2
    refine ⟨by simp, .inl ⟨_, _, rfl, run_takeDeferred hk2, ?_⟩⟩
    exact ⟨_, results_tmp2 rfl _ _ _, .slice (some ⟨w2.heap.size + 1, 0, none⟩) TY N, .slice (some ⟨g, 0, none⟩) TZ cp, by rfl, HR2.out, HR3.out, HSp.out, HB2.out⟩
  case stop =>
    rintro D c pre W _ _ h _
    exact h.elim
theorem implDv (u v : Value) (ps qs : List Int) (w : World) (hu : Rd w u ps) (hv : Rd w v qs) (hp : Can ps) (hq : Can qs) (hla : ps.length ≤ 1000) (h1 : 1 ≤ qs.length) :
    Calls Try.prog 57 #[u, v] w fun e w' => ∃ r0 r1, e = .returned (.tuple #[r0, r1]) ∧ Ow w' w.heap.size w'.heap.size r0 (canOf (val ps / val qs)) ∧ Ow w' w.heap.size w'.heap.size r1 (canOf (val ps % val qs)) ∧ Sep r0 r1 ∧ Below w.heap.size w w' := by
  by_cases h2 : qs.length = 1
  · exact implDvA u v ps qs w hu hv hp hq hla h2
  · by_cases h3 : ps.length < qs.length
    · exact implDvB u v ps qs w hu hv hp hq (by omega) h3
    · exact callsIn_wide.1 (implDvC_in u v ps qs w hu hv hp hq hla (by omega) (by omega))
end Go.Proofs.Ytcpipakpkmfhlaa.Ints
