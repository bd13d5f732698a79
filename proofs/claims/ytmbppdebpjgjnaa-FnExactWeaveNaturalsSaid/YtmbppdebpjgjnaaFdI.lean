/- The contract of the program's FromDigits. -/
import Derived.Test.YtmbppdebpjgjnaaFdN
namespace Go.Proofs.Ytmbppdebpjgjnaa.Ints
open Go.RowKit Go.Shelf
set_option linter.unusedVariables false
attribute [local go_sem] Oper.semAt_some
attribute [local go_sem, local simp] wide_fn

/-- A row of its own abides the turn of blocks that are no cells. -/
theorem Ow.abide {w w' : World} {B T : Nat} {v : Value} {zs : List Int} (h : Ow w B T v zs) {row : Option Nat} (hg : w.grownBy w' row) (hr : ∀ r, row = some r → ∃ o : Obj, w.heap[r]? = some o ∧ o.isCells = false) : Ow w' B T v zs := by
  refine h.grown hg ?_
  rcases h.row.2 with ⟨rfl, _⟩ | ⟨g, cap, cur, rfl, _, hgg, _⟩
  · exact .inl rfl
  · refine .inr fun e => ?_
    obtain ⟨o, ho, hc⟩ := hr g (by rw [← e]; rfl)
    rw [hgg] at ho; cases ho; cases hc
theorem Below.boxed {B : Nat} {w w' : World} (h : Below B w w') {k : Nat} {t : TypeId} {v : Value} (hb : Boxed w k t v) (hk : k < B) : Boxed w' k t v := (h.block k hk).trans hb
theorem Below.keeps {w w' : World} (h : Below w.heap.size w w') : KeepsOthers w w' := ⟨h.size, fun k o hk _ => (h.block k (Array.getElem?_eq_some_iff.1 hk).1).trans hk⟩
theorem Below.kb {w w' : World} {n₀ Bs : Nat} (h : Below w.heap.size w w') (hn : n₀ ≤ w.heap.size) (hB : Bs < w.heap.size) : KB n₀ Bs w w' := ⟨h.mono hn, h.block Bs hB⟩

/-- The number so far; none if it was too long on the way. -/
noncomputable def fdT (b : Int) (s : Option Int) (x : Int) : Option Int := match s with
  | none => none
  | some V => if (canOf (V * b + x)).length ≤ 40 then some (V * b + x) else none
noncomputable def fdF (zs : List Int) (b : Int) (pre : List (At zs)) : Option Int := pre.foldl (fun s x => fdT b s x.1.2) (some 0)
theorem fdF_snoc (zs : List Int) (b : Int) (pre : List (At zs)) (x : At zs) : fdF zs b (pre ++ [x]) = fdT b (fdF zs b pre) x.1.2 := by simp [fdF]
theorem fdF_dnR (zs : List Int) (b : Int) : ∀ k, k ≤ zs.length → fdF zs b (dnR zs k) = fdS zs b k := by
  intro k
  induction k with
  | zero => intro _; rfl
  | succ k ih =>
    intro hk
    have hlt : zs.length - 1 - k < zs.length := by omega
    rw [dnR, dif_pos hlt, fdF_snoc, ih (by omega), fdS]
    have e : zs[zs.length - 1 - k]?.getD 0 = zs.getD (zs.length - 1 - k) 0 := (List.getD_eq_getElem?_getD ..).symm
    cases fdS zs b k with
    | none => rfl
    | some V => simp only [fdT, e]
theorem fdF_all (zs : List Int) (b : Int) : fdF zs b (dnA zs 0) = fdR zs b := by rw [dnA, Nat.sub_zero, fdF_dnR zs b _ (Nat.le_refl _), fdR]
theorem fdF_stop {zs : List Int} {b : Int} {m : Nat} (hm : m ≤ zs.length) (h : fdF zs b (dnA zs m) = none) : fdR zs b = none := by
  rw [dnA, fdF_dnR zs b _ (by omega)] at h
  have := fdS_none h m
  rwa [show zs.length - m + m = zs.length by omega] at this

theorem digB_dig {b : Int} {zs : List Int} (h : digB b zs = true) : Dig b zs := by simpa [digB] using h
theorem fd3 (w : World) (b k : Int) :
    (((w.alloc (Obj.cells #[Value.int IntKind.i64 b] 2)).alloc (Obj.cells #[Value.slice none 0 0] 22)).alloc (Obj.cells #[Value.int IntKind.i64 k] 2)).cell? ⟨w.heap.size + 1, 0, none⟩ = some (.slice none 0 0) ∧
    (((w.alloc (Obj.cells #[Value.int IntKind.i64 b] 2)).alloc (Obj.cells #[Value.slice none 0 0] 22)).alloc (Obj.cells #[Value.int IntKind.i64 k] 2)).cell? ⟨w.heap.size + 1 + 1, 0, none⟩ = some (.int .i64 k) ∧
    Below w.heap.size w (((w.alloc (Obj.cells #[Value.int IntKind.i64 b] 2)).alloc (Obj.cells #[Value.slice none 0 0] 22)).alloc (Obj.cells #[Value.int IntKind.i64 k] 2)) := by
  refine ⟨?_, ?_, (((Below.refl w.heap.size w).alloc (Nat.le_refl _) _).alloc (by simp) _).alloc (by simp; omega) _⟩
  · have := Boxed.new (w.alloc (Obj.cells #[Value.int IntKind.i64 b] 2)) 22 (.slice none 0 0)
    rw [World.size_alloc] at this
    exact (this.alloc _).cell
  · have := Boxed.new ((w.alloc (Obj.cells #[Value.int IntKind.i64 b] 2)).alloc (Obj.cells #[Value.slice none 0 0] 22)) 2 (.int .i64 k)
    rw [World.size_alloc, World.size_alloc] at this
    exact this.cell
/-- Two stores into two boxes. -/
theorem fd2 {w W : World} {B : Nat} (hB : Below B w W) {g h : Nat} {t s : TypeId} {u v : Value} (hg : Boxed W g t u) (hh : Boxed W h s v) (hne : g ≠ h) (h1 : B ≤ g) (h2 : B ≤ h) (x y : Value) :
    ((W.setCell ⟨g, 0, none⟩ x).setCell ⟨h, 0, none⟩ y).cell? ⟨g, 0, none⟩ = some x ∧ ((W.setCell ⟨g, 0, none⟩ x).setCell ⟨h, 0, none⟩ y).cell? ⟨h, 0, none⟩ = some y ∧ Below B w ((W.setCell ⟨g, 0, none⟩ x).setCell ⟨h, 0, none⟩ y) :=
  ⟨((hg.set x).other hne y).cell, ((hh.other (Ne.symm hne) x).set y).cell, (hB.setCell (p := ⟨g, 0, none⟩) h1 _).setCell (p := ⟨h, 0, none⟩) h2 _⟩
set_option maxRecDepth 100000 in
set_option maxHeartbeats 4000000 in
theorem implFd_in (u : Value) (zs : List Int) (b : Int) (w : World) (hu : Rd w u zs) :
    CallsIn Fence.wide 6 Try.prog 54 #[u, .int .i64 b] w fun e w' => ∃ r, e = .returned (.tuple #[r, .int .i64 (fgC zs b)]) ∧ Ow w' w.heap.size w'.heap.size r (fgL zs b) ∧ Below w.heap.size w w' := by
  have HU := Lib.hid hu
  obtain ⟨hl, hf, a, c, rfl, hcap, hr⟩ := hu
  have HR := Lib.hid hr
  clear hr
  obtain ⟨w0, hw0⟩ : ∃ w0, w0 = ((w.alloc (Obj.cells #[Value.int IntKind.i64 b] 2)).alloc (Obj.cells #[Value.slice none 0 0] 22)).alloc (Obj.cells #[Value.int IntKind.i64 0] 2) := ⟨_, rfl⟩
  have s0 : w0.heap.size = w.heap.size + 3 := by rw [hw0]; simp
  have b3 : Boxed w0 w.heap.size 2 (.int .i64 b) := by rw [hw0]; exact ((Boxed.new w _ _).alloc _).alloc _
  have b4 : Boxed w0 (w.heap.size + 1) 22 (.slice none 0 0) := by
    rw [hw0]
    have := Boxed.new (w.alloc (Obj.cells #[Value.int IntKind.i64 b] 2)) 22 (.slice none 0 0)
    rw [World.size_alloc] at this
    exact this.alloc _
  have b5 : Boxed w0 (w.heap.size + 1 + 1) 2 (.int .i64 0) := by
    rw [hw0]
    have := Boxed.new ((w.alloc (Obj.cells #[Value.int IntKind.i64 b] 2)).alloc (Obj.cells #[Value.slice none 0 0] 22)) 2 (.int .i64 0)
    rwa [World.size_alloc, World.size_alloc] at this
  have hB0 : Below w.heap.size w w0 := by rw [hw0]; exact (((Below.refl w.heap.size w).alloc (Nat.le_refl _) _).alloc (by simp) _).alloc (by simp; omega) _
  have HW0 := Lib.hid hw0
  have HB0 := Lib.hid hB0
  have H3 := Lib.hid b3
  have H4 := Lib.hid b4
  have H5 := Lib.hid b5
  clear hw0 hB0 b3 b4 b5
  refine callsIn_of_wp_marks Try.func54 rfl trivial ?_ rfl
  simp only [Try.ntmps54, List.size_toArray, List.length_cons, List.length_nil, Nat.reduceAdd, Nat.reduceSub, Array.replicate_succ, Array.replicate_zero, List.push_toArray, List.append_toArray, List.nil_append, List.cons_append]
  by_cases h1 : b < 2
  · have hd1 : decide (b < 2) = true := decide_eq_true h1
    have e := Lib.hid (fg_bad (fgOk_lo (zs := zs) (b := b) (fun g => by omega)))
    gi_wp2_with fail
    obtain ⟨e4, e5, eB⟩ := fd3 w b 2
    exact ⟨.tuple #[.slice none 0 0, .int .i64 2], by simp [results, Try.f54, go_sem, e4, e5], _, by rw [e.out.2] <;> rfl, by rw [e.out.1]; exact Ow.emptyUp eB.size, eB⟩
  by_cases h2 : 1000000 < b
  · have hd1 : decide (b < 2) = false := decide_eq_false h1
    have hd2 : decide (1000000 < b) = true := decide_eq_true h2
    have e := Lib.hid (fg_bad (fgOk_lo (zs := zs) (b := b) (fun g => by omega)))
    gi_wp2_with fail
    obtain ⟨e4, e5, eB⟩ := fd3 w b 2
    exact ⟨.tuple #[.slice none 0 0, .int .i64 2], by simp [results, Try.f54, go_sem, e4, e5], _, by rw [e.out.2] <;> rfl, by rw [e.out.1]; exact Ow.emptyUp eB.size, eB⟩
  have hd1 : decide (b < 2) = false := decide_eq_false h1
  have hd2 : decide (1000000 < b) = false := decide_eq_false h2
  have g1 : 2 ≤ b := by omega
  have g2 : b ≤ 1000000 := by omega
  have HOK := Lib.hid (fgOk_dig' (zs := zs) g1 g2)
  gi_wp2_with fail
  rw [← HW0.out]
  gi_at_call 79
  refine (callsIn_wide.2 (areBelow_any _ zs b _ (HU.out.below HB0.out (Nat.le_refl _)))).mono ?_
  rintro e w1 ⟨rfl, hb1⟩
  have c3 := (Below.boxed hb1 H3.out (by omega))
  have c4 := (Below.boxed hb1 H4.out (by omega))
  have c5 := (Below.boxed hb1 H5.out (by omega))
  have HB1 := Lib.hid (HB0.out.trans (hb1.mono HB0.out.size))
  have s1 : w.heap.size + 3 ≤ w1.heap.size := by have := hb1.size; omega
  have k3 := c3.cell
  have k4 := c4.cell
  have f4 := c4.frozen
  have k5 := c5.cell
  have f5 := c5.frozen
  clear hb1
  rcases eqOr (digB b zs) with hn | hn
  · have e := Lib.hid (fg_bad (zs := zs) (b := b) (by rw [HOK.out, hn]))
    rw [hn]
    gi_wp2_with fail
    obtain ⟨e4, e5, eB⟩ := fd2 HB1.out c4 c5 (by omega) (by omega) (by omega) (.slice none 0 0) (.int .i64 2)
    exact ⟨.tuple #[.slice none 0 0, .int .i64 2], by simp [results, Try.f54, go_sem, e4, e5], _, by rw [e.out.2] <;> rfl, by rw [e.out.1]; exact Ow.emptyUp eB.size, eB⟩
  have hdig : Dig b zs := digB_dig hn
  have HD := Lib.hid hdig
  have hok : fgOk zs b = true := by rw [HOK.out]; exact hn
  rw [hn]
  clear hn hdig
  by_cases hlen : 800 < zs.length
  · have e := Lib.hid (fg_long hok (by omega))
    have hd3 : decide ((800 : Int) < (zs.length : Int)) = true := decide_eq_true (by omega)
    clear hok
    gi_wp2_with fail
    obtain ⟨e4, e5, eB⟩ := fd2 HB1.out c4 c5 (by omega) (by omega) (by omega) (.slice none 0 0) (.int .i64 5)
    exact ⟨.tuple #[.slice none 0 0, .int .i64 5], by simp [results, Try.f54, go_sem, e4, e5], _, by rw [e.out.2] <;> rfl, by rw [e.out.1]; exact Ow.emptyUp eB.size, eB⟩
  have hd3 : decide ((800 : Int) < (zs.length : Int)) = false := decide_eq_false (by omega)
  have HK := Lib.hid hok
  clear hok
  gi_wp2_with fail
  obtain ⟨w2, hw2⟩ : ∃ w2, w2 = w1.alloc (.cells #[.slice none 0 0] 22) := ⟨_, rfl⟩
  have n2 := Boxed.new w1 22 (.slice none 0 0)
  rw [← hw2] at n2 ⊢
  have s2 : w2.heap.size = w1.heap.size + 1 := by rw [hw2]; simp
  have m3 : Boxed w2 w.heap.size 2 (.int .i64 b) := by rw [hw2]; exact c3.alloc _
  have m4 : Boxed w2 (w.heap.size + 1) 22 (.slice none 0 0) := by rw [hw2]; exact c4.alloc _
  have m5 : Boxed w2 (w.heap.size + 1 + 1) 2 (.int .i64 0) := by rw [hw2]; exact c5.alloc _
  have hB2 : Below w.heap.size w w2 := by rw [hw2]; exact HB1.out.alloc (by omega) _
  gi_at_call 72
  refine (back_in Fence.wide _ trivial rfl _ ⟨_, _, _, rfl⟩ _).mono ?_
  rintro e w' ⟨rfl, rfl⟩
  obtain ⟨wi, hwi⟩ : ∃ wi, wi = w2.alloc (.cells #[.slice a zs.length c] 22) := ⟨_, rfl⟩
  have bI := Boxed.new w2 22 (.slice a zs.length c)
  rw [s2] at bI
  rw [← hwi] at bI ⊢
  have si : wi.heap.size = w2.heap.size + 1 := by rw [hwi]; simp
  have p3 : Boxed wi w.heap.size 2 (.int .i64 b) := by rw [hwi]; exact m3.alloc _
  have p4 : Boxed wi (w.heap.size + 1) 22 (.slice none 0 0) := by rw [hwi]; exact m4.alloc _
  have p5 : Boxed wi (w.heap.size + 1 + 1) 2 (.int .i64 0) := by rw [hwi]; exact m5.alloc _
  have p6 : Boxed wi w1.heap.size 22 (.slice none 0 0) := by rw [hwi]; exact n2.alloc _
  have hBI : Below w.heap.size w wi := by rw [hwi]; exact hB2.alloc (by omega) _
  clear hwi hw2 n2 m3 m4 m5 hB2 c3 c4 c5 k3 k4 k5 f4 f5
  have hcs : zs ≠ [] → ∃ b o, a = some ⟨b, o, none⟩ ∧ b < w.heap.size ∧ ∀ j, j < zs.length → wi.cell? ⟨b, o + j, none⟩ = some (.int .i64 (zs[j]?.getD 0)) := fun hne => by
    obtain ⟨b, o, ha, hb, hc⟩ := HR.out hne
    exact ⟨b, o, ha, hb, fun j hj => by rw [hBI.cell (p := ⟨b, o + j, none⟩) hb, hc j hj, List.getD_eq_getElem?_getD]⟩
  have HSZ := Lib.hid si
  gi_wp2_with fail
  refine wpIn_rangeFunc_ownG rfl (by omega) (gf := 88) (lb := #[.pointer (some ⟨w1.heap.size + 1, 0, none⟩)]) rfl trivial (enters_of Try.func88 (by kernel_rfl) rfl)
    (back_stops Fence.wide 5 trivial rfl (by omega) (w1.heap.size + 1) w.heap.size a c zs hl wi (by omega) (by omega) bI.cell hcs) KB.trans (KB.book (by omega) (by omega)) (Below.refl _ _) (fun _ => rfl)
    (fun pre W => Boxed W w.heap.size 2 (.int .i64 b) ∧ Boxed W (w.heap.size + 1) 22 (.slice none 0 0) ∧ Boxed W (w.heap.size + 1 + 1) 2 (.int .i64 0) ∧ (∃ (V : Int) (ov : Value), fdF zs b pre = some V ∧ Nn 40 V ∧ Boxed W w1.heap.size 22 ov ∧ Ow W wi.heap.size W.heap.size ov (canOf V)) ∧ Below w.heap.size w W)
    (fun k pre W => (k = .ret ∧ fdF zs b pre = none) ∧ Boxed W (w.heap.size + 1) 22 (.slice none 0 0) ∧ Boxed W (w.heap.size + 1 + 1) 2 (.int .i64 5) ∧ Below w.heap.size w W)
    (OwnFrom.and (Own.from (boxed_own _ _ _) _) (OwnFrom.and (Own.from (boxed_own _ _ _) _) (OwnFrom.and (Own.from (boxed_own _ _ _) _) (OwnFrom.and (fun s X Y row hs hg hr => by
        obtain ⟨V, ov, e1, e2, e3, e4⟩ := hs
        exact ⟨V, ov, e1, e2, boxed_own (β := Unit) _ _ (fun _ => ov) () X Y row e3 hg (fun r e => (hr r e).2), (e4.abide hg (fun r e => (hr r e).2)).up⟩) (ownFrom_below (Nat.le_refl _) (by omega))))))
    (fun k => OwnFrom.and (ownFrom_pure _ _) (OwnFrom.and (Own.from (boxed_own _ _ _) _) (OwnFrom.and (Own.from (boxed_own _ _ _) _) (ownFrom_below (Nat.le_refl _) (by omega)))))
    ⟨p3, p4, p5, ⟨0, _, rfl, ⟨by omega, Pw_pos _⟩, p6, by rw [zero_can]; exact Ow.empty wi⟩, hBI⟩
    (fun x => { tmps := #[Value.slice a zs.length c, Value.int IntKind.i64 b, undef,
              Value.pointer (some { block := w.heap.size, off := 0 }),
              Value.pointer (some { block := w.heap.size + 1, off := 0 }),
              Value.pointer (some { block := w.heap.size + 1 + 1, off := 0 }),
              Value.pointer (some { block := w1.heap.size, off := 0 }), undef, .int .i64 x.1.2, Value.int IntKind.i64 b,
              Value.bool false, Value.bool false, Value.int IntKind.i64 b, Value.bool false, Value.bool false,
              Value.bool false, Value.slice a zs.length c, Value.int IntKind.i64 b, Value.bool true, Value.bool false,
              Value.bool false, Value.slice a zs.length c, Value.int IntKind.i64 zs.length, Value.bool false,
              Value.slice a zs.length c, Value.func (Fn.func 88) #[] #[Value.pointer (some { block := w1.heap.size + 1, off := 0 })], .int .i64 ((x.1.1 : Nat) : Int), .int .i64 x.1.2, undef, undef, undef, undef, undef, undef, undef, undef], defers := [] }) ?assign ?body ?done ?stop
  case assign =>
    intro l x W K hK
    gi_wp2
    exact hK
  case body =>
    rintro l pre x W ⟨h3, h4, h5, ⟨V, ov, hV, hN, h6, hO⟩, hB⟩ _
    have hd : 0 ≤ x.1.2 ∧ x.1.2 < b := by
      have := HD.out x.1.1 x.2.1
      rwa [List.getD_eq_getElem?_getD, ← x.2.2] at this
    have HF : Hid (fdF zs b (pre ++ [x]) = fdT b (some V) x.1.2) := Lib.hid (by rw [fdF_snoc, hV])
    obtain ⟨P2, hP2⟩ : ∃ P2, P2 = pre ++ [x] := ⟨_, rfl⟩
    rw [← hP2] at HF ⊢
    clear hP2 hV
    obtain ⟨d, hd0⟩ : ∃ d, d = x.1.2 := ⟨_, rfl⟩
    rw [← hd0] at hd HF ⊢
    clear hd0
    obtain ⟨d0, d1⟩ := hd
    obtain ⟨oa, oc, rfl⟩ := hO.shape
    have c3 := h3.cell
    have c6 := h6.cell
    have HN := Lib.hid hN
    clear hN
    have hsz := hB.size
    have hs2 := HSZ.out
    have hlt := h6.lt
    have hlt4 := h4.lt
    have hlt5 := h5.lt
    have hwi := hO.base
    have HO := Lib.hid hO
    clear hO
    gi_wp2_with fail
    gi_at_call 80
    refine (CallsIn.inRound l (callsIn_wide.2 (iMbs _ V b d 40 W HO.out.rd HN.out (by omega) (by omega) g2 d0 (by omega)))).mono ?_
    rintro e W1 ⟨r, rfl, ho, hb⟩
    have hnn : 0 ≤ V * b + d := by have := Int.mul_nonneg HN.out.nn (show 0 ≤ b by omega); omega
    have q3 := Below.boxed hb h3 h3.lt
    have q4 := Below.boxed hb h4 hlt4
    have q5 := Below.boxed hb h5 hlt5
    have q6 := Below.boxed hb h6 hlt
    have c6 := q6.cell
    have f6 := q6.frozen
    have KK := Lib.hid ((Below.keeps hb).from wi.heap.size)
    have KBB := Lib.hid (Below.kb hb (n₀ := w.heap.size) (Bs := w1.heap.size + 1) hsz (by omega))
    have BB := Lib.hid (hB.trans (hb.mono hsz))
    have hs1 := hb.size
    clear hb hB
    obtain ⟨Z, hZ⟩ : ∃ Z, Z = canOf (V * b + d) := ⟨_, rfl⟩
    have HFZ : Hid (fdF zs b P2 = if Z.length ≤ 40 then some (V * b + d) else none) := Lib.hid (by rw [HF.out, hZ]; rfl)
    rw [← hZ] at ho
    obtain ⟨ra, rc, rfl⟩ := ho.shape
    have HO2 := Lib.hid ho
    have HZ := Lib.hid hZ
    have hoc : Below w.heap.size w1 w1 := Below.refl _ _
    clear ho hZ
    have r3 : Boxed (W1.setCell ⟨w1.heap.size, 0, none⟩ (.slice ra Z.length rc)) w.heap.size 2 (.int .i64 b) := q3.other (by omega) _
    have r4 : Boxed (W1.setCell ⟨w1.heap.size, 0, none⟩ (.slice ra Z.length rc)) (w.heap.size + 1) 22 (.slice none 0 0) := q4.other (by omega) _
    have r5 : Boxed (W1.setCell ⟨w1.heap.size, 0, none⟩ (.slice ra Z.length rc)) (w.heap.size + 1 + 1) 2 (.int .i64 0) := q5.other (by omega) _
    have r6 : Boxed (W1.setCell ⟨w1.heap.size, 0, none⟩ (.slice ra Z.length rc)) w1.heap.size 22 (.slice ra Z.length rc) := q6.set _
    have KK2 := Lib.hid (KK.out.trans ((KeepsOthers.setCell W1 ⟨w1.heap.size, 0, none⟩ (.slice ra Z.length rc)).from wi.heap.size))
    have KB2 := Lib.hid (KBB.out.trans (kbSet W1 (n₀ := w.heap.size) (Bs := w1.heap.size + 1) (p := ⟨w1.heap.size, 0, none⟩) (by show w.heap.size ≤ w1.heap.size; omega) (by show w1.heap.size + 1 ≠ w1.heap.size; omega) (.slice ra Z.length rc)))
    have BB2 := Lib.hid (BB.out.setCell (p := ⟨w1.heap.size, 0, none⟩) (by show w.heap.size ≤ w1.heap.size; omega) (.slice ra Z.length rc))
    have HO3 : Hid (Ow (W1.setCell ⟨w1.heap.size, 0, none⟩ (.slice ra Z.length rc)) wi.heap.size (W1.setCell ⟨w1.heap.size, 0, none⟩ (.slice ra Z.length rc)).heap.size (.slice ra Z.length rc) Z) := Lib.hid (((HO2.out.mono hwi (Nat.le_refl _) (Nat.le_refl _)).grown (grownBy_setCell' W1 w1.heap.size _) (by
      rcases HO2.out.form with ⟨h, _⟩ | ⟨g, cc, h, hg, _⟩
      · rw [h]; exact .inl rfl
      · rw [h]; exact .inr (by simp [Value.ownBlock]; omega))).up)
    have k6 := r6.cell
    have k4 := r4.cell
    have k5 := r5.cell
    have l4 := r4.frozen
    have l5 := r5.frozen
    have m4 := q4.frozen
    have m5 := q5.frozen
    by_cases hz : 40 < Z.length
    · have hz2 : decide ((40 : Int) < (Z.length : Int)) = true := decide_eq_true (by omega)
      have t5 : Boxed ((W1.setCell ⟨w1.heap.size, 0, none⟩ (.slice ra Z.length rc)).setCell ⟨w.heap.size + 1, 0, none⟩ (.slice none 0 0)) (w.heap.size + 1 + 1) 2 (.int .i64 0) := r5.other (by omega) _
      have t4 : Boxed ((W1.setCell ⟨w1.heap.size, 0, none⟩ (.slice ra Z.length rc)).setCell ⟨w.heap.size + 1, 0, none⟩ (.slice none 0 0)) (w.heap.size + 1) 22 (.slice none 0 0) := r4.set _
      have n5 := t5.cell
      have x5 := t5.frozen
      have HX : Hid (fdF zs b P2 = none) := Lib.hid (by rw [HFZ.out, if_neg (by omega)])
      gi_wp2_with fail
      exact ⟨(KK2.out.trans ((KeepsOthers.setCell _ _ _).from _)).trans ((KeepsOthers.setCell _ _ _).from _), ⟨rfl, HX.out⟩, t4.other (by omega) _, t5.set _, (BB2.out.setCell (p := ⟨w.heap.size + 1, 0, none⟩) (by show w.heap.size ≤ w.heap.size + 1; omega) _).setCell (p := ⟨w.heap.size + 1 + 1, 0, none⟩) (by show w.heap.size ≤ w.heap.size + 1 + 1; omega) _⟩
    · have hz2 : decide ((40 : Int) < (Z.length : Int)) = false := decide_eq_false (by omega)
      have HX : Hid (fdF zs b P2 = some (V * b + d)) := Lib.hid (by rw [HFZ.out, if_pos (by omega)])
      have hn2 : Nn 40 (V * b + d) := nn_len' hnn (by rw [← HZ.out]; omega)
      gi_wp2_with fail
      exact ⟨KK2.out, KB2.out, r3, r4, r5, ⟨V * b + d, _, HX.out, hn2, r6, by rw [← HZ.out]; exact HO3.out⟩, BB2.out⟩
  case done =>
    rintro D ys W hD rfl ⟨h3, h4, h5, ⟨V, ov, hV, hN, h6, hO⟩, hB⟩ hK
    rw [fdF_all] at hV
    obtain ⟨v1, v2⟩ := fd_some hV
    obtain ⟨u1, u2⟩ := fg_good HK.out (by omega) v2
    have HL : Hid (fgL zs b = canOf V) := Lib.hid (by rw [u1, v1])
    have HC : Hid (fgC zs b = 0) := Lib.hid u2
    have hwi := hBI.size
    have hwi2 := hO.base
    have hs2 := HSZ.out
    obtain ⟨ga, gc, rfl⟩ := hO.shape
    obtain ⟨Z, hZ⟩ : ∃ Z, Z = canOf V := ⟨_, rfl⟩
    rw [← hZ] at HL hO h6
    clear hZ u1 u2 v1 v2 hV hN
    have k6 := h6.cell
    have k4 := h4.cell
    have l4 := h4.frozen
    have t4 : Boxed (W.setCell ⟨w.heap.size + 1, 0, none⟩ (.slice ga Z.length gc)) (w.heap.size + 1) 22 (.slice ga Z.length gc) := h4.set _
    have t5 : Boxed (W.setCell ⟨w.heap.size + 1, 0, none⟩ (.slice ga Z.length gc)) (w.heap.size + 1 + 1) 2 (.int .i64 0) := h5.other (by omega) _
    have k5 := t5.cell
    have l5 := h5.frozen
    have l5' := t5.frozen
    have z4 : Boxed ((W.setCell ⟨w.heap.size + 1, 0, none⟩ (.slice ga Z.length gc)).setCell ⟨w.heap.size + 1 + 1, 0, none⟩ (.int .i64 0)) (w.heap.size + 1) 22 (.slice ga Z.length gc) := t4.other (by omega) _
    have z5 : Boxed ((W.setCell ⟨w.heap.size + 1, 0, none⟩ (.slice ga Z.length gc)).setCell ⟨w.heap.size + 1 + 1, 0, none⟩ (.int .i64 0)) (w.heap.size + 1 + 1) 2 (.int .i64 0) := t5.set _
    have hBz := (hB.setCell (p := ⟨w.heap.size + 1, 0, none⟩) (by show w.heap.size ≤ w.heap.size + 1; omega) (.slice ga Z.length gc)).setCell (p := ⟨w.heap.size + 1 + 1, 0, none⟩) (by show w.heap.size ≤ w.heap.size + 1 + 1; omega) (.int .i64 0)
    have hOz : Ow ((W.setCell ⟨w.heap.size + 1, 0, none⟩ (.slice ga Z.length gc)).setCell ⟨w.heap.size + 1 + 1, 0, none⟩ (.int .i64 0)) wi.heap.size W.heap.size (.slice ga Z.length gc) Z := by
      have hne : ∀ q, q < wi.heap.size → (Value.slice ga Z.length gc).ownBlock = none ∨ (Value.slice ga Z.length gc).ownBlock ≠ some q := fun q hq => by
        rcases hO.form with ⟨h, _⟩ | ⟨g, cc, h, hg, _⟩
        · rw [h]; exact .inl rfl
        · rw [h]; exact .inr (by simp [Value.ownBlock]; omega)
      exact (hO.grown (grownBy_setCell' W _ _) (hne _ (by omega))).grown (grownBy_setCell' _ _ _) (hne _ (by omega))
    have hKz := ((KeepsOthers.setCell W ⟨w.heap.size + 1, 0, none⟩ (.slice ga Z.length gc)).trans (KeepsOthers.setCell _ ⟨w.heap.size + 1 + 1, 0, none⟩ (.int .i64 0))).same D _ hK rfl
    have HZ4 := Lib.hid z4
    have HZ5 := Lib.hid z5
    have HBZ := Lib.hid hBz
    have HOZ := Lib.hid hOz
    have HKZ := Lib.hid hKz
    clear z4 z5 hBz hOz hKz t4 t5 h3 h4 h5 h6 hO hB
    gi_wp2_with fail
    refine ⟨by simp, .inl ⟨_, _, rfl, run_takeDeferred HKZ.out, ?_⟩⟩
    have y4 := cell_kept HZ4.out.cell (grownBy_putObj' _ D (.deferred none)) (fun r e => by cases e; exact ⟨_, HKZ.out, rfl⟩)
    have y5 := cell_kept HZ5.out.cell (grownBy_putObj' _ D (.deferred none)) (fun r e => by cases e; exact ⟨_, HKZ.out, rfl⟩)
    refine ⟨.tuple #[.slice ga Z.length gc, .int .i64 0], by simp [results, Try.f54, go_sem, y4, y5], _, by rw [HC.out] <;> rfl, ?_, HBZ.out.trans (belowK_b (w := w) (Nat.le_refl _) _ D _ _ (by omega) HKZ.out rfl rfl)⟩
    rw [HL.out]
    exact ((HOZ.out.abide (grownBy_putObj' _ D (.deferred none)) (fun r e => by cases e; exact ⟨_, HKZ.out, rfl⟩)).mono (by omega) (Nat.le_refl _) (by have := HOZ.out.size; simp)).up
  case stop =>
    rintro D k pre W hD ⟨m, hm, rfl⟩ ⟨⟨rfl, hn⟩, h4, h5, hB⟩ hK
    obtain ⟨v1, v2⟩ := fd_none (fdF_stop hm hn)
    have e := Lib.hid (fg_full HK.out (by omega) v2)
    have hwi := hBI.size
    gi_wp2_with fail
    refine ⟨by simp, .inl ⟨_, _, rfl, run_takeDeferred hK, ?_⟩⟩
    have y4 := cell_kept h4.cell (grownBy_putObj' _ D (.deferred none)) (fun r e => by cases e; exact ⟨_, hK, rfl⟩)
    have y5 := cell_kept h5.cell (grownBy_putObj' _ D (.deferred none)) (fun r e => by cases e; exact ⟨_, hK, rfl⟩)
    have hBf := hB.trans (belowK_b (w := w) (Nat.le_refl _) W D _ (.deferred none) (by omega) hK rfl rfl)
    exact ⟨.tuple #[.slice none 0 0, .int .i64 5], by simp [results, Try.f54, go_sem, y4, y5], _, by rw [e.out.2] <;> rfl, by rw [e.out.1]; exact Ow.emptyUp hBf.size, hBf⟩
theorem implFromDigits (u : Value) (zs : List Int) (b : Int) (w : World) (hu : Rd w u zs) :
    Calls Try.prog 54 #[u, .int .i64 b] w fun e w' => ∃ r, e = .returned (.tuple #[r, .int .i64 (fgC zs b)]) ∧ Ow w' w.heap.size w'.heap.size r (fgL zs b) ∧ Below w.heap.size w w' :=
  callsIn_wide.1 (implFd_in u zs b w hu)
end Go.Proofs.Ytmbppdebpjgjnaa.Ints
