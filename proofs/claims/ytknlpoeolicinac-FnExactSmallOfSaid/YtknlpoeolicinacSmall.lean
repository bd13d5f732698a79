/- Contracts of SmallOf, of the model and of the program. -/
import Derived.Test.YtknlpoeolicinacBack
import Derived.Test.YtknlpoeolicinacNat
namespace Go.Proofs.Ytknlpoeolicinac.Ints
open Go.RowKit Go.Shelf
set_option linter.unusedVariables false
attribute [local go_sem] Oper.semAt_some

/-- The value so far, from the last limb on. -/
def accR (zs : List Int) : Nat → Int
  | 0 => 0
  | k + 1 => accR zs k * 1000000 + zs.getD (zs.length - 1 - k) 0
def accW {zs : List Int} (pre : List (At zs)) : Int := pre.foldl (fun v x => wrap64 (wrap64 (v * 1000000) + x.1.2)) 0
theorem accW_snoc {zs : List Int} (pre : List (At zs)) (x : At zs) : accW (pre ++ [x]) = wrap64 (wrap64 (accW pre * 1000000) + x.1.2) := by simp [accW]
def small (zs : List Int) : Int := accR zs zs.length
noncomputable def smV (zs : List Int) : Int := if natB zs = true ∧ zs.length ≤ 3 ∧ small zs ≤ 1000000000000 then small zs else 0
noncomputable def smC (zs : List Int) : Int := if natB zs = true then (if zs.length ≤ 3 ∧ small zs ≤ 1000000000000 then 0 else 5) else 1

theorem natB_iff {zs : List Int} (h : natB zs = true) : Natl zs := by simpa [natB] using h
theorem accW_step (zs : List Int) (hd : Dig 1000000 zs) (k : Nat) (hk : k < zs.length) (he : accW (dnR zs k) = accR zs k) (h0 : 0 ≤ accR zs k) (h1 : accR zs k ≤ 999999999999) :
    accW (dnR zs (k + 1)) = accR zs (k + 1) ∧ 0 ≤ accR zs (k + 1) ∧ accR zs (k + 1) ≤ accR zs k * 1000000 + 999999 := by
  have hlt : zs.length - 1 - k < zs.length := by omega
  obtain ⟨d0, d1⟩ := hd _ hlt
  have e : zs[zs.length - 1 - k]?.getD 0 = zs.getD (zs.length - 1 - k) 0 := (List.getD_eq_getElem?_getD ..).symm
  rw [dnR, dif_pos hlt, accW_snoc, he, accR]
  dsimp only
  rw [e, IntWalk.wrap64_in (accR zs k * 1000000) ⟨by omega, by omega⟩, IntWalk.wrap64_in _ ⟨by omega, by omega⟩]
  exact ⟨rfl, by omega, by omega⟩
theorem acc_eq (zs : List Int) (hd : Dig 1000000 zs) (h3 : zs.length ≤ 3) : accW (dnA zs 0) = small zs ∧ 0 ≤ small zs ∧ small zs ≤ 999999999999999999 := by
  unfold dnA small
  rw [Nat.sub_zero]
  have s0 : accW (dnR zs 0) = accR zs 0 := rfl
  have z0 : accR zs 0 = 0 := rfl
  have c : zs.length = 0 ∨ zs.length = 1 ∨ zs.length = 2 ∨ zs.length = 3 := by omega
  rcases c with c | c | c | c
  · rw [c]; exact ⟨s0, by omega, by omega⟩
  · obtain ⟨s1, a1, b1⟩ := accW_step zs hd 0 (by omega) s0 (by omega) (by omega)
    simp only [Nat.reduceAdd] at s1 a1 b1
    rw [c]; exact ⟨s1, by omega, by omega⟩
  · obtain ⟨s1, a1, b1⟩ := accW_step zs hd 0 (by omega) s0 (by omega) (by omega)
    simp only [Nat.reduceAdd] at s1 a1 b1
    obtain ⟨s2, a2, b2⟩ := accW_step zs hd 1 (by omega) s1 (by omega) (by omega)
    simp only [Nat.reduceAdd] at s2 a2 b2
    rw [c]; exact ⟨s2, by omega, by omega⟩
  · obtain ⟨s1, a1, b1⟩ := accW_step zs hd 0 (by omega) s0 (by omega) (by omega)
    simp only [Nat.reduceAdd] at s1 a1 b1
    obtain ⟨s2, a2, b2⟩ := accW_step zs hd 1 (by omega) s1 (by omega) (by omega)
    simp only [Nat.reduceAdd] at s2 a2 b2
    obtain ⟨s3, a3, b3⟩ := accW_step zs hd 2 (by omega) s2 (by omega) (by omega)
    simp only [Nat.reduceAdd] at s3 a3 b3
    rw [c]; exact ⟨s3, by omega, by omega⟩
theorem KB.setCell {n₀ Bs : Nat} (W : World) {p : Addr} (h : n₀ ≤ p.block) (hB : Bs ≠ p.block) (u : Value) : KB n₀ Bs W (W.setCell p u) :=
  ⟨(Below.refl n₀ W).setCell h u, Below.heap_setCell W p u Bs hB⟩

set_option maxRecDepth 100000 in
set_option maxHeartbeats 2000000 in
theorem implSmall_in (v : Value) (zs : List Int) (w : World) (h : Rd w v zs) (hn : natB zs = true) (h3 : zs.length ≤ 3) :
    CallsIn Fence.wide 6 Try.prog 20 #[v] w fun e w' => e = .returned (.tuple #[.int .i64 (smV zs), .int .i64 (smC zs)]) ∧ Below w.heap.size w w' := by
  have H := Lib.hid h
  obtain ⟨hl, hf, a, c, rfl, hcap, hr⟩ := h
  have h3' : ¬ (3 : Int) < (zs.length : Int) := by omega
  have HN := Lib.hid hn
  have HA := Lib.hid (acc_eq zs (natB_iff hn).2.1 h3)
  have HR := Lib.hid hr
  clear hr hn
  refine callsIn_of_wp_marks Try.func20 rfl trivial ?_ rfl
  simp only [Try.ntmps20, List.size_toArray, List.length_cons, List.length_nil, Nat.reduceAdd, Nat.reduceSub, Array.replicate_succ, Array.replicate_zero, List.push_toArray, List.append_toArray, List.nil_append, List.cons_append]
  gi_wp2_with (first | (refine ⟨trivial, ?_⟩; gi_at_call 17; refine (callsIn_wide.2 (implNat _ zs _ H.out)).mono ?_; rintro e w1 ⟨rfl, hb⟩; rw [HN.out]; have HB := Lib.hid hb; clear hb) | (refine ⟨trivial, ?_⟩; gi_at_call 46; refine (back_in Fence.wide _ trivial rfl _ ⟨_, _, _, rfl⟩ _).mono ?_; rintro e w' ⟨rfl, rfl⟩))
  have bV := Boxed.new w1 2 (.int .i64 0)
  have bN := Boxed.new (w1.alloc (.cells #[.int .i64 0] 2)) 22 (.slice a zs.length c)
  rw [World.size_alloc] at bN
  have hB0 : Below w1.heap.size w1 ((w1.alloc (.cells #[.int .i64 0] 2)).alloc (.cells #[.slice a zs.length c] 22)) := ((Below.refl _ w1).alloc (Nat.le_refl _) _).alloc (by simp) _
  have hsz := HB.out.size
  have hcs : zs ≠ [] → ∃ b o, a = some ⟨b, o, none⟩ ∧ b < w1.heap.size ∧ ∀ j, j < zs.length → ((w1.alloc (.cells #[.int .i64 0] 2)).alloc (.cells #[.slice a zs.length c] 22)).cell? ⟨b, o + j, none⟩ = some (.int .i64 (zs[j]?.getD 0)) := fun hne => by
    obtain ⟨b, o, ha, hb, hc⟩ := HR.out hne
    refine ⟨b, o, ha, by omega, fun j hj => ?_⟩
    rw [hB0.cell (p := ⟨b, o + j, none⟩) (by show b < _; omega), HB.out.cell (p := ⟨b, o + j, none⟩) hb, hc j hj, List.getD_eq_getElem?_getD]
  refine wpIn_rangeFunc_ownG rfl (by omega) (gf := 72) (lb := #[.pointer (some ⟨w1.heap.size + 1, 0, none⟩)]) rfl trivial (enters_of Try.func72 (by kernel_rfl) rfl)
    (back_stops Fence.wide 5 trivial rfl (by omega) (w1.heap.size + 1) w1.heap.size a c zs hl _ (by simp) (by simp; omega) bN.cell hcs) KB.trans (KB.book (by simp; omega) (by simp)) (Below.refl _ _) (fun _ => rfl)
    (fun pre W => (W.cell? ⟨w1.heap.size, 0, none⟩ = some (.int .i64 (accW pre)) ∧ W.frozen? ⟨w1.heap.size, 0, none⟩ = false) ∧ Below w1.heap.size w1 W)
    (fun _ _ _ => False)
    (OwnFrom.and (Own.from (fun s A B row hs hg hr => ⟨cell_kept hs.1 hg hr, (frozen_kept hs.1 hg hr).trans hs.2⟩) _) (ownFrom_below (Nat.le_refl _) (by simp; omega)))
    (fun _ _ _ _ _ hs _ _ => hs)
    ⟨⟨(bV.alloc _).cell, (bV.alloc _).frozen⟩, hB0⟩
    (fun x => { tmps := #[Value.slice a zs.length c, undef, Value.int IntKind.i64 0, Value.int IntKind.i64 0,
          Value.pointer (some { block := w1.heap.size, off := 0 }), undef, .int .i64 x.1.2, Value.slice a zs.length c,
          Value.bool true, Value.bool false, Value.slice a zs.length c, Value.int IntKind.i64 zs.length,
          Value.bool (decide ((3 : Int) < zs.length)), Value.slice a zs.length c,
          Value.func (Fn.func 72) #[] #[Value.pointer (some { block := w1.heap.size + 1, off := 0 })], .int .i64 ((x.1.1 : Nat) : Int), .int .i64 x.1.2,
          undef, undef, undef, undef, undef, undef, undef], defers := [] }) ?assign ?body ?done ?stop
  case assign =>
    intro l x W K hK
    gi_wp2
    exact hK
  case body =>
    rintro l pre x W ⟨⟨hc, hf'⟩, hB⟩ _
    gi_wp2
    exact ⟨(KeepsOthers.setCell _ _ _).from _, KB.setCell (n₀ := w1.heap.size) (Bs := w1.heap.size + 1) W (p := ⟨w1.heap.size, 0, none⟩) (Nat.le_refl _) (by show w1.heap.size + 1 ≠ w1.heap.size; omega) _, ⟨by rw [accW_snoc]; exact World.cell?_setCell_same' _ _ _ (by rw [hc]; rfl), by rw [World.frozen?_setCell]; exact hf'⟩, hB.setCell (p := ⟨w1.heap.size, 0, none⟩) (Nat.le_refl _) _⟩
  case done =>
    rintro D ys W hD rfl ⟨⟨hc, _⟩, hB⟩ hK
    rw [HA.out.1] at hc
    have HBB := Lib.hid (HB.out.trans ((hB.trans (belowK_b (w := w1) (Nat.le_refl _) W D _ (.deferred none) (by simp at hD; omega) hK rfl rfl)).mono hsz))
    by_cases hbig : 1000000000000 < small zs
    · have HV : Hid (smV zs = 0 ∧ smC zs = 5) := Lib.hid (by
        have : ¬ small zs ≤ 1000000000000 := by omega
        simp [smV, smC, HN.out, h3, this])
      gi_wp2
      refine ⟨by simp, .inl ⟨_, _, rfl, run_takeDeferred hK, ?_⟩⟩
      exact ⟨_, results_tmp2 rfl _ _ _, by rw [HV.out.1, HV.out.2] <;> rfl, HBB.out⟩
    · have HV : Hid (smV zs = small zs ∧ smC zs = 0) := Lib.hid (by
        have : small zs ≤ 1000000000000 := by omega
        simp [smV, smC, HN.out, h3, this])
      gi_wp2
      refine ⟨by simp, .inl ⟨_, _, rfl, run_takeDeferred hK, ?_⟩⟩
      exact ⟨_, results_tmp2 rfl _ _ _, by rw [HV.out.1, HV.out.2] <;> rfl, HBB.out⟩
  case stop =>
    rintro D c pre W _ _ h _
    exact h.elim
theorem implSmall (v : Value) (zs : List Int) (w : World) (h : Rd w v zs) :
    Calls Try.prog 20 #[v] w fun e w' => e = .returned (.tuple #[.int .i64 (smV zs), .int .i64 (smC zs)]) ∧ Below w.heap.size w w' := by
  have H := Lib.hid h
  cases hn : natB zs with
  | false =>
    have HN := Lib.hid hn
    have HV : Hid (smV zs = 0 ∧ smC zs = 1) := Lib.hid (by simp [smV, smC, hn])
    clear hn h
    go_enter Try.func20, Try.ntmps20
    go_wp2_with (go_at_call 17; refine (implNat _ zs _ H.out).mono ?_; rintro e w' ⟨rfl, hb⟩; rw [HN.out]; have HB := Lib.hid hb; clear hb)
    go_ret2
    exact ⟨by rw [HV.out.1, HV.out.2] <;> rfl, HB.out⟩
  | true =>
    by_cases h3 : zs.length ≤ 3
    · exact callsIn_wide.1 (implSmall_in v zs w h hn h3)
    · have HN := Lib.hid hn
      have HV : Hid (smV zs = 0 ∧ smC zs = 5) := Lib.hid (by simp [smV, smC, hn, h3])
      have h3' : (3 : Int) < (zs.length : Int) := by omega
      obtain ⟨hl, hf, a, c, rfl, hcap, hr⟩ := h
      clear hn hr
      go_enter Try.func20, Try.ntmps20
      go_wp2_with (go_at_call 17; refine (implNat _ zs _ H.out).mono ?_; rintro e w' ⟨rfl, hb⟩; rw [HN.out]; have HB := Lib.hid hb; clear hb)
      go_ret2
      exact ⟨by rw [HV.out.1, HV.out.2] <;> rfl, HB.out⟩
def lsV (zs : List Int) : Int := if zs.length ≤ 3 then small zs else 0
def lsB (zs : List Int) : Bool := decide (zs.length ≤ 3 ∧ small zs ≤ 1000000000000)
set_option maxHeartbeats 1000000 in
theorem specSmallLoop (v : Value) (zs : List Int) (w : World) (h : Rd w v zs) (hd : Dig 1000000 zs) :
    Calls Try.prog 45 #[v] w fun e w' => e = .returned (.tuple #[.int .i64 (lsV zs), .bool (lsB zs)]) ∧ w = w' := by
  obtain ⟨hl, hf, a, c, rfl, hcap, hr⟩ := h
  by_cases h3 : zs.length ≤ 3
  · have h3' : ¬ (3 : Int) < (zs.length : Int) := by omega
    have HA := Lib.hid (acc_eq zs hd h3)
    have HD := Lib.hid hd
    have H3 := Lib.hid h3
    have HR := Lib.hid hr
    clear hd hr
    go_enter Try.func45, Try.ntmps45
    go_wp2
    go_loop [4, 5] (fun o i => ∃ (k m : Nat), k + m = zs.length ∧ i = .int .i64 ((m : Int) - 1) ∧ o = .int .i64 (accW (dnR zs k)) ∧ accW (dnR zs k) = accR zs k ∧ 0 ≤ accR zs k ∧ (k = 0 ∧ accR zs k ≤ 0 ∨ k = 1 ∧ accR zs k ≤ 999999 ∨ k = 2 ∧ accR zs k ≤ 999999999999 ∨ k = 3 ∧ accR zs k ≤ 999999999999999999)) (fun _ i => (intOf i + 1).toNat)
    case atStart => exact ⟨0, zs.length, by omega, rfl, rfl, rfl, Int.le_refl _, .inl ⟨rfl, Int.le_refl _⟩⟩
    case round =>
      obtain ⟨k, m, hkm, hi, ho, he, h0, hb⟩ := hrel
      rw [he] at ho
      obtain rfl := ho
      obtain ⟨q, hq⟩ : ∃ q, q = accR zs k := ⟨_, rfl⟩
      rw [← hq] at h0 hb
      have HE := Lib.hid he
      have HB := Lib.hid hb
      cases m with
      | zero =>
        obtain rfl := hi
        obtain rfl : k = zs.length := by omega
        have HQ : Hid (q = small zs) := Lib.hid (by rw [hq]; rfl)
        rw [← hq]
        clear hb he hq hkm
        have HF : Hid (lsB zs = decide (q ≤ 1000000000000) ∧ lsV zs = q) := Lib.hid (by rw [HQ.out]; simp [lsB, lsV, H3.out])
        go_wp2
        all_goals
          go_ret2
          exact ⟨by rw [HF.out.1, HF.out.2] <;> rfl, rfl⟩
      | succ m =>
        rw [show (((m + 1 : Nat) : Int) - 1) = (m : Int) by omega] at hi
        obtain rfl := hi
        obtain ⟨b, o, rfl, hb', hcell⟩ := HR.out (by intro hz; rw [hz] at hkm; simp at hkm)
        have hmk : zs.length - 1 - k = m := by omega
        obtain ⟨x, hx⟩ : ∃ x, x = zs.getD m 0 := ⟨_, rfl⟩
        have hc := hcell m (by omega)
        rw [← hx] at hc
        have hdx := HD.out m (by omega)
        rw [← hx] at hdx
        obtain ⟨x0, x1⟩ := hdx
        have hq1 : q ≤ 999999999999 := by omega
        have HS := Lib.hid (accW_step zs HD.out k (by omega) he (by omega) (by omega))
        have HX : Hid (accR zs (k + 1) = q * 1000000 + x) := Lib.hid (by rw [accR, hmk, ← hx, hq])
        have i0 : (0 : Int) ≤ (m : Int) := by omega
        have i1 : (m : Int) < (zs.length : Int) := by omega
        have HK := Lib.hid hkm
        rw [← hq]
        clear hb he hq hkm hx hmk hcell
        go_wp2
        go_round
        case rel => exact ⟨k + 1, m, by have := HK.out; omega, rfl, by rw [HS.out.1, HX.out], HS.out.1, HS.out.2.1, by
          have a := HX.out
          have b := HB.out
          have c := HK.out
          have d := H3.out
          omega⟩
        case measure => simp [intOf]
  · have h3' : (3 : Int) < (zs.length : Int) := by omega
    have HF : Hid (lsB zs = false ∧ lsV zs = 0) := Lib.hid (by simp [lsB, lsV, h3])
    clear h3 hr
    go_enter Try.func45, Try.ntmps45
    go_wp2
    go_ret2
    exact ⟨by rw [HF.out.1, HF.out.2] <;> rfl, rfl⟩
theorem specSmall (v : Value) (zs : List Int) (w : World) (h : Rd w v zs) :
    Calls Try.prog 19 #[v] w fun e w' => e = .returned (.tuple #[.int .i64 (smV zs), .int .i64 (smC zs)]) ∧ Below w.heap.size w w' := by
  have H := Lib.hid h
  cases hn : natB zs with
  | false =>
    have HN := Lib.hid hn
    have HV : Hid (smV zs = 0 ∧ smC zs = 1) := Lib.hid (by simp [smV, smC, hn])
    clear hn h
    go_enter Try.func19, Try.ntmps19
    go_wp2_with (go_at_call 43; refine (specNat _ zs _ H.out).mono ?_; rintro e w' ⟨rfl, rfl⟩; rw [HN.out])
    go_ret2
    exact ⟨by rw [HV.out.1, HV.out.2] <;> rfl, Below.refl _ _⟩
  | true =>
    have HN := Lib.hid hn
    have HD := Lib.hid (natB_iff hn).2.1
    by_cases hs : zs.length ≤ 3 ∧ small zs ≤ 1000000000000
    · have HV : Hid (smV zs = small zs ∧ smC zs = 0) := Lib.hid (by simp [smV, smC, hn, hs.1, hs.2])
      have HS : Hid (lsB zs = true ∧ lsV zs = small zs) := Lib.hid (by simp [lsB, lsV, hs.1, hs.2])
      clear hn h hs
      go_enter Try.func19, Try.ntmps19
      go_wp2_with (first | (go_at_call 43; refine (specNat _ zs _ H.out).mono ?_; rintro e w' ⟨rfl, rfl⟩; rw [HN.out]) | (go_at_call 45; refine (specSmallLoop _ zs _ H.out HD.out).mono ?_; rintro e w' ⟨rfl, rfl⟩; rw [HS.out.1, HS.out.2]))
      go_ret2
      exact ⟨by rw [HV.out.1, HV.out.2] <;> rfl, Below.refl _ _⟩
    · have HV : Hid (smV zs = 0 ∧ smC zs = 5) := Lib.hid (by
        by_cases h3 : zs.length ≤ 3
        · have : ¬ small zs ≤ 1000000000000 := fun hh => hs ⟨h3, hh⟩
          simp [smV, smC, hn, h3, this]
        · simp [smV, smC, hn, h3])
      have HS : Hid (lsB zs = false) := Lib.hid (by simp only [lsB, decide_eq_false hs])
      clear hn h hs
      go_enter Try.func19, Try.ntmps19
      go_wp2_with (first | (go_at_call 43; refine (specNat _ zs _ H.out).mono ?_; rintro e w' ⟨rfl, rfl⟩; rw [HN.out]) | (go_at_call 45; refine (specSmallLoop _ zs _ H.out HD.out).mono ?_; rintro e w' ⟨rfl, rfl⟩; rw [HS.out]))
      go_ret2
      exact ⟨by rw [HV.out.1, HV.out.2] <;> rfl, Below.refl _ _⟩

end Go.Proofs.Ytknlpoeolicinac.Ints
