/- A natural chosen by bytes. -/
import Derived.Test.YtfnopnaaahkklaaB10
import Derived.Test.YtfnopnaaahkklaaMul
namespace Go.Proofs.Ytfnopnaaahkklaa.Ints
open Go.RowKit
set_option linter.unusedVariables false
set_option linter.unusedSimpArgs false
theorem cellBuilt (w : World) (xs : List Int) (j : Nat) (hj : j < xs.length) : (w.alloc (.cells (xs.map (Value.int .i64)).toArray 2)).cell? ⟨w.heap.size, j, none⟩ = some (.int .i64 (xs.getD j 0)) := by
  have h := (Cels.new w 2 (xs.map (Value.int .i64))).cell (v := .int .i64 (xs.getD j 0)) j (by
    rw [List.getElem?_map, List.getElem?_eq_getElem hj, List.getD_eq_getElem?_getD, List.getElem?_eq_getElem hj]; rfl)
  simpa using h
set_option maxHeartbeats 1000000 in
theorem srcOne (g k n B : Nat) (v : Value) (s m : Int) (w : World) (hc : Cels w g 63 [v, .int .i64 (k : Int), .int .u64 s]) (hv : RdB w B v n) (hg : B ≤ g) (hk : k ≤ 900) (h1 : 1 ≤ m) (h2 : m ≤ 60000) :
    Calls Try.prog 75 #[.pointer (some ⟨g, 0, none⟩), .int .i64 m] w fun e w' => ∃ (b : Bool) (s' : Int) (k' : Nat), e = .returned (.bool b) ∧ k' ≤ k + 2 ∧ Cels w' g 63 [v, .int .i64 (k' : Int), .int .u64 s'] ∧ Below g w w' ∧ Only (fun b => b = g) w w' := by
  have HC := Lib.hid hc
  have HV := Lib.hid hv
  clear hc hv
  go_enter Try.func75, Try.ntmps75
  go_wp2_with fail
  refine (srcPickW g k n B v s m _ HC.out HV.out hg hk h1 h2).mono ?_
  rintro e w1 ⟨x, s', k', rfl, x0, x1, hk', hc1, hb1, ho1⟩
  have HC1 := Lib.hid hc1
  have HB1 := Lib.hid hb1
  have HO1 := Lib.hid ho1
  clear hc1 hb1 ho1
  go_wp2
  go_ret
  exact ⟨_, s', k', rfl, hk', HC1.out, HB1.out, HO1.out⟩
set_option maxHeartbeats 1000000 in
theorem srcAmong (g k n B b : Nat) (v : Value) (s : Int) (xs : List Int) (w : World) (hc : Cels w g 63 [v, .int .i64 (k : Int), .int .u64 s]) (hv : RdB w B v n) (hg : B ≤ g) (hk : k ≤ 900)
    (hb : g < b) (hbs : b < w.heap.size) (hcell : ∀ j, j < xs.length → w.cell? ⟨b, j, none⟩ = some (.int .i64 (xs.getD j 0))) (h1 : 1 ≤ xs.length) (h2 : xs.length ≤ 200) :
    Calls Try.prog 76 #[.pointer (some ⟨g, 0, none⟩), .slice (some ⟨b, 0, none⟩) xs.length xs.length] w fun e w' => ∃ (x s' : Int) (k' : Nat), e = .returned (.int .i64 x) ∧ x ∈ xs ∧ k' ≤ k + 2 ∧ Cels w' g 63 [v, .int .i64 (k' : Int), .int .u64 s'] ∧ Below g w w' ∧ Only (fun b => b = g) w w' := by
  have HC := Lib.hid hc
  have HV := Lib.hid hv
  have HCE := Lib.hid hcell
  clear hc hv hcell
  go_enter Try.func76, Try.ntmps76
  go_wp2_with fail
  refine (srcPickW g k n B v s (xs.length : Int) _ HC.out HV.out hg hk (by omega) (by omega)).mono ?_
  rintro e w1 ⟨y, s', k', rfl, y0, y1, hk', hc1, hb1, ho1⟩
  obtain ⟨j, rfl⟩ : ∃ j : Nat, y = (j : Int) := ⟨y.toNat, by omega⟩
  have hj : j < xs.length := by omega
  obtain ⟨x, hx⟩ : ∃ x, x = xs.getD j 0 := ⟨_, rfl⟩
  have hcc : w1.cell? ⟨b, j, none⟩ = some (.int .i64 x) := by
    rw [hx]
    exact (World.cell?_of_block (a := ⟨b, j, none⟩) (ho1.block b hbs (by omega))).trans (HCE.out j hj)
  have HM : Hid (x ∈ xs) := Lib.hid (by rw [hx, List.getD_eq_getElem?_getD, List.getElem?_eq_getElem hj]; exact List.getElem_mem hj)
  have HC1 := Lib.hid hc1
  have HB1 := Lib.hid hb1
  have HO1 := Lib.hid ho1
  clear hc1 hb1 ho1 hx
  go_wp2
  go_ret
  exact ⟨x, s', k', rfl, HM.out, hk', HC1.out, HB1.out, HO1.out⟩
theorem trim_natB {xs : List Int} (h : ∀ y ∈ xs, 0 ≤ y ∧ y < 1000000) (hl : xs.length ≤ 40) : natB (trim xs) = true := by
  refine can_natB (trim_can fun i hi => ?_) (Nat.le_trans (trim_length xs) hl)
  rw [List.getD_eq_getElem?_getD, List.getElem?_eq_getElem hi]
  exact h _ (List.getElem_mem hi)
theorem limbs_natB {x : Int} (h0 : 0 ≤ x) (h1 : x ≤ 1000001) : natB (limbs x) = true := by
  obtain ⟨c, e⟩ := limbs_can h0
  have h10 : Pw 2 = 1000000000000 := by decide
  have := can_len (k := 2) c (by rw [e]; omega)
  exact can_natB c (by omega)
theorem fits_all {xs : List Int} (h : ∀ y ∈ xs, 0 ≤ y ∧ y < 1000000) {z : Int} (h0 : 0 ≤ z) (h1 : z < 1000000) : ∀ y ∈ xs ++ [z], 0 ≤ y ∧ y < 1000000 := fun y hy => by
  rcases List.mem_append.1 hy with hy | hy
  · exact h y hy
  · rw [List.mem_singleton] at hy; subst hy; exact ⟨h0, h1⟩
def slLen : Value → Nat
  | .slice _ n _ => n
  | _ => 0
theorem belowOnly {S : Nat → Prop} {w w' : World} (h : Below w.heap.size w w') : Only S w w' := ⟨h.os, h.tape, h.output, h.size, fun b hb _ => h.block b hb⟩
set_option maxRecDepth 100000 in
set_option maxHeartbeats 8000000 in
theorem specDraw (g k n B : Nat) (v : Value) (s : Int) (w : World) (hc : Cels w g 63 [v, .int .i64 (k : Int), .int .u64 s]) (hv : RdB w B v n) (hg : B ≤ g) (hk : k ≤ 400) :
    Calls Try.prog 53 #[.pointer (some ⟨g, 0, none⟩)] w fun e w' => ∃ (u : Value) (xs : List Int) (s' : Int) (k' : Nat), e = .returned u ∧ natB xs = true ∧ k' ≤ k + 100 ∧ Ow w' w.heap.size w'.heap.size u xs ∧ Cels w' g 63 [v, .int .i64 (k' : Int), .int .u64 s'] ∧ Below g w w' ∧ Only (fun b => b = g) w w' := by
  obtain ⟨i0, hi, hz0, hz1, hz2⟩ := info_parts infoE
  have HC := Lib.hid hc
  have HV := Lib.hid hv
  have hgs := hc.lt
  clear hc hv
  go_enter Try.func53, Try.ntmps53
  go_wp2_with fail
  refine (srcOne g k n B v s 2 _ HC.out HV.out hg (by omega) (by omega) (by omega)).mono ?_
  rintro e w1 ⟨b, s1, k1, rfl, hk1, hc1, hb1, ho1⟩
  have HC1 := Lib.hid hc1
  have HB1 := Lib.hid hb1
  have HO1 := Lib.hid ho1
  have hs1 := ho1.size
  clear hc1 hb1 ho1
  cases b with
  | true =>
    obtain ⟨xs, hxs⟩ : ∃ xs : List Int, xs = [0, 1, 2, 3, 6, 7, 9, 10, 24, 64, 97, 99, 100, 720, 999999, 1000000, 1000001, 30030] := ⟨_, rfl⟩
    have hxl : xs.length = 18 := by rw [hxs]; rfl
    have HXI : Hid (∀ y ∈ xs, 0 ≤ y ∧ y ≤ 1000001) := Lib.hid (by rw [hxs]; decide)
    have hal : (w1.alloc (.cells (xs.map (Value.int .i64)).toArray 2)) = w1.alloc (.cells #[.int .i64 0, .int .i64 1, .int .i64 2, .int .i64 3, .int .i64 6, .int .i64 7, .int .i64 9, .int .i64 10, .int .i64 24, .int .i64 64, .int .i64 97, .int .i64 99, .int .i64 100, .int .i64 720, .int .i64 999999, .int .i64 1000000, .int .i64 1000001, .int .i64 30030] 2) := by rw [hxs]; rfl
    have HCE := Lib.hid (cellBuilt w1 xs)
    rw [hal] at HCE
    have HBA : Hid (Below w1.heap.size w1 (w1.alloc (.cells #[.int .i64 0, .int .i64 1, .int .i64 2, .int .i64 3, .int .i64 6, .int .i64 7, .int .i64 9, .int .i64 10, .int .i64 24, .int .i64 64, .int .i64 97, .int .i64 99, .int .i64 100, .int .i64 720, .int .i64 999999, .int .i64 1000000, .int .i64 1000001, .int .i64 30030] 2))) := Lib.hid ((Below.refl _ _).alloc (Nat.le_refl _) _)
    have HAM := fun (a1 : _) (a2 : _) (a3 : _) => srcAmong g k1 n B w1.heap.size v s1 xs (w1.alloc (.cells #[.int .i64 0, .int .i64 1, .int .i64 2, .int .i64 3, .int .i64 6, .int .i64 7, .int .i64 9, .int .i64 10, .int .i64 24, .int .i64 64, .int .i64 97, .int .i64 99, .int .i64 100, .int .i64 720, .int .i64 999999, .int .i64 1000000, .int .i64 1000001, .int .i64 30030] 2)) a1 a2 hg (by omega) (by omega) a3 HCE.out (by omega) (by omega)
    rw [hxl] at HAM
    have HAMH := Lib.hid HAM
    clear hal HAM hxs
    go_wp2_with fail
    refine (HAMH.out (HC1.out.below HBA.out (by omega)) ((HV.out.below HB1.out hg).below HBA.out (by omega)) (by simp)).mono ?_
    rintro e w2 ⟨x, s2, k2, rfl, hx, hk2, hc2, hb2, ho2⟩
    have HX := Lib.hid (HXI.out x hx)
    have HC2 := Lib.hid hc2
    have hs2 : w1.heap.size ≤ w2.heap.size := Nat.le_trans HBA.out.size ho2.size
    have HB2 : Hid (Below g w w2) := Lib.hid ((HB1.out.trans (HBA.out.mono (by omega))).trans hb2)
    have HO2 : Hid (Only (fun b => b = g) w w2) := Lib.hid ((HO1.out.trans ⟨HBA.out.os, HBA.out.tape, HBA.out.output, HBA.out.size, fun b hb _ => HBA.out.block b hb⟩).trans ho2)
    clear hc2 hb2 ho2 hx
    go_wp2_with fail
    refine (specLimbs x _ HX.out.1 (by have := HX.out.2; omega)).mono ?_
    rintro e w3 ⟨u, rfl, ho, hb⟩
    have HO3 := Lib.hid (ho.mono (B' := w.heap.size) (by omega) (Nat.le_refl _) (Nat.le_refl _))
    have HC3 := Lib.hid (HC2.out.below hb (by omega))
    have HB3 := Lib.hid (HB2.out.trans (hb.mono (by omega)))
    have HOn3 : Hid (Only (fun b => b = g) w w3) := Lib.hid (HO2.out.trans ⟨hb.os, hb.tape, hb.output, hb.size, fun b hb' _ => hb.block b hb'⟩)
    clear ho hb
    go_wp2
    go_ret
    exact ⟨u, limbs x, s2, k2, rfl, limbs_natB HX.out.1 HX.out.2, by omega, HO3.out, HC3.out, HB3.out, HOn3.out⟩
  | false =>
    have HO2 := Lib.hid (Ow.made w1)
    have HA2 : Hid (Below w1.heap.size w1 (w1.alloc (.cells #[] 2))) := Lib.hid ((Below.refl _ _).alloc (Nat.le_refl _) _)
    go_wp2_with fail
    refine (srcPickW g k1 n B v s1 5 _ (HC1.out.below HA2.out (by omega)) ((HV.out.below HB1.out hg).below HA2.out (by omega)) hg (by omega) (by omega) (by omega)).mono ?_
    rintro e w2 ⟨y, s2, k2, rfl, y0, y1, hk2, hc2, hb2, ho2⟩
    obtain ⟨j0, rfl⟩ : ∃ j : Nat, y = (j : Int) := ⟨y.toNat, by omega⟩
    have wx : IntKind.i64.wrap (1 + (j0 : Int)) = 1 + (j0 : Int) := by rw [IntKind.wrap_i64]; omega
    have HC2 := Lib.hid hc2
    have HB2 : Hid (Below g w w2) := Lib.hid ((HB1.out.trans (HA2.out.mono (by omega))).trans hb2)
    have HOn2 : Hid (Only (fun b => b = g) w w2) := Lib.hid ((HO1.out.trans (belowOnly HA2.out)).trans ho2)
    have HO3 : Hid (Ow w2 w.heap.size w2.heap.size (.slice (some ⟨w1.heap.size, 0, none⟩) 0 0) []) := Lib.hid (((HO2.out.onlyQ ho2 (fun b h1 h2 h3 => by omega)).up).mono hs1 (Nat.le_refl _) (Nat.le_refl _))
    clear hc2 hb2 ho2
    go_wp2
    go_loopw [3, 4] (fun o q wr => ∃ (j k' : Nat) (s : Int) (xs : List Int) (ov : Value), o = ov ∧ q = .int .i64 (j : Int) ∧ j + xs.length ≤ 5 ∧ k' ≤ k + 6 + 6 * xs.length ∧ (∀ y ∈ xs, 0 ≤ y ∧ y < 1000000) ∧ Ow wr w.heap.size wr.heap.size ov xs ∧ Cels wr g 63 [v, .int .i64 (k' : Int), .int .u64 s] ∧ Below g w wr ∧ Only (fun b => b = g) w wr) (fun _ q _ => (intOf q).toNat)
    case atStart => exact ⟨1 + j0, k2, s2, [], _, rfl, by go_num, by simp; omega, by simp; omega, (fun y hy => by cases hy), HO3.out, HC2.out, HB2.out, HOn2.out⟩
    case round =>
      clear HC1 HB1 HO1 HO2 HA2 HC2 HB2 HOn2 HO3
      obtain ⟨j, kk, s, xs, ov, hov, rfl, hj, hkk, hin, how, hcl, hbel, hon⟩ := hrel
      obtain rfl := hov.symm
      have HO := Lib.hid how
      have HC := Lib.hid hcl
      have HB := Lib.hid hbel
      have HOn := Lib.hid hon
      have HIN := Lib.hid hin
      have hsz := hon.size
      obtain ⟨ga, gc, hu⟩ := how.shape
      subst hu
      clear hin how hcl hbel hon
      by_cases hp : 0 < j
      · have hp' : (0 : Int) < (j : Int) := by omega
        go_wp2_with fail
        refine (srcPickW g kk n B v s 1000 _ HC.out (HV.out.below HB.out hg) hg (by omega) (by omega) (by omega)).mono ?_
        rintro e w3 ⟨x, s3, k3, rfl, x0, x1, hk3, hc3, hb3, ho3⟩
        have HC3 := Lib.hid hc3
        have HB3 := Lib.hid (HB.out.trans hb3)
        have HOn3 := Lib.hid (HOn.out.trans ho3)
        have HO3 : Hid (Ow w3 w.heap.size w3.heap.size (.slice ga xs.length gc) xs) := Lib.hid ((HO.out.onlyQ ho3 (fun b h1 h2 h3 => by omega)).up)
        clear hc3 hb3 ho3
        go_wp2_with fail
        refine (srcPickW g k3 n B v s3 1000 _ HC3.out (HV.out.below HB3.out hg) hg (by omega) (by omega) (by omega)).mono ?_
        rintro e w4 ⟨y, s4, k4, rfl, y0, y1, hk4, hc4, hb4, ho4⟩
        have wy : IntKind.i64.wrap (y * 1000) = y * 1000 := by rw [IntKind.wrap_i64]; omega
        have HC4 := Lib.hid hc4
        have HB4 := Lib.hid (HB3.out.trans hb4)
        have HOn4 := Lib.hid (HOn3.out.trans ho4)
        have HO4 : Hid (Ow w4 w.heap.size w4.heap.size (.slice ga xs.length gc) xs) := Lib.hid ((HO3.out.onlyQ ho4 (fun b h1 h2 h3 => by omega)).up)
        have hs4 := HOn4.out.size
        obtain ⟨ls, hls⟩ : ∃ ls : List Int, ls = [0, 1, 2, 999999, 500000, x, y * 1000] := ⟨_, rfl⟩
        have hll : ls.length = 7 := by rw [hls]; rfl
        have HLI : Hid (∀ z ∈ ls, 0 ≤ z ∧ z < 1000000) := Lib.hid (by
          rw [hls]
          intro z hz
          simp only [List.mem_cons, List.not_mem_nil, or_false] at hz
          omega)
        have hal : (w4.alloc (.cells (ls.map (Value.int .i64)).toArray 2)) = w4.alloc (.cells #[.int .i64 0, .int .i64 1, .int .i64 2, .int .i64 999999, .int .i64 500000, .int .i64 x, .int .i64 (y * 1000)] 2) := by rw [hls]; rfl
        have HCE := Lib.hid (cellBuilt w4 ls)
        rw [hal] at HCE
        have HBA : Hid (Below w4.heap.size w4 (w4.alloc (.cells #[.int .i64 0, .int .i64 1, .int .i64 2, .int .i64 999999, .int .i64 500000, .int .i64 x, .int .i64 (y * 1000)] 2))) := Lib.hid ((Below.refl _ _).alloc (Nat.le_refl _) _)
        have HAM := fun (a1 : _) (a2 : _) (a3 : _) => srcAmong g k4 n B w4.heap.size v s4 ls (w4.alloc (.cells #[.int .i64 0, .int .i64 1, .int .i64 2, .int .i64 999999, .int .i64 500000, .int .i64 x, .int .i64 (y * 1000)] 2)) a1 a2 hg (by omega) (by omega) a3 HCE.out (by omega) (by omega)
        rw [hll] at HAM
        have HAMH := Lib.hid HAM
        clear hc4 hb4 ho4 hal HAM hls
        go_wp2_with fail
        refine (HAMH.out (HC4.out.below HBA.out (by omega)) ((HV.out.below HB4.out hg).below HBA.out (by omega)) (by simp)).mono ?_
        rintro e w5 ⟨z, s5, k5, rfl, hz, hk5, hc5, hb5, ho5⟩
        have HZ := Lib.hid (HLI.out z hz)
        have HC5 := Lib.hid hc5
        have HB5 : Hid (Below g w w5) := Lib.hid ((HB4.out.trans (HBA.out.mono (by omega))).trans hb5)
        have HOn5 : Hid (Only (fun b => b = g) w w5) := Lib.hid ((HOn4.out.trans (belowOnly HBA.out)).trans ho5)
        have HO5 : Hid (Ow w5 w.heap.size w5.heap.size (.slice ga xs.length gc) xs) := Lib.hid (((HO4.out.below HBA.out (Nat.le_refl _)).onlyQ ho5 (fun b h1 h2 h3 => by omega)).up)
        clear hc5 hb5 ho5 hz
        have hown5 := HO5.out.row
        have hsz5 := HOn5.out.size
        go_wp2_with (at_builtin; refine wpList_append_own _ rfl _ _ 22 rfl w.heap.size 2 i0 (.int .i64 0) 1 8 Try.underlying22 hi hz0 hz1 hz2 rfl (by decide) _ _ _ rfl (hown5.alloc _) ⟨_, 0, none⟩ 1 1 [.int .i64 z] rfl rfl ?c1 ?c2 ?c3 ?c4 ?c5 ?_)
        case c1 => exact cellNew _ _ _
        case c2 => first | exact oneCell _ | rfl
        case c3 => unfold maxLen; omega
        case c4 => omega
        case c5 => first | omega | (simp; omega)
        intro v6 w6 hown6 hgrow6 _
        obtain ⟨q1, q2⟩ := HO5.out.snoc (x := z) (by have := HZ.out; omega) (by omega) (by simpa using hown6) hgrow6
        have HO6 := Lib.hid q1
        have HC6 := Lib.hid (HC5.out.below q2 hgs)
        have HB6 := Lib.hid (HB5.out.trans (q2.mono (by omega)))
        have HOn6 : Hid (Only (fun b => b = g) w w6) := Lib.hid ⟨HOn5.out.os.symm ▸ q2.os, HOn5.out.tape.symm ▸ q2.tape, HOn5.out.output.symm ▸ q2.output, Nat.le_trans HOn5.out.size q2.size, fun b hb hn => (q2.block b hb).trans (HOn5.out.block b hb hn)⟩
        have HI6 := Lib.hid (fits_all HIN.out HZ.out.1 HZ.out.2)
        clear hown6 hgrow6 hown5 q1 q2
        go_wp2
        go_roundw
        case rel => exact ⟨j - 1, k5, s5, xs ++ [z], v6, rfl, by first | (go_num; omega) | go_num, by simp; omega, by simp; omega, HI6.out, HO6.out, HC6.out, HB6.out, HOn6.out⟩
        case measure => simp [intOf]; omega
      · have hp' : ¬ (0 : Int) < (j : Int) := by omega
        go_wp2_with fail
        refine (srcOne g kk n B v s 12 _ HC.out (HV.out.below HB.out hg) hg (by omega) (by omega) (by omega)).mono ?_
        rintro e w3 ⟨b, s3, k3, rfl, hk3, hc3, hb3, ho3⟩
        have HC3 := Lib.hid hc3
        have HB3 := Lib.hid (HB.out.trans hb3)
        have HOn3 := Lib.hid (HOn.out.trans ho3)
        have HO3 : Hid (Ow w3 w.heap.size w3.heap.size (.slice ga xs.length gc) xs) := Lib.hid ((HO.out.onlyQ ho3 (fun b h1 h2 h3 => by omega)).up)
        clear hc3 hb3 ho3
        cases b with
        | false =>
          go_wp2_with fail
          refine (specTrim _ xs _ _ _ HO3.out).mono ?_
          rintro e w4 ⟨u, rfl, hu, rfl⟩
          have HU := Lib.hid hu
          clear hu
          go_wp2
          go_ret
          exact ⟨u, trim xs, s3, k3, rfl, trim_natB HIN.out (by omega), by omega, HU.out, HC3.out, HB3.out, HOn3.out⟩
        | true =>
          go_wp2
          go_loopw [3] (fun o wr => ∃ (xs : List Int) (ov : Value), o = ov ∧ xs.length ≤ 40 ∧ (∀ y ∈ xs, 0 ≤ y ∧ y < 1000000) ∧ Ow wr w.heap.size wr.heap.size ov xs ∧ Cels wr g 63 [v, .int .i64 (k3 : Int), .int .u64 s3] ∧ Below g w wr ∧ Only (fun b => b = g) w wr) (fun o _ => 40 - slLen o)
          case atStart => exact ⟨xs, _, rfl, by omega, HIN.out, HO3.out, HC3.out, HB3.out, HOn3.out⟩
          case round =>
            obtain ⟨ys, ov, hov, hyl, hin, how, hcl, hbel, hon⟩ := hrel
            obtain rfl := hov.symm
            have HY := Lib.hid how
            have HYC := Lib.hid hcl
            have HYB := Lib.hid hbel
            have HYOn := Lib.hid hon
            have HYIN := Lib.hid hin
            have hszy := hon.size
            obtain ⟨ya, yc, hu⟩ := how.shape
            subst hu
            clear hin how hcl hbel hon
            by_cases hq : ys.length < 40
            · have hq' : (ys.length : Int) < 40 := by omega
              have hownY := HY.out.row
              go_wp2_with (at_builtin; refine wpList_append_own _ rfl _ _ 22 rfl w.heap.size 2 i0 (.int .i64 0) 1 8 Try.underlying22 hi hz0 hz1 hz2 rfl (by decide) _ _ _ rfl (hownY.alloc _) ⟨_, 0, none⟩ 1 1 [.int .i64 999999] rfl rfl ?e1 ?e2 ?e3 ?e4 ?e5 ?_)
              case e1 => exact cellNew _ _ _
              case e2 => first | exact oneCell _ | rfl
              case e3 => unfold maxLen; omega
              case e4 => omega
              case e5 => first | omega | (simp; omega)
              intro v6 w6 hown6 hgrow6 _
              obtain ⟨q1, q2⟩ := HY.out.snoc (x := 999999) (by omega) (by omega) (by simpa using hown6) hgrow6
              have HO6 := Lib.hid q1
              have HC6 := Lib.hid (HYC.out.below q2 hgs)
              have HB6 := Lib.hid (HYB.out.trans (q2.mono (by omega)))
              have HOn6 : Hid (Only (fun b => b = g) w w6) := Lib.hid ⟨HYOn.out.os.symm ▸ q2.os, HYOn.out.tape.symm ▸ q2.tape, HYOn.out.output.symm ▸ q2.output, Nat.le_trans HYOn.out.size q2.size, fun b hb hn => (q2.block b hb).trans (HYOn.out.block b hb hn)⟩
              have HI6 := Lib.hid (fits_all (z := 999999) HYIN.out (by omega) (by omega))
              obtain ⟨xa, xc, hu6⟩ := HO6.out.shape
              subst hu6
              clear hown6 hgrow6 hownY q1 q2
              go_wp2
              go_roundw
              case rel => exact ⟨ys ++ [999999], _, rfl, by simp; omega, HI6.out, HO6.out, HC6.out, HB6.out, HOn6.out⟩
              case measure => simp [slLen]; omega
            · have hq' : ¬ (ys.length : Int) < 40 := by omega
              go_wp2_with fail
              refine (specTrim _ ys _ _ _ HY.out).mono ?_
              rintro e w4 ⟨u, rfl, hu, rfl⟩
              have HU := Lib.hid hu
              clear hu
              go_wp2
              go_ret
              exact ⟨u, trim ys, s3, k3, rfl, trim_natB HYIN.out hyl, by omega, HU.out, HYC.out, HYB.out, HYOn.out⟩
end Go.Proofs.Ytfnopnaaahkklaa.Ints
