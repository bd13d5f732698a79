/- StepTag of the model. -/
import Derived.Test.YtkjoakdepjpkhaaDoorTgB
namespace Go.Proofs.YtkjoakdepjpkhaaDoor.Ints
open Go.RowKit
set_option linter.unusedVariables false
set_option linter.unusedSimpArgs false
theorem specGoodT (gx n : Nat) (a : Option Addr) (c : Nat) (x : Value) (xs : List Int) (w : World) (hg : w.cell? ⟨gx, 1, none⟩ = some (.slice a n c)) (hn : n ≤ 1048576) (hxs : Rd w x xs) (b : Bool) (hb : b = overB n xs) :
    Calls Tryd.prog 99 #[.pointer (some ⟨gx, 0, none⟩), x] w fun e w' => e = .returned (.bool b) ∧ w = w' := by
  have H := Lib.hid hxs
  have HB := Lib.hid hb
  clear hxs hb
  go_enter Tryd.func99, Tryd.ntmps99
  go_wp2_with fail
  refine (specOver _ xs (n : Int) _ H.out (by omega)).mono ?_
  rintro e w1 ⟨rfl, rfl⟩
  go_wp2
  go_ret
  exact ⟨by rw [HB.out] <;> rfl, rfl⟩
set_option maxHeartbeats 1000000 in
theorem specAskT (gx : Nat) (d : Int) (v : Value) (zss : List (List Int)) (u : Value) (hs : List Int) (x : Value) (xs : List Int) (w : World) (hv : RdL w v zss) (hu : Rd w u hs) (hxs : Rd w x xs) (hx : Cels w gx 29 [.int .i64 d, v, u])
    (ok : Bool) (hok : ok = (tagB d zss hs && overB zss.length xs)) (cd : Int) (hc0 : ok = true → cd = 0) (hc1 : ok = false → cd = 1) :
    Calls Tryd.prog 63 #[.pointer (some ⟨gx, 0, none⟩), x] w fun e w' => e = .returned (.int .i64 cd) ∧ Below w.heap.size w w' := by
  have HV := Lib.hid hv
  have HU := Lib.hid hu
  have HXS := Lib.hid hxs
  have HX := Lib.hid hx
  have hl := hv.len
  obtain ⟨_, a, c, rfl, _, _⟩ := hv
  obtain ⟨_, _, a2, c2, rfl, _, _⟩ := hu
  obtain ⟨_, _, a3, c3, rfl, _, _⟩ := hxs
  obtain ⟨b1, hb1⟩ : ∃ b, b = tagB d zss hs := ⟨_, rfl⟩
  obtain ⟨b2, hb2⟩ : ∃ b, b = overB zss.length xs := ⟨_, rfl⟩
  have HB1 := Lib.hid hb1
  have HB2 := Lib.hid hb2
  have HOK : Hid (ok = (b1 && b2)) := Lib.hid (by rw [hok, hb1, hb2])
  have HC0 := Lib.hid hc0
  have HC1 := Lib.hid hc1
  clear hb1 hb2 hok hc0 hc1 hx
  rcases eqOr b1 with hb | hb
  · subst hb
    obtain rfl : cd = 1 := HC1.out (by rw [HOK.out]; rfl)
    go_enter Tryd.func63, Tryd.ntmps63
    go_wp2_with fail
    refine (specTagIs gx d _ zss _ hs _ HV.out HU.out HX.out).mono ?_
    rintro e w1 ⟨rfl, hb⟩
    rw [← HB1.out]
    have HB := Lib.hid hb
    clear hb
    go_wp2
    go_ret
    exact ⟨rfl, HB.out⟩
  subst hb
  rcases eqOr b2 with hb | hb
  · subst hb
    obtain rfl : cd = 1 := HC1.out (by rw [HOK.out]; rfl)
    go_enter Tryd.func63, Tryd.ntmps63
    go_wp2_with fail
    refine (specTagIs gx d _ zss _ hs _ HV.out HU.out HX.out).mono ?_
    rintro e w1 ⟨rfl, hb⟩
    rw [← HB1.out]
    have HB := Lib.hid hb
    have HG := Lib.hid ((HX.out.below hb HX.out.lt).cell 1 rfl)
    clear hb
    go_wp2_with (go_at_call 99; refine (specGoodT gx zss.length a c _ xs _ HG.out hl (HXS.out.below HB.out (Nat.le_refl _)) false HB2.out).mono ?_; rintro e w2 ⟨rfl, rfl⟩)
    go_ret
    exact ⟨rfl, HB.out⟩
  subst hb
  obtain rfl : cd = 0 := HC0.out (by rw [HOK.out]; rfl)
  go_enter Tryd.func63, Tryd.ntmps63
  go_wp2_with fail
  refine (specTagIs gx d _ zss _ hs _ HV.out HU.out HX.out).mono ?_
  rintro e w1 ⟨rfl, hb⟩
  rw [← HB1.out]
  have HB := Lib.hid hb
  have HG := Lib.hid ((HX.out.below hb HX.out.lt).cell 1 rfl)
  clear hb
  go_wp2_with (go_at_call 99; refine (specGoodT gx zss.length a c _ xs _ HG.out hl (HXS.out.below HB.out (Nat.le_refl _)) true HB2.out).mono ?_; rintro e w2 ⟨rfl, rfl⟩)
  go_ret
  exact ⟨rfl, HB.out⟩
end Go.Proofs.YtkjoakdepjpkhaaDoor.Ints
