/- StepProgram: the model's. -/
import Derived.Test.YtgbhbbapkpgmiaaDoorSp7
namespace Go.Proofs.YtgbhbbapkpgmiaaDoor.Ints
open Go.RowKit
set_option linter.unusedVariables false
set_option linter.unusedSimpArgs false
set_option maxHeartbeats 2000000 in
theorem specAsk (v : Value) (rs : List Ins) (at' : Int) (u : Value) (cs : List Int) (gx : Nat) (w : World) (hv : RdIns w v rs) (hu : Rd w u cs) (hx : Cels w gx 39 [.int .i64 at', u]) (bv : Bool) (hbv : bv = vsB rs at' cs) (cd : Int) (hc0 : bv = true → cd = 0) (hc1 : bv = false → cd = 1) :
    Calls Tryd.prog 73 #[v, .pointer (some ⟨gx, 0, none⟩)] w fun e w' => e = .returned (.int .i64 cd) ∧ Below w.heap.size w w' := by
  have HV := Lib.hid hv
  have HU := Lib.hid hu
  have HK := Lib.hid hx
  obtain ⟨_, _, a, c, rfl, _, _⟩ := hv
  have HBV := Lib.hid hbv
  have HC0 := Lib.hid hc0
  have HC1 := Lib.hid hc1
  clear hu hx hbv hc0 hc1
  rcases eqOr (progB rs) with hp | hp
  · obtain rfl : cd = 1 := HC1.out (HBV.out.trans (vsB_bad (a := at') (cs := cs) hp))
    go_enter Tryd.func73, Tryd.ntmps73
    go_wp2_with fail
    refine (specPIs _ rs _ HV.out).mono ?_
    rintro e1 w1 ⟨rfl, hb1⟩
    rw [hp]
    have HB1 := Lib.hid hb1
    clear hb1
    go_wp2
    go_ret
    exact ⟨rfl, HB1.out⟩
  · have e : Hid (bv = stoB rs.length at' cs) := Lib.hid (HBV.out.trans (vsB_good (a := at') (cs := cs) hp))
    go_enter Tryd.func73, Tryd.ntmps73
    go_wp2_with fail
    refine (specPIs _ rs _ HV.out).mono ?_
    rintro e1 w1 ⟨rfl, hb1⟩
    rw [hp]
    have HB1 := Lib.hid hb1
    replace HK := Lib.hid (HK.out.below hb1 HK.out.lt)
    clear hb1
    go_wp2_with fail
    refine (specGood a rs.length c gx _ at' u cs _ (HU.out.below HB1.out (Nat.le_refl _)) HK.out).mono ?_
    rintro e1 w2 ⟨rfl, hb1⟩
    have HB2 := Lib.hid (HB1.out.trans (hb1.mono HB1.out.size))
    clear hb1
    rw [← e.out]
    rcases eqOr bv with hb | hb
    · subst hb
      obtain rfl : cd = 1 := HC1.out rfl
      go_wp2
      go_ret
      exact ⟨rfl, HB2.out⟩
    · subst hb
      obtain rfl : cd = 0 := HC0.out rfl
      go_wp2
      go_ret
      exact ⟨rfl, HB2.out⟩
theorem specHaltsP (a : Option Addr) (n c : Nat) (at' : Int) (u : Value) (gx : Nat) (w : World) (hx : Cels w gx 39 [.int .i64 at', u]) (b : Bool) (hb : (at' == (n : Int)) = b) :
    Calls Tryd.prog 90 #[.slice a n c, .pointer (some ⟨gx, 0, none⟩)] w fun e w' => e = .returned (.bool b) ∧ w = w' := by
  have z0 := hx.cell 0 rfl
  clear hx
  go_enter Tryd.func90, Tryd.ntmps90
  go_wp2
  go_ret
  exact ⟨rfl, rfl⟩
end Go.Proofs.YtgbhbbapkpgmiaaDoor.Ints
