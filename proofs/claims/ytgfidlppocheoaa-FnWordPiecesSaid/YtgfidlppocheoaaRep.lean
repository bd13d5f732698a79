/- A part of a word replaced: the model's l03Put and the program's replaceLetters. -/
import Derived.Test.YtgfidlppocheoaaOcc
import Derived.Test.YtgfidlppocheoaaCat
import Derived.StillTailTactics
namespace Go.Proofs.Ytgfidlppocheoaa.Ints
open Go.RowKit
set_option linter.unusedVariables false

def putL (zs : List Int) (k m : Nat) (bs : List Int) : List Int := zs.take k ++ bs ++ zs.drop (k + m)
theorem putL_length (zs : List Int) (k m : Nat) (bs : List Int) (h : k + m ≤ zs.length) : (putL zs k m bs).length = zs.length - m + bs.length := by
  simp [putL]; omega
def rpL (zs : List Int) (k m : Nat) (bs : List Int) : List Int := if (putL zs k m bs).length ≤ 400 then putL zs k m bs else []
def rpC (zs : List Int) (k m : Nat) (bs : List Int) : Int := if (putL zs k m bs).length ≤ 400 then 0 else 5
set_option maxRecDepth 100000 in
set_option maxHeartbeats 1000000 in
theorem implReplace (v u : Value) (zs bs : List Int) (k m : Nat) (w : World) (hv : Rd w v zs) (hu : Rd w u bs) (h : k + m ≤ zs.length) (hz : zs.length ≤ 400) (hb0 : bs.length ≤ 400) :
    Calls Try.prog 24 #[v, .int .i64 k, .int .i64 m, u] w fun e w' => ∃ r, e = .returned (.tuple #[r, .int .i64 (rpC zs k m bs)]) ∧ Ow w' w.heap.size w'.heap.size r (rpL zs k m bs) ∧ Below w.heap.size w w' := by
  have HV := Lib.hid hv
  have HU := Lib.hid hu
  obtain ⟨_, _, a, c, rfl, hcap, _⟩ := hv
  obtain ⟨_, _, a', c', rfl, _, _⟩ := hu
  have hpl := putL_length zs k m bs h
  by_cases hfull : (putL zs k m bs).length ≤ 400
  rotate_left
  · have e0 : Hid (rpL zs k m bs = [] ∧ rpC zs k m bs = 5) := Lib.hid (by simp [rpL, rpC, hfull])
    have i1 : (400 : Int) < (zs.length : Int) - (m : Int) + (bs.length : Int) := by omega
    clear hfull hpl
    go_enter Try.func24, Try.ntmps24
    go_wp2
    go_ret2
    exact ⟨_, by rw [e0.out.2] <;> rfl, by rw [e0.out.1]; exact Ow.empty w, Below.refl _ _⟩
  have e0 : Hid (rpL zs k m bs = putL zs k m bs ∧ rpC zs k m bs = 0) := Lib.hid (by simp [rpL, rpC, hfull])
  have j1 : ¬ (400 : Int) < (zs.length : Int) - (m : Int) + (bs.length : Int) := by omega
  clear hfull hpl
  have i1 : (k : Int) ≤ (zs.length : Int) := by omega
  have i2 : (k : Int) ≤ (c : Int) := by omega
  have i3 : (k : Int) + (m : Int) ≤ (zs.length : Int) := by omega
  have i4 : ((k : Int) + (m : Int)).toNat = k + m := by omega
  have i5 : (0 : Int) ≤ (k : Int) + (m : Int) := by omega
  have i6 : IntKind.i64.wrap ((k : Int) + (m : Int)) = (k : Int) + (m : Int) := by rw [IntKind.wrap_i64]; omega
  have hf0 := HV.out.front k (by omega)
  have hc0 := HV.out.cut (k + m) zs.length h (Nat.le_refl _)
  rw [List.take_length] at hc0
  have hlx : (zs.take k).length ≤ 400 := by simp; omega
  have hly : (zs.drop (k + m)).length ≤ 400 := by simp; omega
  obtain ⟨xs, hxs⟩ : ∃ xs, xs = zs.take k := ⟨_, rfl⟩
  obtain ⟨ys, hys⟩ : ∃ ys, ys = zs.drop (k + m) := ⟨_, rfl⟩
  have HE : Hid (putL zs k m bs = [xs, bs, ys].flatten) := Lib.hid (by rw [putL, hxs, hys]; simp)
  rw [← hxs] at hf0 hlx
  rw [← hys] at hc0 hly
  have HF := Lib.hid hf0
  have HCU := Lib.hid hc0
  obtain ⟨ad, had⟩ : ∃ ad, ad = (if c = k + m then a else Option.map (fun x => x.add (k + m)) a) := ⟨_, rfl⟩
  have hc1 : Rd w (.slice ad (zs.length - (k + m)) (c - (k + m))) ys := by rw [had]; exact hc0
  have HAD := Lib.hid had
  have HCV := Lib.hid hc1
  clear hf0 hc0 hxs hys had hc1
  obtain ⟨wd, hwd⟩ : ∃ x, x = w.drew := ⟨_, rfl⟩
  have hbd : Below w.heap.size w wd := by rw [hwd]; exact (Below.refl _ _).drew
  have HL := Lib.hid (rdl_three (HF.out.below hbd (Nat.le_refl _)) (HU.out.below hbd (Nat.le_refl _)) (HCV.out.below hbd (Nat.le_refl _)))
  have HBD := Lib.hid hbd
  have HWD := Lib.hid hwd
  clear hbd hwd
  go_enter Try.func24, Try.ntmps24
  go_wp2_with fail
  go_still_tail 9, (by kernel_rfl)
  change wpList _ _ _ _ _ w.drew
  rw [← HWD.out, ← HAD.out]
  go_wp2_with fail
  refine (libConcat _ [xs, bs, ys] _ HL.out (by simp; omega)).mono ?_
  rintro e w1 ⟨r, rfl, ho, hb⟩
  have hs0 := HBD.out.size
  have HB := Lib.hid (HBD.out.trans (((Below.refl _ _).alloc hs0 _).trans (hb.mono (by simp; omega))))
  have HO := Lib.hid (ho.mono (B' := w.heap.size) (by simp; omega) (Nat.le_refl _) (Nat.le_refl _))
  clear ho hb
  go_wp2
  go_ret2
  exact ⟨_, by rw [e0.out.2] <;> rfl, by rw [e0.out.1, HE.out]; exact HO.out, HB.out⟩
end Go.Proofs.Ytgfidlppocheoaa.Ints
