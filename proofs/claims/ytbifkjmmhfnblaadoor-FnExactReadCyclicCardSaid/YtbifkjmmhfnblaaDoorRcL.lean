/- The laws' helpers on cyclic tag systems. -/
import Derived.Test.YtbifkjmmhfnblaaDoorQrn
import Derived.Test.YtbifkjmmhfnblaaDoorCel
namespace Go.Proofs.YtbifkjmmhfnblaaDoor.Ints
open Go.RowKit
set_option linter.unusedVariables false
set_option linter.unusedSimpArgs false
theorem Only.celsY {S : Nat → Prop} {A B : World} (h : Only S A B) {g : Nat} {t : TypeId} {cs : List Value} (k : Cels A g t cs) (hn : ¬ S g) : Cels B g t cs := (h.block g k.lt hn).trans k
theorem eqCyc (u v : Value) (zss : List (List Int)) (w : World) (hu : RdL w u zss) (hv : RdL w v zss) :
    Calls Tryd.prog 33 #[.agg #[u], .agg #[v]] w fun e w' => e = .returned (.bool true) ∧ Below w.heap.size w w' := by
  have HU := Lib.hid hu
  have HV := Lib.hid hv
  obtain ⟨_, a, c, rfl, _, _⟩ := hu
  obtain ⟨_, a', c', rfl, _, _⟩ := hv
  have HBA : ∀ x y : Obj, Hid (Below w.heap.size w ((w.alloc x).alloc y)) := fun x y => Lib.hid (((Below.refl _ _).alloc (Nat.le_refl _) _).alloc (by simp) _)
  go_enter Tryd.func33, Tryd.ntmps33
  go_wp2_with fail
  refine (eqLists _ _ zss _ (HU.out.below (HBA _ _).out (Nat.le_refl _)) (HV.out.below (HBA _ _).out (Nat.le_refl _))).mono ?_
  rintro e w1 ⟨rfl, hb⟩
  have HB1 := Lib.hid ((HBA _ _).out.trans (hb.mono (HBA _ _).out.size))
  clear hb
  go_wp2
  go_ret
  exact ⟨rfl, HB1.out⟩
theorem markCyc (u : Value) (zss : List (List Int)) (k0 : Nat) (B T : Nat) (w : World) (h : OwQN w B T u zss) (h1 : k0 + tot zss ≤ 100000000000) :
    Calls Tryd.prog 34 #[.agg #[u], .int .i64 (k0 : Int)] w fun e w' => e = .returned (.int .i64 ((k0 + tot zss : Nat) : Int)) ∧ OwQN w' B T u (mkQ k0 zss) ∧ Only (fun b => B ≤ b ∧ b < T) w w' := by
  have H := Lib.hid h
  obtain ⟨a, c, hs⟩ := h.shape
  obtain ⟨m, hm⟩ : ∃ m, m = zss.length := ⟨_, rfl⟩
  rw [← hm] at hs
  subst hs
  obtain ⟨n, hn⟩ : ∃ n, n = k0 + tot zss := ⟨_, rfl⟩
  have HN := Lib.hid hn
  rw [← hn]
  have HBA : ∀ x : Obj, Hid (Below w.heap.size w (w.alloc x)) := fun x => Lib.hid ((Below.refl _ _).alloc (Nat.le_refl _) _)
  have HH : ∀ x : Obj, Hid (OwQN (w.alloc x) B T (.slice a m c) zss) := fun x => Lib.hid (H.out.below (HBA x).out H.out.size)
  clear hn hm h
  go_enter Tryd.func34, Tryd.ntmps34
  go_wp2_with fail
  refine (markListsM _ zss k0 B T _ (HH _).out (by omega)).mono ?_
  rintro e w1 ⟨rfl, om, ho⟩
  rw [← HN.out]
  have HO := Lib.hid om
  have HY := Lib.hid ((Only.of_below (HBA _).out).trans ho)
  clear om ho
  go_wp2
  go_ret
  exact ⟨rfl, HO.out, HY.out⟩
theorem heldCyc (u : Value) (zss : List (List Int)) (k0 : Nat) (w : World) (h : RdL w u (mkQ k0 zss)) (h1 : k0 + tot zss ≤ 100000000000) :
    Calls Tryd.prog 35 #[.agg #[u], .int .i64 (k0 : Int)] w fun e w' => e = .returned (.int .i64 ((k0 + tot zss : Nat) : Int)) ∧ Below w.heap.size w w' := by
  have H := Lib.hid h
  obtain ⟨_, a, c, hs, _, _⟩ := h
  obtain ⟨m, hm⟩ : ∃ m, m = (mkQ k0 zss).length := ⟨_, rfl⟩
  rw [← hm] at hs
  subst hs
  obtain ⟨n, hn⟩ : ∃ n, n = k0 + tot zss := ⟨_, rfl⟩
  have HN := Lib.hid hn
  rw [← hn]
  have hnn : ¬ ((n : Int) < 0) := by omega
  have HBA : ∀ x : Obj, Hid (Below w.heap.size w (w.alloc x)) := fun x => Lib.hid ((Below.refl _ _).alloc (Nat.le_refl _) _)
  have HH : ∀ x : Obj, Hid (RdL (w.alloc x) (.slice a m c) (mkQ k0 zss)) := fun x => Lib.hid (H.out.below (HBA x).out (Nat.le_refl _))
  clear hn hm
  go_enter Tryd.func35, Tryd.ntmps35
  go_wp2_with fail
  refine (heldLists _ zss k0 _ (HH _).out (by omega)).mono ?_
  rintro e w1 ⟨rfl, rfl⟩
  rw [← HN.out]
  go_wp2
  go_ret
  exact ⟨rfl, (HBA _).out⟩
end Go.Proofs.YtbifkjmmhfnblaaDoor.Ints
