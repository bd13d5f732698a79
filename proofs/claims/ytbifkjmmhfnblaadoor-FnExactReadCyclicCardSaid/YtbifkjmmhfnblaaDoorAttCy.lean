/- attempt at impl.ReadCyclic$1: what it returns where the function returns, and where it gives up. -/
import Derived.Test.YtbifkjmmhfnblaaDoorGup
import Derived.Test.YtbifkjmmhfnblaaDoorCel
namespace Go.Proofs.YtbifkjmmhfnblaaDoor.Ints
open Go.RowKit
set_option linter.unusedVariables false
set_option linter.unusedSimpArgs false
set_option maxRecDepth 100000 in
theorem catchPCy (p : Addr) (c : Int) (x : Value) (older : List PanicEntry) (w : World) (hc : w.cell? p = some x) (hz : w.frozen? p = false) :
    CallsD Tryd.prog 104 #[.pointer (some p)] (.panicking (gaveUp c :: older)) w fun e u' w' =>
      e = .returned (.tuple #[]) ∧ u' = .panicking ({ gaveUp c with recovered := true } :: older) ∧ w' = w.setCell p (.iface 127 (.int .i64 c)) := by
  unfold gaveUp
  have hta : ∀ W : World, (Instr.typeAssert (.iface 127 (.int .i64 c)) 20 127 true).run Tryd.prog W = .ok (.tuple #[.int .i64 c, .bool true]) W := fun W => by kernel_rfl
  refine callsD_of_wpS Tryd.func104 rfl fun c₀ cs hu => ?_
  apply wpS_seq
  apply wpS_region
  simp [wpOpsS, go_sem, recoverD, hu, Tryd.ntmps104, Exit.thenS]
  refine wpS_of_wp ?_
  simp only [List.size_toArray, List.length_cons, List.length_nil, Nat.reduceAdd, Nat.reduceSub, Array.replicate_succ, Array.replicate_zero, List.push_toArray, List.append_toArray, List.nil_append, List.cons_append, List.setIfInBounds_toArray, List.set_cons_succ, List.set_cons_zero]
  go_wp2
  cases c₀
  simp_all [bodyPostS, results, Tryd.results104]
theorem catchICy (p : Addr) (w : World) :
    CallsD Tryd.prog 104 #[.pointer (some p)] .returning w fun e u' w' => e = .returned (.tuple #[]) ∧ u' = .returning ∧ w' = w := by
  refine callsD_of_wpS Tryd.func104 rfl fun c₀ cs hu => ?_
  apply wpS_seq
  apply wpS_region
  simp [wpOpsS, go_sem, recoverD, hu, Tryd.ntmps104, Exit.thenS]
  refine wpS_of_wp ?_
  go_wp2
  cases c₀
  simp_all [bodyPostS, results, Tryd.results104]
/-- What the closure returns is returned, with no error. -/
theorem attYCy (cap : Value) (G : Value → World → Prop) (w : World) (hg : ∀ W, Below (w.heap.size + 1) (w.alloc (.cells #[.nilIface] 73)) W → Calls Tryd.prog 70 #[cap] W fun e W' => ∃ v, e = .returned v ∧ G v W' ∧ Below (w.heap.size + 1) W W')
    (hs : ∀ v W, G v W → w.heap.size < W.heap.size → G v (W.setCell ⟨w.heap.size, 0, none⟩ .nilIface)) :
    Calls Tryd.prog 69 #[.func (.func 70) #[] #[cap]] w fun e w' => ∃ v, e = .returned (.tuple #[v, .nilIface]) ∧ G v w' ∧ Below w.heap.size w w' := by
  have hmf : ∀ (fn : Fn) (first cap : Array Value) (w : World), (Instr.makeFunc fn first cap).run Tryd.prog w = .ok (.func fn first cap) w := fun _ _ _ _ => rfl
  have HC := Lib.hid (hg (w.alloc (.cells #[.nilIface] 73)) (Below.refl _ _))
  have HS := Lib.hid hs
  have HCl : Hid (Cels (w.alloc (.cells #[.nilIface] 73)) w.heap.size 73 [.nilIface]) := Lib.hid (Cels.new _ _ _)
  clear hg hs
  go_enter_defers Tryd.func69, Tryd.ntmps69
  go_wp2_with fail
  refine HC.out.mono ?_
  rintro e W1 ⟨v, rfl, hv, hb⟩
  have hc1 := HCl.out.below hb (Nat.lt_succ_self _)
  have hc0 := hc1.cell 0 rfl
  have hz0 := hc1.frozen 0
  have HG := Lib.hid (HS.out v W1 hv hc1.lt)
  have HB : Hid (Below w.heap.size w (W1.setCell ⟨w.heap.size, 0, none⟩ .nilIface)) := Lib.hid (below_set (((Below.refl w.heap.size w).alloc (Nat.le_refl _) (.cells #[.nilIface] 73)).trans (hb.mono (Nat.le_succ _))) (Nat.le_refl _) _ _)
  have HX : Hid ((W1.setCell ⟨w.heap.size, 0, none⟩ .nilIface).cell? ⟨w.heap.size, 0, none⟩ = some .nilIface) := Lib.hid ((hc1.set 0 .nilIface).cell 0 rfl)
  clear hv hb hc1
  go_wp2
  refine leaves_cons (f := 104) (args := #[.pointer (some ⟨w.heap.size, 0, none⟩)]) (by simp) (by simp [go_sem]) ?_
  refine (catchICy ⟨w.heap.size, 0, none⟩ _).mono ?_
  rintro e u' w'' ⟨rfl, rfl, rfl⟩
  have hx := HX.out
  refine ⟨.tuple #[v, .nilIface], ?_, v, ?_, ?_, ?_⟩
  · simp [settle, results, Tryd.results69, go_sem, hx]
  · rfl
  · exact HG.out
  · exact HB.out
/-- Where the closure gives up, its code is the error, and the result is zero. -/
theorem attNCy (cap : Value) (c : Int) (w : World) (hg : ∀ W, Below (w.heap.size + 1) (w.alloc (.cells #[.nilIface] 73)) W → Calls Tryd.prog 70 #[cap] W fun e W' => e = .panicked [gaveUp c] ∧ Below (w.heap.size + 1) W W') :
    Calls Tryd.prog 69 #[.func (.func 70) #[] #[cap]] w fun e w' => e = .returned (.tuple #[.slice none 0 0, .iface 127 (.int .i64 c)]) ∧ Below w.heap.size w w' := by
  have hmf : ∀ (fn : Fn) (first cap : Array Value) (w : World), (Instr.makeFunc fn first cap).run Tryd.prog w = .ok (.func fn first cap) w := fun _ _ _ _ => rfl
  have HC := Lib.hid (hg (w.alloc (.cells #[.nilIface] 73)) (Below.refl _ _))
  have HCl : Hid (Cels (w.alloc (.cells #[.nilIface] 73)) w.heap.size 73 [.nilIface]) := Lib.hid (Cels.new _ _ _)
  clear hg
  go_enter_defers Tryd.func69, Tryd.ntmps69
  go_wp2_with fail
  refine HC.out.mono ?_
  rintro e W1 ⟨rfl, hb⟩
  have hc1 := HCl.out.below hb (Nat.lt_succ_self _)
  have hc0 := hc1.cell 0 rfl
  have hz0 := hc1.frozen 0
  have HB : Hid (Below w.heap.size w (W1.setCell ⟨w.heap.size, 0, none⟩ (.iface 127 (.int .i64 c)))) := Lib.hid (below_set (((Below.refl w.heap.size w).alloc (Nat.le_refl _) (.cells #[.nilIface] 73)).trans (hb.mono (Nat.le_succ _))) (Nat.le_refl _) _ _)
  have HX : Hid ((W1.setCell ⟨w.heap.size, 0, none⟩ (.iface 127 (.int .i64 c))).cell? ⟨w.heap.size, 0, none⟩ = some (.iface 127 (.int .i64 c))) := Lib.hid ((hc1.set 0 _).cell 0 rfl)
  clear hb hc1
  go_wp2
  refine leaves_cons (f := 104) (args := #[.pointer (some ⟨w.heap.size, 0, none⟩)]) (by simp) (by simp [go_sem]) ?_
  refine (catchPCy ⟨w.heap.size, 0, none⟩ c .nilIface [] _ hc0 hz0).mono ?_
  rintro e u' w'' ⟨rfl, rfl, rfl⟩
  have hx := HX.out
  refine ⟨.tuple #[.slice none 0 0, .iface 127 (.int .i64 c)], ?_, ?_, ?_⟩
  · simp [settle, results, Tryd.results69, go_sem, hx]
  · rfl
  · exact HB.out
end Go.Proofs.YtbifkjmmhfnblaaDoor.Ints
