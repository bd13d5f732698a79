/- A range over an iterator that is at work on blocks of its own: one law for whoever ranges over it. -/
import Derived.RangeFuncNested
import Derived.RangeFuncBound
import Derived.RangeFuncCalls
import Derived.RangeFuncLeaves
import Derived.RangeFuncWrites
import Derived.Test.YtbifkjmmhfnblaaDoorOwn
import Derived.Test.YtbifkjmmhfnblaaDoorCel
namespace Go.Proofs.YtbifkjmmhfnblaaDoor.Ints
open Go.RowKit
set_option linter.unusedVariables false
set_option linter.unusedSimpArgs false

/-- From W to W' no block that lay has turned but those of S. -/
structure Only (S : Nat → Prop) (W W' : World) : Prop where
  os : W'.os = W.os
  tape : W'.tape = W.tape
  output : W'.output = W.output
  size : W.heap.size ≤ W'.heap.size
  block : ∀ k, k < W.heap.size → ¬ S k → W'.heap[k]? = W.heap[k]?
theorem Only.refl (S : Nat → Prop) (W : World) : Only S W W := ⟨rfl, rfl, rfl, Nat.le_refl _, fun _ _ _ => rfl⟩
theorem Only.trans {S : Nat → Prop} {A B C : World} (h : Only S A B) (k : Only S B C) : Only S A C :=
  ⟨k.os.trans h.os, k.tape.trans h.tape, k.output.trans h.output, Nat.le_trans h.size k.size, fun i hi hn => (k.block i (Nat.lt_of_lt_of_le hi h.size) hn).trans (h.block i hi hn)⟩
theorem Only.of_below {S : Nat → Prop} {A B : World} (h : Below A.heap.size A B) : Only S A B := ⟨h.os, h.tape, h.output, h.size, fun k hk _ => h.block k hk⟩
theorem Only.below {S : Nat → Prop} {A B : World} {m : Nat} (h : Only S A B) (hs : ∀ k, S k → m ≤ k) (hm : m ≤ A.heap.size) : Below m A B :=
  ⟨h.os, h.tape, h.output, h.size, fun k hk => h.block k (by omega) (fun q => by have := hs k q; omega)⟩
theorem Only.set {S : Nat → Prop} {A B : World} (h : Only S A B) {p : Addr} (hp : S p.block) (v : Value) : Only S A (B.setCell p v) := by
  have q := (Below.refl 0 B).setCell (p := p) (Nat.zero_le _) v
  exact ⟨q.os.trans h.os, q.tape.trans h.tape, q.output.trans h.output, Nat.le_trans h.size q.size, fun k hk hn => (Below.heap_setCell B p v k (fun e => hn (e ▸ hp))).trans (h.block k hk hn)⟩
theorem Only.mono {S S' : Nat → Prop} {A B : World} (h : Only S A B) (hs : ∀ k, k < A.heap.size → S k → S' k) : Only S' A B := ⟨h.os, h.tape, h.output, h.size, fun k hk hn => h.block k hk (fun q => hn (hs k hk q))⟩
/-- From A to B the blocks of T lie as they lay. -/
structure Kept (T : Nat → Prop) (A B : World) : Prop where
  size : A.heap.size ≤ B.heap.size
  block : ∀ k, k < A.heap.size → T k → B.heap[k]? = A.heap[k]?
theorem Kept.refl (T : Nat → Prop) (A : World) : Kept T A A := ⟨Nat.le_refl _, fun _ _ _ => rfl⟩
theorem Kept.trans {T : Nat → Prop} {A B C : World} (h : Kept T A B) (k : Kept T B C) : Kept T A C := ⟨Nat.le_trans h.size k.size, fun i hi hT => (k.block i (Nat.lt_of_lt_of_le hi h.size) hT).trans (h.block i hi hT)⟩
theorem Kept.of_below {T : Nat → Prop} {A B : World} {m : Nat} (h : Below m A B) (hT : ∀ k, T k → k < m) : Kept T A B := ⟨h.size, fun k _ q => h.block k (hT k q)⟩
theorem Kept.of_only {S T : Nat → Prop} {A B : World} (h : Only S A B) (hT : ∀ k, T k → ¬ S k) : Kept T A B := ⟨h.size, fun k hk q => h.block k hk (hT k q)⟩
theorem Kept.kept {T : Nat → Prop} {A B : World} (h : Kept T A B) {k : Nat} {o : Obj} (hk : A.heap[k]? = some o) (hn : T k) : B.heap[k]? = some o := (h.block k (Array.getElem?_eq_some_iff.1 hk).1 hn).trans hk
theorem Kept.set {T : Nat → Prop} {A B : World} (h : Kept T A B) {p : Addr} (hp : ¬ T p.block) (v : Value) : Kept T A (B.setCell p v) := by
  have q := (Below.refl 0 B).setCell (p := p) (Nat.zero_le _) v
  exact ⟨Nat.le_trans h.size q.size, fun k hk hT => (Below.heap_setCell B p v k (fun e => hp (e ▸ hT))).trans (h.block k hk hT)⟩
theorem Only.kept {S : Nat → Prop} {A B : World} (h : Only S A B) {k : Nat} {o : Obj} (hk : A.heap[k]? = some o) (hn : ¬ S k) : B.heap[k]? = some o := (h.block k (Array.getElem?_eq_some_iff.1 hk).1 hn).trans hk

/-- The word of an iterator value whose rounds each find the work one step farther: St says what is there when so much has come, Dn what may have come at the end. -/
def SeqRun {α : Type} (F : Fence) (n : Nat) (P : Program) (g : Nat) (lb : Array Value) (encs : α → Array Value) (S T : Nat → Prop) (St Dn : List α → World → Prop) : Prop :=
  ∀ (l : Nat) (J Jx : List α → World → Prop) (W : World),
    (∀ pre A A', J pre A → Only S A A' → J pre A') →
    (∀ pre x A, J pre A → St (pre ++ [x]) A → YieldAt F (n - 1) P l (encs x) A fun e A' =>
      (e = .returned (.bool true) ∧ J (pre ++ [x]) A' ∧ Kept T A A') ∨ (e = .returned (.bool false) ∧ Jx (pre ++ [x]) A')) →
    J [] W → St [] W →
    CallsIn F n P g (#[.func (.yield l) #[] #[]] ++ lb) W fun e W' => (∃ v, e = .returned v) ∧ ((∃ xs, Dn xs W' ∧ J xs W') ∨ (∃ pre, Jx pre W'))

theorem range_run {F : Fence} {n : Nat} {P : Program} {α : Type} {g : Operand} {ps : Array Tmp} {assign body : Code} {Q : Exit → Act → World → Prop} {a : Act} {w : World}
    (hro : F.round = none) (h1 : 1 ≤ n) {gf : Nat} {lb : Array Value} (hg : a.eval g = .func (.func gf) #[] lb) (hFg : F.fn gf) (eg : ∀ args w, (callFunc gf args).run P w = .ok (.enter gf args) w)
    {encs : α → Array Value} {S T : Nat → Prop} {St Dn : List α → World → Prop} (hseq : SeqRun F (n - 1) P gf lb encs S T St Dn)
    (hS : ∀ k, S k → k < w.heap.size) (hT : ∀ k, T k → k < w.heap.size) (hSt : ∀ xs A A', St xs A → Kept T A A' → St xs A') (hDn : ∀ xs A A', Dn xs A → Kept T A A' → Dn xs A') (h0s : St [] w) (hps : ∀ x, (encs x).size = ps.size)
    (I : List α → World → Prop) (Ix : Code → List α → World → Prop) (hI : OwnFrom w.heap.size I) (hIx : ∀ c, OwnFrom w.heap.size (Ix c)) (hIS : ∀ pre A A', I pre A → Only S A A' → I pre A') (h0 : I [] w) (a₁ : α → Act)
    (hassign : ∀ (l : Nat) (x : α) (W : World) (K : Act → World → Prop), K (a₁ x) W →
      assign.wpIn (F.inRound l) (n - 1 - 1) P (Exit.then K (fun _ _ _ => False)) { tmps := (ps.zip (encs x)).foldl (fun t (p, v) => t.setIfInBounds p v) a.tmps, defers := [] } W)
    (hbody : ∀ (l : Nat) (pre : List α) (x : α) (W : World), I pre W → St (pre ++ [x]) W → body.wpIn (F.inRound l) (n - 1 - 1) P (ownPostG w.heap.size (Kept T) I Ix (pre ++ [x]) W) (a₁ x) W)
    (hdone : ∀ (D : Nat) (xs : List α) (W : World), w.heap.size ≤ D → Dn xs W → I xs W → W.heap[D]? = some (.deferred (some [])) → Q .normal { a with defers := { target := .collected D, args := #[] } :: a.defers } W)
    (hstop : ∀ (D : Nat) (c : Code) (pre : List α) (W : World), w.heap.size ≤ D → Ix c pre W → W.heap[D]? = some (.deferred (some [])) → c.wpIn F n P Q { a with defers := { target := .collected D, args := #[] } :: a.defers } W) :
    (Code.rangeFunc g ps assign body).wpIn F n P Q a w := by
  refine wpIn_rangeFunc fun fn hfn => ?_
  rw [hro]
  obtain ⟨d, hd⟩ : ∃ d, d = w.heap.size := ⟨_, rfl⟩
  obtain ⟨rc, hrc⟩ : ∃ rc : LoopState → Option Code → Loop, rc = fun st pe => { state := st, pending := pe, fn, tmps := a.tmps, params := ps, assign, body, defers := d } := ⟨_, rfl⟩
  obtain ⟨W1, hW1⟩ : ∃ W1, W1 = (w.alloc (.deferred (some []))).alloc (.loop (rc .ready none)) := ⟨_, rfl⟩
  have hB1 : Below w.heap.size w W1 := by rw [hW1]; exact ((Below.refl _ w).alloc (Nat.le_refl _) _).alloc (by simp) _
  have hD1 : W1.heap[d]? = some (.deferred (some [])) := by
    rw [hW1, hd]; exact (Below.heap_alloc _ _ _ (by simp)).trans (World.alloc_heap_new w _)
  have hL1 : W1.heap[d + 1]? = some (.loop (rc .ready none)) := by
    have := World.alloc_heap_new (w.alloc (.deferred (some []))) (.loop (rc .ready none))
    rw [World.size_alloc] at this
    rw [hW1, hd]; exact this
  have nS : ∀ k, d ≤ k → ¬ S k := fun k hk q => by have := hS k q; omega
  refine ⟨d + 1, [{ target := .collected d, args := #[] }], W1, { target := .fn (.func gf) lb, args := #[.func (.yield (d + 1)) #[] #[]] }, W1, gf, #[.func (.yield (d + 1)) #[] #[]] ++ lb, W1, ?_, ?_, ?_, ?_, fun _ => h1, ?_⟩
  · rw [hW1, hrc, hd]; exact run_enterLoop_outer _ _ _ _ _
  · simp only [resolve, hg]; simp [go_sem]
  · intro f' hf'; simp [Target.leads] at hf'; subst hf'; exact hFg
  · simp [invoke, go_sem, eg]
  have put1 : ∀ (A : World) (o : Obj), Kept T A (A.putObj (d + 1) o) := fun A o =>
    ⟨by simp, fun k _ hk => World.putObj_heap_other (by have := hT k hk; omega)⟩
  refine (hseq (d + 1) (fun pre W => I pre W ∧ W.heap[d + 1]? = some (.loop (rc .ready none)) ∧ W.heap[d]? = some (.deferred (some [])))
    (fun pre W => ∃ c, Ix c pre W ∧ W.heap[d + 1]? = some (.loop (rc .done (some c))) ∧ W.heap[d]? = some (.deferred (some []))) W1
    (fun pre A A' h k => ⟨hIS pre A A' h.1 k, k.kept h.2.1 (nS _ (by omega)), k.kept h.2.2 (nS _ (by omega))⟩) ?_
    ⟨by rw [hW1]; exact hI.alloc _ (hI.alloc _ h0), hL1, hD1⟩ (hSt _ _ _ h0s (Kept.of_below hB1 hT))).mono ?_
  · rintro pre x A ⟨hi, hl, hk⟩ hst
    have hlt : d + 1 < A.heap.size := (Array.getElem?_eq_some_iff.1 hl).1
    have hy := run_yield (P := P) (args := encs x) hl (by rw [hrc]; exact hps x)
    rw [hrc] at hy
    obtain ⟨A2, hA2⟩ : ∃ A2, A2 = A.putObj (d + 1) (.loop { rc .ready none with state := .busy }) := ⟨_, rfl⟩
    have hl2 : A2.heap[d + 1]? = some (.loop { rc .ready none with state := .busy }) := by rw [hA2]; exact World.putObj_heap_same hlt
    have hk2 : A2.heap[d]? = some (.deferred (some [])) := by rw [hA2]; exact (World.putObj_heap_other (by omega)).trans hk
    have hb2 : Kept T A A2 := by rw [hA2]; exact put1 A _
    have hi2 : I pre A2 := by rw [hA2]; exact hI.putObj _ hi (by omega) hl rfl
    have hbg := run_beginRound (P := P) hl (by rw [hrc])
    rw [← hA2] at hbg
    refine ⟨fn, _, assign, body, hy, roundIn_of_wpIn hfn (hassign _ x A _ ⟨A2, hbg, ?_⟩)⟩
    refine wpIn_mono (hbody _ pre x A2 hi2 (hSt _ _ _ hst hb2)) ?_
    have fin : ∀ (jump : Option Code) (A3 : World), KeepsFrom w.heap.size A2 A3 →
        (Instr.endRound (d + 1) jump).run P A3 = .ok (.bool jump.isNone) (A3.putObj (d + 1) (.loop (rc (if jump.isNone then .ready else .done) jump))) ∧
        A3.heap[d + 1]? = some (.loop { rc .ready none with state := .busy }) ∧
        (A3.putObj (d + 1) (.loop (rc (if jump.isNone then .ready else .done) jump))).heap[d + 1]? = some (.loop (rc (if jump.isNone then .ready else .done) jump)) ∧
        (A3.putObj (d + 1) (.loop (rc (if jump.isNone then .ready else .done) jump))).heap[d]? = some (.deferred (some [])) := fun jump A3 hk3 => by
      have hl3 := hk3.same _ _ (by omega) hl2 rfl
      have := run_endRound (P := P) jump hl3
      rw [hrc] at this ⊢
      exact ⟨this, by rw [hrc] at hl3; exact hl3, World.putObj_heap_same (Array.getElem?_eq_some_iff.1 hl3).1, (World.putObj_heap_other (by omega)).trans (hk3.same _ _ (by omega) hk2 rfl)⟩
    rintro e a3 A3 hp
    cases e with
    | normal =>
      obtain ⟨hk3, hkp3, hi3⟩ := hp
      obtain ⟨hr, hl3, hl4, hk4⟩ := fin none A3 hk3
      exact ⟨_, _, hr, .inl ⟨rfl, ⟨hI.putObj _ hi3 (by omega) hl3 rfl, hl4, hk4⟩, (hb2.trans hkp3).trans (put1 A3 _)⟩⟩
    | ret =>
      obtain ⟨hk3, hi3⟩ := hp
      obtain ⟨hr, hl3, hl4, hk4⟩ := fin (some .ret) A3 hk3
      exact ⟨_, _, hr, .inr ⟨rfl, .ret, (hIx _).putObj _ hi3 (by omega) hl3 rfl, hl4, hk4⟩⟩
    | exit id =>
      obtain ⟨hk3, hi3⟩ := hp
      obtain ⟨hr, hl3, hl4, hk4⟩ := fin (some (.exit id)) A3 hk3
      exact ⟨_, _, hr, .inr ⟨rfl, .exit id, (hIx _).putObj _ hi3 (by omega) hl3 rfl, hl4, hk4⟩⟩
    | goto t =>
      obtain ⟨hk3, hi3⟩ := hp
      obtain ⟨hr, hl3, hl4, hk4⟩ := fin (some (.goto t)) A3 hk3
      exact ⟨_, _, hr, .inr ⟨rfl, .goto t, (hIx _).putObj _ hi3 (by omega) hl3 rfl, hl4, hk4⟩⟩
    | panic ch => exact hp.elim
    | outgrown => exact hp.elim
  · rintro e W2 ⟨⟨v, rfl⟩, (⟨xs, hD, hi, hl, hk⟩ | ⟨pre, c, hi, hl, hk⟩)⟩
    · exact ⟨none, _, by have := run_endLoop (P := P) hl (by rw [hrc]; simp); rw [hrc] at this; exact this,
        hdone d xs _ (by omega) (hDn _ _ _ hD (put1 W2 _)) (hI.putObj _ hi (by omega) hl rfl) ((World.putObj_heap_other (by omega)).trans hk)⟩
    · exact ⟨some c, _, by have := run_endLoop (P := P) hl (by rw [hrc]; simp); rw [hrc] at this; exact this,
        hstop d c pre _ (by omega) ((hIx c).putObj _ hi (by omega) hl rfl) ((World.putObj_heap_other (by omega)).trans hk)⟩
end Go.Proofs.YtbifkjmmhfnblaaDoor.Ints
