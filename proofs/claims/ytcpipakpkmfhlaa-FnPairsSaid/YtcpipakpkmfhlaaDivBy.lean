/- The contract of the program's division by a small number. -/
import Derived.Test.YtcpipakpkmfhlaaBy
import Derived.Test.YtcpipakpkmfhlaaBack
namespace Go
theorem wpListIn_make_full {F : Fence} {n : Nat} {P : Program} (w : World) {ops : Array Oper} {rest : List Oper} {o : Oper} {a : Act} {Q : Exit → Act → World → Prop}
    (hg : o.guard = none) (l c : Operand) (t : TypeId) (hop : o.op = Op.makeSlice t l c)
    (base : Nat) (e : TypeId) (i : TypeInfo) (z : Value) (size : Nat) (h1 : P.underlying t = some (.slice e)) (h2 : P.info? e = some i) (h3 : i.zero = some z) (h4 : i.size = size)
    (kl kc : IntKind) (L C : Int) (m : Nat) (hl : a.eval l = .int kl L) (hc : a.eval c = .int kc C) (hL : L = (m : Int)) (hC : C = (m : Int)) (b2 : i.bytes * m ≤ 281474976710656) (b3 : m ≤ maxLen) (b4 : base ≤ w.heap.size)
    (hK : ∀ w', w'.ownsRow base e size (.slice (some ⟨w.heap.size, 0, none⟩) m m) m (madeCells z.cells (m * size)).toList → w.grownBy w' none → wpListIn F n P ops Q rest (a.put o.dst (.slice (some ⟨w.heap.size, 0, none⟩) m m)) w') :
    wpListIn F n P ops Q (o :: rest) a w := by
  refine wpListIn_plain hg fun K hK' => ?_
  obtain ⟨w', hrun, r1, r2⟩ := run_make_full (P := P) w base t e i z size h1 h2 h3 h4 kl kc m b2 b3 b4
  subst hL
  subst hC
  unfold Oper.wpIn
  refine ⟨?_, ?_⟩
  · simp [Oper.about, hop]
  · rw [Oper.semAt_plain F _ _ (by rw [hop]; intro c hc'; cases hc')]
    simp [execOp, hop, hl, hc, hrun, Result.andThen]
    exact hK' _ _ (hK w' r1 r2)
end Go
namespace Go.Proofs.Ytcpipakpkmfhlaa.Ints
open Go.RowKit Go.Shelf
set_option linter.unusedVariables false
attribute [local go_sem] Oper.semAt_some
theorem wide_fn (f : FuncId) : Fence.wide.fn f = True := rfl
attribute [local go_sem, local simp] wide_fn

set_option maxHeartbeats 2000000 in
theorem implTrimAt (g c : Nat) (Z : List Int) (B T : Nat) (w : World) (h : Ow w B T (.slice (some ⟨g, 0, none⟩) Z.length c) Z) :
    Calls Try.prog 60 #[.slice (some ⟨g, 0, none⟩) Z.length c] w fun e w' => e = .returned (.slice (some ⟨g, 0, none⟩) (trimN Z Z.length) c) ∧ w' = w := by
  have hl := h.len
  have HC : Hid (∀ j, j < Z.length → w.cell? ⟨g, j, none⟩ = some (.int .i64 (Z.getD j 0))) := Lib.hid (fun j hj => h.blk.1.cell j hj)
  have hn := h.blk.2.1
  clear h
  go_enter Try.func60, Try.ntmps60
  go_wp2
  go_loop [0] (fun s => ∃ m : Nat, m ≤ Z.length ∧ s = .slice (some ⟨g, 0, none⟩) m c ∧ trimN Z Z.length = trimN Z m) (fun s => match s with | .slice _ m _ => m | _ => 0)
  case atStart => exact ⟨Z.length, Nat.le_refl _, rfl, rfl⟩
  case round =>
    obtain ⟨m, hml, rfl, he⟩ := hrel
    have HE := Lib.hid he
    clear he
    cases m with
    | zero =>
      have HF : Hid (trimN Z Z.length = 0) := Lib.hid (by rw [HE.out]; rfl)
      go_wp2
      go_ret
      exact ⟨by rw [HF.out] <;> rfl, rfl⟩
    | succ m =>
      obtain ⟨x, hx⟩ : ∃ x, x = Z.getD m 0 := ⟨_, rfl⟩
      have hc : w.cell? ⟨g, m, none⟩ = some (.int .i64 x) := by rw [hx]; exact HC.out m (by omega)
      have hp : (0 : Int) < ((m + 1 : Nat) : Int) := by omega
      have hp2 : (0 : Int) < (m : Int) + 1 := by omega
      have i0 : (0 : Int) ≤ (m : Int) := by omega
      have i1 : (m : Int) < ((m + 1 : Nat) : Int) := by omega
      have hx2 : m + 1 ≤ c := by omega
      by_cases h0 : x = 0
      · have hz : (x == 0) = true := by simp [h0]
        have HS : Hid (trimN Z (m + 1) = trimN Z m) := Lib.hid (trimN_step (by rw [← hx]; exact h0))
        clear hx h0
        go_wp2
        go_round
        case rel => exact ⟨m, by omega, by first | rfl | simp, by rw [HE.out, HS.out]⟩
        case measure => simp
      · have hz : (x == 0) = false := by simp [h0]
        have HF : Hid (trimN Z Z.length = m + 1) := Lib.hid (by rw [HE.out, trimN_stop (by rw [← hx]; exact h0)])
        clear hx h0
        go_wp2
        go_ret
        exact ⟨by rw [HF.out] <;> rfl, rfl⟩
theorem kbSet {n₀ Bs : Nat} (W : World) {p : Addr} (h : n₀ ≤ p.block) (hB : Bs ≠ p.block) (u : Value) : KB n₀ Bs W (W.setCell p u) :=
  ⟨(Below.refl n₀ W).setCell h u, Below.heap_setCell W p u Bs hB⟩
/-- The rest and the quotients so far, as the machine reckons them. -/
def dvS (d : Int) (st : Int × List Int) (x : Nat × Int) : Int × List Int :=
  ((wrap64 (wrap64 (st.1 * 1000000) + x.2)).tmod d, st.2.set x.1 (wrap64 ((wrap64 (wrap64 (st.1 * 1000000) + x.2)).tdiv d)))
def dvF (zs : List Int) (d : Int) (pre : List (At zs)) : Int × List Int := pre.foldl (fun st x => dvS d st x.1) (0, List.replicate zs.length 0)
theorem dvF_snoc (zs : List Int) (d : Int) (pre : List (At zs)) (x : At zs) : dvF zs d (pre ++ [x]) = dvS d (dvF zs d pre) x.1 := by simp [dvF]
theorem dvF_len (zs : List Int) (d : Int) (pre : List (At zs)) : (dvF zs d pre).2.length = zs.length := by
  suffices h : ∀ st : Int × List Int, st.2.length = zs.length → (pre.foldl (fun st x => dvS d st x.1) st).2.length = zs.length from h _ (by simp)
  induction pre with
  | nil => exact fun _ h => h
  | cons x xs ih => exact fun st h => ih _ (by simp [dvS, h])
theorem dvF_at {zs : List Int} {d : Int} (hz : Dig 1000000 zs) (d0 : 1 ≤ d) (d1 : d ≤ 1000000) : ∀ k, k ≤ zs.length → DI zs (dvF zs d (dnR zs k)).2 d (zs.length - k) (dvF zs d (dnR zs k)).1 := by
  intro k
  induction k with
  | zero => intro _; exact DI.start zs d
  | succ k ih =>
    intro hk
    have h := ih (by omega)
    have hlt : zs.length - 1 - k < zs.length := by omega
    have e1 : zs.length - k = (zs.length - 1 - k) + 1 := by omega
    have e2 : zs.length - (k + 1) = zs.length - 1 - k := by omega
    rw [e1] at h
    rw [dnR, dif_pos hlt, dvF_snoc, e2]
    obtain ⟨st, hst⟩ : ∃ st, st = dvF zs d (dnR zs k) := ⟨_, rfl⟩
    rw [← hst] at h ⊢
    have e : zs[zs.length - 1 - k]?.getD 0 = zs.getD (zs.length - 1 - k) 0 := (List.getD_eq_getElem?_getD ..).symm
    obtain ⟨h1, s0, s1, q0, q1⟩ := h.step hlt hz d0 d1 (st.1 * 1000000 + zs.getD (zs.length - 1 - k) 0) rfl
    obtain ⟨r0, r1⟩ := h.rb d0
    have ew : wrap64 (wrap64 (st.1 * 1000000) + zs.getD (zs.length - 1 - k) 0) = st.1 * 1000000 + zs.getD (zs.length - 1 - k) 0 := by
      rw [IntWalk.wrap64_in (st.1 * 1000000) ⟨by omega, by omega⟩, IntWalk.wrap64_in _ ⟨by omega, by omega⟩]
    simp only [dvS, e, ew]
    rw [Int.tmod_eq_emod_of_nonneg s0, Int.tdiv_eq_ediv_of_nonneg s0, IntWalk.wrap64_in _ ⟨by omega, by omega⟩]
    exact h1
theorem dvF_done {zs : List Int} {d : Int} (hz : Dig 1000000 zs) (d0 : 1 ≤ d) (d1 : d ≤ 1000000) : DI zs (dvF zs d (dnA zs 0)).2 d 0 (dvF zs d (dnA zs 0)).1 := by
  have h := dvF_at hz d0 d1 zs.length (Nat.le_refl _)
  rw [Nat.sub_self] at h
  rw [dnA, Nat.sub_zero]; exact h
theorem blk_own {β : Type} (g K : Nat) (f : β → List Int) : Own (fun s W => Blk W g K (f s)) := fun s X Y row hs hg hrow =>
  hs.grown hg (fun e' => by
    obtain ⟨o, ho, hc⟩ := hrow g e'
    obtain ⟨tl, _, hb⟩ := hs
    rw [hb] at ho; cases ho; cases hc)

set_option maxRecDepth 100000 in
set_option maxHeartbeats 4000000 in
theorem implBy_in (u : Value) (ps : List Int) (d : Int) (w : World) (hu : Rd w u ps) (hp : Dig 1000000 ps) (hl0 : ps.length ≤ 1000) (d0 : 1 ≤ d) (d1 : d ≤ 1000000) :
    CallsIn Fence.wide 6 Try.prog 42 #[u, .int .i64 d] w fun e w' => ∃ r, e = .returned (.tuple #[r, .int .i64 (val ps % d)]) ∧ Ow w' w.heap.size w'.heap.size r (canOf (val ps / d)) ∧ Below w.heap.size w w' := by
  obtain ⟨hl, hf, a, c, rfl, hcap, hr⟩ := hu
  have HP := Lib.hid hp
  have HR := Lib.hid hr
  clear hp hr
  obtain ⟨i0, hi, hz0, hz1, hz2⟩ := info_parts infoE
  have mixed : Try.prog.follows .mixedOrders = true := by kernel_rfl
  refine callsIn_of_wp_marks Try.func42 rfl trivial ?_ rfl
  simp only [Try.ntmps42, List.size_toArray, List.length_cons, List.length_nil, Nat.reduceAdd, Nat.reduceSub, Array.replicate_succ, Array.replicate_zero, List.push_toArray, List.append_toArray, List.nil_append, List.cons_append]
  gi_wp2_with (gi_at_make; refine wpListIn_make_full _ rfl _ _ 24 rfl (w.heap.size + 1) 2 i0 (.int .i64 0) 1 Try.underlying24 hi hz0 hz1 _ _ _ _ ps.length rfl rfl rfl rfl ?b2 ?b3 (by simp) ?_)
  case b2 => first | omega | (rw [hz2]; omega)
  case b3 => unfold maxLen; omega
  intro w0 hown0 hgrow0
  gi_wp2_with (gi_at_call 59; refine (back_in Fence.wide _ trivial rfl _ ⟨_, _, _, rfl⟩ _).mono ?_; rintro e w' ⟨rfl, rfl⟩)
  have hsz0 : w.heap.size + 1 < w0.heap.size := (hown0.lt _ rfl).2
  have bBy : Boxed w0 w.heap.size 2 (.int .i64 d) := (Boxed.new w 2 (.int .i64 d)).kept hgrow0 (by simp)
  have bQ := Boxed.new w0 24 (.slice (some ⟨w.heap.size + 1, 0, none⟩) ps.length ps.length)
  obtain ⟨wq, hwq⟩ : ∃ x, x = w0.alloc (.cells #[.slice (some ⟨w.heap.size + 1, 0, none⟩) ps.length ps.length] 24) := ⟨_, rfl⟩
  rw [← hwq] at bQ ⊢
  have sq : wq.heap.size = w0.heap.size + 1 := by rw [hwq]; simp
  have bR := Boxed.new wq 2 (.int .i64 0)
  rw [sq] at bR
  obtain ⟨wr, hwr⟩ : ∃ x, x = wq.alloc (.cells #[.int .i64 0] 2) := ⟨_, rfl⟩
  rw [← hwr] at bR ⊢
  have sr : wr.heap.size = w0.heap.size + 2 := by rw [hwr]; simp [sq]
  have bI := Boxed.new wr 24 (.slice a ps.length c)
  rw [sr] at bI
  obtain ⟨wi, hwi⟩ : ∃ x, x = wr.alloc (.cells #[.slice a ps.length c] 24) := ⟨_, rfl⟩
  rw [← hwi] at bI ⊢
  have si : wi.heap.size = w0.heap.size + 3 := by rw [hwi]; simp [sr]
  have bBy1 : Boxed wq w.heap.size 2 (.int .i64 d) := by rw [hwq]; exact bBy.alloc _
  have bBy2 : Boxed wr w.heap.size 2 (.int .i64 d) := by rw [hwr]; exact bBy1.alloc _
  have bBy3 : Boxed wi w.heap.size 2 (.int .i64 d) := by rw [hwi]; exact bBy2.alloc _
  have bQ2 : Boxed wr w0.heap.size 24 (.slice (some ⟨w.heap.size + 1, 0, none⟩) ps.length ps.length) := by rw [hwr]; exact bQ.alloc _
  have bQ3 : Boxed wi w0.heap.size 24 (.slice (some ⟨w.heap.size + 1, 0, none⟩) ps.length ps.length) := by rw [hwi]; exact bQ2.alloc _
  have bR3 : Boxed wi (w0.heap.size + 1) 2 (.int .i64 0) := by rw [hwi]; exact bR.alloc _
  have k0 := Blk.zeros hown0
  have kI : Blk wi (w.heap.size + 1) ps.length (List.replicate ps.length 0) := by
    have k1 : Blk wq (w.heap.size + 1) ps.length (List.replicate ps.length 0) := by rw [hwq]; exact k0.grown (World.grownBy_alloc _ _ none) (by simp)
    have k2 : Blk wr (w.heap.size + 1) ps.length (List.replicate ps.length 0) := by rw [hwr]; exact k1.grown (World.grownBy_alloc _ _ none) (by simp)
    rw [hwi]; exact k2.grown (World.grownBy_alloc _ _ none) (by simp)
  have hB0 : Below w.heap.size w w0 := ((Below.refl w.heap.size w).alloc (Nat.le_refl _) _).grown hgrow0 (by simp) (fun k h => by cases h)
  have hBI : Below w.heap.size w wi := by
    rw [hwi, hwr, hwq]
    exact ((hB0.alloc (by omega) _).alloc (by simp; omega) _).alloc (by simp; omega) _
  have hcs : ps ≠ [] → ∃ b o, a = some ⟨b, o, none⟩ ∧ b < w.heap.size ∧ ∀ j, j < ps.length → wi.cell? ⟨b, o + j, none⟩ = some (.int .i64 (ps[j]?.getD 0)) := fun hne => by
    obtain ⟨b, o, ha, hb, hc⟩ := HR.out hne
    exact ⟨b, o, ha, hb, fun j hj => by rw [hBI.cell (p := ⟨b, o + j, none⟩) hb, hc j hj, List.getD_eq_getElem?_getD]⟩
  clear hown0 hgrow0 hB0 k0 bBy bQ bR bBy1 bBy2 bQ2 hwi hwr hwq
  refine wpIn_rangeFunc_ownG rfl (by omega) (gf := 68) (lb := #[.pointer (some ⟨w0.heap.size + 2, 0, none⟩)]) rfl trivial (enters_of Try.func68 (by kernel_rfl) rfl)
    (back_stops Fence.wide 5 trivial rfl (by omega) (w0.heap.size + 2) w.heap.size a c ps hl wi (by omega) (by omega) bI.cell hcs) KB.trans (KB.book (by omega) (by omega)) (Below.refl _ _) (fun _ => rfl)
    (fun pre W => Boxed W w.heap.size 2 (.int .i64 d) ∧ Boxed W w0.heap.size 24 (.slice (some ⟨w.heap.size + 1, 0, none⟩) ps.length ps.length) ∧ Boxed W (w0.heap.size + 1) 2 (.int .i64 (dvF ps d pre).1) ∧ Blk W (w.heap.size + 1) ps.length (dvF ps d pre).2 ∧ Below w.heap.size w W)
    (fun _ _ _ => False)
    (OwnFrom.and (Own.from (boxed_own _ _ _) _) (OwnFrom.and (Own.from (boxed_own _ _ _) _) (OwnFrom.and (Own.from (boxed_own _ _ _) _) (OwnFrom.and (Own.from (blk_own _ _ _) _) (ownFrom_below (Nat.le_refl _) (by omega))))))
    (fun _ _ _ _ _ hs _ _ => hs)
    ⟨bBy3, bQ3, bR3, kI, hBI⟩
    (fun x => { tmps := #[Value.slice a ps.length c, Value.int IntKind.i64 d, undef,
          Value.pointer (some { block := w.heap.size, off := 0 }), Value.slice none 0 0, Value.int IntKind.i64 0,
          Value.pointer (some { block := w0.heap.size, off := 0 }),
          Value.pointer (some { block := w0.heap.size + 1, off := 0 }), .int .i64 ((x.1.1 : Nat) : Int), .int .i64 x.1.2, Value.slice a ps.length c,
          Value.int IntKind.i64 ps.length,
          Value.slice (some { block := w.heap.size + 1, off := 0 }) ps.length ps.length, Value.slice a ps.length c,
          Value.func (Fn.func 68) #[] #[Value.pointer (some { block := w0.heap.size + 1 + 1, off := 0 })], .int .i64 ((x.1.1 : Nat) : Int), .int .i64 x.1.2,
          undef, undef, undef, undef, undef, undef, undef, undef, undef, undef, undef, undef, undef, undef, undef,
          undef], defers := [] }) ?assign ?body ?done ?stop
  case assign =>
    intro l x W K hK
    gi_wp2
    exact hK
  case body =>
    rintro l pre x W ⟨h1, h2, h3, h4, h5⟩ _
    have hlen := dvF_len ps d pre
    have HD := Lib.hid (dvF_snoc ps d pre x)
    obtain ⟨st, hst⟩ : ∃ st, st = dvF ps d pre := ⟨_, rfl⟩
    rw [← hst] at h3 h4 hlen HD
    clear hst
    obtain ⟨P2, hP2⟩ : ∃ P2, P2 = pre ++ [x] := ⟨_, rfl⟩
    rw [← hP2] at HD ⊢
    clear hP2
    obtain ⟨R, Y⟩ := st
    obtain ⟨⟨i, z⟩, hx1, hx2⟩ := x
    dsimp only at h3 h4 hlen hx1 HD ⊢
    clear hx2
    have c3 := h3.cell
    have f3 := h3.frozen
    gi_wp2
    obtain ⟨s, hs⟩ : ∃ s, s = wrap64 (wrap64 (R * 1000000) + z) := ⟨_, rfl⟩
    rw [← hs]
    have hdz : (d == 0) = false := by simp; omega
    have g1 : Boxed (W.setCell ⟨w0.heap.size + 1, 0, none⟩ (.int .i64 s)) w.heap.size 2 (.int .i64 d) := h1.other (by omega) _
    have g2 : Boxed (W.setCell ⟨w0.heap.size + 1, 0, none⟩ (.int .i64 s)) w0.heap.size 24 (.slice (some ⟨w.heap.size + 1, 0, none⟩) ps.length ps.length) := h2.other (by omega) _
    have g3 : Boxed (W.setCell ⟨w0.heap.size + 1, 0, none⟩ (.int .i64 s)) (w0.heap.size + 1) 2 (.int .i64 s) := h3.set _
    have g4 : Blk (W.setCell ⟨w0.heap.size + 1, 0, none⟩ (.int .i64 s)) (w.heap.size + 1) ps.length Y := h4.grown (grownBy_setCell' W _ _) (by simp; omega)
    have g5 : Below w.heap.size w (W.setCell ⟨w0.heap.size + 1, 0, none⟩ (.int .i64 s)) := h5.setCell (p := ⟨w0.heap.size + 1, 0, none⟩) (by show w.heap.size ≤ w0.heap.size + 1; omega) _
    have gk := (KeepsOthers.setCell W ⟨w0.heap.size + 1, 0, none⟩ (.int .i64 s)).from wi.heap.size
    have gb : KB w.heap.size (w0.heap.size + 2) W (W.setCell ⟨w0.heap.size + 1, 0, none⟩ (.int .i64 s)) := kbSet W (by show w.heap.size ≤ w0.heap.size + 1; omega) (by show w0.heap.size + 2 ≠ w0.heap.size + 1; omega) _
    obtain ⟨W1, hW1⟩ : ∃ x, x = W.setCell ⟨w0.heap.size + 1, 0, none⟩ (.int .i64 s) := ⟨_, rfl⟩
    rw [← hW1] at g1 g2 g3 g4 g5 gk gb ⊢
    clear hW1 h1 h2 h3 h4 h5 c3 f3
    have c1 : W1.drew.cell? ⟨w.heap.size, 0, none⟩ = some (.int .i64 d) := g1.cell
    have c2 : W1.drew.cell? ⟨w0.heap.size, 0, none⟩ = some (.slice (some ⟨w.heap.size + 1, 0, none⟩) ps.length ps.length) := g2.cell
    have c3 : W1.drew.cell? ⟨w0.heap.size + 1, 0, none⟩ = some (.int .i64 s) := g3.cell
    obtain ⟨y0, hy0⟩ : ∃ y, y = Y.getD i 0 := ⟨_, rfl⟩
    have c4 : W1.drew.cell? ⟨w.heap.size + 1, i, none⟩ = some (.int .i64 y0) := by rw [hy0]; exact g4.cell i (by omega)
    have f4 : W1.drew.frozen? ⟨w.heap.size + 1, i, none⟩ = false := g4.frozen i
    have i0 : (0 : Int) ≤ (i : Int) := by omega
    have i1 : (i : Int) < (ps.length : Int) := by omega
    have HE : Hid (dvF ps d P2 = (s.tmod d, Y.set i (wrap64 (s.tdiv d)))) := Lib.hid (by rw [HD.out, dvS, hs])
    obtain ⟨q, hq⟩ : ∃ q, q = wrap64 (s.tdiv d) := ⟨_, rfl⟩
    rw [← hq] at HE
    have HQ := Lib.hid hq
    clear hs HD hq hy0
    have e4 : Blk (W1.setCell ⟨w.heap.size + 1, i, none⟩ (.int .i64 q)).drew (w.heap.size + 1) ps.length (Y.set i q) := (g4.set i (by omega) q).1
    have eg := (g4.set i (by omega) q).2
    have e1' := g1.kept eg (by simp)
    have e2' := g2.kept eg (by simp; omega)
    have e3' := g3.kept eg (by simp; omega)
    have e1 : Boxed (W1.setCell ⟨w.heap.size + 1, i, none⟩ (.int .i64 q)).drew w.heap.size 2 (.int .i64 d) := e1'
    have e2 : Boxed (W1.setCell ⟨w.heap.size + 1, i, none⟩ (.int .i64 q)).drew w0.heap.size 24 (.slice (some ⟨w.heap.size + 1, 0, none⟩) ps.length ps.length) := e2'
    have e3 : Boxed (W1.setCell ⟨w.heap.size + 1, i, none⟩ (.int .i64 q)).drew (w0.heap.size + 1) 2 (.int .i64 s) := e3'
    have e5 : Below w.heap.size w (W1.setCell ⟨w.heap.size + 1, i, none⟩ (.int .i64 q)).drew := below_drewN (g5.setCell (p := ⟨w.heap.size + 1, i, none⟩) (by show w.heap.size ≤ w.heap.size + 1; omega) _) 1
    have ek : KeepsFrom wi.heap.size W (W1.setCell ⟨w.heap.size + 1, i, none⟩ (.int .i64 q)).drew := (gk.trans ((KeepsOthers.setCell _ _ _).from _)).trans ((KeepsOthers.drew _).from _)
    have eb : KB w.heap.size (w0.heap.size + 2) W (W1.setCell ⟨w.heap.size + 1, i, none⟩ (.int .i64 q)).drew := (gb.trans (kbSet W1 (p := ⟨w.heap.size + 1, i, none⟩) (by show w.heap.size ≤ w.heap.size + 1; omega) (by show w0.heap.size + 2 ≠ w.heap.size + 1; omega) _)).trans ⟨below_drewN (Below.refl _ _) 1, rfl⟩
    obtain ⟨W2, hW2⟩ : ∃ x, x = (W1.setCell ⟨w.heap.size + 1, i, none⟩ (.int .i64 q)).drew := ⟨_, rfl⟩
    rw [← hW2] at e1 e2 e3 e4 e5 ek eb
    have HW2 := Lib.hid hW2
    have k1 := e1.cell
    have k3 := e3.cell
    have kf := e3.frozen
    clear hW2 g1 g2 g3 g4 g5 gk gb eg e1' e2' e3'
    gi_region_with_o (fail)
    all_goals
      rw [← HQ.out, ← HW2.out]
      clear c1 c2 c3 c4 f4
      gi_wp2
      exact ⟨ek.trans ((KeepsOthers.setCell _ _ _).from _), eb.trans (kbSet _ (by show w.heap.size ≤ w0.heap.size + 1; omega) (by show w0.heap.size + 2 ≠ w0.heap.size + 1; omega) _), e1.other (by omega) _, e2.other (by omega) _, by rw [HE.out]; exact e3.set _, by rw [HE.out]; exact e4.grown (grownBy_setCell' W2 _ _) (by simp; omega), e5.setCell (p := ⟨w0.heap.size + 1, 0, none⟩) (by show w.heap.size ≤ w0.heap.size + 1; omega) _⟩
  case done =>
    rintro D ys W hD rfl ⟨h1, h2, h3, h4, h5⟩ hK
    have hdone := (dvF_done HP.out d0 d1).done
    obtain ⟨st, hst⟩ : ∃ st, st = dvF ps d (dnA ps 0) := ⟨_, rfl⟩
    rw [← hst] at h3 h4 hdone
    clear hst
    obtain ⟨R, Y⟩ := st
    dsimp only at h3 h4 hdone
    have HD := Lib.hid hdone
    have hWs : wi.heap.size ≤ W.heap.size := by have := (Array.getElem?_eq_some_iff.1 hK).1; omega
    have HY : Hid (Ow W w.heap.size wi.heap.size (.slice (some ⟨w.heap.size + 1, 0, none⟩) Y.length ps.length) Y) := Lib.hid (by
      have h := h4.ow (B := w.heap.size) (by omega) (by unfold maxLen; omega) (by omega) hdone.2.2.2.fit
      exact ⟨h.len, h.fit, h.row, fun k hk => by cases hk; show w.heap.size + 1 < _; omega, hWs, by omega⟩)
    have HB : Hid (Below w.heap.size w W) := Lib.hid h5
    have c2 : W.cell? ⟨w0.heap.size, 0, none⟩ = some (.slice (some ⟨w.heap.size + 1, 0, none⟩) Y.length ps.length) := by rw [h2.cell, hdone.2.2.1]
    have c3 : W.cell? ⟨w0.heap.size + 1, 0, none⟩ = some (.int .i64 R) := h3.cell
    have hK' : W.drew.heap[D]? = some (.deferred (some [])) := hK
    clear hdone h1 h2 h3 h4 h5 hK
    gi_wp2
    gi_quiet_th (first | (refine CallsIn.quiet_of_same (callsIn_wide.2 (implTrimAt _ _ Y w.heap.size wi.heap.size _ (HY.out.below (below_drewN (Below.refl _ _) _) HY.out.size)))))
    have hk2 : (W.drewN nq).heap[D]? = some (.deferred (some [])) := hK'
    have hb3 : Below wi.heap.size W ((W.drewN nq).putObj D (.deferred none)) := (below_drewN (Below.refl wi.heap.size W) nq).trans (belowK_b (w := wi) (Nat.le_refl _) (W.drewN nq) D _ (.deferred none) hD hk2 rfl rfl)
    have HR2 : Hid (Ow ((W.drewN nq).putObj D (.deferred none)) w.heap.size ((W.drewN nq).putObj D (.deferred none)).heap.size (.slice (some ⟨w.heap.size + 1, 0, none⟩) (trimN Y Y.length) ps.length) (canOf (val ps / d))) := Lib.hid (by
      have h2 := (HY.out.below hb3 (Nat.le_refl _)).take (trimN Y Y.length) (trimN_le Y Y.length)
      rw [HD.out.1]
      exact h2.mono (Nat.le_refl _) (Nat.le_trans hWs hb3.size) (Nat.le_refl _))
    have HB2 : Hid (Below w.heap.size w ((W.drewN nq).putObj D (.deferred none))) := Lib.hid (HB.out.trans (hb3.mono (by omega)))
    clear hK'
    gi_wp2
    refine ⟨by simp, .inl ⟨_, _, rfl, run_takeDeferred hk2, ?_⟩⟩
    exact ⟨_, results_tmp2 rfl _ _ _, _, by rw [HD.out.2.1] <;> rfl, HR2.out, HB2.out⟩
  case stop =>
    rintro D c pre W _ _ h _
    exact h.elim
theorem implBy (u : Value) (ps : List Int) (d : Int) (w : World) (hu : Rd w u ps) (hp : Dig 1000000 ps) (hl0 : ps.length ≤ 1000) (d0 : 1 ≤ d) (d1 : d ≤ 1000000) :
    Calls Try.prog 42 #[u, .int .i64 d] w fun e w' => ∃ r, e = .returned (.tuple #[r, .int .i64 (val ps % d)]) ∧ Ow w' w.heap.size w'.heap.size r (canOf (val ps / d)) ∧ Below w.heap.size w w' :=
  callsIn_wide.1 (implBy_in u ps d w hu hp hl0 d0 d1)
end Go.Proofs.Ytcpipakpkmfhlaa.Ints
