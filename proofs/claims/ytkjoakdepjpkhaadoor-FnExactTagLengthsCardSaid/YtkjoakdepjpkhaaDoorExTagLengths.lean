/-   FnExactTagLengths: for every tag system, every word, every number the program's TagLengths answers as its model, both lengths and code, leaves its arguments alone; the library's variable errors.errorType is read as start-up lays it (tied). No condition. -/
import Derived.Test.YtkjoakdepjpkhaaDoorRows
import Derived.Test.YtkjoakdepjpkhaaDoorCards
import Derived.Test.YtkjoakdepjpkhaaDoorTie
import Derived.WalkKit
import Derived.ProofKit
import Derived.OpenShut
import Derived.ShutString
import Derived.ChangeOld
import Derived.Below
import Derived.Lib.SmallJoins
import Derived.Deep.Strs
import Derived.OpenVars
import Derived.LaidMore
import Derived.Lay
import Derived.LaidOnce
import Derived.SevenTiedAt
import Derived.Stop.Joined
import Derived.LaidLaws
import Derived.LaidHandle
import Derived.ChangeSame
import Derived.ChangeVars
import Derived.JoinedOf
import Derived.RowKit
import Derived.RowKitTokens
import Derived.Handy
import Derived.Lib.Hide
import Derived.Deep.RegionHeld3
import Derived.Deep.DeepCutAuto
import Derived.Test.YtkjoakdepjpkhaaDoorMkQ
import Derived.Test.YtkjoakdepjpkhaaDoorTlT
namespace Go.Proofs.YtkjoakdepjpkhaaDoor.fnExactTagLengths
open Go.ChangeShapes Go.WideShapes Go.ChangeAt Go.RowKit
set_option linter.unusedVariables false
set_option linter.unusedSimpArgs false

theorem own : ownKnob Tryd.prog.godebug = none := by kernel_rfl
theorem laidOut : laidOutB Tryd.prog = true := by kernel_rfl
open Ints

set_option maxRecDepth 100000 in
set_option maxHeartbeats 16000000 in
theorem walk (i0_0 : Int) (a0_0 : Option Addr) (len0_0 cap0_0 : Nat) (z0_0 : List Qin) (a0_1 : Option Addr) (len0_1 cap0_1 : Nat) (z0_1 : List Int) (a1_0 : Option Addr) (len1_0 cap1_0 : Nat) (z1_0 : List Int) (a2 : Int) (w : World) (j0_0 : (Lit.int .i64 i0_0).wf = true) (w0_0 : IsLists w a0_0 len0_0 cap0_0 z0_0) (w0_1 : IsList w a0_1 len0_1 cap0_1 z0_1) (w1_0 : IsList w a1_0 len1_0 cap1_0 z1_0) (w2 : (Lit.int .i64 a2).wf = true) (hev : EtV w) :
    Calls Tryd.prog 3 #[.agg #[.int .i64 i0_0, .slice a0_0 len0_0 cap0_0, .slice a0_1 len0_1 cap0_1], .slice a1_0 len1_0 cap1_0, .int .i64 a2] w fun e w' => e = .returned (.bool true) ∧ Below w.heap.size w w' := by
  have hz0_1 := w0_1.le
  have HZ0 := Lib.hid hz0_1
  have hz1_0 := w1_0.le
  clear hz0_1
  obtain ⟨W0, hW0⟩ : ∃ x, x = w.alloc (Obj.cells #[.int .i64 i0_0, .slice a0_0 len0_0 cap0_0, .slice a0_1 len0_1 cap0_1] 25) := ⟨_, rfl⟩
  have HLT0 : Hid (w.heap.size < W0.heap.size) := Lib.hid (by rw [hW0]; simp)
  have HB0 : Hid (Below w.heap.size w W0) := Lib.hid (by rw [hW0]; exact (Below.refl _ _).alloc (Nat.le_refl _) _)
  have K0 : Hid (Cels W0 w.heap.size 25 [.int .i64 i0_0, .slice a0_0 len0_0 cap0_0, .slice a0_1 len0_1 cap0_1]) := Lib.hid (by rw [hW0]; exact Cels.new _ _ _)
  have HI0 : Hid (IsLists W0 a0_0 len0_0 cap0_0 z0_0) := Lib.hid (by rw [hW0]; exact w0_0.alloc _)
  have HW0 := Lib.hid hW0.symm
  clear hW0
  by_cases hb1 : len1_0 ≤ 1048576
  rotate_left
  · have hc1 : (1048576 : Int) < (len1_0 : Int) := by omega
    go_enter Tryd.func3, Tryd.ntmps3
    go_wp2
    go_ret
    exact ⟨rfl, by rw [HW0.out]; exact HB0.out⟩
  have hd1 : ¬ (1048576 : Int) < (len1_0 : Int) := by omega
  obtain ⟨s0, hs0⟩ : ∃ s : Int, s = szTagV 1048576 len0_0 z0_0 len0_1 := ⟨_, rfl⟩
  have HS0 := Lib.hid hs0
  clear hs0
  by_cases h0 : 0 ≤ s0
  rotate_left
  · have g0 : s0 < 0 := by omega
    clear h0
    go_enter Tryd.func3, Tryd.ntmps3
    go_wp2_with fail
    rw [HW0.out]
    refine (szTag' i0_0 _ _ _ z0_0 _ _ _ _ HI0.out HZ0.out (by omega) HS0.out).mono ?_
    rintro e v0 ⟨rfl, b0⟩
    rw [if_pos (show s0 < 0 by omega)]
    replace K0 := Lib.hid (K0.out.below b0 K0.out.lt)
    have HT := Lib.hid b0
    clear b0
    go_wp2
    go_ret
    exact ⟨rfl, HB0.out.trans (HT.out.mono HB0.out.size)⟩
  have g0 : ¬ s0 < 0 := by omega
  have HGS := Lib.hid (szTagV_good (L := 1048576) (n := len0_0) (zs := z0_0) (m := len0_1) (by rw [← HS0.out]; exact h0) (by omega))
  obtain ⟨y0, hy0⟩ : ∃ y, y = (z0_0.take len0_0).map Qin.q := ⟨_, rfl⟩
  have R0 : Hid (RdL W0 (.slice a0_0 len0_0 cap0_0) y0) := Lib.hid (by rw [hy0]; exact rdl_of_sz (L := 1048576) HI0.out (by omega) HGS.out.1)
  have HTOT : Hid (tot y0 ≤ 1048576) := Lib.hid (by have := szQV_tot HGS.out.1; rw [← hy0] at this; omega)
  clear hy0
  obtain ⟨x0, hx0⟩ : ∃ y, y = z0_1.take len0_1 := ⟨_, rfl⟩
  have Q0 : Hid (Rd W0 (.slice a0_1 len0_1 cap0_1) x0) := Lib.hid (by rw [hx0]; exact (rd_of_row w0_1 HGS.out.2.1).below HB0.out (Nat.le_refl _))
  clear hx0
  obtain ⟨x1, hx1⟩ : ∃ y, y = z1_0.take len1_0 := ⟨_, rfl⟩
  have Q1 : Hid (Rd W0 (.slice a1_0 len1_0 cap1_0) x1) := Lib.hid (by rw [hx1]; exact (rd_of_row w1_0 (by omega)).below HB0.out (Nat.le_refl _))
  clear hx1
  have HN := Lib.hid (hev.below HB0.out (Nat.le_refl _))
  clear hev h0
  go_enter Tryd.func3, Tryd.ntmps3
  go_wp2_with fail
  rw [HW0.out]
  refine (szTag' i0_0 _ _ _ z0_0 _ _ _ _ HI0.out HZ0.out (by omega) HS0.out).mono ?_
  rintro e v0 ⟨rfl, b0⟩
  rw [if_neg (show ¬ s0 < 0 by omega)]
  replace K0 := Lib.hid (K0.out.below b0 K0.out.lt)
  have HLV0 := Lib.hid b0.size
  have HT := Lib.hid b0
  clear b0
  clear HS0 HGS HI0 HZ0
  have zzK0_0 := K0.out.cell 0 rfl
  have zzK0_1 := K0.out.cell 1 rfl
  have zzK0_2 := K0.out.cell 2 rfl
  go_wp2_with fail
  refine (toTagT i0_0 _ y0 _ x0 _ (R0.out.below HT.out (Nat.le_refl _)) (Q0.out.below HT.out (Nat.le_refl _))).mono ?_
  rintro e v1 ⟨uqa, uha, Ta, rfl, oqa, oha, hTa, b1⟩
  have SZ1 := Lib.hid b1.size
  have HTa := Lib.hid hTa
  replace K0 := Lib.hid (K0.out.below b1 K0.out.lt)
  replace HT := Lib.hid (HT.out.trans (b1.mono HT.out.size))
  clear b1 hTa
  obtain ⟨gaa, gca, hqa⟩ := oqa.shape
  subst hqa
  obtain ⟨haa, hca, hha⟩ := oha.shape
  subst hha
  have RQa := Lib.hid oqa.rdl
  have RHa := Lib.hid oha.rd
  clear oqa oha
  clear zzK0_0 zzK0_1 zzK0_2
  go_wp2_with fail
  refine (toInts _ x1 _ (Q1.out.below HT.out (Nat.le_refl _))).mono ?_
  rintro e v2 ⟨ula, rfl, ola, b2⟩
  have SZ2 := Lib.hid b2.size
  replace RQa := Lib.hid (RQa.out.below b2 (Nat.le_refl _))
  replace RHa := Lib.hid (RHa.out.below b2 (Nat.le_refl _))
  replace K0 := Lib.hid (K0.out.below b2 K0.out.lt)
  replace HT := Lib.hid (HT.out.trans (b2.mono HT.out.size))
  clear b2
  obtain ⟨kaa, kca, hla⟩ := ola.shape
  subst hla
  have RLa := Lib.hid ola.rd
  clear ola
  go_wp2_with fail
  refine (specTagLengths i0_0 _ _ _ y0 x0 x1 a2 _ RQa.out RHa.out RLa.out).mono ?_
  rintro e v3 ⟨rfl, b3⟩
  have SZ3 := Lib.hid b3.size
  replace RQa := Lib.hid (RQa.out.below b3 (Nat.le_refl _))
  replace RHa := Lib.hid (RHa.out.below b3 (Nat.le_refl _))
  replace RLa := Lib.hid (RLa.out.below b3 (Nat.le_refl _))
  replace K0 := Lib.hid (K0.out.below b3 K0.out.lt)
  replace HT := Lib.hid (HT.out.trans (b3.mono HT.out.size))
  clear b3
  clear RQa RHa RLa
  have zzK0_0 := K0.out.cell 0 rfl
  have zzK0_1 := K0.out.cell 1 rfl
  have zzK0_2 := K0.out.cell 2 rfl
  go_wp2_with fail
  refine (toTagT i0_0 _ y0 _ x0 _ (R0.out.below HT.out (Nat.le_refl _)) (Q0.out.below HT.out (Nat.le_refl _))).mono ?_
  rintro e v4 ⟨uqb, uhb, Tb, rfl, oqb, ohb, hTb, b4⟩
  have SZ4 := Lib.hid b4.size
  have HTb := Lib.hid hTb
  replace K0 := Lib.hid (K0.out.below b4 K0.out.lt)
  replace HT := Lib.hid (HT.out.trans (b4.mono HT.out.size))
  clear b4 hTb
  obtain ⟨gab, gcb, hqb⟩ := oqb.shape
  subst hqb
  obtain ⟨hab, hcb, hhb⟩ := ohb.shape
  subst hhb
  have XQ := Lib.hid oqb
  have XH := Lib.hid ohb
  clear oqb ohb
  have q1 : Below v4.heap.size v4 (v4.alloc (Obj.cells #[Value.int IntKind.i64 i0_0, Value.slice gab y0.length gcb, Value.slice hab x0.length hcb] 29)) := (Below.refl _ _).alloc (Nat.le_refl _) _
  have SZX : Hid ((v4.alloc (Obj.cells #[Value.int IntKind.i64 i0_0, Value.slice gab y0.length gcb, Value.slice hab x0.length hcb] 29)).heap.size = v4.heap.size + 1) := Lib.hid (World.size_alloc _ _)
  replace XH := Lib.hid (XH.out.below q1 XH.out.size)
  replace XQ := Lib.hid (XQ.out.below q1 XQ.out.size)
  replace K0 := Lib.hid (K0.out.below q1 K0.out.lt)
  replace HT := Lib.hid (HT.out.trans (q1.mono HT.out.size))
  clear q1
  have KX : Hid (Cels (v4.alloc (Obj.cells #[Value.int IntKind.i64 i0_0, Value.slice gab y0.length gcb, Value.slice hab x0.length hcb] 29)) v4.heap.size 29 [Value.int IntKind.i64 i0_0, Value.slice gab y0.length gcb, Value.slice hab x0.length hcb]) := Lib.hid (Cels.new _ _ _)
  clear zzK0_0 zzK0_1 zzK0_2
  go_wp2_with fail
  refine (toInts _ x1 _ (Q1.out.below HT.out (Nat.le_refl _))).mono ?_
  rintro e v5 ⟨ulb, rfl, olb, b5⟩
  have SZ5 := Lib.hid b5.size
  replace XH := Lib.hid (XH.out.below b5 XH.out.size)
  replace XQ := Lib.hid (XQ.out.below b5 XQ.out.size)
  replace K0 := Lib.hid (K0.out.below b5 K0.out.lt)
  replace KX := Lib.hid (KX.out.below b5 KX.out.lt)
  replace HT := Lib.hid (HT.out.trans (b5.mono HT.out.size))
  clear b5
  obtain ⟨kab, kcb, hlb⟩ := olb.shape
  subst hlb
  have XL := Lib.hid olb
  clear olb
  have zzKX_0 := KX.out.cell 0 rfl
  have zzKX_1 := KX.out.cell 1 rfl
  have zzKX_2 := KX.out.cell 2 rfl
  go_wp2_with fail
  refine (implTagLengthsL i0_0 _ _ _ y0 x0 x1 a2 _ XQ.out.rdl XH.out.rd XL.out.rd (HN.out.below HT.out (Nat.le_refl _))).mono ?_
  rintro e v6 ⟨rfl, b6⟩
  have SZ6 := Lib.hid b6.size
  replace XH := Lib.hid (XH.out.below b6 XH.out.size)
  replace XL := Lib.hid (XL.out.below b6 XL.out.size)
  replace XQ := Lib.hid (XQ.out.below b6 XQ.out.size)
  replace K0 := Lib.hid (K0.out.below b6 K0.out.lt)
  replace KX := Lib.hid (KX.out.below b6 KX.out.lt)
  replace HT := Lib.hid (HT.out.trans (b6.mono HT.out.size))
  clear b6
  clear zzKX_0 zzKX_1 zzKX_2
  go_wp2_with fail
  have HS : Hid (∀ W', Below v6.heap.size v6 W' → W'.cell? ⟨v4.heap.size, 0, none⟩ = some (.int .i64 i0_0) ∧ W'.cell? ⟨v4.heap.size, 1, none⟩ = some (.slice gab y0.length gcb) ∧ W'.cell? ⟨v4.heap.size, 2, none⟩ = some (.slice hab x0.length hcb) ∧ W'.cell? ⟨w.heap.size, 0, none⟩ = some (.int .i64 i0_0) ∧ W'.cell? ⟨w.heap.size, 1, none⟩ = some (.slice a0_0 len0_0 cap0_0) ∧ W'.cell? ⟨w.heap.size, 2, none⟩ = some (.slice a0_1 len0_1 cap0_1)) := Lib.hid (fun W' hW' => ⟨(KX.out.below hW' KX.out.lt).cell 0 rfl, (KX.out.below hW' KX.out.lt).cell 1 rfl, (KX.out.below hW' KX.out.lt).cell 2 rfl, (K0.out.below hW' K0.out.lt).cell 0 rfl, (K0.out.below hW' K0.out.lt).cell 1 rfl, (K0.out.below hW' K0.out.lt).cell 2 rfl⟩)
  have HD : Hid (Below v6.heap.size v6 v6.drew) := Lib.hid (Below.refl _ _).drew
  go_cut [63] (fun sq wx => sq = .bool false ∧ Below v6.heap.size v6 wx)
  case first =>
    go_region_held3 (fun w' => w'.cell? ⟨v4.heap.size, 0, none⟩ = some (.int .i64 i0_0) ∧ w'.cell? ⟨v4.heap.size, 1, none⟩ = some (.slice gab y0.length gcb) ∧ w'.cell? ⟨v4.heap.size, 2, none⟩ = some (.slice hab x0.length hcb) ∧ w'.cell? ⟨w.heap.size, 0, none⟩ = some (.int .i64 i0_0) ∧ w'.cell? ⟨w.heap.size, 1, none⟩ = some (.slice a0_0 len0_0 cap0_0) ∧ w'.cell? ⟨w.heap.size, 2, none⟩ = some (.slice a0_1 len0_1 cap0_1)) (exact HS.out _ HD.out) (first | (go_at_call 12; with_reducible refine (toTagT i0_0 _ y0 _ x0 _ (R0.out.below (HT.out.trans (HD.out.mono HT.out.size)) (Nat.le_refl _)) (Q0.out.below (HT.out.trans (HD.out.mono HT.out.size)) (Nat.le_refl _))).mono ?_; rintro e w7 ⟨uqc, uhc, Tc, rfl, oqc, ohc, _, bq⟩; replace HD := Lib.hid (HD.out.trans (bq.mono HD.out.size)); obtain ⟨gac, gcc, hqc⟩ := oqc.shape; subst hqc; obtain ⟨hac, hcc, hhc⟩ := ohc.shape; subst hhc; have Xc := Lib.hid oqc.rdl; have Pc := Lib.hid ohc.rd; clear oqc ohc bq) | (go_at_call 15; with_reducible refine (eqTag' i0_0 _ _ y0 _ _ x0 _ (XQ.out.rdl.below HD.out (Nat.le_refl _)) Xc.out (XH.out.rd.below HD.out (Nat.le_refl _)) Pc.out).mono ?_; rintro e w7 ⟨rfl, bq⟩; replace HD := Lib.hid (HD.out.trans (bq.mono HD.out.size)); clear bq))
    all_goals (go_wp2_with fail; go_meet)
    all_goals exact ⟨rfl, HD.out⟩
  obtain ⟨rfl, hcb⟩ := hcut
  obtain ⟨v7, hv7⟩ : ∃ x, x = wc := ⟨_, rfl⟩
  subst hv7
  have SZ7 := Lib.hid hcb.size
  replace XH := Lib.hid (XH.out.below hcb XH.out.size)
  replace XL := Lib.hid (XL.out.below hcb XL.out.size)
  replace XQ := Lib.hid (XQ.out.below hcb XQ.out.size)
  replace K0 := Lib.hid (K0.out.below hcb K0.out.lt)
  replace KX := Lib.hid (KX.out.below hcb KX.out.lt)
  replace HT := Lib.hid (HT.out.trans (hcb.mono HT.out.size))
  clear hcb HS HD
  go_wp2_with fail
  refine (toInts _ x1 _ (Q1.out.below HT.out (Nat.le_refl _))).mono ?_
  rintro e v8 ⟨ulc, rfl, olc, b8⟩
  have SZ8 := Lib.hid b8.size
  replace XH := Lib.hid (XH.out.below b8 XH.out.size)
  replace XL := Lib.hid (XL.out.below b8 XL.out.size)
  replace XQ := Lib.hid (XQ.out.below b8 XQ.out.size)
  replace K0 := Lib.hid (K0.out.below b8 K0.out.lt)
  replace KX := Lib.hid (KX.out.below b8 KX.out.lt)
  replace HT := Lib.hid (HT.out.trans (b8.mono HT.out.size))
  clear b8
  obtain ⟨kac, kcc, hlc⟩ := olc.shape
  subst hlc
  have RLc := Lib.hid olc.rd
  clear olc
  go_wp2_with fail
  refine (eqInts _ _ x1 _ XL.out.rd RLc.out).mono ?_
  rintro e v9 ⟨rfl, b9⟩
  have SZ9 := Lib.hid b9.size
  replace XH := Lib.hid (XH.out.below b9 XH.out.size)
  replace XL := Lib.hid (XL.out.below b9 XL.out.size)
  replace XQ := Lib.hid (XQ.out.below b9 XQ.out.size)
  replace RLc := Lib.hid (RLc.out.below b9 (Nat.le_refl _))
  replace K0 := Lib.hid (K0.out.below b9 K0.out.lt)
  replace KX := Lib.hid (KX.out.below b9 KX.out.lt)
  replace HT := Lib.hid (HT.out.trans (b9.mono HT.out.size))
  clear b9
  clear RLc
  go_wp2
  go_ret
  exact ⟨rfl, HB0.out.trans (HT.out.mono HB0.out.size)⟩

noncomputable def laidWorld (os : Os) : World :=
  let w0 := World.holding Tryd.prog os ⟨#[], #[], []⟩
  { w0 with heap := w0.heap.modify 0 fun
      | .cells _ t frozen => .cells #[.iface 226 (.agg #[.pointer (some ⟨1, 114, none⟩)])] t frozen
      | o => o }
theorem laidWorld_met (os : Os) (args : Array Value) : laidMetH Tryd.prog Rows.fnExactTagLengthsRow.laid ((laidWorld os).forCall (fun _ _ => 0) ⟨#[], args, []⟩).memory :=
  laidMetH_of_parts (laidMet_nil _ _) (by kernel_rfl)

set_option maxRecDepth 100000 in
theorem lifted (os : Os) (started : os.Started) (H : Type) (enc : TypeId × Value → H) :
    ReturnsInHanded {} Tryd.checked os 3 .any (fun w args => (Rows.fnExactTagLengthsSpec.pre enc Tryd.prog Tryd.f3 [] false w args ∧ laidMetH Tryd.prog Rows.fnExactTagLengthsRow.laid w) ∧ sizedMet enc Tryd.prog Tryd.f3 (OpenSpec.ofChange Rows.fnExactTagLengthsSpec) false w args) (Rows.fnExactTagLengthsSpec.post enc Tryd.prog Tryd.f3 false true false false) := by
  refine returnsInHanded_of_change_and (C := Tryd.checked) (X := fun w _ => laidMetH Tryd.prog Rows.fnExactTagLengthsRow.laid w) (fun _ _ _ hh h => h.of_heap hh) own started (by kernel_rfl) Tryd.func3
    (ChangeSpec.witness_at (enc := enc) (C := Tryd.checked) (os := os) (X := fun w _ => laidMetH Tryd.prog Rows.fnExactTagLengthsRow.laid w) false (laidWorld os) #[.agg #[.int .i64 0, .slice none 0 0, .slice none 0 0], .slice none 0 0, .int .i64 0] 8 rfl (by kernel_rfl) (by kernel_rfl) (by kernel_rfl) (by kernel_rfl) (by kernel_rfl) (laidWorld_met os _)) ?_
  intro W base args ds gs before hval0 hW _ _ hL _
  have hval : ∀ (j : Nat) t v, Tryd.f3.params[j]? = some t → args[j]? = some v → Value.okWide Tryd.prog W .any base t v := hval0
  have hW' := hW
  obtain ⟨p, q, hA0, hV, rfl, hfz, hnd⟩ := hW
  have hA : DataW.TrodAll enc Tryd.prog W 0 (fun _ => true) true Tryd.f3.params.toList args.toList ds p := hA0
  rw [Tryd.params3] at hA hval
  obtain ⟨v0, vs0, d0, ds0, p0, q0, hargs, rfl, rfl, h0, r0⟩ := trodAll_cons hA
  obtain ⟨v1, vs1, d1, ds1, p1, q1, rfl, rfl, rfl, h1, r1⟩ := trodAll_cons r0
  obtain ⟨v2, vs2, d2, ds2, p2, q2, rfl, rfl, rfl, h2, r2⟩ := trodAll_cons r1
  obtain ⟨rfl, rfl, rfl⟩ := trodAll_nil r2
  obtain rfl : args = #[v0, v1, v2] := by cases args; simp_all
  obtain ⟨rfl, rfl⟩ := trodVars_none hV
  have k0 := h0
  have lt0 : ∀ x ∈ p0, x.block < W.heap.size := by obtain ⟨m, hm⟩ := k0; exact DataW.trod_lt m _ _ _ hm
  obtain ⟨c0_0, c0_1, c0_2, y0_0, y0_1, y0_2, n0, rfl, _, _, t0_0, t0_1, t0_2⟩ := Go.Joins.open_agg3 Tryd.underlying25 (by kernel_rfl) (by kernel_rfl) (hval 0 25 v0 rfl rfl) h0
  obtain ⟨i0_0, e0_0, _, j0_0⟩ := DataW.trod_int Tryd.underlying2 t0_0
  simp only [List.cons.injEq, and_true] at e0_0
  subst e0_0
  obtain ⟨a0_0, len0_0, cap0_0, z0_0, e0_0, w0_0⟩ := open_lists t0_1
  simp only [List.cons.injEq, and_true] at e0_0
  subst e0_0
  obtain ⟨a0_1, len0_1, cap0_1, z0_1, e0_1, w0_1⟩ := open_list t0_2
  simp only [List.cons.injEq, and_true] at e0_1
  subst e0_1
  have k1 := h1
  have lt1 : ∀ x ∈ p1, x.block < W.heap.size := by obtain ⟨m, hm⟩ := k1; exact DataW.trod_lt m _ _ _ hm
  obtain ⟨a1_0, len1_0, cap1_0, rfl⟩ := okWide_slice Tryd.underlying23 (hval 1 23 v1 rfl rfl)
  obtain ⟨z1_0, w1_0⟩ : ∃ zs, IsList W a1_0 len1_0 cap1_0 zs := by
    obtain ⟨fuel, hf⟩ := h1
    obtain ⟨a', len', cap', z', e', w'⟩ := open_list hf
    simp [Value.cells] at e'
    obtain ⟨rfl, rfl, rfl⟩ := e'
    exact ⟨z', w'⟩
  obtain ⟨a2, rfl, rfl, rfl, w2⟩ := open_int Tryd.underlying2 (hval 2 2 v2 rfl rfl) h2
  clear hA0 hval0
  refine (walk i0_0 a0_0 len0_0 cap0_0 z0_0 a0_1 len0_1 cap0_1 z0_1 a1_0 len1_0 cap1_0 z1_0 a2 W j0_0 w0_0 w0_1 w1_0 w2 (etV_of_laid hL)).mono fun e W' ⟨he, bel⟩ => ?_
  subst he
  exact ⟨_, rfl, _, _, _, [], _, [], hW', trodAll_mk1 (shut_bool Tryd.underlying4 _), (trodAll_cons_mk (Below.trod laidOut (by kernel_rfl) (of_decide_eq_true (by kernel_rfl)) k0 bel lt0) (trodAll_cons_mk (Below.trod laidOut (by kernel_rfl) (of_decide_eq_true (by kernel_rfl)) k1 bel lt1) (trodAll_cons_mk (shut_int Tryd.underlying2 w2) trodAll_mk0))), rfl, bel.frame _, fun h => by cases h⟩

theorem over : Rows.fnExactTagLengthsRow.holds Tryd.pinned (OpenSpec.ofChange Rows.fnExactTagLengthsSpec) :=
  OpenClaim.holds_of_wide 3 Tryd.f3 rfl rfl rfl rfl rfl rfl rfl ⟨rfl, rfl, rfl, rfl, rfl⟩ rfl rfl rfl rfl rfl (by kernel_rfl) Tryd.func3 (by kernel_rfl)
    (of_decide_eq_true (by kernel_rfl)) (by unfold Func.isWrapper; first | (rw [if_pos (by decide +kernel)]; kernel_rfl) | (rw [if_neg (by decide +kernel)]; exact ⟨rfl, rfl⟩))
    (fun os started H enc _ => lifted os started H enc)

/-- The statement: the tied card. -/
theorem proved : Rows.FnExactTagLengthsCardSaid :=
  Claim7.holds_tied_plain_at .later [] [.handle] true (true, "c0fc20f790dd7a661bba9688d90c0549d2b2be9d4476f1098c010769c9aec365") true over (fun _ h => by cases h) (by kernel_rfl) (fun _ h => by cases h) fnExactTagLengths_row_tie rfl ⟨rfl, rfl⟩ (by kernel_rfl) rfl
    (fun f fn hf hfn => by
      obtain rfl : f = 3 := Option.some.inj ((show Tryd.prog.funcNamed "loop.example/g01079/laws.FnExactTagLengths" = some 3 by kernel_rfl).symm.trans hf) |>.symm
      obtain rfl : fn = Tryd.f3 := (Option.some.inj (Tryd.func3.symm.trans hfn)).symm
      exact ⟨by kernel_rfl, fun j t ht => by
        rw [Tryd.params3] at ht
        have hm : t ∈ [25, 23, 2] := by simpa using Array.mem_of_getElem? ht
        have hall : ([25, 23, 2].all fun u => !Tryd.prog.wantsStandIn u) = true := by kernel_rfl
        exact (show Tryd.prog.wantsStandIn t = false by simpa using List.all_eq_true.1 hall t hm)⟩)
    (by kernel_rfl)
#print axioms proved
end Go.Proofs.YtkjoakdepjpkhaaDoor.fnExactTagLengths
