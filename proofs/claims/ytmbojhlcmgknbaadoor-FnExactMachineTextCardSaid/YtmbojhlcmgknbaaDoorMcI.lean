/- The text of a machine, of the program: a rule's text, a row. (gen_mct.py) -/
import Derived.Test.YtmbojhlcmgknbaaDoorMcT
namespace Go.Proofs.YtmbojhlcmgknbaaDoor.Ints
open Go.RowKit
set_option linter.unusedVariables false
set_option linter.unusedSimpArgs false
theorem implDecM (n : Int) (t : ByteArray) (w : World) (hb : -9223372036854775808 ≤ n ∧ n ≤ 9223372036854775807) (htb : TabV w) (ht : t = bs (Lib.itoa n)) :
    Calls Tryd.prog 54 #[.int .i64 n] w fun e w' => e = .returned (.string t) ∧ Below w.heap.size w w' := by
  subst ht; exact implDec n hb.1 hb.2 w htb
set_option maxRecDepth 100000 in
set_option maxHeartbeats 8000000 in
theorem implRuT (x y z : Int) (w : World) (hx : -1000000 ≤ x ∧ x ≤ 1000000) (hz : -1000000 ≤ z ∧ z ≤ 1000000) (hnr : NoR w) (htb : TabV w) :
    Calls Tryd.prog 45 #[.agg #[.int .i64 x, .int .i64 y, .int .i64 z]] w fun e w' => e = .returned (.string (bs (rlT ⟨x, y, z⟩))) ∧ Below w.heap.size w w' := by
  obtain ⟨W0, hW0⟩ : ∃ W, W = w.alloc (Obj.cells #[.int .i64 x, .int .i64 y, .int .i64 z] 86) := ⟨_, rfl⟩
  have HB : Hid (Below w.heap.size w W0) := Lib.hid (by rw [hW0]; exact (Below.refl w.heap.size w).alloc (Nat.le_refl _) _)
  have K1 : Hid (Cels W0 w.heap.size 86 [.int .i64 x, .int .i64 y, .int .i64 z]) := Lib.hid (by rw [hW0]; exact Cels.new _ _ _)
  have HTb : Hid (TabV W0) := Lib.hid (htb.below HB.out (Nat.le_refl _))
  obtain ⟨n0, n1, n2⟩ := hnr.below ((Below.refl w.heap.size w).alloc (Nat.le_refl _) (Obj.cells #[.int .i64 x, .int .i64 y, .int .i64 z] 86)) (Nat.le_refl _)
  have HW0 := Lib.hid hW0.symm
  have z0 := K1.out.cell 0 rfl
  have z1 := K1.out.cell 1 rfl
  have z2 := K1.out.cell 2 rfl
  clear hW0 hnr htb
  by_cases hno : NoRu ⟨x, y, z⟩
  · have HF : Hid (bs (rlT ⟨x, y, z⟩) = bs [45, 45, 45]) := Lib.hid (by rw [rlT, if_pos hno])
    obtain ⟨h1, h2, h3⟩ := hno
    dsimp only at h1 h2 h3
    subst h1 h2 h3
    go_enter Tryd.func45, Tryd.ntmps45
    go_wp2_with fail
    rw [HW0.out]
    go_ret
    exact ⟨by rw [HF.out] <;> rfl, HB.out⟩
  have hnc := nor_cases hno
  obtain ⟨tx, htx⟩ : ∃ t, t = bs (Lib.itoa x) := ⟨_, rfl⟩
  obtain ⟨ty, hty⟩ : ∃ t, t = bs (Lib.itoa z) := ⟨_, rfl⟩
  have sx : tx.size ≤ 21 := by rw [htx, bs_size]; exact Lib.itoa_length_le x (by omega) (by omega)
  have sy' : ty.size ≤ 21 := by rw [hty, bs_size]; exact Lib.itoa_length_le z (by omega) (by omega)
  have HX := Lib.hid htx
  have HY := Lib.hid hty
  have HBX : Hid (-9223372036854775808 ≤ x ∧ x ≤ 9223372036854775807) := Lib.hid (by omega)
  have HBZ : Hid (-9223372036854775808 ≤ z ∧ z ≤ 9223372036854775807) := Lib.hid (by omega)
  have HS : Hid (∀ W, Below W0.heap.size W0 W → W.cell? ⟨w.heap.size, 0, none⟩ = some (.int .i64 x) ∧ W.cell? ⟨w.heap.size, 1, none⟩ = some (.int .i64 y) ∧ W.cell? ⟨w.heap.size, 2, none⟩ = some (.int .i64 z)) := Lib.hid (fun W hW => by
    have h := K1.out.below hW K1.out.lt
    exact ⟨h.cell 0 rfl, h.cell 1 rfl, h.cell 2 rfl⟩)
  have q1 : ¬ (9223372036854775807 < tx.size + 1) := by omega
  have q2 : ¬ (9223372036854775807 < tx.size + 1 + ty.size) := by omega
  have q5 : ¬ (9223372036854775807 ≤ tx.size) := by omega
  have HLT : Hid (w.heap.size ≤ W0.heap.size) := Lib.hid HB.out.size
  have HD : Hid (Below W0.heap.size W0 W0.drew) := Lib.hid (Below.refl _ _).drew
  have HRL : Hid (bs (rlT ⟨x, y, z⟩) = if y < 0 then tx ++ bs [76] ++ ty else tx ++ bs [82] ++ ty) := Lib.hid (by
    rw [rlT, if_neg hno, htx, hty]
    by_cases h1 : y < 0
    · rw [if_pos h1, if_pos h1, bs_append, bs_append]
    · rw [if_neg h1, if_neg h1, bs_append, bs_append])
  clear htx hty hno
  by_cases hyn : y < 0
  · have HF : Hid (bs (rlT ⟨x, y, z⟩) = tx ++ bs [76] ++ ty) := Lib.hid (by rw [HRL.out, if_pos hyn])
    rcases hnc with q | ⟨q, q'⟩ | ⟨q, q', q''⟩
    all_goals
      go_enter Tryd.func45, Tryd.ntmps45
      go_wp2_with fail
      rw [HW0.out]
      go_region_held3 (fun W => W.cell? ⟨w.heap.size, 0, none⟩ = some (.int .i64 x) ∧ W.cell? ⟨w.heap.size, 1, none⟩ = some (.int .i64 y) ∧ W.cell? ⟨w.heap.size, 2, none⟩ = some (.int .i64 z))
        (exact HS.out _ HD.out)
        (first | (go_at_call 54; with_reducible refine (implDecM x tx _ HBX.out (HTb.out.below HD.out (Nat.le_refl _)) HX.out).mono ?_; rintro e1 w1 ⟨rfl, bq⟩; replace HD := Lib.hid (HD.out.trans (bq.mono HD.out.size)); clear bq) | (go_at_call 54; with_reducible refine (implDecM z ty _ HBZ.out (HTb.out.below HD.out (Nat.le_refl _)) HY.out).mono ?_; rintro e1 w1 ⟨rfl, bq⟩; replace HD := Lib.hid (HD.out.trans (bq.mono HD.out.size)); clear bq))
      all_goals
        go_wp2
        go_ret
        exact ⟨by rw [HF.out]; rfl, HB.out.trans (HD.out.mono HLT.out)⟩
  have HF : Hid (bs (rlT ⟨x, y, z⟩) = tx ++ bs [82] ++ ty) := Lib.hid (by rw [HRL.out, if_neg hyn])
  rcases hnc with q | ⟨q, q'⟩ | ⟨q, q', q''⟩
  all_goals
    go_enter Tryd.func45, Tryd.ntmps45
    go_wp2_with fail
    rw [HW0.out]
    go_region_held3 (fun W => W.cell? ⟨w.heap.size, 0, none⟩ = some (.int .i64 x) ∧ W.cell? ⟨w.heap.size, 1, none⟩ = some (.int .i64 y) ∧ W.cell? ⟨w.heap.size, 2, none⟩ = some (.int .i64 z))
      (exact HS.out _ HD.out)
      (first | (go_at_call 54; with_reducible refine (implDecM x tx _ HBX.out (HTb.out.below HD.out (Nat.le_refl _)) HX.out).mono ?_; rintro e1 w1 ⟨rfl, bq⟩; replace HD := Lib.hid (HD.out.trans (bq.mono HD.out.size)); clear bq) | (go_at_call 54; with_reducible refine (implDecM z ty _ HBZ.out (HTb.out.below HD.out (Nat.le_refl _)) HY.out).mono ?_; rintro e1 w1 ⟨rfl, bq⟩; replace HD := Lib.hid (HD.out.trans (bq.mono HD.out.size)); clear bq))
    all_goals
      go_wp2
      go_ret
      exact ⟨by rw [HF.out]; rfl, HB.out.trans (HD.out.mono HLT.out)⟩
theorem implRow (sn s : Nat) (st : Int) (a : Option Addr) (c : Nat) (rs : List Ru) (w : World) (hv : RdR w (.slice a rs.length c) rs) (hs : 1 ≤ sn) (hle : (s + 1) * sn ≤ rs.length) (hl : rs.length ≤ 6000) :
    Calls Tryd.prog 44 #[.agg #[.int .i64 sn, .int .i64 st, .slice a rs.length c], .int .i64 s] w fun e w' => ∃ u, e = .returned u ∧ RdR w' u ((rs.drop (s * sn)).take sn) ∧ Below w.heap.size w w' := by
  have HV := Lib.hid hv
  obtain ⟨W0, hW0⟩ : ∃ W, W = w.alloc (Obj.cells #[.int .i64 sn, .int .i64 st, .slice a rs.length c] 29) := ⟨_, rfl⟩
  have HB : Hid (Below w.heap.size w W0) := Lib.hid (by rw [hW0]; exact (Below.refl w.heap.size w).alloc (Nat.le_refl _) _)
  have K1 : Cels W0 w.heap.size 29 [.int .i64 sn, .int .i64 st, .slice a rs.length c] := by rw [hW0]; exact Cels.new _ _ _
  have HW0 := Lib.hid hW0.symm
  have z0 := K1.cell 0 rfl
  have z2 := K1.cell 2 rfl
  have hcap : rs.length ≤ c := by
    obtain ⟨_, _, a2, c2, he, h1, _⟩ := hv
    simp only [Value.slice.injEq] at he
    omega
  obtain ⟨lo, hlo⟩ : ∃ n : Nat, n = s * sn := ⟨_, rfl⟩
  have he : (s + 1) * sn = lo + sn := by rw [hlo, Nat.add_mul, Nat.one_mul]
  have hsl : s ≤ 6000 := by
    have : s * 1 ≤ s * sn := Nat.mul_le_mul_left s hs
    omega
  have e1 : IntKind.i64.wrap ((s : Int) * (sn : Int)) = (lo : Int) := by
    have : ((s : Int) * (sn : Int)) = (lo : Int) := by rw [hlo]; push_cast; rfl
    rw [this, IntKind.wrap_i64]; omega
  have e2 : IntKind.i64.wrap ((s : Int) + 1) = (s : Int) + 1 := by rw [IntKind.wrap_i64]; omega
  have e3 : IntKind.i64.wrap (((s : Int) + 1) * (sn : Int)) = ((lo + sn : Nat) : Int) := by
    have : (((s : Int) + 1) * (sn : Int)) = ((lo + sn : Nat) : Int) := by rw [← he]; push_cast; rfl
    rw [this, IntKind.wrap_i64]; omega
  have i1 : (0 : Int) ≤ (lo : Int) := by omega
  have i2 : (lo : Int) ≤ (lo : Int) + (sn : Int) := by omega
  have i3 : (lo : Int) + (sn : Int) ≤ (c : Int) := by omega
  have i4 : lo ≤ lo + sn := by omega
  have i6 : lo + sn ≤ rs.length := by omega
  have i5 : lo + sn ≤ c := by omega
  rw [← hlo]
  clear hW0 K1 hv hlo he hsl
  go_enter Tryd.func44, Tryd.ntmps44
  go_wp2_with fail
  rw [HW0.out]
  go_wp2
  have hlen : lo + sn - lo = ((rs.drop lo).take sn).length := by rw [List.length_take, List.length_drop]; omega
  have HRD : RdR W0 (.slice (Option.map (fun x => x.add (lo * 3)) a) (lo + sn - lo) (c - lo)) ((rs.drop lo).take sn) := by
    have hr0 := HV.out.below HB.out (Nat.le_refl _)
    obtain ⟨hl1, hf, a2, c2, he, _, hr⟩ := hr0
    simp only [Value.slice.injEq] at he
    obtain ⟨rfl, _, rfl⟩ := he
    obtain ⟨b, o, rfl, hb, hcell⟩ := hr (by intro h0; rw [h0] at i6; simp at i6; omega)
    refine ⟨by rw [← hlen]; omega, fun r hr => hf r (List.mem_of_mem_drop (List.mem_of_mem_take hr)), some ⟨b, o + lo * 3, none⟩, c - lo, by rw [← hlen]; simp only [Option.map_some, Addr.add_lit], by rw [← hlen]; omega, fun _ => ⟨b, o + lo * 3, rfl, hb, fun i hi => ?_⟩⟩
    rw [← hlen] at hi
    obtain ⟨c0, c1, c2⟩ := hcell (lo + i) (by omega)
    have e : ((rs.drop lo).take sn).getD i ru0 = rs.getD (lo + i) ru0 := getD_drop_take (by omega) (by omega)
    rw [e]
    have e4 : o + (lo + i) * 3 = o + lo * 3 + i * 3 := by omega
    rw [e4] at c0 c1 c2
    exact ⟨c0, c1, c2⟩
  have HRD2 := Lib.hid HRD
  clear HRD
  go_ret
  exact ⟨_, rfl, HRD2.out, HB.out⟩
end Go.Proofs.YtmbojhlcmgknbaaDoor.Ints
