/- A new run of a tag system; one step of it (behindStep); StepTag of the program. -/
import Derived.Test.YtkjoakdepjpkhaaDoorTgR
import Derived.Test.YtkjoakdepjpkhaaDoorErr
namespace Go.Proofs.YtkjoakdepjpkhaaDoor.Ints
open Go.RowKit
set_option linter.unusedVariables false
set_option linter.unusedSimpArgs false
theorem implNewQ (v : Value) (xs : List Int) (w : World) (h : Rd w v xs) :
    Calls Tryd.prog 101 #[v] w fun e w' => ∃ q n : Nat, e = .returned (.agg #[.slice (some ⟨q, 0, none⟩) 1000 1000, .int .i64 0, .int .i64 (n : Int)]) ∧ w.heap.size ≤ q ∧ n = min xs.length 1000 ∧ Cels w' q 2 ((nq xs).map (.int .i64)) ∧ Below w.heap.size w w' :=
  (implNewQueue v xs w h).mono fun _ _ ⟨n, h1, h2, h3, h4⟩ => ⟨_, n, h1, Nat.le_succ _, h2, h3, h4⟩
theorem tg_new {w w' : World} {q g : Nat} {n : Nat} {d : Int} {vz vh : Value} {zss : List (List Int)} {hs xs : List Int} {ok : Bool} (hz : RdL w vz zss) (hh : Rd w vh hs) (hfx : Fit xs) (hn : n = min xs.length 1000) (hq : w.heap.size ≤ q) (hg : w.heap.size ≤ g) (hne : q ≠ g) (hb : Below w.heap.size w w')
    (hc : Cels w' g 109 [.int .i64 d, vz, vh, .slice (some ⟨q, 0, none⟩) 1000 1000, .int .i64 0, .int .i64 (n : Int), .bool ok]) (hr : Cels w' q 2 ((nq xs).map (.int .i64))) : TgR w w' g q d vz vh zss hs (nq xs) 0 n ok :=
  ⟨hc, hr, nq_len xs, nq_fit hfx, by omega, by omega, hne, hz, hh, ⟨hb.size, fun k hk hT => hb.block k hT⟩, hg, hq⟩
set_option maxRecDepth 100000 in
set_option maxHeartbeats 4000000 in
theorem implNewTag (d : Int) (vz vh x : Value) (zss : List (List Int)) (hs xs : List Int) (w : World) (hz : RdL w vz zss) (hh : Rd w vh hs) (hx : Rd w x xs) :
    Calls Tryd.prog 71 #[.agg #[.int .i64 d, vz, vh], x] w fun e w' => ∃ g q n, e = .returned (.pointer (some ⟨g, 0, none⟩)) ∧ TgR w w' g q d vz vh zss hs (nq xs) 0 n (tagB d zss hs && overB zss.length xs) ∧ n = min xs.length 1000 ∧ Below w.heap.size w w' := by
  have HZ := Lib.hid hz
  have HH := Lib.hid hh
  have HX := Lib.hid hx
  obtain ⟨_, az, cz, rfl, _, _⟩ := hz
  obtain ⟨_, _, ah, ch, rfl, _, _⟩ := hh
  obtain ⟨_, _, ax, cx, rfl, _, _⟩ := hx
  obtain ⟨W0, hW0⟩ : ∃ W, W = w.alloc (Obj.cells #[.int .i64 d, .slice az zss.length cz, .slice ah hs.length ch] 29) := ⟨_, rfl⟩
  have HB : Hid (Below w.heap.size w W0) := Lib.hid (by rw [hW0]; exact (Below.refl w.heap.size w).alloc (Nat.le_refl _) _)
  have K0 : Hid (Cels W0 w.heap.size 29 [.int .i64 d, .slice az zss.length cz, .slice ah hs.length ch]) := Lib.hid (by rw [hW0]; exact Cels.new _ _ _)
  have HW0 := Lib.hid hW0.symm
  have HZ0 := Lib.hid (HZ.out.below HB.out (Nat.le_refl _))
  have HH0 := Lib.hid (HH.out.below HB.out (Nat.le_refl _))
  have HX0 := Lib.hid (HX.out.below HB.out (Nat.le_refl _))
  have HS0 := Lib.hid HB.out.size
  clear hW0
  obtain ⟨bt, hbt⟩ : ∃ b, b = tagB d zss hs := ⟨_, rfl⟩
  obtain ⟨bw, hbw⟩ : ∃ b, b = overB zss.length xs := ⟨_, rfl⟩
  have HBT := Lib.hid hbt
  have HBW := Lib.hid hbw
  rw [← hbt, ← hbw]
  clear hbt hbw
  have HS : Hid (∀ W, Below W0.heap.size W0 W → W.cell? ⟨w.heap.size, 0, none⟩ = some (.int .i64 d) ∧ W.cell? ⟨w.heap.size, 1, none⟩ = some (.slice az zss.length cz) ∧ W.cell? ⟨w.heap.size, 2, none⟩ = some (.slice ah hs.length ch)) := Lib.hid (fun W h => ⟨(K0.out.below h K0.out.lt).cell 0 rfl, (K0.out.below h K0.out.lt).cell 1 rfl, (K0.out.below h K0.out.lt).cell 2 rfl⟩)
  rcases eqOr bt with hb | hb
  · subst hb
    go_enter Tryd.func71, Tryd.ntmps71
    go_wp2_with fail
    rw [HW0.out]
    have HD : Hid (Below W0.heap.size W0 W0.drew) := Lib.hid (Below.refl _ _).drew
    refine wp_region_held_drew (S := fun W' => W'.cell? ⟨w.heap.size, 0, none⟩ = some (.int .i64 d) ∧ W'.cell? ⟨w.heap.size, 1, none⟩ = some (.slice az zss.length cz) ∧ W'.cell? ⟨w.heap.size, 2, none⟩ = some (.slice ah hs.length ch)) (by kernel_rfl) ?_ (fun hHeld => ?_)
    · exact HS.out _ HD.out
    refine wpAnyH_take (i := 0) (v := ?_) rfl (by kernel_rfl) (by kernel_rfl) (by kernel_rfl) (fun _ _ _ h => h) (Or.inl ⟨by rfl, ?_⟩) (by assumption) ?_
    rotate_left
    · intro w hSw
      try dsimp only at hSw
      go_simp
      try with_reducible rfl
    try simp only [Array.getInternal_eq_getElem, List.getElem_toArray, List.getElem_cons_succ, List.getElem_cons_zero, Act.put, List.setIfInBounds_toArray, List.set_cons_zero, List.set_cons_succ]
    refine wpAnyH_take (i := 1) (v := ?_) rfl (by kernel_rfl) (by kernel_rfl) (by kernel_rfl) (fun _ _ _ h => h) (Or.inl ⟨by rfl, ?_⟩) (by assumption) ?_
    rotate_left
    · intro w hSw
      try dsimp only at hSw
      go_simp
      try with_reducible rfl
    try simp only [Array.getInternal_eq_getElem, List.getElem_toArray, List.getElem_cons_succ, List.getElem_cons_zero, Act.put, List.setIfInBounds_toArray, List.set_cons_zero, List.set_cons_succ]
    refine wpAnyH_take (i := 3) (v := ?_) rfl (by kernel_rfl) (by kernel_rfl) (by kernel_rfl) (fun _ _ _ h => h) (Or.inl ⟨by rfl, ?_⟩) (by assumption) ?_
    rotate_left
    · intro w hSw
      try dsimp only at hSw
      go_simp
      try with_reducible rfl
    try simp only [Array.getInternal_eq_getElem, List.getElem_toArray, List.getElem_cons_succ, List.getElem_cons_zero, Act.put, List.setIfInBounds_toArray, List.set_cons_zero, List.set_cons_succ]
    refine wpAnyH_ready (rs := [2]) (by kernel_rfl) (by simp) ?_
    refine AllReadyH.cons rfl (fun K hK => ?_) AllReadyH.nil
    go_simp
    go_at_call 101
    refine (implNewQ _ xs _ (HX0.out.below HD.out (Nat.le_refl _))).mono ?_
    rintro e3 w3 ⟨q, n, rfl, hq, hn, hr, hb3⟩
    have HQ := Lib.hid (Nat.le_trans HD.out.size hq)
    have HN := Lib.hid hn
    have HR := Lib.hid hr
    replace HD := Lib.hid (HD.out.trans (hb3.mono HD.out.size))
    clear hq hn hr hb3
    try go_wp2_with fail
    refine hK.out _ _ ?_ (fun hHeld => ?_)
    · exact HS.out _ HD.out
    clear hK K
    try simp only [Array.getInternal_eq_getElem, List.getElem_toArray, List.getElem_cons_succ, List.getElem_cons_zero, Act.put, List.setIfInBounds_toArray, List.set_cons_zero, List.set_cons_succ]
    refine wpAnyH_ready (rs := [4]) (by kernel_rfl) (by simp) ?_
    refine AllReadyH.cons rfl (fun K hK => ?_) AllReadyH.nil
    go_simp
    go_at_call 102
    refine (implValidTag d _ zss _ hs _ (HZ0.out.below HD.out (Nat.le_refl _)) (HH0.out.below HD.out (Nat.le_refl _))).mono ?_
    rintro e3 w4 ⟨rfl, hb3⟩
    rw [← HBT.out]
    replace HD := Lib.hid (HD.out.trans (hb3.mono HD.out.size))
    replace HR := Lib.hid (HR.out.below hb3 HR.out.lt)
    clear hb3
    try go_wp2_with fail
    refine hK.out _ _ ?_ (fun hHeld => ?_)
    · exact HS.out _ HD.out
    clear hK K
    try simp only [Array.getInternal_eq_getElem, List.getElem_toArray, List.getElem_cons_succ, List.getElem_cons_zero, Act.put, List.setIfInBounds_toArray, List.set_cons_zero, List.set_cons_succ]
    refine wpAnyH_take (i := 5) (v := ?_) rfl (by kernel_rfl) (by kernel_rfl) (by kernel_rfl) (fun _ _ _ h => h) (Or.inl ⟨by rfl, ?_⟩) (by assumption) ?_
    rotate_left
    · intro w hSw
      try dsimp only at hSw
      go_simp
      try with_reducible rfl
    try simp only [Array.getInternal_eq_getElem, List.getElem_toArray, List.getElem_cons_succ, List.getElem_cons_zero, Act.put, List.setIfInBounds_toArray, List.set_cons_zero, List.set_cons_succ]
    refine wpAnyH_take (i := 6) (v := undef) rfl (by kernel_rfl) (by kernel_rfl) (by kernel_rfl) (fun _ _ _ h => h) (Or.inr ⟨by rfl, rfl⟩) (by assumption) ?_
    try simp only [Array.getInternal_eq_getElem, List.getElem_toArray, List.getElem_cons_succ, List.getElem_cons_zero, Act.put, List.setIfInBounds_toArray, List.set_cons_zero, List.set_cons_succ]
    refine wpAnyH_take (i := 7) (v := undef) rfl (by kernel_rfl) (by kernel_rfl) (by kernel_rfl) (fun _ _ _ h => h) (Or.inr ⟨by rfl, rfl⟩) (by assumption) ?_
    try simp only [Array.getInternal_eq_getElem, List.getElem_toArray, List.getElem_cons_succ, List.getElem_cons_zero, Act.put, List.setIfInBounds_toArray, List.set_cons_zero, List.set_cons_succ]
    refine wpAnyH_take (i := 8) (v := undef) rfl (by kernel_rfl) (by kernel_rfl) (by kernel_rfl) (fun _ _ _ h => h) (Or.inr ⟨by rfl, rfl⟩) (by assumption) ?_
    try simp only [Array.getInternal_eq_getElem, List.getElem_toArray, List.getElem_cons_succ, List.getElem_cons_zero, Act.put, List.setIfInBounds_toArray, List.set_cons_zero, List.set_cons_succ]
    refine wpAnyH_take (i := 9) (v := ?_) rfl (by kernel_rfl) (by kernel_rfl) (by kernel_rfl) (fun _ _ _ h => h) (Or.inl ⟨by rfl, ?_⟩) (by assumption) ?_
    rotate_left
    · intro w hSw
      try dsimp only at hSw
      go_simp
      try with_reducible rfl
    try simp only [Array.getInternal_eq_getElem, List.getElem_toArray, List.getElem_cons_succ, List.getElem_cons_zero, Act.put, List.setIfInBounds_toArray, List.set_cons_zero, List.set_cons_succ]
    refine wpAnyH_take (i := 10) (v := ?_) rfl (by kernel_rfl) (by kernel_rfl) (by kernel_rfl) (fun _ _ _ h => h) (Or.inl ⟨by rfl, ?_⟩) (by assumption) ?_
    rotate_left
    · intro w hSw
      try dsimp only at hSw
      go_simp
      try with_reducible rfl
    try simp only [Array.getInternal_eq_getElem, List.getElem_toArray, List.getElem_cons_succ, List.getElem_cons_zero, Act.put, List.setIfInBounds_toArray, List.set_cons_zero, List.set_cons_succ]
    refine wpAnyH_ready (rs := [11]) (by kernel_rfl) (by simp) ?_
    refine AllReadyH.cons rfl (fun K hK => ?_) AllReadyH.nil
    go_simp
    have HSA := Lib.hid (HS.out _ (HD.out.alloc HD.out.size (Obj.cells #[.int .i64 d, .slice az zss.length cz, .slice ah hs.length ch, .slice (some ⟨q, 0, none⟩) 1000 1000, .int .i64 0, .int .i64 (n : Int), .bool false] 109)))
    try go_wp2_with fail
    refine hK.out _ _ ?_ (fun hHeld => ?_)
    · exact HSA.out
    clear hK K
    try simp only [Array.getInternal_eq_getElem, List.getElem_toArray, List.getElem_cons_succ, List.getElem_cons_zero, Act.put, List.setIfInBounds_toArray, List.set_cons_zero, List.set_cons_succ]
    refine wpAnyH_take (i := 12) (v := ?_) rfl (by kernel_rfl) (by kernel_rfl) (by kernel_rfl) (fun _ _ _ h => h) (Or.inl ⟨by rfl, ?_⟩) (by assumption) ?_
    rotate_left
    · intro w hSw
      try dsimp only at hSw
      go_simp
      try with_reducible rfl
    try simp only [Array.getInternal_eq_getElem, List.getElem_toArray, List.getElem_cons_succ, List.getElem_cons_zero, Act.put, List.setIfInBounds_toArray, List.set_cons_zero, List.set_cons_succ]
    refine wpAnyH_done (by kernel_rfl) ?_ _
    all_goals
      go_wp2
      go_ret
      have hbz := (HB.out.trans (HD.out.mono HS0.out)).alloc (Nat.le_trans HS0.out HD.out.size) (Obj.cells #[.int .i64 d, .slice az zss.length cz, .slice ah hs.length ch, .slice (some ⟨q, 0, none⟩) 1000 1000, .int .i64 0, .int .i64 (n : Int), .bool false] 109)
      have hlt := HR.out.lt
      exact ⟨_, q, n, rfl, tg_new HZ.out HH.out HX.out.fit HN.out (Nat.le_trans HS0.out HQ.out) (Nat.le_trans HS0.out HD.out.size) (by omega) hbz (Cels.new _ _ _) (HR.out.alloc _), HN.out, hbz⟩
  subst hb
  go_enter Tryd.func71, Tryd.ntmps71
  go_wp2_with fail
  rw [HW0.out]
  have HD : Hid (Below W0.heap.size W0 W0.drew) := Lib.hid (Below.refl _ _).drew
  go_region_held3 (fun W => W.cell? ⟨w.heap.size, 0, none⟩ = some (.int .i64 d) ∧ W.cell? ⟨w.heap.size, 1, none⟩ = some (.slice az zss.length cz) ∧ W.cell? ⟨w.heap.size, 2, none⟩ = some (.slice ah hs.length ch)) (first | exact HS.out _ HD.out | exact HS.out _ (HD.out.alloc HD.out.size _))
    (first
      | (go_at_call 101; with_reducible refine (implNewQ _ xs _ (HX0.out.below HD.out (Nat.le_refl _))).mono ?_; rintro e3 w3 ⟨q, n, rfl, hq, hn, hr, hb3⟩; have HQ := Lib.hid (Nat.le_trans HD.out.size hq); have HN := Lib.hid hn; have HR := Lib.hid hr; replace HD := Lib.hid (HD.out.trans (hb3.mono HD.out.size)); clear hq hn hr hb3)
      | (go_at_call 102; with_reducible refine (implValidTag d _ zss _ hs _ (HZ0.out.below HD.out (Nat.le_refl _)) (HH0.out.below HD.out (Nat.le_refl _))).mono ?_; rintro e3 w3 ⟨rfl, hb3⟩; rw [← HBT.out]; replace HD := Lib.hid (HD.out.trans (hb3.mono HD.out.size)); (try (replace HR := Lib.hid (HR.out.below hb3 HR.out.lt))); clear hb3)
      | (go_at_call 103; with_reducible refine (implTagIsWord d _ _ _ _ _ xs _ (HX0.out.below HD.out (Nat.le_refl _))).mono ?_; rintro e3 w3 ⟨rfl, hb3⟩; rw [← HBW.out]; replace HD := Lib.hid (HD.out.trans (hb3.mono HD.out.size)); (try (replace HR := Lib.hid (HR.out.below hb3 HR.out.lt))); clear hb3))
  all_goals
    go_wp2
    go_ret
    have hbz := (HB.out.trans (HD.out.mono HS0.out)).alloc (Nat.le_trans HS0.out HD.out.size) (Obj.cells #[.int .i64 d, .slice az zss.length cz, .slice ah hs.length ch, .slice (some ⟨q, 0, none⟩) 1000 1000, .int .i64 0, .int .i64 (n : Int), .bool bw] 109)
    have hlt := HR.out.lt
    exact ⟨_, q, n, rfl, tg_new HZ.out HH.out HX.out.fit HN.out (Nat.le_trans HS0.out HQ.out) (Nat.le_trans HS0.out HD.out.size) (by omega) hbz (Cels.new _ _ _) (HR.out.alloc _), HN.out, hbz⟩
end Go.Proofs.YtkjoakdepjpkhaaDoor.Ints
