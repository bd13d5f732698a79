/- Contracts of OccurrencesOf, of the model and of the program. -/
import Derived.Test.YtgfidlppocheoaaOcc
import Derived.Test.YtgfidlppocheoaaWords
namespace Go.Proofs.Ytgfidlppocheoaa.Ints
open Go.RowKit
set_option linter.unusedVariables false

def occF (zs ps : List Int) : Nat → Int → List Int
  | 0, _ => []
  | f + 1, a => if a < 0 then [] else a :: occF zs ps f (findL zs ps (a.toNat + 1))
def occAll (zs ps : List Int) : List Int := occF zs ps (zs.length + 2) (findL zs ps 0)
noncomputable def occL (zs ps : List Int) : List Int := if (wordB zs && wordB ps) = true then occAll zs ps else []
noncomputable def occC (zs ps : List Int) : Int := if (wordB zs && wordB ps) = true then 0 else 1
structure OccInv (zs ps : List Int) (a : Int) (xs : List Int) : Prop where
  ex : ∃ f : Nat, occAll zs ps = xs ++ occF zs ps f a ∧ (a = -1 ∨ ∃ k : Nat, a = k ∧ k ≤ zs.length ∧ xs.length ≤ k ∧ zs.length + 1 < f + k)
  len : xs.length ≤ zs.length + 1
  fit : ∀ x ∈ xs, 0 ≤ x ∧ x ≤ zs.length
theorem occF_end (zs ps : List Int) (f : Nat) : occF zs ps f (-1) = [] := by cases f <;> simp [occF]
theorem OccInv.start (zs ps : List Int) : OccInv zs ps (findL zs ps 0) [] := by
  refine ⟨⟨zs.length + 2, rfl, ?_⟩, by simp, fun x hx => by cases hx⟩
  rcases findL_range zs ps 0 with h | ⟨k, h, h1, h2, _⟩
  · exact .inl h
  · exact .inr ⟨k, h, by omega, by simp, by omega⟩
theorem OccInv.done {zs ps : List Int} {a : Int} {xs : List Int} (h : OccInv zs ps a xs) (ha : ¬ 0 ≤ a) : occAll zs ps = xs := by
  obtain ⟨f, he, hk⟩ := h.ex
  rcases hk with rfl | ⟨k, rfl, _⟩
  · rw [he, occF_end, List.append_nil]
  · omega
theorem OccInv.step {zs ps : List Int} {a : Int} {xs : List Int} (h : OccInv zs ps a xs) (ha : 0 ≤ a) :
    ∃ k : Nat, a = k ∧ k ≤ zs.length ∧ xs.length ≤ zs.length ∧ OccInv zs ps (findL zs ps (k + 1)) (xs ++ [(k : Int)]) := by
  obtain ⟨f, he, hk⟩ := h.ex
  rcases hk with rfl | ⟨k, rfl, h1, h2, h3⟩
  · omega
  · refine ⟨k, rfl, h1, by omega, ?_, by simp; omega, fun x hx => ?_⟩
    · cases f with
      | zero => omega
      | succ f =>
        refine ⟨f, ?_, ?_⟩
        · rw [he, occF, if_neg (by omega), Int.toNat_natCast]; simp
        · rcases findL_range zs ps (k + 1) with h | ⟨j, h, g1, g2, _⟩
          · exact .inl h
          · exact .inr ⟨j, h, by omega, by simp; omega, by omega⟩
    · rcases List.mem_append.1 hx with hx | hx
      · exact h.fit x hx
      · simp at hx; subst hx; omega
set_option maxHeartbeats 2000000 in
theorem implOccurrencesOf (v : Value) (zs : List Int) (u : Value) (ps : List Int) (w : World) (hv : Rd w v zs) (hu : Rd w u ps) :
    Calls Try.prog 7 #[v, u] w fun e w' => ∃ r, e = .returned (.tuple #[r, .int .i64 (occC zs ps)]) ∧ Ow w' w.heap.size w'.heap.size r (occL zs ps) ∧ Below w.heap.size w w' := by
  have HV := Lib.hid hv
  have HU := Lib.hid hu
  have HL := Lib.hid (rdl_two hv hu)
  have HB0 := Lib.hid ((Below.refl w.heap.size w).alloc (Nat.le_refl _) (Obj.cells #[v, u] 24))
  cases hn : wordB zs && wordB ps with
  | false =>
    have HN : Hid (allW [zs, ps] = false) := Lib.hid (by rw [allW_two]; exact hn)
    have e : Hid (occL zs ps = [] ∧ occC zs ps = 1) := Lib.hid (by simp [occL, occC, hn])
    obtain ⟨_, _, a, c, rfl, _, _⟩ := hv
    obtain ⟨_, _, a', c', rfl, _, _⟩ := hu
    clear hn
    go_enter Try.func7, Try.ntmps7
    go_wp2_with (go_at_call 22; refine (areWords_any _ [zs, ps] _ HL.out).mono ?_; rintro e w1 ⟨rfl, hb⟩; rw [HN.out]; have HB1 := Lib.hid (HB0.out.trans (hb.mono HB0.out.size)); clear hb)
    go_ret2
    exact ⟨_, by rw [e.out.2] <;> rfl, by rw [e.out.1]; exact Ow.emptyUp HB1.out.size, HB1.out⟩
  | true =>
  have HN : Hid (allW [zs, ps] = true) := Lib.hid (by rw [allW_two]; exact hn)
  have e0 : Hid (occL zs ps = occAll zs ps ∧ occC zs ps = 0) := Lib.hid (by simp [occL, occC, hn])
  have hzl : zs.length ≤ 400 := (wordB_iff (by simp at hn; exact hn.1)).1
  obtain ⟨_, _, a, c, rfl, _, _⟩ := hv
  obtain ⟨_, _, a', c', rfl, _, _⟩ := hu
  clear hn
  obtain ⟨i0, hi, hz0, hz1, hz2⟩ := info_parts infoE
  go_enter Try.func7, Try.ntmps7
  go_wp2_with fail
  refine (areWords_any _ [zs, ps] _ HL.out).mono ?_
  rintro e w1 ⟨rfl, hb⟩
  rw [HN.out]
  have HB1 := Lib.hid (HB0.out.trans (hb.mono HB0.out.size))
  clear hb
  go_wp2_with fail
  refine (implFind _ _ zs ps 0 _ (HV.out.below HB1.out (Nat.le_refl _)) (HU.out.below HB1.out (Nat.le_refl _)) (by omega)).mono ?_
  rintro e w2 ⟨rfl, hb⟩
  have HB2 := Lib.hid (HB1.out.trans (hb.mono HB1.out.size))
  clear hb
  go_wp2_with fail
  go_loopw [6, 7] (fun o q wr => ∃ (xs : List Int) (a : Int) (ov : Value), o = ov ∧ q = .int .i64 a ∧ OccInv zs ps a xs ∧ Ow wr w.heap.size wr.heap.size ov xs ∧ Below w.heap.size w wr) (fun _ q _ => if intOf q < 0 then 0 else zs.length + 2 - (intOf q).toNat)
  case atStart => exact ⟨[], _, _, rfl, rfl, OccInv.start zs ps, Ow.emptyUp HB2.out.size, HB2.out⟩
  case round =>
    obtain ⟨xs, a0, ov, hov, rfl, hinv, hown, hbel⟩ := hrel
    obtain rfl := hov.symm
    have HI := Lib.hid hinv
    have HW := Lib.hid hbel
    have HOV := Lib.hid hown
    have hxl := hinv.len
    obtain ⟨ga, gc, hg⟩ : ∃ g c, ov = .slice g xs.length c := by
      rcases hown.form with ⟨rfl, h0⟩ | ⟨g, c, rfl, _⟩
      · exact ⟨_, _, by rw [h0]; rfl⟩
      · exact ⟨_, _, rfl⟩
    clear hbel
    by_cases ha : 0 ≤ a0
    · obtain ⟨k, rfl, hk, hxk, hst⟩ := hinv.step ha
      have HS := Lib.hid hst
      have HF := Lib.hid (findL_range zs ps (k + 1))
      have hrow := hown.row.alloc (Obj.cells #[Value.int IntKind.i64 (k : Int)] 2)
      clear hst hinv hown ha hg
      go_wp2_with (first | (at_builtin; refine wpList_append_own _ rfl _ _ 24 rfl w.heap.size 2 i0 (.int .i64 0) 1 8 Try.underlying24 hi hz0 hz1 hz2 rfl (by decide) _ _ _ rfl hrow ⟨_, 0, none⟩ 1 1 [.int .i64 (k : Int)] rfl rfl ?c1 ?c2 ?c3 ?c4 ?c5 ?_) | (go_at_call 23; fail))
      case c2 => first | exact oneCell _ | rfl
      case c3 => unfold maxLen; omega
      case c4 => omega
      case c5 => have := HW.out.size; first | omega | (simp; omega)
      intro v' w1 hown1 hgrow _
      obtain ⟨ho, hb⟩ := HOV.out.snoc (by omega) (by omega) hown1 hgrow
      have HO := Lib.hid ho
      have HB2 := Lib.hid (HW.out.trans hb)
      clear hown1 hgrow ho hb hrow
      go_wp2_with (go_at_call 23; refine (implFind _ _ zs ps (k + 1) _ (HV.out.below HB2.out (Nat.le_refl _)) (HU.out.below HB2.out (Nat.le_refl _)) (by omega)).mono ?_; rintro e w2 ⟨rfl, hb⟩; have HB3 := Lib.hid (HB2.out.trans (hb.mono HB2.out.size)); have HO3 := Lib.hid ((HO.out.below hb (Nat.le_refl _)).up); clear hb)
      go_roundw
      case rel => exact ⟨xs ++ [(k : Int)], findL zs ps (k + 1), v', rfl, rfl, HS.out, HO3.out, HB3.out⟩
      case measure =>
        have hk0 : ¬ (k : Int) < 0 := by omega
        rcases HF.out with h | ⟨j, h, h1, h2, _⟩
        · simp [intOf, h, hk0]; omega
        · have hj : ¬ (j : Int) < 0 := by omega
          simp [intOf, h, hj, hk0]; omega
    · have HD := Lib.hid (hinv.done ha)
      clear hinv hown
      subst hg
      go_wp2
      go_ret2
      exact ⟨_, by rw [e0.out.2] <;> rfl, by rw [e0.out.1, HD.out]; exact HOV.out, HW.out⟩
end Go.Proofs.Ytgfidlppocheoaa.Ints
