/- Contracts of SmallOf, of the model and of the program. -/
import Derived.Test.YtknlpoeolicinabBack
import Derived.Test.YtknlpoeolicinabNat
namespace Go.Proofs.Ytknlpoeolicinab.Ints
open Go.RowKit Go.Shelf
set_option linter.unusedVariables false
attribute [local go_sem] Oper.semAt_some

/-- The value so far, from the last limb on. -/
def accR (zs : List Int) : Nat → Int
  | 0 => 0
  | k + 1 => accR zs k * 1000000 + zs.getD (zs.length - 1 - k) 0
def accW {zs : List Int} (pre : List (At zs)) : Int := pre.foldl (fun v x => wrap64 (wrap64 (v * 1000000) + x.1.2)) 0
theorem accW_snoc {zs : List Int} (pre : List (At zs)) (x : At zs) : accW (pre ++ [x]) = wrap64 (wrap64 (accW pre * 1000000) + x.1.2) := by simp [accW]
def small (zs : List Int) : Int := accR zs zs.length
noncomputable def smV (zs : List Int) : Int := if natB zs = true ∧ zs.length ≤ 3 ∧ small zs ≤ 1000000000000 then small zs else 0
noncomputable def smC (zs : List Int) : Int := if natB zs = true then (if zs.length ≤ 3 ∧ small zs ≤ 1000000000000 then 0 else 5) else 1

theorem natB_iff {zs : List Int} (h : natB zs = true) : Natl zs := by simpa [natB] using h
theorem accW_step (zs : List Int) (hd : Dig 1000000 zs) (k : Nat) (hk : k < zs.length) (he : accW (dnR zs k) = accR zs k) (h0 : 0 ≤ accR zs k) (h1 : accR zs k ≤ 999999999999) :
    accW (dnR zs (k + 1)) = accR zs (k + 1) ∧ 0 ≤ accR zs (k + 1) ∧ accR zs (k + 1) ≤ accR zs k * 1000000 + 999999 := by
  have hlt : zs.length - 1 - k < zs.length := by omega
  obtain ⟨d0, d1⟩ := hd _ hlt
  have e : zs[zs.length - 1 - k]?.getD 0 = zs.getD (zs.length - 1 - k) 0 := (List.getD_eq_getElem?_getD ..).symm
  rw [dnR, dif_pos hlt, accW_snoc, he, accR]
  dsimp only
  rw [e, IntWalk.wrap64_in (accR zs k * 1000000) ⟨by omega, by omega⟩, IntWalk.wrap64_in _ ⟨by omega, by omega⟩]
  exact ⟨rfl, by omega, by omega⟩
theorem acc_eq (zs : List Int) (hd : Dig 1000000 zs) (h3 : zs.length ≤ 3) : accW (dnA zs 0) = small zs ∧ 0 ≤ small zs ∧ small zs ≤ 999999999999999999 := by
  unfold dnA small
  rw [Nat.sub_zero]
  have s0 : accW (dnR zs 0) = accR zs 0 := rfl
  have z0 : accR zs 0 = 0 := rfl
  have c : zs.length = 0 ∨ zs.length = 1 ∨ zs.length = 2 ∨ zs.length = 3 := by omega
  rcases c with c | c | c | c
  · rw [c]; exact ⟨s0, by omega, by omega⟩
  · obtain ⟨s1, a1, b1⟩ := accW_step zs hd 0 (by omega) s0 (by omega) (by omega)
    simp only [Nat.reduceAdd] at s1 a1 b1
    rw [c]; exact ⟨s1, by omega, by omega⟩
  · obtain ⟨s1, a1, b1⟩ := accW_step zs hd 0 (by omega) s0 (by omega) (by omega)
    simp only [Nat.reduceAdd] at s1 a1 b1
    obtain ⟨s2, a2, b2⟩ := accW_step zs hd 1 (by omega) s1 (by omega) (by omega)
    simp only [Nat.reduceAdd] at s2 a2 b2
    rw [c]; exact ⟨s2, by omega, by omega⟩
  · obtain ⟨s1, a1, b1⟩ := accW_step zs hd 0 (by omega) s0 (by omega) (by omega)
    simp only [Nat.reduceAdd] at s1 a1 b1
    obtain ⟨s2, a2, b2⟩ := accW_step zs hd 1 (by omega) s1 (by omega) (by omega)
    simp only [Nat.reduceAdd] at s2 a2 b2
    obtain ⟨s3, a3, b3⟩ := accW_step zs hd 2 (by omega) s2 (by omega) (by omega)
    simp only [Nat.reduceAdd] at s3 a3 b3
    rw [c]; exact ⟨s3, by omega, by omega⟩
theorem KB.setCell {n₀ Bs : Nat} (W : World) {p : Addr} (h : n₀ ≤ p.block) (hB : Bs ≠ p.block) (u : Value) : KB n₀ Bs W (W.setCell p u) :=
  ⟨(Below.refl n₀ W).setCell h u, Below.heap_setCell W p u Bs hB⟩

def lsV (zs : List Int) : Int := if zs.length ≤ 3 then small zs else 0
def lsB (zs : List Int) : Bool := decide (zs.length ≤ 3 ∧ small zs ≤ 1000000000000)
set_option maxHeartbeats 1000000 in
theorem specSmallLoop (v : Value) (zs : List Int) (w : World) (h : Rd w v zs) (hd : Dig 1000000 zs) :
    Calls Try.prog 62 #[v] w fun e w' => e = .returned (.tuple #[.int .i64 (lsV zs), .bool (lsB zs)]) ∧ w = w' := by
  obtain ⟨hl, hf, a, c, rfl, hcap, hr⟩ := h
  by_cases h3 : zs.length ≤ 3
  · have h3' : ¬ (3 : Int) < (zs.length : Int) := by omega
    have HA := Lib.hid (acc_eq zs hd h3)
    have HD := Lib.hid hd
    have H3 := Lib.hid h3
    have HR := Lib.hid hr
    clear hd hr
    go_enter Try.func62, Try.ntmps62
    go_wp2
    go_loop [4, 5] (fun o i => ∃ (k m : Nat), k + m = zs.length ∧ i = .int .i64 ((m : Int) - 1) ∧ o = .int .i64 (accW (dnR zs k)) ∧ accW (dnR zs k) = accR zs k ∧ 0 ≤ accR zs k ∧ (k = 0 ∧ accR zs k ≤ 0 ∨ k = 1 ∧ accR zs k ≤ 999999 ∨ k = 2 ∧ accR zs k ≤ 999999999999 ∨ k = 3 ∧ accR zs k ≤ 999999999999999999)) (fun _ i => (intOf i + 1).toNat)
    case atStart => exact ⟨0, zs.length, by omega, rfl, rfl, rfl, Int.le_refl _, .inl ⟨rfl, Int.le_refl _⟩⟩
    case round =>
      obtain ⟨k, m, hkm, hi, ho, he, h0, hb⟩ := hrel
      rw [he] at ho
      obtain rfl := ho
      obtain ⟨q, hq⟩ : ∃ q, q = accR zs k := ⟨_, rfl⟩
      rw [← hq] at h0 hb
      have HE := Lib.hid he
      have HB := Lib.hid hb
      cases m with
      | zero =>
        obtain rfl := hi
        obtain rfl : k = zs.length := by omega
        have HQ : Hid (q = small zs) := Lib.hid (by rw [hq]; rfl)
        rw [← hq]
        clear hb he hq hkm
        have HF : Hid (lsB zs = decide (q ≤ 1000000000000) ∧ lsV zs = q) := Lib.hid (by rw [HQ.out]; simp [lsB, lsV, H3.out])
        go_wp2
        all_goals
          go_ret2
          exact ⟨by rw [HF.out.1, HF.out.2] <;> rfl, rfl⟩
      | succ m =>
        rw [show (((m + 1 : Nat) : Int) - 1) = (m : Int) by omega] at hi
        obtain rfl := hi
        obtain ⟨b, o, rfl, hb', hcell⟩ := HR.out (by intro hz; rw [hz] at hkm; simp at hkm)
        have hmk : zs.length - 1 - k = m := by omega
        obtain ⟨x, hx⟩ : ∃ x, x = zs.getD m 0 := ⟨_, rfl⟩
        have hc := hcell m (by omega)
        rw [← hx] at hc
        have hdx := HD.out m (by omega)
        rw [← hx] at hdx
        obtain ⟨x0, x1⟩ := hdx
        have hq1 : q ≤ 999999999999 := by omega
        have HS := Lib.hid (accW_step zs HD.out k (by omega) he (by omega) (by omega))
        have HX : Hid (accR zs (k + 1) = q * 1000000 + x) := Lib.hid (by rw [accR, hmk, ← hx, hq])
        have i0 : (0 : Int) ≤ (m : Int) := by omega
        have i1 : (m : Int) < (zs.length : Int) := by omega
        have HK := Lib.hid hkm
        rw [← hq]
        clear hb he hq hkm hx hmk hcell
        go_wp2
        go_round
        case rel => exact ⟨k + 1, m, by have := HK.out; omega, rfl, by rw [HS.out.1, HX.out], HS.out.1, HS.out.2.1, by
          have a := HX.out
          have b := HB.out
          have c := HK.out
          have d := H3.out
          omega⟩
        case measure => simp [intOf]
  · have h3' : (3 : Int) < (zs.length : Int) := by omega
    have HF : Hid (lsB zs = false ∧ lsV zs = 0) := Lib.hid (by simp [lsB, lsV, h3])
    clear h3 hr
    go_enter Try.func62, Try.ntmps62
    go_wp2
    go_ret2
    exact ⟨by rw [HF.out.1, HF.out.2] <;> rfl, rfl⟩
end Go.Proofs.Ytknlpoeolicinab.Ints
