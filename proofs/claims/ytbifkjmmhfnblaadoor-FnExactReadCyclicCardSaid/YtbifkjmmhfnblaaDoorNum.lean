/- Numerals that are read: plain lemmas. -/
import Derived.Lib.ItoaLen
import Derived.Lib.AtoiAll
import Derived.Lib.ParseIntB
import Derived.Lib.ParseIntBTie
import Derived.Lib.Strings
namespace Go.Proofs.YtbifkjmmhfnblaaDoor.Ints
open Go.Lib (decDigits itoa)
def Digs (l : List UInt8) : Prop := ∀ c ∈ l, 48 ≤ c.toNat ∧ c.toNat ≤ 57
theorem snocRec {P : List UInt8 → Prop} (h0 : P []) (h1 : ∀ xs c, P xs → P (xs ++ [c])) (l : List UInt8) : P l := by
  have h : ∀ r : List UInt8, P r.reverse := fun r => by
    induction r with
    | nil => exact h0
    | cons c r ih => rw [List.reverse_cons]; exact h1 _ _ ih
  have h2 := h l.reverse
  rwa [List.reverse_reverse] at h2
theorem head_app {xs ys : List UInt8} (h : xs ≠ []) : (xs ++ ys).head? = xs.head? := by
  cases xs with
  | nil => exact absurd rfl h
  | cons => rfl
def valD (l : List UInt8) : Nat := l.foldl (fun a c => a * 10 + (c.toNat - 48)) 0
theorem valD_snoc (l : List UInt8) (c : UInt8) : valD (l ++ [c]) = valD l * 10 + (c.toNat - 48) := by simp [valD]
theorem valD_lt (l : List UInt8) (h : Digs l) : valD l < 10 ^ l.length := by
  revert h
  induction l using snocRec with
  | h0 => intro _; simp [valD]
  | h1 xs c ih =>
    intro h
    have h1 := ih (fun x hx => h x (List.mem_append_left _ hx))
    have h2 := h c (by simp)
    rw [valD_snoc, List.length_append, List.length_singleton, Nat.pow_succ]
    omega
theorem ofNat_toNat (c : UInt8) : UInt8.ofNat c.toNat = c := by simp
theorem dig_back {c : UInt8} (h : 48 ≤ c.toNat ∧ c.toNat ≤ 57) : UInt8.ofNat (48 + (c.toNat - 48)) = c := by
  rw [show 48 + (c.toNat - 48) = c.toNat by omega, ofNat_toNat]
theorem dig_num {d : Nat} (h : d < 10) : (UInt8.ofNat (48 + d)).toNat = 48 + d := Nat.mod_eq_of_lt (show 48 + d < 256 by omega)
theorem dec_ne (u : Nat) : decDigits u ≠ [] := by
  intro h
  have h1 := congrArg List.length h
  rw [Lib.decDigits_length] at h1
  have := Lib.nDigits_pos u
  simp at h1; omega
theorem dec_digs (u : Nat) : Digs (decDigits u) := by
  induction u using Nat.strongRecOn with
  | _ u ih =>
    intro c hc
    rw [decDigits] at hc
    split at hc
    · rename_i h; rw [List.mem_singleton] at hc; subst hc; rw [dig_num h]; omega
    · rename_i h
      rcases List.mem_append.1 hc with hc | hc
      · exact ih (u / 10) (by omega) c hc
      · rw [List.mem_singleton] at hc; subst hc; rw [dig_num (show u % 10 < 10 by omega)]; omega
theorem dec_val (u : Nat) : valD (decDigits u) = u := by
  induction u using Nat.strongRecOn with
  | _ u ih =>
    rw [decDigits]
    split
    · rename_i h; rw [show valD [UInt8.ofNat (48 + u)] = 0 * 10 + ((UInt8.ofNat (48 + u)).toNat - 48) from rfl, dig_num h]; omega
    · rename_i h; rw [valD_snoc, ih (u / 10) (by omega), dig_num (by omega)]; omega
theorem dec_head (u : Nat) (h : (decDigits u).head? = some 48) : u = 0 := by
  induction u using Nat.strongRecOn with
  | _ u ih =>
    rw [decDigits] at h
    split at h
    · rename_i hs
      have := congrArg UInt8.toNat (Option.some.inj h)
      rw [dig_num hs] at this
      have h48 : (48 : UInt8).toNat = 48 := rfl
      omega
    · rename_i hs
      rw [head_app (dec_ne _)] at h
      have := ih (u / 10) (by omega) h
      omega
theorem dec_of (ds : List UInt8) (h : Digs ds) (h0 : ds ≠ []) (h1 : ds.head? = some 48 → ds.length = 1) : decDigits (valD ds) = ds := by
  revert h h0 h1
  induction ds using snocRec with
  | h0 => intro _ h0; exact absurd rfl h0
  | h1 xs c ih =>
    intro h h0 h1
    have hc := h c (by simp)
    rw [valD_snoc]
    by_cases hx : xs = []
    · subst hx
      simp only [valD, List.foldl_nil, List.nil_append, Nat.zero_mul, Nat.zero_add]
      rw [Lib.decDigits_one (by omega), dig_back hc]
    · have hh : xs.head? ≠ some 48 := fun e => by
        have := h1 (by rw [head_app hx]; exact e)
        rw [List.length_append, List.length_singleton] at this
        have : 0 < xs.length := List.length_pos_iff.2 hx
        omega
      have hi := ih (fun x hx => h x (List.mem_append_left _ hx)) hx (fun e => absurd e hh)
      have hv : valD xs ≠ 0 := fun e => by
        rw [e, Lib.decDigits_one (by decide)] at hi
        rw [← hi] at hh; exact hh rfl
      rw [decDigits, dif_neg (by omega), show (valD xs * 10 + (c.toNat - 48)) / 10 = valD xs by omega, hi, show (valD xs * 10 + (c.toNat - 48)) % 10 = c.toNat - 48 by omega, dig_back hc]
def negL (l : List UInt8) : Bool := l.head? == some 45
def dpart (l : List UInt8) : List UInt8 := if negL l = true then l.tail else l
structure NumOk (l : List UInt8) : Prop where
  ne : dpart l ≠ []
  le : (dpart l).length ≤ 18
  ld : ¬ ((dpart l).head? = some 48 ∧ 1 < l.length)
  dg : Digs (dpart l)
def valL (l : List UInt8) : Int := if negL l = true then -(valD (dpart l) : Int) else (valD (dpart l) : Int)
theorem neg_cons {l : List UInt8} (h : negL l = true) : l = 45 :: dpart l := by
  cases l with
  | nil => simp [negL] at h
  | cons c r =>
    have : c = 45 := by simpa [negL] using h
    subst this
    rw [dpart, if_pos h]; rfl
theorem pos_same {l : List UInt8} (h : negL l = false) : dpart l = l := by rw [dpart, if_neg (by rw [h]; decide)]
theorem valL_small {l : List UInt8} (h : NumOk l) : -1000000000000000000 < valL l ∧ valL l < 1000000000000000000 := by
  have h1 := valD_lt _ h.dg
  have h2 : 10 ^ (dpart l).length ≤ 10 ^ 18 := Nat.pow_le_pow_right (by decide) h.le
  have h3 : (10 : Nat) ^ 18 = 1000000000000000000 := by decide
  unfold valL
  split <;> omega
theorem itoa_valL {l : List UInt8} (h : NumOk l) : itoa (valL l) = l := by
  cases hn : negL l with
  | true =>
    have hl := neg_cons hn
    have hp : 0 < (dpart l).length := List.length_pos_iff.2 h.ne
    have hlen : l.length = (dpart l).length + 1 := by rw [hl]; simp [dpart, negL]
    have hh : (dpart l).head? ≠ some 48 := fun e => h.ld ⟨e, by omega⟩
    have hd := dec_of _ h.dg h.ne (fun e => absurd e hh)
    have hv : valD (dpart l) ≠ 0 := fun e => by
      rw [e, Lib.decDigits_one (by decide)] at hd
      rw [← hd] at hh; exact hh rfl
    rw [valL, if_pos hn, Lib.itoa_neg _ (by omega), hd]
    exact hl.symm
  | false =>
    have hl := pos_same hn
    have hd := dec_of _ h.dg h.ne (fun e => by
      by_cases h1 : 1 < l.length
      · exact absurd ⟨e, h1⟩ h.ld
      · have : 0 < (dpart l).length := List.length_pos_iff.2 h.ne
        rw [hl] at this ⊢
        omega)
    rw [valL, if_neg (by rw [hn]; decide), Lib.itoa_nonneg, hd, hl]
theorem dig_head {l : List UInt8} (h : Digs l) : negL l = false := by
  cases l with
  | nil => rfl
  | cons c r =>
    have h1 := h c (by simp)
    by_cases e : c = 45
    · subst e
      have h45 : (45 : UInt8).toNat = 45 := rfl
      omega
    · simp [negL, e]
theorem num_of_itoa {n : Int} {l : List UInt8} (h : itoa n = l) (hle : (dpart l).length ≤ 18) : NumOk l ∧ valL l = n := by
  by_cases hn : n < 0
  · obtain ⟨u, rfl⟩ : ∃ u : Nat, n = -(u : Int) := ⟨n.natAbs, by omega⟩
    rw [Lib.itoa_neg u (by omega)] at h
    have hng : negL l = true := by rw [← h]; rfl
    have hd : dpart l = decDigits u := by rw [dpart, if_pos hng, ← h]; rfl
    refine ⟨⟨by rw [hd]; exact dec_ne u, hle, fun e => ?_, by rw [hd]; exact dec_digs u⟩, by rw [valL, if_pos hng, hd, dec_val]⟩
    rw [hd] at e
    have := dec_head u e.1
    omega
  · obtain ⟨u, rfl⟩ : ∃ u : Nat, n = (u : Int) := ⟨n.toNat, by omega⟩
    rw [Lib.itoa_nonneg] at h
    have hng : negL l = false := by rw [← h]; exact dig_head (dec_digs u)
    have hd : dpart l = decDigits u := by rw [pos_same hng, h]
    refine ⟨⟨by rw [hd]; exact dec_ne u, hle, fun e => ?_, by rw [hd]; exact dec_digs u⟩, by rw [valL, if_neg (by rw [hng]; decide), hd, dec_val]⟩
    rw [hd] at e
    have h0 := dec_head u e.1
    subst h0
    rw [← h, Lib.decDigits_one (by decide)] at e
    simp at e
theorem parse10 (ds : List UInt8) : ∀ (acc k : Nat), Digs ds → acc < 10 ^ k → k + ds.length ≤ 18 → Lib.parseUint10 acc ds = .ok (ds.foldl (fun a c => a * 10 + (c.toNat - 48)) acc) := by
  induction ds with
  | nil => intro acc k _ _ _; rfl
  | cons c r ih =>
    intro acc k hd ha hk
    have hc := hd c (by simp)
    rw [List.length_cons] at hk
    have h1 : 10 ^ k ≤ 10 ^ 17 := Nat.pow_le_pow_right (by decide) (by omega)
    have h2 : (10 : Nat) ^ 17 = 100000000000000000 := by decide
    rw [Lib.parseUint10, if_pos hc, if_neg (by omega), if_neg (by omega)]
    exact ih _ (k + 1) (fun x hx => hd x (List.mem_cons_of_mem _ hx)) (by rw [Nat.pow_succ]; omega) (by omega)
theorem parseMag_ok {ds : List UInt8} (h : Digs ds) (h0 : ds ≠ []) (hl : ds.length ≤ 18) : Lib.parseMag ds = .ok (valD ds) := by
  rw [Lib.parseMag, if_neg h0]
  exact parse10 ds 0 0 h (by decide) (by omega)
theorem parse_valL {l : List UInt8} (h : NumOk l) : Lib.parseIntB 64 l = .ok (valL l) := by
  have hv := valD_lt _ h.dg
  have h2 : 10 ^ (dpart l).length ≤ 10 ^ 18 := Nat.pow_le_pow_right (by decide) h.le
  have h3 : (10 : Nat) ^ 18 = 1000000000000000000 := by decide
  have hm := parseMag_ok h.dg h.ne h.le
  rw [Lib.parseIntB_64]
  cases hn : negL l with
  | true =>
    have hl := neg_cons hn
    have e45 : (45 : UInt8).toNat = 45 := rfl
    rw [valL, if_pos hn]
    generalize hdp : dpart l = ds at hl hm hv h2
    subst hl
    simp only [Lib.atoiAll, e45, or_true, if_true, hm]
    simp
    omega
  | false =>
    have hl := pos_same hn
    rw [valL, if_neg (by rw [hn]; decide)]
    rw [hl] at hm hv h2 ⊢
    have hdg := h.dg
    rw [hl] at hdg
    cases l with
    | nil => exact absurd hl h.ne
    | cons c r =>
      have hc := hdg c (by simp)
      have n1 : ¬ c.toNat = 45 := by omega
      have n2 : ¬ (c.toNat = 43 ∨ c.toNat = 45) := by omega
      simp only [Lib.atoiAll, if_neg n2, hm]
      simp [n1]
      omega
theorem trim_dash (l : List UInt8) : Lib.trimPrefix l [45] = dpart l := by
  cases l with
  | nil => rfl
  | cons c r =>
    by_cases e : c = 45
    · subst e; simp [Lib.trimPrefix, Lib.hasPrefix, dpart, negL]
    · have e' : ¬ (45 : UInt8) = c := fun h => e h.symm
      simp [Lib.trimPrefix, Lib.hasPrefix, dpart, negL, e, e']
open Classical in
noncomputable def numB (l : List UInt8) : Bool := decide (NumOk l)
open Classical in
noncomputable def numV (l : List UInt8) : Int := if NumOk l then valL l else 0
theorem num_yes {l : List UInt8} (h : NumOk l) : numB l = true ∧ numV l = valL l := by simp [numB, numV, h]
theorem num_no {l : List UInt8} (h : ¬ NumOk l) : numB l = false ∧ numV l = 0 := by simp [numB, numV, h]
end Go.Proofs.YtbifkjmmhfnblaaDoor.Ints
