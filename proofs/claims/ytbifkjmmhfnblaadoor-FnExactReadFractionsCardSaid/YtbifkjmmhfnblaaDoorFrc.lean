/- Programs of fractions: what is valid, lowest terms (plain lemmas). -/
import Derived.Test.YtbifkjmmhfnblaaDoorFra
namespace Go.Proofs.YtbifkjmmhfnblaaDoor.Ints
open Go.RowKit
set_option linter.unusedVariables false
set_option linter.unusedSimpArgs false
def FraOk (r : Fra) : Prop := (1 ≤ r.up ∧ r.up ≤ 999999) ∧ (1 ≤ r.dn ∧ r.dn ≤ 999999)
structure Fok (rs : List Fra) : Prop where
  lo : 1 ≤ rs.length
  hi : rs.length ≤ 100
  all : ∀ i, i < rs.length → FraOk (rs.getD i zFra)
open Classical in
noncomputable def fraB (r : Fra) : Bool := decide (FraOk r)
open Classical in
noncomputable def frsB (rs : List Fra) : Bool := decide (Fok rs)
open Classical in
noncomputable def allF (rs : List Fra) : Bool := decide (∀ i, i < rs.length → FraOk (rs.getD i zFra))
theorem fraB_true {r : Fra} (h : FraOk r) : fraB r = true := by simp [fraB, h]
theorem fraB_false {r : Fra} (h : ¬ FraOk r) : fraB r = false := by simp [fraB, h]
theorem fraB_ok {r : Fra} (h : fraB r = true) : FraOk r := by simpa [fraB] using h
theorem fraB_no {r : Fra} (h : fraB r = false) : ¬ FraOk r := by simpa [fraB] using h
theorem frsB_true {rs : List Fra} (h : Fok rs) : frsB rs = true := by simp [frsB, h]
theorem frsB_false {rs : List Fra} (h : ¬ Fok rs) : frsB rs = false := by simp [frsB, h]
theorem frsB_ok {rs : List Fra} (h : frsB rs = true) : Fok rs := by simpa [frsB] using h
theorem frsB_no {rs : List Fra} (h : frsB rs = false) : ¬ Fok rs := by simpa [frsB] using h
theorem allF_true {rs : List Fra} (h : ∀ i, i < rs.length → FraOk (rs.getD i zFra)) : allF rs = true := by simp only [allF, decide_eq_true_eq]; exact h
theorem allF_false {rs : List Fra} (h : ¬ ∀ i, i < rs.length → FraOk (rs.getD i zFra)) : allF rs = false := by simp only [allF, decide_eq_false_iff_not]; exact h
theorem allF_frs {rs : List Fra} (h0 : 1 ≤ rs.length) (h : rs.length ≤ 100) : frsB rs = allF rs := by
  by_cases ha : ∀ i, i < rs.length → FraOk (rs.getD i zFra)
  · rw [allF_true ha, frsB_true ⟨h0, h, ha⟩]
  · rw [allF_false ha, frsB_false (fun k => ha k.all)]
theorem Fok.mem {rs : List Fra} (h : Fok rs) : ∀ r ∈ rs, FraOk r := by
  intro r hr
  obtain ⟨i, hi, rfl⟩ := List.getElem_of_mem hr
  have := h.all i hi
  rwa [List.getD_eq_getElem?_getD, List.getElem?_eq_getElem hi] at this
def gcdI (a b : Int) : Int := ((Nat.gcd a.toNat b.toNat : Nat) : Int)
theorem gcdI_step (d k : Nat) : Nat.gcd k (d % k) = Nat.gcd d k := by
  rw [Nat.gcd_comm k, ← Nat.gcd_rec, Nat.gcd_comm]
theorem gcdI_bd {a b : Int} (h : 1 ≤ a ∧ a ≤ 999999) : 1 ≤ gcdI a b ∧ gcdI a b ≤ 999999 := by
  have h1 : 0 < Nat.gcd a.toNat b.toNat := Nat.gcd_pos_of_pos_left _ (by omega)
  have h2 : Nat.gcd a.toNat b.toNat ≤ a.toNat := Nat.gcd_le_left _ (by omega)
  unfold gcdI; omega
theorem div_bd {a g : Int} (h : 1 ≤ a ∧ a ≤ 999999) (hg : 1 ≤ g) : 0 ≤ a / g ∧ a / g ≤ 999999 := by
  refine ⟨Int.ediv_nonneg (by omega) (by omega), ?_⟩
  have := Int.ediv_le_self g (show 0 ≤ a by omega)
  omega
def redF (r : Fra) : Fra := ⟨r.up / gcdI r.up r.dn, r.dn / gcdI r.up r.dn⟩
def redL (rs : List Fra) : List Fra := rs.map redF
theorem FraOk.red {r : Fra} (h : FraOk r) : (redF r).fit := by
  have g := gcdI_bd (b := r.dn) h.1
  have d1 := div_bd h.1 g.1
  have d2 := div_bd h.2 g.1
  constructor <;> (simp only [redF]; unfold fit64; omega)
noncomputable def redR (rs : List Fra) : List Fra := if frsB rs = true then redL rs else []
noncomputable def redC (rs : List Fra) : Int := if frsB rs = true then 0 else 1
theorem red_good {rs : List Fra} (h : frsB rs = true) : redR rs = redL rs ∧ redC rs = 0 := by simp [redR, redC, h]
theorem red_bad {rs : List Fra} (h : frsB rs = false) : redR rs = [] ∧ redC rs = 1 := by simp [redR, redC, h]
theorem red_snoc (rs : List Fra) (k : Nat) (h : k < rs.length) : redL (rs.take (k + 1)) = redL (rs.take k) ++ [redF (rs.getD k zFra)] := by
  rw [List.take_succ_eq_append_getElem h, List.getD_eq_getElem?_getD, List.getElem?_eq_getElem h]
  unfold redL
  rw [List.map_append]; rfl
end Go.Proofs.YtbifkjmmhfnblaaDoor.Ints
