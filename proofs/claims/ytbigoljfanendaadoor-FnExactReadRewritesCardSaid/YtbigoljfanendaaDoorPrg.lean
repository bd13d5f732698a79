/- Programs of register machines: what is valid, shifted, joined, repeated, chosen (plain lemmas). -/
import Derived.Test.YtbigoljfanendaaDoorIns
namespace Go.Proofs.YtbigoljfanendaaDoor.Ints
open Go.RowKit
set_option linter.unusedVariables false
set_option linter.unusedSimpArgs false
def InsOk (n : Nat) (r : Ins) : Prop := (0 ≤ r.rg ∧ r.rg ≤ 23) ∧ (0 ≤ r.th ∧ r.th ≤ (n : Int)) ∧ ((r.kd = 0 ∧ r.el = 0) ∨ (r.kd = 1 ∧ 0 ≤ r.el ∧ r.el ≤ (n : Int)))
structure Pok (rs : List Ins) : Prop where
  len : rs.length ≤ 400
  all : ∀ i, i < rs.length → InsOk rs.length (rs.getD i zIns)
open Classical in
noncomputable def insB (n : Nat) (r : Ins) : Bool := decide (InsOk n r)
open Classical in
noncomputable def progB (rs : List Ins) : Bool := decide (Pok rs)
open Classical in
noncomputable def allP (rs : List Ins) : Bool := decide (∀ i, i < rs.length → InsOk rs.length (rs.getD i zIns))
theorem insB_true {n : Nat} {r : Ins} (h : InsOk n r) : insB n r = true := by simp [insB, h]
theorem insB_false {n : Nat} {r : Ins} (h : ¬ InsOk n r) : insB n r = false := by simp [insB, h]
theorem insB_ok {n : Nat} {r : Ins} (h : insB n r = true) : InsOk n r := by simpa [insB] using h
theorem insB_no {n : Nat} {r : Ins} (h : insB n r = false) : ¬ InsOk n r := by simpa [insB] using h
theorem insB_of {n : Nat} {r : Ins} (b : Bool) (h : InsOk n r ↔ b = true) : insB n r = b := by
  cases b with
  | true => exact insB_true (h.2 rfl)
  | false => exact insB_false (fun h' => by cases h.1 h')
theorem progB_true {rs : List Ins} (h : Pok rs) : progB rs = true := by simp [progB, h]
theorem progB_false {rs : List Ins} (h : ¬ Pok rs) : progB rs = false := by simp [progB, h]
theorem progB_ok {rs : List Ins} (h : progB rs = true) : Pok rs := by simpa [progB] using h
theorem progB_no {rs : List Ins} (h : progB rs = false) : ¬ Pok rs := by simpa [progB] using h
theorem allP_true {rs : List Ins} (h : ∀ i, i < rs.length → InsOk rs.length (rs.getD i zIns)) : allP rs = true := by simp only [allP, decide_eq_true_eq]; exact h
theorem allP_false {rs : List Ins} (h : ¬ ∀ i, i < rs.length → InsOk rs.length (rs.getD i zIns)) : allP rs = false := by simp only [allP, decide_eq_false_iff_not]; exact h
theorem allP_prog {rs : List Ins} (h : rs.length ≤ 400) : progB rs = allP rs := by
  by_cases ha : ∀ i, i < rs.length → InsOk rs.length (rs.getD i zIns)
  · rw [allP_true ha, progB_true ⟨h, ha⟩]
  · rw [allP_false ha, progB_false (fun k => ha k.all)]
def mvT (n by' e t : Int) : Int := if t = n then e else t + by'
def shI (n by' e : Int) (r : Ins) : Ins := ⟨r.kd, r.rg, mvT n by' e r.th, if r.kd = 1 then mvT n by' e r.el else r.el⟩
def shL (by' e : Int) (rs : List Ins) : List Ins := rs.map (shI rs.length by' e)
@[simp] theorem shL_length (by' e : Int) (rs : List Ins) : (shL by' e rs).length = rs.length := by simp [shL]
theorem shL_at (by' e : Int) (rs : List Ins) (i : Nat) (h : i < rs.length) : (shL by' e rs).getD i zIns = shI rs.length by' e (rs.getD i zIns) := by
  simp [shL, List.getD_eq_getElem?_getD, h]
theorem shL_id (rs : List Ins) (h : ∀ r ∈ rs, r.kd = 0 ∨ r.kd = 1) : shL 0 rs.length rs = rs := by
  have e : ∀ r ∈ rs, shI rs.length 0 rs.length r = r := fun r hr => by
    have m : ∀ t : Int, mvT rs.length 0 rs.length t = t := fun t => by unfold mvT; split <;> omega
    cases r
    simp [shI, m]
  unfold shL
  rw [List.map_congr_left e, List.map_id']
theorem mvT_bd {n by' e t : Int} (h0 : 0 ≤ t) (h1 : t ≤ 400) (h2 : 0 ≤ by') (h3 : by' ≤ 1000) (h4 : 0 ≤ e) (h5 : e ≤ 2000) : 0 ≤ mvT n by' e t ∧ mvT n by' e t ≤ 2000 := by
  unfold mvT; split <;> omega
theorem Pok.mem {rs : List Ins} (h : Pok rs) : ∀ r ∈ rs, InsOk rs.length r := by
  intro r hr
  obtain ⟨i, hi, rfl⟩ := List.getElem_of_mem hr
  have := h.all i hi
  rwa [List.getD_eq_getElem?_getD, List.getElem?_eq_getElem hi] at this
theorem FitIns.sh {rs : List Ins} (h : Pok rs) {by' e : Int} (h2 : 0 ≤ by') (h3 : by' ≤ 1000) (h4 : 0 ≤ e) (h5 : e ≤ 2000) : FitIns (shL by' e rs) := by
  intro r hr
  simp only [shL, List.mem_map] at hr
  obtain ⟨q, hq, rfl⟩ := hr
  obtain ⟨⟨a1, a2⟩, ⟨b1, b2⟩, c⟩ := h.mem q hq
  have hl := h.len
  have t1 := mvT_bd (n := rs.length) (t := q.th) b1 (by omega) h2 h3 h4 h5
  refine ⟨⟨?_, ?_⟩, ⟨?_, ?_⟩, ⟨?_, ?_⟩, ?_⟩ <;> (try (simp only [shI]; omega))
  simp only [shI]
  split
  · have t2 := mvT_bd (n := rs.length) (t := q.el) (by omega) (by omega) h2 h3 h4 h5
    unfold fit64; omega
  · unfold fit64; omega
def joinL (a b : List Ins) : List Ins := a ++ shL a.length (a.length + b.length) b
def loopL (r : Int) (b : List Ins) : List Ins := [⟨1, r, 1, (b.length : Int) + 2⟩, ⟨0, r, if b = [] then 0 else 2, 0⟩] ++ shL 2 0 b
def branL (r : Int) (z o : List Ins) : List Ins :=
  [⟨1, r, 1, (o.length : Int) + 2⟩, ⟨0, r, if o = [] then (o.length : Int) + 2 + z.length else 2, 0⟩] ++ shL 2 ((o.length : Int) + 2 + z.length) o ++ shL ((o.length : Int) + 2) ((o.length : Int) + 2 + z.length) z
def fitL (l : List Ins) : List Ins := if l.length ≤ 400 then l else []
def fitC (l : List Ins) : Int := if l.length ≤ 400 then 0 else 5
theorem fit_yes {l : List Ins} (h : l.length ≤ 400) : fitL l = l ∧ fitC l = 0 := by simp [fitL, fitC, h]
theorem fit_no {l : List Ins} (h : ¬ l.length ≤ 400) : fitL l = [] ∧ fitC l = 5 := by simp [fitL, fitC, h]
noncomputable def joinR (a b : List Ins) : List Ins := if progB a = true ∧ progB b = true then fitL (joinL a b) else []
noncomputable def joinC (a b : List Ins) : Int := if progB a = true ∧ progB b = true then fitC (joinL a b) else 1
theorem join_good {a b : List Ins} (h : progB a = true) (k : progB b = true) : joinR a b = fitL (joinL a b) ∧ joinC a b = fitC (joinL a b) := by simp [joinR, joinC, h, k]
theorem join_bad1 {a b : List Ins} (h : progB a = false) : joinR a b = [] ∧ joinC a b = 1 := by simp [joinR, joinC, h]
theorem join_bad2 {a b : List Ins} (h : progB b = false) : joinR a b = [] ∧ joinC a b = 1 := by simp [joinR, joinC, h]
noncomputable def loopR (r : Int) (b : List Ins) : List Ins := if progB b = true ∧ (0 ≤ r ∧ r ≤ 23) then fitL (loopL r b) else []
noncomputable def loopC (r : Int) (b : List Ins) : Int := if progB b = true then (if 0 ≤ r ∧ r ≤ 23 then fitC (loopL r b) else 2) else 1
theorem loop_good {r : Int} {b : List Ins} (h : progB b = true) (k : 0 ≤ r ∧ r ≤ 23) : loopR r b = fitL (loopL r b) ∧ loopC r b = fitC (loopL r b) := by simp [loopR, loopC, h, k]
theorem loop_bad1 {r : Int} {b : List Ins} (h : progB b = false) : loopR r b = [] ∧ loopC r b = 1 := by simp [loopR, loopC, h]
theorem loop_bad2 {r : Int} {b : List Ins} (h : progB b = true) (k : ¬ (0 ≤ r ∧ r ≤ 23)) : loopR r b = [] ∧ loopC r b = 2 := by simp [loopR, loopC, h, k]
noncomputable def branR (r : Int) (z o : List Ins) : List Ins := if (progB z = true ∧ progB o = true) ∧ (0 ≤ r ∧ r ≤ 23) then fitL (branL r z o) else []
noncomputable def branC (r : Int) (z o : List Ins) : Int := if progB z = true ∧ progB o = true then (if 0 ≤ r ∧ r ≤ 23 then fitC (branL r z o) else 2) else 1
theorem bran_good {r : Int} {z o : List Ins} (h : progB z = true) (h' : progB o = true) (k : 0 ≤ r ∧ r ≤ 23) : branR r z o = fitL (branL r z o) ∧ branC r z o = fitC (branL r z o) := by simp [branR, branC, h, h', k]
theorem bran_bad1 {r : Int} {z o : List Ins} (h : progB z = false) : branR r z o = [] ∧ branC r z o = 1 := by simp [branR, branC, h]
theorem bran_bad2 {r : Int} {z o : List Ins} (h : progB o = false) : branR r z o = [] ∧ branC r z o = 1 := by simp [branR, branC, h]
theorem bran_bad3 {r : Int} {z o : List Ins} (h : progB z = true) (h' : progB o = true) (k : ¬ (0 ≤ r ∧ r ≤ 23)) : branR r z o = [] ∧ branC r z o = 2 := by simp [branR, branC, h, h', k]
end Go.Proofs.YtbigoljfanendaaDoor.Ints
