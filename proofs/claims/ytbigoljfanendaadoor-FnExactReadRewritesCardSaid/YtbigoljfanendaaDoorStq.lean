/- Rows of strings of a call's own: joined by the library; the numerals of a list. -/
import Derived.Test.YtbigoljfanendaaDoorItoa
import Derived.Test.YtbigoljfanendaaDoorByB
import Derived.Test.YtbigoljfanendaaDoorShf
import Derived.Test.YtbigoljfanendaaDoorOwn
namespace Go.Proofs.YtbigoljfanendaaDoor.Ints
open Go.RowKit
set_option linter.unusedVariables false
set_option linter.unusedSimpArgs false

theorem infoS : (Tryd.prog.info? 9).map (fun i => (i.zero, i.size, i.bytes)) = some (some (.string ⟨#[]⟩), 1, 16) := by kernel_rfl
/-- Texts as a row's values. -/
def strs (ts : List (List UInt8)) : List Value := ts.map fun l => .string (bs l)
theorem strs_len (ts : List (List UInt8)) : (strs ts).length = ts.length := by simp [strs]
theorem strs_snoc (ts : List (List UInt8)) (t : List UInt8) : strs (ts ++ [t]) = strs ts ++ [.string (bs t)] := by simp [strs]
theorem strs_at {ts : List (List UInt8)} {j : Nat} {x : ByteArray} (h : (ts.map bs)[j]? = some x) : (strs ts)[j]? = some (.string x) := by
  rw [List.getElem?_map, Option.map_eq_some_iff] at h
  obtain ⟨t, ht, rfl⟩ := h
  simp [strs, ht]
theorem joinRow (v : Value) (B : Nat) (ts : List (List UInt8)) (sep : List UInt8) (w : World) (h : w.ownsRow B 9 1 v ts.length (strs ts)) (hn : ts.length ≤ 1000000) (hl : (Lib.join ts sep).length ≤ 100000000) :
    Calls Tryd.prog 79 #[v, .string (bs sep)] w fun e w' => e = .returned (.string (bs (Lib.join ts sep))) ∧ Below w.heap.size w w' := by
  have hm : (ts.map bs).map (·.data.toList) = ts := by rw [List.map_map]; exact (List.map_congr_left (g := id) (fun l _ => bs_list l)).trans (List.map_id _)
  rcases h.2 with ⟨rfl, h0⟩ | ⟨g, cp, cur, rfl, _, _, hcp, _⟩
  · obtain rfl : ts = [] := List.length_eq_zero_iff.1 h0
    exact (Tryd.strings_Join_none none 0 (bs sep) w).mono fun e w' ⟨he, hw⟩ => ⟨by rw [he]; rfl, by rw [hw]; exact Below.refl _ _⟩
  · have hc := h.cells (g := g) rfl
    have hlt := (h.lt g rfl).2
    have hj := Tryd.strings_Join g 0 cp (ts.map bs) (bs sep) w (fun j x hx => by rw [← Addr.add_lit]; exact hc j _ (strs_at hx)) hlt (by rw [List.length_map]; omega) (by rw [List.length_map]; exact hcp) (by rw [hm, bs_list]; omega)
    rw [hm, bs_list, List.length_map] at hj
    exact hj

theorem ownB_below {w w' : World} {B C : Nat} {t : TypeId} {s : Nat} {v : Value} {n : Nat} {xs : List Value} (h : w.ownsRow B t s v n xs) (hb : Below C w w') (hC : w.heap.size ≤ C) : w'.ownsRow B t s v n xs := by
  rcases h.2 with ⟨rfl, h0⟩ | ⟨g, cp, cur, rfl, h1, h2, h3⟩
  · exact ⟨h.1, .inl ⟨rfl, h0⟩⟩
  · have hlt := (h.lt g rfl).2
    exact ⟨h.1, .inr ⟨g, cp, cur, rfl, h1, by rw [hb.block g (by omega)]; exact h2, h3⟩⟩
end Go.Proofs.YtbigoljfanendaaDoor.Ints
