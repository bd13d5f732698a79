/- Rows of strings of a call's own: joined by the library; the numerals of a list. -/
import Derived.Test.YtbifkjmmhfnblaaDoorItoa
import Derived.Test.YtbifkjmmhfnblaaDoorByB
import Derived.Test.YtbifkjmmhfnblaaDoorShf
import Derived.Test.YtbifkjmmhfnblaaDoorOwn
namespace Go.Proofs.YtbifkjmmhfnblaaDoor.Ints
open Go.RowKit
set_option linter.unusedVariables false
set_option linter.unusedSimpArgs false

theorem infoS : (Tryd.prog.info? 9).map (fun i => (i.zero, i.size, i.bytes)) = some (some (.string ⟨#[]⟩), 1, 16) := by kernel_rfl
/-- Texts as a row's values. -/
def strs (ts : List (List UInt8)) : List Value := ts.map fun l => .string (bs l)
theorem strs_len (ts : List (List UInt8)) : (strs ts).length = ts.length := by simp [strs]
theorem strs_snoc (ts : List (List UInt8)) (t : List UInt8) : strs (ts ++ [t]) = strs ts ++ [.string (bs t)] := by simp [strs]
theorem strs_at {ts : List (List UInt8)} {j : Nat} {x : ByteArray} (h : (ts.map bs)[j]? = some x) : (strs ts)[j]? = some (.string x) := by
  rw [List.getElem?_map, Option.map_eq_some_iff] at h
  obtain ⟨t, ht, rfl⟩ := h
  simp [strs, ht]
theorem ownB_below {w w' : World} {B C : Nat} {t : TypeId} {s : Nat} {v : Value} {n : Nat} {xs : List Value} (h : w.ownsRow B t s v n xs) (hb : Below C w w') (hC : w.heap.size ≤ C) : w'.ownsRow B t s v n xs := by
  rcases h.2 with ⟨rfl, h0⟩ | ⟨g, cp, cur, rfl, h1, h2, h3⟩
  · exact ⟨h.1, .inl ⟨rfl, h0⟩⟩
  · have hlt := (h.lt g rfl).2
    exact ⟨h.1, .inr ⟨g, cp, cur, rfl, h1, by rw [hb.block g (by omega)]; exact h2, h3⟩⟩
end Go.Proofs.YtbifkjmmhfnblaaDoor.Ints
