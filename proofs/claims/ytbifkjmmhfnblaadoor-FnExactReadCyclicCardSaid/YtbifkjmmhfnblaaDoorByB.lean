/- Rows of bytes. -/
import Derived.Test.YtbifkjmmhfnblaaDoorItoa
import Derived.Test.YtbifkjmmhfnblaaDoorInts
import Derived.Lib.UnsafeStr
namespace Go.Proofs.YtbifkjmmhfnblaaDoor.Ints
open Go.RowKit
set_option linter.unusedVariables false

theorem infoB : (Tryd.prog.info? 5).map (fun i => (i.zero, i.size, i.bytes)) = some (some (.int .u8 0), 1, 1) := by kernel_rfl
theorem cellNewB {w : World} {t : TypeId} (v : Value) : ∀ (j : Nat) (u : Value), [v][j]? = some u → (w.alloc (.cells #[v] t)).cell? ((⟨w.heap.size, 0, none⟩ : Addr).add j) = some u := by
  intro j u h
  match j, h with
  | 0, h => simp at h; subst h; rw [Addr.add_lit]; simp [World.cell?_alloc_at]
  | j + 1, h => simp at h
theorem u8dig {c : Nat} (h : c < 10) : IntKind.u8.wrap (48 + (c : Int)) = ((UInt8.ofNat (48 + c)).toNat : Int) := by
  rw [digit_toNat h]
  simp [IntKind.wrap, IntKind.bits, IntKind.signed]
  omega
theorem u8digI {x : Int} (h0 : 0 ≤ x) (h1 : x < 10) : IntKind.u8.wrap (48 + x) = ((UInt8.ofNat (48 + x.toNat)).toNat : Int) := by
  obtain ⟨c, rfl⟩ : ∃ c : Nat, x = (c : Int) := ⟨x.toNat, by omega⟩
  rw [Int.toNat_natCast]
  exact u8dig (by omega)
/-- Letters as digits. -/
def dgT (zs : List Int) : List UInt8 := zs.map fun z => UInt8.ofNat (48 + z.toNat)
theorem dgT_length (zs : List Int) : (dgT zs).length = zs.length := by simp [dgT]
theorem dgT_succ (zs : List Int) (k : Nat) (h : k < zs.length) : dgT (zs.take (k + 1)) = dgT (zs.take k) ++ [UInt8.ofNat (48 + (zs.getD k 0).toNat)] := by
  rw [List.take_succ_eq_append_getElem h, List.getD_eq_getElem?_getD, List.getElem?_eq_getElem h]; unfold dgT; rw [List.map_append]; rfl
end Go.Proofs.YtbifkjmmhfnblaaDoor.Ints
