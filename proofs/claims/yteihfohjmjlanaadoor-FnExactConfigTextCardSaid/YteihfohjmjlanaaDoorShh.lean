/- Contracts of the library's functions, laid at this seat's numbers by hand. -/
import Derived.Shelf.Strings.Builder1
import Derived.Shelf.Strings.Builder2
import Derived.Shelf.Strings.OnBuilder
import Derived.Shelf.Strings.BuilderF
import Derived.Shelf.Strings.BuilderK
import Derived.Shelf.Strings.BuilderRune
import Derived.Shelf.Strings.Builder2Cap
import Derived.Shelf.Strconv.Itoa0
import Derived.Shelf.Strconv.Itoa1
import Derived.Shelf.LaysM
import Derived.Shelf.Strconv.Itoa2
import Derived.Shelf.Strconv.Itoa3
import Derived.Shelf.Strconv.Itoa4
import Derived.Shelf.Strings.Prefix
import Derived.Shelf.Strings.Repeat
import Derived.Ground.SlgnProg
import Derived.Shelf.SlicesG.Reverse
import Derived.Shelf.SlicesG.Clone
import Derived.Shelf.SlicesG.SearchI
import Derived.Shelf.SlicesG.Cells
import Derived.Test.YteihfohjmjlanaaDoorProg
namespace Go.Proofs
open Go.Shelf
def Tryd.laysh168_ren : Go.Shelf.Ren := ⟨fun | 0 => 0 | 1 => 1 | 2 => 2 | 99 => 95 | 105 => 56 | 129 => 145 | 156 => 36 | 165 => 77 | 166 => 55 | 167 => 135 | 168 => 86 | 169 => 57 | 170 => 96 | 173 => 89 | 206 => 127 | 212 => 94 | 240 => 93 | 241 => 116 | 242 => 120 | 246 => 121 | 263 => 125 | 264 => 126 | 276 => 124 | 277 => 136 | 278 => 137 | 283 => 138 | 284 => 139 | 285 => 140 | 286 => 141 | 317 => 144 | 318 => 146 | 319 => 147 | 320 => 148 | 337 => 149 | 338 => 150 | 347 => 151 | 348 => 152 | 349 => 153 | 350 => 154 | 351 => 155 | 352 => 156 | 353 => 157 | 354 => 158 | 355 => 159 | 356 => 160 | 357 => 161 | 358 => 162 | 359 => 163 | 360 => 164 | 361 => 165 | 362 => 168 | 366 => 169 | 367 => 176 | n => n, fun | 0 => 0 | 1 => 1 | 2 => 2 | 3 => 3 | 4 => 4 | 5 => 5 | 6 => 6 | 7 => 7 | 8 => 8 | 9 => 9 | 10 => 10 | 11 => 11 | 12 => 12 | 13 => 13 | 14 => 14 | 15 => 15 | 16 => 16 | 17 => 17 | 18 => 18 | 19 => 19 | 20 => 20 | 21 => 21 | 22 => 137 | 26 => 97 | 28 => 179 | 31 => 70 | 37 => 87 | 46 => 134 | 47 => 185 | 51 => 159 | 52 => 186 | 53 => 162 | 54 => 174 | 67 => 69 | 70 => 86 | 71 => 88 | 72 => 89 | 73 => 120 | 74 => 93 | 75 => 94 | 76 => 95 | 77 => 96 | 78 => 170 | 79 => 128 | 80 => 73 | 81 => 138 | 83 => 172 | 84 => 130 | 109 => 135 | 110 => 136 | 111 => 184 | 114 => 180 | 126 => 155 | 127 => 139 | 146 => 160 | 147 => 161 | 148 => 163 | 149 => 164 | 164 => 157 | 165 => 158 | 166 => 171 | 171 => 173 | 172 => 175 | 173 => 176 | 174 => 177 | 211 => 181 | 212 => 182 | 213 => 183 | 232 => 187 | 233 => 188 | 238 => 189 | 239 => 190 | 240 => 191 | 241 => 192 | 242 => 193 | 243 => 194 | 244 => 195 | 245 => 196 | 246 => 197 | 247 => 198 | 248 => 199 | 249 => 200 | n => n, fun | n => n⟩
set_option maxRecDepth 100000 in
theorem Tryd.laysh168 : Go.Proofs.Lays.n168 Tryd.prog Tryd.laysh168_ren := {
  mixed := by kernel_rfl
  f168 := Tryd.func86.trans (congrArg some (by kernel_rfl))
  f240 := Tryd.func93.trans (congrArg some (by kernel_rfl))
  f242 := Tryd.func120.trans (congrArg some (by kernel_rfl))
  f276 := Tryd.func124.trans (congrArg some (by kernel_rfl))
  f278 := Tryd.func137.trans (congrArg some (by kernel_rfl))
  t0 := Tryd.underlying0
  a0 := Tryd.isAgg0
  z0 := Tryd.sizeOf0
  v0 := Tryd.zeroValue0
  t3 := Tryd.underlying3
  a3 := Tryd.isAgg3
  z3 := Tryd.sizeOf3
  v3 := Tryd.zeroValue3
  t4 := Tryd.underlying4
  a4 := Tryd.isAgg4
  z4 := Tryd.sizeOf4
  v4 := Tryd.zeroValue4
  t5 := Tryd.underlying5
  a5 := Tryd.isAgg5
  z5 := Tryd.sizeOf5
  v5 := Tryd.zeroValue5
  t9 := Tryd.underlying9
  a9 := Tryd.isAgg9
  z9 := Tryd.sizeOf9
  v9 := Tryd.zeroValue9
  t20 := Tryd.underlying20
  a20 := Tryd.isAgg20
  z20 := Tryd.sizeOf20
  v20 := Tryd.zeroValue20
  t21 := Tryd.underlying21
  a21 := Tryd.isAgg21
  z21 := Tryd.sizeOf21
  v21 := Tryd.zeroValue21
  t37 := Tryd.underlying87
  a37 := Tryd.isAgg87
  z37 := Tryd.sizeOf87
  v37 := Tryd.zeroValue87
  t46 := Tryd.underlying134
  a46 := Tryd.isAgg134
  z46 := Tryd.sizeOf134
  v46 := Tryd.zeroValue134
  t51 := Tryd.underlying159
  a51 := Tryd.isAgg159
  z51 := Tryd.sizeOf159
  v51 := Tryd.zeroValue159
  t70 := Tryd.underlying86
  a70 := Tryd.isAgg86
  z70 := Tryd.sizeOf86
  v70 := Tryd.zeroValue86
  t72 := Tryd.underlying89
  a72 := Tryd.isAgg89
  z72 := Tryd.sizeOf89
  v72 := Tryd.zeroValue89
  t75 := Tryd.underlying94
  a75 := Tryd.isAgg94
  z75 := Tryd.sizeOf94
  v75 := Tryd.zeroValue94
  t164 := Tryd.underlying157
  a164 := Tryd.isAgg157
  z164 := Tryd.sizeOf157
  v164 := Tryd.zeroValue157
}
theorem Tryd.Builder_Extra_h168 : Builder.Extra Tryd.prog Tryd.laysh168_ren := {
  sizeBuilder := by kernel_rfl
  liesBuilder := by kernel_rfl
  t5 := Tryd.underlying5
  a5 := Tryd.isAgg5
  z5 := Tryd.sizeOf5
  v5 := Tryd.zeroValue5
  infoByte := by kernel_rfl
  cellsByte := by kernel_rfl
  sizeByte := by kernel_rfl
  neB5 := by decide
}
open Go.RowKit in
theorem Tryd.Builder_WriteRune_k (B b : Nat) (bs : List Value) (r : Int) (hr0 : -2147483648 ≤ r) (hr1 : r ≤ 2147483647) (w : World) (h : Lib.IsBuilderF 89 5 B b bs w) (hlen : bs.length + 4 ≤ 140737488355328) (hBw : B ≤ w.heap.size) :
    Calls Tryd.prog 86 #[.pointer (some ⟨b, 0, none⟩), .int .i32 r] w fun e w' => e = .returned (.tuple #[.int .i64 (Lib.runeCells r).length, .nilIface]) ∧ (Lib.BuilderAtF 89 5 B b (.pointer (some ⟨b, 0, none⟩)) (bs ++ Lib.runeCells r) w' ∧ Below B w w' ∧ Lib.OthersKept 5 (some b) w w') := Any.Builder_WriteRune_k Tryd.laysh168 Tryd.Builder_Extra_h168 B b bs r hr0 hr1 w h hlen hBw
end Go.Proofs
