/-
  The library's sort at a slice of slabs: its numbers in this program, and each body held against the library's own text.
-/
import Derived.Test.YtkdakpbkpfigeaaRows
import Derived.Test.YtkdakpbkpfigeaaRes
import Derived.Shelf.SlGeneric
import Derived.Shelf.SlSortCmp.WholeK
import Derived.Shelf.SlSortCmp.NoneTotal
namespace Go.Proofs.Ytkdakpbkpfigeaa
open Go.Shelf
def sortSlab_ren : Go.Shelf.Ren := ⟨fun | 6 => 143 | 15 => 174 | 14 => 173 | 28 => 195 | 29 => 196 | 20 => 187 | 21 => 188 | 22 => 189 | 23 => 190 | 24 => 191 | 25 => 192 | 26 => 193 | 27 => 194 | 46 => 209 | 47 => 210 | 48 => 211 | 49 => 212 | 50 => 213 | 57 => 225 | n => n, fun | 22 => 29 | 24 => 110 | 25 => 177 | 3 => 3 | 39 => 156 | 0 => 0 | 53 => 247 | 55 => 249 | 4 => 4 | 46 => 240 | 45 => 239 | 50 => 244 | 5 => 5 | 9 => 9 | 66 => 257 | 70 => 261 | 76 => 270 | 77 => 271 | n => n, fun | n => n⟩
theorem sortSlab : Go.Proofs.SlLaysF0.n6 Try.prog sortSlab_ren := {
  mixed := by kernel_rfl
  f6 := ⟨Try.f143.name, by decide, Try.func143.trans (congrArg some (by kernel_rfl))⟩
  f14 := ⟨Try.f173.name, by decide, Try.func173.trans (congrArg some (by kernel_rfl))⟩
  f15 := Try.func174.trans (congrArg some (by kernel_rfl))
  f20 := ⟨Try.f187.name, by decide, Try.func187.trans (congrArg some (by kernel_rfl))⟩
  f21 := ⟨Try.f188.name, by decide, Try.func188.trans (congrArg some (by kernel_rfl))⟩
  f22 := ⟨Try.f189.name, by decide, Try.func189.trans (congrArg some (by kernel_rfl))⟩
  f23 := ⟨Try.f190.name, by decide, Try.func190.trans (congrArg some (by kernel_rfl))⟩
  f24 := ⟨Try.f191.name, by decide, Try.func191.trans (congrArg some (by kernel_rfl))⟩
  f25 := ⟨Try.f192.name, by decide, Try.func192.trans (congrArg some (by kernel_rfl))⟩
  f26 := ⟨Try.f193.name, by decide, Try.func193.trans (congrArg some (by kernel_rfl))⟩
  f27 := ⟨Try.f194.name, by decide, Try.func194.trans (congrArg some (by kernel_rfl))⟩
  f28 := Try.func195.trans (congrArg some (by kernel_rfl))
  f29 := Try.func196.trans (congrArg some (by kernel_rfl))
  f46 := ⟨Try.f209.name, by decide, Try.func209.trans (congrArg some (by kernel_rfl))⟩
  f47 := Try.func210.trans (congrArg some (by kernel_rfl))
  f48 := Try.func211.trans (congrArg some (by kernel_rfl))
  f49 := ⟨Try.f212.name, by decide, Try.func212.trans (congrArg some (by kernel_rfl))⟩
  f50 := ⟨Try.f213.name, by decide, Try.func213.trans (congrArg some (by kernel_rfl))⟩
  f57 := ⟨Try.f225.name, by decide, Try.func225.trans (congrArg some (by kernel_rfl))⟩
  t0 := Try.underlying0
  a0 := Try.isAgg0
  z0 := Try.sizeOf0
  v0 := Try.zeroValue0
  t3 := Try.underlying3
  a3 := Try.isAgg3
  z3 := Try.sizeOf3
  v3 := Try.zeroValue3
  t4 := Try.underlying4
  a4 := Try.isAgg4
  z4 := Try.sizeOf4
  v4 := Try.zeroValue4
  t5 := Try.underlying5
  a5 := Try.isAgg5
  z5 := Try.sizeOf5
  v5 := Try.zeroValue5
  t9 := Try.underlying9
  a9 := Try.isAgg9
  z9 := Try.sizeOf9
  v9 := Try.zeroValue9
  t22 := Try.underlying29
  a22 := Try.isAgg29
  z22 := Try.sizeOf29
  v22 := Try.zeroValue29
  t25 := Try.underlying177
  a25 := Try.isAgg177
  z25 := Try.sizeOf177
  v25 := Try.zeroValue177
  t39 := Try.underlying156
  a39 := Try.isAgg156
  z39 := Try.sizeOf156
  v39 := Try.zeroValue156
  t45 := Try.underlying239
  a45 := Try.isAgg239
  z45 := Try.sizeOf239
  v45 := Try.zeroValue239
  t46 := Try.underlying240
  a46 := Try.isAgg240
  z46 := Try.sizeOf240
  v46 := Try.zeroValue240
  t50 := Try.underlying244
  a50 := Try.isAgg244
  z50 := Try.sizeOf244
  v50 := Try.zeroValue244
  t53 := Try.underlying247
  a53 := Try.isAgg247
  z53 := Try.sizeOf247
  v53 := Try.zeroValue247
  t55 := Try.underlying249
  a55 := Try.isAgg249
  z55 := Try.sizeOf249
  v55 := Try.zeroValue249
  t66 := Try.underlying257
  a66 := Try.isAgg257
  z66 := Try.sizeOf257
  v66 := Try.zeroValue257
  t70 := Try.underlying261
  a70 := Try.isAgg261
  z70 := Try.sizeOf261
  v70 := Try.zeroValue261
  t76 := Try.underlying270
  a76 := Try.isAgg270
  z76 := Try.sizeOf270
  v76 := Try.zeroValue270
  t77 := Try.underlying271
  a77 := Try.isAgg271
  z77 := Try.sizeOf271
  v77 := Try.zeroValue271 }
end Go.Proofs.Ytkdakpbkpfigeaa
