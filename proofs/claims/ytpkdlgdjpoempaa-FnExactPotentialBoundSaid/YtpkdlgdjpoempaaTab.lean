/- The table of types, as the rules ask of it. -/
import Derived.Test.YtpkdlgdjpoempaaAbs19
namespace Go.Proofs.Ytpkdlgdjpoempaa.Abs
theorem ty2 : tyOf Try.prog 8 2 = some .int := by kernel_rfl
theorem fit2 : fits Try.prog 2 .int = true := by kernel_rfl
theorem sz2 : szOf Try.prog 2 = some 1 := by kernel_rfl
theorem ek2 : elemOk Try.prog 2 .int := ⟨by kernel_rfl, by kernel_rfl⟩
theorem ag2 : isAggB Try.prog 2 = some false := by kernel_rfl
theorem za2 : zAVs Try.prog 2 = some [.int 0] := by kernel_rfl
theorem un2 : Try.prog.underlying 2 = some (.int .i64) := by kernel_rfl
theorem ty3 : tyOf Try.prog 8 3 = some .int := by kernel_rfl
theorem fit3 : fits Try.prog 3 .int = true := by kernel_rfl
theorem sz3 : szOf Try.prog 3 = some 1 := by kernel_rfl
theorem ek3 : elemOk Try.prog 3 .int := ⟨by kernel_rfl, by kernel_rfl⟩
theorem ag3 : isAggB Try.prog 3 = some false := by kernel_rfl
theorem za3 : zAVs Try.prog 3 = some [.int 0] := by kernel_rfl
theorem un3 : Try.prog.underlying 3 = some (.int .i64) := by kernel_rfl
theorem ty4 : tyOf Try.prog 8 4 = some .bool := by kernel_rfl
theorem fit4 : fits Try.prog 4 .bool = true := by kernel_rfl
theorem sz4 : szOf Try.prog 4 = some 1 := by kernel_rfl
theorem ek4 : elemOk Try.prog 4 .bool := ⟨by kernel_rfl, by kernel_rfl⟩
theorem ag4 : isAggB Try.prog 4 = some false := by kernel_rfl
theorem za4 : zAVs Try.prog 4 = some [.bool false] := by kernel_rfl
theorem un4 : Try.prog.underlying 4 = some .bool := by kernel_rfl
theorem un5 : Try.prog.underlying 5 = some (.int .u8) := by kernel_rfl
theorem un6 : Try.prog.underlying 6 = some (.int .u8) := by kernel_rfl
theorem ty9 : tyOf Try.prog 8 9 = some .str := by kernel_rfl
theorem fit9 : fits Try.prog 9 .str = true := by kernel_rfl
theorem sz9 : szOf Try.prog 9 = some 1 := by kernel_rfl
theorem ek9 : elemOk Try.prog 9 .str := ⟨by kernel_rfl, by kernel_rfl⟩
theorem ag9 : isAggB Try.prog 9 = some false := by kernel_rfl
theorem za9 : zAVs Try.prog 9 = some [.str ByteArray.empty] := by kernel_rfl
theorem un9 : Try.prog.underlying 9 = some .string := by kernel_rfl
theorem ty10 : tyOf Try.prog 8 10 = some .str := by kernel_rfl
theorem fit10 : fits Try.prog 10 .str = true := by kernel_rfl
theorem sz10 : szOf Try.prog 10 = some 1 := by kernel_rfl
theorem ek10 : elemOk Try.prog 10 .str := ⟨by kernel_rfl, by kernel_rfl⟩
theorem ag10 : isAggB Try.prog 10 = some false := by kernel_rfl
theorem za10 : zAVs Try.prog 10 = some [.str ByteArray.empty] := by kernel_rfl
theorem un10 : Try.prog.underlying 10 = some .string := by kernel_rfl
theorem ty11 : tyOf Try.prog 8 11 = some .str := by kernel_rfl
theorem fit11 : fits Try.prog 11 .str = true := by kernel_rfl
theorem sz11 : szOf Try.prog 11 = some 1 := by kernel_rfl
theorem ek11 : elemOk Try.prog 11 .str := ⟨by kernel_rfl, by kernel_rfl⟩
theorem ag11 : isAggB Try.prog 11 = some false := by kernel_rfl
theorem za11 : zAVs Try.prog 11 = some [.str ByteArray.empty] := by kernel_rfl
theorem un11 : Try.prog.underlying 11 = some .string := by kernel_rfl
theorem un12 : Try.prog.underlying 12 = some (.int .u64) := by kernel_rfl
theorem un21 : Try.prog.underlying 21 = some (.int .i32) := by kernel_rfl
theorem ty22 : tyOf Try.prog 8 22 = some (.sl (.sl .int)) := by kernel_rfl
theorem fit22 : fits Try.prog 22 (.sl (.sl .int)) = true := by kernel_rfl
theorem sz22 : szOf Try.prog 22 = some 1 := by kernel_rfl
theorem ek22 : elemOk Try.prog 22 (.sl (.sl .int)) := ⟨by kernel_rfl, by kernel_rfl⟩
theorem ag22 : isAggB Try.prog 22 = some false := by kernel_rfl
theorem za22 : zAVs Try.prog 22 = some [.nilsl] := by kernel_rfl
theorem sl22 : slElem Try.prog 22 = some 32 := by kernel_rfl
theorem ty23 : tyOf Try.prog 8 23 = some (.sl (.pr .int .int)) := by kernel_rfl
theorem fit23 : fits Try.prog 23 (.sl (.pr .int .int)) = true := by kernel_rfl
theorem sz23 : szOf Try.prog 23 = some 1 := by kernel_rfl
theorem ek23 : elemOk Try.prog 23 (.sl (.pr .int .int)) := ⟨by kernel_rfl, by kernel_rfl⟩
theorem ag23 : isAggB Try.prog 23 = some false := by kernel_rfl
theorem za23 : zAVs Try.prog 23 = some [.nilsl] := by kernel_rfl
theorem sl23 : slElem Try.prog 23 = some 67 := by kernel_rfl
theorem ty24 : tyOf Try.prog 8 24 = some (.pr (.sl (.sl .int)) (.sl (.pr .int .int))) := by kernel_rfl
theorem fit24 : fits Try.prog 24 (.pr (.sl (.sl .int)) (.sl (.pr .int .int))) = true := by kernel_rfl
theorem sz24 : szOf Try.prog 24 = some 2 := by kernel_rfl
theorem ek24 : elemOk Try.prog 24 (.pr (.sl (.sl .int)) (.sl (.pr .int .int))) := ⟨by kernel_rfl, by kernel_rfl⟩
theorem ag24 : isAggB Try.prog 24 = some true := by kernel_rfl
theorem za24 : zAVs Try.prog 24 = some [.nilsl, .nilsl] := by kernel_rfl
theorem fd24_0 : fieldOf Try.prog 24 0 = some (0, 22) := by kernel_rfl
theorem fd24_1 : fieldOf Try.prog 24 1 = some (1, 23) := by kernel_rfl
theorem ty25 : tyOf Try.prog 8 25 = some (.pr (.sl (.sl .int)) (.sl (.pr .int .int))) := by kernel_rfl
theorem fit25 : fits Try.prog 25 (.pr (.sl (.sl .int)) (.sl (.pr .int .int))) = true := by kernel_rfl
theorem sz25 : szOf Try.prog 25 = some 2 := by kernel_rfl
theorem ek25 : elemOk Try.prog 25 (.pr (.sl (.sl .int)) (.sl (.pr .int .int))) := ⟨by kernel_rfl, by kernel_rfl⟩
theorem ag25 : isAggB Try.prog 25 = some true := by kernel_rfl
theorem za25 : zAVs Try.prog 25 = some [.nilsl, .nilsl] := by kernel_rfl
theorem fd25_0 : fieldOf Try.prog 25 0 = some (0, 22) := by kernel_rfl
theorem fd25_1 : fieldOf Try.prog 25 1 = some (1, 23) := by kernel_rfl
theorem ty28 : tyOf Try.prog 8 28 = some (.pr (.sl (.sl .int)) (.sl (.pr .int .int))) := by kernel_rfl
theorem fit28 : fits Try.prog 28 (.pr (.sl (.sl .int)) (.sl (.pr .int .int))) = true := by kernel_rfl
theorem sz28 : szOf Try.prog 28 = some 2 := by kernel_rfl
theorem ek28 : elemOk Try.prog 28 (.pr (.sl (.sl .int)) (.sl (.pr .int .int))) := ⟨by kernel_rfl, by kernel_rfl⟩
theorem ag28 : isAggB Try.prog 28 = some true := by kernel_rfl
theorem za28 : zAVs Try.prog 28 = some [.nilsl, .nilsl] := by kernel_rfl
theorem fd28_0 : fieldOf Try.prog 28 0 = some (0, 22) := by kernel_rfl
theorem fd28_1 : fieldOf Try.prog 28 1 = some (1, 23) := by kernel_rfl
theorem ty32 : tyOf Try.prog 8 32 = some (.sl .int) := by kernel_rfl
theorem fit32 : fits Try.prog 32 (.sl .int) = true := by kernel_rfl
theorem sz32 : szOf Try.prog 32 = some 1 := by kernel_rfl
theorem ek32 : elemOk Try.prog 32 (.sl .int) := ⟨by kernel_rfl, by kernel_rfl⟩
theorem ag32 : isAggB Try.prog 32 = some false := by kernel_rfl
theorem za32 : zAVs Try.prog 32 = some [.nilsl] := by kernel_rfl
theorem sl32 : slElem Try.prog 32 = some 3 := by kernel_rfl
theorem ty67 : tyOf Try.prog 8 67 = some (.pr .int .int) := by kernel_rfl
theorem fit67 : fits Try.prog 67 (.pr .int .int) = true := by kernel_rfl
theorem sz67 : szOf Try.prog 67 = some 2 := by kernel_rfl
theorem ek67 : elemOk Try.prog 67 (.pr .int .int) := ⟨by kernel_rfl, by kernel_rfl⟩
theorem ag67 : isAggB Try.prog 67 = some true := by kernel_rfl
theorem za67 : zAVs Try.prog 67 = some [.int 0, .int 0] := by kernel_rfl
theorem ar67 : arElem Try.prog 67 = some (2, 3) := by kernel_rfl
theorem un80 : Try.prog.underlying 80 = some (.int .u64) := by kernel_rfl
theorem un92 : Try.prog.underlying 92 = some (.int .u32) := by kernel_rfl
theorem un93 : Try.prog.underlying 93 = some (.int .u8) := by kernel_rfl
theorem un94 : Try.prog.underlying 94 = some (.int .u8) := by kernel_rfl
theorem un97 : Try.prog.underlying 97 = some (.int .i32) := by kernel_rfl
theorem un98 : Try.prog.underlying 98 = some (.int .i32) := by kernel_rfl
theorem tabs : (tyOf Try.prog 8 2 = some .int) ∧
  (fits Try.prog 2 .int = true) ∧
  (szOf Try.prog 2 = some 1) ∧
  (elemOk Try.prog 2 .int) ∧
  (isAggB Try.prog 2 = some false) ∧
  (zAVs Try.prog 2 = some [.int 0]) ∧
  (Try.prog.underlying 2 = some (.int .i64)) ∧
  (tyOf Try.prog 8 3 = some .int) ∧
  (fits Try.prog 3 .int = true) ∧
  (szOf Try.prog 3 = some 1) ∧
  (elemOk Try.prog 3 .int) ∧
  (isAggB Try.prog 3 = some false) ∧
  (zAVs Try.prog 3 = some [.int 0]) ∧
  (Try.prog.underlying 3 = some (.int .i64)) ∧
  (tyOf Try.prog 8 4 = some .bool) ∧
  (fits Try.prog 4 .bool = true) ∧
  (szOf Try.prog 4 = some 1) ∧
  (elemOk Try.prog 4 .bool) ∧
  (isAggB Try.prog 4 = some false) ∧
  (zAVs Try.prog 4 = some [.bool false]) ∧
  (Try.prog.underlying 4 = some .bool) ∧
  (Try.prog.underlying 5 = some (.int .u8)) ∧
  (Try.prog.underlying 6 = some (.int .u8)) ∧
  (tyOf Try.prog 8 9 = some .str) ∧
  (fits Try.prog 9 .str = true) ∧
  (szOf Try.prog 9 = some 1) ∧
  (elemOk Try.prog 9 .str) ∧
  (isAggB Try.prog 9 = some false) ∧
  (zAVs Try.prog 9 = some [.str ByteArray.empty]) ∧
  (Try.prog.underlying 9 = some .string) ∧
  (tyOf Try.prog 8 10 = some .str) ∧
  (fits Try.prog 10 .str = true) ∧
  (szOf Try.prog 10 = some 1) ∧
  (elemOk Try.prog 10 .str) ∧
  (isAggB Try.prog 10 = some false) ∧
  (zAVs Try.prog 10 = some [.str ByteArray.empty]) ∧
  (Try.prog.underlying 10 = some .string) ∧
  (tyOf Try.prog 8 11 = some .str) ∧
  (fits Try.prog 11 .str = true) ∧
  (szOf Try.prog 11 = some 1) ∧
  (elemOk Try.prog 11 .str) ∧
  (isAggB Try.prog 11 = some false) ∧
  (zAVs Try.prog 11 = some [.str ByteArray.empty]) ∧
  (Try.prog.underlying 11 = some .string) ∧
  (Try.prog.underlying 12 = some (.int .u64)) ∧
  (Try.prog.underlying 21 = some (.int .i32)) ∧
  (tyOf Try.prog 8 22 = some (.sl (.sl .int))) ∧
  (fits Try.prog 22 (.sl (.sl .int)) = true) ∧
  (szOf Try.prog 22 = some 1) ∧
  (elemOk Try.prog 22 (.sl (.sl .int))) ∧
  (isAggB Try.prog 22 = some false) ∧
  (zAVs Try.prog 22 = some [.nilsl]) ∧
  (slElem Try.prog 22 = some 32) ∧
  (tyOf Try.prog 8 23 = some (.sl (.pr .int .int))) ∧
  (fits Try.prog 23 (.sl (.pr .int .int)) = true) ∧
  (szOf Try.prog 23 = some 1) ∧
  (elemOk Try.prog 23 (.sl (.pr .int .int))) ∧
  (isAggB Try.prog 23 = some false) ∧
  (zAVs Try.prog 23 = some [.nilsl]) ∧
  (slElem Try.prog 23 = some 67) ∧
  (tyOf Try.prog 8 24 = some (.pr (.sl (.sl .int)) (.sl (.pr .int .int)))) ∧
  (fits Try.prog 24 (.pr (.sl (.sl .int)) (.sl (.pr .int .int))) = true) ∧
  (szOf Try.prog 24 = some 2) ∧
  (elemOk Try.prog 24 (.pr (.sl (.sl .int)) (.sl (.pr .int .int)))) ∧
  (isAggB Try.prog 24 = some true) ∧
  (zAVs Try.prog 24 = some [.nilsl, .nilsl]) ∧
  (fieldOf Try.prog 24 0 = some (0, 22)) ∧
  (fieldOf Try.prog 24 1 = some (1, 23)) ∧
  (tyOf Try.prog 8 25 = some (.pr (.sl (.sl .int)) (.sl (.pr .int .int)))) ∧
  (fits Try.prog 25 (.pr (.sl (.sl .int)) (.sl (.pr .int .int))) = true) ∧
  (szOf Try.prog 25 = some 2) ∧
  (elemOk Try.prog 25 (.pr (.sl (.sl .int)) (.sl (.pr .int .int)))) ∧
  (isAggB Try.prog 25 = some true) ∧
  (zAVs Try.prog 25 = some [.nilsl, .nilsl]) ∧
  (fieldOf Try.prog 25 0 = some (0, 22)) ∧
  (fieldOf Try.prog 25 1 = some (1, 23)) ∧
  (tyOf Try.prog 8 28 = some (.pr (.sl (.sl .int)) (.sl (.pr .int .int)))) ∧
  (fits Try.prog 28 (.pr (.sl (.sl .int)) (.sl (.pr .int .int))) = true) ∧
  (szOf Try.prog 28 = some 2) ∧
  (elemOk Try.prog 28 (.pr (.sl (.sl .int)) (.sl (.pr .int .int)))) ∧
  (isAggB Try.prog 28 = some true) ∧
  (zAVs Try.prog 28 = some [.nilsl, .nilsl]) ∧
  (fieldOf Try.prog 28 0 = some (0, 22)) ∧
  (fieldOf Try.prog 28 1 = some (1, 23)) ∧
  (tyOf Try.prog 8 32 = some (.sl .int)) ∧
  (fits Try.prog 32 (.sl .int) = true) ∧
  (szOf Try.prog 32 = some 1) ∧
  (elemOk Try.prog 32 (.sl .int)) ∧
  (isAggB Try.prog 32 = some false) ∧
  (zAVs Try.prog 32 = some [.nilsl]) ∧
  (slElem Try.prog 32 = some 3) ∧
  (tyOf Try.prog 8 67 = some (.pr .int .int)) ∧
  (fits Try.prog 67 (.pr .int .int) = true) ∧
  (szOf Try.prog 67 = some 2) ∧
  (elemOk Try.prog 67 (.pr .int .int)) ∧
  (isAggB Try.prog 67 = some true) ∧
  (zAVs Try.prog 67 = some [.int 0, .int 0]) ∧
  (arElem Try.prog 67 = some (2, 3)) ∧
  (Try.prog.underlying 80 = some (.int .u64)) ∧
  (Try.prog.underlying 92 = some (.int .u32)) ∧
  (Try.prog.underlying 93 = some (.int .u8)) ∧
  (Try.prog.underlying 94 = some (.int .u8)) ∧
  (Try.prog.underlying 97 = some (.int .i32)) ∧
  (Try.prog.underlying 98 = some (.int .i32)) :=
  ⟨ty2, fit2, sz2, ek2, ag2, za2, un2, ty3, fit3, sz3, ek3, ag3, za3, un3, ty4, fit4, sz4, ek4, ag4, za4, un4, un5, un6, ty9, fit9, sz9, ek9, ag9, za9, un9, ty10, fit10, sz10, ek10, ag10, za10, un10, ty11, fit11, sz11, ek11, ag11, za11, un11, un12, un21, ty22, fit22, sz22, ek22, ag22, za22, sl22, ty23, fit23, sz23, ek23, ag23, za23, sl23, ty24, fit24, sz24, ek24, ag24, za24, fd24_0, fd24_1, ty25, fit25, sz25, ek25, ag25, za25, fd25_0, fd25_1, ty28, fit28, sz28, ek28, ag28, za28, fd28_0, fd28_1, ty32, fit32, sz32, ek32, ag32, za32, sl32, ty67, fit67, sz67, ek67, ag67, za67, ar67, un80, un92, un93, un94, un97, un98⟩
theorem mixed : Try.prog.follows .mixedOrders = true := by kernel_rfl
end Go.Proofs.Ytpkdlgdjpoempaa.Abs
