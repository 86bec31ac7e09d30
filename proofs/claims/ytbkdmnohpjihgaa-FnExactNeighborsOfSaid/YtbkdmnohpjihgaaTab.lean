/- The table of types, as the rules ask of it. -/
import Derived.Test.YtbkdmnohpjihgaaAbs19
namespace Go.Proofs.Ytbkdmnohpjihgaa.Abs
theorem ty2 : tyOf Try.prog 8 2 = some .int := by kernel_rfl
theorem fit2 : fits Try.prog 2 .int = true := by kernel_rfl
theorem sz2 : szOf Try.prog 2 = some 1 := by kernel_rfl
theorem ek2 : elemOk Try.prog 2 .int := ⟨by kernel_rfl, by kernel_rfl⟩
theorem ag2 : isAggB Try.prog 2 = some false := by kernel_rfl
theorem za2 : zAVs Try.prog 2 = some [.int 0] := by kernel_rfl
theorem un2 : Try.prog.underlying 2 = some (.int .i64) := by kernel_rfl
theorem ty3 : tyOf Try.prog 8 3 = some .int := by kernel_rfl
theorem fit3 : fits Try.prog 3 .int = true := by kernel_rfl
theorem sz3 : szOf Try.prog 3 = some 1 := by kernel_rfl
theorem ek3 : elemOk Try.prog 3 .int := ⟨by kernel_rfl, by kernel_rfl⟩
theorem ag3 : isAggB Try.prog 3 = some false := by kernel_rfl
theorem za3 : zAVs Try.prog 3 = some [.int 0] := by kernel_rfl
theorem un3 : Try.prog.underlying 3 = some (.int .i64) := by kernel_rfl
theorem ty4 : tyOf Try.prog 8 4 = some .bool := by kernel_rfl
theorem fit4 : fits Try.prog 4 .bool = true := by kernel_rfl
theorem sz4 : szOf Try.prog 4 = some 1 := by kernel_rfl
theorem ek4 : elemOk Try.prog 4 .bool := ⟨by kernel_rfl, by kernel_rfl⟩
theorem ag4 : isAggB Try.prog 4 = some false := by kernel_rfl
theorem za4 : zAVs Try.prog 4 = some [.bool false] := by kernel_rfl
theorem un4 : Try.prog.underlying 4 = some .bool := by kernel_rfl
theorem un5 : Try.prog.underlying 5 = some (.int .u8) := by kernel_rfl
theorem un6 : Try.prog.underlying 6 = some (.int .u8) := by kernel_rfl
theorem ty9 : tyOf Try.prog 8 9 = some .str := by kernel_rfl
theorem fit9 : fits Try.prog 9 .str = true := by kernel_rfl
theorem sz9 : szOf Try.prog 9 = some 1 := by kernel_rfl
theorem ek9 : elemOk Try.prog 9 .str := ⟨by kernel_rfl, by kernel_rfl⟩
theorem ag9 : isAggB Try.prog 9 = some false := by kernel_rfl
theorem za9 : zAVs Try.prog 9 = some [.str ByteArray.empty] := by kernel_rfl
theorem un9 : Try.prog.underlying 9 = some .string := by kernel_rfl
theorem ty10 : tyOf Try.prog 8 10 = some .str := by kernel_rfl
theorem fit10 : fits Try.prog 10 .str = true := by kernel_rfl
theorem sz10 : szOf Try.prog 10 = some 1 := by kernel_rfl
theorem ek10 : elemOk Try.prog 10 .str := ⟨by kernel_rfl, by kernel_rfl⟩
theorem ag10 : isAggB Try.prog 10 = some false := by kernel_rfl
theorem za10 : zAVs Try.prog 10 = some [.str ByteArray.empty] := by kernel_rfl
theorem un10 : Try.prog.underlying 10 = some .string := by kernel_rfl
theorem ty11 : tyOf Try.prog 8 11 = some .str := by kernel_rfl
theorem fit11 : fits Try.prog 11 .str = true := by kernel_rfl
theorem sz11 : szOf Try.prog 11 = some 1 := by kernel_rfl
theorem ek11 : elemOk Try.prog 11 .str := ⟨by kernel_rfl, by kernel_rfl⟩
theorem ag11 : isAggB Try.prog 11 = some false := by kernel_rfl
theorem za11 : zAVs Try.prog 11 = some [.str ByteArray.empty] := by kernel_rfl
theorem un11 : Try.prog.underlying 11 = some .string := by kernel_rfl
theorem un12 : Try.prog.underlying 12 = some (.int .u64) := by kernel_rfl
theorem un21 : Try.prog.underlying 21 = some (.int .i32) := by kernel_rfl
theorem ty22 : tyOf Try.prog 8 22 = some (.sl (.pr .int .int)) := by kernel_rfl
theorem fit22 : fits Try.prog 22 (.sl (.pr .int .int)) = true := by kernel_rfl
theorem sz22 : szOf Try.prog 22 = some 1 := by kernel_rfl
theorem ek22 : elemOk Try.prog 22 (.sl (.pr .int .int)) := ⟨by kernel_rfl, by kernel_rfl⟩
theorem ag22 : isAggB Try.prog 22 = some false := by kernel_rfl
theorem za22 : zAVs Try.prog 22 = some [.nilsl] := by kernel_rfl
theorem sl22 : slElem Try.prog 22 = some 81 := by kernel_rfl
theorem ty23 : tyOf Try.prog 8 23 = some (.pr .int (.sl (.pr .int .int))) := by kernel_rfl
theorem fit23 : fits Try.prog 23 (.pr .int (.sl (.pr .int .int))) = true := by kernel_rfl
theorem sz23 : szOf Try.prog 23 = some 2 := by kernel_rfl
theorem ek23 : elemOk Try.prog 23 (.pr .int (.sl (.pr .int .int))) := ⟨by kernel_rfl, by kernel_rfl⟩
theorem ag23 : isAggB Try.prog 23 = some true := by kernel_rfl
theorem za23 : zAVs Try.prog 23 = some [.int 0, .nilsl] := by kernel_rfl
theorem fd23_0 : fieldOf Try.prog 23 0 = some (0, 3) := by kernel_rfl
theorem fd23_1 : fieldOf Try.prog 23 1 = some (1, 22) := by kernel_rfl
theorem ty24 : tyOf Try.prog 8 24 = some (.pr .int (.sl (.pr .int .int))) := by kernel_rfl
theorem fit24 : fits Try.prog 24 (.pr .int (.sl (.pr .int .int))) = true := by kernel_rfl
theorem sz24 : szOf Try.prog 24 = some 2 := by kernel_rfl
theorem ek24 : elemOk Try.prog 24 (.pr .int (.sl (.pr .int .int))) := ⟨by kernel_rfl, by kernel_rfl⟩
theorem ag24 : isAggB Try.prog 24 = some true := by kernel_rfl
theorem za24 : zAVs Try.prog 24 = some [.int 0, .nilsl] := by kernel_rfl
theorem fd24_0 : fieldOf Try.prog 24 0 = some (0, 3) := by kernel_rfl
theorem fd24_1 : fieldOf Try.prog 24 1 = some (1, 22) := by kernel_rfl
theorem ty26 : tyOf Try.prog 8 26 = some (.sl .int) := by kernel_rfl
theorem fit26 : fits Try.prog 26 (.sl .int) = true := by kernel_rfl
theorem sz26 : szOf Try.prog 26 = some 1 := by kernel_rfl
theorem ek26 : elemOk Try.prog 26 (.sl .int) := ⟨by kernel_rfl, by kernel_rfl⟩
theorem ag26 : isAggB Try.prog 26 = some false := by kernel_rfl
theorem za26 : zAVs Try.prog 26 = some [.nilsl] := by kernel_rfl
theorem sl26 : slElem Try.prog 26 = some 3 := by kernel_rfl
theorem ty29 : tyOf Try.prog 8 29 = some (.pr .int (.sl (.pr .int .int))) := by kernel_rfl
theorem fit29 : fits Try.prog 29 (.pr .int (.sl (.pr .int .int))) = true := by kernel_rfl
theorem sz29 : szOf Try.prog 29 = some 2 := by kernel_rfl
theorem ek29 : elemOk Try.prog 29 (.pr .int (.sl (.pr .int .int))) := ⟨by kernel_rfl, by kernel_rfl⟩
theorem ag29 : isAggB Try.prog 29 = some true := by kernel_rfl
theorem za29 : zAVs Try.prog 29 = some [.int 0, .nilsl] := by kernel_rfl
theorem fd29_0 : fieldOf Try.prog 29 0 = some (0, 3) := by kernel_rfl
theorem fd29_1 : fieldOf Try.prog 29 1 = some (1, 22) := by kernel_rfl
theorem ty36 : tyOf Try.prog 8 36 = some (.sl (.sl .int)) := by kernel_rfl
theorem fit36 : fits Try.prog 36 (.sl (.sl .int)) = true := by kernel_rfl
theorem sz36 : szOf Try.prog 36 = some 1 := by kernel_rfl
theorem ek36 : elemOk Try.prog 36 (.sl (.sl .int)) := ⟨by kernel_rfl, by kernel_rfl⟩
theorem ag36 : isAggB Try.prog 36 = some false := by kernel_rfl
theorem za36 : zAVs Try.prog 36 = some [.nilsl] := by kernel_rfl
theorem sl36 : slElem Try.prog 36 = some 26 := by kernel_rfl
theorem ty37 : tyOf Try.prog 8 37 = some (.pr (.sl (.sl .int)) (.sl (.pr .int .int))) := by kernel_rfl
theorem fit37 : fits Try.prog 37 (.pr (.sl (.sl .int)) (.sl (.pr .int .int))) = true := by kernel_rfl
theorem sz37 : szOf Try.prog 37 = some 2 := by kernel_rfl
theorem ek37 : elemOk Try.prog 37 (.pr (.sl (.sl .int)) (.sl (.pr .int .int))) := ⟨by kernel_rfl, by kernel_rfl⟩
theorem ag37 : isAggB Try.prog 37 = some true := by kernel_rfl
theorem za37 : zAVs Try.prog 37 = some [.nilsl, .nilsl] := by kernel_rfl
theorem fd37_0 : fieldOf Try.prog 37 0 = some (0, 36) := by kernel_rfl
theorem fd37_1 : fieldOf Try.prog 37 1 = some (1, 22) := by kernel_rfl
theorem ty38 : tyOf Try.prog 8 38 = some (.pr (.sl (.sl .int)) (.sl (.pr .int .int))) := by kernel_rfl
theorem fit38 : fits Try.prog 38 (.pr (.sl (.sl .int)) (.sl (.pr .int .int))) = true := by kernel_rfl
theorem sz38 : szOf Try.prog 38 = some 2 := by kernel_rfl
theorem ek38 : elemOk Try.prog 38 (.pr (.sl (.sl .int)) (.sl (.pr .int .int))) := ⟨by kernel_rfl, by kernel_rfl⟩
theorem ag38 : isAggB Try.prog 38 = some true := by kernel_rfl
theorem za38 : zAVs Try.prog 38 = some [.nilsl, .nilsl] := by kernel_rfl
theorem fd38_0 : fieldOf Try.prog 38 0 = some (0, 36) := by kernel_rfl
theorem fd38_1 : fieldOf Try.prog 38 1 = some (1, 22) := by kernel_rfl
theorem ty41 : tyOf Try.prog 8 41 = some (.pr (.sl (.sl .int)) (.sl (.pr .int .int))) := by kernel_rfl
theorem fit41 : fits Try.prog 41 (.pr (.sl (.sl .int)) (.sl (.pr .int .int))) = true := by kernel_rfl
theorem sz41 : szOf Try.prog 41 = some 2 := by kernel_rfl
theorem ek41 : elemOk Try.prog 41 (.pr (.sl (.sl .int)) (.sl (.pr .int .int))) := ⟨by kernel_rfl, by kernel_rfl⟩
theorem ag41 : isAggB Try.prog 41 = some true := by kernel_rfl
theorem za41 : zAVs Try.prog 41 = some [.nilsl, .nilsl] := by kernel_rfl
theorem fd41_0 : fieldOf Try.prog 41 0 = some (0, 36) := by kernel_rfl
theorem fd41_1 : fieldOf Try.prog 41 1 = some (1, 22) := by kernel_rfl
theorem ty81 : tyOf Try.prog 8 81 = some (.pr .int .int) := by kernel_rfl
theorem fit81 : fits Try.prog 81 (.pr .int .int) = true := by kernel_rfl
theorem sz81 : szOf Try.prog 81 = some 2 := by kernel_rfl
theorem ek81 : elemOk Try.prog 81 (.pr .int .int) := ⟨by kernel_rfl, by kernel_rfl⟩
theorem ag81 : isAggB Try.prog 81 = some true := by kernel_rfl
theorem za81 : zAVs Try.prog 81 = some [.int 0, .int 0] := by kernel_rfl
theorem ar81 : arElem Try.prog 81 = some (2, 3) := by kernel_rfl
theorem ty96 : tyOf Try.prog 8 96 = some (.sl .bool) := by kernel_rfl
theorem fit96 : fits Try.prog 96 (.sl .bool) = true := by kernel_rfl
theorem sz96 : szOf Try.prog 96 = some 1 := by kernel_rfl
theorem ek96 : elemOk Try.prog 96 (.sl .bool) := ⟨by kernel_rfl, by kernel_rfl⟩
theorem ag96 : isAggB Try.prog 96 = some false := by kernel_rfl
theorem za96 : zAVs Try.prog 96 = some [.nilsl] := by kernel_rfl
theorem sl96 : slElem Try.prog 96 = some 4 := by kernel_rfl
theorem un102 : Try.prog.underlying 102 = some (.int .u64) := by kernel_rfl
theorem ty109 : tyOf Try.prog 8 109 = some .int := by kernel_rfl
theorem fit109 : fits Try.prog 109 .int = true := by kernel_rfl
theorem sz109 : szOf Try.prog 109 = some 1 := by kernel_rfl
theorem ek109 : elemOk Try.prog 109 .int := ⟨by kernel_rfl, by kernel_rfl⟩
theorem ag109 : isAggB Try.prog 109 = some false := by kernel_rfl
theorem za109 : zAVs Try.prog 109 = some [.int 0] := by kernel_rfl
theorem un109 : Try.prog.underlying 109 = some (.int .i64) := by kernel_rfl
theorem un116 : Try.prog.underlying 116 = some (.int .u32) := by kernel_rfl
theorem un118 : Try.prog.underlying 118 = some (.int .u64) := by kernel_rfl
theorem un124 : Try.prog.underlying 124 = some (.int .u64) := by kernel_rfl
theorem un141 : Try.prog.underlying 141 = some (.int .u8) := by kernel_rfl
theorem un142 : Try.prog.underlying 142 = some (.int .u8) := by kernel_rfl
theorem un145 : Try.prog.underlying 145 = some (.int .i32) := by kernel_rfl
theorem un146 : Try.prog.underlying 146 = some (.int .i32) := by kernel_rfl
theorem tabs : (tyOf Try.prog 8 2 = some .int) ∧
  (fits Try.prog 2 .int = true) ∧
  (szOf Try.prog 2 = some 1) ∧
  (elemOk Try.prog 2 .int) ∧
  (isAggB Try.prog 2 = some false) ∧
  (zAVs Try.prog 2 = some [.int 0]) ∧
  (Try.prog.underlying 2 = some (.int .i64)) ∧
  (tyOf Try.prog 8 3 = some .int) ∧
  (fits Try.prog 3 .int = true) ∧
  (szOf Try.prog 3 = some 1) ∧
  (elemOk Try.prog 3 .int) ∧
  (isAggB Try.prog 3 = some false) ∧
  (zAVs Try.prog 3 = some [.int 0]) ∧
  (Try.prog.underlying 3 = some (.int .i64)) ∧
  (tyOf Try.prog 8 4 = some .bool) ∧
  (fits Try.prog 4 .bool = true) ∧
  (szOf Try.prog 4 = some 1) ∧
  (elemOk Try.prog 4 .bool) ∧
  (isAggB Try.prog 4 = some false) ∧
  (zAVs Try.prog 4 = some [.bool false]) ∧
  (Try.prog.underlying 4 = some .bool) ∧
  (Try.prog.underlying 5 = some (.int .u8)) ∧
  (Try.prog.underlying 6 = some (.int .u8)) ∧
  (tyOf Try.prog 8 9 = some .str) ∧
  (fits Try.prog 9 .str = true) ∧
  (szOf Try.prog 9 = some 1) ∧
  (elemOk Try.prog 9 .str) ∧
  (isAggB Try.prog 9 = some false) ∧
  (zAVs Try.prog 9 = some [.str ByteArray.empty]) ∧
  (Try.prog.underlying 9 = some .string) ∧
  (tyOf Try.prog 8 10 = some .str) ∧
  (fits Try.prog 10 .str = true) ∧
  (szOf Try.prog 10 = some 1) ∧
  (elemOk Try.prog 10 .str) ∧
  (isAggB Try.prog 10 = some false) ∧
  (zAVs Try.prog 10 = some [.str ByteArray.empty]) ∧
  (Try.prog.underlying 10 = some .string) ∧
  (tyOf Try.prog 8 11 = some .str) ∧
  (fits Try.prog 11 .str = true) ∧
  (szOf Try.prog 11 = some 1) ∧
  (elemOk Try.prog 11 .str) ∧
  (isAggB Try.prog 11 = some false) ∧
  (zAVs Try.prog 11 = some [.str ByteArray.empty]) ∧
  (Try.prog.underlying 11 = some .string) ∧
  (Try.prog.underlying 12 = some (.int .u64)) ∧
  (Try.prog.underlying 21 = some (.int .i32)) ∧
  (tyOf Try.prog 8 22 = some (.sl (.pr .int .int))) ∧
  (fits Try.prog 22 (.sl (.pr .int .int)) = true) ∧
  (szOf Try.prog 22 = some 1) ∧
  (elemOk Try.prog 22 (.sl (.pr .int .int))) ∧
  (isAggB Try.prog 22 = some false) ∧
  (zAVs Try.prog 22 = some [.nilsl]) ∧
  (slElem Try.prog 22 = some 81) ∧
  (tyOf Try.prog 8 23 = some (.pr .int (.sl (.pr .int .int)))) ∧
  (fits Try.prog 23 (.pr .int (.sl (.pr .int .int))) = true) ∧
  (szOf Try.prog 23 = some 2) ∧
  (elemOk Try.prog 23 (.pr .int (.sl (.pr .int .int)))) ∧
  (isAggB Try.prog 23 = some true) ∧
  (zAVs Try.prog 23 = some [.int 0, .nilsl]) ∧
  (fieldOf Try.prog 23 0 = some (0, 3)) ∧
  (fieldOf Try.prog 23 1 = some (1, 22)) ∧
  (tyOf Try.prog 8 24 = some (.pr .int (.sl (.pr .int .int)))) ∧
  (fits Try.prog 24 (.pr .int (.sl (.pr .int .int))) = true) ∧
  (szOf Try.prog 24 = some 2) ∧
  (elemOk Try.prog 24 (.pr .int (.sl (.pr .int .int)))) ∧
  (isAggB Try.prog 24 = some true) ∧
  (zAVs Try.prog 24 = some [.int 0, .nilsl]) ∧
  (fieldOf Try.prog 24 0 = some (0, 3)) ∧
  (fieldOf Try.prog 24 1 = some (1, 22)) ∧
  (tyOf Try.prog 8 26 = some (.sl .int)) ∧
  (fits Try.prog 26 (.sl .int) = true) ∧
  (szOf Try.prog 26 = some 1) ∧
  (elemOk Try.prog 26 (.sl .int)) ∧
  (isAggB Try.prog 26 = some false) ∧
  (zAVs Try.prog 26 = some [.nilsl]) ∧
  (slElem Try.prog 26 = some 3) ∧
  (tyOf Try.prog 8 29 = some (.pr .int (.sl (.pr .int .int)))) ∧
  (fits Try.prog 29 (.pr .int (.sl (.pr .int .int))) = true) ∧
  (szOf Try.prog 29 = some 2) ∧
  (elemOk Try.prog 29 (.pr .int (.sl (.pr .int .int)))) ∧
  (isAggB Try.prog 29 = some true) ∧
  (zAVs Try.prog 29 = some [.int 0, .nilsl]) ∧
  (fieldOf Try.prog 29 0 = some (0, 3)) ∧
  (fieldOf Try.prog 29 1 = some (1, 22)) ∧
  (tyOf Try.prog 8 36 = some (.sl (.sl .int))) ∧
  (fits Try.prog 36 (.sl (.sl .int)) = true) ∧
  (szOf Try.prog 36 = some 1) ∧
  (elemOk Try.prog 36 (.sl (.sl .int))) ∧
  (isAggB Try.prog 36 = some false) ∧
  (zAVs Try.prog 36 = some [.nilsl]) ∧
  (slElem Try.prog 36 = some 26) ∧
  (tyOf Try.prog 8 37 = some (.pr (.sl (.sl .int)) (.sl (.pr .int .int)))) ∧
  (fits Try.prog 37 (.pr (.sl (.sl .int)) (.sl (.pr .int .int))) = true) ∧
  (szOf Try.prog 37 = some 2) ∧
  (elemOk Try.prog 37 (.pr (.sl (.sl .int)) (.sl (.pr .int .int)))) ∧
  (isAggB Try.prog 37 = some true) ∧
  (zAVs Try.prog 37 = some [.nilsl, .nilsl]) ∧
  (fieldOf Try.prog 37 0 = some (0, 36)) ∧
  (fieldOf Try.prog 37 1 = some (1, 22)) ∧
  (tyOf Try.prog 8 38 = some (.pr (.sl (.sl .int)) (.sl (.pr .int .int)))) ∧
  (fits Try.prog 38 (.pr (.sl (.sl .int)) (.sl (.pr .int .int))) = true) ∧
  (szOf Try.prog 38 = some 2) ∧
  (elemOk Try.prog 38 (.pr (.sl (.sl .int)) (.sl (.pr .int .int)))) ∧
  (isAggB Try.prog 38 = some true) ∧
  (zAVs Try.prog 38 = some [.nilsl, .nilsl]) ∧
  (fieldOf Try.prog 38 0 = some (0, 36)) ∧
  (fieldOf Try.prog 38 1 = some (1, 22)) ∧
  (tyOf Try.prog 8 41 = some (.pr (.sl (.sl .int)) (.sl (.pr .int .int)))) ∧
  (fits Try.prog 41 (.pr (.sl (.sl .int)) (.sl (.pr .int .int))) = true) ∧
  (szOf Try.prog 41 = some 2) ∧
  (elemOk Try.prog 41 (.pr (.sl (.sl .int)) (.sl (.pr .int .int)))) ∧
  (isAggB Try.prog 41 = some true) ∧
  (zAVs Try.prog 41 = some [.nilsl, .nilsl]) ∧
  (fieldOf Try.prog 41 0 = some (0, 36)) ∧
  (fieldOf Try.prog 41 1 = some (1, 22)) ∧
  (tyOf Try.prog 8 81 = some (.pr .int .int)) ∧
  (fits Try.prog 81 (.pr .int .int) = true) ∧
  (szOf Try.prog 81 = some 2) ∧
  (elemOk Try.prog 81 (.pr .int .int)) ∧
  (isAggB Try.prog 81 = some true) ∧
  (zAVs Try.prog 81 = some [.int 0, .int 0]) ∧
  (arElem Try.prog 81 = some (2, 3)) ∧
  (tyOf Try.prog 8 96 = some (.sl .bool)) ∧
  (fits Try.prog 96 (.sl .bool) = true) ∧
  (szOf Try.prog 96 = some 1) ∧
  (elemOk Try.prog 96 (.sl .bool)) ∧
  (isAggB Try.prog 96 = some false) ∧
  (zAVs Try.prog 96 = some [.nilsl]) ∧
  (slElem Try.prog 96 = some 4) ∧
  (Try.prog.underlying 102 = some (.int .u64)) ∧
  (tyOf Try.prog 8 109 = some .int) ∧
  (fits Try.prog 109 .int = true) ∧
  (szOf Try.prog 109 = some 1) ∧
  (elemOk Try.prog 109 .int) ∧
  (isAggB Try.prog 109 = some false) ∧
  (zAVs Try.prog 109 = some [.int 0]) ∧
  (Try.prog.underlying 109 = some (.int .i64)) ∧
  (Try.prog.underlying 116 = some (.int .u32)) ∧
  (Try.prog.underlying 118 = some (.int .u64)) ∧
  (Try.prog.underlying 124 = some (.int .u64)) ∧
  (Try.prog.underlying 141 = some (.int .u8)) ∧
  (Try.prog.underlying 142 = some (.int .u8)) ∧
  (Try.prog.underlying 145 = some (.int .i32)) ∧
  (Try.prog.underlying 146 = some (.int .i32)) :=
  ⟨ty2, fit2, sz2, ek2, ag2, za2, un2, ty3, fit3, sz3, ek3, ag3, za3, un3, ty4, fit4, sz4, ek4, ag4, za4, un4, un5, un6, ty9, fit9, sz9, ek9, ag9, za9, un9, ty10, fit10, sz10, ek10, ag10, za10, un10, ty11, fit11, sz11, ek11, ag11, za11, un11, un12, un21, ty22, fit22, sz22, ek22, ag22, za22, sl22, ty23, fit23, sz23, ek23, ag23, za23, fd23_0, fd23_1, ty24, fit24, sz24, ek24, ag24, za24, fd24_0, fd24_1, ty26, fit26, sz26, ek26, ag26, za26, sl26, ty29, fit29, sz29, ek29, ag29, za29, fd29_0, fd29_1, ty36, fit36, sz36, ek36, ag36, za36, sl36, ty37, fit37, sz37, ek37, ag37, za37, fd37_0, fd37_1, ty38, fit38, sz38, ek38, ag38, za38, fd38_0, fd38_1, ty41, fit41, sz41, ek41, ag41, za41, fd41_0, fd41_1, ty81, fit81, sz81, ek81, ag81, za81, ar81, ty96, fit96, sz96, ek96, ag96, za96, sl96, un102, ty109, fit109, sz109, ek109, ag109, za109, un109, un116, un118, un124, un141, un142, un145, un146⟩
theorem mixed : Try.prog.follows .mixedOrders = true := by kernel_rfl
end Go.Proofs.Ytbkdmnohpjihgaa.Abs
