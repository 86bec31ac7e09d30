/- The table of types, as the rules ask of it. -/
import Derived.Test.YtllmaggpglmaeaaAbs18
namespace Go.Proofs.Ytllmaggpglmaeaa.Abs
theorem ty2 : tyOf Try.prog 8 2 = some .int := by kernel_rfl
theorem fit2 : fits Try.prog 2 .int = true := by kernel_rfl
theorem sz2 : szOf Try.prog 2 = some 1 := by kernel_rfl
theorem ek2 : elemOk Try.prog 2 .int := ⟨by kernel_rfl, by kernel_rfl⟩
theorem ag2 : isAggB Try.prog 2 = some false := by kernel_rfl
theorem za2 : zAVs Try.prog 2 = some [.int 0] := by kernel_rfl
theorem un2 : Try.prog.underlying 2 = some (.int .i64) := by kernel_rfl
theorem ty3 : tyOf Try.prog 8 3 = some .int := by kernel_rfl
theorem fit3 : fits Try.prog 3 .int = true := by kernel_rfl
theorem sz3 : szOf Try.prog 3 = some 1 := by kernel_rfl
theorem ek3 : elemOk Try.prog 3 .int := ⟨by kernel_rfl, by kernel_rfl⟩
theorem ag3 : isAggB Try.prog 3 = some false := by kernel_rfl
theorem za3 : zAVs Try.prog 3 = some [.int 0] := by kernel_rfl
theorem un3 : Try.prog.underlying 3 = some (.int .i64) := by kernel_rfl
theorem ty4 : tyOf Try.prog 8 4 = some .bool := by kernel_rfl
theorem fit4 : fits Try.prog 4 .bool = true := by kernel_rfl
theorem sz4 : szOf Try.prog 4 = some 1 := by kernel_rfl
theorem ek4 : elemOk Try.prog 4 .bool := ⟨by kernel_rfl, by kernel_rfl⟩
theorem ag4 : isAggB Try.prog 4 = some false := by kernel_rfl
theorem za4 : zAVs Try.prog 4 = some [.bool false] := by kernel_rfl
theorem un4 : Try.prog.underlying 4 = some .bool := by kernel_rfl
theorem un5 : Try.prog.underlying 5 = some (.int .u8) := by kernel_rfl
theorem un6 : Try.prog.underlying 6 = some (.int .u8) := by kernel_rfl
theorem ty9 : tyOf Try.prog 8 9 = some .str := by kernel_rfl
theorem fit9 : fits Try.prog 9 .str = true := by kernel_rfl
theorem sz9 : szOf Try.prog 9 = some 1 := by kernel_rfl
theorem ek9 : elemOk Try.prog 9 .str := ⟨by kernel_rfl, by kernel_rfl⟩
theorem ag9 : isAggB Try.prog 9 = some false := by kernel_rfl
theorem za9 : zAVs Try.prog 9 = some [.str ByteArray.empty] := by kernel_rfl
theorem un9 : Try.prog.underlying 9 = some .string := by kernel_rfl
theorem ty10 : tyOf Try.prog 8 10 = some .str := by kernel_rfl
theorem fit10 : fits Try.prog 10 .str = true := by kernel_rfl
theorem sz10 : szOf Try.prog 10 = some 1 := by kernel_rfl
theorem ek10 : elemOk Try.prog 10 .str := ⟨by kernel_rfl, by kernel_rfl⟩
theorem ag10 : isAggB Try.prog 10 = some false := by kernel_rfl
theorem za10 : zAVs Try.prog 10 = some [.str ByteArray.empty] := by kernel_rfl
theorem un10 : Try.prog.underlying 10 = some .string := by kernel_rfl
theorem ty11 : tyOf Try.prog 8 11 = some .str := by kernel_rfl
theorem fit11 : fits Try.prog 11 .str = true := by kernel_rfl
theorem sz11 : szOf Try.prog 11 = some 1 := by kernel_rfl
theorem ek11 : elemOk Try.prog 11 .str := ⟨by kernel_rfl, by kernel_rfl⟩
theorem ag11 : isAggB Try.prog 11 = some false := by kernel_rfl
theorem za11 : zAVs Try.prog 11 = some [.str ByteArray.empty] := by kernel_rfl
theorem un11 : Try.prog.underlying 11 = some .string := by kernel_rfl
theorem un12 : Try.prog.underlying 12 = some (.int .u64) := by kernel_rfl
theorem un21 : Try.prog.underlying 21 = some (.int .i32) := by kernel_rfl
theorem ty22 : tyOf Try.prog 8 22 = some (.sl (.pr .int .int)) := by kernel_rfl
theorem fit22 : fits Try.prog 22 (.sl (.pr .int .int)) = true := by kernel_rfl
theorem sz22 : szOf Try.prog 22 = some 1 := by kernel_rfl
theorem ek22 : elemOk Try.prog 22 (.sl (.pr .int .int)) := ⟨by kernel_rfl, by kernel_rfl⟩
theorem ag22 : isAggB Try.prog 22 = some false := by kernel_rfl
theorem za22 : zAVs Try.prog 22 = some [.nilsl] := by kernel_rfl
theorem sl22 : slElem Try.prog 22 = some 47 := by kernel_rfl
theorem ty23 : tyOf Try.prog 8 23 = some (.pr .int (.sl (.pr .int .int))) := by kernel_rfl
theorem fit23 : fits Try.prog 23 (.pr .int (.sl (.pr .int .int))) = true := by kernel_rfl
theorem sz23 : szOf Try.prog 23 = some 2 := by kernel_rfl
theorem ek23 : elemOk Try.prog 23 (.pr .int (.sl (.pr .int .int))) := ⟨by kernel_rfl, by kernel_rfl⟩
theorem ag23 : isAggB Try.prog 23 = some true := by kernel_rfl
theorem za23 : zAVs Try.prog 23 = some [.int 0, .nilsl] := by kernel_rfl
theorem fd23_0 : fieldOf Try.prog 23 0 = some (0, 3) := by kernel_rfl
theorem fd23_1 : fieldOf Try.prog 23 1 = some (1, 22) := by kernel_rfl
theorem ty24 : tyOf Try.prog 8 24 = some (.pr .int (.sl (.pr .int .int))) := by kernel_rfl
theorem fit24 : fits Try.prog 24 (.pr .int (.sl (.pr .int .int))) = true := by kernel_rfl
theorem sz24 : szOf Try.prog 24 = some 2 := by kernel_rfl
theorem ek24 : elemOk Try.prog 24 (.pr .int (.sl (.pr .int .int))) := ⟨by kernel_rfl, by kernel_rfl⟩
theorem ag24 : isAggB Try.prog 24 = some true := by kernel_rfl
theorem za24 : zAVs Try.prog 24 = some [.int 0, .nilsl] := by kernel_rfl
theorem fd24_0 : fieldOf Try.prog 24 0 = some (0, 3) := by kernel_rfl
theorem fd24_1 : fieldOf Try.prog 24 1 = some (1, 22) := by kernel_rfl
theorem ty27 : tyOf Try.prog 8 27 = some (.pr .int (.sl (.pr .int .int))) := by kernel_rfl
theorem fit27 : fits Try.prog 27 (.pr .int (.sl (.pr .int .int))) = true := by kernel_rfl
theorem sz27 : szOf Try.prog 27 = some 2 := by kernel_rfl
theorem ek27 : elemOk Try.prog 27 (.pr .int (.sl (.pr .int .int))) := ⟨by kernel_rfl, by kernel_rfl⟩
theorem ag27 : isAggB Try.prog 27 = some true := by kernel_rfl
theorem za27 : zAVs Try.prog 27 = some [.int 0, .nilsl] := by kernel_rfl
theorem fd27_0 : fieldOf Try.prog 27 0 = some (0, 3) := by kernel_rfl
theorem fd27_1 : fieldOf Try.prog 27 1 = some (1, 22) := by kernel_rfl
theorem ty31 : tyOf Try.prog 8 31 = some (.sl .int) := by kernel_rfl
theorem fit31 : fits Try.prog 31 (.sl .int) = true := by kernel_rfl
theorem sz31 : szOf Try.prog 31 = some 1 := by kernel_rfl
theorem ek31 : elemOk Try.prog 31 (.sl .int) := ⟨by kernel_rfl, by kernel_rfl⟩
theorem ag31 : isAggB Try.prog 31 = some false := by kernel_rfl
theorem za31 : zAVs Try.prog 31 = some [.nilsl] := by kernel_rfl
theorem sl31 : slElem Try.prog 31 = some 3 := by kernel_rfl
theorem ty45 : tyOf Try.prog 8 45 = some (.sl (.sl .int)) := by kernel_rfl
theorem fit45 : fits Try.prog 45 (.sl (.sl .int)) = true := by kernel_rfl
theorem sz45 : szOf Try.prog 45 = some 1 := by kernel_rfl
theorem ek45 : elemOk Try.prog 45 (.sl (.sl .int)) := ⟨by kernel_rfl, by kernel_rfl⟩
theorem ag45 : isAggB Try.prog 45 = some false := by kernel_rfl
theorem za45 : zAVs Try.prog 45 = some [.nilsl] := by kernel_rfl
theorem sl45 : slElem Try.prog 45 = some 31 := by kernel_rfl
theorem ty47 : tyOf Try.prog 8 47 = some (.pr .int .int) := by kernel_rfl
theorem fit47 : fits Try.prog 47 (.pr .int .int) = true := by kernel_rfl
theorem sz47 : szOf Try.prog 47 = some 2 := by kernel_rfl
theorem ek47 : elemOk Try.prog 47 (.pr .int .int) := ⟨by kernel_rfl, by kernel_rfl⟩
theorem ag47 : isAggB Try.prog 47 = some true := by kernel_rfl
theorem za47 : zAVs Try.prog 47 = some [.int 0, .int 0] := by kernel_rfl
theorem ar47 : arElem Try.prog 47 = some (2, 3) := by kernel_rfl
theorem un62 : Try.prog.underlying 62 = some (.int .u32) := by kernel_rfl
theorem un63 : Try.prog.underlying 63 = some (.int .u8) := by kernel_rfl
theorem un64 : Try.prog.underlying 64 = some (.int .u8) := by kernel_rfl
theorem un67 : Try.prog.underlying 67 = some (.int .i32) := by kernel_rfl
theorem un68 : Try.prog.underlying 68 = some (.int .i32) := by kernel_rfl
theorem mixed : Try.prog.follows .mixedOrders = true := by kernel_rfl
end Go.Proofs.Ytllmaggpglmaeaa.Abs
