/- The types of this program, as a table. -/
import Derived.Test.YtbkdmnohpjihgaaMs
namespace Go.Proofs.Ytbkdmnohpjihgaa.M
open Go.RowKit Abs
set_option linter.unusedVariables false
def tree : TT :=
  .node 73 ⟨.other, 1, false, none⟩
  (.node 39 ⟨.other, 1, false, none⟩
  (.node 23 ⟨.struct [(0, 3), (1, 22)], 2, true, some (.pr .int (.sl (.pr .int .int)))⟩
  (.node 10 ⟨.string, 1, false, some .str⟩
  (.node 4 ⟨.bool, 1, false, some .bool⟩
  (.node 2 ⟨.int .i64, 1, false, some .int⟩
  (.node 1 ⟨.other, 1, false, none⟩
  (.leaf)
  (.leaf))
  (.node 3 ⟨.int .i64, 1, false, some .int⟩
  (.leaf)
  (.leaf)))
  (.node 6 ⟨.int .u8, 1, false, none⟩
  (.node 5 ⟨.int .u8, 1, false, none⟩
  (.leaf)
  (.leaf))
  (.node 9 ⟨.string, 1, false, some .str⟩
  (.leaf)
  (.leaf))))
  (.node 16 ⟨.other, 1, false, none⟩
  (.node 12 ⟨.int .u64, 1, false, none⟩
  (.node 11 ⟨.string, 1, false, some .str⟩
  (.leaf)
  (.leaf))
  (.node 15 ⟨.other, 1, false, none⟩
  (.leaf)
  (.leaf)))
  (.node 21 ⟨.int .i32, 1, false, none⟩
  (.node 17 ⟨.other, 1, false, none⟩
  (.leaf)
  (.leaf))
  (.node 22 ⟨.slice 81, 1, false, some (.sl (.pr .int .int))⟩
  (.leaf)
  (.leaf)))))
  (.node 32 ⟨.other, 1, false, none⟩
  (.node 28 ⟨.other, 1, false, none⟩
  (.node 25 ⟨.other, 1, false, none⟩
  (.node 24 ⟨.struct [(0, 3), (1, 22)], 2, true, some (.pr .int (.sl (.pr .int .int)))⟩
  (.leaf)
  (.leaf))
  (.node 26 ⟨.slice 3, 1, false, some (.sl .int)⟩
  (.leaf)
  (.leaf)))
  (.node 30 ⟨.other, 1, false, none⟩
  (.node 29 ⟨.struct [(0, 3), (1, 22)], 2, true, some (.pr .int (.sl (.pr .int .int)))⟩
  (.leaf)
  (.leaf))
  (.node 31 ⟨.other, 1, false, none⟩
  (.leaf)
  (.leaf))))
  (.node 36 ⟨.slice 26, 1, false, some (.sl (.sl .int))⟩
  (.node 34 ⟨.other, 1, false, none⟩
  (.node 33 ⟨.other, 1, false, none⟩
  (.leaf)
  (.leaf))
  (.node 35 ⟨.other, 1, false, none⟩
  (.leaf)
  (.leaf)))
  (.node 38 ⟨.struct [(0, 36), (1, 22)], 2, true, some (.pr (.sl (.sl .int)) (.sl (.pr .int .int)))⟩
  (.node 37 ⟨.struct [(0, 36), (1, 22)], 2, true, some (.pr (.sl (.sl .int)) (.sl (.pr .int .int)))⟩
  (.leaf)
  (.leaf))
  (.leaf)))))
  (.node 58 ⟨.other, 1, false, none⟩
  (.node 47 ⟨.other, 1, false, none⟩
  (.node 43 ⟨.other, 1, false, none⟩
  (.node 41 ⟨.struct [(0, 36), (1, 22)], 2, true, some (.pr (.sl (.sl .int)) (.sl (.pr .int .int)))⟩
  (.node 40 ⟨.other, 1, false, none⟩
  (.leaf)
  (.leaf))
  (.node 42 ⟨.other, 1, false, none⟩
  (.leaf)
  (.leaf)))
  (.node 45 ⟨.other, 1, false, none⟩
  (.node 44 ⟨.other, 1, false, none⟩
  (.leaf)
  (.leaf))
  (.node 46 ⟨.other, 1, false, none⟩
  (.leaf)
  (.leaf))))
  (.node 52 ⟨.other, 1, false, none⟩
  (.node 49 ⟨.other, 1, false, none⟩
  (.node 48 ⟨.other, 1, false, none⟩
  (.leaf)
  (.leaf))
  (.node 51 ⟨.other, 1, false, none⟩
  (.leaf)
  (.leaf)))
  (.node 55 ⟨.other, 1, false, none⟩
  (.node 53 ⟨.other, 1, false, none⟩
  (.leaf)
  (.leaf))
  (.node 56 ⟨.other, 1, false, none⟩
  (.leaf)
  (.leaf)))))
  (.node 66 ⟨.other, 1, false, none⟩
  (.node 62 ⟨.other, 1, false, none⟩
  (.node 60 ⟨.other, 1, false, none⟩
  (.node 59 ⟨.other, 1, false, none⟩
  (.leaf)
  (.leaf))
  (.node 61 ⟨.other, 1, false, none⟩
  (.leaf)
  (.leaf)))
  (.node 64 ⟨.other, 1, false, none⟩
  (.node 63 ⟨.other, 1, false, none⟩
  (.leaf)
  (.leaf))
  (.node 65 ⟨.other, 1, false, none⟩
  (.leaf)
  (.leaf))))
  (.node 70 ⟨.other, 1, false, none⟩
  (.node 68 ⟨.other, 1, false, none⟩
  (.node 67 ⟨.other, 1, false, none⟩
  (.leaf)
  (.leaf))
  (.node 69 ⟨.other, 1, false, none⟩
  (.leaf)
  (.leaf)))
  (.node 72 ⟨.other, 1, false, none⟩
  (.node 71 ⟨.other, 1, false, none⟩
  (.leaf)
  (.leaf))
  (.leaf))))))
  (.node 107 ⟨.other, 1, false, none⟩
  (.node 91 ⟨.other, 1, false, none⟩
  (.node 82 ⟨.other, 1, false, none⟩
  (.node 78 ⟨.other, 1, false, none⟩
  (.node 76 ⟨.other, 1, false, none⟩
  (.node 75 ⟨.other, 1, false, none⟩
  (.leaf)
  (.leaf))
  (.node 77 ⟨.other, 1, false, none⟩
  (.leaf)
  (.leaf)))
  (.node 80 ⟨.other, 1, false, none⟩
  (.node 79 ⟨.other, 1, false, none⟩
  (.leaf)
  (.leaf))
  (.node 81 ⟨.array 2 3, 2, true, some (.pr .int .int)⟩
  (.leaf)
  (.leaf))))
  (.node 86 ⟨.other, 1, false, none⟩
  (.node 84 ⟨.other, 1, false, none⟩
  (.node 83 ⟨.other, 1, false, none⟩
  (.leaf)
  (.leaf))
  (.node 85 ⟨.other, 1, false, none⟩
  (.leaf)
  (.leaf)))
  (.node 88 ⟨.other, 1, false, none⟩
  (.node 87 ⟨.other, 1, false, none⟩
  (.leaf)
  (.leaf))
  (.node 89 ⟨.other, 1, false, none⟩
  (.leaf)
  (.leaf)))))
  (.node 99 ⟨.other, 1, false, none⟩
  (.node 95 ⟨.other, 1, false, none⟩
  (.node 93 ⟨.other, 1, false, none⟩
  (.node 92 ⟨.other, 1, false, none⟩
  (.leaf)
  (.leaf))
  (.node 94 ⟨.other, 1, false, none⟩
  (.leaf)
  (.leaf)))
  (.node 97 ⟨.other, 1, false, none⟩
  (.node 96 ⟨.slice 4, 1, false, some (.sl .bool)⟩
  (.leaf)
  (.leaf))
  (.node 98 ⟨.other, 1, false, none⟩
  (.leaf)
  (.leaf))))
  (.node 103 ⟨.other, 1, false, none⟩
  (.node 101 ⟨.other, 1, false, none⟩
  (.node 100 ⟨.other, 1, false, none⟩
  (.leaf)
  (.leaf))
  (.node 102 ⟨.int .u64, 1, false, none⟩
  (.leaf)
  (.leaf)))
  (.node 106 ⟨.other, 1, false, none⟩
  (.node 105 ⟨.other, 1, false, none⟩
  (.leaf)
  (.leaf))
  (.leaf)))))
  (.node 126 ⟨.other, 1, false, none⟩
  (.node 116 ⟨.int .u32, 1, false, none⟩
  (.node 112 ⟨.other, 1, false, none⟩
  (.node 109 ⟨.int .i64, 1, false, some .int⟩
  (.node 108 ⟨.other, 1, false, none⟩
  (.leaf)
  (.leaf))
  (.node 111 ⟨.other, 1, false, none⟩
  (.leaf)
  (.leaf)))
  (.node 114 ⟨.other, 1, false, none⟩
  (.node 113 ⟨.other, 1, false, none⟩
  (.leaf)
  (.leaf))
  (.node 115 ⟨.other, 1, false, none⟩
  (.leaf)
  (.leaf))))
  (.node 122 ⟨.other, 1, false, none⟩
  (.node 118 ⟨.int .u64, 1, false, none⟩
  (.node 117 ⟨.other, 1, false, none⟩
  (.leaf)
  (.leaf))
  (.node 120 ⟨.other, 1, false, none⟩
  (.leaf)
  (.leaf)))
  (.node 124 ⟨.int .u64, 1, false, none⟩
  (.node 123 ⟨.other, 1, false, none⟩
  (.leaf)
  (.leaf))
  (.node 125 ⟨.other, 1, false, none⟩
  (.leaf)
  (.leaf)))))
  (.node 140 ⟨.other, 1, false, none⟩
  (.node 130 ⟨.other, 1, false, none⟩
  (.node 128 ⟨.other, 1, false, none⟩
  (.node 127 ⟨.other, 1, false, none⟩
  (.leaf)
  (.leaf))
  (.node 129 ⟨.other, 1, false, none⟩
  (.leaf)
  (.leaf)))
  (.node 133 ⟨.other, 1, false, none⟩
  (.node 131 ⟨.other, 1, false, none⟩
  (.leaf)
  (.leaf))
  (.node 134 ⟨.other, 1, false, none⟩
  (.leaf)
  (.leaf))))
  (.node 144 ⟨.other, 1, false, none⟩
  (.node 142 ⟨.int .u8, 1, false, none⟩
  (.node 141 ⟨.int .u8, 1, false, none⟩
  (.leaf)
  (.leaf))
  (.node 143 ⟨.other, 1, false, none⟩
  (.leaf)
  (.leaf)))
  (.node 146 ⟨.int .i32, 1, false, none⟩
  (.node 145 ⟨.int .i32, 1, false, none⟩
  (.leaf)
  (.leaf))
  (.leaf))))))
def tab (t : TypeId) : TI :=
  if t < 73 then (if t < 39 then (if t < 23 then (if t < 10 then (if t < 4 then (if t < 2 then (if t < 1 then (⟨.other, 0, false, none⟩) else if t = 1 then ⟨.other, 1, false, none⟩ else (⟨.other, 0, false, none⟩)) else if t = 2 then ⟨.int .i64, 1, false, some .int⟩ else (if t < 3 then (⟨.other, 0, false, none⟩) else if t = 3 then ⟨.int .i64, 1, false, some .int⟩ else (⟨.other, 0, false, none⟩))) else if t = 4 then ⟨.bool, 1, false, some .bool⟩ else (if t < 6 then (if t < 5 then (⟨.other, 0, false, none⟩) else if t = 5 then ⟨.int .u8, 1, false, none⟩ else (⟨.other, 0, false, none⟩)) else if t = 6 then ⟨.int .u8, 1, false, none⟩ else (if t < 9 then (⟨.other, 0, false, none⟩) else if t = 9 then ⟨.string, 1, false, some .str⟩ else (⟨.other, 0, false, none⟩)))) else if t = 10 then ⟨.string, 1, false, some .str⟩ else (if t < 16 then (if t < 12 then (if t < 11 then (⟨.other, 0, false, none⟩) else if t = 11 then ⟨.string, 1, false, some .str⟩ else (⟨.other, 0, false, none⟩)) else if t = 12 then ⟨.int .u64, 1, false, none⟩ else (if t < 15 then (⟨.other, 0, false, none⟩) else if t = 15 then ⟨.other, 1, false, none⟩ else (⟨.other, 0, false, none⟩))) else if t = 16 then ⟨.other, 1, false, none⟩ else (if t < 21 then (if t < 17 then (⟨.other, 0, false, none⟩) else if t = 17 then ⟨.other, 1, false, none⟩ else (⟨.other, 0, false, none⟩)) else if t = 21 then ⟨.int .i32, 1, false, none⟩ else (if t < 22 then (⟨.other, 0, false, none⟩) else if t = 22 then ⟨.slice 81, 1, false, some (.sl (.pr .int .int))⟩ else (⟨.other, 0, false, none⟩))))) else if t = 23 then ⟨.struct [(0, 3), (1, 22)], 2, true, some (.pr .int (.sl (.pr .int .int)))⟩ else (if t < 32 then (if t < 28 then (if t < 25 then (if t < 24 then (⟨.other, 0, false, none⟩) else if t = 24 then ⟨.struct [(0, 3), (1, 22)], 2, true, some (.pr .int (.sl (.pr .int .int)))⟩ else (⟨.other, 0, false, none⟩)) else if t = 25 then ⟨.other, 1, false, none⟩ else (if t < 26 then (⟨.other, 0, false, none⟩) else if t = 26 then ⟨.slice 3, 1, false, some (.sl .int)⟩ else (⟨.other, 0, false, none⟩))) else if t = 28 then ⟨.other, 1, false, none⟩ else (if t < 30 then (if t < 29 then (⟨.other, 0, false, none⟩) else if t = 29 then ⟨.struct [(0, 3), (1, 22)], 2, true, some (.pr .int (.sl (.pr .int .int)))⟩ else (⟨.other, 0, false, none⟩)) else if t = 30 then ⟨.other, 1, false, none⟩ else (if t < 31 then (⟨.other, 0, false, none⟩) else if t = 31 then ⟨.other, 1, false, none⟩ else (⟨.other, 0, false, none⟩)))) else if t = 32 then ⟨.other, 1, false, none⟩ else (if t < 36 then (if t < 34 then (if t < 33 then (⟨.other, 0, false, none⟩) else if t = 33 then ⟨.other, 1, false, none⟩ else (⟨.other, 0, false, none⟩)) else if t = 34 then ⟨.other, 1, false, none⟩ else (if t < 35 then (⟨.other, 0, false, none⟩) else if t = 35 then ⟨.other, 1, false, none⟩ else (⟨.other, 0, false, none⟩))) else if t = 36 then ⟨.slice 26, 1, false, some (.sl (.sl .int))⟩ else (if t < 38 then (if t < 37 then (⟨.other, 0, false, none⟩) else if t = 37 then ⟨.struct [(0, 36), (1, 22)], 2, true, some (.pr (.sl (.sl .int)) (.sl (.pr .int .int)))⟩ else (⟨.other, 0, false, none⟩)) else if t = 38 then ⟨.struct [(0, 36), (1, 22)], 2, true, some (.pr (.sl (.sl .int)) (.sl (.pr .int .int)))⟩ else (⟨.other, 0, false, none⟩))))) else if t = 39 then ⟨.other, 1, false, none⟩ else (if t < 58 then (if t < 47 then (if t < 43 then (if t < 41 then (if t < 40 then (⟨.other, 0, false, none⟩) else if t = 40 then ⟨.other, 1, false, none⟩ else (⟨.other, 0, false, none⟩)) else if t = 41 then ⟨.struct [(0, 36), (1, 22)], 2, true, some (.pr (.sl (.sl .int)) (.sl (.pr .int .int)))⟩ else (if t < 42 then (⟨.other, 0, false, none⟩) else if t = 42 then ⟨.other, 1, false, none⟩ else (⟨.other, 0, false, none⟩))) else if t = 43 then ⟨.other, 1, false, none⟩ else (if t < 45 then (if t < 44 then (⟨.other, 0, false, none⟩) else if t = 44 then ⟨.other, 1, false, none⟩ else (⟨.other, 0, false, none⟩)) else if t = 45 then ⟨.other, 1, false, none⟩ else (if t < 46 then (⟨.other, 0, false, none⟩) else if t = 46 then ⟨.other, 1, false, none⟩ else (⟨.other, 0, false, none⟩)))) else if t = 47 then ⟨.other, 1, false, none⟩ else (if t < 52 then (if t < 49 then (if t < 48 then (⟨.other, 0, false, none⟩) else if t = 48 then ⟨.other, 1, false, none⟩ else (⟨.other, 0, false, none⟩)) else if t = 49 then ⟨.other, 1, false, none⟩ else (if t < 51 then (⟨.other, 0, false, none⟩) else if t = 51 then ⟨.other, 1, false, none⟩ else (⟨.other, 0, false, none⟩))) else if t = 52 then ⟨.other, 1, false, none⟩ else (if t < 55 then (if t < 53 then (⟨.other, 0, false, none⟩) else if t = 53 then ⟨.other, 1, false, none⟩ else (⟨.other, 0, false, none⟩)) else if t = 55 then ⟨.other, 1, false, none⟩ else (if t < 56 then (⟨.other, 0, false, none⟩) else if t = 56 then ⟨.other, 1, false, none⟩ else (⟨.other, 0, false, none⟩))))) else if t = 58 then ⟨.other, 1, false, none⟩ else (if t < 66 then (if t < 62 then (if t < 60 then (if t < 59 then (⟨.other, 0, false, none⟩) else if t = 59 then ⟨.other, 1, false, none⟩ else (⟨.other, 0, false, none⟩)) else if t = 60 then ⟨.other, 1, false, none⟩ else (if t < 61 then (⟨.other, 0, false, none⟩) else if t = 61 then ⟨.other, 1, false, none⟩ else (⟨.other, 0, false, none⟩))) else if t = 62 then ⟨.other, 1, false, none⟩ else (if t < 64 then (if t < 63 then (⟨.other, 0, false, none⟩) else if t = 63 then ⟨.other, 1, false, none⟩ else (⟨.other, 0, false, none⟩)) else if t = 64 then ⟨.other, 1, false, none⟩ else (if t < 65 then (⟨.other, 0, false, none⟩) else if t = 65 then ⟨.other, 1, false, none⟩ else (⟨.other, 0, false, none⟩)))) else if t = 66 then ⟨.other, 1, false, none⟩ else (if t < 70 then (if t < 68 then (if t < 67 then (⟨.other, 0, false, none⟩) else if t = 67 then ⟨.other, 1, false, none⟩ else (⟨.other, 0, false, none⟩)) else if t = 68 then ⟨.other, 1, false, none⟩ else (if t < 69 then (⟨.other, 0, false, none⟩) else if t = 69 then ⟨.other, 1, false, none⟩ else (⟨.other, 0, false, none⟩))) else if t = 70 then ⟨.other, 1, false, none⟩ else (if t < 72 then (if t < 71 then (⟨.other, 0, false, none⟩) else if t = 71 then ⟨.other, 1, false, none⟩ else (⟨.other, 0, false, none⟩)) else if t = 72 then ⟨.other, 1, false, none⟩ else (⟨.other, 0, false, none⟩)))))) else if t = 73 then ⟨.other, 1, false, none⟩ else (if t < 107 then (if t < 91 then (if t < 82 then (if t < 78 then (if t < 76 then (if t < 75 then (⟨.other, 0, false, none⟩) else if t = 75 then ⟨.other, 1, false, none⟩ else (⟨.other, 0, false, none⟩)) else if t = 76 then ⟨.other, 1, false, none⟩ else (if t < 77 then (⟨.other, 0, false, none⟩) else if t = 77 then ⟨.other, 1, false, none⟩ else (⟨.other, 0, false, none⟩))) else if t = 78 then ⟨.other, 1, false, none⟩ else (if t < 80 then (if t < 79 then (⟨.other, 0, false, none⟩) else if t = 79 then ⟨.other, 1, false, none⟩ else (⟨.other, 0, false, none⟩)) else if t = 80 then ⟨.other, 1, false, none⟩ else (if t < 81 then (⟨.other, 0, false, none⟩) else if t = 81 then ⟨.array 2 3, 2, true, some (.pr .int .int)⟩ else (⟨.other, 0, false, none⟩)))) else if t = 82 then ⟨.other, 1, false, none⟩ else (if t < 86 then (if t < 84 then (if t < 83 then (⟨.other, 0, false, none⟩) else if t = 83 then ⟨.other, 1, false, none⟩ else (⟨.other, 0, false, none⟩)) else if t = 84 then ⟨.other, 1, false, none⟩ else (if t < 85 then (⟨.other, 0, false, none⟩) else if t = 85 then ⟨.other, 1, false, none⟩ else (⟨.other, 0, false, none⟩))) else if t = 86 then ⟨.other, 1, false, none⟩ else (if t < 88 then (if t < 87 then (⟨.other, 0, false, none⟩) else if t = 87 then ⟨.other, 1, false, none⟩ else (⟨.other, 0, false, none⟩)) else if t = 88 then ⟨.other, 1, false, none⟩ else (if t < 89 then (⟨.other, 0, false, none⟩) else if t = 89 then ⟨.other, 1, false, none⟩ else (⟨.other, 0, false, none⟩))))) else if t = 91 then ⟨.other, 1, false, none⟩ else (if t < 99 then (if t < 95 then (if t < 93 then (if t < 92 then (⟨.other, 0, false, none⟩) else if t = 92 then ⟨.other, 1, false, none⟩ else (⟨.other, 0, false, none⟩)) else if t = 93 then ⟨.other, 1, false, none⟩ else (if t < 94 then (⟨.other, 0, false, none⟩) else if t = 94 then ⟨.other, 1, false, none⟩ else (⟨.other, 0, false, none⟩))) else if t = 95 then ⟨.other, 1, false, none⟩ else (if t < 97 then (if t < 96 then (⟨.other, 0, false, none⟩) else if t = 96 then ⟨.slice 4, 1, false, some (.sl .bool)⟩ else (⟨.other, 0, false, none⟩)) else if t = 97 then ⟨.other, 1, false, none⟩ else (if t < 98 then (⟨.other, 0, false, none⟩) else if t = 98 then ⟨.other, 1, false, none⟩ else (⟨.other, 0, false, none⟩)))) else if t = 99 then ⟨.other, 1, false, none⟩ else (if t < 103 then (if t < 101 then (if t < 100 then (⟨.other, 0, false, none⟩) else if t = 100 then ⟨.other, 1, false, none⟩ else (⟨.other, 0, false, none⟩)) else if t = 101 then ⟨.other, 1, false, none⟩ else (if t < 102 then (⟨.other, 0, false, none⟩) else if t = 102 then ⟨.int .u64, 1, false, none⟩ else (⟨.other, 0, false, none⟩))) else if t = 103 then ⟨.other, 1, false, none⟩ else (if t < 106 then (if t < 105 then (⟨.other, 0, false, none⟩) else if t = 105 then ⟨.other, 1, false, none⟩ else (⟨.other, 0, false, none⟩)) else if t = 106 then ⟨.other, 1, false, none⟩ else (⟨.other, 0, false, none⟩))))) else if t = 107 then ⟨.other, 1, false, none⟩ else (if t < 126 then (if t < 116 then (if t < 112 then (if t < 109 then (if t < 108 then (⟨.other, 0, false, none⟩) else if t = 108 then ⟨.other, 1, false, none⟩ else (⟨.other, 0, false, none⟩)) else if t = 109 then ⟨.int .i64, 1, false, some .int⟩ else (if t < 111 then (⟨.other, 0, false, none⟩) else if t = 111 then ⟨.other, 1, false, none⟩ else (⟨.other, 0, false, none⟩))) else if t = 112 then ⟨.other, 1, false, none⟩ else (if t < 114 then (if t < 113 then (⟨.other, 0, false, none⟩) else if t = 113 then ⟨.other, 1, false, none⟩ else (⟨.other, 0, false, none⟩)) else if t = 114 then ⟨.other, 1, false, none⟩ else (if t < 115 then (⟨.other, 0, false, none⟩) else if t = 115 then ⟨.other, 1, false, none⟩ else (⟨.other, 0, false, none⟩)))) else if t = 116 then ⟨.int .u32, 1, false, none⟩ else (if t < 122 then (if t < 118 then (if t < 117 then (⟨.other, 0, false, none⟩) else if t = 117 then ⟨.other, 1, false, none⟩ else (⟨.other, 0, false, none⟩)) else if t = 118 then ⟨.int .u64, 1, false, none⟩ else (if t < 120 then (⟨.other, 0, false, none⟩) else if t = 120 then ⟨.other, 1, false, none⟩ else (⟨.other, 0, false, none⟩))) else if t = 122 then ⟨.other, 1, false, none⟩ else (if t < 124 then (if t < 123 then (⟨.other, 0, false, none⟩) else if t = 123 then ⟨.other, 1, false, none⟩ else (⟨.other, 0, false, none⟩)) else if t = 124 then ⟨.int .u64, 1, false, none⟩ else (if t < 125 then (⟨.other, 0, false, none⟩) else if t = 125 then ⟨.other, 1, false, none⟩ else (⟨.other, 0, false, none⟩))))) else if t = 126 then ⟨.other, 1, false, none⟩ else (if t < 140 then (if t < 130 then (if t < 128 then (if t < 127 then (⟨.other, 0, false, none⟩) else if t = 127 then ⟨.other, 1, false, none⟩ else (⟨.other, 0, false, none⟩)) else if t = 128 then ⟨.other, 1, false, none⟩ else (if t < 129 then (⟨.other, 0, false, none⟩) else if t = 129 then ⟨.other, 1, false, none⟩ else (⟨.other, 0, false, none⟩))) else if t = 130 then ⟨.other, 1, false, none⟩ else (if t < 133 then (if t < 131 then (⟨.other, 0, false, none⟩) else if t = 131 then ⟨.other, 1, false, none⟩ else (⟨.other, 0, false, none⟩)) else if t = 133 then ⟨.other, 1, false, none⟩ else (if t < 134 then (⟨.other, 0, false, none⟩) else if t = 134 then ⟨.other, 1, false, none⟩ else (⟨.other, 0, false, none⟩)))) else if t = 140 then ⟨.other, 1, false, none⟩ else (if t < 144 then (if t < 142 then (if t < 141 then (⟨.other, 0, false, none⟩) else if t = 141 then ⟨.int .u8, 1, false, none⟩ else (⟨.other, 0, false, none⟩)) else if t = 142 then ⟨.int .u8, 1, false, none⟩ else (if t < 143 then (⟨.other, 0, false, none⟩) else if t = 143 then ⟨.other, 1, false, none⟩ else (⟨.other, 0, false, none⟩))) else if t = 144 then ⟨.other, 1, false, none⟩ else (if t < 146 then (if t < 145 then (⟨.other, 0, false, none⟩) else if t = 145 then ⟨.int .i32, 1, false, none⟩ else (⟨.other, 0, false, none⟩)) else if t = 146 then ⟨.int .i32, 1, false, none⟩ else (⟨.other, 0, false, none⟩))))))
theorem tab_eq : tab = tlt tree := by funext t; rfl
theorem tabOk : TOk Try.prog tab := by rw [tab_eq]; exact tab_ok (by kernel_rfl)
theorem mixed : Try.prog.follows .mixedOrders = true := by kernel_rfl
theorem fnS {f : FuncId} {fn : Func} {c : Code} {args : List AV} {pre : Hp} {res : List AV} {post : Hp} (ρ : List Nat) (ts : List Tmp)
    (hf : Try.prog.funcs[f]? = some fn) (hb : fn.body = some c) (hname : (fn.name != "runtime.NumGoroutine") = true) (hres : fn.results = (ts.map .tmp).toArray) (hl3 : ts.length ≤ 3) (hdr : drawB c = true) (hok : okB pre.length ρ res post = true) (hnt : args.length ≤ fn.ntmps)
    (h : vc (fun _ => Try.prog) (fun _ => tab) c (endP pre.length ρ ts res post) ⟨args ++ List.replicate (fn.ntmps - args.length) .undef, pre, pre.length⟩) : Spec2 Try.prog f args pre res post :=
  Spec2.of (P := fun _ => Try.prog) (T := fun _ => tab) tabOk mixed ρ ts hf hb hname hres hl3 hdr hok hnt h
theorem vcMono {P : Unit → Program} {T : Unit → Tab} {c : Code} {K K' : AS → Prop} {Q : AX → AS → Prop} {S : AS} (h : vc P T c (seqQ K Q) S) (hk : ∀ S, K S → K' S) : vc P T c (seqQ K' Q) S := vc_mono c h fun e S => by
  cases e with
  | normal => exact hk S
  | exit i => exact id
  | ret => exact id
  | goto l => exact id
theorem loop1 {S : AS} {Q : AX → AS → Prop} {c : Code} (hb : drawB c = true) {X1 : Type} (inv : X1 → Prop) (st : X1 → AS) (m : X1 → Nat) (a1 : X1) (h0 : inv a1) (hw : weakD S (st a1))
    (round : ∀ x1, inv x1 → vc (fun _ => Try.prog) (fun _ => tab) c (seqQ (fun S' => ∃ y1, inv y1 ∧ m y1 < m x1 ∧ weakD S' (st y1)) Q) (st x1)) : LoopL (fun _ => Try.prog) (fun _ => tab) c Q S :=
  LoopL.intro (P := fun _ => Try.prog) (T := fun _ => tab) tabOk mixed hb (X := { p : X1 // inv p }) (fun p => st p.1) (fun p => m p.1) ⟨a1, h0⟩ hw fun ⟨p, hp⟩ =>
    vcMono (round p hp) fun S' ⟨y1, h1, h2, h3⟩ => ⟨⟨y1, h1⟩, h2, h3⟩
theorem loop2 {S : AS} {Q : AX → AS → Prop} {c : Code} (hb : drawB c = true) {X1 X2 : Type} (inv : X1 → X2 → Prop) (st : X1 → X2 → AS) (m : X1 → X2 → Nat) (a1 : X1) (a2 : X2) (h0 : inv a1 a2) (hw : weakD S (st a1 a2))
    (round : ∀ x1 x2, inv x1 x2 → vc (fun _ => Try.prog) (fun _ => tab) c (seqQ (fun S' => ∃ y1 y2, inv y1 y2 ∧ m y1 y2 < m x1 x2 ∧ weakD S' (st y1 y2)) Q) (st x1 x2)) : LoopL (fun _ => Try.prog) (fun _ => tab) c Q S :=
  LoopL.intro (P := fun _ => Try.prog) (T := fun _ => tab) tabOk mixed hb (X := { p : X1 × X2 // inv p.1 p.2 }) (fun p => st p.1.1 p.1.2) (fun p => m p.1.1 p.1.2) ⟨⟨a1, a2⟩, h0⟩ hw fun ⟨p, hp⟩ =>
    vcMono (round p.1 p.2 hp) fun S' ⟨y1, y2, h1, h2, h3⟩ => ⟨⟨⟨y1, y2⟩, h1⟩, h2, h3⟩
theorem loop3 {S : AS} {Q : AX → AS → Prop} {c : Code} (hb : drawB c = true) {X1 X2 X3 : Type} (inv : X1 → X2 → X3 → Prop) (st : X1 → X2 → X3 → AS) (m : X1 → X2 → X3 → Nat) (a1 : X1) (a2 : X2) (a3 : X3) (h0 : inv a1 a2 a3) (hw : weakD S (st a1 a2 a3))
    (round : ∀ x1 x2 x3, inv x1 x2 x3 → vc (fun _ => Try.prog) (fun _ => tab) c (seqQ (fun S' => ∃ y1 y2 y3, inv y1 y2 y3 ∧ m y1 y2 y3 < m x1 x2 x3 ∧ weakD S' (st y1 y2 y3)) Q) (st x1 x2 x3)) : LoopL (fun _ => Try.prog) (fun _ => tab) c Q S :=
  LoopL.intro (P := fun _ => Try.prog) (T := fun _ => tab) tabOk mixed hb (X := { p : X1 × X2 × X3 // inv p.1 p.2.1 p.2.2 }) (fun p => st p.1.1 p.1.2.1 p.1.2.2) (fun p => m p.1.1 p.1.2.1 p.1.2.2) ⟨⟨a1, a2, a3⟩, h0⟩ hw fun ⟨p, hp⟩ =>
    vcMono (round p.1 p.2.1 p.2.2 hp) fun S' ⟨y1, y2, y3, h1, h2, h3⟩ => ⟨⟨⟨y1, y2, y3⟩, h1⟩, h2, h3⟩
theorem loop4 {S : AS} {Q : AX → AS → Prop} {c : Code} (hb : drawB c = true) {X1 X2 X3 X4 : Type} (inv : X1 → X2 → X3 → X4 → Prop) (st : X1 → X2 → X3 → X4 → AS) (m : X1 → X2 → X3 → X4 → Nat) (a1 : X1) (a2 : X2) (a3 : X3) (a4 : X4) (h0 : inv a1 a2 a3 a4) (hw : weakD S (st a1 a2 a3 a4))
    (round : ∀ x1 x2 x3 x4, inv x1 x2 x3 x4 → vc (fun _ => Try.prog) (fun _ => tab) c (seqQ (fun S' => ∃ y1 y2 y3 y4, inv y1 y2 y3 y4 ∧ m y1 y2 y3 y4 < m x1 x2 x3 x4 ∧ weakD S' (st y1 y2 y3 y4)) Q) (st x1 x2 x3 x4)) : LoopL (fun _ => Try.prog) (fun _ => tab) c Q S :=
  LoopL.intro (P := fun _ => Try.prog) (T := fun _ => tab) tabOk mixed hb (X := { p : X1 × X2 × X3 × X4 // inv p.1 p.2.1 p.2.2.1 p.2.2.2 }) (fun p => st p.1.1 p.1.2.1 p.1.2.2.1 p.1.2.2.2) (fun p => m p.1.1 p.1.2.1 p.1.2.2.1 p.1.2.2.2) ⟨⟨a1, a2, a3, a4⟩, h0⟩ hw fun ⟨p, hp⟩ =>
    vcMono (round p.1 p.2.1 p.2.2.1 p.2.2.2 hp) fun S' ⟨y1, y2, y3, y4, h1, h2, h3⟩ => ⟨⟨⟨y1, y2, y3, y4⟩, h1⟩, h2, h3⟩
theorem loop5 {S : AS} {Q : AX → AS → Prop} {c : Code} (hb : drawB c = true) {X1 X2 X3 X4 X5 : Type} (inv : X1 → X2 → X3 → X4 → X5 → Prop) (st : X1 → X2 → X3 → X4 → X5 → AS) (m : X1 → X2 → X3 → X4 → X5 → Nat) (a1 : X1) (a2 : X2) (a3 : X3) (a4 : X4) (a5 : X5) (h0 : inv a1 a2 a3 a4 a5) (hw : weakD S (st a1 a2 a3 a4 a5))
    (round : ∀ x1 x2 x3 x4 x5, inv x1 x2 x3 x4 x5 → vc (fun _ => Try.prog) (fun _ => tab) c (seqQ (fun S' => ∃ y1 y2 y3 y4 y5, inv y1 y2 y3 y4 y5 ∧ m y1 y2 y3 y4 y5 < m x1 x2 x3 x4 x5 ∧ weakD S' (st y1 y2 y3 y4 y5)) Q) (st x1 x2 x3 x4 x5)) : LoopL (fun _ => Try.prog) (fun _ => tab) c Q S :=
  LoopL.intro (P := fun _ => Try.prog) (T := fun _ => tab) tabOk mixed hb (X := { p : X1 × X2 × X3 × X4 × X5 // inv p.1 p.2.1 p.2.2.1 p.2.2.2.1 p.2.2.2.2 }) (fun p => st p.1.1 p.1.2.1 p.1.2.2.1 p.1.2.2.2.1 p.1.2.2.2.2) (fun p => m p.1.1 p.1.2.1 p.1.2.2.1 p.1.2.2.2.1 p.1.2.2.2.2) ⟨⟨a1, a2, a3, a4, a5⟩, h0⟩ hw fun ⟨p, hp⟩ =>
    vcMono (round p.1 p.2.1 p.2.2.1 p.2.2.2.1 p.2.2.2.2 hp) fun S' ⟨y1, y2, y3, y4, y5, h1, h2, h3⟩ => ⟨⟨⟨y1, y2, y3, y4, y5⟩, h1⟩, h2, h3⟩
theorem IfP_iff {b : Unit → Bool} {p q : Prop} : IfP b p q ↔ (b () = true → p) ∧ (b () = false → q) := ⟨fun h => ⟨h.t, h.f⟩, fun h => ⟨h.1, h.2⟩⟩
theorem EqU_iff {α : Type} {x y : Unit → α} : EqU x y ↔ x () = y () := ⟨fun h => h.out, fun h => ⟨h⟩⟩
theorem Obl_iff {p : Unit → Prop} : Obl p ↔ p () := ⟨fun h => h.out, fun h => ⟨h⟩⟩
/-- A state out of what is known. -/
def mkG : Nat → Nat → List (Nat × AV) → List AV
  | 0, _, _ => []
  | n + 1, i, [] => .junk :: mkG n (i + 1) []
  | n + 1, i, x :: r => if x.1 = i then x.2 :: mkG n (i + 1) r else .junk :: mkG n (i + 1) (x :: r)
def mkT (n : Nat) (l : List (Nat × AV)) : List AV := mkG n 0 l
end Go.Proofs.Ytbkdmnohpjihgaa.M
