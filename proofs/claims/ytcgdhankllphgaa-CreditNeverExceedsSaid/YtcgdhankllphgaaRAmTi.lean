import Derived.Test.YtcgdhankllphgaaRA6
namespace Go.Proofs.Ytcgdhankllphgaa
set_option linter.unusedVariables false
set_option linter.unusedSimpArgs false
set_option linter.unusedSectionVars false
namespace Am
open Go
set_option maxRecDepth 100000
def tiL : List (Nat × TI) := [
  (1, ⟨1, 8, .other, [.nilFunc]⟩),
  (2, ⟨1, 8, .int .i64, [.int .i64 0]⟩),
  (3, ⟨1, 8, .int .i64, [.int .i64 0]⟩),
  (4, ⟨1, 1, .bool, [.bool false]⟩),
  (5, ⟨1, 1, .int .u8, [.int .u8 0]⟩),
  (6, ⟨1, 1, .int .u8, [.int .u8 0]⟩),
  (7, ⟨4, 24, .struct [(0, 2), (1, 3), (2, 4), (3, 6)], [.int .i64 0, .int .i64 0, .bool false, .int .u8 0]⟩),
  (8, ⟨4, 24, .struct [(0, 2), (1, 3), (2, 4), (3, 6)], [.int .i64 0, .int .i64 0, .bool false, .int .u8 0]⟩),
  (9, ⟨1, 16, .string, [.string ⟨#[]⟩]⟩),
  (10, ⟨1, 16, .string, [.string ⟨#[]⟩]⟩),
  (11, ⟨1, 16, .string, [.string ⟨#[]⟩]⟩),
  (12, ⟨1, 8, .int .u64, [.int .u64 0]⟩),
  (13, ⟨2, 24, .struct [(0, 9), (1, 12)], [.string ⟨#[]⟩, .int .u64 0]⟩),
  (14, ⟨2, 24, .struct [(0, 9), (1, 12)], [.string ⟨#[]⟩, .int .u64 0]⟩),
  (15, ⟨1, 8, .other, [.pointer none]⟩),
  (16, ⟨1, 8, .other, [.pointer none]⟩),
  (17, ⟨1, 8, .other, [.pointer none]⟩),
  (18, ⟨1, 8, .struct [(0, 17)], [.pointer none]⟩),
  (19, ⟨1, 8, .struct [(0, 17)], [.pointer none]⟩),
  (20, ⟨1, 16, .other, [.nilIface]⟩),
  (21, ⟨1, 4, .int .i32, [.int .i32 0]⟩),
  (22, ⟨1, 24, .slice 72, [.slice none 0 0]⟩),
  (23, ⟨3, 40, .struct [(0, 3), (1, 3), (2, 22)], [.int .i64 0, .int .i64 0, .slice none 0 0]⟩),
  (24, ⟨3, 40, .struct [(0, 3), (1, 3), (2, 22)], [.int .i64 0, .int .i64 0, .slice none 0 0]⟩),
  (25, ⟨2, 16, .struct [(0, 3), (1, 3)], [.int .i64 0, .int .i64 0]⟩),
  (26, ⟨2, 16, .struct [(0, 3), (1, 3)], [.int .i64 0, .int .i64 0]⟩),
  (27, ⟨1, 8, .other, [.nilFunc]⟩),
  (28, ⟨1, 8, .int .i64, [.int .i64 0]⟩),
  (30, ⟨1, 8, .other, [.nilFunc]⟩),
  (31, ⟨1, 8, .other, [.nilFunc]⟩),
  (32, ⟨1, 8, .other, [.nilFunc]⟩),
  (33, ⟨4, 48, .struct [(0, 24), (3, 28)], [.int .i64 0, .int .i64 0, .slice none 0 0, .int .i64 0]⟩),
  (34, ⟨4, 48, .struct [(0, 24), (3, 28)], [.int .i64 0, .int .i64 0, .slice none 0 0, .int .i64 0]⟩),
  (35, ⟨1, 8, .other, [.nilFunc]⟩),
  (36, ⟨1, 8, .other, [.nilFunc]⟩),
  (37, ⟨1, 8, .other, [.nilFunc]⟩),
  (38, ⟨1, 8, .other, [.nilFunc]⟩),
  (39, ⟨1, 8, .other, [.nilFunc]⟩),
  (40, ⟨1, 8, .other, [.nilFunc]⟩),
  (41, ⟨1, 8, .other, [.nilFunc]⟩),
  (42, ⟨1, 8, .other, [.nilFunc]⟩),
  (43, ⟨1, 24, .slice 89, [.slice none 0 0]⟩),
  (44, ⟨2, 32, .struct [(0, 3), (1, 43)], [.int .i64 0, .slice none 0 0]⟩),
  (45, ⟨2, 32, .struct [(0, 3), (1, 43)], [.int .i64 0, .slice none 0 0]⟩),
  (47, ⟨1, 8, .other, [.nilFunc]⟩),
  (48, ⟨1, 8, .other, [.nilFunc]⟩),
  (49, ⟨1, 8, .other, [.nilFunc]⟩),
  (50, ⟨3, 40, .struct [(0, 45), (2, 28)], [.int .i64 0, .slice none 0 0, .int .i64 0]⟩),
  (51, ⟨3, 40, .struct [(0, 45), (2, 28)], [.int .i64 0, .slice none 0 0, .int .i64 0]⟩),
  (52, ⟨1, 8, .other, [.nilFunc]⟩),
  (53, ⟨1, 8, .other, [.nilFunc]⟩),
  (54, ⟨1, 8, .other, [.nilFunc]⟩),
  (55, ⟨1, 8, .other, [.nilFunc]⟩),
  (56, ⟨1, 8, .other, [.nilFunc]⟩),
  (57, ⟨1, 8, .other, [.nilFunc]⟩),
  (58, ⟨1, 8, .other, [.nilFunc]⟩),
  (59, ⟨1, 24, .slice 68, [.slice none 0 0]⟩),
  (60, ⟨4, 64, .array 2 45, [.int .i64 0, .slice none 0 0, .int .i64 0, .slice none 0 0]⟩),
  (61, ⟨1, 24, .slice 99, [.slice none 0 0]⟩),
  (62, ⟨40, 320, .array 40 3, [.int .i64 0, .int .i64 0, .int .i64 0, .int .i64 0, .int .i64 0, .int .i64 0, .int .i64 0, .int .i64 0, .int .i64 0, .int .i64 0, .int .i64 0, .int .i64 0, .int .i64 0, .int .i64 0, .int .i64 0, .int .i64 0, .int .i64 0, .int .i64 0, .int .i64 0, .int .i64 0, .int .i64 0, .int .i64 0, .int .i64 0, .int .i64 0, .int .i64 0, .int .i64 0, .int .i64 0, .int .i64 0, .int .i64 0, .int .i64 0, .int .i64 0, .int .i64 0, .int .i64 0, .int .i64 0, .int .i64 0, .int .i64 0, .int .i64 0, .int .i64 0, .int .i64 0, .int .i64 0]⟩),
  (63, ⟨51, 488, .struct [(0, 24), (3, 60), (7, 61), (8, 61), (9, 3), (10, 62), (50, 4)], [.int .i64 0, .int .i64 0, .slice none 0 0, .int .i64 0, .slice none 0 0, .int .i64 0, .slice none 0 0, .slice none 0 0, .slice none 0 0, .int .i64 0, .int .i64 0, .int .i64 0, .int .i64 0, .int .i64 0, .int .i64 0, .int .i64 0, .int .i64 0, .int .i64 0, .int .i64 0, .int .i64 0, .int .i64 0, .int .i64 0, .int .i64 0, .int .i64 0, .int .i64 0, .int .i64 0, .int .i64 0, .int .i64 0, .int .i64 0, .int .i64 0, .int .i64 0, .int .i64 0, .int .i64 0, .int .i64 0, .int .i64 0, .int .i64 0, .int .i64 0, .int .i64 0, .int .i64 0, .int .i64 0, .int .i64 0, .int .i64 0, .int .i64 0, .int .i64 0, .int .i64 0, .int .i64 0, .int .i64 0, .int .i64 0, .int .i64 0, .int .i64 0, .bool false]⟩),
  (64, ⟨51, 488, .struct [(0, 24), (3, 60), (7, 61), (8, 61), (9, 3), (10, 62), (50, 4)], [.int .i64 0, .int .i64 0, .slice none 0 0, .int .i64 0, .slice none 0 0, .int .i64 0, .slice none 0 0, .slice none 0 0, .slice none 0 0, .int .i64 0, .int .i64 0, .int .i64 0, .int .i64 0, .int .i64 0, .int .i64 0, .int .i64 0, .int .i64 0, .int .i64 0, .int .i64 0, .int .i64 0, .int .i64 0, .int .i64 0, .int .i64 0, .int .i64 0, .int .i64 0, .int .i64 0, .int .i64 0, .int .i64 0, .int .i64 0, .int .i64 0, .int .i64 0, .int .i64 0, .int .i64 0, .int .i64 0, .int .i64 0, .int .i64 0, .int .i64 0, .int .i64 0, .int .i64 0, .int .i64 0, .int .i64 0, .int .i64 0, .int .i64 0, .int .i64 0, .int .i64 0, .int .i64 0, .int .i64 0, .int .i64 0, .int .i64 0, .int .i64 0, .bool false]⟩),
  (65, ⟨1, 8, .other, [.nilFunc]⟩),
  (66, ⟨1, 8, .other, [.nilFunc]⟩),
  (67, ⟨7, 7, .struct [(0, 5), (1, 5), (2, 5), (3, 5), (4, 5), (5, 5), (6, 5)], [.int .u8 0, .int .u8 0, .int .u8 0, .int .u8 0, .int .u8 0, .int .u8 0, .int .u8 0]⟩),
  (68, ⟨7, 7, .struct [(0, 5), (1, 5), (2, 5), (3, 5), (4, 5), (5, 5), (6, 5)], [.int .u8 0, .int .u8 0, .int .u8 0, .int .u8 0, .int .u8 0, .int .u8 0, .int .u8 0]⟩),
  (69, ⟨1, 8, .other, [.nilFunc]⟩),
  (70, ⟨1, 8, .other, [.nilFunc]⟩),
  (71, ⟨4, 32, .struct [(0, 3), (1, 3), (2, 3), (3, 3)], [.int .i64 0, .int .i64 0, .int .i64 0, .int .i64 0]⟩),
  (72, ⟨4, 32, .struct [(0, 3), (1, 3), (2, 3), (3, 3)], [.int .i64 0, .int .i64 0, .int .i64 0, .int .i64 0]⟩),
  (73, ⟨1, 8, .other, [.nilFunc]⟩),
  (74, ⟨1, 8, .other, [.nilFunc]⟩),
  (75, ⟨1, 8, .other, [.nilFunc]⟩),
  (77, ⟨1, 8, .other, [.nilFunc]⟩),
  (78, ⟨1, 8, .other, [.nilFunc]⟩),
  (79, ⟨1, 8, .other, [.nilFunc]⟩),
  (80, ⟨1, 8, .other, [.nilFunc]⟩),
  (81, ⟨1, 8, .other, [.nilFunc]⟩),
  (82, ⟨1, 8, .other, [.nilFunc]⟩),
  (83, ⟨1, 8, .other, [.nilFunc]⟩),
  (85, ⟨1, 8, .other, [.nilFunc]⟩),
  (86, ⟨1, 8, .other, [.nilFunc]⟩),
  (87, ⟨1, 8, .other, [.nilFunc]⟩),
  (88, ⟨4, 32, .struct [(0, 3), (1, 3), (2, 3), (3, 3)], [.int .i64 0, .int .i64 0, .int .i64 0, .int .i64 0]⟩),
  (89, ⟨4, 32, .struct [(0, 3), (1, 3), (2, 3), (3, 3)], [.int .i64 0, .int .i64 0, .int .i64 0, .int .i64 0]⟩),
  (90, ⟨1, 8, .other, [.nilFunc]⟩),
  (91, ⟨1, 8, .other, [.nilFunc]⟩),
  (92, ⟨1, 8, .other, [.nilFunc]⟩),
  (93, ⟨1, 8, .other, [.nilFunc]⟩),
  (94, ⟨1, 8, .other, [.nilFunc]⟩),
  (96, ⟨1, 8, .other, [.nilFunc]⟩),
  (97, ⟨1, 8, .other, [.nilFunc]⟩),
  (98, ⟨3, 24, .struct [(0, 3), (1, 3), (2, 3)], [.int .i64 0, .int .i64 0, .int .i64 0]⟩),
  (99, ⟨3, 24, .struct [(0, 3), (1, 3), (2, 3)], [.int .i64 0, .int .i64 0, .int .i64 0]⟩),
  (100, ⟨1, 8, .other, [.nilFunc]⟩),
  (101, ⟨1, 8, .other, [.nilFunc]⟩),
  (102, ⟨1, 8, .other, [.nilFunc]⟩),
  (103, ⟨1, 8, .other, [.nilFunc]⟩),
  (104, ⟨1, 8, .other, [.nilFunc]⟩),
  (105, ⟨1, 8, .other, [.nilFunc]⟩),
  (106, ⟨1, 8, .other, [.nilFunc]⟩),
  (107, ⟨1, 8, .other, [.nilFunc]⟩),
  (108, ⟨1, 8, .other, [.nilFunc]⟩),
  (109, ⟨1, 8, .other, [.nilFunc]⟩),
  (110, ⟨1, 24, .slice 3, [.slice none 0 0]⟩),
  (111, ⟨1, 8, .other, [.nilFunc]⟩),
  (112, ⟨1, 8, .other, [.nilFunc]⟩),
  (113, ⟨1, 8, .other, [.nilFunc]⟩),
  (114, ⟨1, 8, .other, [.nilFunc]⟩),
  (115, ⟨1, 8, .other, [.nilFunc]⟩),
  (116, ⟨1, 8, .int .u64, [.int .u64 0]⟩),
  (117, ⟨1, 8, .other, [.nilFunc]⟩),
  (118, ⟨1, 8, .other, [.nilFunc]⟩),
  (119, ⟨1, 8, .other, [.nilFunc]⟩),
  (120, ⟨4, 40, .struct [(0, 17), (1, 17), (2, 17), (3, 9)], [.pointer none, .pointer none, .pointer none, .string ⟨#[]⟩]⟩),
  (121, ⟨4, 40, .struct [(0, 17), (1, 17), (2, 17), (3, 9)], [.pointer none, .pointer none, .pointer none, .string ⟨#[]⟩]⟩),
  (125, ⟨1, 8, .other, [.nilFunc]⟩),
  (126, ⟨1, 4, .int .u32, [.int .u32 0]⟩),
  (127, ⟨1, 1, .int .u8, [.int .u8 0]⟩),
  (128, ⟨1, 1, .int .u8, [.int .u8 0]⟩),
  (129, ⟨1, 8, .other, [.nilFunc]⟩),
  (130, ⟨1, 8, .other, [.pointer none]⟩),
  (131, ⟨1, 4, .int .i32, [.int .i32 0]⟩),
  (132, ⟨1, 4, .int .i32, [.int .i32 0]⟩),
  (133, ⟨11, 48, .struct [(0, 12), (1, 12), (2, 126), (3, 127), (4, 5), (5, 5), (6, 128), (7, 129), (8, 130), (9, 131), (10, 132)], [.int .u64 0, .int .u64 0, .int .u32 0, .int .u8 0, .int .u8 0, .int .u8 0, .int .u8 0, .nilFunc, .pointer none, .int .i32 0, .int .i32 0]⟩),
  (134, ⟨11, 48, .struct [(0, 12), (1, 12), (2, 126), (3, 127), (4, 5), (5, 5), (6, 128), (7, 129), (8, 130), (9, 131), (10, 132)], [.int .u64 0, .int .u64 0, .int .u32 0, .int .u8 0, .int .u8 0, .int .u8 0, .int .u8 0, .nilFunc, .pointer none, .int .i32 0, .int .i32 0]⟩)]
def ti : TypeId → Option TI := look tiL
theorem ti_1 : ti 1 = some ⟨1, 8, .other, [.nilFunc]⟩ := by kernel_rfl
theorem ti_2 : ti 2 = some ⟨1, 8, .int .i64, [.int .i64 0]⟩ := by kernel_rfl
theorem ti_3 : ti 3 = some ⟨1, 8, .int .i64, [.int .i64 0]⟩ := by kernel_rfl
theorem ti_4 : ti 4 = some ⟨1, 1, .bool, [.bool false]⟩ := by kernel_rfl
theorem ti_5 : ti 5 = some ⟨1, 1, .int .u8, [.int .u8 0]⟩ := by kernel_rfl
theorem ti_6 : ti 6 = some ⟨1, 1, .int .u8, [.int .u8 0]⟩ := by kernel_rfl
theorem ti_7 : ti 7 = some ⟨4, 24, .struct [(0, 2), (1, 3), (2, 4), (3, 6)], [.int .i64 0, .int .i64 0, .bool false, .int .u8 0]⟩ := by kernel_rfl
theorem ti_8 : ti 8 = some ⟨4, 24, .struct [(0, 2), (1, 3), (2, 4), (3, 6)], [.int .i64 0, .int .i64 0, .bool false, .int .u8 0]⟩ := by kernel_rfl
theorem ti_9 : ti 9 = some ⟨1, 16, .string, [.string ⟨#[]⟩]⟩ := by kernel_rfl
theorem ti_10 : ti 10 = some ⟨1, 16, .string, [.string ⟨#[]⟩]⟩ := by kernel_rfl
theorem ti_11 : ti 11 = some ⟨1, 16, .string, [.string ⟨#[]⟩]⟩ := by kernel_rfl
theorem ti_12 : ti 12 = some ⟨1, 8, .int .u64, [.int .u64 0]⟩ := by kernel_rfl
theorem ti_13 : ti 13 = some ⟨2, 24, .struct [(0, 9), (1, 12)], [.string ⟨#[]⟩, .int .u64 0]⟩ := by kernel_rfl
theorem ti_14 : ti 14 = some ⟨2, 24, .struct [(0, 9), (1, 12)], [.string ⟨#[]⟩, .int .u64 0]⟩ := by kernel_rfl
theorem ti_15 : ti 15 = some ⟨1, 8, .other, [.pointer none]⟩ := by kernel_rfl
theorem ti_16 : ti 16 = some ⟨1, 8, .other, [.pointer none]⟩ := by kernel_rfl
theorem ti_17 : ti 17 = some ⟨1, 8, .other, [.pointer none]⟩ := by kernel_rfl
theorem ti_18 : ti 18 = some ⟨1, 8, .struct [(0, 17)], [.pointer none]⟩ := by kernel_rfl
theorem ti_19 : ti 19 = some ⟨1, 8, .struct [(0, 17)], [.pointer none]⟩ := by kernel_rfl
theorem ti_20 : ti 20 = some ⟨1, 16, .other, [.nilIface]⟩ := by kernel_rfl
theorem ti_21 : ti 21 = some ⟨1, 4, .int .i32, [.int .i32 0]⟩ := by kernel_rfl
theorem ti_22 : ti 22 = some ⟨1, 24, .slice 72, [.slice none 0 0]⟩ := by kernel_rfl
theorem ti_23 : ti 23 = some ⟨3, 40, .struct [(0, 3), (1, 3), (2, 22)], [.int .i64 0, .int .i64 0, .slice none 0 0]⟩ := by kernel_rfl
theorem ti_24 : ti 24 = some ⟨3, 40, .struct [(0, 3), (1, 3), (2, 22)], [.int .i64 0, .int .i64 0, .slice none 0 0]⟩ := by kernel_rfl
theorem ti_25 : ti 25 = some ⟨2, 16, .struct [(0, 3), (1, 3)], [.int .i64 0, .int .i64 0]⟩ := by kernel_rfl
theorem ti_26 : ti 26 = some ⟨2, 16, .struct [(0, 3), (1, 3)], [.int .i64 0, .int .i64 0]⟩ := by kernel_rfl
theorem ti_27 : ti 27 = some ⟨1, 8, .other, [.nilFunc]⟩ := by kernel_rfl
theorem ti_28 : ti 28 = some ⟨1, 8, .int .i64, [.int .i64 0]⟩ := by kernel_rfl
theorem ti_30 : ti 30 = some ⟨1, 8, .other, [.nilFunc]⟩ := by kernel_rfl
theorem ti_31 : ti 31 = some ⟨1, 8, .other, [.nilFunc]⟩ := by kernel_rfl
theorem ti_32 : ti 32 = some ⟨1, 8, .other, [.nilFunc]⟩ := by kernel_rfl
theorem ti_33 : ti 33 = some ⟨4, 48, .struct [(0, 24), (3, 28)], [.int .i64 0, .int .i64 0, .slice none 0 0, .int .i64 0]⟩ := by kernel_rfl
theorem ti_34 : ti 34 = some ⟨4, 48, .struct [(0, 24), (3, 28)], [.int .i64 0, .int .i64 0, .slice none 0 0, .int .i64 0]⟩ := by kernel_rfl
theorem ti_35 : ti 35 = some ⟨1, 8, .other, [.nilFunc]⟩ := by kernel_rfl
theorem ti_36 : ti 36 = some ⟨1, 8, .other, [.nilFunc]⟩ := by kernel_rfl
theorem ti_37 : ti 37 = some ⟨1, 8, .other, [.nilFunc]⟩ := by kernel_rfl
theorem ti_38 : ti 38 = some ⟨1, 8, .other, [.nilFunc]⟩ := by kernel_rfl
theorem ti_39 : ti 39 = some ⟨1, 8, .other, [.nilFunc]⟩ := by kernel_rfl
theorem ti_40 : ti 40 = some ⟨1, 8, .other, [.nilFunc]⟩ := by kernel_rfl
theorem ti_41 : ti 41 = some ⟨1, 8, .other, [.nilFunc]⟩ := by kernel_rfl
theorem ti_42 : ti 42 = some ⟨1, 8, .other, [.nilFunc]⟩ := by kernel_rfl
theorem ti_43 : ti 43 = some ⟨1, 24, .slice 89, [.slice none 0 0]⟩ := by kernel_rfl
theorem ti_44 : ti 44 = some ⟨2, 32, .struct [(0, 3), (1, 43)], [.int .i64 0, .slice none 0 0]⟩ := by kernel_rfl
theorem ti_45 : ti 45 = some ⟨2, 32, .struct [(0, 3), (1, 43)], [.int .i64 0, .slice none 0 0]⟩ := by kernel_rfl
theorem ti_47 : ti 47 = some ⟨1, 8, .other, [.nilFunc]⟩ := by kernel_rfl
theorem ti_48 : ti 48 = some ⟨1, 8, .other, [.nilFunc]⟩ := by kernel_rfl
theorem ti_49 : ti 49 = some ⟨1, 8, .other, [.nilFunc]⟩ := by kernel_rfl
theorem ti_50 : ti 50 = some ⟨3, 40, .struct [(0, 45), (2, 28)], [.int .i64 0, .slice none 0 0, .int .i64 0]⟩ := by kernel_rfl
theorem ti_51 : ti 51 = some ⟨3, 40, .struct [(0, 45), (2, 28)], [.int .i64 0, .slice none 0 0, .int .i64 0]⟩ := by kernel_rfl
theorem ti_52 : ti 52 = some ⟨1, 8, .other, [.nilFunc]⟩ := by kernel_rfl
theorem ti_53 : ti 53 = some ⟨1, 8, .other, [.nilFunc]⟩ := by kernel_rfl
theorem ti_54 : ti 54 = some ⟨1, 8, .other, [.nilFunc]⟩ := by kernel_rfl
theorem ti_55 : ti 55 = some ⟨1, 8, .other, [.nilFunc]⟩ := by kernel_rfl
theorem ti_56 : ti 56 = some ⟨1, 8, .other, [.nilFunc]⟩ := by kernel_rfl
theorem ti_57 : ti 57 = some ⟨1, 8, .other, [.nilFunc]⟩ := by kernel_rfl
theorem ti_58 : ti 58 = some ⟨1, 8, .other, [.nilFunc]⟩ := by kernel_rfl
theorem ti_59 : ti 59 = some ⟨1, 24, .slice 68, [.slice none 0 0]⟩ := by kernel_rfl
theorem ti_60 : ti 60 = some ⟨4, 64, .array 2 45, [.int .i64 0, .slice none 0 0, .int .i64 0, .slice none 0 0]⟩ := by kernel_rfl
theorem ti_61 : ti 61 = some ⟨1, 24, .slice 99, [.slice none 0 0]⟩ := by kernel_rfl
theorem ti_62 : ti 62 = some ⟨40, 320, .array 40 3, [.int .i64 0, .int .i64 0, .int .i64 0, .int .i64 0, .int .i64 0, .int .i64 0, .int .i64 0, .int .i64 0, .int .i64 0, .int .i64 0, .int .i64 0, .int .i64 0, .int .i64 0, .int .i64 0, .int .i64 0, .int .i64 0, .int .i64 0, .int .i64 0, .int .i64 0, .int .i64 0, .int .i64 0, .int .i64 0, .int .i64 0, .int .i64 0, .int .i64 0, .int .i64 0, .int .i64 0, .int .i64 0, .int .i64 0, .int .i64 0, .int .i64 0, .int .i64 0, .int .i64 0, .int .i64 0, .int .i64 0, .int .i64 0, .int .i64 0, .int .i64 0, .int .i64 0, .int .i64 0]⟩ := by kernel_rfl
theorem ti_63 : ti 63 = some ⟨51, 488, .struct [(0, 24), (3, 60), (7, 61), (8, 61), (9, 3), (10, 62), (50, 4)], [.int .i64 0, .int .i64 0, .slice none 0 0, .int .i64 0, .slice none 0 0, .int .i64 0, .slice none 0 0, .slice none 0 0, .slice none 0 0, .int .i64 0, .int .i64 0, .int .i64 0, .int .i64 0, .int .i64 0, .int .i64 0, .int .i64 0, .int .i64 0, .int .i64 0, .int .i64 0, .int .i64 0, .int .i64 0, .int .i64 0, .int .i64 0, .int .i64 0, .int .i64 0, .int .i64 0, .int .i64 0, .int .i64 0, .int .i64 0, .int .i64 0, .int .i64 0, .int .i64 0, .int .i64 0, .int .i64 0, .int .i64 0, .int .i64 0, .int .i64 0, .int .i64 0, .int .i64 0, .int .i64 0, .int .i64 0, .int .i64 0, .int .i64 0, .int .i64 0, .int .i64 0, .int .i64 0, .int .i64 0, .int .i64 0, .int .i64 0, .int .i64 0, .bool false]⟩ := by kernel_rfl
theorem ti_64 : ti 64 = some ⟨51, 488, .struct [(0, 24), (3, 60), (7, 61), (8, 61), (9, 3), (10, 62), (50, 4)], [.int .i64 0, .int .i64 0, .slice none 0 0, .int .i64 0, .slice none 0 0, .int .i64 0, .slice none 0 0, .slice none 0 0, .slice none 0 0, .int .i64 0, .int .i64 0, .int .i64 0, .int .i64 0, .int .i64 0, .int .i64 0, .int .i64 0, .int .i64 0, .int .i64 0, .int .i64 0, .int .i64 0, .int .i64 0, .int .i64 0, .int .i64 0, .int .i64 0, .int .i64 0, .int .i64 0, .int .i64 0, .int .i64 0, .int .i64 0, .int .i64 0, .int .i64 0, .int .i64 0, .int .i64 0, .int .i64 0, .int .i64 0, .int .i64 0, .int .i64 0, .int .i64 0, .int .i64 0, .int .i64 0, .int .i64 0, .int .i64 0, .int .i64 0, .int .i64 0, .int .i64 0, .int .i64 0, .int .i64 0, .int .i64 0, .int .i64 0, .int .i64 0, .bool false]⟩ := by kernel_rfl
theorem ti_65 : ti 65 = some ⟨1, 8, .other, [.nilFunc]⟩ := by kernel_rfl
theorem ti_66 : ti 66 = some ⟨1, 8, .other, [.nilFunc]⟩ := by kernel_rfl
theorem ti_67 : ti 67 = some ⟨7, 7, .struct [(0, 5), (1, 5), (2, 5), (3, 5), (4, 5), (5, 5), (6, 5)], [.int .u8 0, .int .u8 0, .int .u8 0, .int .u8 0, .int .u8 0, .int .u8 0, .int .u8 0]⟩ := by kernel_rfl
theorem ti_68 : ti 68 = some ⟨7, 7, .struct [(0, 5), (1, 5), (2, 5), (3, 5), (4, 5), (5, 5), (6, 5)], [.int .u8 0, .int .u8 0, .int .u8 0, .int .u8 0, .int .u8 0, .int .u8 0, .int .u8 0]⟩ := by kernel_rfl
theorem ti_69 : ti 69 = some ⟨1, 8, .other, [.nilFunc]⟩ := by kernel_rfl
theorem ti_70 : ti 70 = some ⟨1, 8, .other, [.nilFunc]⟩ := by kernel_rfl
theorem ti_71 : ti 71 = some ⟨4, 32, .struct [(0, 3), (1, 3), (2, 3), (3, 3)], [.int .i64 0, .int .i64 0, .int .i64 0, .int .i64 0]⟩ := by kernel_rfl
theorem ti_72 : ti 72 = some ⟨4, 32, .struct [(0, 3), (1, 3), (2, 3), (3, 3)], [.int .i64 0, .int .i64 0, .int .i64 0, .int .i64 0]⟩ := by kernel_rfl
theorem ti_73 : ti 73 = some ⟨1, 8, .other, [.nilFunc]⟩ := by kernel_rfl
theorem ti_74 : ti 74 = some ⟨1, 8, .other, [.nilFunc]⟩ := by kernel_rfl
theorem ti_75 : ti 75 = some ⟨1, 8, .other, [.nilFunc]⟩ := by kernel_rfl
theorem ti_77 : ti 77 = some ⟨1, 8, .other, [.nilFunc]⟩ := by kernel_rfl
theorem ti_78 : ti 78 = some ⟨1, 8, .other, [.nilFunc]⟩ := by kernel_rfl
theorem ti_79 : ti 79 = some ⟨1, 8, .other, [.nilFunc]⟩ := by kernel_rfl
theorem ti_80 : ti 80 = some ⟨1, 8, .other, [.nilFunc]⟩ := by kernel_rfl
theorem ti_81 : ti 81 = some ⟨1, 8, .other, [.nilFunc]⟩ := by kernel_rfl
theorem ti_82 : ti 82 = some ⟨1, 8, .other, [.nilFunc]⟩ := by kernel_rfl
theorem ti_83 : ti 83 = some ⟨1, 8, .other, [.nilFunc]⟩ := by kernel_rfl
theorem ti_85 : ti 85 = some ⟨1, 8, .other, [.nilFunc]⟩ := by kernel_rfl
theorem ti_86 : ti 86 = some ⟨1, 8, .other, [.nilFunc]⟩ := by kernel_rfl
theorem ti_87 : ti 87 = some ⟨1, 8, .other, [.nilFunc]⟩ := by kernel_rfl
theorem ti_88 : ti 88 = some ⟨4, 32, .struct [(0, 3), (1, 3), (2, 3), (3, 3)], [.int .i64 0, .int .i64 0, .int .i64 0, .int .i64 0]⟩ := by kernel_rfl
theorem ti_89 : ti 89 = some ⟨4, 32, .struct [(0, 3), (1, 3), (2, 3), (3, 3)], [.int .i64 0, .int .i64 0, .int .i64 0, .int .i64 0]⟩ := by kernel_rfl
theorem ti_90 : ti 90 = some ⟨1, 8, .other, [.nilFunc]⟩ := by kernel_rfl
theorem ti_91 : ti 91 = some ⟨1, 8, .other, [.nilFunc]⟩ := by kernel_rfl
theorem ti_92 : ti 92 = some ⟨1, 8, .other, [.nilFunc]⟩ := by kernel_rfl
theorem ti_93 : ti 93 = some ⟨1, 8, .other, [.nilFunc]⟩ := by kernel_rfl
theorem ti_94 : ti 94 = some ⟨1, 8, .other, [.nilFunc]⟩ := by kernel_rfl
theorem ti_96 : ti 96 = some ⟨1, 8, .other, [.nilFunc]⟩ := by kernel_rfl
theorem ti_97 : ti 97 = some ⟨1, 8, .other, [.nilFunc]⟩ := by kernel_rfl
theorem ti_98 : ti 98 = some ⟨3, 24, .struct [(0, 3), (1, 3), (2, 3)], [.int .i64 0, .int .i64 0, .int .i64 0]⟩ := by kernel_rfl
theorem ti_99 : ti 99 = some ⟨3, 24, .struct [(0, 3), (1, 3), (2, 3)], [.int .i64 0, .int .i64 0, .int .i64 0]⟩ := by kernel_rfl
theorem ti_100 : ti 100 = some ⟨1, 8, .other, [.nilFunc]⟩ := by kernel_rfl
theorem ti_101 : ti 101 = some ⟨1, 8, .other, [.nilFunc]⟩ := by kernel_rfl
theorem ti_102 : ti 102 = some ⟨1, 8, .other, [.nilFunc]⟩ := by kernel_rfl
theorem ti_103 : ti 103 = some ⟨1, 8, .other, [.nilFunc]⟩ := by kernel_rfl
theorem ti_104 : ti 104 = some ⟨1, 8, .other, [.nilFunc]⟩ := by kernel_rfl
theorem ti_105 : ti 105 = some ⟨1, 8, .other, [.nilFunc]⟩ := by kernel_rfl
theorem ti_106 : ti 106 = some ⟨1, 8, .other, [.nilFunc]⟩ := by kernel_rfl
theorem ti_107 : ti 107 = some ⟨1, 8, .other, [.nilFunc]⟩ := by kernel_rfl
theorem ti_108 : ti 108 = some ⟨1, 8, .other, [.nilFunc]⟩ := by kernel_rfl
theorem ti_109 : ti 109 = some ⟨1, 8, .other, [.nilFunc]⟩ := by kernel_rfl
theorem ti_110 : ti 110 = some ⟨1, 24, .slice 3, [.slice none 0 0]⟩ := by kernel_rfl
theorem ti_111 : ti 111 = some ⟨1, 8, .other, [.nilFunc]⟩ := by kernel_rfl
theorem ti_112 : ti 112 = some ⟨1, 8, .other, [.nilFunc]⟩ := by kernel_rfl
theorem ti_113 : ti 113 = some ⟨1, 8, .other, [.nilFunc]⟩ := by kernel_rfl
theorem ti_114 : ti 114 = some ⟨1, 8, .other, [.nilFunc]⟩ := by kernel_rfl
theorem ti_115 : ti 115 = some ⟨1, 8, .other, [.nilFunc]⟩ := by kernel_rfl
theorem ti_116 : ti 116 = some ⟨1, 8, .int .u64, [.int .u64 0]⟩ := by kernel_rfl
theorem ti_117 : ti 117 = some ⟨1, 8, .other, [.nilFunc]⟩ := by kernel_rfl
theorem ti_118 : ti 118 = some ⟨1, 8, .other, [.nilFunc]⟩ := by kernel_rfl
theorem ti_119 : ti 119 = some ⟨1, 8, .other, [.nilFunc]⟩ := by kernel_rfl
theorem ti_120 : ti 120 = some ⟨4, 40, .struct [(0, 17), (1, 17), (2, 17), (3, 9)], [.pointer none, .pointer none, .pointer none, .string ⟨#[]⟩]⟩ := by kernel_rfl
theorem ti_121 : ti 121 = some ⟨4, 40, .struct [(0, 17), (1, 17), (2, 17), (3, 9)], [.pointer none, .pointer none, .pointer none, .string ⟨#[]⟩]⟩ := by kernel_rfl
theorem ti_125 : ti 125 = some ⟨1, 8, .other, [.nilFunc]⟩ := by kernel_rfl
theorem ti_126 : ti 126 = some ⟨1, 4, .int .u32, [.int .u32 0]⟩ := by kernel_rfl
theorem ti_127 : ti 127 = some ⟨1, 1, .int .u8, [.int .u8 0]⟩ := by kernel_rfl
theorem ti_128 : ti 128 = some ⟨1, 1, .int .u8, [.int .u8 0]⟩ := by kernel_rfl
theorem ti_129 : ti 129 = some ⟨1, 8, .other, [.nilFunc]⟩ := by kernel_rfl
theorem ti_130 : ti 130 = some ⟨1, 8, .other, [.pointer none]⟩ := by kernel_rfl
theorem ti_131 : ti 131 = some ⟨1, 4, .int .i32, [.int .i32 0]⟩ := by kernel_rfl
theorem ti_132 : ti 132 = some ⟨1, 4, .int .i32, [.int .i32 0]⟩ := by kernel_rfl
theorem ti_133 : ti 133 = some ⟨11, 48, .struct [(0, 12), (1, 12), (2, 126), (3, 127), (4, 5), (5, 5), (6, 128), (7, 129), (8, 130), (9, 131), (10, 132)], [.int .u64 0, .int .u64 0, .int .u32 0, .int .u8 0, .int .u8 0, .int .u8 0, .int .u8 0, .nilFunc, .pointer none, .int .i32 0, .int .i32 0]⟩ := by kernel_rfl
theorem ti_134 : ti 134 = some ⟨11, 48, .struct [(0, 12), (1, 12), (2, 126), (3, 127), (4, 5), (5, 5), (6, 128), (7, 129), (8, 130), (9, 131), (10, 132)], [.int .u64 0, .int .u64 0, .int .u32 0, .int .u8 0, .int .u8 0, .int .u8 0, .int .u8 0, .nilFunc, .pointer none, .int .i32 0, .int .i32 0]⟩ := by kernel_rfl
theorem tiOk : TOk Try.prog ti := TOk.of_list (by kernel_rfl)
theorem mixed : Try.prog.follows .mixedOrders = true := by kernel_rfl
end Am
end Go.Proofs.Ytcgdhankllphgaa
