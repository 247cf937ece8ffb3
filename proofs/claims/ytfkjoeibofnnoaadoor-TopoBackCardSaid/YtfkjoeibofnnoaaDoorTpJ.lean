/- What must come, whatever the arguments are. -/
import Derived.Test.YtfkjoeibofnnoaaDoorTpH
import Derived.Test.YtfkjoeibofnnoaaDoorTpF
namespace Go.Proofs.YtfkjoeibofnnoaaDoor.tp
set_option linter.unusedSimpArgs false
open Go.ChangeShapes Go.WideShapes Go.ChangeAt Go.RowKit Go.Proofs.Aid
open Go.Proofs.YtfkjoeibofnnoaaDoor.nm (Lets)
open Go.Proofs.YtfkjoeibofnnoaaDoor.texts (tc)
open Go.Proofs.YtfkjoeibofnnoaaDoor.rgy (En)
abbrev n1 : ByteArray := ⟨#[110, 49]⟩
abbrev r1 : ByteArray := ⟨#[114, 49]⟩
abbrev z1 : ByteArray := ⟨#[122, 49]⟩
abbrev sv : ByteArray := ⟨#[114, 49, 47, 122, 49, 47, 117, 112]⟩
abbrev sg : ByteArray := ⟨#[114, 49, 47, 122, 49, 47, 103, 111, 110, 101]⟩
abbrev m1 : Mb := ⟨n1, r1, z1, true⟩
abbrev mC : Array Value := #[.string n1, .string r1, .string z1, .bool true]
abbrev kn1 : ByteArray := ⟨#[110, 111, 100, 101, 47, 110, 49]⟩
abbrev kn2 : ByteArray := ⟨#[110, 111, 100, 101, 47, 110, 50]⟩
abbrev e1 : En := ⟨kn1, 1, ⟨#[]⟩, sv⟩
abbrev e2 : En := ⟨kn2, 1, ⟨#[]⟩, ⟨#[120]⟩⟩
abbrev eC : Array Value := #[.string kn1, .int .i64 1, .string ⟨#[]⟩, .string sv, .string kn2, .int .i64 1, .string ⟨#[]⟩, .string ⟨#[120]⟩]
theorem a_value : valR r1 z1 true = .returned (.tuple #[.string sv, .int .i64 0]) := by kernel_rfl
theorem a_yes : memR n1 sv = .returned (.tuple #[.agg mC, .bool true]) := by kernel_rfl
theorem a_no : memR n1 sg = .returned (.tuple #[.agg zc, .bool false]) := by kernel_rfl
theorem a_key : keyS n1 = kn1 := by kernel_rfl
theorem a_mems : mems [e1, e2] = [m1] := by kernel_rfl
theorem a_set : setT [r1] = [[114, 49]] := by kernel_rfl
theorem a_set2 : setT [z1] = [[122, 49]] := by kernel_rfl
theorem eqlM_same (x : Mb) (w : World) : (binOp .eql 26 x.val x.val).run Tryd.prog w = .ok (.bool true) w := by
  obtain ⟨k, n, b, v⟩ := x
  go_simp
set_option maxRecDepth 100000 in
set_option maxHeartbeats 4000000 in
theorem awake_any (w : World) (HLt : Hid (Lets w)) : Calls Tryd.prog 7 #[] w fun e w' => e = .returned (.bool true) ∧ Below w.heap.size w w' := by
  have HL := Lib.hid (below_lit w (.cells mC 26))
  have HB := Lib.hid (Blk.new w 26 mC)
  go_enter Tryd.func7, Tryd.ntmps7
  go_wp2_with fail
  generalize w.alloc (.cells mC 26) = w0 at *
  refine (value_any n1 r1 z1 true w0 (by decide) (by decide)).mono ?_
  rw [a_value]
  rintro e w1 ⟨rfl, hb⟩
  replace HL := Lib.hid (HL.out.trans (hb.mono HL.out.size))
  replace HB := Lib.hid (HB.out.below hb HB.out.lt)
  clear hb
  go_wp2_with fail
  refine (member_any n1 sv w1 (by decide) (by decide) (Lib.hid (HLt.out.next HL.out))).mono ?_
  rw [a_yes]
  rintro e w2 ⟨rfl, hb⟩
  replace HL := Lib.hid (HL.out.trans (hb.mono HL.out.size))
  replace HB := Lib.hid (HB.out.below hb HB.out.lt)
  clear hb
  have HX := Lib.hid (Blk.new w2 26 mC)
  have hgz := HL.out.size
  replace HL := Lib.hid (HL.out.alloc hgz (.cells mC 26))
  replace HB := Lib.hid (HB.out.alloc (.cells mC 26))
  generalize hgx : w2.heap.size = gx at *
  go_wp2_with fail
  generalize w2.alloc (.cells mC 26) = w3 at *
  clear hgx hgz
  refine (member_any n1 sg w3 (by decide) (by decide) (Lib.hid (HLt.out.next HL.out))).mono ?_
  rw [a_no]
  rintro e w4 ⟨rfl, hb⟩
  replace HL := Lib.hid (HL.out.trans (hb.mono HL.out.size))
  replace HB := Lib.hid (HB.out.below hb HB.out.lt)
  replace HX := Lib.hid (HX.out.below hb HX.out.lt)
  clear hb
  replace HL := Lib.hid (HL.out.alloc HL.out.size (.cells zc 26))
  replace HB := Lib.hid (HB.out.alloc (.cells zc 26))
  replace HX := Lib.hid (HX.out.alloc (.cells zc 26))
  go_wp2_with fail
  generalize w4.alloc (.cells zc 26) = w5 at *
  refine (key_any n1 w5 (by decide)).mono ?_
  rw [a_key]
  rintro e w6 ⟨rfl, hb⟩
  replace HL := Lib.hid (HL.out.trans (hb.mono HL.out.size))
  replace HB := Lib.hid (HB.out.below hb HB.out.lt)
  replace HX := Lib.hid (HX.out.below hb HX.out.lt)
  clear hb
  replace HL := Lib.hid (HL.out.alloc HL.out.size (.cells eC 46))
  replace HB := Lib.hid (HB.out.alloc (.cells eC 46))
  replace HX := Lib.hid (HX.out.alloc (.cells eC 46))
  have HR : Hid (Reads (w6.alloc (.cells eC 46)) (w6.alloc (.cells eC 46)).heap.size 4 (some ⟨w6.heap.size, 0, none⟩) [e1, e2].length ([e1, e2].flatMap En.cells)) := lit1 (f := En.cells) (size := 4) w6 46 [e1, e2] (fun _ => rfl)
  go_wp2_with fail
  generalize w6.alloc (.cells eC 46) = w7 at *
  refine (members_any w7 (some ⟨w6.heap.size, 0, none⟩) 2 [e1, e2] (by decide) HR.out (by simp [En.sz, maxLen]; decide) (by simp; decide) (Lib.hid (HLt.out.next HL.out))).mono ?_
  rw [a_mems]
  rintro e w8 ⟨v8, rfl, hrow, hb⟩
  obtain ⟨A8, c8, rfl, hR8⟩ := hrow.reads
  replace HL := Lib.hid (HL.out.trans (hb.mono HL.out.size))
  replace HB := Lib.hid (HB.out.below hb HB.out.lt)
  replace HX := Lib.hid (HX.out.below hb HX.out.lt)
  have H8 := Lib.hid hR8
  clear hb hrow hR8 HR
  have b0 : w8.cell? ⟨w.heap.size, 0, none⟩ = some (.string n1) := HB.out.cell 0
  have b1 : w8.cell? ⟨w.heap.size, 1, none⟩ = some (.string r1) := HB.out.cell 1
  have b2 : w8.cell? ⟨w.heap.size, 2, none⟩ = some (.string z1) := HB.out.cell 2
  have b3 : w8.cell? ⟨w.heap.size, 3, none⟩ = some (.bool true) := HB.out.cell 3
  have x0 : w8.cell? ⟨gx, 0, none⟩ = some (.string n1) := HX.out.cell 0
  have x1 : w8.cell? ⟨gx, 1, none⟩ = some (.string r1) := HX.out.cell 1
  have x2 : w8.cell? ⟨gx, 2, none⟩ = some (.string z1) := HX.out.cell 2
  have x3 : w8.cell? ⟨gx, 3, none⟩ = some (.bool true) := HX.out.cell 3
  have HS : Hid (Reads (w8.alloc (.cells mC 26)) (w8.alloc (.cells mC 26)).heap.size 4 (some ⟨w8.heap.size, 0, none⟩) [m1].length ([m1].flatMap Mb.cells)) := lit1 (f := Mb.cells) (size := 4) w8 26 [m1] (fun _ => rfl)
  have hl9 := below_lit w8 (.cells mC 26)
  replace HL := Lib.hid (HL.out.trans (hl9.mono HL.out.size))
  replace H8 := Lib.hid (H8.out.more_below hl9)
  clear hl9
  have hq := eqlM_same m1
  go_wp2_with fail
  clear b0 b1 b2 b3 x0 x1 x2 x3
  generalize w8.alloc (.cells mC 26) = w9 at *
  refine (rsame_any w9 A8 (some ⟨w8.heap.size, 0, none⟩) c8 1 [m1] [m1] (by decide) (by decide) H8.out HS.out).mono ?_
  rw [show decide ([m1] = [m1]) = true by simp]
  rintro e w10 ⟨rfl, hb⟩
  replace HL := Lib.hid (HL.out.trans (hb.mono HL.out.size))
  replace H8 := Lib.hid (H8.out.more_below hb)
  clear hb HS HX HB hq
  go_wp2_with fail
  refine (up_any w10 A8 c8 [m1] (by decide) H8.out).mono ?_
  rw [show [m1].filter Mb.u = [m1] from rfl]
  rintro e w11 ⟨v11, rfl, hrow, hb⟩
  obtain ⟨A11, c11, rfl, -⟩ := hrow.reads
  replace HL := Lib.hid (HL.out.trans (hb.mono HL.out.size))
  replace H8 := Lib.hid (H8.out.more_below hb)
  clear hb hrow
  go_wp2_with fail
  refine (racks_any w11 A8 c8 [m1] (by decide) H8.out).mono ?_
  rw [show setT ([m1].map Mb.r) = [[114, 49]] from a_set]
  rintro e w12 ⟨A12, c12, rfl, -, hR, hb⟩
  replace HL := Lib.hid (HL.out.trans (hb.mono HL.out.size))
  replace H8 := Lib.hid (H8.out.more_below hb)
  clear hb
  have hl := below_lit w12 (.cells #[.string r1] 9)
  have HT := Lib.hid (hR.more_below hl)
  have HS : Hid (Reads (w12.alloc (.cells #[.string r1] 9)) (w12.alloc (.cells #[.string r1] 9)).heap.size 1 (some ⟨w12.heap.size, 0, none⟩) [r1].length ([r1].flatMap tc)) := lit1 (f := tc) (size := 1) w12 9 [r1] (fun _ => rfl)
  replace HL := Lib.hid (HL.out.trans (hl.mono HL.out.size))
  replace H8 := Lib.hid (H8.out.more_below hl)
  clear hR hl
  go_wp2_with fail
  generalize w12.alloc (.cells #[.string r1] 9) = w13 at *
  refine (texts.sameTexts_same w13 A12 (some ⟨w12.heap.size, 0, none⟩) c12 1 [r1] (by decide) HT.out HS.out).mono ?_
  rintro e w14 ⟨rfl, hb⟩
  replace HL := Lib.hid (HL.out.trans (hb.mono HL.out.size))
  replace H8 := Lib.hid (H8.out.more_below hb)
  clear hb HS HT
  go_wp2_with fail
  refine (zones_any w14 A8 c8 [m1] (by decide) H8.out).mono ?_
  rw [show setT ([m1].map Mb.z) = [[122, 49]] from a_set2]
  rintro e w15 ⟨A15, c15, rfl, -, hR, hb⟩
  replace HL := Lib.hid (HL.out.trans (hb.mono HL.out.size))
  clear hb H8
  have hl := below_lit w15 (.cells #[.string z1] 9)
  have HT := Lib.hid (hR.more_below hl)
  have HS : Hid (Reads (w15.alloc (.cells #[.string z1] 9)) (w15.alloc (.cells #[.string z1] 9)).heap.size 1 (some ⟨w15.heap.size, 0, none⟩) [z1].length ([z1].flatMap tc)) := lit1 (f := tc) (size := 1) w15 9 [z1] (fun _ => rfl)
  replace HL := Lib.hid (HL.out.trans (hl.mono HL.out.size))
  clear hR hl
  go_wp2_with fail
  generalize w15.alloc (.cells #[.string z1] 9) = w16 at *
  refine (texts.sameTexts_same w16 A15 (some ⟨w15.heap.size, 0, none⟩) c15 1 [z1] (by decide) HT.out HS.out).mono ?_
  rintro e w17 ⟨rfl, hb⟩
  replace HL := Lib.hid (HL.out.trans (hb.mono HL.out.size))
  clear hb HS HT
  go_wp2
  go_ret
  exact ⟨rfl, HL.out⟩
end Go.Proofs.YtfkjoeibofnnoaaDoor.tp
