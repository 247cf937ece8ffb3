/- What must come of package props, whatever the arguments are. -/
import Derived.Test.YtknpbeekdjghgaaDoorPpG
namespace Go.Proofs.YtknpbeekdjghgaaDoor.pp
set_option linter.unusedSimpArgs false
open Go.ChangeShapes Go.WideShapes Go.ChangeAt Go.RowKit Go.Proofs.Aid
open Go.Proofs.YtknpbeekdjghgaaDoor.rgy (En)
open Go.Proofs.YtknpbeekdjghgaaDoor.nm (Lets num numV numR)
abbrev sT : ByteArray := ⟨#[116]⟩
abbrev sB : ByteArray := ⟨#[98]⟩
abbrev sN1 : ByteArray := ⟨#[110, 49]⟩
abbrev aX : En := ⟨⟨#[112, 114, 111, 112, 47, 116, 47, 98, 47, 110]⟩, ⟨1, ⟨#[110, 49]⟩, ⟨#[50]⟩⟩⟩
theorem itoa_2 : Lib.itoa 2 = [50] := by
  unfold Lib.itoa
  rw [if_neg (by decide), show (2 : Int).toNat = 2 from rfl, Lib.decDigits_one (by decide)]
  rfl
theorem dec_2 : nm.dec 2 = ⟨#[50]⟩ := by unfold nm.dec; rw [itoa_2]
theorem num_2 : num ⟨#[50]⟩ = some 2 := by
  show Go.Proofs.YtknpbeekdjghgaaDoor.num.numD [50] = _
  rw [← itoa_2]
  exact Go.Proofs.YtknpbeekdjghgaaDoor.num.num_itoa 2 (by decide) (by decide)
theorem num_0 : num ⟨#[]⟩ = none := rfl
theorem aw1 : setP [] sN1 sT sB fN 2 = (aX, 0) := by unfold setP; rw [dec_2]; kernel_rfl
theorem aw3 : setP [] sN1 sT sB fN 17 = ((⟨⟨#[]⟩, ⟨0, ⟨#[]⟩, ⟨#[]⟩⟩⟩ : En), 1) := by
  have h : mayF fN 17 = false := by decide
  unfold setP
  rw [h, Bool.and_false]
  rfl
theorem fld_none {l : List En} {t b f : ByteArray} {u : Int} (h : (rgy.get l (pkey t b f)).value = ⟨#[]⟩) : fieldV l t b f u = u := by
  unfold fieldV
  rw [h, num_0]; rfl
theorem fld_n : fieldV [aX] sT sB fN 3 = 2 := by
  have h : (rgy.get [aX] (pkey sT sB fN)).value = ⟨#[50]⟩ := by kernel_rfl
  unfold fieldV numV
  rw [h, num_2]; rfl
theorem aw2 : ofV [aX] sT sB = .agg (prCells 2 2 2 0 0 true true false) := by
  unfold ofV ofG
  rw [fld_n, fld_none (f := fR) (by kernel_rfl), fld_none (f := fW) (by kernel_rfl), fld_none (f := fPR) (by kernel_rfl), fld_none (f := fPW) (by kernel_rfl), fld_none (f := fSev) (by kernel_rfl), fld_none (f := fMis) (by kernel_rfl), fld_none (f := fBas) (by kernel_rfl)]
  rfl
theorem aw4 : checkP 2 2 2 0 0 = 0 := by decide +kernel
theorem aw5 : strictP 2 2 2 0 0 = false := by decide +kernel
theorem aw6 : strictP 3 1 1 2 2 = true := by decide +kernel
theorem szn : ∀ r ∈ ([] : List En), r.sz := by simp
theorem short_x : short [aX] := by
  intro x hx
  rw [List.mem_singleton.1 hx]
  decide
theorem eqlP_same (n r q pr pw : Int) (s m b : Bool) (w : World) : (binOp .eql 26 (.agg (prCells n r q pr pw s m b)) (.agg (prCells n r q pr pw s m b))).run Tryd.prog w = .ok (.bool true) w := by
  go_simp
set_option maxRecDepth 100000 in
set_option maxHeartbeats 8000000 in
theorem awake_any (W : World) (HLt : Hid (Lets W)) : Calls Tryd.prog 8 #[] W fun e w' => e = .returned (.bool true) ∧ Below W.heap.size W w' := by
  go_enter Tryd.func8, Tryd.ntmps8
  go_wp2_with fail
  refine (set_any W none 0 [] sN1 sT sB fN 2 (by decide) Reads.none_ szn (by decide) (by decide) (by decide) (by decide) HLt).mono ?_
  rw [aw1]
  rintro e w1 ⟨rfl, hb⟩
  have HX := Lib.hid (Blk.new w1 34 #[.string ⟨#[112, 114, 111, 112, 47, 116, 47, 98, 47, 110]⟩, .int .i64 1, .string ⟨#[110, 49]⟩, .string ⟨#[50]⟩])
  have HL := Lib.hid (hb.alloc hb.size (.cells #[.string ⟨#[112, 114, 111, 112, 47, 116, 47, 98, 47, 110]⟩, .int .i64 1, .string ⟨#[110, 49]⟩, .string ⟨#[50]⟩] 34))
  clear hb
  have HM : Hid (Reads ((w1.alloc (.cells #[.string ⟨#[112, 114, 111, 112, 47, 116, 47, 98, 47, 110]⟩, .int .i64 1, .string ⟨#[110, 49]⟩, .string ⟨#[50]⟩] 34)).alloc (.cells #[.string ⟨#[112, 114, 111, 112, 47, 116, 47, 98, 47, 110]⟩, .int .i64 1, .string ⟨#[110, 49]⟩, .string ⟨#[50]⟩] 34)) ((w1.alloc (.cells #[.string ⟨#[112, 114, 111, 112, 47, 116, 47, 98, 47, 110]⟩, .int .i64 1, .string ⟨#[110, 49]⟩, .string ⟨#[50]⟩] 34)).alloc (.cells #[.string ⟨#[112, 114, 111, 112, 47, 116, 47, 98, 47, 110]⟩, .int .i64 1, .string ⟨#[110, 49]⟩, .string ⟨#[50]⟩] 34)).heap.size 4 (some ⟨(w1.alloc (.cells #[.string ⟨#[112, 114, 111, 112, 47, 116, 47, 98, 47, 110]⟩, .int .i64 1, .string ⟨#[110, 49]⟩, .string ⟨#[50]⟩] 34)).heap.size, 0, none⟩) [aX].length ([aX].flatMap En.cells)) := Lib.hid (lit1 (f := En.cells) (w1.alloc (.cells #[.string ⟨#[112, 114, 111, 112, 47, 116, 47, 98, 47, 110]⟩, .int .i64 1, .string ⟨#[110, 49]⟩, .string ⟨#[50]⟩] 34)) 34 [aX] En.len)
  replace HL := Lib.hid (HL.out.alloc HL.out.size (.cells #[.string ⟨#[112, 114, 111, 112, 47, 116, 47, 98, 47, 110]⟩, .int .i64 1, .string ⟨#[110, 49]⟩, .string ⟨#[50]⟩] 34))
  replace HX := Lib.hid (HX.out.alloc (.cells #[.string ⟨#[112, 114, 111, 112, 47, 116, 47, 98, 47, 110]⟩, .int .i64 1, .string ⟨#[110, 49]⟩, .string ⟨#[50]⟩] 34))
  have hsz := World.size_alloc w1 (.cells #[.string ⟨#[112, 114, 111, 112, 47, 116, 47, 98, 47, 110]⟩, .int .i64 1, .string ⟨#[110, 49]⟩, .string ⟨#[50]⟩] 34)
  rw [hsz] at HM
  clear hsz
  go_wp2_with fail
  generalize (w1.alloc (.cells #[.string ⟨#[112, 114, 111, 112, 47, 116, 47, 98, 47, 110]⟩, .int .i64 1, .string ⟨#[110, 49]⟩, .string ⟨#[50]⟩] 34)).alloc (.cells #[.string ⟨#[112, 114, 111, 112, 47, 116, 47, 98, 47, 110]⟩, .int .i64 1, .string ⟨#[110, 49]⟩, .string ⟨#[50]⟩] 34) = wa at *
  refine (of_any wa _ 1 [aX] sT sB (by decide) HM.out short_x (by decide) (by decide) (Lib.hid (HLt.out.next HL.out))).mono ?_
  rw [aw2]
  rintro e w2 ⟨rfl, hb⟩
  replace HX := Lib.hid (Blk.below (Hid.out HX) hb (Hid.out HX).lt)
  replace HL := Lib.hid ((Hid.out HL).trans (hb.mono (Hid.out HL).size))
  clear hb
  clear HM
  have HP := Lib.hid (Blk.new w2 26 (prCells 2 2 2 0 0 true true false))
  replace HL := Lib.hid (HL.out.alloc HL.out.size (.cells (prCells 2 2 2 0 0 true true false) 26))
  replace HX := Lib.hid (HX.out.alloc (.cells (prCells 2 2 2 0 0 true true false) 26))
  go_wp2_with fail
  generalize w2.alloc (.cells (prCells 2 2 2 0 0 true true false) 26) = w3 at *
  refine (set_any w3 none 0 [] sN1 sT sB fN 17 (by decide) Reads.none_ szn (by decide) (by decide) (by decide) (by decide) (Lib.hid (HLt.out.next HL.out))).mono ?_
  rw [aw3]
  rintro e w4 ⟨rfl, hb⟩
  replace HX := Lib.hid (Blk.below (Hid.out HX) hb (Hid.out HX).lt)
  replace HP := Lib.hid (Blk.below (Hid.out HP) hb (Hid.out HP).lt)
  replace HL := Lib.hid ((Hid.out HL).trans (hb.mono (Hid.out HL).size))
  clear hb
  replace HL := Lib.hid (HL.out.alloc HL.out.size (.cells #[.string ⟨#[]⟩, .int .i64 0, .string ⟨#[]⟩, .string ⟨#[]⟩] 34))
  replace HX := Lib.hid (HX.out.alloc (.cells #[.string ⟨#[]⟩, .int .i64 0, .string ⟨#[]⟩, .string ⟨#[]⟩] 34))
  replace HP := Lib.hid (HP.out.alloc (.cells #[.string ⟨#[]⟩, .int .i64 0, .string ⟨#[]⟩, .string ⟨#[]⟩] 34))
  have x0 : (w4.alloc (.cells #[.string ⟨#[]⟩, .int .i64 0, .string ⟨#[]⟩, .string ⟨#[]⟩] 34)).cell? ⟨w1.heap.size, 0, none⟩ = some (.string ⟨#[112, 114, 111, 112, 47, 116, 47, 98, 47, 110]⟩) := by rw [HX.out.cell]; rfl
  have x1 : (w4.alloc (.cells #[.string ⟨#[]⟩, .int .i64 0, .string ⟨#[]⟩, .string ⟨#[]⟩] 34)).cell? ⟨w1.heap.size, 1, none⟩ = some (.int .i64 1) := by rw [HX.out.cell]; rfl
  have x2 : (w4.alloc (.cells #[.string ⟨#[]⟩, .int .i64 0, .string ⟨#[]⟩, .string ⟨#[]⟩] 34)).cell? ⟨w1.heap.size, 2, none⟩ = some (.string ⟨#[110, 49]⟩) := by rw [HX.out.cell]; rfl
  have x3 : (w4.alloc (.cells #[.string ⟨#[]⟩, .int .i64 0, .string ⟨#[]⟩, .string ⟨#[]⟩] 34)).cell? ⟨w1.heap.size, 3, none⟩ = some (.string ⟨#[50]⟩) := by rw [HX.out.cell]; rfl
  have y0 : (w4.alloc (.cells #[.string ⟨#[]⟩, .int .i64 0, .string ⟨#[]⟩, .string ⟨#[]⟩] 34)).cell? ⟨w2.heap.size, 0, none⟩ = some (.int .i64 2) := by rw [HP.out.cell]; rfl
  have y1 : (w4.alloc (.cells #[.string ⟨#[]⟩, .int .i64 0, .string ⟨#[]⟩, .string ⟨#[]⟩] 34)).cell? ⟨w2.heap.size, 1, none⟩ = some (.int .i64 2) := by rw [HP.out.cell]; rfl
  have y2 : (w4.alloc (.cells #[.string ⟨#[]⟩, .int .i64 0, .string ⟨#[]⟩, .string ⟨#[]⟩] 34)).cell? ⟨w2.heap.size, 2, none⟩ = some (.int .i64 2) := by rw [HP.out.cell]; rfl
  have y3 : (w4.alloc (.cells #[.string ⟨#[]⟩, .int .i64 0, .string ⟨#[]⟩, .string ⟨#[]⟩] 34)).cell? ⟨w2.heap.size, 3, none⟩ = some (.int .i64 0) := by rw [HP.out.cell]; rfl
  have y4 : (w4.alloc (.cells #[.string ⟨#[]⟩, .int .i64 0, .string ⟨#[]⟩, .string ⟨#[]⟩] 34)).cell? ⟨w2.heap.size, 4, none⟩ = some (.int .i64 0) := by rw [HP.out.cell]; rfl
  have y5 : (w4.alloc (.cells #[.string ⟨#[]⟩, .int .i64 0, .string ⟨#[]⟩, .string ⟨#[]⟩] 34)).cell? ⟨w2.heap.size, 5, none⟩ = some (.bool true) := by rw [HP.out.cell]; rfl
  have y6 : (w4.alloc (.cells #[.string ⟨#[]⟩, .int .i64 0, .string ⟨#[]⟩, .string ⟨#[]⟩] 34)).cell? ⟨w2.heap.size, 6, none⟩ = some (.bool true) := by rw [HP.out.cell]; rfl
  have y7 : (w4.alloc (.cells #[.string ⟨#[]⟩, .int .i64 0, .string ⟨#[]⟩, .string ⟨#[]⟩] 34)).cell? ⟨w2.heap.size, 7, none⟩ = some (.bool false) := by rw [HP.out.cell]; rfl
  have heq := eqlP_same 2 2 2 0 0 true true false
  have heq2 := eqlP_same 3 2 2 0 0 true true false
  go_wp2_with fail
  clear x0 x1 x2 x3 y0 y1 y2 y3 y4 y5 y6 y7
  generalize w4.alloc (.cells #[.string ⟨#[]⟩, .int .i64 0, .string ⟨#[]⟩, .string ⟨#[]⟩] 34) = w5 at *
  refine (check_any 2 2 2 0 0 true true false w5).mono ?_
  rw [aw4]
  rintro e w6 ⟨rfl, hb⟩
  replace HP := Lib.hid (Blk.below (Hid.out HP) hb (Hid.out HP).lt)
  replace HL := Lib.hid ((Hid.out HL).trans (hb.mono (Hid.out HL).size))
  clear hb
  have y0 : w6.cell? ⟨w2.heap.size, 0, none⟩ = some (.int .i64 2) := by rw [HP.out.cell]; rfl
  have y1 : w6.cell? ⟨w2.heap.size, 1, none⟩ = some (.int .i64 2) := by rw [HP.out.cell]; rfl
  have y2 : w6.cell? ⟨w2.heap.size, 2, none⟩ = some (.int .i64 2) := by rw [HP.out.cell]; rfl
  have y3 : w6.cell? ⟨w2.heap.size, 3, none⟩ = some (.int .i64 0) := by rw [HP.out.cell]; rfl
  have y4 : w6.cell? ⟨w2.heap.size, 4, none⟩ = some (.int .i64 0) := by rw [HP.out.cell]; rfl
  have y5 : w6.cell? ⟨w2.heap.size, 5, none⟩ = some (.bool true) := by rw [HP.out.cell]; rfl
  have y6 : w6.cell? ⟨w2.heap.size, 6, none⟩ = some (.bool true) := by rw [HP.out.cell]; rfl
  have y7 : w6.cell? ⟨w2.heap.size, 7, none⟩ = some (.bool false) := by rw [HP.out.cell]; rfl
  go_wp2_with fail
  refine (strict_any 2 2 2 0 0 true true false w6).mono ?_
  rw [aw5]
  rintro e w7 ⟨rfl, hb⟩
  replace HL := Lib.hid ((Hid.out HL).trans (hb.mono (Hid.out HL).size))
  clear hb
  clear HP y0 y1 y2 y3 y4 y5 y6 y7
  go_wp2_with fail
  refine (strict_any 3 1 1 2 2 false false false w7).mono ?_
  rw [aw6]
  rintro e w8 ⟨rfl, hb⟩
  replace HL := Lib.hid ((Hid.out HL).trans (hb.mono (Hid.out HL).size))
  clear hb
  go_wp2_with fail
  refine (default_any w8).mono ?_
  rintro e w9 ⟨rfl, hb⟩
  replace HL := Lib.hid ((Hid.out HL).trans (hb.mono (Hid.out HL).size))
  clear hb
  go_wp2_with fail
  refine (rdefault_any w9).mono ?_
  rintro e w10 ⟨rfl, hb⟩
  replace HL := Lib.hid ((Hid.out HL).trans (hb.mono (Hid.out HL).size))
  clear hb
  go_wp2
  go_ret
  exact ⟨rfl, HL.out⟩
end Go.Proofs.YtknpbeekdjghgaaDoor.pp
