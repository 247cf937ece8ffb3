/- What must come of package tenant, whatever the arguments are. -/
import Derived.Test.YtjbompimlopdiaaGreatDoorTeG
import Derived.Test.YtjbompimlopdiaaGreatDoorTeH
namespace Go.Proofs.YtjbompimlopdiaaGreatDoor.te
set_option linter.unusedSimpArgs false
open Go.ChangeShapes Go.WideShapes Go.ChangeAt Go.RowKit Go.Proofs.Aid
open Go.Proofs.YtjbompimlopdiaaGreatDoor.rgy (En)
open Go.Proofs.YtjbompimlopdiaaGreatDoor.texts (tc)
open Go.Proofs.YtjbompimlopdiaaGreatDoor.nm (Lets num numV numR)
abbrev sT : ByteArray := ⟨#[116]⟩
abbrev s1 : ByteArray := ⟨#[115]⟩
abbrev sX : ByteArray := ⟨#[120]⟩
abbrev sN1 : ByteArray := ⟨#[110, 49]⟩
abbrev kX : ByteArray := ⟨#[116, 101, 110, 97, 110, 116, 47, 116, 47, 115, 101, 99, 114, 101, 116]⟩
abbrev kY : ByteArray := ⟨#[116, 101, 110, 97, 110, 116, 47, 116, 47, 114, 97, 116, 101]⟩
abbrev aX : En := ⟨kX, ⟨1, ⟨#[110, 49]⟩, ⟨#[115]⟩⟩⟩
abbrev aY : En := ⟨kY, ⟨1, ⟨#[110, 49]⟩, ⟨#[51]⟩⟩⟩
theorem itoa_3 : Lib.itoa 3 = [51] := by
  unfold Lib.itoa
  rw [if_neg (by decide), show (3 : Int).toNat = 3 from rfl, Lib.decDigits_one (by decide)]
  rfl
theorem dec_3 : nm.dec 3 = ⟨#[51]⟩ := by unfold nm.dec; rw [itoa_3]
theorem num_3 : num ⟨#[51]⟩ = some 3 := by
  show Go.Proofs.YtjbompimlopdiaaGreatDoor.num.numD [51] = _
  rw [← itoa_3]
  exact Go.Proofs.YtjbompimlopdiaaGreatDoor.num.num_itoa 3 (by decide) (by decide)
theorem num_0 : num ⟨#[]⟩ = none := rfl
theorem aw1 : setS [] sN1 sT s1 = (aX, 0) := by kernel_rfl
theorem aw2 : setL [] sN1 sT fR 3 = (aY, 0) := by unfold setL; rw [dec_3]; kernel_rfl
theorem aw3 : setL [] sN1 sT fR (-1) = ((⟨⟨#[]⟩, ⟨0, ⟨#[]⟩, ⟨#[]⟩⟩⟩ : En), 1) := by
  have h : mayN (most fR) (-1) = false := by decide +kernel
  unfold setL
  rw [h, Bool.and_false]
  rfl
theorem lim_none {l : List En} {t f : ByteArray} {m u : Int} (h : (rgy.get l (tkey t f)).value = ⟨#[]⟩) : limV l t f m u = u := by
  unfold limV
  rw [h, num_0]; rfl
theorem lim_r : limV [aY, aX] sT fR 1048576 8 = 3 := by
  have h : (rgy.get [aY, aX] (tkey sT fR)).value = ⟨#[51]⟩ := by kernel_rfl
  unfold limV numV
  rw [h, num_3]; rfl
theorem is1 : isT [aY, aX] sT = true := by kernel_rfl
theorem is2 : isT [aY] sT = false := by kernel_rfl
theorem aw4 : ofT [aY, aX] sT = ⟨sT, s1, 1048576, 3, 16, 16⟩ := by
  rw [ofT_yes is1, lim_r, lim_none (f := fB) (by kernel_rfl), lim_none (f := fU) (by kernel_rfl), lim_none (f := fQ) (by kernel_rfl)]
  rfl
theorem aw5 : ofT [aY] sT = ⟨⟨#[]⟩, ⟨#[]⟩, 0, 0, 0, 0⟩ := ofT_no is2
theorem aw6 : allT [aY, aX] = [[116]] := by kernel_rfl
theorem aw7 : tkey sT sX = ⟨#[116, 101, 110, 97, 110, 116, 47, 116, 47, 120]⟩ := by kernel_rfl
theorem szn : ∀ r ∈ ([] : List En), r.sz := by simp
theorem sz2 : ∀ r ∈ [aY, aX], r.sz := by simp [En.sz, maxLen]; decide
theorem key2 : ∀ x ∈ [aY, aX], x.key.size ≤ 1000 := by simp; decide
theorem short2 : short [aY, aX] := by
  intro x hx
  rcases List.mem_cons.1 hx with h | h
  · rw [h]; decide
  · rw [List.mem_singleton.1 h]; decide
theorem short1 : short [aY] := by
  intro x hx
  rw [List.mem_singleton.1 hx]
  decide
theorem eqT_same (x : Ten) (w : World) : (binOp .eql 26 (.agg #[.string x.name, .string x.secret, .int .i64 x.b, .int .i64 x.r, .int .i64 x.u, .int .i64 x.q]) (.agg #[.string x.name, .string x.secret, .int .i64 x.b, .int .i64 x.r, .int .i64 x.u, .int .i64 x.q])).run Tryz.prog w = .ok (.bool true) w := by
  go_simp
set_option maxRecDepth 100000 in
set_option maxHeartbeats 8000000 in
theorem awake_any (W : World) (HLt : Hid (Lets W)) : Calls Tryz.prog 7 #[] W fun e w' => e = .returned (.bool true) ∧ Below W.heap.size W w' := by
  go_enter Tryz.func7, Tryz.ntmps7
  go_wp2_with fail
  refine (setS_any W none 0 [] sN1 sT s1 (by decide) Reads.none_ szn (by decide) (by decide) (by decide)).mono ?_
  rw [aw1]
  rintro e w1 ⟨rfl, hb⟩
  have HX := Lib.hid (Blk.new w1 38 #[.string kX, .int .i64 1, .string ⟨#[110, 49]⟩, .string ⟨#[115]⟩])
  have HL := Lib.hid hb
  clear hb
  replace HL := Lib.hid (HL.out.alloc HL.out.size (.cells #[.string kX, .int .i64 1, .string ⟨#[110, 49]⟩, .string ⟨#[115]⟩] 38))
  generalize hgx : w1.heap.size = gx at *
  go_wp2_with fail
  generalize w1.alloc (.cells #[.string kX, .int .i64 1, .string ⟨#[110, 49]⟩, .string ⟨#[115]⟩] 38) = w2 at *
  clear hgx
  refine (setL_any w2 none 0 [] sN1 sT fR 3 (by decide) Reads.none_ szn (by decide) (by decide) (by decide) ⟨by decide, by decide⟩ (Lib.hid (HLt.out.next HL.out))).mono ?_
  rw [aw2]
  rintro e w3 ⟨rfl, hb⟩
  replace HX := Lib.hid (Blk.below (Hid.out HX) hb (Hid.out HX).lt)
  replace HL := Lib.hid ((Hid.out HL).trans (hb.mono (Hid.out HL).size))
  clear hb
  have HY := Lib.hid (Blk.new w3 38 #[.string kY, .int .i64 1, .string ⟨#[110, 49]⟩, .string ⟨#[51]⟩])
  replace HL := Lib.hid (HL.out.alloc HL.out.size (.cells #[.string kY, .int .i64 1, .string ⟨#[110, 49]⟩, .string ⟨#[51]⟩] 38))
  replace HX := Lib.hid (HX.out.alloc (.cells #[.string kY, .int .i64 1, .string ⟨#[110, 49]⟩, .string ⟨#[51]⟩] 38))
  generalize hgy : w3.heap.size = gy at *
  go_wp2_with fail
  generalize w3.alloc (.cells #[.string kY, .int .i64 1, .string ⟨#[110, 49]⟩, .string ⟨#[51]⟩] 38) = w4 at *
  clear hgy
  refine (setL_any w4 none 0 [] sN1 sT fR (-1) (by decide) Reads.none_ szn (by decide) (by decide) (by decide) ⟨by decide, by decide⟩ (Lib.hid (HLt.out.next HL.out))).mono ?_
  rw [aw3]
  rintro e w5 ⟨rfl, hb⟩
  replace HX := Lib.hid (Blk.below (Hid.out HX) hb (Hid.out HX).lt)
  replace HY := Lib.hid (Blk.below (Hid.out HY) hb (Hid.out HY).lt)
  replace HL := Lib.hid ((Hid.out HL).trans (hb.mono (Hid.out HL).size))
  clear hb
  replace HL := Lib.hid (HL.out.alloc HL.out.size (.cells #[.string ⟨#[]⟩, .int .i64 0, .string ⟨#[]⟩, .string ⟨#[]⟩] 38))
  replace HX := Lib.hid (HX.out.alloc (.cells #[.string ⟨#[]⟩, .int .i64 0, .string ⟨#[]⟩, .string ⟨#[]⟩] 38))
  replace HY := Lib.hid (HY.out.alloc (.cells #[.string ⟨#[]⟩, .int .i64 0, .string ⟨#[]⟩, .string ⟨#[]⟩] 38))
  have x0 : (w5.alloc (.cells #[.string ⟨#[]⟩, .int .i64 0, .string ⟨#[]⟩, .string ⟨#[]⟩] 38)).cell? ⟨gx, 0, none⟩ = some (.string kX) := HX.out.cell 0; have x1 : (w5.alloc (.cells #[.string ⟨#[]⟩, .int .i64 0, .string ⟨#[]⟩, .string ⟨#[]⟩] 38)).cell? ⟨gx, 1, none⟩ = some (.int .i64 1) := HX.out.cell 1; have x2 : (w5.alloc (.cells #[.string ⟨#[]⟩, .int .i64 0, .string ⟨#[]⟩, .string ⟨#[]⟩] 38)).cell? ⟨gx, 2, none⟩ = some (.string ⟨#[110, 49]⟩) := HX.out.cell 2; have x3 : (w5.alloc (.cells #[.string ⟨#[]⟩, .int .i64 0, .string ⟨#[]⟩, .string ⟨#[]⟩] 38)).cell? ⟨gx, 3, none⟩ = some (.string ⟨#[115]⟩) := HX.out.cell 3
  have y0 : (w5.alloc (.cells #[.string ⟨#[]⟩, .int .i64 0, .string ⟨#[]⟩, .string ⟨#[]⟩] 38)).cell? ⟨gy, 0, none⟩ = some (.string kY) := HY.out.cell 0; have y1 : (w5.alloc (.cells #[.string ⟨#[]⟩, .int .i64 0, .string ⟨#[]⟩, .string ⟨#[]⟩] 38)).cell? ⟨gy, 1, none⟩ = some (.int .i64 1) := HY.out.cell 1; have y2 : (w5.alloc (.cells #[.string ⟨#[]⟩, .int .i64 0, .string ⟨#[]⟩, .string ⟨#[]⟩] 38)).cell? ⟨gy, 2, none⟩ = some (.string ⟨#[110, 49]⟩) := HY.out.cell 2; have y3 : (w5.alloc (.cells #[.string ⟨#[]⟩, .int .i64 0, .string ⟨#[]⟩, .string ⟨#[]⟩] 38)).cell? ⟨gy, 3, none⟩ = some (.string ⟨#[51]⟩) := HY.out.cell 3
  have HM : Hid (Reads ((w5.alloc (.cells #[.string ⟨#[]⟩, .int .i64 0, .string ⟨#[]⟩, .string ⟨#[]⟩] 38)).alloc (.cells #[.string kY, .int .i64 1, .string ⟨#[110, 49]⟩, .string ⟨#[51]⟩, .string kX, .int .i64 1, .string ⟨#[110, 49]⟩, .string ⟨#[115]⟩] 38)) ((w5.alloc (.cells #[.string ⟨#[]⟩, .int .i64 0, .string ⟨#[]⟩, .string ⟨#[]⟩] 38)).alloc (.cells #[.string kY, .int .i64 1, .string ⟨#[110, 49]⟩, .string ⟨#[51]⟩, .string kX, .int .i64 1, .string ⟨#[110, 49]⟩, .string ⟨#[115]⟩] 38)).heap.size 4 (some ⟨(w5.alloc (.cells #[.string ⟨#[]⟩, .int .i64 0, .string ⟨#[]⟩, .string ⟨#[]⟩] 38)).heap.size, 0, none⟩) [aY, aX].length ([aY, aX].flatMap En.cells)) := Lib.hid (lit1 (f := En.cells) (w5.alloc (.cells #[.string ⟨#[]⟩, .int .i64 0, .string ⟨#[]⟩, .string ⟨#[]⟩] 38)) 38 [aY, aX] En.len)
  have hsz := World.size_alloc w5 (.cells #[.string ⟨#[]⟩, .int .i64 0, .string ⟨#[]⟩, .string ⟨#[]⟩] 38)
  rw [hsz] at HM
  clear hsz
  replace HL := Lib.hid (HL.out.alloc HL.out.size (.cells #[.string kY, .int .i64 1, .string ⟨#[110, 49]⟩, .string ⟨#[51]⟩, .string kX, .int .i64 1, .string ⟨#[110, 49]⟩, .string ⟨#[115]⟩] 38))
  replace HX := Lib.hid (HX.out.alloc (.cells #[.string kY, .int .i64 1, .string ⟨#[110, 49]⟩, .string ⟨#[51]⟩, .string kX, .int .i64 1, .string ⟨#[110, 49]⟩, .string ⟨#[115]⟩] 38))
  replace HY := Lib.hid (HY.out.alloc (.cells #[.string kY, .int .i64 1, .string ⟨#[110, 49]⟩, .string ⟨#[51]⟩, .string kX, .int .i64 1, .string ⟨#[110, 49]⟩, .string ⟨#[115]⟩] 38))
  go_wp2_with fail
  clear x0 x1 x2 x3 y0 y1 y2 y3
  generalize (w5.alloc (.cells #[.string ⟨#[]⟩, .int .i64 0, .string ⟨#[]⟩, .string ⟨#[]⟩] 38)).alloc (.cells #[.string kY, .int .i64 1, .string ⟨#[110, 49]⟩, .string ⟨#[51]⟩, .string kX, .int .i64 1, .string ⟨#[110, 49]⟩, .string ⟨#[115]⟩] 38) = w6 at *
  refine (tof_any w6 _ 2 [aY, aX] sT (by decide) HM.out short2 (by decide) (Lib.hid (HLt.out.next HL.out))).mono ?_
  rw [aw4, is1]
  unfold Ten.cells
  rintro e w7 ⟨rfl, hb⟩
  replace HX := Lib.hid (Blk.below (Hid.out HX) hb (Hid.out HX).lt)
  replace HY := Lib.hid (Blk.below (Hid.out HY) hb (Hid.out HY).lt)
  replace HL := Lib.hid ((Hid.out HL).trans (hb.mono (Hid.out HL).size))
  clear hb
  clear HM
  have HT := Lib.hid (Blk.new w7 26 #[.string sT, .string s1, .int .i64 1048576, .int .i64 3, .int .i64 16, .int .i64 16])
  replace HL := Lib.hid (HL.out.alloc HL.out.size (.cells #[.string sT, .string s1, .int .i64 1048576, .int .i64 3, .int .i64 16, .int .i64 16] 26))
  replace HX := Lib.hid (HX.out.alloc (.cells #[.string sT, .string s1, .int .i64 1048576, .int .i64 3, .int .i64 16, .int .i64 16] 26))
  replace HY := Lib.hid (HY.out.alloc (.cells #[.string sT, .string s1, .int .i64 1048576, .int .i64 3, .int .i64 16, .int .i64 16] 26))
  generalize hgt : w7.heap.size = gt at *
  have y0 : (w7.alloc (.cells #[.string sT, .string s1, .int .i64 1048576, .int .i64 3, .int .i64 16, .int .i64 16] 26)).cell? ⟨gy, 0, none⟩ = some (.string kY) := HY.out.cell 0; have y1 : (w7.alloc (.cells #[.string sT, .string s1, .int .i64 1048576, .int .i64 3, .int .i64 16, .int .i64 16] 26)).cell? ⟨gy, 1, none⟩ = some (.int .i64 1) := HY.out.cell 1; have y2 : (w7.alloc (.cells #[.string sT, .string s1, .int .i64 1048576, .int .i64 3, .int .i64 16, .int .i64 16] 26)).cell? ⟨gy, 2, none⟩ = some (.string ⟨#[110, 49]⟩) := HY.out.cell 2; have y3 : (w7.alloc (.cells #[.string sT, .string s1, .int .i64 1048576, .int .i64 3, .int .i64 16, .int .i64 16] 26)).cell? ⟨gy, 3, none⟩ = some (.string ⟨#[51]⟩) := HY.out.cell 3
  have HM : Hid (Reads ((w7.alloc (.cells #[.string sT, .string s1, .int .i64 1048576, .int .i64 3, .int .i64 16, .int .i64 16] 26)).alloc (.cells #[.string kY, .int .i64 1, .string ⟨#[110, 49]⟩, .string ⟨#[51]⟩] 38)) ((w7.alloc (.cells #[.string sT, .string s1, .int .i64 1048576, .int .i64 3, .int .i64 16, .int .i64 16] 26)).alloc (.cells #[.string kY, .int .i64 1, .string ⟨#[110, 49]⟩, .string ⟨#[51]⟩] 38)).heap.size 4 (some ⟨(w7.alloc (.cells #[.string sT, .string s1, .int .i64 1048576, .int .i64 3, .int .i64 16, .int .i64 16] 26)).heap.size, 0, none⟩) [aY].length ([aY].flatMap En.cells)) := Lib.hid (lit1 (f := En.cells) (w7.alloc (.cells #[.string sT, .string s1, .int .i64 1048576, .int .i64 3, .int .i64 16, .int .i64 16] 26)) 38 [aY] En.len)
  have hsz := World.size_alloc w7 (.cells #[.string sT, .string s1, .int .i64 1048576, .int .i64 3, .int .i64 16, .int .i64 16] 26)
  rw [hsz, hgt] at HM
  clear hsz
  replace HL := Lib.hid (HL.out.alloc HL.out.size (.cells #[.string kY, .int .i64 1, .string ⟨#[110, 49]⟩, .string ⟨#[51]⟩] 38))
  replace HX := Lib.hid (HX.out.alloc (.cells #[.string kY, .int .i64 1, .string ⟨#[110, 49]⟩, .string ⟨#[51]⟩] 38))
  replace HY := Lib.hid (HY.out.alloc (.cells #[.string kY, .int .i64 1, .string ⟨#[110, 49]⟩, .string ⟨#[51]⟩] 38))
  replace HT := Lib.hid (HT.out.alloc (.cells #[.string kY, .int .i64 1, .string ⟨#[110, 49]⟩, .string ⟨#[51]⟩] 38))
  go_wp2_with fail
  clear y0 y1 y2 y3
  generalize (w7.alloc (.cells #[.string sT, .string s1, .int .i64 1048576, .int .i64 3, .int .i64 16, .int .i64 16] 26)).alloc (.cells #[.string kY, .int .i64 1, .string ⟨#[110, 49]⟩, .string ⟨#[51]⟩] 38) = w8 at *
  clear hgt
  refine (tof_any w8 _ 1 [aY] sT (by decide) HM.out short1 (by decide) (Lib.hid (HLt.out.next HL.out))).mono ?_
  rw [aw5, is2]
  unfold Ten.cells
  rintro e w9 ⟨rfl, hb⟩
  replace HX := Lib.hid (Blk.below (Hid.out HX) hb (Hid.out HX).lt)
  replace HY := Lib.hid (Blk.below (Hid.out HY) hb (Hid.out HY).lt)
  replace HT := Lib.hid (Blk.below (Hid.out HT) hb (Hid.out HT).lt)
  replace HL := Lib.hid ((Hid.out HL).trans (hb.mono (Hid.out HL).size))
  clear hb
  clear HM
  replace HL := Lib.hid (HL.out.alloc HL.out.size (.cells #[.string ⟨#[]⟩, .string ⟨#[]⟩, .int .i64 0, .int .i64 0, .int .i64 0, .int .i64 0] 26))
  replace HX := Lib.hid (HX.out.alloc (.cells #[.string ⟨#[]⟩, .string ⟨#[]⟩, .int .i64 0, .int .i64 0, .int .i64 0, .int .i64 0] 26))
  replace HY := Lib.hid (HY.out.alloc (.cells #[.string ⟨#[]⟩, .string ⟨#[]⟩, .int .i64 0, .int .i64 0, .int .i64 0, .int .i64 0] 26))
  replace HT := Lib.hid (HT.out.alloc (.cells #[.string ⟨#[]⟩, .string ⟨#[]⟩, .int .i64 0, .int .i64 0, .int .i64 0, .int .i64 0] 26))
  have x0 : (w9.alloc (.cells #[.string ⟨#[]⟩, .string ⟨#[]⟩, .int .i64 0, .int .i64 0, .int .i64 0, .int .i64 0] 26)).cell? ⟨gx, 0, none⟩ = some (.string kX) := HX.out.cell 0; have x1 : (w9.alloc (.cells #[.string ⟨#[]⟩, .string ⟨#[]⟩, .int .i64 0, .int .i64 0, .int .i64 0, .int .i64 0] 26)).cell? ⟨gx, 1, none⟩ = some (.int .i64 1) := HX.out.cell 1; have x2 : (w9.alloc (.cells #[.string ⟨#[]⟩, .string ⟨#[]⟩, .int .i64 0, .int .i64 0, .int .i64 0, .int .i64 0] 26)).cell? ⟨gx, 2, none⟩ = some (.string ⟨#[110, 49]⟩) := HX.out.cell 2; have x3 : (w9.alloc (.cells #[.string ⟨#[]⟩, .string ⟨#[]⟩, .int .i64 0, .int .i64 0, .int .i64 0, .int .i64 0] 26)).cell? ⟨gx, 3, none⟩ = some (.string ⟨#[115]⟩) := HX.out.cell 3
  have y0 : (w9.alloc (.cells #[.string ⟨#[]⟩, .string ⟨#[]⟩, .int .i64 0, .int .i64 0, .int .i64 0, .int .i64 0] 26)).cell? ⟨gy, 0, none⟩ = some (.string kY) := HY.out.cell 0; have y1 : (w9.alloc (.cells #[.string ⟨#[]⟩, .string ⟨#[]⟩, .int .i64 0, .int .i64 0, .int .i64 0, .int .i64 0] 26)).cell? ⟨gy, 1, none⟩ = some (.int .i64 1) := HY.out.cell 1; have y2 : (w9.alloc (.cells #[.string ⟨#[]⟩, .string ⟨#[]⟩, .int .i64 0, .int .i64 0, .int .i64 0, .int .i64 0] 26)).cell? ⟨gy, 2, none⟩ = some (.string ⟨#[110, 49]⟩) := HY.out.cell 2; have y3 : (w9.alloc (.cells #[.string ⟨#[]⟩, .string ⟨#[]⟩, .int .i64 0, .int .i64 0, .int .i64 0, .int .i64 0] 26)).cell? ⟨gy, 3, none⟩ = some (.string ⟨#[51]⟩) := HY.out.cell 3
  have t0 : (w9.alloc (.cells #[.string ⟨#[]⟩, .string ⟨#[]⟩, .int .i64 0, .int .i64 0, .int .i64 0, .int .i64 0] 26)).cell? ⟨gt, 0, none⟩ = some (.string sT) := HT.out.cell 0; have t1 : (w9.alloc (.cells #[.string ⟨#[]⟩, .string ⟨#[]⟩, .int .i64 0, .int .i64 0, .int .i64 0, .int .i64 0] 26)).cell? ⟨gt, 1, none⟩ = some (.string s1) := HT.out.cell 1; have t2 : (w9.alloc (.cells #[.string ⟨#[]⟩, .string ⟨#[]⟩, .int .i64 0, .int .i64 0, .int .i64 0, .int .i64 0] 26)).cell? ⟨gt, 2, none⟩ = some (.int .i64 1048576) := HT.out.cell 2; have t3 : (w9.alloc (.cells #[.string ⟨#[]⟩, .string ⟨#[]⟩, .int .i64 0, .int .i64 0, .int .i64 0, .int .i64 0] 26)).cell? ⟨gt, 3, none⟩ = some (.int .i64 3) := HT.out.cell 3; have t4 : (w9.alloc (.cells #[.string ⟨#[]⟩, .string ⟨#[]⟩, .int .i64 0, .int .i64 0, .int .i64 0, .int .i64 0] 26)).cell? ⟨gt, 4, none⟩ = some (.int .i64 16) := HT.out.cell 4; have t5 : (w9.alloc (.cells #[.string ⟨#[]⟩, .string ⟨#[]⟩, .int .i64 0, .int .i64 0, .int .i64 0, .int .i64 0] 26)).cell? ⟨gt, 5, none⟩ = some (.int .i64 16) := HT.out.cell 5
  have heq := eqT_same ⟨sT, s1, 1048576, 3, 16, 16⟩
  simp only at heq
  have HM : Hid (Reads ((w9.alloc (.cells #[.string ⟨#[]⟩, .string ⟨#[]⟩, .int .i64 0, .int .i64 0, .int .i64 0, .int .i64 0] 26)).alloc (.cells #[.string kY, .int .i64 1, .string ⟨#[110, 49]⟩, .string ⟨#[51]⟩, .string kX, .int .i64 1, .string ⟨#[110, 49]⟩, .string ⟨#[115]⟩] 38)) ((w9.alloc (.cells #[.string ⟨#[]⟩, .string ⟨#[]⟩, .int .i64 0, .int .i64 0, .int .i64 0, .int .i64 0] 26)).alloc (.cells #[.string kY, .int .i64 1, .string ⟨#[110, 49]⟩, .string ⟨#[51]⟩, .string kX, .int .i64 1, .string ⟨#[110, 49]⟩, .string ⟨#[115]⟩] 38)).heap.size 4 (some ⟨(w9.alloc (.cells #[.string ⟨#[]⟩, .string ⟨#[]⟩, .int .i64 0, .int .i64 0, .int .i64 0, .int .i64 0] 26)).heap.size, 0, none⟩) [aY, aX].length ([aY, aX].flatMap En.cells)) := Lib.hid (lit1 (f := En.cells) (w9.alloc (.cells #[.string ⟨#[]⟩, .string ⟨#[]⟩, .int .i64 0, .int .i64 0, .int .i64 0, .int .i64 0] 26)) 38 [aY, aX] En.len)
  have hsz := World.size_alloc w9 (.cells #[.string ⟨#[]⟩, .string ⟨#[]⟩, .int .i64 0, .int .i64 0, .int .i64 0, .int .i64 0] 26)
  rw [hsz] at HM
  clear hsz
  replace HL := Lib.hid (HL.out.alloc HL.out.size (.cells #[.string kY, .int .i64 1, .string ⟨#[110, 49]⟩, .string ⟨#[51]⟩, .string kX, .int .i64 1, .string ⟨#[110, 49]⟩, .string ⟨#[115]⟩] 38))
  go_wp2_with fail
  clear x0 x1 x2 x3 y0 y1 y2 y3 t0 t1 t2 t3 t4 t5 heq HX HY HT
  generalize (w9.alloc (.cells #[.string ⟨#[]⟩, .string ⟨#[]⟩, .int .i64 0, .int .i64 0, .int .i64 0, .int .i64 0] 26)).alloc (.cells #[.string kY, .int .i64 1, .string ⟨#[110, 49]⟩, .string ⟨#[51]⟩, .string kX, .int .i64 1, .string ⟨#[110, 49]⟩, .string ⟨#[115]⟩] 38) = w10 at *
  refine (all_any w10 _ 2 [aY, aX] (by decide) HM.out sz2 key2 (Lib.hid (HLt.out.next HL.out))).mono ?_
  rw [aw6]
  rintro e w11 ⟨A11, c11, rfl, -, hR, hb⟩
  replace HL := Lib.hid ((Hid.out HL).trans (hb.mono (Hid.out HL).size))
  clear hb
  clear HM
  have hl := below_lit w11 (.cells #[.string sT] 9)
  have HR := Lib.hid (hR.more_below hl)
  have HS : Hid (Reads (w11.alloc (.cells #[.string sT] 9)) (w11.alloc (.cells #[.string sT] 9)).heap.size 1 (some ⟨w11.heap.size, 0, none⟩) [sT].length ([sT].flatMap tc)) := lit1 (f := tc) (size := 1) w11 9 [sT] (fun _ => rfl)
  replace HL := Lib.hid (HL.out.alloc HL.out.size (.cells #[.string sT] 9))
  clear hR hl
  go_wp2_with fail
  generalize w11.alloc (.cells #[.string sT] 9) = w12 at *
  refine (texts.sameTexts_same w12 A11 _ c11 1 [sT] (by decide) HR.out HS.out).mono ?_
  rintro e w13 ⟨rfl, hb⟩
  replace HL := Lib.hid ((Hid.out HL).trans (hb.mono (Hid.out HL).size))
  clear hb
  clear HR HS
  go_wp2_with fail
  refine (tkey_any sT sX w13 (by decide) (by decide)).mono ?_
  rw [aw7]
  rintro e w14 ⟨rfl, hb⟩
  replace HL := Lib.hid ((Hid.out HL).trans (hb.mono (Hid.out HL).size))
  clear hb
  go_wp2
  go_ret
  exact ⟨rfl, HL.out⟩
end Go.Proofs.YtjbompimlopdiaaGreatDoor.te
