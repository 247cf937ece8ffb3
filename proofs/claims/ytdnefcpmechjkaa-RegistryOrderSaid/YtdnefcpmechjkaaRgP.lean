/- What must come of package registry, whatever the arguments are. -/
import Derived.Test.YtdnefcpmechjkaaRgS
import Derived.Test.YtdnefcpmechjkaaRgM
namespace Go.Proofs.Ytdnefcpmechjkaa.rgy
open Go.ChangeShapes Go.WideShapes Go.ChangeAt Go.RowKit Go.Proofs.Aid Go.Proofs.Ytdnefcpmechjkaa.name Go.Proofs.Ytdnefcpmechjkaa.reg
abbrev aX : En := ⟨⟨#[97, 47, 98]⟩, ⟨1, ⟨#[110, 49]⟩, ⟨#[118]⟩⟩⟩
abbrev aY : En := ⟨⟨#[97, 47, 98]⟩, ⟨2, ⟨#[110, 50]⟩, ⟨#[119]⟩⟩⟩
abbrev aC : En := ⟨⟨#[99]⟩, ⟨1, ⟨#[]⟩, ⟨#[]⟩⟩⟩
theorem aw1 : setE [] ⟨#[110, 49]⟩ ⟨#[97, 47, 98]⟩ ⟨#[118]⟩ = (aX, 0) := by kernel_rfl
theorem aw2 : (may [] && isEntry aX) = true := by kernel_rfl
theorem aw3 : setE [aX] ⟨#[110, 50]⟩ ⟨#[97, 47, 98]⟩ ⟨#[119]⟩ = (aY, 0) := by kernel_rfl
theorem aw4 : may [aX] = true := by kernel_rfl
theorem aw5 : may [aY, aC] = true := by kernel_rfl
theorem aw6 : putsE [aX] [aY, aC] = [aY, aC] := by kernel_rfl
theorem aw7 : merge [aX] [aY, aC] = [aY, aC] := by rw [← putsE_merge (may_iff.1 aw4).2.2 (may_iff.1 aw5).2.2, aw6]
theorem aw8 : get [aY, aC] ⟨#[97, 47, 98]⟩ = ⟨2, ⟨#[110, 50]⟩, ⟨#[119]⟩⟩ := by kernel_rfl
theorem aw9 : ([aY, aC].filter (underP ⟨#[97]⟩)) = [aY] := by kernel_rfl
theorem aw10 : ([aY, aC].filter (newsP [aX])) = [aY, aC] := by kernel_rfl
theorem aw11 : ([aX].filter (newsP [aY, aC])) = [] := by kernel_rfl
theorem szX : ∀ r ∈ [aX], r.sz := by simp [En.sz]; decide
theorem szM : ∀ r ∈ [aY, aC], r.sz := by simp [En.sz]; decide
set_option maxRecDepth 100000 in
set_option maxHeartbeats 8000000 in
theorem awake_any (W : World) : Calls Try.prog 8 #[] W fun e w' => e = .returned (.bool true) ∧ Below W.heap.size W w' := by
  go_enter Try.func8, Try.ntmps8
  go_wp2_with fail
  refine (set_any W none 0 [] ⟨#[110, 49]⟩ ⟨#[97, 47, 98]⟩ ⟨#[118]⟩ (by decide) Reads.none_ (by simp) (by decide) (by decide) (by decide)).mono ?_
  rw [aw1]
  rintro e w1 ⟨rfl, hb⟩
  have HL := Lib.hid (hb.alloc hb.size (.cells #[.string ⟨#[97, 47, 98]⟩, .int .i64 1, .string ⟨#[110, 49]⟩, .string ⟨#[118]⟩] 35))
  clear hb
  go_wp2_with fail
  have hz := HL.out.size
  generalize w1.alloc (.cells #[.string ⟨#[97, 47, 98]⟩, .int .i64 1, .string ⟨#[110, 49]⟩, .string ⟨#[118]⟩] 35) = w2 at *
  refine (put_any w2 none 0 [] aX (by decide) (by decide) Reads.none_ (by simp) (szX aX (by simp))).mono ?_
  rw [aw2, if_pos rfl, if_pos rfl, merge_nil]
  rintro e w3 ⟨v3, rfl, hrow, hb⟩
  obtain ⟨A3, c3, rfl, hc3, hr3⟩ := hrow.reads'
  have HR3 := Lib.hid hr3
  have HL3 := Lib.hid (HL.out.trans (hb.mono hz))
  clear hb hrow HL hr3
  go_wp2_with fail
  refine (set_any w3 A3 c3 [aX] ⟨#[110, 50]⟩ ⟨#[97, 47, 98]⟩ ⟨#[119]⟩ (by decide) HR3.out szX (by decide) (by decide) (by decide)).mono ?_
  rw [aw3]
  rintro e w4 ⟨rfl, hb⟩
  have hz3 := HL3.out.size
  have HL4 := Lib.hid (HL3.out.trans (hb.mono hz3))
  have HR4 := Lib.hid (HR3.out.more_below hb)
  clear hb HL3 HR3 hz
  have hz4 := HL4.out.size
  have HL5 := Lib.hid (HL4.out.alloc hz4 (.cells #[.string ⟨#[97, 47, 98]⟩, .int .i64 2, .string ⟨#[110, 50]⟩, .string ⟨#[119]⟩] 35))
  have HY := Lib.hid (Blk.new w4 35 #[.string ⟨#[97, 47, 98]⟩, .int .i64 2, .string ⟨#[110, 50]⟩, .string ⟨#[119]⟩])
  have HR5 := Lib.hid (HR4.out.more_below (below_lit w4 (.cells #[.string ⟨#[97, 47, 98]⟩, .int .i64 2, .string ⟨#[110, 50]⟩, .string ⟨#[119]⟩] 35)))
  have HM := Lib.hid (lit3 w4 35 [aY, aC] (.cells #[.string ⟨#[97, 47, 98]⟩, .int .i64 2, .string ⟨#[110, 50]⟩, .string ⟨#[119]⟩] 35) En.len)
  have HL6 := Lib.hid (HL5.out.alloc (by simp; omega) (.cells ([aY, aC].flatMap En.cells).toArray 35))
  have HY6 := Lib.hid (HY.out.alloc (.cells ([aY, aC].flatMap En.cells).toArray 35))
  have HR6 := Lib.hid (HR5.out.more_below (below_lit _ (.cells ([aY, aC].flatMap En.cells).toArray 35)))
  clear HL4 HR4 HL5 HY HR5 hz3
  go_wp2_with fail
  refine (join_any _ A3 (some ⟨w4.heap.size + 1, 0, none⟩) c3 2 [aX] [aY, aC] (by decide) hc3 (by decide) HR6.out HM.out szX szM).mono ?_
  rw [aw4, aw5, Bool.and_self, if_pos rfl, if_pos rfl, aw7]
  rintro e w7 ⟨v7, rfl, hrow, hb⟩
  have hY7 := HY6.out.below hb HY6.out.lt
  have d1 : w7.cell? ⟨w4.heap.size, 1, none⟩ = some (.int .i64 2) := by rw [hY7.cell]; rfl
  have HR7 := Lib.hid (HR6.out.more_below hb)
  have HL7 := Lib.hid (HL6.out.trans (hb.mono HL6.out.size))
  obtain ⟨A7, c7, rfl, hc7, hm7⟩ := hrow.reads'
  have HM7 := Lib.hid hm7
  clear hb hrow hm7 hY7 HR6 HL6 HY6 HM
  go_wp2_with fail
  have hfl : ∀ w', (Instr.field 28 (.agg #[.int .i64 2, .string ⟨#[110, 50]⟩, .string ⟨#[119]⟩]) 2).run Try.prog w' = .ok (.string ⟨#[119]⟩) w' := fun _ => by kernel_rfl
  refine (get_any w7 A7 c7 [aY, aC] ⟨#[97, 47, 98]⟩ (by decide) HM7.out).mono ?_
  rw [aw8]
  rintro e w8 ⟨rfl, hb⟩
  have HR8 := Lib.hid (HR7.out.more_below hb)
  have HM8 := Lib.hid (HM7.out.more_below hb)
  have HL8 := Lib.hid (HL7.out.trans (hb.mono HL7.out.size))
  clear hb HR7 HM7 HL7 d1
  go_wp2_with fail
  refine (under_any w8 A7 c7 [aY, aC] ⟨#[97]⟩ (by decide) HM8.out szM (by decide)).mono ?_
  rw [aw9]
  rintro e w9 ⟨v9, rfl, hrow, hb⟩
  obtain ⟨A9, c9, rfl⟩ := hrow.form
  have HR9 := Lib.hid (HR8.out.more_below hb)
  have HM9 := Lib.hid (HM8.out.more_below hb)
  have HL9 := Lib.hid (HL8.out.trans (hb.mono HL8.out.size))
  clear hb HR8 HM8 HL8 hrow
  go_wp2_with fail
  refine (news_any w9 A7 A3 c7 c3 [aY, aC] [aX] (by decide) (by decide) HM9.out HR9.out szM).mono ?_
  rw [aw10]
  rintro e w10 ⟨v10, rfl, hrow, hb⟩
  obtain ⟨A10, c10, rfl⟩ := hrow.form
  have HR10 := Lib.hid (HR9.out.more_below hb)
  have HM10 := Lib.hid (HM9.out.more_below hb)
  have HL10 := Lib.hid (HL9.out.trans (hb.mono HL9.out.size))
  clear hb HR9 HM9 HL9 hrow
  go_wp2_with fail
  refine (news_any w10 A3 A7 c3 c7 [aX] [aY, aC] (by decide) (by decide) HR10.out HM10.out szX).mono ?_
  rw [aw11]
  rintro e w11 ⟨v11, rfl, hrow, hb⟩
  obtain ⟨A11, c11, rfl⟩ := hrow.form
  have HR11 := Lib.hid (HR10.out.more_below hb)
  have HM11 := Lib.hid (HM10.out.more_below hb)
  have HL11 := Lib.hid (HL10.out.trans (hb.mono HL10.out.size))
  clear hb HR10 HM10 HL10 hrow
  go_wp2_with fail
  refine (chk_any w11 A7 c7 [aY, aC] (by decide) HM11.out szM).mono ?_
  rw [chk_ok aw5]
  rintro e w12 ⟨rfl, hb⟩
  have HR12 := Lib.hid (HR11.out.more_below hb)
  have HM12 := Lib.hid (HM11.out.more_below hb)
  have HL12 := Lib.hid (HL11.out.trans (hb.mono HL11.out.size))
  clear hb HR11 HM11 HL11
  go_wp2_with fail
  refine (same_any w12 A7 A7 c7 c7 [aY, aC] [aY, aC] (by decide) (by decide) HM12.out HM12.out).mono ?_
  rw [show decide ([aY, aC] = [aY, aC]) = true by simp]
  rintro e w13 ⟨rfl, hb⟩
  have HR13 := Lib.hid (HR12.out.more_below hb)
  have HM13 := Lib.hid (HM12.out.more_below hb)
  have HL13 := Lib.hid (HL12.out.trans (hb.mono HL12.out.size))
  clear hb HR12 HM12 HL12
  go_wp2_with fail
  refine (same_any w13 A3 A7 c3 c7 [aX] [aY, aC] (by decide) (by decide) HR13.out HM13.out).mono ?_
  rw [show decide ([aX] = [aY, aC]) = false by simp]
  rintro e w14 ⟨rfl, hb⟩
  have HL14 := Lib.hid (HL13.out.trans (hb.mono HL13.out.size))
  clear hb HR13 HM13 HL13
  go_wp2
  go_ret
  exact ⟨rfl, HL14.out⟩
end Go.Proofs.Ytdnefcpmechjkaa.rgy
