/- What must come of package access, whatever the arguments are. -/
import Derived.Test.YtcapahehfokihaaDoorAcS
import Derived.Test.YtcapahehfokihaaDoorKn
namespace Go.Proofs.YtcapahehfokihaaDoor.acc
set_option linter.unusedSimpArgs false
open Go.ChangeShapes Go.WideShapes Go.ChangeAt Go.RowKit Go.Proofs.Aid
open Go.Proofs.YtcapahehfokihaaDoor.rgy (En)
abbrev aX : En := ⟨⟨#[97, 99, 108, 47, 116, 47, 98, 47, 117]⟩, ⟨1, ⟨#[110, 49]⟩, ⟨#[114, 108]⟩⟩⟩
abbrev aY : En := ⟨⟨#[97, 99, 108, 47, 116, 47, 98, 47, 97, 108, 108]⟩, ⟨1, ⟨#[110, 49]⟩, ⟨#[119]⟩⟩⟩
theorem aw1 : setA [] ⟨#[110, 49]⟩ ⟨#[116]⟩ ⟨#[98]⟩ ⟨#[117]⟩ 5 = (aX, 0) := by kernel_rfl
theorem aw2 : setA [] ⟨#[110, 49]⟩ ⟨#[116]⟩ ⟨#[98]⟩ ⟨#[97, 108, 108]⟩ 2 = (aY, 0) := by kernel_rfl
theorem aw3 : setA [] ⟨#[110, 49]⟩ ⟨#[116]⟩ ⟨#[98]⟩ ⟨#[117]⟩ 8 = ((⟨⟨#[]⟩, ⟨0, ⟨#[]⟩, ⟨#[]⟩⟩⟩ : En), 1) := by kernel_rfl
theorem aw4 : rigN ⟨#[119, 108]⟩ = 6 := by kernel_rfl
theorem aw5 : (rig ⟨#[119, 108]⟩).isSome = true := by kernel_rfl
theorem aw6 : ofA [aY, aX] ⟨#[116]⟩ ⟨#[98]⟩ ⟨#[117]⟩ = 7 := by kernel_rfl
theorem aw7 : ofA [aY, aX] ⟨#[116]⟩ ⟨#[98]⟩ ⟨#[118]⟩ = 2 := by kernel_rfl
theorem aw8 : ofA [aY, aX] ⟨#[116]⟩ ⟨#[99]⟩ ⟨#[117]⟩ = 0 := by kernel_rfl
theorem aw9 : text 5 = ⟨#[114, 108]⟩ := by kernel_rfl
theorem aw10 : key ⟨#[116]⟩ ⟨#[98]⟩ ⟨#[117]⟩ = ⟨#[97, 99, 108, 47, 116, 47, 98, 47, 117]⟩ := by kernel_rfl
theorem szn : ∀ r ∈ ([] : List En), r.sz := by simp
set_option maxRecDepth 100000 in
set_option maxHeartbeats 8000000 in
theorem awake_any (W : World) (HLt : Hid (Lets W)) : Calls Tryd.prog 8 #[] W fun e w' => e = .returned (.bool true) ∧ Below W.heap.size W w' := by
  go_enter Tryd.func8, Tryd.ntmps8
  go_wp2_with fail
  refine (set_any W none 0 [] ⟨#[110, 49]⟩ ⟨#[116]⟩ ⟨#[98]⟩ ⟨#[117]⟩ 5 (by decide) Reads.none_ szn (by decide) (by decide) (by decide) (by decide) HLt).mono ?_
  rw [aw1]
  rintro e w1 ⟨rfl, hb⟩
  have HB1 := Lib.hid (Blk.new w1 33 #[.string ⟨#[97, 99, 108, 47, 116, 47, 98, 47, 117]⟩, .int .i64 1, .string ⟨#[110, 49]⟩, .string ⟨#[114, 108]⟩])
  have HL := Lib.hid (hb.alloc hb.size (.cells #[.string ⟨#[97, 99, 108, 47, 116, 47, 98, 47, 117]⟩, .int .i64 1, .string ⟨#[110, 49]⟩, .string ⟨#[114, 108]⟩] 33))
  clear hb
  go_wp2_with fail
  generalize w1.alloc (.cells #[.string ⟨#[97, 99, 108, 47, 116, 47, 98, 47, 117]⟩, .int .i64 1, .string ⟨#[110, 49]⟩, .string ⟨#[114, 108]⟩] 33) = w2 at *
  refine (set_any w2 none 0 [] ⟨#[110, 49]⟩ ⟨#[116]⟩ ⟨#[98]⟩ ⟨#[97, 108, 108]⟩ 2 (by decide) Reads.none_ szn (by decide) (by decide) (by decide) (by decide) (Lib.hid (HLt.out.below HL.out HLt.out.lt))).mono ?_
  rw [aw2]
  rintro e w3 ⟨rfl, hb⟩
  replace HB1 := Lib.hid (Blk.below (Hid.out HB1) hb (Hid.out HB1).lt)
  replace HL := Lib.hid ((Hid.out HL).trans (hb.mono (Hid.out HL).size))
  clear hb
  have HB2 := Lib.hid (Blk.new w3 33 #[.string ⟨#[97, 99, 108, 47, 116, 47, 98, 47, 97, 108, 108]⟩, .int .i64 1, .string ⟨#[110, 49]⟩, .string ⟨#[119]⟩])
  replace HL := Lib.hid (HL.out.alloc HL.out.size (.cells #[.string ⟨#[97, 99, 108, 47, 116, 47, 98, 47, 97, 108, 108]⟩, .int .i64 1, .string ⟨#[110, 49]⟩, .string ⟨#[119]⟩] 33))
  replace HB1 := Lib.hid (HB1.out.alloc (.cells #[.string ⟨#[97, 99, 108, 47, 116, 47, 98, 47, 97, 108, 108]⟩, .int .i64 1, .string ⟨#[110, 49]⟩, .string ⟨#[119]⟩] 33))
  go_wp2_with fail
  generalize w3.alloc (.cells #[.string ⟨#[97, 99, 108, 47, 116, 47, 98, 47, 97, 108, 108]⟩, .int .i64 1, .string ⟨#[110, 49]⟩, .string ⟨#[119]⟩] 33) = w4 at *
  refine (set_any w4 none 0 [] ⟨#[110, 49]⟩ ⟨#[116]⟩ ⟨#[98]⟩ ⟨#[117]⟩ 8 (by decide) Reads.none_ szn (by decide) (by decide) (by decide) (by decide) (Lib.hid (HLt.out.below HL.out HLt.out.lt))).mono ?_
  rw [aw3]
  rintro e w5 ⟨rfl, hb⟩
  replace HB1 := Lib.hid (Blk.below (Hid.out HB1) hb (Hid.out HB1).lt)
  replace HB2 := Lib.hid (Blk.below (Hid.out HB2) hb (Hid.out HB2).lt)
  replace HL := Lib.hid ((Hid.out HL).trans (hb.mono (Hid.out HL).size))
  clear hb
  replace HL := Lib.hid (HL.out.alloc HL.out.size (.cells #[.string ⟨#[]⟩, .int .i64 0, .string ⟨#[]⟩, .string ⟨#[]⟩] 33))
  replace HB1 := Lib.hid (HB1.out.alloc (.cells #[.string ⟨#[]⟩, .int .i64 0, .string ⟨#[]⟩, .string ⟨#[]⟩] 33))
  replace HB2 := Lib.hid (HB2.out.alloc (.cells #[.string ⟨#[]⟩, .int .i64 0, .string ⟨#[]⟩, .string ⟨#[]⟩] 33))
  go_wp2_with fail
  generalize w5.alloc (.cells #[.string ⟨#[]⟩, .int .i64 0, .string ⟨#[]⟩, .string ⟨#[]⟩] 33) = w6 at *
  refine (rights_any ⟨#[119, 108]⟩ w6 (Lib.hid (HLt.out.below HL.out HLt.out.lt))).mono ?_
  rw [aw4, aw5]
  rintro e w7 ⟨rfl, rfl⟩
  have x0 : w7.cell? ⟨w1.heap.size, 0, none⟩ = some (.string ⟨#[97, 99, 108, 47, 116, 47, 98, 47, 117]⟩) := by rw [HB1.out.cell]; rfl
  have x1 : w7.cell? ⟨w1.heap.size, 1, none⟩ = some (.int .i64 1) := by rw [HB1.out.cell]; rfl
  have x2 : w7.cell? ⟨w1.heap.size, 2, none⟩ = some (.string ⟨#[110, 49]⟩) := by rw [HB1.out.cell]; rfl
  have x3 : w7.cell? ⟨w1.heap.size, 3, none⟩ = some (.string ⟨#[114, 108]⟩) := by rw [HB1.out.cell]; rfl
  have y0 : w7.cell? ⟨w3.heap.size, 0, none⟩ = some (.string ⟨#[97, 99, 108, 47, 116, 47, 98, 47, 97, 108, 108]⟩) := by rw [HB2.out.cell]; rfl
  have y1 : w7.cell? ⟨w3.heap.size, 1, none⟩ = some (.int .i64 1) := by rw [HB2.out.cell]; rfl
  have y2 : w7.cell? ⟨w3.heap.size, 2, none⟩ = some (.string ⟨#[110, 49]⟩) := by rw [HB2.out.cell]; rfl
  have y3 : w7.cell? ⟨w3.heap.size, 3, none⟩ = some (.string ⟨#[119]⟩) := by rw [HB2.out.cell]; rfl
  have HM : Hid (Reads (w7.alloc (.cells #[.string ⟨#[97, 99, 108, 47, 116, 47, 98, 47, 97, 108, 108]⟩, .int .i64 1, .string ⟨#[110, 49]⟩, .string ⟨#[119]⟩, .string ⟨#[97, 99, 108, 47, 116, 47, 98, 47, 117]⟩, .int .i64 1, .string ⟨#[110, 49]⟩, .string ⟨#[114, 108]⟩] 33)) (w7.alloc (.cells #[.string ⟨#[97, 99, 108, 47, 116, 47, 98, 47, 97, 108, 108]⟩, .int .i64 1, .string ⟨#[110, 49]⟩, .string ⟨#[119]⟩, .string ⟨#[97, 99, 108, 47, 116, 47, 98, 47, 117]⟩, .int .i64 1, .string ⟨#[110, 49]⟩, .string ⟨#[114, 108]⟩] 33)).heap.size 4 (some ⟨w7.heap.size, 0, none⟩) [aY, aX].length ([aY, aX].flatMap En.cells)) := Lib.hid (lit1 w7 33 [aY, aX] En.len)
  replace HL := Lib.hid (HL.out.alloc HL.out.size (.cells #[.string ⟨#[97, 99, 108, 47, 116, 47, 98, 47, 97, 108, 108]⟩, .int .i64 1, .string ⟨#[110, 49]⟩, .string ⟨#[119]⟩, .string ⟨#[97, 99, 108, 47, 116, 47, 98, 47, 117]⟩, .int .i64 1, .string ⟨#[110, 49]⟩, .string ⟨#[114, 108]⟩] 33))
  replace HB1 := Lib.hid (HB1.out.alloc (.cells #[.string ⟨#[97, 99, 108, 47, 116, 47, 98, 47, 97, 108, 108]⟩, .int .i64 1, .string ⟨#[110, 49]⟩, .string ⟨#[119]⟩, .string ⟨#[97, 99, 108, 47, 116, 47, 98, 47, 117]⟩, .int .i64 1, .string ⟨#[110, 49]⟩, .string ⟨#[114, 108]⟩] 33))
  clear HB2
  go_wp2_with fail
  generalize w7.alloc (.cells #[.string ⟨#[97, 99, 108, 47, 116, 47, 98, 47, 97, 108, 108]⟩, .int .i64 1, .string ⟨#[110, 49]⟩, .string ⟨#[119]⟩, .string ⟨#[97, 99, 108, 47, 116, 47, 98, 47, 117]⟩, .int .i64 1, .string ⟨#[110, 49]⟩, .string ⟨#[114, 108]⟩] 33) = w8 at *
  have hbX : (⟨w1.heap.size, 0, none⟩ : Addr).block < w8.heap.size := HB1.out.lt
  have hbY : (⟨w1.heap.size, 3, none⟩ : Addr).block < w8.heap.size := HB1.out.lt
  have test := Kn.drew_2 (Kn.new_2 (w0 := w8) (M := w8.heap.size) (p0 := ⟨w1.heap.size, 0, none⟩) (p1 := ⟨w1.heap.size, 3, none⟩) (v0 := .string ⟨#[97, 99, 108, 47, 116, 47, 98, 47, 117]⟩) (v1 := .string ⟨#[114, 108]⟩) (Nat.le_refl _) (by rw [HB1.out.cell]; rfl) hbX (by rw [HB1.out.cell]; rfl) hbY)
  clear x0 x1 x2 x3 y0 y1 y2 y3
  refine wp_region_held_drew (S := (fun w' => w'.cell? (⟨w1.heap.size, 0, none⟩) = some (.string ⟨#[97, 99, 108, 47, 116, 47, 98, 47, 117]⟩) ∧ w'.cell? (⟨w1.heap.size, 3, none⟩) = some (.string ⟨#[114, 108]⟩) ∧ Hid (Kn (w8.heap.size) (w8) [(⟨w1.heap.size, 0, none⟩, .string ⟨#[97, 99, 108, 47, 116, 47, 98, 47, 117]⟩), (⟨w1.heap.size, 3, none⟩, .string ⟨#[114, 108]⟩)] w'))) (by kernel_rfl) ?_ (fun hHeldp0 => ?_)
  · exact test
  refine wpAnyH_take (i := 0) (v := ?vp0) ops0 (by kernel_rfl) (by kernel_rfl) (by kernel_rfl) (fun _ _ _ h => h) (Or.inl ⟨by rfl, ?yp0⟩) hHeldp0 ?_
  case yp0 => (intro w hSw; (try dsimp only at hSw); go_simp; try (with_reducible rfl))
  try simp only [Act.put, List.setIfInBounds_toArray, List.set_cons_zero, List.set_cons_succ]
  refine wpAnyH_take (i := 1) (v := ?vp1) (opsS ops0) (by kernel_rfl) (by kernel_rfl) (by kernel_rfl) (fun _ _ _ h => h) (Or.inl ⟨by rfl, ?yp1⟩) hHeldp0 ?_
  case yp1 => (intro w hSw; (try dsimp only at hSw); go_simp; try (with_reducible rfl))
  try simp only [Act.put, List.setIfInBounds_toArray, List.set_cons_zero, List.set_cons_succ]
  refine wpAnyH_take (i := 2) (v := ?vp2) (opsS (opsS ops0)) (by kernel_rfl) (by kernel_rfl) (by kernel_rfl) (fun _ _ _ h => h) (Or.inl ⟨by rfl, ?yp2⟩) hHeldp0 ?_
  case yp2 => (intro w hSw; (try dsimp only at hSw); go_simp; try (with_reducible rfl))
  try simp only [Act.put, List.setIfInBounds_toArray, List.set_cons_zero, List.set_cons_succ]
  refine wpAnyH_take (i := 3) (v := ?vp3) (opsS (opsS (opsS ops0))) (by kernel_rfl) (by kernel_rfl) (by kernel_rfl) (fun _ _ _ h => h) (Or.inl ⟨by rfl, ?yp3⟩) hHeldp0 ?_
  case yp3 => (intro w hSw; (try dsimp only at hSw); go_simp; try (with_reducible rfl))
  try simp only [Act.put, List.setIfInBounds_toArray, List.set_cons_zero, List.set_cons_succ]
  refine wpAnyH_take (i := 4) (v := ?vp4) (opsS (opsS (opsS (opsS ops0)))) (by kernel_rfl) (by kernel_rfl) (by kernel_rfl) (fun _ _ _ h => h) (Or.inl ⟨by rfl, ?yp4⟩) hHeldp0 ?_
  case yp4 => (intro w hSw; (try dsimp only at hSw); go_simp; try (with_reducible rfl))
  try simp only [Act.put, List.setIfInBounds_toArray, List.set_cons_zero, List.set_cons_succ]
  refine wpAnyH_take (i := 5) (v := ?vp5) (opsS (opsS (opsS (opsS (opsS ops0))))) (by kernel_rfl) (by kernel_rfl) (by kernel_rfl) (fun _ _ _ h => h) (Or.inl ⟨by rfl, ?yp5⟩) hHeldp0 ?_
  case yp5 => (intro w hSw; (try dsimp only at hSw); go_simp; try (with_reducible rfl))
  try simp only [Act.put, List.setIfInBounds_toArray, List.set_cons_zero, List.set_cons_succ]
  refine wpAnyH_take (i := 6) (v := ?vp6) (opsS (opsS (opsS (opsS (opsS (opsS ops0)))))) (by kernel_rfl) (by kernel_rfl) (by kernel_rfl) (fun _ _ _ h => h) (Or.inl ⟨by rfl, ?yp6⟩) hHeldp0 ?_
  case yp6 => (intro w hSw; (try dsimp only at hSw); go_simp; try (with_reducible rfl))
  try simp only [Act.put, List.setIfInBounds_toArray, List.set_cons_zero, List.set_cons_succ]
  refine wpAnyH_take (i := 7) (v := ?vp7) (opsS (opsS (opsS (opsS (opsS (opsS (opsS ops0))))))) (by kernel_rfl) (by kernel_rfl) (by kernel_rfl) (fun _ _ _ h => h) (Or.inl ⟨by rfl, ?yp7⟩) hHeldp0 ?_
  case yp7 => (intro w hSw; (try dsimp only at hSw); go_simp; try (with_reducible rfl))
  try simp only [Act.put, List.setIfInBounds_toArray, List.set_cons_zero, List.set_cons_succ]
  refine wpAnyH_take (i := 8) (v := ?vp8) (opsS (opsS (opsS (opsS (opsS (opsS (opsS (opsS ops0)))))))) (by kernel_rfl) (by kernel_rfl) (by kernel_rfl) (fun _ _ _ h => h) (Or.inl ⟨by rfl, ?yp8⟩) hHeldp0 ?_
  case yp8 => (intro w hSw; (try dsimp only at hSw); go_simp; try (with_reducible rfl))
  try simp only [Act.put, List.setIfInBounds_toArray, List.set_cons_zero, List.set_cons_succ]
  refine wpAnyH_take (i := 9) (v := ?vp9) (opsS (opsS (opsS (opsS (opsS (opsS (opsS (opsS (opsS ops0))))))))) (by kernel_rfl) (by kernel_rfl) (by kernel_rfl) (fun _ _ _ h => h) (Or.inl ⟨by rfl, ?yp9⟩) hHeldp0 ?_
  case yp9 => (intro w hSw; (try dsimp only at hSw); go_simp; try (with_reducible rfl))
  try simp only [Act.put, List.setIfInBounds_toArray, List.set_cons_zero, List.set_cons_succ]
  refine wpAnyH_take (i := 10) (v := ?vp10) (opsS (opsS (opsS (opsS (opsS (opsS (opsS (opsS (opsS (opsS ops0)))))))))) (by kernel_rfl) (by kernel_rfl) (by kernel_rfl) (fun _ _ _ h => h) (Or.inl ⟨by rfl, ?yp10⟩) hHeldp0 ?_
  case yp10 => (intro w hSw; (try dsimp only at hSw); go_simp; try (with_reducible rfl))
  try simp only [Act.put, List.setIfInBounds_toArray, List.set_cons_zero, List.set_cons_succ]
  refine wpAnyH_take (i := 11) (v := ?vp11) (opsS (opsS (opsS (opsS (opsS (opsS (opsS (opsS (opsS (opsS (opsS ops0))))))))))) (by kernel_rfl) (by kernel_rfl) (by kernel_rfl) (fun _ _ _ h => h) (Or.inl ⟨by rfl, ?yp11⟩) hHeldp0 ?_
  case yp11 => (intro w hSw; (try dsimp only at hSw); go_simp; try (with_reducible rfl))
  try simp only [Act.put, List.setIfInBounds_toArray, List.set_cons_zero, List.set_cons_succ]
  refine wpAnyH_take (i := 12) (v := ?vp12) (opsS (opsS (opsS (opsS (opsS (opsS (opsS (opsS (opsS (opsS (opsS (opsS ops0)))))))))))) (by kernel_rfl) (by kernel_rfl) (by kernel_rfl) (fun _ _ _ h => h) (Or.inl ⟨by rfl, ?yp12⟩) hHeldp0 ?_
  case yp12 => (intro w hSw; (try dsimp only at hSw); go_simp; try (with_reducible rfl))
  try simp only [Act.put, List.setIfInBounds_toArray, List.set_cons_zero, List.set_cons_succ]
  refine wpAnyH_take (i := 13) (v := ?vp13) (opsS (opsS (opsS (opsS (opsS (opsS (opsS (opsS (opsS (opsS (opsS (opsS (opsS ops0))))))))))))) (by kernel_rfl) (by kernel_rfl) (by kernel_rfl) (fun _ _ _ h => h) (Or.inl ⟨by rfl, ?yp13⟩) hHeldp0 ?_
  case yp13 => (intro w hSw; (try dsimp only at hSw); go_simp; try (with_reducible rfl))
  try simp only [Act.put, List.setIfInBounds_toArray, List.set_cons_zero, List.set_cons_succ]
  refine wpAnyH_take (i := 14) (v := ?vp14) (opsS (opsS (opsS (opsS (opsS (opsS (opsS (opsS (opsS (opsS (opsS (opsS (opsS (opsS ops0)))))))))))))) (by kernel_rfl) (by kernel_rfl) (by kernel_rfl) (fun _ _ _ h => h) (Or.inl ⟨by rfl, ?yp14⟩) hHeldp0 ?_
  case yp14 => (intro w hSw; (try dsimp only at hSw); go_simp; try (with_reducible rfl))
  try simp only [Act.put, List.setIfInBounds_toArray, List.set_cons_zero, List.set_cons_succ]
  refine wpAnyH_take (i := 15) (v := ?vp15) (opsS (opsS (opsS (opsS (opsS (opsS (opsS (opsS (opsS (opsS (opsS (opsS (opsS (opsS (opsS ops0))))))))))))))) (by kernel_rfl) (by kernel_rfl) (by kernel_rfl) (fun _ _ _ h => h) (Or.inl ⟨by rfl, ?yp15⟩) hHeldp0 ?_
  case yp15 => (intro w hSw; (try dsimp only at hSw); go_simp; try (with_reducible rfl))
  try simp only [Act.put, List.setIfInBounds_toArray, List.set_cons_zero, List.set_cons_succ]
  refine wpAnyH_take (i := 16) (v := ?vp16) (opsS (opsS (opsS (opsS (opsS (opsS (opsS (opsS (opsS (opsS (opsS (opsS (opsS (opsS (opsS (opsS ops0)))))))))))))))) (by kernel_rfl) (by kernel_rfl) (by kernel_rfl) (fun _ _ _ h => h) (Or.inl ⟨by rfl, ?yp16⟩) hHeldp0 ?_
  case yp16 => (intro w hSw; (try dsimp only at hSw); go_simp; try (with_reducible rfl))
  try simp only [Act.put, List.setIfInBounds_toArray, List.set_cons_zero, List.set_cons_succ]
  refine wpAnyH_take (i := 17) (v := ?vp17) (opsS (opsS (opsS (opsS (opsS (opsS (opsS (opsS (opsS (opsS (opsS (opsS (opsS (opsS (opsS (opsS (opsS ops0))))))))))))))))) (by kernel_rfl) (by kernel_rfl) (by kernel_rfl) (fun _ _ _ h => h) (Or.inl ⟨by rfl, ?yp17⟩) hHeldp0 ?_
  case yp17 => (intro w hSw; (try dsimp only at hSw); go_simp; try (with_reducible rfl))
  try simp only [Act.put, List.setIfInBounds_toArray, List.set_cons_zero, List.set_cons_succ]
  refine wpAnyH_take (i := 18) (v := ?vp18) (opsS (opsS (opsS (opsS (opsS (opsS (opsS (opsS (opsS (opsS (opsS (opsS (opsS (opsS (opsS (opsS (opsS (opsS ops0)))))))))))))))))) (by kernel_rfl) (by kernel_rfl) (by kernel_rfl) (fun _ _ _ h => h) (Or.inl ⟨by rfl, ?yp18⟩) hHeldp0 ?_
  case yp18 => (intro w hSw; (try dsimp only at hSw); go_simp; try (with_reducible rfl))
  try simp only [Act.put, List.setIfInBounds_toArray, List.set_cons_zero, List.set_cons_succ]
  refine wpAnyH_take (i := 19) (v := ?vp19) (opsS (opsS (opsS (opsS (opsS (opsS (opsS (opsS (opsS (opsS (opsS (opsS (opsS (opsS (opsS (opsS (opsS (opsS (opsS ops0))))))))))))))))))) (by kernel_rfl) (by kernel_rfl) (by kernel_rfl) (fun _ _ _ h => h) (Or.inl ⟨by rfl, ?yp19⟩) hHeldp0 ?_
  case yp19 => (intro w hSw; (try dsimp only at hSw); go_simp; try (with_reducible rfl))
  try simp only [Act.put, List.setIfInBounds_toArray, List.set_cons_zero, List.set_cons_succ]
  refine wpAnyH_take (i := 20) (v := ?vp20) (opsS (opsS (opsS (opsS (opsS (opsS (opsS (opsS (opsS (opsS (opsS (opsS (opsS (opsS (opsS (opsS (opsS (opsS (opsS (opsS ops0)))))))))))))))))))) (by kernel_rfl) (by kernel_rfl) (by kernel_rfl) (fun _ _ _ h => h) (Or.inl ⟨by rfl, ?yp20⟩) hHeldp0 ?_
  case yp20 => (intro w hSw; (try dsimp only at hSw); go_simp; try (with_reducible rfl))
  try simp only [Act.put, List.setIfInBounds_toArray, List.set_cons_zero, List.set_cons_succ]
  refine wpAnyH_take (i := 21) (v := ?vp21) (opsS (opsS (opsS (opsS (opsS (opsS (opsS (opsS (opsS (opsS (opsS (opsS (opsS (opsS (opsS (opsS (opsS (opsS (opsS (opsS (opsS ops0))))))))))))))))))))) (by kernel_rfl) (by kernel_rfl) (by kernel_rfl) (fun _ _ _ h => h) (Or.inl ⟨by rfl, ?yp21⟩) hHeldp0 ?_
  case yp21 => (intro w hSw; (try dsimp only at hSw); go_simp; try (with_reducible rfl))
  try simp only [Act.put, List.setIfInBounds_toArray, List.set_cons_zero, List.set_cons_succ]
  refine wpAnyH_take (i := 22) (v := ?vp22) (opsS (opsS (opsS (opsS (opsS (opsS (opsS (opsS (opsS (opsS (opsS (opsS (opsS (opsS (opsS (opsS (opsS (opsS (opsS (opsS (opsS (opsS ops0)))))))))))))))))))))) (by kernel_rfl) (by kernel_rfl) (by kernel_rfl) (fun _ _ _ h => h) (Or.inl ⟨by rfl, ?yp22⟩) hHeldp0 ?_
  case yp22 => (intro w hSw; (try dsimp only at hSw); go_simp; try (with_reducible rfl))
  try simp only [Act.put, List.setIfInBounds_toArray, List.set_cons_zero, List.set_cons_succ]
  refine wpAnyH_take (i := 23) (v := ?vp23) (opsS (opsS (opsS (opsS (opsS (opsS (opsS (opsS (opsS (opsS (opsS (opsS (opsS (opsS (opsS (opsS (opsS (opsS (opsS (opsS (opsS (opsS (opsS ops0))))))))))))))))))))))) (by kernel_rfl) (by kernel_rfl) (by kernel_rfl) (fun _ _ _ h => h) (Or.inl ⟨by rfl, ?yp23⟩) hHeldp0 ?_
  case yp23 => (intro w hSw; (try dsimp only at hSw); go_simp; try (with_reducible rfl))
  try simp only [Act.put, List.setIfInBounds_toArray, List.set_cons_zero, List.set_cons_succ]
  refine wpAnyH_take (i := 24) (v := ?vp24) (opsS (opsS (opsS (opsS (opsS (opsS (opsS (opsS (opsS (opsS (opsS (opsS (opsS (opsS (opsS (opsS (opsS (opsS (opsS (opsS (opsS (opsS (opsS (opsS ops0)))))))))))))))))))))))) (by kernel_rfl) (by kernel_rfl) (by kernel_rfl) (fun _ _ _ h => h) (Or.inl ⟨by rfl, ?yp24⟩) hHeldp0 ?_
  case yp24 => (intro w hSw; (try dsimp only at hSw); go_simp; try (with_reducible rfl))
  try simp only [Act.put, List.setIfInBounds_toArray, List.set_cons_zero, List.set_cons_succ]
  refine wpAnyH_ready (rs := [25]) (by kernel_rfl) (by simp) ?_
  refine AllReadyH.cons (opsS (opsS (opsS (opsS (opsS (opsS (opsS (opsS (opsS (opsS (opsS (opsS (opsS (opsS (opsS (opsS (opsS (opsS (opsS (opsS (opsS (opsS (opsS (opsS (opsS ops0))))))))))))))))))))))))) (fun K hK => ?_) AllReadyH.nil
  go_simp
  refine (of_any _ _ _ [aY, aX] ⟨#[116]⟩ ⟨#[98]⟩ ⟨#[117]⟩ (by decide) (HM.out.more_below hHeldp0.2.2.low) (by decide) (by decide) (by decide) (Lib.hid (HLt.out.below (HL.out.trans (hHeldp0.2.2.low.mono HL.out.size)) HLt.out.lt))).mono ?_; rw [aw6]; rintro e w' ⟨rfl, hb⟩
  try dsimp only
  refine hK.out _ _ ?_ (fun hHeldp1 => ?_)
  · (first | assumption | exact Kn.drew_2 (by assumption) | (go_split_ands; exact Kn.drew_2 (by assumption)) | (go_split_ands; exact Kn.step_2 (by assumption) (by assumption)) | (go_split_ands; exact Kn.alloc_2 (by assumption) _) | (go_split_ands; exact Kn.far_2 (by assumption) (by assumption)))
  clear hK K hHeldp0
  try clear hb
  try simp only [Act.put, List.setIfInBounds_toArray, List.set_cons_zero, List.set_cons_succ]
  refine wpAnyH_take (i := 26) (v := ?vp26) (opsS (opsS (opsS (opsS (opsS (opsS (opsS (opsS (opsS (opsS (opsS (opsS (opsS (opsS (opsS (opsS (opsS (opsS (opsS (opsS (opsS (opsS (opsS (opsS (opsS (opsS ops0)))))))))))))))))))))))))) (by kernel_rfl) (by kernel_rfl) (by kernel_rfl) (fun _ _ _ h => h) (Or.inl ⟨by rfl, ?yp26⟩) hHeldp1 ?_
  case yp26 => (intro w hSw; (try dsimp only at hSw); go_simp; try (with_reducible rfl))
  try simp only [Act.put, List.setIfInBounds_toArray, List.set_cons_zero, List.set_cons_succ]
  refine wpAnyH_take (i := 27) (v := ?vp27) (opsS (opsS (opsS (opsS (opsS (opsS (opsS (opsS (opsS (opsS (opsS (opsS (opsS (opsS (opsS (opsS (opsS (opsS (opsS (opsS (opsS (opsS (opsS (opsS (opsS (opsS (opsS ops0))))))))))))))))))))))))))) (by kernel_rfl) (by kernel_rfl) (by kernel_rfl) (fun _ _ _ h => h) (Or.inl ⟨by rfl, ?yp27⟩) hHeldp1 ?_
  case yp27 => (intro w hSw; (try dsimp only at hSw); go_simp; try (with_reducible rfl))
  try simp only [Act.put, List.setIfInBounds_toArray, List.set_cons_zero, List.set_cons_succ]
  refine wpAnyH_take (i := 28) (v := ?vp28) (opsS (opsS (opsS (opsS (opsS (opsS (opsS (opsS (opsS (opsS (opsS (opsS (opsS (opsS (opsS (opsS (opsS (opsS (opsS (opsS (opsS (opsS (opsS (opsS (opsS (opsS (opsS (opsS ops0)))))))))))))))))))))))))))) (by kernel_rfl) (by kernel_rfl) (by kernel_rfl) (fun _ _ _ h => h) (Or.inl ⟨by rfl, ?yp28⟩) hHeldp1 ?_
  case yp28 => (intro w hSw; (try dsimp only at hSw); go_simp; try (with_reducible rfl))
  try simp only [Act.put, List.setIfInBounds_toArray, List.set_cons_zero, List.set_cons_succ]
  refine wpAnyH_take (i := 29) (v := ?vp29) (opsS (opsS (opsS (opsS (opsS (opsS (opsS (opsS (opsS (opsS (opsS (opsS (opsS (opsS (opsS (opsS (opsS (opsS (opsS (opsS (opsS (opsS (opsS (opsS (opsS (opsS (opsS (opsS (opsS ops0))))))))))))))))))))))))))))) (by kernel_rfl) (by kernel_rfl) (by kernel_rfl) (fun _ _ _ h => h) (Or.inl ⟨by rfl, ?yp29⟩) hHeldp1 ?_
  case yp29 => (intro w hSw; (try dsimp only at hSw); go_simp; try (with_reducible rfl))
  try simp only [Act.put, List.setIfInBounds_toArray, List.set_cons_zero, List.set_cons_succ]
  refine wpAnyH_ready (rs := [30]) (by kernel_rfl) (by simp) ?_
  refine AllReadyH.cons (opsS (opsS (opsS (opsS (opsS (opsS (opsS (opsS (opsS (opsS (opsS (opsS (opsS (opsS (opsS (opsS (opsS (opsS (opsS (opsS (opsS (opsS (opsS (opsS (opsS (opsS (opsS (opsS (opsS (opsS ops0)))))))))))))))))))))))))))))) (fun K hK => ?_) AllReadyH.nil
  go_simp
  refine (of_any _ _ _ [aY, aX] ⟨#[116]⟩ ⟨#[98]⟩ ⟨#[118]⟩ (by decide) (HM.out.more_below hHeldp1.2.2.low) (by decide) (by decide) (by decide) (Lib.hid (HLt.out.below (HL.out.trans (hHeldp1.2.2.low.mono HL.out.size)) HLt.out.lt))).mono ?_; rw [aw7]; rintro e w' ⟨rfl, hb⟩
  try dsimp only
  refine hK.out _ _ ?_ (fun hHeldp2 => ?_)
  · (first | assumption | exact Kn.drew_2 (by assumption) | (go_split_ands; exact Kn.drew_2 (by assumption)) | (go_split_ands; exact Kn.step_2 (by assumption) (by assumption)) | (go_split_ands; exact Kn.alloc_2 (by assumption) _) | (go_split_ands; exact Kn.far_2 (by assumption) (by assumption)))
  clear hK K hHeldp1
  try clear hb
  try simp only [Act.put, List.setIfInBounds_toArray, List.set_cons_zero, List.set_cons_succ]
  refine wpAnyH_take (i := 31) (v := ?vp31) (opsS (opsS (opsS (opsS (opsS (opsS (opsS (opsS (opsS (opsS (opsS (opsS (opsS (opsS (opsS (opsS (opsS (opsS (opsS (opsS (opsS (opsS (opsS (opsS (opsS (opsS (opsS (opsS (opsS (opsS (opsS ops0))))))))))))))))))))))))))))))) (by kernel_rfl) (by kernel_rfl) (by kernel_rfl) (fun _ _ _ h => h) (Or.inl ⟨by rfl, ?yp31⟩) hHeldp2 ?_
  case yp31 => (intro w hSw; (try dsimp only at hSw); go_simp; try (with_reducible rfl))
  try simp only [Act.put, List.setIfInBounds_toArray, List.set_cons_zero, List.set_cons_succ]
  refine wpAnyH_take (i := 32) (v := ?vp32) (opsS (opsS (opsS (opsS (opsS (opsS (opsS (opsS (opsS (opsS (opsS (opsS (opsS (opsS (opsS (opsS (opsS (opsS (opsS (opsS (opsS (opsS (opsS (opsS (opsS (opsS (opsS (opsS (opsS (opsS (opsS (opsS ops0)))))))))))))))))))))))))))))))) (by kernel_rfl) (by kernel_rfl) (by kernel_rfl) (fun _ _ _ h => h) (Or.inl ⟨by rfl, ?yp32⟩) hHeldp2 ?_
  case yp32 => (intro w hSw; (try dsimp only at hSw); go_simp; try (with_reducible rfl))
  try simp only [Act.put, List.setIfInBounds_toArray, List.set_cons_zero, List.set_cons_succ]
  refine wpAnyH_take (i := 33) (v := ?vp33) (opsS (opsS (opsS (opsS (opsS (opsS (opsS (opsS (opsS (opsS (opsS (opsS (opsS (opsS (opsS (opsS (opsS (opsS (opsS (opsS (opsS (opsS (opsS (opsS (opsS (opsS (opsS (opsS (opsS (opsS (opsS (opsS (opsS ops0))))))))))))))))))))))))))))))))) (by kernel_rfl) (by kernel_rfl) (by kernel_rfl) (fun _ _ _ h => h) (Or.inl ⟨by rfl, ?yp33⟩) hHeldp2 ?_
  case yp33 => (intro w hSw; (try dsimp only at hSw); go_simp; try (with_reducible rfl))
  try simp only [Act.put, List.setIfInBounds_toArray, List.set_cons_zero, List.set_cons_succ]
  refine wpAnyH_take (i := 34) (v := ?vp34) (opsS (opsS (opsS (opsS (opsS (opsS (opsS (opsS (opsS (opsS (opsS (opsS (opsS (opsS (opsS (opsS (opsS (opsS (opsS (opsS (opsS (opsS (opsS (opsS (opsS (opsS (opsS (opsS (opsS (opsS (opsS (opsS (opsS (opsS ops0)))))))))))))))))))))))))))))))))) (by kernel_rfl) (by kernel_rfl) (by kernel_rfl) (fun _ _ _ h => h) (Or.inl ⟨by rfl, ?yp34⟩) hHeldp2 ?_
  case yp34 => (intro w hSw; (try dsimp only at hSw); go_simp; try (with_reducible rfl))
  try simp only [Act.put, List.setIfInBounds_toArray, List.set_cons_zero, List.set_cons_succ]
  refine wpAnyH_ready (rs := [35]) (by kernel_rfl) (by simp) ?_
  refine AllReadyH.cons (opsS (opsS (opsS (opsS (opsS (opsS (opsS (opsS (opsS (opsS (opsS (opsS (opsS (opsS (opsS (opsS (opsS (opsS (opsS (opsS (opsS (opsS (opsS (opsS (opsS (opsS (opsS (opsS (opsS (opsS (opsS (opsS (opsS (opsS (opsS ops0))))))))))))))))))))))))))))))))))) (fun K hK => ?_) AllReadyH.nil
  go_simp
  refine (of_any _ _ _ [aY, aX] ⟨#[116]⟩ ⟨#[99]⟩ ⟨#[117]⟩ (by decide) (HM.out.more_below hHeldp2.2.2.low) (by decide) (by decide) (by decide) (Lib.hid (HLt.out.below (HL.out.trans (hHeldp2.2.2.low.mono HL.out.size)) HLt.out.lt))).mono ?_; rw [aw8]; rintro e w' ⟨rfl, hb⟩
  try dsimp only
  refine hK.out _ _ ?_ (fun hHeldp3 => ?_)
  · (first | assumption | exact Kn.drew_2 (by assumption) | (go_split_ands; exact Kn.drew_2 (by assumption)) | (go_split_ands; exact Kn.step_2 (by assumption) (by assumption)) | (go_split_ands; exact Kn.alloc_2 (by assumption) _) | (go_split_ands; exact Kn.far_2 (by assumption) (by assumption)))
  clear hK K hHeldp2
  try clear hb
  try simp only [Act.put, List.setIfInBounds_toArray, List.set_cons_zero, List.set_cons_succ]
  refine wpAnyH_take (i := 36) (v := ?vp36) (opsS (opsS (opsS (opsS (opsS (opsS (opsS (opsS (opsS (opsS (opsS (opsS (opsS (opsS (opsS (opsS (opsS (opsS (opsS (opsS (opsS (opsS (opsS (opsS (opsS (opsS (opsS (opsS (opsS (opsS (opsS (opsS (opsS (opsS (opsS (opsS ops0)))))))))))))))))))))))))))))))))))) (by kernel_rfl) (by kernel_rfl) (by kernel_rfl) (fun _ _ _ h => h) (Or.inl ⟨by rfl, ?yp36⟩) hHeldp3 ?_
  case yp36 => (intro w hSw; (try dsimp only at hSw); go_simp; try (with_reducible rfl))
  try simp only [Act.put, List.setIfInBounds_toArray, List.set_cons_zero, List.set_cons_succ]
  refine wpAnyH_take (i := 37) (v := ?vp37) (opsS (opsS (opsS (opsS (opsS (opsS (opsS (opsS (opsS (opsS (opsS (opsS (opsS (opsS (opsS (opsS (opsS (opsS (opsS (opsS (opsS (opsS (opsS (opsS (opsS (opsS (opsS (opsS (opsS (opsS (opsS (opsS (opsS (opsS (opsS (opsS (opsS ops0))))))))))))))))))))))))))))))))))))) (by kernel_rfl) (by kernel_rfl) (by kernel_rfl) (fun _ _ _ h => h) (Or.inl ⟨by rfl, ?yp37⟩) hHeldp3 ?_
  case yp37 => (intro w hSw; (try dsimp only at hSw); go_simp; try (with_reducible rfl))
  try simp only [Act.put, List.setIfInBounds_toArray, List.set_cons_zero, List.set_cons_succ]
  refine wpAnyH_take (i := 38) (v := ?vp38) (opsS (opsS (opsS (opsS (opsS (opsS (opsS (opsS (opsS (opsS (opsS (opsS (opsS (opsS (opsS (opsS (opsS (opsS (opsS (opsS (opsS (opsS (opsS (opsS (opsS (opsS (opsS (opsS (opsS (opsS (opsS (opsS (opsS (opsS (opsS (opsS (opsS (opsS ops0)))))))))))))))))))))))))))))))))))))) (by kernel_rfl) (by kernel_rfl) (by kernel_rfl) (fun _ _ _ h => h) (Or.inl ⟨by rfl, ?yp38⟩) hHeldp3 ?_
  case yp38 => (intro w hSw; (try dsimp only at hSw); go_simp; try (with_reducible rfl))
  try simp only [Act.put, List.setIfInBounds_toArray, List.set_cons_zero, List.set_cons_succ]
  refine wpAnyH_ready (rs := [39]) (by kernel_rfl) (by simp) ?_
  refine AllReadyH.cons (opsS (opsS (opsS (opsS (opsS (opsS (opsS (opsS (opsS (opsS (opsS (opsS (opsS (opsS (opsS (opsS (opsS (opsS (opsS (opsS (opsS (opsS (opsS (opsS (opsS (opsS (opsS (opsS (opsS (opsS (opsS (opsS (opsS (opsS (opsS (opsS (opsS (opsS (opsS ops0))))))))))))))))))))))))))))))))))))))) (fun K hK => ?_) AllReadyH.nil
  go_simp
  refine (text_any 5 _ (HLt.out.below (HL.out.trans (hHeldp3.2.2.low.mono HL.out.size)) HLt.out.lt)).mono ?_; rw [aw9]; rintro e w' ⟨rfl, rfl⟩
  try dsimp only
  refine hK.out _ _ ?_ (fun hHeldp4 => ?_)
  · (first | assumption | exact Kn.drew_2 (by assumption) | (go_split_ands; exact Kn.drew_2 (by assumption)) | (go_split_ands; exact Kn.step_2 (by assumption) (by assumption)) | (go_split_ands; exact Kn.alloc_2 (by assumption) _) | (go_split_ands; exact Kn.far_2 (by assumption) (by assumption)))
  clear hK K hHeldp3
  try clear hb
  try simp only [Act.put, List.setIfInBounds_toArray, List.set_cons_zero, List.set_cons_succ]
  refine wpAnyH_take (i := 40) (v := ?vp40) (opsS (opsS (opsS (opsS (opsS (opsS (opsS (opsS (opsS (opsS (opsS (opsS (opsS (opsS (opsS (opsS (opsS (opsS (opsS (opsS (opsS (opsS (opsS (opsS (opsS (opsS (opsS (opsS (opsS (opsS (opsS (opsS (opsS (opsS (opsS (opsS (opsS (opsS (opsS (opsS ops0)))))))))))))))))))))))))))))))))))))))) (by kernel_rfl) (by kernel_rfl) (by kernel_rfl) (fun _ _ _ h => h) (Or.inl ⟨by rfl, ?yp40⟩) hHeldp4 ?_
  case yp40 => (intro w hSw; (try dsimp only at hSw); go_simp; try (with_reducible rfl))
  try simp only [Act.put, List.setIfInBounds_toArray, List.set_cons_zero, List.set_cons_succ]
  refine wpAnyH_take (i := 41) (v := ?vp41) (opsS (opsS (opsS (opsS (opsS (opsS (opsS (opsS (opsS (opsS (opsS (opsS (opsS (opsS (opsS (opsS (opsS (opsS (opsS (opsS (opsS (opsS (opsS (opsS (opsS (opsS (opsS (opsS (opsS (opsS (opsS (opsS (opsS (opsS (opsS (opsS (opsS (opsS (opsS (opsS (opsS ops0))))))))))))))))))))))))))))))))))))))))) (by kernel_rfl) (by kernel_rfl) (by kernel_rfl) (fun _ _ _ h => h) (Or.inl ⟨by rfl, ?yp41⟩) hHeldp4 ?_
  case yp41 => (intro w hSw; (try dsimp only at hSw); go_simp; try (with_reducible rfl))
  try simp only [Act.put, List.setIfInBounds_toArray, List.set_cons_zero, List.set_cons_succ]
  refine wpAnyH_take (i := 42) (v := ?vp42) (opsS (opsS (opsS (opsS (opsS (opsS (opsS (opsS (opsS (opsS (opsS (opsS (opsS (opsS (opsS (opsS (opsS (opsS (opsS (opsS (opsS (opsS (opsS (opsS (opsS (opsS (opsS (opsS (opsS (opsS (opsS (opsS (opsS (opsS (opsS (opsS (opsS (opsS (opsS (opsS (opsS (opsS ops0)))))))))))))))))))))))))))))))))))))))))) (by kernel_rfl) (by kernel_rfl) (by kernel_rfl) (fun _ _ _ h => h) (Or.inl ⟨by rfl, ?yp42⟩) hHeldp4 ?_
  case yp42 => (intro w hSw; (try dsimp only at hSw); go_simp; try (with_reducible rfl))
  try simp only [Act.put, List.setIfInBounds_toArray, List.set_cons_zero, List.set_cons_succ]
  refine wpAnyH_take (i := 44) (v := ?vp44) (opsS (opsS (opsS (opsS (opsS (opsS (opsS (opsS (opsS (opsS (opsS (opsS (opsS (opsS (opsS (opsS (opsS (opsS (opsS (opsS (opsS (opsS (opsS (opsS (opsS (opsS (opsS (opsS (opsS (opsS (opsS (opsS (opsS (opsS (opsS (opsS (opsS (opsS (opsS (opsS (opsS (opsS (opsS (opsS ops0)))))))))))))))))))))))))))))))))))))))))))) (by kernel_rfl) (by kernel_rfl) (by kernel_rfl) (fun _ _ _ h => h) (Or.inl ⟨by rfl, ?yp44⟩) hHeldp4 ?_
  case yp44 => (intro w hSw; (try dsimp only at hSw); go_simp; try (with_reducible rfl))
  try simp only [Act.put, List.setIfInBounds_toArray, List.set_cons_zero, List.set_cons_succ]
  refine wpAnyH_take (i := 45) (v := ?vp45) (opsS (opsS (opsS (opsS (opsS (opsS (opsS (opsS (opsS (opsS (opsS (opsS (opsS (opsS (opsS (opsS (opsS (opsS (opsS (opsS (opsS (opsS (opsS (opsS (opsS (opsS (opsS (opsS (opsS (opsS (opsS (opsS (opsS (opsS (opsS (opsS (opsS (opsS (opsS (opsS (opsS (opsS (opsS (opsS (opsS ops0))))))))))))))))))))))))))))))))))))))))))))) (by kernel_rfl) (by kernel_rfl) (by kernel_rfl) (fun _ _ _ h => h) (Or.inl ⟨by rfl, ?yp45⟩) hHeldp4 ?_
  case yp45 => (intro w hSw; (try dsimp only at hSw); go_simp; try (with_reducible rfl))
  try simp only [Act.put, List.setIfInBounds_toArray, List.set_cons_zero, List.set_cons_succ]
  refine wpAnyH_ready (rs := [43]) (by kernel_rfl) (by simp) ?_
  refine AllReadyH.cons (opsS (opsS (opsS (opsS (opsS (opsS (opsS (opsS (opsS (opsS (opsS (opsS (opsS (opsS (opsS (opsS (opsS (opsS (opsS (opsS (opsS (opsS (opsS (opsS (opsS (opsS (opsS (opsS (opsS (opsS (opsS (opsS (opsS (opsS (opsS (opsS (opsS (opsS (opsS (opsS (opsS (opsS (opsS ops0))))))))))))))))))))))))))))))))))))))))))) (fun K hK => ?_) AllReadyH.nil
  go_simp
  refine (key_any ⟨#[116]⟩ ⟨#[98]⟩ ⟨#[117]⟩ _ (by decide) (by decide) (by decide)).mono ?_; rw [aw10]; rintro e w' ⟨rfl, hb⟩
  try dsimp only
  refine hK.out _ _ ?_ (fun hHeldp5 => ?_)
  · (first | assumption | exact Kn.drew_2 (by assumption) | (go_split_ands; exact Kn.drew_2 (by assumption)) | (go_split_ands; exact Kn.step_2 (by assumption) (by assumption)) | (go_split_ands; exact Kn.alloc_2 (by assumption) _) | (go_split_ands; exact Kn.far_2 (by assumption) (by assumption)))
  clear hK K hHeldp4
  try clear hb
  try simp only [Act.put, List.setIfInBounds_toArray, List.set_cons_zero, List.set_cons_succ]
  refine wpAnyH_take (i := 46) (v := ?vp46) (opsS (opsS (opsS (opsS (opsS (opsS (opsS (opsS (opsS (opsS (opsS (opsS (opsS (opsS (opsS (opsS (opsS (opsS (opsS (opsS (opsS (opsS (opsS (opsS (opsS (opsS (opsS (opsS (opsS (opsS (opsS (opsS (opsS (opsS (opsS (opsS (opsS (opsS (opsS (opsS (opsS (opsS (opsS (opsS (opsS (opsS ops0)))))))))))))))))))))))))))))))))))))))))))))) (by kernel_rfl) (by kernel_rfl) (by kernel_rfl) (fun _ _ _ h => h) (Or.inl ⟨by rfl, ?yp46⟩) hHeldp5 ?_
  case yp46 => (intro w hSw; (try dsimp only at hSw); go_simp; try (with_reducible rfl))
  try simp only [Act.put, List.setIfInBounds_toArray, List.set_cons_zero, List.set_cons_succ]
  refine wpAnyH_take (i := 47) (v := ?vp47) (opsS (opsS (opsS (opsS (opsS (opsS (opsS (opsS (opsS (opsS (opsS (opsS (opsS (opsS (opsS (opsS (opsS (opsS (opsS (opsS (opsS (opsS (opsS (opsS (opsS (opsS (opsS (opsS (opsS (opsS (opsS (opsS (opsS (opsS (opsS (opsS (opsS (opsS (opsS (opsS (opsS (opsS (opsS (opsS (opsS (opsS (opsS ops0))))))))))))))))))))))))))))))))))))))))))))))) (by kernel_rfl) (by kernel_rfl) (by kernel_rfl) (fun _ _ _ h => h) (Or.inl ⟨by rfl, ?yp47⟩) hHeldp5 ?_
  case yp47 => (intro w hSw; (try dsimp only at hSw); go_simp; try (with_reducible rfl))
  try simp only [Act.put, List.setIfInBounds_toArray, List.set_cons_zero, List.set_cons_succ]
  refine wpAnyH_take (i := 48) (v := ?vp48) (opsS (opsS (opsS (opsS (opsS (opsS (opsS (opsS (opsS (opsS (opsS (opsS (opsS (opsS (opsS (opsS (opsS (opsS (opsS (opsS (opsS (opsS (opsS (opsS (opsS (opsS (opsS (opsS (opsS (opsS (opsS (opsS (opsS (opsS (opsS (opsS (opsS (opsS (opsS (opsS (opsS (opsS (opsS (opsS (opsS (opsS (opsS (opsS ops0)))))))))))))))))))))))))))))))))))))))))))))))) (by kernel_rfl) (by kernel_rfl) (by kernel_rfl) (fun _ _ _ h => h) (Or.inl ⟨by rfl, ?yp48⟩) hHeldp5 ?_
  case yp48 => (intro w hSw; (try dsimp only at hSw); go_simp; try (with_reducible rfl))
  try simp only [Act.put, List.setIfInBounds_toArray, List.set_cons_zero, List.set_cons_succ]
  refine wpAnyH_done (by kernel_rfl) ?_ _
  have hlf := Lib.hid (HL.out.trans ((hHeldp5.2.2.low).mono HL.out.size))
  clear hHeldp5 test
  go_wp2
  go_ret
  exact ⟨rfl, hlf.out⟩
end Go.Proofs.YtcapahehfokihaaDoor.acc
