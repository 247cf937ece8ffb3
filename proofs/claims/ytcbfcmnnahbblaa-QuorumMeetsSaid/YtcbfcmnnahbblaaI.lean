/- Awake. -/
import Derived.Test.YtcbfcmnnahbblaaH
namespace Go.Proofs.Ytcbfcmnnahbblaa.quorum
open Go.ChangeShapes Go.WideShapes Go.ChangeAt Go.RowKit Go.Proofs.Aid Go.Proofs.Ytcbfcmnnahbblaa.texts
def l3 : List R38 := [⟨⟨#[97]⟩, true⟩, ⟨⟨#[98]⟩, true⟩, ⟨⟨#[99]⟩, false⟩]
theorem a1 : nA (memB [⟨#[97]⟩, ⟨#[99]⟩, ⟨#[122]⟩]) l3 = 2 := by kernel_rfl
theorem a2 : nB (memB [⟨#[97]⟩, ⟨#[99]⟩, ⟨#[122]⟩]) l3 = 1 := by kernel_rfl
def wv (y n : List ByteArray) : Int := wrI 2 1 (nA (memB y) l3) (nB (memB y) l3) (nA (fun s => !inAny [y, n] s) l3) (nB (fun s => !inAny [y, n] s) l3)
def rv (f m n : List ByteArray) : Int := rdI 2 0 false l3.length (nA (inAny [f, m]) l3) (nB (inAny [f, m]) l3) (nA (fun s => !inAny [f, m, n] s) l3) (nB (fun s => !inAny [f, m, n] s) l3) (nA (memB f) l3) (nA (memB m) l3)
theorem v1 : wv [⟨#[97]⟩] [] = 0 := by kernel_rfl
theorem v2 : wv [⟨#[97]⟩, ⟨#[99]⟩] [] = 1 := by kernel_rfl
theorem v3 : wv [] [⟨#[97]⟩, ⟨#[98]⟩] = 2 := by kernel_rfl
theorem v4 : rv [] [⟨#[97]⟩, ⟨#[98]⟩] [] = 3 := by kernel_rfl
theorem v5 : rv [⟨#[97]⟩] [⟨#[98]⟩] [] = 1 := by kernel_rfl
theorem wr3 (w : World) (A Y N : Option Addr) (ca cy cn y n : Nat) (ys ns : List ByteArray) (ey : ys.length = y) (en : ns.length = n) (hy : y ≤ 1000) (hn : n ≤ 1000) (h1 : Reads w w.heap.size 2 A 3 (l3.flatMap R38.cells)) (h2 : Reads w w.heap.size 1 Y y (ys.flatMap tc)) (h3 : Reads w w.heap.size 1 N n (ns.flatMap tc)) :
    Calls Try.prog 9 #[.agg #[.int .i64 3, .int .i64 2, .int .i64 2, .int .i64 0, .int .i64 1, .bool false, .bool true, .bool false], .slice A 3 ca, .slice Y y cy, .slice N n cn] w fun e w' => e = .returned (.int .i64 (wv ys ns)) ∧ Below w.heap.size w w' := by
  subst ey en
  exact write_any w A Y N ca cy cn l3 ys ns 3 2 2 0 1 false true false (by decide) hy hn h1 h2 h3
theorem rd3 (w : World) (A FF M N : Option Addr) (ca cf cm cn f m n : Nat) (fs ms ns : List ByteArray) (ef : fs.length = f) (em : ms.length = m) (en : ns.length = n) (hf : f ≤ 1000) (hm : m ≤ 1000) (hn : n ≤ 1000) (h1 : Reads w w.heap.size 2 A 3 (l3.flatMap R38.cells)) (h2 : Reads w w.heap.size 1 FF f (fs.flatMap tc)) (h3 : Reads w w.heap.size 1 M m (ms.flatMap tc)) (h4 : Reads w w.heap.size 1 N n (ns.flatMap tc)) :
    Calls Try.prog 11 #[.agg #[.int .i64 3, .int .i64 2, .int .i64 2, .int .i64 0, .int .i64 1, .bool false, .bool true, .bool false], .slice A 3 ca, .slice FF f cf, .slice M m cm, .slice N n cn] w fun e w' => e = .returned (.int .i64 (rv fs ms ns)) ∧ Below w.heap.size w w' := by
  subst ef em en
  exact read_yes w A FF M N ca cf cm cn l3 fs ms ns 3 2 2 0 1 false false (by decide) hf hm hn h1 h2 h3 h4
theorem cnt3 (w : World) (A Y : Option Addr) (ca cy y : Nat) (ys : List ByteArray) (ey : ys.length = y) (hy : y ≤ 1000) (h1 : Reads w w.heap.size 2 A 3 (l3.flatMap R38.cells)) (h2 : Reads w w.heap.size 1 Y y (ys.flatMap tc)) :
    Calls Try.prog 7 #[.slice A 3 ca, .slice Y y cy] w fun e w' => e = .returned (.tuple #[.int .i64 (nA (memB ys) l3), .int .i64 (nB (memB ys) l3)]) ∧ Below w.heap.size w w' := by
  subst ey
  exact count7_any w A Y ca cy l3 ys (by decide) hy h1 h2
theorem awake0 (W : World) : Reads (((W.alloc (.cells #[.string ⟨#[97]⟩, .bool true, .string ⟨#[98]⟩, .bool true, .string ⟨#[99]⟩, .bool false] 38)).alloc (.cells #[.int .i64 3, .int .i64 2, .int .i64 2, .int .i64 0, .int .i64 1, .bool false, .bool true, .bool false] 23)).alloc (.cells #[.string ⟨#[97]⟩, .string ⟨#[99]⟩, .string ⟨#[122]⟩] 9)) (((W.alloc (.cells #[.string ⟨#[97]⟩, .bool true, .string ⟨#[98]⟩, .bool true, .string ⟨#[99]⟩, .bool false] 38)).alloc (.cells #[.int .i64 3, .int .i64 2, .int .i64 2, .int .i64 0, .int .i64 1, .bool false, .bool true, .bool false] 23)).alloc (.cells #[.string ⟨#[97]⟩, .string ⟨#[99]⟩, .string ⟨#[122]⟩] 9)).heap.size 2 (some ⟨W.heap.size, 0, none⟩) 3 (l3.flatMap R38.cells) ∧
    Reads (((W.alloc (.cells #[.string ⟨#[97]⟩, .bool true, .string ⟨#[98]⟩, .bool true, .string ⟨#[99]⟩, .bool false] 38)).alloc (.cells #[.int .i64 3, .int .i64 2, .int .i64 2, .int .i64 0, .int .i64 1, .bool false, .bool true, .bool false] 23)).alloc (.cells #[.string ⟨#[97]⟩, .string ⟨#[99]⟩, .string ⟨#[122]⟩] 9)) (((W.alloc (.cells #[.string ⟨#[97]⟩, .bool true, .string ⟨#[98]⟩, .bool true, .string ⟨#[99]⟩, .bool false] 38)).alloc (.cells #[.int .i64 3, .int .i64 2, .int .i64 2, .int .i64 0, .int .i64 1, .bool false, .bool true, .bool false] 23)).alloc (.cells #[.string ⟨#[97]⟩, .string ⟨#[99]⟩, .string ⟨#[122]⟩] 9)).heap.size 1 (some ⟨W.heap.size + 1 + 1, 0, none⟩) 3 (([⟨#[97]⟩, ⟨#[99]⟩, ⟨#[122]⟩] : List ByteArray).flatMap tc) ∧
    Blk (((W.alloc (.cells #[.string ⟨#[97]⟩, .bool true, .string ⟨#[98]⟩, .bool true, .string ⟨#[99]⟩, .bool false] 38)).alloc (.cells #[.int .i64 3, .int .i64 2, .int .i64 2, .int .i64 0, .int .i64 1, .bool false, .bool true, .bool false] 23)).alloc (.cells #[.string ⟨#[97]⟩, .string ⟨#[99]⟩, .string ⟨#[122]⟩] 9)) (W.heap.size + 1) 23 #[.int .i64 3, .int .i64 2, .int .i64 2, .int .i64 0, .int .i64 1, .bool false, .bool true, .bool false] ∧ Below W.heap.size W (((W.alloc (.cells #[.string ⟨#[97]⟩, .bool true, .string ⟨#[98]⟩, .bool true, .string ⟨#[99]⟩, .bool false] 38)).alloc (.cells #[.int .i64 3, .int .i64 2, .int .i64 2, .int .i64 0, .int .i64 1, .bool false, .bool true, .bool false] 23)).alloc (.cells #[.string ⟨#[97]⟩, .string ⟨#[99]⟩, .string ⟨#[122]⟩] 9)) := by
  have HC := lit1 (f := R38.cells) W 38 l3 R38.len
  have HB := Blk.new (W.alloc (.cells #[.string ⟨#[97]⟩, .bool true, .string ⟨#[98]⟩, .bool true, .string ⟨#[99]⟩, .bool false] 38)) 23 #[.int .i64 3, .int .i64 2, .int .i64 2, .int .i64 0, .int .i64 1, .bool false, .bool true, .bool false]
  have HA := lit1 (f := tc) ((W.alloc (.cells #[.string ⟨#[97]⟩, .bool true, .string ⟨#[98]⟩, .bool true, .string ⟨#[99]⟩, .bool false] 38)).alloc (.cells #[.int .i64 3, .int .i64 2, .int .i64 2, .int .i64 0, .int .i64 1, .bool false, .bool true, .bool false] 23)) 9 [⟨#[97]⟩, ⟨#[99]⟩, ⟨#[122]⟩] (fun _ => rfl)
  rw [World.size_alloc] at HB
  rw [show ((W.alloc (.cells #[.string ⟨#[97]⟩, .bool true, .string ⟨#[98]⟩, .bool true, .string ⟨#[99]⟩, .bool false] 38)).alloc (.cells #[.int .i64 3, .int .i64 2, .int .i64 2, .int .i64 0, .int .i64 1, .bool false, .bool true, .bool false] 23)).heap.size = W.heap.size + 1 + 1 by rw [World.size_alloc, World.size_alloc]] at HA
  exact ⟨(Reads.more_below (HC.more_below (below_lit _ _)) (below_lit _ _)), HA, HB.alloc _, ((below_lit W _).trans ((below_lit _ _).mono (by rw [World.size_alloc]; omega))).trans ((below_lit _ _).mono (by rw [World.size_alloc, World.size_alloc]; omega))⟩
set_option maxRecDepth 100000 in
set_option maxHeartbeats 8000000 in
theorem awake_any (W : World) : Calls Try.prog 6 #[] W fun e w' => e = .returned (.bool true) ∧ Below W.heap.size W w' := by
  go_enter Try.func6, Try.ntmps6
  go_wp2_with fail
  obtain ⟨hc, ha, hbk, hl⟩ := awake0 W
  generalize ((W.alloc (.cells #[.string ⟨#[97]⟩, .bool true, .string ⟨#[98]⟩, .bool true, .string ⟨#[99]⟩, .bool false] 38)).alloc (.cells #[.int .i64 3, .int .i64 2, .int .i64 2, .int .i64 0, .int .i64 1, .bool false, .bool true, .bool false] 23)).alloc (.cells #[.string ⟨#[97]⟩, .string ⟨#[99]⟩, .string ⟨#[122]⟩] 9) = w0 at *
  generalize W.heap.size + 1 = pb at *
  generalize pb + 1 = nb at *
  have HC := Lib.hid hc
  have HA := Lib.hid ha
  have HBK := Lib.hid hbk
  have HL := Lib.hid hl
  clear hc ha hbk hl
  refine (cnt3 _ _ _ 3 3 3 [⟨#[97]⟩, ⟨#[99]⟩, ⟨#[122]⟩] rfl (by decide) HC.out HA.out).mono ?_
  rw [a1, a2]
  rintro e w1 ⟨rfl, hb⟩
  replace HBK := Lib.hid (Blk.below (Hid.out HBK) hb (Hid.out HBK).lt)
  replace HC := Lib.hid ((Hid.out HC).more_below hb)
  replace HL := Lib.hid ((Hid.out HL).trans (hb.mono (Hid.out HL).size))
  clear hb
  clear HA
  have k0 : (w1).cell? ⟨pb, 0, none⟩ = some (.int .i64 3) := HBK.out.cell 0
  have k1 : (w1).cell? ⟨pb, 1, none⟩ = some (.int .i64 2) := HBK.out.cell 1
  have k2 : (w1).cell? ⟨pb, 2, none⟩ = some (.int .i64 2) := HBK.out.cell 2
  have k3 : (w1).cell? ⟨pb, 3, none⟩ = some (.int .i64 0) := HBK.out.cell 3
  have k4 : (w1).cell? ⟨pb, 4, none⟩ = some (.int .i64 1) := HBK.out.cell 4
  have k5 : (w1).cell? ⟨pb, 5, none⟩ = some (.bool false) := HBK.out.cell 5
  have k6 : (w1).cell? ⟨pb, 6, none⟩ = some (.bool true) := HBK.out.cell 6
  have k7 : (w1).cell? ⟨pb, 7, none⟩ = some (.bool false) := HBK.out.cell 7
  go_wp2_with fail
  have hb := below_lit w1 (.cells #[.string ⟨#[97]⟩] 9)
  have HA := Lib.hid (lit1 (f := tc) w1 9 [⟨#[97]⟩] (fun _ => rfl))
  clear k0 k1 k2 k3 k4 k5 k6 k7
  replace HBK := Lib.hid (Blk.below (Hid.out HBK) hb (Hid.out HBK).lt)
  replace HC := Lib.hid ((Hid.out HC).more_below hb)
  replace HL := Lib.hid ((Hid.out HL).trans (hb.mono (Hid.out HL).size))
  clear hb
  refine (wr3 _ _ _ _ 3 1 0 1 0 [⟨#[97]⟩] [] rfl rfl (by decide) (by decide) HC.out HA.out Reads.none_).mono ?_
  rw [v1]
  rintro e w2 ⟨rfl, hb⟩
  replace HBK := Lib.hid (Blk.below (Hid.out HBK) hb (Hid.out HBK).lt)
  replace HC := Lib.hid ((Hid.out HC).more_below hb)
  replace HL := Lib.hid ((Hid.out HL).trans (hb.mono (Hid.out HL).size))
  clear hb
  clear HA
  have k0 : (w2).cell? ⟨pb, 0, none⟩ = some (.int .i64 3) := HBK.out.cell 0
  have k1 : (w2).cell? ⟨pb, 1, none⟩ = some (.int .i64 2) := HBK.out.cell 1
  have k2 : (w2).cell? ⟨pb, 2, none⟩ = some (.int .i64 2) := HBK.out.cell 2
  have k3 : (w2).cell? ⟨pb, 3, none⟩ = some (.int .i64 0) := HBK.out.cell 3
  have k4 : (w2).cell? ⟨pb, 4, none⟩ = some (.int .i64 1) := HBK.out.cell 4
  have k5 : (w2).cell? ⟨pb, 5, none⟩ = some (.bool false) := HBK.out.cell 5
  have k6 : (w2).cell? ⟨pb, 6, none⟩ = some (.bool true) := HBK.out.cell 6
  have k7 : (w2).cell? ⟨pb, 7, none⟩ = some (.bool false) := HBK.out.cell 7
  go_wp2_with fail
  have hb := below_lit w2 (.cells #[.string ⟨#[97]⟩, .string ⟨#[99]⟩] 9)
  have HA := Lib.hid (lit1 (f := tc) w2 9 [⟨#[97]⟩, ⟨#[99]⟩] (fun _ => rfl))
  clear k0 k1 k2 k3 k4 k5 k6 k7
  replace HBK := Lib.hid (Blk.below (Hid.out HBK) hb (Hid.out HBK).lt)
  replace HC := Lib.hid ((Hid.out HC).more_below hb)
  replace HL := Lib.hid ((Hid.out HL).trans (hb.mono (Hid.out HL).size))
  clear hb
  refine (wr3 _ _ _ _ 3 2 0 2 0 [⟨#[97]⟩, ⟨#[99]⟩] [] rfl rfl (by decide) (by decide) HC.out HA.out Reads.none_).mono ?_
  rw [v2]
  rintro e w3 ⟨rfl, hb⟩
  replace HBK := Lib.hid (Blk.below (Hid.out HBK) hb (Hid.out HBK).lt)
  replace HC := Lib.hid ((Hid.out HC).more_below hb)
  replace HL := Lib.hid ((Hid.out HL).trans (hb.mono (Hid.out HL).size))
  clear hb
  clear HA
  have k0 : (w3).cell? ⟨pb, 0, none⟩ = some (.int .i64 3) := HBK.out.cell 0
  have k1 : (w3).cell? ⟨pb, 1, none⟩ = some (.int .i64 2) := HBK.out.cell 1
  have k2 : (w3).cell? ⟨pb, 2, none⟩ = some (.int .i64 2) := HBK.out.cell 2
  have k3 : (w3).cell? ⟨pb, 3, none⟩ = some (.int .i64 0) := HBK.out.cell 3
  have k4 : (w3).cell? ⟨pb, 4, none⟩ = some (.int .i64 1) := HBK.out.cell 4
  have k5 : (w3).cell? ⟨pb, 5, none⟩ = some (.bool false) := HBK.out.cell 5
  have k6 : (w3).cell? ⟨pb, 6, none⟩ = some (.bool true) := HBK.out.cell 6
  have k7 : (w3).cell? ⟨pb, 7, none⟩ = some (.bool false) := HBK.out.cell 7
  go_wp2_with fail
  have hb := below_lit w3 (.cells #[.string ⟨#[97]⟩, .string ⟨#[98]⟩] 9)
  have HA := Lib.hid (lit1 (f := tc) w3 9 [⟨#[97]⟩, ⟨#[98]⟩] (fun _ => rfl))
  clear k0 k1 k2 k3 k4 k5 k6 k7
  replace HBK := Lib.hid (Blk.below (Hid.out HBK) hb (Hid.out HBK).lt)
  replace HC := Lib.hid ((Hid.out HC).more_below hb)
  replace HL := Lib.hid ((Hid.out HL).trans (hb.mono (Hid.out HL).size))
  clear hb
  refine (wr3 _ _ _ _ 3 0 2 0 2 [] [⟨#[97]⟩, ⟨#[98]⟩] rfl rfl (by decide) (by decide) HC.out Reads.none_ HA.out).mono ?_
  rw [v3]
  rintro e w4 ⟨rfl, hb⟩
  replace HBK := Lib.hid (Blk.below (Hid.out HBK) hb (Hid.out HBK).lt)
  replace HC := Lib.hid ((Hid.out HC).more_below hb)
  replace HL := Lib.hid ((Hid.out HL).trans (hb.mono (Hid.out HL).size))
  clear hb
  clear HA
  have k0 : (w4).cell? ⟨pb, 0, none⟩ = some (.int .i64 3) := HBK.out.cell 0
  have k1 : (w4).cell? ⟨pb, 1, none⟩ = some (.int .i64 2) := HBK.out.cell 1
  have k2 : (w4).cell? ⟨pb, 2, none⟩ = some (.int .i64 2) := HBK.out.cell 2
  have k3 : (w4).cell? ⟨pb, 3, none⟩ = some (.int .i64 0) := HBK.out.cell 3
  have k4 : (w4).cell? ⟨pb, 4, none⟩ = some (.int .i64 1) := HBK.out.cell 4
  have k5 : (w4).cell? ⟨pb, 5, none⟩ = some (.bool false) := HBK.out.cell 5
  have k6 : (w4).cell? ⟨pb, 6, none⟩ = some (.bool true) := HBK.out.cell 6
  have k7 : (w4).cell? ⟨pb, 7, none⟩ = some (.bool false) := HBK.out.cell 7
  go_wp2_with fail
  have hb := below_lit w4 (.cells #[.string ⟨#[97]⟩, .string ⟨#[98]⟩] 9)
  have HA := Lib.hid (lit1 (f := tc) w4 9 [⟨#[97]⟩, ⟨#[98]⟩] (fun _ => rfl))
  clear k0 k1 k2 k3 k4 k5 k6 k7
  replace HBK := Lib.hid (Blk.below (Hid.out HBK) hb (Hid.out HBK).lt)
  replace HC := Lib.hid ((Hid.out HC).more_below hb)
  replace HL := Lib.hid ((Hid.out HL).trans (hb.mono (Hid.out HL).size))
  clear hb
  refine (rd3 _ _ _ _ _ 3 0 2 0 0 2 0 [] [⟨#[97]⟩, ⟨#[98]⟩] [] rfl rfl rfl (by decide) (by decide) (by decide) HC.out Reads.none_ HA.out Reads.none_).mono ?_
  rw [v4]
  rintro e w5 ⟨rfl, hb⟩
  replace HBK := Lib.hid (Blk.below (Hid.out HBK) hb (Hid.out HBK).lt)
  replace HC := Lib.hid ((Hid.out HC).more_below hb)
  replace HL := Lib.hid ((Hid.out HL).trans (hb.mono (Hid.out HL).size))
  clear hb
  clear HA
  have k0 : (w5).cell? ⟨pb, 0, none⟩ = some (.int .i64 3) := HBK.out.cell 0
  have k1 : (w5).cell? ⟨pb, 1, none⟩ = some (.int .i64 2) := HBK.out.cell 1
  have k2 : (w5).cell? ⟨pb, 2, none⟩ = some (.int .i64 2) := HBK.out.cell 2
  have k3 : (w5).cell? ⟨pb, 3, none⟩ = some (.int .i64 0) := HBK.out.cell 3
  have k4 : (w5).cell? ⟨pb, 4, none⟩ = some (.int .i64 1) := HBK.out.cell 4
  have k5 : (w5).cell? ⟨pb, 5, none⟩ = some (.bool false) := HBK.out.cell 5
  have k6 : (w5).cell? ⟨pb, 6, none⟩ = some (.bool true) := HBK.out.cell 6
  have k7 : (w5).cell? ⟨pb, 7, none⟩ = some (.bool false) := HBK.out.cell 7
  go_wp2_with fail
  have hb := below_lit2 w5 (.cells #[.string ⟨#[97]⟩] 9) (.cells #[.string ⟨#[98]⟩] 9)
  have HA := Lib.hid (lit2 (f := tc) w5 9 [⟨#[97]⟩] (.cells #[.string ⟨#[98]⟩] 9) (fun _ => rfl))
  have HB := Lib.hid (lit3 (f := tc) w5 9 [⟨#[98]⟩] (.cells #[.string ⟨#[97]⟩] 9) (fun _ => rfl))
  clear k0 k1 k2 k3 k4 k5 k6 k7
  replace HBK := Lib.hid (Blk.below (Hid.out HBK) hb (Hid.out HBK).lt)
  replace HC := Lib.hid ((Hid.out HC).more_below hb)
  replace HL := Lib.hid ((Hid.out HL).trans (hb.mono (Hid.out HL).size))
  clear hb
  refine (rd3 _ _ _ _ _ 3 1 1 0 1 1 0 [⟨#[97]⟩] [⟨#[98]⟩] [] rfl rfl rfl (by decide) (by decide) (by decide) HC.out HA.out HB.out Reads.none_).mono ?_
  rw [v5]
  rintro e w6 ⟨rfl, hb⟩
  replace HL := Lib.hid ((Hid.out HL).trans (hb.mono (Hid.out HL).size))
  clear hb
  go_wp2
  go_ret
  exact ⟨rfl, HL.out⟩
end Go.Proofs.Ytcbfcmnnahbblaa.quorum
