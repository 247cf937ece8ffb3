/- Few, awake, and the walk of WalkIs. -/
import Derived.Test.YteddmjfpbdihiaaD
namespace Go.Proofs.Yteddmjfpbdihiaa.walk
open Go.ChangeShapes Go.WideShapes Go.ChangeAt Go.RowKit Go.Proofs.Aid
open Go.Proofs.Yteddmjfpbdihiaa.ints (i64c)
set_option maxHeartbeats 1000000 in
theorem few_any (w : World) (A : Option Addr) (cap : Nat) (os : List R9) (hm : os.length ≤ maxLen) (hR : Reads w w.heap.size 1 A os.length (os.flatMap R9.cells)) (hs : ∀ r ∈ os, r.v.size ≤ maxLen) :
    Calls Try.prog 5 #[.slice A os.length cap] w (SomeB (fun b => b = true → os.length ≤ 40) w) := by
  have H1 := Lib.hid hR
  have HS := Lib.hid hs
  clear hR hs
  unfold maxLen at hm
  go_enter Try.func5, Try.ntmps5
  go_wp2_with fail
  go_loopw [3] (fun iv w' => ∃ k : Nat, k ≤ os.length ∧ iv = .int .i64 k ∧ w' = w ∧ k ≤ 40) (fun iv _ => os.length - (intOf iv).toNat)
  case atStart => exact ⟨0, by omega, rfl, rfl, by omega⟩
  case round =>
    obtain ⟨k, hk, rfl, rfl, hk4⟩ := hrel
    by_cases hlt : k < os.length
    · by_cases h40 : k < 40
      · obtain ⟨ad, rfl, had, e0⟩ := elem9 H1.out hlt
        have hmx : os[k].v.size ≤ 9223372036854775807 := by have := HS.out os[k] (List.getElem_mem hlt); unfold maxLen at this; omega
        by_cases hb : os[k].v.size ≤ 100
        · generalize os[k].v = str at *
          go_wp2
          go_roundw
          case rel => exact ⟨k + 1, by omega, by go_num, by trivial, by omega⟩
          case measure => simp [intOf]; omega
        · generalize os[k].v = str at *
          go_wp2
          go_ret
          exact ⟨false, rfl, rfl, fun h => by cases h⟩
      · go_wp2
        go_ret
        exact ⟨_, rfl, rfl, fun h => by simp at h; omega⟩
    · go_wp2
      go_ret
      exact ⟨_, rfl, rfl, fun _ => by omega⟩
set_option maxHeartbeats 2000000 in
theorem mfew_any (w : World) (A : Option Addr) (cap : Nat) (rs : List R34) (hm : rs.length ≤ maxLen) (hR : Reads w w.heap.size 4 A rs.length (rs.flatMap R34.cells)) (hs : ∀ r ∈ rs, r.ok w) :
    Calls Try.prog 6 #[.slice A rs.length cap, .int .i64 40] w (SomeB (fun b => b = true → rs.length ≤ 40) w) := by
  have H1 := Lib.hid hR
  have HS := Lib.hid hs
  clear hR hs
  unfold maxLen at hm
  go_enter Try.func6, Try.ntmps6
  go_wp2_with fail
  go_loopw [5] (fun iv w' => ∃ k : Nat, k ≤ rs.length ∧ iv = .int .i64 k ∧ w' = w ∧ k ≤ 40) (fun iv _ => rs.length - (intOf iv).toNat)
  case atStart => exact ⟨0, by omega, rfl, rfl, by omega⟩
  case round =>
    obtain ⟨k, hk, rfl, rfl, hk4⟩ := hrel
    by_cases hlt : k < rs.length
    · by_cases h40 : k < 40
      · obtain ⟨ad, rfl, had, c0, c1, c2, -⟩ := elem34 H1.out hlt
        obtain ⟨m0, m1, m2⟩ : rs[k].name.size ≤ 9223372036854775807 ∧ rs[k].rack.size ≤ 9223372036854775807 ∧ rs[k].zone.size ≤ 9223372036854775807 := by have := HS.out rs[k] (List.getElem_mem hlt); unfold R34.ok maxLen at this; omega
        generalize rs[k].name = s0 at *
        generalize rs[k].rack = s1 at *
        generalize rs[k].zone = s2 at *
        by_cases b0 : s0.size ≤ 100
        · have d0 : decide ((100 : Int) < s0.size) = false := by simp; omega
          by_cases b1 : s1.size ≤ 100
          · have d1 : decide ((100 : Int) < s1.size) = false := by simp; omega
            by_cases b2 : s2.size ≤ 100
            · have d2 : decide ((100 : Int) < s2.size) = false := by simp; omega
              go_wp2
              go_roundw
              case rel => exact ⟨k + 1, by omega, by go_num, by trivial, by omega⟩
              case measure => simp [intOf]; omega
            · have d2 : decide ((100 : Int) < s2.size) = true := by simp; omega
              go_wp2
              go_ret
              exact ⟨false, rfl, rfl, fun h => by cases h⟩
          · have d1 : decide ((100 : Int) < s1.size) = true := by simp; omega
            go_wp2
            go_ret
            exact ⟨false, rfl, rfl, fun h => by cases h⟩
        · have d0 : decide ((100 : Int) < s0.size) = true := by simp; omega
          go_wp2
          go_ret
          exact ⟨false, rfl, rfl, fun h => by cases h⟩
      · go_wp2
        go_ret
        exact ⟨_, rfl, rfl, fun h => by simp at h; omega⟩
    · go_wp2
      go_ret
      exact ⟨_, rfl, rfl, fun _ => by omega⟩
def bs (l : List UInt8) : ByteArray := ⟨l.toArray⟩
abbrev aOs : List R9 := [⟨⟨#[97]⟩⟩, ⟨⟨#[98]⟩⟩, ⟨⟨#[97]⟩⟩]
abbrev aRs : List R34 := [⟨⟨#[97]⟩, ⟨#[]⟩, ⟨#[]⟩, false⟩, ⟨⟨#[98]⟩, ⟨#[]⟩, ⟨#[]⟩, false⟩, ⟨⟨#[99]⟩, ⟨#[]⟩, ⟨#[]⟩, false⟩]
theorem a_order : order (aRs.map R34.name) aOs 4 = [1, 0, 2] := by decide +kernel
set_option maxHeartbeats 2000000 in
theorem awake_any (W : World) : Calls Try.prog 7 #[] W fun e w' => e = .returned (.bool true) ∧ Below W.heap.size W w' := by
  go_enter Try.func7, Try.ntmps7
  go_wp2_with fail
  have hb1 := Blk.new W 34 #[.string ⟨#[97]⟩, .string ⟨#[]⟩, .string ⟨#[]⟩, .bool false, .string ⟨#[98]⟩, .string ⟨#[]⟩, .string ⟨#[]⟩, .bool false, .string ⟨#[99]⟩, .string ⟨#[]⟩, .string ⟨#[]⟩, .bool false]
  have hl1 := (Below.refl W.heap.size W).alloc (Nat.le_refl _) (.cells #[.string ⟨#[97]⟩, .string ⟨#[]⟩, .string ⟨#[]⟩, .bool false, .string ⟨#[98]⟩, .string ⟨#[]⟩, .string ⟨#[]⟩, .bool false, .string ⟨#[99]⟩, .string ⟨#[]⟩, .string ⟨#[]⟩, .bool false] 34)
  have hb2 := hb1.alloc (.cells #[.string ⟨#[97]⟩, .string ⟨#[98]⟩, .string ⟨#[97]⟩] 9)
  have hb3 := Blk.new (W.alloc (.cells #[.string ⟨#[97]⟩, .string ⟨#[]⟩, .string ⟨#[]⟩, .bool false, .string ⟨#[98]⟩, .string ⟨#[]⟩, .string ⟨#[]⟩, .bool false, .string ⟨#[99]⟩, .string ⟨#[]⟩, .string ⟨#[]⟩, .bool false] 34)) 9 #[.string ⟨#[97]⟩, .string ⟨#[98]⟩, .string ⟨#[97]⟩]
  have hl2 := hl1.alloc (by simp) (.cells #[.string ⟨#[97]⟩, .string ⟨#[98]⟩, .string ⟨#[97]⟩] 9)
  simp only [World.size_alloc] at hb3
  generalize (W.alloc (.cells #[.string ⟨#[97]⟩, .string ⟨#[]⟩, .string ⟨#[]⟩, .bool false, .string ⟨#[98]⟩, .string ⟨#[]⟩, .string ⟨#[]⟩, .bool false, .string ⟨#[99]⟩, .string ⟨#[]⟩, .string ⟨#[]⟩, .bool false] 34)).alloc (.cells #[.string ⟨#[97]⟩, .string ⟨#[98]⟩, .string ⟨#[97]⟩] 9) = w2 at *
  have hr1 : Reads w2 w2.heap.size 4 (some ⟨W.heap.size, 0, none⟩) aRs.length (aRs.flatMap R34.cells) := Reads.of_blk hb2 R34.len rfl
  have hr2 : Reads w2 w2.heap.size 1 (some ⟨W.heap.size + 1, 0, none⟩) aOs.length (aOs.flatMap R9.cells) := Reads.of_blk hb3 R9.len rfl
  clear hb1 hb2 hb3 hl1
  refine (order_any w2 _ _ 3 3 aOs aRs 4 (by decide) (by decide) hr2 hr1 (by decide) (by decide)).mono ?_
  rw [a_order]
  rintro e w3 ⟨v, rfl, hrow, hlow⟩
  clear hr1 hr2
  have hl3 := hl2.trans (hlow.mono hl2.size)
  obtain ⟨A2, c2, rfl, hrr⟩ := hrow.reads
  have HRR := Lib.hid (hrr.below ((Below.refl w3.heap.size w3).alloc (Nat.le_refl _) (.cells #[.int .i64 1, .int .i64 0, .int .i64 2] 3)))
  have hb4 := Blk.new w3 3 #[.int .i64 1, .int .i64 0, .int .i64 2]
  have HR4 := Lib.hid (Reads.of_blk (xs := [1, 0, 2]) (f := i64c) hb4 (fun _ => rfl) rfl)
  have hl4 := hl3.alloc hl3.size (.cells #[.int .i64 1, .int .i64 0, .int .i64 2] 3)
  clear hb4 hrr hrow hlow hl2
  go_wp2_with fail
  refine (ints.sameInts_same _ _ _ c2 3 [1, 0, 2] (by decide) (HRR.out.more (by simp)) HR4.out).mono ?_
  rintro e w4 ⟨rfl, hlow⟩
  have hl5 := hl4.trans (hlow.mono hl4.size)
  go_wp2_with fail
  refine (from_any (-1) 3 w4 (by decide)).mono ?_
  rw [show frm (-1) 3 = 2 by decide]
  rintro e w5 ⟨rfl, rfl⟩
  go_wp2_with fail
  refine (from_any 5 0 w5 (by decide)).mono ?_
  rw [show frm 5 0 = 0 by decide]
  rintro e w6 ⟨rfl, rfl⟩
  go_wp2
  go_ret
  exact ⟨rfl, hl5⟩
set_option maxRecDepth 100000 in
set_option maxHeartbeats 2000000 in
theorem is_walk (W : World) (A B : Option Addr) (ca cb : Nat) (os : List R9) (rs : List R34) (part : Int) (hlo : os.length ≤ maxLen) (hlr : rs.length ≤ maxLen) (h1 : Reads W W.heap.size 1 A os.length (os.flatMap R9.cells)) (h2 : Reads W W.heap.size 4 B rs.length (rs.flatMap R34.cells))
    (hs1 : ∀ r ∈ os, r.v.size ≤ maxLen) (hs2 : ∀ r ∈ rs, r.ok W) :
    Calls Try.prog 3 #[.slice A os.length ca, .slice B rs.length cb, .int .i64 part] W fun e w' => e = .returned (.bool true) ∧ Below W.heap.size W w' := by
  have H1 := Lib.hid h1
  have H2 := Lib.hid h2
  have HS1 := Lib.hid hs1
  have HS2 := Lib.hid hs2
  have HL1 := Lib.hid hlo
  have HL2 := Lib.hid hlr
  clear h1 h2 hs1 hs2 hlo hlr
  go_enter Try.func3, Try.ntmps3
  go_wp2_with fail
  refine (few_any W A ca os HL1.out H1.out HS1.out).mono ?_
  rintro e w1 ⟨b, rfl, rfl, hb⟩
  cases b
  · clear hb
    go_wp2_with fail
    refine (awake_any w1).mono ?_
    rintro e w2 ⟨rfl, hlow⟩
    go_wp2
    go_ret
    exact ⟨rfl, hlow⟩
  · have ho40 := hb rfl
    clear hb
    go_wp2_with fail
    refine (mfew_any w1 B cb rs HL2.out H2.out HS2.out).mono ?_
    rintro e w2 ⟨b, rfl, rfl, hb⟩
    cases b
    · clear hb
      go_wp2_with fail
      refine (awake_any w2).mono ?_
      rintro e w3 ⟨rfl, hlow⟩
      go_wp2
      go_ret
      exact ⟨rfl, hlow⟩
    · have hr40 := hb rfl
      clear hb
      go_wp2_with fail
      refine (order_any w2 A B ca cb os rs part ho40 hr40 H1.out H2.out HS1.out (fun r hr => (HS2.out r hr).1)).mono ?_
      rintro e w3 ⟨v3, rfl, hrow3, hl3⟩
      have hs3 := hl3.size
      have H1' := Lib.hid (Reads.more (H1.out.below hl3) hs3)
      have H2' := Lib.hid (Reads.more (H2.out.below hl3) hs3)
      go_wp2_with fail
      refine (rorder_any w3 A B ca cb os rs part ho40 hr40 H1'.out H2'.out).mono ?_
      rintro e w4 ⟨v4, rfl, hrow4, hl4⟩
      have hlen : (order (rs.map R34.name) os part).length ≤ 80 := by
        unfold order
        have := told_len (rs.map R34.name) os (frm part os.length) os.length
        have := restTo_len (told (rs.map R34.name) os (frm part os.length) os.length) (rs.map R34.name).length
        rw [List.length_append]; simp only [List.length_map] at *; omega
      have hl4' := hl3.trans (hl4.mono hs3)
      generalize order (rs.map R34.name) os part = L at *
      obtain ⟨A3, c3, rfl, hr3⟩ := (hrow3.below hl4).reads
      obtain ⟨A4, c4, rfl, hr4⟩ := hrow4.reads
      have HR3 := Lib.hid hr3
      have HR4 := Lib.hid hr4
      clear hrow3 hrow4 hr3 hr4 hl3 hl4 hs3 H1' H2'
      go_wp2_with fail
      refine (ints.sameInts_same w4 A3 A4 c3 c4 L (by omega) HR3.out HR4.out).mono ?_
      rintro e w5 ⟨rfl, hl5⟩
      have hl5' := hl4'.trans (hl5.mono hl4'.size)
      clear hl4' hl5
      go_wp2_with fail
      refine (from_any part os.length w5 (by omega)).mono ?_
      rintro e w6 ⟨rfl, rfl⟩
      go_wp2_with fail
      refine (rfrom_any part os.length w6 (by omega)).mono ?_
      rintro e w7 ⟨rfl, rfl⟩
      go_wp2_with fail
      refine (awake_any w7).mono ?_
      rintro e w8 ⟨rfl, hl8⟩
      have hl8' := hl5'.trans (hl8.mono hl5'.size)
      go_wp2
      go_ret
      exact ⟨rfl, hl8'⟩
theorem is_all (W : World) (v0 : Value) (v1 : Value) (v2 : Value) (h0 : V22 W v0) (h1 : V23 W v1) (h2 : V3 W v2) :
    Calls Try.prog 3 #[v0, v1, v2] W fun e w' => e = .returned (.bool true) ∧ Below W.heap.size W w' := by
  obtain ⟨A, n, cap, os, rfl, a1, a2, rfl, hR, hok⟩ := s22 h0
  obtain ⟨B, m, cap2, rs, rfl, b1, b2, rfl, hR2, hok2⟩ := s23 h1
  obtain ⟨⟨part⟩, rfl, _⟩ := h2
  exact is_walk W A B cap cap2 os rs part (by omega) (by omega) hR hR2 hok hok2
end Go.Proofs.Yteddmjfpbdihiaa.walk
