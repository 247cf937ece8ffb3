/- The walk of RegisterNext. -/
import Derived.Test.YtcfipdlcmpploaaF
namespace Go.Proofs.Ytcfipdlcmpploaa.reg
open Go.ChangeShapes Go.WideShapes Go.ChangeAt Go.RowKit Go.Proofs.Aid Go.Proofs.Ytcfipdlcmpploaa.name
structure MY (W : World) (B C E : Nat) (an xn : Int) (ab av xb xv : ByteArray) (w' : World) : Prop where
  b0 : Blk w' (B) 23 #[.int .i64 an, .string ab, .string av]
  b1 : Blk w' (C) 23 #[.int .i64 xn, .string xb, .string xv]
  b2 : Blk w' (E) 23 #[.int .i64 xn, .string xb, .string xv]
  low : Below (B) W w'
theorem MY.of {W : World} {B C E : Nat} {an xn : Int} {ab av xb xv : ByteArray} {w' : World} (h : MY W B C E an xn ab av xb xv w') : w'.cell? ⟨B, 0, none⟩ = some (.int .i64 an) ∧ w'.cell? ⟨B, 1, none⟩ = some (.string ab) ∧ w'.cell? ⟨B, 2, none⟩ = some (.string av) ∧ w'.cell? ⟨C, 0, none⟩ = some (.int .i64 xn) ∧ w'.cell? ⟨C, 1, none⟩ = some (.string xb) ∧ w'.cell? ⟨C, 2, none⟩ = some (.string xv) ∧ w'.cell? ⟨E, 0, none⟩ = some (.int .i64 xn) ∧ w'.cell? ⟨E, 1, none⟩ = some (.string xb) ∧ w'.cell? ⟨E, 2, none⟩ = some (.string xv) ∧ Hid (MY W B C E an xn ab av xb xv w') :=
  ⟨by rw [h.b0.cell]; rfl, by rw [h.b0.cell]; rfl, by rw [h.b0.cell]; rfl, by rw [h.b1.cell]; rfl, by rw [h.b1.cell]; rfl, by rw [h.b1.cell]; rfl, by rw [h.b2.cell]; rfl, by rw [h.b2.cell]; rfl, by rw [h.b2.cell]; rfl, h⟩
theorem MY.step0 {W : World} {B C E : Nat} {an xn : Int} {ab av xb xv : ByteArray} {W0 w' : World} (hb : Below W0.heap.size W0 w') (h : MY W B C E an xn ab av xb xv W0) : MY W B C E an xn ab av xb xv w' :=
  ⟨h.b0.below hb h.b0.lt, h.b1.below hb h.b1.lt, h.b2.below hb h.b2.lt, h.low.trans (hb.mono (by have := h.b0.lt; have := h.low.size; omega))⟩
theorem MY.step {W : World} {B C E : Nat} {an xn : Int} {ab av xb xv : ByteArray} {W0 w' : World} (hb : Below W0.heap.size W0 w') (h : Hid (MY W B C E an xn ab av xb xv W0)) : w'.cell? ⟨B, 0, none⟩ = some (.int .i64 an) ∧ w'.cell? ⟨B, 1, none⟩ = some (.string ab) ∧ w'.cell? ⟨B, 2, none⟩ = some (.string av) ∧ w'.cell? ⟨C, 0, none⟩ = some (.int .i64 xn) ∧ w'.cell? ⟨C, 1, none⟩ = some (.string xb) ∧ w'.cell? ⟨C, 2, none⟩ = some (.string xv) ∧ w'.cell? ⟨E, 0, none⟩ = some (.int .i64 xn) ∧ w'.cell? ⟨E, 1, none⟩ = some (.string xb) ∧ w'.cell? ⟨E, 2, none⟩ = some (.string xv) ∧ Hid (MY W B C E an xn ab av xb xv w') :=
  MY.of (MY.step0 hb h)
theorem MY.drew {W : World} {B C E : Nat} {an xn : Int} {ab av xb xv : ByteArray} {W0 : World} (h : Hid (MY W B C E an xn ab av xb xv W0)) : W0.drew.cell? ⟨B, 0, none⟩ = some (.int .i64 an) ∧ W0.drew.cell? ⟨B, 1, none⟩ = some (.string ab) ∧ W0.drew.cell? ⟨B, 2, none⟩ = some (.string av) ∧ W0.drew.cell? ⟨C, 0, none⟩ = some (.int .i64 xn) ∧ W0.drew.cell? ⟨C, 1, none⟩ = some (.string xb) ∧ W0.drew.cell? ⟨C, 2, none⟩ = some (.string xv) ∧ W0.drew.cell? ⟨E, 0, none⟩ = some (.int .i64 xn) ∧ W0.drew.cell? ⟨E, 1, none⟩ = some (.string xb) ∧ W0.drew.cell? ⟨E, 2, none⟩ = some (.string xv) ∧ Hid (MY W B C E an xn ab av xb xv W0.drew) :=
  MY.of ⟨h.b0, h.b1, h.b2, h.low.drew⟩
theorem MY.alloc {W : World} {B C E : Nat} {an xn : Int} {ab av xb xv : ByteArray} {W0 : World} (h : Hid (MY W B C E an xn ab av xb xv W0)) (x : Obj) : (W0.alloc x).cell? ⟨B, 0, none⟩ = some (.int .i64 an) ∧ (W0.alloc x).cell? ⟨B, 1, none⟩ = some (.string ab) ∧ (W0.alloc x).cell? ⟨B, 2, none⟩ = some (.string av) ∧ (W0.alloc x).cell? ⟨C, 0, none⟩ = some (.int .i64 xn) ∧ (W0.alloc x).cell? ⟨C, 1, none⟩ = some (.string xb) ∧ (W0.alloc x).cell? ⟨C, 2, none⟩ = some (.string xv) ∧ (W0.alloc x).cell? ⟨E, 0, none⟩ = some (.int .i64 xn) ∧ (W0.alloc x).cell? ⟨E, 1, none⟩ = some (.string xb) ∧ (W0.alloc x).cell? ⟨E, 2, none⟩ = some (.string xv) ∧ Hid (MY W B C E an xn ab av xb xv (W0.alloc x)) :=
  MY.of ⟨h.b0.alloc x, h.b1.alloc x, h.b2.alloc x, h.low.alloc (by have := h.b0.lt; have := h.low.size; omega) x⟩
abbrev AtN (f : Nat) (args : Array Value) (v : Value) : Prop := ∀ w : World, Calls Try.prog f args w fun e w' => e = .returned v ∧ Below w.heap.size w w'
set_option maxHeartbeats 8000000 in
theorem next_walk (W : World) (an xn ec : Int) (ab av xb xv s t : ByteArray)
    (sa : ab.size ≤ maxLen) (sav : av.size ≤ maxLen) (sl : s.size ≤ 100) (tl : t.size ≤ 300)
    (fa : Rg.few ⟨an, ab, av⟩ = true)
    (n14 : AtN 14 #[.agg #[.int .i64 an, .string ab, .string av], .string s, .string t] (.tuple #[.agg #[.int .i64 xn, .string xb, .string xv], .int .i64 ec]))
    (n15 : AtN 15 #[.agg #[.int .i64 an, .string ab, .string av], .string s, .string t] (.tuple #[.agg #[.int .i64 xn, .string xb, .string xv], .int .i64 ec]))
    (hok : ec = 0 → AtN 10 #[.agg #[.int .i64 xn, .string xb, .string xv], .agg #[.int .i64 an, .string ab, .string av]] (.bool true) ∧
      AtN 12 #[.agg #[.int .i64 an, .string ab, .string av], .agg #[.int .i64 xn, .string xb, .string xv]] (.agg #[.int .i64 xn, .string xb, .string xv]) ∧
      AtN 8 #[.agg #[.int .i64 xn, .string xb, .string xv]] (.int .i64 0)) :
    Calls Try.prog 4 #[.agg #[.int .i64 an, .string ab, .string av], .string s, .string t] W fun e w' => e = .returned (.bool true) ∧ Below W.heap.size W w' := by
  have SA := Lib.hid sa; have SAV := Lib.hid sav
  clear sa sav
  have N14 := Lib.hid n14; have N15 := Lib.hid n15; have HOK := Lib.hid hok
  clear n14 n15 hok
  have FA := Lib.hid fa
  clear fa
  have b : Blk (W.alloc (.cells #[.int .i64 an, .string ab, .string av] 23)) W.heap.size 23 #[.int .i64 an, .string ab, .string av] := Blk.new _ _ _
  have L0 := Lib.hid ((Below.refl W.heap.size W).alloc (Nat.le_refl _) (.cells #[.int .i64 an, .string ab, .string av] 23))
  go_enter Try.func4, Try.ntmps4
  go_wp2_with fail
  refine (few_any ⟨an, ab, av⟩ _ SA.out SAV.out).mono ?_
  rw [FA.out]
  rintro e w1 ⟨rfl, hb⟩
  have b := b.below hb b.lt
  have L1 := Lib.hid (L0.out.trans (hb.mono L0.out.size))
  clear L0 hb
  obtain ⟨b0, b1, b2⟩ := Blk.three b
  go_wp2_with fail
  refine (N14.out _).mono ?_
  rintro e w2 ⟨rfl, hb⟩
  clear b0 b1 b2
  have b := b.below hb b.lt
  have L2 := Lib.hid (L1.out.trans (hb.mono L1.out.size))
  clear L1 hb
  have c : Blk (w2.alloc (.cells #[.int .i64 xn, .string xb, .string xv] 23)) w2.heap.size 23 #[.int .i64 xn, .string xb, .string xv] := Blk.new _ _ _
  have b := b.alloc (.cells #[.int .i64 xn, .string xb, .string xv] 23)
  have L3 := Lib.hid (L2.out.alloc L2.out.size (.cells #[.int .i64 xn, .string xb, .string xv] 23))
  clear L2
  obtain ⟨b0, b1, b2⟩ := Blk.three b
  go_wp2_with fail
  refine (N15.out _).mono ?_
  rintro e w3 ⟨rfl, hb⟩
  clear b0 b1 b2
  have b := b.below hb b.lt
  have c := c.below hb c.lt
  have L4 := Lib.hid (L3.out.trans (hb.mono L3.out.size))
  clear L3 hb
  have hY : MY W W.heap.size w2.heap.size w3.heap.size an xn ab av xb xv (w3.alloc (.cells #[.int .i64 xn, .string xb, .string xv] 23)) :=
    ⟨b.alloc _, c.alloc _, Blk.new _ _ _, L4.out.alloc L4.out.size _⟩
  clear b c L4
  obtain ⟨b0, b1, b2, c0, c1, c2, d0, d1, d2, hY⟩ := MY.of hY
  go_wp2_with fail
  generalize w3.alloc (.cells #[.int .i64 xn, .string xb, .string xv] 23) = W5 at *
  generalize w3.heap.size = E at *
  generalize w2.heap.size = C at *
  generalize hB : W.heap.size = B at *
  have HB := Lib.hid hB
  clear hB
  have test := MY.drew hY
  clear hY b0 b1 b2 c0 c1 c2 d0 d1 d2 c
  by_cases he : ec = 0
  · subst he
    obtain ⟨k10, k12, k8⟩ := HOK.out rfl
    have K10 := Lib.hid k10; have K12 := Lib.hid k12; have K8 := Lib.hid k8
    clear k10 k12 k8 HOK N14 N15
    refine wp_region_held_drew (S := (fun w' => w'.cell? ⟨B, 0, none⟩ = some (.int .i64 an) ∧ w'.cell? ⟨B, 1, none⟩ = some (.string ab) ∧ w'.cell? ⟨B, 2, none⟩ = some (.string av) ∧ w'.cell? ⟨C, 0, none⟩ = some (.int .i64 xn) ∧ w'.cell? ⟨C, 1, none⟩ = some (.string xb) ∧ w'.cell? ⟨C, 2, none⟩ = some (.string xv) ∧ w'.cell? ⟨E, 0, none⟩ = some (.int .i64 xn) ∧ w'.cell? ⟨E, 1, none⟩ = some (.string xb) ∧ w'.cell? ⟨E, 2, none⟩ = some (.string xv) ∧ Hid (MY W B C E an xn ab av xb xv w'))) (by kernel_rfl) ?_ (fun hHeldp0 => ?_)
    · exact test
    refine wpAnyH_take (i := 0) (v := ?vp0) ops0 (by kernel_rfl) (by kernel_rfl) (by kernel_rfl) (fun _ _ _ h => h) (Or.inl ⟨by rfl, ?yp0⟩) hHeldp0 ?_
    case yp0 => (intro w hSw; (try dsimp only at hSw); go_simp; try (with_reducible rfl))
    try simp only [Act.put, List.setIfInBounds_toArray, List.set_cons_zero, List.set_cons_succ]
    refine wpAnyH_take (i := 1) (v := ?vp1) (opsS ops0) (by kernel_rfl) (by kernel_rfl) (by kernel_rfl) (fun _ _ _ h => h) (Or.inl ⟨by rfl, ?yp1⟩) hHeldp0 ?_
    case yp1 => (intro w hSw; (try dsimp only at hSw); go_simp; try (with_reducible rfl))
    try simp only [Act.put, List.setIfInBounds_toArray, List.set_cons_zero, List.set_cons_succ]
    refine wpAnyH_take (i := 2) (v := ?vp2) (opsS (opsS ops0)) (by kernel_rfl) (by kernel_rfl) (by kernel_rfl) (fun _ _ _ h => h) (Or.inl ⟨by rfl, ?yp2⟩) hHeldp0 ?_
    case yp2 => (intro w hSw; (try dsimp only at hSw); go_simp; try (with_reducible rfl))
    try simp only [Act.put, List.setIfInBounds_toArray, List.set_cons_zero, List.set_cons_succ]
    refine wpAnyH_take (i := 3) (v := ?vp3) (opsS (opsS (opsS ops0))) (by kernel_rfl) (by kernel_rfl) (by kernel_rfl) (fun _ _ _ h => h) (Or.inl ⟨by rfl, ?yp3⟩) hHeldp0 ?_
    case yp3 => (intro w hSw; (try dsimp only at hSw); go_simp; try (with_reducible rfl))
    try simp only [Act.put, List.setIfInBounds_toArray, List.set_cons_zero, List.set_cons_succ]
    refine wpAnyH_take (i := 4) (v := ?vp4) (opsS (opsS (opsS (opsS ops0)))) (by kernel_rfl) (by kernel_rfl) (by kernel_rfl) (fun _ _ _ h => h) (Or.inl ⟨by rfl, ?yp4⟩) hHeldp0 ?_
    case yp4 => (intro w hSw; (try dsimp only at hSw); go_simp; try (with_reducible rfl))
    try simp only [Act.put, List.setIfInBounds_toArray, List.set_cons_zero, List.set_cons_succ]
    refine wpAnyH_ready (rs := [5]) (by kernel_rfl) (by simp) ?_
    refine AllReadyH.cons (opsS (opsS (opsS (opsS (opsS ops0))))) (fun K hK => ?_) AllReadyH.nil
    go_simp
    refine (K10.out _).mono ?_; rintro e w' ⟨rfl, hb⟩
    dsimp only
    refine hK.out _ _ ?_ (fun hHeldp1 => ?_)
    · (first | assumption | exact MY.drew (by assumption) | (go_split_ands; exact MY.drew (by assumption)) | (go_split_ands; exact MY.step (by assumption) (by assumption)))
    clear hK K hHeldp0
    try clear hb
    try simp only [Act.put, List.setIfInBounds_toArray, List.set_cons_zero, List.set_cons_succ]
    refine wpAnyH_take (i := 6) (v := ?vp6) (opsS (opsS (opsS (opsS (opsS (opsS ops0)))))) (by kernel_rfl) (by kernel_rfl) (by kernel_rfl) (fun _ _ _ h => h) (Or.inl ⟨by rfl, ?yp6⟩) hHeldp1 ?_
    case yp6 => (intro w hSw; (try dsimp only at hSw); go_simp; try (with_reducible rfl))
    try simp only [Act.put, List.setIfInBounds_toArray, List.set_cons_zero, List.set_cons_succ]
    refine wpAnyH_take (i := 7) (v := ?vp7) (opsS (opsS (opsS (opsS (opsS (opsS (opsS ops0))))))) (by kernel_rfl) (by kernel_rfl) (by kernel_rfl) (fun _ _ _ h => h) (Or.inl ⟨by rfl, ?yp7⟩) hHeldp1 ?_
    case yp7 => (intro w hSw; (try dsimp only at hSw); go_simp; try (with_reducible rfl))
    try simp only [Act.put, List.setIfInBounds_toArray, List.set_cons_zero, List.set_cons_succ]
    refine wpAnyH_take (i := 8) (v := ?vp8) (opsS (opsS (opsS (opsS (opsS (opsS (opsS (opsS ops0)))))))) (by kernel_rfl) (by kernel_rfl) (by kernel_rfl) (fun _ _ _ h => h) (Or.inl ⟨by rfl, ?yp8⟩) hHeldp1 ?_
    case yp8 => (intro w hSw; (try dsimp only at hSw); go_simp; try (with_reducible rfl))
    try simp only [Act.put, List.setIfInBounds_toArray, List.set_cons_zero, List.set_cons_succ]
    refine wpAnyH_take (i := 10) (v := ?vp10) (opsS (opsS (opsS (opsS (opsS (opsS (opsS (opsS (opsS (opsS ops0)))))))))) (by kernel_rfl) (by kernel_rfl) (by kernel_rfl) (fun _ _ _ h => h) (Or.inl ⟨by rfl, ?yp10⟩) hHeldp1 ?_
    case yp10 => (intro w hSw; (try dsimp only at hSw); go_simp; try (with_reducible rfl))
    try simp only [Act.put, List.setIfInBounds_toArray, List.set_cons_zero, List.set_cons_succ]
    refine wpAnyH_ready (rs := [9]) (by kernel_rfl) (by simp) ?_
    refine AllReadyH.cons (opsS (opsS (opsS (opsS (opsS (opsS (opsS (opsS (opsS ops0))))))))) (fun K hK => ?_) AllReadyH.nil
    go_simp
    refine (K12.out _).mono ?_; rintro e w' ⟨rfl, hb⟩
    dsimp only
    refine hK.out _ _ ?_ (fun hHeldp2 => ?_)
    · (first | assumption | exact MY.drew (by assumption) | (go_split_ands; exact MY.drew (by assumption)) | (go_split_ands; exact MY.step (by assumption) (by assumption)))
    clear hK K hHeldp1
    try clear hb
    try simp only [Act.put, List.setIfInBounds_toArray, List.set_cons_zero, List.set_cons_succ]
    refine wpAnyH_take (i := 11) (v := ?vp11) (opsS (opsS (opsS (opsS (opsS (opsS (opsS (opsS (opsS (opsS (opsS ops0))))))))))) (by kernel_rfl) (by kernel_rfl) (by kernel_rfl) (fun _ _ _ h => h) (Or.inl ⟨by rfl, ?yp11⟩) hHeldp2 ?_
    case yp11 => (intro w hSw; (try dsimp only at hSw); go_simp; try (with_reducible rfl))
    try simp only [Act.put, List.setIfInBounds_toArray, List.set_cons_zero, List.set_cons_succ]
    refine wpAnyH_take (i := 12) (v := ?vp12) (opsS (opsS (opsS (opsS (opsS (opsS (opsS (opsS (opsS (opsS (opsS (opsS ops0)))))))))))) (by kernel_rfl) (by kernel_rfl) (by kernel_rfl) (fun _ _ _ h => h) (Or.inl ⟨by rfl, ?yp12⟩) hHeldp2 ?_
    case yp12 => (intro w hSw; (try dsimp only at hSw); go_simp; try (with_reducible rfl))
    try simp only [Act.put, List.setIfInBounds_toArray, List.set_cons_zero, List.set_cons_succ]
    refine wpAnyH_take (i := 13) (v := ?vp13) (opsS (opsS (opsS (opsS (opsS (opsS (opsS (opsS (opsS (opsS (opsS (opsS (opsS ops0))))))))))))) (by kernel_rfl) (by kernel_rfl) (by kernel_rfl) (fun _ _ _ h => h) (Or.inl ⟨by rfl, ?yp13⟩) hHeldp2 ?_
    case yp13 => (intro w hSw; (try dsimp only at hSw); go_simp; try (with_reducible rfl))
    try simp only [Act.put, List.setIfInBounds_toArray, List.set_cons_zero, List.set_cons_succ]
    refine wpAnyH_take (i := 14) (v := ?vp14) (opsS (opsS (opsS (opsS (opsS (opsS (opsS (opsS (opsS (opsS (opsS (opsS (opsS (opsS ops0)))))))))))))) (by kernel_rfl) (by kernel_rfl) (by kernel_rfl) (fun _ _ _ h => h) (Or.inl ⟨by rfl, ?yp14⟩) hHeldp2 ?_
    case yp14 => (intro w hSw; (try dsimp only at hSw); go_simp; try (with_reducible rfl))
    try simp only [Act.put, List.setIfInBounds_toArray, List.set_cons_zero, List.set_cons_succ]
    refine wpAnyH_ready (rs := [15]) (by kernel_rfl) (by simp) ?_
    refine AllReadyH.cons (opsS (opsS (opsS (opsS (opsS (opsS (opsS (opsS (opsS (opsS (opsS (opsS (opsS (opsS (opsS ops0))))))))))))))) (fun K hK => ?_) AllReadyH.nil
    go_simp
    refine (K8.out _).mono ?_; rintro e w' ⟨rfl, hb⟩
    dsimp only
    refine hK.out _ _ ?_ (fun hHeldp3 => ?_)
    · (first | assumption | exact MY.drew (by assumption) | (go_split_ands; exact MY.drew (by assumption)) | (go_split_ands; exact MY.step (by assumption) (by assumption)))
    clear hK K hHeldp2
    try clear hb
    try simp only [Act.put, List.setIfInBounds_toArray, List.set_cons_zero, List.set_cons_succ]
    refine wpAnyH_take (i := 16) (v := ?vp16) (opsS (opsS (opsS (opsS (opsS (opsS (opsS (opsS (opsS (opsS (opsS (opsS (opsS (opsS (opsS (opsS ops0)))))))))))))))) (by kernel_rfl) (by kernel_rfl) (by kernel_rfl) (fun _ _ _ h => h) (Or.inl ⟨by rfl, ?yp16⟩) hHeldp3 ?_
    case yp16 => (intro w hSw; (try dsimp only at hSw); go_simp; try (with_reducible rfl))
    try simp only [Act.put, List.setIfInBounds_toArray, List.set_cons_zero, List.set_cons_succ]
    refine wpAnyH_take (i := 17) (v := ?vp17) (opsS (opsS (opsS (opsS (opsS (opsS (opsS (opsS (opsS (opsS (opsS (opsS (opsS (opsS (opsS (opsS (opsS ops0))))))))))))))))) (by kernel_rfl) (by kernel_rfl) (by kernel_rfl) (fun _ _ _ h => h) (Or.inl ⟨by rfl, ?yp17⟩) hHeldp3 ?_
    case yp17 => (intro w hSw; (try dsimp only at hSw); go_simp; try (with_reducible rfl))
    try simp only [Act.put, List.setIfInBounds_toArray, List.set_cons_zero, List.set_cons_succ]
    refine wpAnyH_take (i := 18) (v := ?vp18) (opsS (opsS (opsS (opsS (opsS (opsS (opsS (opsS (opsS (opsS (opsS (opsS (opsS (opsS (opsS (opsS (opsS (opsS ops0)))))))))))))))))) (by kernel_rfl) (by kernel_rfl) (by kernel_rfl) (fun _ _ _ h => h) (Or.inl ⟨by rfl, ?yp18⟩) hHeldp3 ?_
    case yp18 => (intro w hSw; (try dsimp only at hSw); go_simp; try (with_reducible rfl))
    try simp only [Act.put, List.setIfInBounds_toArray, List.set_cons_zero, List.set_cons_succ]
    refine wpAnyH_take (i := 19) (v := ?vp19) (opsS (opsS (opsS (opsS (opsS (opsS (opsS (opsS (opsS (opsS (opsS (opsS (opsS (opsS (opsS (opsS (opsS (opsS (opsS ops0))))))))))))))))))) (by kernel_rfl) (by kernel_rfl) (by kernel_rfl) (fun _ _ _ h => h) (Or.inl ⟨by rfl, ?yp19⟩) hHeldp3 ?_
    case yp19 => (intro w hSw; (try dsimp only at hSw); go_simp; try (with_reducible rfl))
    try simp only [Act.put, List.setIfInBounds_toArray, List.set_cons_zero, List.set_cons_succ]
    refine wpAnyH_ready (rs := [20]) (by kernel_rfl) (by simp) ?_
    refine AllReadyH.cons (opsS (opsS (opsS (opsS (opsS (opsS (opsS (opsS (opsS (opsS (opsS (opsS (opsS (opsS (opsS (opsS (opsS (opsS (opsS (opsS ops0)))))))))))))))))))) (fun K hK => ?_) AllReadyH.nil
    go_simp
    refine (awake_any _).mono ?_; rintro e w' ⟨rfl, hb⟩
    dsimp only
    refine hK.out _ _ ?_ (fun hHeldp4 => ?_)
    · (first | assumption | exact MY.drew (by assumption) | (go_split_ands; exact MY.drew (by assumption)) | (go_split_ands; exact MY.step (by assumption) (by assumption)))
    clear hK K hHeldp3
    try clear hb
    try simp only [Act.put, List.setIfInBounds_toArray, List.set_cons_zero, List.set_cons_succ]
    refine wpAnyH_take (i := 21) (v := ?vp21) (opsS (opsS (opsS (opsS (opsS (opsS (opsS (opsS (opsS (opsS (opsS (opsS (opsS (opsS (opsS (opsS (opsS (opsS (opsS (opsS (opsS ops0))))))))))))))))))))) (by kernel_rfl) (by kernel_rfl) (by kernel_rfl) (fun _ _ _ h => h) (Or.inl ⟨by rfl, ?yp21⟩) hHeldp4 ?_
    case yp21 => (intro w hSw; (try dsimp only at hSw); go_simp; try (with_reducible rfl))
    try simp only [Act.put, List.setIfInBounds_toArray, List.set_cons_zero, List.set_cons_succ]
    refine wpAnyH_take (i := 22) (v := ?vp22) (opsS (opsS (opsS (opsS (opsS (opsS (opsS (opsS (opsS (opsS (opsS (opsS (opsS (opsS (opsS (opsS (opsS (opsS (opsS (opsS (opsS (opsS ops0)))))))))))))))))))))) (by kernel_rfl) (by kernel_rfl) (by kernel_rfl) (fun _ _ _ h => h) (Or.inl ⟨by rfl, ?yp22⟩) hHeldp4 ?_
    case yp22 => (intro w hSw; (try dsimp only at hSw); go_simp; try (with_reducible rfl))
    try simp only [Act.put, List.setIfInBounds_toArray, List.set_cons_zero, List.set_cons_succ]
    refine wpAnyH_done (by kernel_rfl) ?_ _
    have hl := Lib.hid hHeldp4.2.2.2.2.2.2.2.2.2.low
    clear test hHeldp4
    go_wp2
    go_ret
    exact ⟨rfl, by rw [HB.out]; exact hl.out⟩
  · have he' : (ec != 0) = true := by simpa using he
    clear HOK N14 N15
    refine wp_region_held_drew (S := (fun w' => w'.cell? ⟨B, 0, none⟩ = some (.int .i64 an) ∧ w'.cell? ⟨B, 1, none⟩ = some (.string ab) ∧ w'.cell? ⟨B, 2, none⟩ = some (.string av) ∧ w'.cell? ⟨C, 0, none⟩ = some (.int .i64 xn) ∧ w'.cell? ⟨C, 1, none⟩ = some (.string xb) ∧ w'.cell? ⟨C, 2, none⟩ = some (.string xv) ∧ w'.cell? ⟨E, 0, none⟩ = some (.int .i64 xn) ∧ w'.cell? ⟨E, 1, none⟩ = some (.string xb) ∧ w'.cell? ⟨E, 2, none⟩ = some (.string xv) ∧ Hid (MY W B C E an xn ab av xb xv w'))) (by kernel_rfl) ?_ (fun hHeldq0 => ?_)
    · exact test
    refine wpAnyH_take (i := 0) (v := ?vq0) ops0 (by kernel_rfl) (by kernel_rfl) (by kernel_rfl) (fun _ _ _ h => h) (Or.inl ⟨by rfl, ?yq0⟩) hHeldq0 ?_
    case yq0 => (intro w hSw; (try dsimp only at hSw); go_simp; try (with_reducible rfl))
    try simp only [Act.put, List.setIfInBounds_toArray, List.set_cons_zero, List.set_cons_succ]
    refine wpAnyH_take (i := 1) (v := ?vq1) (opsS ops0) (by kernel_rfl) (by kernel_rfl) (by kernel_rfl) (fun _ _ _ h => h) (Or.inl ⟨by rfl, ?yq1⟩) hHeldq0 ?_
    case yq1 => (intro w hSw; (try dsimp only at hSw); go_simp; try (with_reducible rfl))
    try simp only [Act.put, List.setIfInBounds_toArray, List.set_cons_zero, List.set_cons_succ]
    refine wpAnyH_take (i := 2) (v := ?vq2) (opsS (opsS ops0)) (by kernel_rfl) (by kernel_rfl) (by kernel_rfl) (fun _ _ _ h => h) (Or.inl ⟨by rfl, ?yq2⟩) hHeldq0 ?_
    case yq2 => (intro w hSw; (try dsimp only at hSw); go_simp; try (with_reducible rfl))
    try simp only [Act.put, List.setIfInBounds_toArray, List.set_cons_zero, List.set_cons_succ]
    refine wpAnyH_take (i := 3) (v := undef) (opsS (opsS (opsS ops0))) (by kernel_rfl) (by kernel_rfl) (by kernel_rfl) (fun _ _ _ h => h) (Or.inr ⟨by rfl, rfl⟩) hHeldq0 ?_
    try simp only [Act.put, List.setIfInBounds_toArray, List.set_cons_zero, List.set_cons_succ]
    refine wpAnyH_take (i := 4) (v := undef) (opsS (opsS (opsS (opsS ops0)))) (by kernel_rfl) (by kernel_rfl) (by kernel_rfl) (fun _ _ _ h => h) (Or.inr ⟨by rfl, rfl⟩) hHeldq0 ?_
    try simp only [Act.put, List.setIfInBounds_toArray, List.set_cons_zero, List.set_cons_succ]
    refine wpAnyH_take (i := 5) (v := undef) (opsS (opsS (opsS (opsS (opsS ops0))))) (by kernel_rfl) (by kernel_rfl) (by kernel_rfl) (fun _ _ _ h => h) (Or.inr ⟨by rfl, rfl⟩) hHeldq0 ?_
    try simp only [Act.put, List.setIfInBounds_toArray, List.set_cons_zero, List.set_cons_succ]
    refine wpAnyH_take (i := 6) (v := undef) (opsS (opsS (opsS (opsS (opsS (opsS ops0)))))) (by kernel_rfl) (by kernel_rfl) (by kernel_rfl) (fun _ _ _ h => h) (Or.inr ⟨by rfl, rfl⟩) hHeldq0 ?_
    try simp only [Act.put, List.setIfInBounds_toArray, List.set_cons_zero, List.set_cons_succ]
    refine wpAnyH_take (i := 7) (v := undef) (opsS (opsS (opsS (opsS (opsS (opsS (opsS ops0))))))) (by kernel_rfl) (by kernel_rfl) (by kernel_rfl) (fun _ _ _ h => h) (Or.inr ⟨by rfl, rfl⟩) hHeldq0 ?_
    try simp only [Act.put, List.setIfInBounds_toArray, List.set_cons_zero, List.set_cons_succ]
    refine wpAnyH_take (i := 8) (v := undef) (opsS (opsS (opsS (opsS (opsS (opsS (opsS (opsS ops0)))))))) (by kernel_rfl) (by kernel_rfl) (by kernel_rfl) (fun _ _ _ h => h) (Or.inr ⟨by rfl, rfl⟩) hHeldq0 ?_
    try simp only [Act.put, List.setIfInBounds_toArray, List.set_cons_zero, List.set_cons_succ]
    refine wpAnyH_take (i := 9) (v := undef) (opsS (opsS (opsS (opsS (opsS (opsS (opsS (opsS (opsS ops0))))))))) (by kernel_rfl) (by kernel_rfl) (by kernel_rfl) (fun _ _ _ h => h) (Or.inr ⟨by rfl, rfl⟩) hHeldq0 ?_
    try simp only [Act.put, List.setIfInBounds_toArray, List.set_cons_zero, List.set_cons_succ]
    refine wpAnyH_take (i := 10) (v := undef) (opsS (opsS (opsS (opsS (opsS (opsS (opsS (opsS (opsS (opsS ops0)))))))))) (by kernel_rfl) (by kernel_rfl) (by kernel_rfl) (fun _ _ _ h => h) (Or.inr ⟨by rfl, rfl⟩) hHeldq0 ?_
    try simp only [Act.put, List.setIfInBounds_toArray, List.set_cons_zero, List.set_cons_succ]
    refine wpAnyH_take (i := 11) (v := undef) (opsS (opsS (opsS (opsS (opsS (opsS (opsS (opsS (opsS (opsS (opsS ops0))))))))))) (by kernel_rfl) (by kernel_rfl) (by kernel_rfl) (fun _ _ _ h => h) (Or.inr ⟨by rfl, rfl⟩) hHeldq0 ?_
    try simp only [Act.put, List.setIfInBounds_toArray, List.set_cons_zero, List.set_cons_succ]
    refine wpAnyH_take (i := 12) (v := undef) (opsS (opsS (opsS (opsS (opsS (opsS (opsS (opsS (opsS (opsS (opsS (opsS ops0)))))))))))) (by kernel_rfl) (by kernel_rfl) (by kernel_rfl) (fun _ _ _ h => h) (Or.inr ⟨by rfl, rfl⟩) hHeldq0 ?_
    try simp only [Act.put, List.setIfInBounds_toArray, List.set_cons_zero, List.set_cons_succ]
    refine wpAnyH_take (i := 13) (v := undef) (opsS (opsS (opsS (opsS (opsS (opsS (opsS (opsS (opsS (opsS (opsS (opsS (opsS ops0))))))))))))) (by kernel_rfl) (by kernel_rfl) (by kernel_rfl) (fun _ _ _ h => h) (Or.inr ⟨by rfl, rfl⟩) hHeldq0 ?_
    try simp only [Act.put, List.setIfInBounds_toArray, List.set_cons_zero, List.set_cons_succ]
    refine wpAnyH_take (i := 14) (v := undef) (opsS (opsS (opsS (opsS (opsS (opsS (opsS (opsS (opsS (opsS (opsS (opsS (opsS (opsS ops0)))))))))))))) (by kernel_rfl) (by kernel_rfl) (by kernel_rfl) (fun _ _ _ h => h) (Or.inr ⟨by rfl, rfl⟩) hHeldq0 ?_
    try simp only [Act.put, List.setIfInBounds_toArray, List.set_cons_zero, List.set_cons_succ]
    refine wpAnyH_take (i := 15) (v := undef) (opsS (opsS (opsS (opsS (opsS (opsS (opsS (opsS (opsS (opsS (opsS (opsS (opsS (opsS (opsS ops0))))))))))))))) (by kernel_rfl) (by kernel_rfl) (by kernel_rfl) (fun _ _ _ h => h) (Or.inr ⟨by rfl, rfl⟩) hHeldq0 ?_
    try simp only [Act.put, List.setIfInBounds_toArray, List.set_cons_zero, List.set_cons_succ]
    refine wpAnyH_take (i := 16) (v := undef) (opsS (opsS (opsS (opsS (opsS (opsS (opsS (opsS (opsS (opsS (opsS (opsS (opsS (opsS (opsS (opsS ops0)))))))))))))))) (by kernel_rfl) (by kernel_rfl) (by kernel_rfl) (fun _ _ _ h => h) (Or.inr ⟨by rfl, rfl⟩) hHeldq0 ?_
    try simp only [Act.put, List.setIfInBounds_toArray, List.set_cons_zero, List.set_cons_succ]
    refine wpAnyH_take (i := 17) (v := undef) (opsS (opsS (opsS (opsS (opsS (opsS (opsS (opsS (opsS (opsS (opsS (opsS (opsS (opsS (opsS (opsS (opsS ops0))))))))))))))))) (by kernel_rfl) (by kernel_rfl) (by kernel_rfl) (fun _ _ _ h => h) (Or.inr ⟨by rfl, rfl⟩) hHeldq0 ?_
    try simp only [Act.put, List.setIfInBounds_toArray, List.set_cons_zero, List.set_cons_succ]
    refine wpAnyH_take (i := 18) (v := ?vq18) (opsS (opsS (opsS (opsS (opsS (opsS (opsS (opsS (opsS (opsS (opsS (opsS (opsS (opsS (opsS (opsS (opsS (opsS ops0)))))))))))))))))) (by kernel_rfl) (by kernel_rfl) (by kernel_rfl) (fun _ _ _ h => h) (Or.inl ⟨by rfl, ?yq18⟩) hHeldq0 ?_
    case yq18 => (intro w hSw; (try dsimp only at hSw); go_simp; try (with_reducible rfl))
    try simp only [Act.put, List.setIfInBounds_toArray, List.set_cons_zero, List.set_cons_succ]
    refine wpAnyH_take (i := 19) (v := ?vq19) (opsS (opsS (opsS (opsS (opsS (opsS (opsS (opsS (opsS (opsS (opsS (opsS (opsS (opsS (opsS (opsS (opsS (opsS (opsS ops0))))))))))))))))))) (by kernel_rfl) (by kernel_rfl) (by kernel_rfl) (fun _ _ _ h => h) (Or.inl ⟨by rfl, ?yq19⟩) hHeldq0 ?_
    case yq19 => (intro w hSw; (try dsimp only at hSw); go_simp; try (with_reducible rfl))
    try simp only [Act.put, List.setIfInBounds_toArray, List.set_cons_zero, List.set_cons_succ]
    refine wpAnyH_ready (rs := [20]) (by kernel_rfl) (by simp) ?_
    refine AllReadyH.cons (opsS (opsS (opsS (opsS (opsS (opsS (opsS (opsS (opsS (opsS (opsS (opsS (opsS (opsS (opsS (opsS (opsS (opsS (opsS (opsS ops0)))))))))))))))))))) (fun K hK => ?_) AllReadyH.nil
    go_simp
    refine (awake_any _).mono ?_; rintro e w' ⟨rfl, hb⟩
    dsimp only
    refine hK.out _ _ ?_ (fun hHeldq1 => ?_)
    · (first | assumption | exact MY.drew (by assumption) | (go_split_ands; exact MY.drew (by assumption)) | (go_split_ands; exact MY.step (by assumption) (by assumption)))
    clear hK K hHeldq0
    try clear hb
    try simp only [Act.put, List.setIfInBounds_toArray, List.set_cons_zero, List.set_cons_succ]
    refine wpAnyH_take (i := 21) (v := ?vq21) (opsS (opsS (opsS (opsS (opsS (opsS (opsS (opsS (opsS (opsS (opsS (opsS (opsS (opsS (opsS (opsS (opsS (opsS (opsS (opsS (opsS ops0))))))))))))))))))))) (by kernel_rfl) (by kernel_rfl) (by kernel_rfl) (fun _ _ _ h => h) (Or.inl ⟨by rfl, ?yq21⟩) hHeldq1 ?_
    case yq21 => (intro w hSw; (try dsimp only at hSw); go_simp; try (with_reducible rfl))
    try simp only [Act.put, List.setIfInBounds_toArray, List.set_cons_zero, List.set_cons_succ]
    refine wpAnyH_take (i := 22) (v := ?vq22) (opsS (opsS (opsS (opsS (opsS (opsS (opsS (opsS (opsS (opsS (opsS (opsS (opsS (opsS (opsS (opsS (opsS (opsS (opsS (opsS (opsS (opsS ops0)))))))))))))))))))))) (by kernel_rfl) (by kernel_rfl) (by kernel_rfl) (fun _ _ _ h => h) (Or.inl ⟨by rfl, ?yq22⟩) hHeldq1 ?_
    case yq22 => (intro w hSw; (try dsimp only at hSw); go_simp; try (with_reducible rfl))
    try simp only [Act.put, List.setIfInBounds_toArray, List.set_cons_zero, List.set_cons_succ]
    refine wpAnyH_done (by kernel_rfl) ?_ _
    have hl := Lib.hid hHeldq1.2.2.2.2.2.2.2.2.2.low
    clear test hHeldq1
    go_wp2
    go_ret
    exact ⟨rfl, by rw [HB.out]; exact hl.out⟩
theorem next_not (W : World) (a : Rg) (s t : ByteArray) (ha : a.by_.size ≤ maxLen) (hav : a.value.size ≤ maxLen) (hs : s.size ≤ maxLen) (ht : t.size ≤ maxLen)
    (hf : a.few = false ∨ (a.few = true ∧ 100 < s.size) ∨ (a.few = true ∧ s.size ≤ 100 ∧ 300 < t.size)) :
    Calls Try.prog 4 #[a.val, .string s, .string t] W fun e w' => e = .returned (.bool true) ∧ Below W.heap.size W w' := by
  obtain ⟨an, ab, av⟩ := a
  simp only at ha hav
  have SA := Lib.hid ha; have SAV := Lib.hid hav
  clear ha hav
  unfold maxLen at hs ht
  show Calls Try.prog 4 #[.agg #[.int .i64 an, .string ab, .string av], .string s, .string t] W _
  have L0 := Lib.hid ((Below.refl W.heap.size W).alloc (Nat.le_refl _) (.cells #[.int .i64 an, .string ab, .string av] 23))
  rcases hf with fa | ⟨fa, h1⟩ | ⟨fa, h1, h2⟩
  all_goals
    have FA := Lib.hid fa
    clear fa
    go_enter Try.func4, Try.ntmps4
    go_wp2_with fail
    refine (few_any ⟨an, ab, av⟩ _ SA.out SAV.out).mono ?_
    rw [FA.out]
    rintro e w1 ⟨rfl, hb⟩
    have L1 := Lib.hid (L0.out.trans (hb.mono L0.out.size))
    clear L0 hb
    go_wp2_with fail
    refine (awake_any _).mono ?_
    rintro e w2 ⟨rfl, hb⟩
    have L2 := Lib.hid (L1.out.trans (hb.mono L1.out.size))
    clear L1 hb
    go_wp2
    go_ret
    exact ⟨rfl, L2.out⟩
theorem next_facts (a : Rg) (s t : ByteArray) (h : (a.next s t).2 = 0) : (a.next s t).1.newer a = true ∧ a.join (a.next s t).1 = (a.next s t).1 ∧ (a.next s t).1.check = 0 := by
  by_cases h1 : (¬ a.isZero ∧ ¬ a.may) ∨ isName s.data.toList = false ∨ 256 < t.size
  · have e : a.next s t = (Rg.zero, 1) := if_pos h1
    rw [e] at h; simp at h
  · by_cases h2 : a.n = 9007199254740992
    · have e : a.next s t = (Rg.zero, 4) := (if_neg h1).trans (if_pos h2)
      rw [e] at h; simp at h
    · have e : a.next s t = (⟨a.n + 1, s, t⟩, 0) := (if_neg h1).trans (if_neg h2)
      rw [e]
      have hn : Rg.newer ⟨a.n + 1, s, t⟩ a = true := by
        obtain ⟨n, b, v⟩ := a
        rw [newer_n (by simp only; omega)]; simp only; exact decide_eq_true (by omega)
      refine ⟨hn, join_right hn, check_ok ?_⟩
      have hz : a.isZero ∨ a.may := by
        by_cases hz : a.isZero
        · exact .inl hz
        · exact .inr (Classical.byContradiction fun hm => h1 (.inl ⟨hz, hm⟩))
      have hi : isName s.data.toList = true := by
        cases hq : isName s.data.toList
        · exact absurd (.inr (.inl hq)) h1
        · rfl
      have ht : ¬ 256 < t.size := fun q => h1 (.inr (.inr q))
      refine ⟨?_, ?_, .inr hi, by simp only; omega⟩
      · rcases hz with hz | hz
        · have := hz.1; simp only; omega
        · have := hz.1; simp only; omega
      · rcases hz with hz | hz
        · have := hz.1; simp only; omega
        · have := hz.2.1; simp only; omega
theorem next_all (W : World) (v0 : Value) (v1 : Value) (v2 : Value) (h0 : V23 W v0) (h1 : V9 W v1) (h2 : V9 W v2) :
    Calls Try.prog 4 #[v0, v1, v2] W fun e w' => e = .returned (.bool true) ∧ Below W.heap.size W w' := by
  obtain ⟨⟨an, ab, av⟩, rfl, -, p1, p2⟩ := h0
  obtain ⟨⟨s⟩, rfl, p3⟩ := h1
  obtain ⟨⟨t⟩, rfl, p4⟩ := h2
  cases fa : Rg.few ⟨an, ab, av⟩
  · exact next_not W ⟨an, ab, av⟩ s t p1 p2 p3 p4 (.inl fa)
  · by_cases hs : s.size ≤ 100
    · by_cases ht : t.size ≤ 300
      · have hF := next_facts ⟨an, ab, av⟩ s t
        have hN := fun w => next_any ⟨an, ab, av⟩ s t w p1 p2 p3 p4
        have hR := fun w => rnext_any ⟨an, ab, av⟩ s t w p1 p2 p3 p4
        have hs1 : (Rg.next ⟨an, ab, av⟩ s t).2 = 0 → (Rg.next ⟨an, ab, av⟩ s t).1 = ⟨an + 1, s, t⟩ ∧ s.size ≤ maxLen := fun h => ⟨by
          unfold Rg.next at h ⊢
          split at h <;> rename_i h1
          · simp at h
          · rw [if_neg h1]
            split at h <;> rename_i h2
            · simp at h
            · rw [if_neg h2], p3⟩
        generalize Rg.next ⟨an, ab, av⟩ s t = X at *
        obtain ⟨⟨xn, xb, xv⟩, ec⟩ := X
        refine next_walk W an xn ec ab av xb xv s t p1 p2 hs ht fa hN hR fun h => ?_
        obtain ⟨f1, f2, f3⟩ := hF h
        obtain ⟨e1, _⟩ := hs1 h
        injection e1 with e1 e2 e3
        subst e2; subst e3
        refine ⟨fun w => ?_, fun w => ?_, fun w => ?_⟩
        · have := newer_any ⟨xn, xb, xv⟩ ⟨an, ab, av⟩ w; rw [f1] at this; exact this
        · have := join_any ⟨an, ab, av⟩ ⟨xn, xb, xv⟩ w; rw [f2] at this; exact this
        · have := check_any ⟨xn, xb, xv⟩ w p3 p4; rw [f3] at this; exact this
      · exact next_not W ⟨an, ab, av⟩ s t p1 p2 p3 p4 (.inr (.inr ⟨fa, hs, by omega⟩))
    · exact next_not W ⟨an, ab, av⟩ s t p1 p2 p3 p4 (.inr (.inl ⟨fa, by omega⟩))
end Go.Proofs.Ytcfipdlcmpploaa.reg
