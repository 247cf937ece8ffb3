/- The walk of RegisterIs. -/
import Derived.Test.YtcfipdlcmpploaaF
namespace Go.Proofs.Ytcfipdlcmpploaa.reg
open Go.ChangeShapes Go.WideShapes Go.ChangeAt Go.RowKit Go.Proofs.Aid Go.Proofs.Ytcfipdlcmpploaa.name
structure MQ (W : World) (B : Nat) (an bn : Int) (ab av bb bv : ByteArray) (w' : World) : Prop where
  b0 : Blk w' (B) 23 #[.int .i64 an, .string ab, .string av]
  b1 : Blk w' (B + 1) 23 #[.int .i64 bn, .string bb, .string bv]
  low : Below (B) W w'
theorem MQ.of {W : World} {B : Nat} {an bn : Int} {ab av bb bv : ByteArray} {w' : World} (h : MQ W B an bn ab av bb bv w') : w'.cell? ⟨B, 0, none⟩ = some (.int .i64 an) ∧ w'.cell? ⟨B, 1, none⟩ = some (.string ab) ∧ w'.cell? ⟨B, 2, none⟩ = some (.string av) ∧ w'.cell? ⟨B + 1, 0, none⟩ = some (.int .i64 bn) ∧ w'.cell? ⟨B + 1, 1, none⟩ = some (.string bb) ∧ w'.cell? ⟨B + 1, 2, none⟩ = some (.string bv) ∧ Hid (MQ W B an bn ab av bb bv w') :=
  ⟨by rw [h.b0.cell]; rfl, by rw [h.b0.cell]; rfl, by rw [h.b0.cell]; rfl, by rw [h.b1.cell]; rfl, by rw [h.b1.cell]; rfl, by rw [h.b1.cell]; rfl, h⟩
theorem MQ.step0 {W : World} {B : Nat} {an bn : Int} {ab av bb bv : ByteArray} {W0 w' : World} (hb : Below W0.heap.size W0 w') (h : MQ W B an bn ab av bb bv W0) : MQ W B an bn ab av bb bv w' :=
  ⟨h.b0.below hb h.b0.lt, h.b1.below hb h.b1.lt, h.low.trans (hb.mono (by have := h.b0.lt; have := h.low.size; omega))⟩
theorem MQ.step {W : World} {B : Nat} {an bn : Int} {ab av bb bv : ByteArray} {W0 w' : World} (hb : Below W0.heap.size W0 w') (h : Hid (MQ W B an bn ab av bb bv W0)) : w'.cell? ⟨B, 0, none⟩ = some (.int .i64 an) ∧ w'.cell? ⟨B, 1, none⟩ = some (.string ab) ∧ w'.cell? ⟨B, 2, none⟩ = some (.string av) ∧ w'.cell? ⟨B + 1, 0, none⟩ = some (.int .i64 bn) ∧ w'.cell? ⟨B + 1, 1, none⟩ = some (.string bb) ∧ w'.cell? ⟨B + 1, 2, none⟩ = some (.string bv) ∧ Hid (MQ W B an bn ab av bb bv w') :=
  MQ.of (MQ.step0 hb h)
theorem MQ.drew {W : World} {B : Nat} {an bn : Int} {ab av bb bv : ByteArray} {W0 : World} (h : Hid (MQ W B an bn ab av bb bv W0)) : W0.drew.cell? ⟨B, 0, none⟩ = some (.int .i64 an) ∧ W0.drew.cell? ⟨B, 1, none⟩ = some (.string ab) ∧ W0.drew.cell? ⟨B, 2, none⟩ = some (.string av) ∧ W0.drew.cell? ⟨B + 1, 0, none⟩ = some (.int .i64 bn) ∧ W0.drew.cell? ⟨B + 1, 1, none⟩ = some (.string bb) ∧ W0.drew.cell? ⟨B + 1, 2, none⟩ = some (.string bv) ∧ Hid (MQ W B an bn ab av bb bv W0.drew) :=
  MQ.of ⟨h.b0, h.b1, h.low.drew⟩
theorem MQ.alloc {W : World} {B : Nat} {an bn : Int} {ab av bb bv : ByteArray} {W0 : World} (h : Hid (MQ W B an bn ab av bb bv W0)) (x : Obj) : (W0.alloc x).cell? ⟨B, 0, none⟩ = some (.int .i64 an) ∧ (W0.alloc x).cell? ⟨B, 1, none⟩ = some (.string ab) ∧ (W0.alloc x).cell? ⟨B, 2, none⟩ = some (.string av) ∧ (W0.alloc x).cell? ⟨B + 1, 0, none⟩ = some (.int .i64 bn) ∧ (W0.alloc x).cell? ⟨B + 1, 1, none⟩ = some (.string bb) ∧ (W0.alloc x).cell? ⟨B + 1, 2, none⟩ = some (.string bv) ∧ Hid (MQ W B an bn ab av bb bv (W0.alloc x)) :=
  MQ.of ⟨h.b0.alloc x, h.b1.alloc x, h.low.alloc (by have := h.b0.lt; have := h.low.size; omega) x⟩
theorem MQ.new (W : World) (an bn : Int) (ab av bb bv : ByteArray) : MQ W W.heap.size an bn ab av bb bv ((W.alloc (.cells #[.int .i64 an, .string ab, .string av] 23)).alloc (.cells #[.int .i64 bn, .string bb, .string bv] 23)) :=
  ⟨(Blk.new _ _ _).alloc _, by simpa using Blk.new (W.alloc (.cells #[.int .i64 an, .string ab, .string av] 23)) 23 #[.int .i64 bn, .string bb, .string bv], ((Below.refl _ _).alloc (Nat.le_refl _) _).alloc (by simp) _⟩
abbrev At (f : Nat) (args : Array Value) (v : Value) : Prop := ∀ w : World, Calls Try.prog f args w fun e w' => e = .returned v ∧ Below w.heap.size w w'
set_option maxHeartbeats 8000000 in
theorem is_walk (W : World) (an bn c jn : Int) (ab av bb bv jb jv : ByteArray) (r : Bool)
    (sa : ab.size ≤ maxLen) (sav : av.size ≤ maxLen) (sb : bb.size ≤ maxLen) (sbv : bv.size ≤ maxLen)
    (fa : Rg.few ⟨an, ab, av⟩ = true) (fb : Rg.few ⟨bn, bb, bv⟩ = true)
    (k8 : At 8 #[.agg #[.int .i64 an, .string ab, .string av]] (.int .i64 c)) (k9 : At 9 #[.agg #[.int .i64 an, .string ab, .string av]] (.int .i64 c))
    (n10 : At 10 #[.agg #[.int .i64 an, .string ab, .string av], .agg #[.int .i64 bn, .string bb, .string bv]] (.bool r)) (n11 : At 11 #[.agg #[.int .i64 an, .string ab, .string av], .agg #[.int .i64 bn, .string bb, .string bv]] (.bool r))
    (j12 : At 12 #[.agg #[.int .i64 an, .string ab, .string av], .agg #[.int .i64 bn, .string bb, .string bv]] (.agg #[.int .i64 jn, .string jb, .string jv])) (j13 : At 13 #[.agg #[.int .i64 an, .string ab, .string av], .agg #[.int .i64 bn, .string bb, .string bv]] (.agg #[.int .i64 jn, .string jb, .string jv])) :
    Calls Try.prog 3 #[.agg #[.int .i64 an, .string ab, .string av], .agg #[.int .i64 bn, .string bb, .string bv]] W fun e w' => e = .returned (.bool true) ∧ Below W.heap.size W w' := by
  have SA := Lib.hid sa; have SAV := Lib.hid sav; have SB := Lib.hid sb; have SBV := Lib.hid sbv
  clear sa sav sb sbv
  have K8 := Lib.hid k8; have K9 := Lib.hid k9; have N10 := Lib.hid n10; have N11 := Lib.hid n11; have J12 := Lib.hid j12; have J13 := Lib.hid j13
  clear k8 k9 n10 n11 j12 j13
  have FA := Lib.hid fa; have FB := Lib.hid fb
  clear fa fb
  have hM := MQ.new W an bn ab av bb bv
  go_enter Try.func3, Try.ntmps3
  go_wp2_with fail
  refine (few_any ⟨an, ab, av⟩ _ SA.out SAV.out).mono ?_
  rw [FA.out]
  rintro e w1 ⟨rfl, hb⟩
  replace hM := MQ.step hb hM
  obtain ⟨a0, a1, a2, b0, b1, b2, hM⟩ := hM
  clear hb
  go_wp2_with fail
  refine (few_any ⟨bn, bb, bv⟩ _ SB.out SBV.out).mono ?_
  rw [FB.out]
  rintro e w2 ⟨rfl, hb⟩
  clear a0 a1 a2 b0 b1 b2
  have hM := MQ.step0 hb hM
  clear hb
  go_wp2_with fail
  generalize hB : W.heap.size = B at *
  have HB := Lib.hid hB
  clear hB
  have test := MQ.drew hM
  clear hM
  refine wp_region_held_drew (S := (fun w' => w'.cell? ⟨B, 0, none⟩ = some (.int .i64 an) ∧ w'.cell? ⟨B, 1, none⟩ = some (.string ab) ∧ w'.cell? ⟨B, 2, none⟩ = some (.string av) ∧ w'.cell? ⟨B + 1, 0, none⟩ = some (.int .i64 bn) ∧ w'.cell? ⟨B + 1, 1, none⟩ = some (.string bb) ∧ w'.cell? ⟨B + 1, 2, none⟩ = some (.string bv) ∧ Hid (MQ W B an bn ab av bb bv w'))) (by kernel_rfl) ?_ (fun hHeldp0 => ?_)
  · exact test
  refine wpAnyH_take (i := 0) (v := ?vp0) ops0 (by kernel_rfl) (by kernel_rfl) (by kernel_rfl) (fun _ _ _ h => h) (Or.inl ⟨by rfl, ?yp0⟩) hHeldp0 ?_
  case yp0 => (intro w hSw; (try dsimp only at hSw); go_simp; try (with_reducible rfl))
  try simp only [Act.put, List.setIfInBounds_toArray, List.set_cons_zero, List.set_cons_succ]
  refine wpAnyH_take (i := 2) (v := ?vp2) (opsS (opsS ops0)) (by kernel_rfl) (by kernel_rfl) (by kernel_rfl) (fun _ _ _ h => h) (Or.inl ⟨by rfl, ?yp2⟩) hHeldp0 ?_
  case yp2 => (intro w hSw; (try dsimp only at hSw); go_simp; try (with_reducible rfl))
  try simp only [Act.put, List.setIfInBounds_toArray, List.set_cons_zero, List.set_cons_succ]
  refine wpAnyH_ready (rs := [1]) (by kernel_rfl) (by simp) ?_
  refine AllReadyH.cons (opsS ops0) (fun K hK => ?_) AllReadyH.nil
  go_simp
  refine (K8.out _).mono ?_; rintro e w' ⟨rfl, hb⟩
  dsimp only
  refine hK.out _ _ ?_ (fun hHeldp1 => ?_)
  · (first | assumption | exact MQ.drew (by assumption) | (go_split_ands; exact MQ.drew (by assumption)) | (go_split_ands; exact MQ.step (by assumption) (by assumption)))
  clear hK K hHeldp0
  try clear hb
  try simp only [Act.put, List.setIfInBounds_toArray, List.set_cons_zero, List.set_cons_succ]
  refine wpAnyH_ready (rs := [3]) (by kernel_rfl) (by simp) ?_
  refine AllReadyH.cons (opsS (opsS (opsS ops0))) (fun K hK => ?_) AllReadyH.nil
  go_simp
  refine (K9.out _).mono ?_; rintro e w' ⟨rfl, hb⟩
  dsimp only
  refine hK.out _ _ ?_ (fun hHeldp2 => ?_)
  · (first | assumption | exact MQ.drew (by assumption) | (go_split_ands; exact MQ.drew (by assumption)) | (go_split_ands; exact MQ.step (by assumption) (by assumption)))
  clear hK K hHeldp1
  try clear hb
  try simp only [Act.put, List.setIfInBounds_toArray, List.set_cons_zero, List.set_cons_succ]
  refine wpAnyH_take (i := 4) (v := ?vp4) (opsS (opsS (opsS (opsS ops0)))) (by kernel_rfl) (by kernel_rfl) (by kernel_rfl) (fun _ _ _ h => h) (Or.inl ⟨by rfl, ?yp4⟩) hHeldp2 ?_
  case yp4 => (intro w hSw; (try dsimp only at hSw); go_simp; try (with_reducible rfl))
  try simp only [Act.put, List.setIfInBounds_toArray, List.set_cons_zero, List.set_cons_succ]
  refine wpAnyH_take (i := 5) (v := ?vp5) (opsS (opsS (opsS (opsS (opsS ops0))))) (by kernel_rfl) (by kernel_rfl) (by kernel_rfl) (fun _ _ _ h => h) (Or.inl ⟨by rfl, ?yp5⟩) hHeldp2 ?_
  case yp5 => (intro w hSw; (try dsimp only at hSw); go_simp; try (with_reducible rfl))
  try simp only [Act.put, List.setIfInBounds_toArray, List.set_cons_zero, List.set_cons_succ]
  refine wpAnyH_take (i := 6) (v := ?vp6) (opsS (opsS (opsS (opsS (opsS (opsS ops0)))))) (by kernel_rfl) (by kernel_rfl) (by kernel_rfl) (fun _ _ _ h => h) (Or.inl ⟨by rfl, ?yp6⟩) hHeldp2 ?_
  case yp6 => (intro w hSw; (try dsimp only at hSw); go_simp; try (with_reducible rfl))
  try simp only [Act.put, List.setIfInBounds_toArray, List.set_cons_zero, List.set_cons_succ]
  refine wpAnyH_take (i := 7) (v := ?vp7) (opsS (opsS (opsS (opsS (opsS (opsS (opsS ops0))))))) (by kernel_rfl) (by kernel_rfl) (by kernel_rfl) (fun _ _ _ h => h) (Or.inl ⟨by rfl, ?yp7⟩) hHeldp2 ?_
  case yp7 => (intro w hSw; (try dsimp only at hSw); go_simp; try (with_reducible rfl))
  try simp only [Act.put, List.setIfInBounds_toArray, List.set_cons_zero, List.set_cons_succ]
  refine wpAnyH_take (i := 9) (v := ?vp9) (opsS (opsS (opsS (opsS (opsS (opsS (opsS (opsS (opsS ops0))))))))) (by kernel_rfl) (by kernel_rfl) (by kernel_rfl) (fun _ _ _ h => h) (Or.inl ⟨by rfl, ?yp9⟩) hHeldp2 ?_
  case yp9 => (intro w hSw; (try dsimp only at hSw); go_simp; try (with_reducible rfl))
  try simp only [Act.put, List.setIfInBounds_toArray, List.set_cons_zero, List.set_cons_succ]
  refine wpAnyH_take (i := 10) (v := ?vp10) (opsS (opsS (opsS (opsS (opsS (opsS (opsS (opsS (opsS (opsS ops0)))))))))) (by kernel_rfl) (by kernel_rfl) (by kernel_rfl) (fun _ _ _ h => h) (Or.inl ⟨by rfl, ?yp10⟩) hHeldp2 ?_
  case yp10 => (intro w hSw; (try dsimp only at hSw); go_simp; try (with_reducible rfl))
  try simp only [Act.put, List.setIfInBounds_toArray, List.set_cons_zero, List.set_cons_succ]
  refine wpAnyH_ready (rs := [8]) (by kernel_rfl) (by simp) ?_
  refine AllReadyH.cons (opsS (opsS (opsS (opsS (opsS (opsS (opsS (opsS ops0)))))))) (fun K hK => ?_) AllReadyH.nil
  go_simp
  refine (N10.out _).mono ?_; rintro e w' ⟨rfl, hb⟩
  dsimp only
  refine hK.out _ _ ?_ (fun hHeldp3 => ?_)
  · (first | assumption | exact MQ.drew (by assumption) | (go_split_ands; exact MQ.drew (by assumption)) | (go_split_ands; exact MQ.step (by assumption) (by assumption)))
  clear hK K hHeldp2
  try clear hb
  try simp only [Act.put, List.setIfInBounds_toArray, List.set_cons_zero, List.set_cons_succ]
  refine wpAnyH_ready (rs := [11]) (by kernel_rfl) (by simp) ?_
  refine AllReadyH.cons (opsS (opsS (opsS (opsS (opsS (opsS (opsS (opsS (opsS (opsS (opsS ops0))))))))))) (fun K hK => ?_) AllReadyH.nil
  go_simp
  refine (N11.out _).mono ?_; rintro e w' ⟨rfl, hb⟩
  dsimp only
  refine hK.out _ _ ?_ (fun hHeldp4 => ?_)
  · (first | assumption | exact MQ.drew (by assumption) | (go_split_ands; exact MQ.drew (by assumption)) | (go_split_ands; exact MQ.step (by assumption) (by assumption)))
  clear hK K hHeldp3
  try clear hb
  try simp only [Act.put, List.setIfInBounds_toArray, List.set_cons_zero, List.set_cons_succ]
  refine wpAnyH_take (i := 12) (v := ?vp12) (opsS (opsS (opsS (opsS (opsS (opsS (opsS (opsS (opsS (opsS (opsS (opsS ops0)))))))))))) (by kernel_rfl) (by kernel_rfl) (by kernel_rfl) (fun _ _ _ h => h) (Or.inl ⟨by rfl, ?yp12⟩) hHeldp4 ?_
  case yp12 => (intro w hSw; (try dsimp only at hSw); go_simp; try (with_reducible rfl))
  try simp only [Act.put, List.setIfInBounds_toArray, List.set_cons_zero, List.set_cons_succ]
  refine wpAnyH_take (i := 13) (v := ?vp13) (opsS (opsS (opsS (opsS (opsS (opsS (opsS (opsS (opsS (opsS (opsS (opsS (opsS ops0))))))))))))) (by kernel_rfl) (by kernel_rfl) (by kernel_rfl) (fun _ _ _ h => h) (Or.inl ⟨by rfl, ?yp13⟩) hHeldp4 ?_
  case yp13 => (intro w hSw; (try dsimp only at hSw); go_simp; try (with_reducible rfl))
  try simp only [Act.put, List.setIfInBounds_toArray, List.set_cons_zero, List.set_cons_succ]
  refine wpAnyH_take (i := 14) (v := ?vp14) (opsS (opsS (opsS (opsS (opsS (opsS (opsS (opsS (opsS (opsS (opsS (opsS (opsS (opsS ops0)))))))))))))) (by kernel_rfl) (by kernel_rfl) (by kernel_rfl) (fun _ _ _ h => h) (Or.inl ⟨by rfl, ?yp14⟩) hHeldp4 ?_
  case yp14 => (intro w hSw; (try dsimp only at hSw); go_simp; try (with_reducible rfl))
  try simp only [Act.put, List.setIfInBounds_toArray, List.set_cons_zero, List.set_cons_succ]
  refine wpAnyH_take (i := 15) (v := ?vp15) (opsS (opsS (opsS (opsS (opsS (opsS (opsS (opsS (opsS (opsS (opsS (opsS (opsS (opsS (opsS ops0))))))))))))))) (by kernel_rfl) (by kernel_rfl) (by kernel_rfl) (fun _ _ _ h => h) (Or.inl ⟨by rfl, ?yp15⟩) hHeldp4 ?_
  case yp15 => (intro w hSw; (try dsimp only at hSw); go_simp; try (with_reducible rfl))
  try simp only [Act.put, List.setIfInBounds_toArray, List.set_cons_zero, List.set_cons_succ]
  refine wpAnyH_take (i := 16) (v := ?vp16) (opsS (opsS (opsS (opsS (opsS (opsS (opsS (opsS (opsS (opsS (opsS (opsS (opsS (opsS (opsS (opsS ops0)))))))))))))))) (by kernel_rfl) (by kernel_rfl) (by kernel_rfl) (fun _ _ _ h => h) (Or.inl ⟨by rfl, ?yp16⟩) hHeldp4 ?_
  case yp16 => (intro w hSw; (try dsimp only at hSw); go_simp; try (with_reducible rfl))
  try simp only [Act.put, List.setIfInBounds_toArray, List.set_cons_zero, List.set_cons_succ]
  refine wpAnyH_take (i := 18) (v := ?vp18) (opsS (opsS (opsS (opsS (opsS (opsS (opsS (opsS (opsS (opsS (opsS (opsS (opsS (opsS (opsS (opsS (opsS (opsS ops0)))))))))))))))))) (by kernel_rfl) (by kernel_rfl) (by kernel_rfl) (fun _ _ _ h => h) (Or.inl ⟨by rfl, ?yp18⟩) hHeldp4 ?_
  case yp18 => (intro w hSw; (try dsimp only at hSw); go_simp; try (with_reducible rfl))
  try simp only [Act.put, List.setIfInBounds_toArray, List.set_cons_zero, List.set_cons_succ]
  refine wpAnyH_take (i := 19) (v := ?vp19) (opsS (opsS (opsS (opsS (opsS (opsS (opsS (opsS (opsS (opsS (opsS (opsS (opsS (opsS (opsS (opsS (opsS (opsS (opsS ops0))))))))))))))))))) (by kernel_rfl) (by kernel_rfl) (by kernel_rfl) (fun _ _ _ h => h) (Or.inl ⟨by rfl, ?yp19⟩) hHeldp4 ?_
  case yp19 => (intro w hSw; (try dsimp only at hSw); go_simp; try (with_reducible rfl))
  try simp only [Act.put, List.setIfInBounds_toArray, List.set_cons_zero, List.set_cons_succ]
  refine wpAnyH_ready (rs := [17]) (by kernel_rfl) (by simp) ?_
  refine AllReadyH.cons (opsS (opsS (opsS (opsS (opsS (opsS (opsS (opsS (opsS (opsS (opsS (opsS (opsS (opsS (opsS (opsS (opsS ops0))))))))))))))))) (fun K hK => ?_) AllReadyH.nil
  go_simp
  refine (J12.out _).mono ?_; rintro e w' ⟨rfl, hb⟩
  dsimp only
  refine hK.out _ _ ?_ (fun hHeldp5 => ?_)
  · (first | assumption | exact MQ.drew (by assumption) | (go_split_ands; exact MQ.drew (by assumption)) | (go_split_ands; exact MQ.step (by assumption) (by assumption)))
  clear hK K hHeldp4
  try clear hb
  try simp only [Act.put, List.setIfInBounds_toArray, List.set_cons_zero, List.set_cons_succ]
  refine wpAnyH_ready (rs := [20]) (by kernel_rfl) (by simp) ?_
  refine AllReadyH.cons (opsS (opsS (opsS (opsS (opsS (opsS (opsS (opsS (opsS (opsS (opsS (opsS (opsS (opsS (opsS (opsS (opsS (opsS (opsS (opsS ops0)))))))))))))))))))) (fun K hK => ?_) AllReadyH.nil
  go_simp
  refine (J13.out _).mono ?_; rintro e w' ⟨rfl, hb⟩
  dsimp only
  refine hK.out _ _ ?_ (fun hHeldp6 => ?_)
  · (first | assumption | exact MQ.drew (by assumption) | (go_split_ands; exact MQ.drew (by assumption)) | (go_split_ands; exact MQ.step (by assumption) (by assumption)))
  clear hK K hHeldp5
  try clear hb
  try simp only [Act.put, List.setIfInBounds_toArray, List.set_cons_zero, List.set_cons_succ]
  refine wpAnyH_take (i := 21) (v := ?vp21) (opsS (opsS (opsS (opsS (opsS (opsS (opsS (opsS (opsS (opsS (opsS (opsS (opsS (opsS (opsS (opsS (opsS (opsS (opsS (opsS (opsS ops0))))))))))))))))))))) (by kernel_rfl) (by kernel_rfl) (by kernel_rfl) (fun _ _ _ h => h) (Or.inl ⟨by rfl, ?yp21⟩) hHeldp6 ?_
  case yp21 => (intro w hSw; (try dsimp only at hSw); go_simp; try (with_reducible rfl))
  try simp only [Act.put, List.setIfInBounds_toArray, List.set_cons_zero, List.set_cons_succ]
  refine wpAnyH_take (i := 22) (v := ?vp22) (opsS (opsS (opsS (opsS (opsS (opsS (opsS (opsS (opsS (opsS (opsS (opsS (opsS (opsS (opsS (opsS (opsS (opsS (opsS (opsS (opsS (opsS ops0)))))))))))))))))))))) (by kernel_rfl) (by kernel_rfl) (by kernel_rfl) (fun _ _ _ h => h) (Or.inl ⟨by rfl, ?yp22⟩) hHeldp6 ?_
  case yp22 => (intro w hSw; (try dsimp only at hSw); go_simp; try (with_reducible rfl))
  try simp only [Act.put, List.setIfInBounds_toArray, List.set_cons_zero, List.set_cons_succ]
  refine wpAnyH_take (i := 23) (v := ?vp23) (opsS (opsS (opsS (opsS (opsS (opsS (opsS (opsS (opsS (opsS (opsS (opsS (opsS (opsS (opsS (opsS (opsS (opsS (opsS (opsS (opsS (opsS (opsS ops0))))))))))))))))))))))) (by kernel_rfl) (by kernel_rfl) (by kernel_rfl) (fun _ _ _ h => h) (Or.inl ⟨by rfl, ?yp23⟩) hHeldp6 ?_
  case yp23 => (intro w hSw; (try dsimp only at hSw); go_simp; try (with_reducible rfl))
  try simp only [Act.put, List.setIfInBounds_toArray, List.set_cons_zero, List.set_cons_succ]
  refine wpAnyH_ready (rs := [24]) (by kernel_rfl) (by simp) ?_
  refine AllReadyH.cons (opsS (opsS (opsS (opsS (opsS (opsS (opsS (opsS (opsS (opsS (opsS (opsS (opsS (opsS (opsS (opsS (opsS (opsS (opsS (opsS (opsS (opsS (opsS (opsS ops0)))))))))))))))))))))))) (fun K hK => ?_) AllReadyH.nil
  go_simp
  refine (awake_any _).mono ?_; rintro e w' ⟨rfl, hb⟩
  dsimp only
  refine hK.out _ _ ?_ (fun hHeldp7 => ?_)
  · (first | assumption | exact MQ.drew (by assumption) | (go_split_ands; exact MQ.drew (by assumption)) | (go_split_ands; exact MQ.step (by assumption) (by assumption)))
  clear hK K hHeldp6
  try clear hb
  try simp only [Act.put, List.setIfInBounds_toArray, List.set_cons_zero, List.set_cons_succ]
  refine wpAnyH_take (i := 25) (v := ?vp25) (opsS (opsS (opsS (opsS (opsS (opsS (opsS (opsS (opsS (opsS (opsS (opsS (opsS (opsS (opsS (opsS (opsS (opsS (opsS (opsS (opsS (opsS (opsS (opsS (opsS ops0))))))))))))))))))))))))) (by kernel_rfl) (by kernel_rfl) (by kernel_rfl) (fun _ _ _ h => h) (Or.inl ⟨by rfl, ?yp25⟩) hHeldp7 ?_
  case yp25 => (intro w hSw; (try dsimp only at hSw); go_simp; try (with_reducible rfl))
  try simp only [Act.put, List.setIfInBounds_toArray, List.set_cons_zero, List.set_cons_succ]
  refine wpAnyH_take (i := 26) (v := ?vp26) (opsS (opsS (opsS (opsS (opsS (opsS (opsS (opsS (opsS (opsS (opsS (opsS (opsS (opsS (opsS (opsS (opsS (opsS (opsS (opsS (opsS (opsS (opsS (opsS (opsS (opsS ops0)))))))))))))))))))))))))) (by kernel_rfl) (by kernel_rfl) (by kernel_rfl) (fun _ _ _ h => h) (Or.inl ⟨by rfl, ?yp26⟩) hHeldp7 ?_
  case yp26 => (intro w hSw; (try dsimp only at hSw); go_simp; try (with_reducible rfl))
  try simp only [Act.put, List.setIfInBounds_toArray, List.set_cons_zero, List.set_cons_succ]
  refine wpAnyH_done (by kernel_rfl) ?_ _
  have hl := Lib.hid hHeldp7.2.2.2.2.2.2.low
  clear test hHeldp7
  go_wp2
  go_ret
  exact ⟨rfl, by rw [HB.out]; exact hl.out⟩
theorem is_not (W : World) (a b : Rg) (ha : a.by_.size ≤ maxLen) (hav : a.value.size ≤ maxLen) (hb : b.by_.size ≤ maxLen) (hbv : b.value.size ≤ maxLen)
    (hf : a.few = false ∨ (a.few = true ∧ b.few = false)) :
    Calls Try.prog 3 #[a.val, b.val] W fun e w' => e = .returned (.bool true) ∧ Below W.heap.size W w' := by
  obtain ⟨an, ab, av⟩ := a
  obtain ⟨bn, bb, bv⟩ := b
  simp only at ha hav hb hbv
  have SA := Lib.hid ha; have SAV := Lib.hid hav; have SB := Lib.hid hb; have SBV := Lib.hid hbv
  clear ha hav hb hbv
  show Calls Try.prog 3 #[.agg #[.int .i64 an, .string ab, .string av], .agg #[.int .i64 bn, .string bb, .string bv]] W _
  have hM := MQ.new W an bn ab av bb bv
  rcases hf with fa | ⟨fa, fb⟩
  · have FA := Lib.hid fa
    clear fa
    go_enter Try.func3, Try.ntmps3
    go_wp2_with fail
    refine (few_any ⟨an, ab, av⟩ _ SA.out SAV.out).mono ?_
    rw [FA.out]
    rintro e w1 ⟨rfl, hb⟩
    have hM := MQ.step0 hb hM
    clear hb
    go_wp2_with fail
    refine (awake_any _).mono ?_
    rintro e w2 ⟨rfl, hb⟩
    have hl := Lib.hid (MQ.step0 hb hM).low
    clear hb hM
    go_wp2
    go_ret
    exact ⟨rfl, hl.out⟩
  · have FA := Lib.hid fa; have FB := Lib.hid fb
    clear fa fb
    go_enter Try.func3, Try.ntmps3
    go_wp2_with fail
    refine (few_any ⟨an, ab, av⟩ _ SA.out SAV.out).mono ?_
    rw [FA.out]
    rintro e w1 ⟨rfl, hb⟩
    replace hM := MQ.step hb hM
    obtain ⟨a0, a1, a2, b0, b1, b2, hM⟩ := hM
    clear hb
    go_wp2_with fail
    refine (few_any ⟨bn, bb, bv⟩ _ SB.out SBV.out).mono ?_
    rw [FB.out]
    rintro e w2 ⟨rfl, hb⟩
    have hM := MQ.step0 hb hM
    clear hb a0 a1 a2 b0 b1 b2
    go_wp2_with fail
    refine (awake_any _).mono ?_
    rintro e w2 ⟨rfl, hb⟩
    have hl := Lib.hid (MQ.step0 hb hM).low
    clear hb hM
    go_wp2
    go_ret
    exact ⟨rfl, hl.out⟩
theorem is_all (W : World) (v0 : Value) (v1 : Value) (h0 : V23 W v0) (h1 : V23 W v1) :
    Calls Try.prog 3 #[v0, v1] W fun e w' => e = .returned (.bool true) ∧ Below W.heap.size W w' := by
  obtain ⟨⟨an, ab, av⟩, rfl, -, p1, p2⟩ := h0
  obtain ⟨⟨bn, bb, bv⟩, rfl, -, p3, p4⟩ := h1
  cases fa : Rg.few ⟨an, ab, av⟩
  · exact is_not W ⟨an, ab, av⟩ ⟨bn, bb, bv⟩ p1 p2 p3 p4 (.inl fa)
  · cases fb : Rg.few ⟨bn, bb, bv⟩
    · exact is_not W ⟨an, ab, av⟩ ⟨bn, bb, bv⟩ p1 p2 p3 p4 (.inr ⟨fa, fb⟩)
    · exact is_walk W an bn (Rg.check ⟨an, ab, av⟩) (Rg.join ⟨an, ab, av⟩ ⟨bn, bb, bv⟩).n ab av bb bv (Rg.join ⟨an, ab, av⟩ ⟨bn, bb, bv⟩).by_ (Rg.join ⟨an, ab, av⟩ ⟨bn, bb, bv⟩).value (Rg.newer ⟨an, ab, av⟩ ⟨bn, bb, bv⟩) p1 p2 p3 p4 fa fb
        (fun w => check_any ⟨an, ab, av⟩ w p1 p2) (fun w => rcheck_any ⟨an, ab, av⟩ w p1 p2) (fun w => newer_any ⟨an, ab, av⟩ ⟨bn, bb, bv⟩ w) (fun w => rnewer_any ⟨an, ab, av⟩ ⟨bn, bb, bv⟩ w)
        (fun w => join_any ⟨an, ab, av⟩ ⟨bn, bb, bv⟩ w) (fun w => rjoin_any ⟨an, ab, av⟩ ⟨bn, bb, bv⟩ w)
end Go.Proofs.Ytcfipdlcmpploaa.reg
