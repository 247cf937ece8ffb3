/- PairingOnce: each meets each other one once. -/
import Derived.Test.YtigcfpalmkfoiaaPgT
import Derived.Test.YtigcfpalmkfoiaaKn
namespace Go.Proofs.Ytigcfpalmkfoiaa.pg
set_option linter.unusedSimpArgs false
open Go.ChangeShapes Go.WideShapes Go.ChangeAt Go.RowKit Go.Proofs.Aid
theorem full_at {n m : Nat} (h : full n m = true) {a b : Nat} (hab : a < b) (hb : b < n) : m.testBit (a * 64 + b) = true := by
  unfold full at h
  have h1 := List.all_eq_true.1 h a (by simp; omega)
  have h2 := List.all_eq_true.1 h1 b (by simp; omega)
  simpa [hab] using h2
theorem stepR_cons {n m M : Nat} {l : List (Int × Int)} {ls : List (List (Int × Int))} (h : stepR n m (l :: ls) = some M) : ∃ s, stepL n (m, 0) l = some s ∧ stepR n s.1 ls = some M := by
  unfold stepR at h
  cases e : stepL n (m, 0) l with
  | none => rw [e] at h; cases h
  | some s => rw [e] at h; exact ⟨s, rfl, h⟩
theorem stepL_cons {n : Nat} {st : Nat × Nat} {s : Nat × Nat} {p : Int × Int} {l : List (Int × Int)} (h : stepL n s (p :: l) = some st) : ∃ s', stepP n s p = some s' ∧ stepL n s' l = some st := by
  unfold stepL at h
  cases e : stepP n s p with
  | none => rw [e] at h; cases h
  | some s' => rw [e] at h; exact ⟨s', rfl, h⟩
set_option maxRecDepth 100000 in
set_option maxHeartbeats 8000000 in
theorem once_walk (b : Int) (hb0 : 0 ≤ b) (hb : b ≤ 255) (W : World) : Calls Try.prog 5 #[.int .u8 b] W fun e w' => e = .returned (.bool true) ∧ Below W.heap.size W w' := by
  obtain ⟨n, hn⟩ : ∃ n : Nat, b % 65 = n := ⟨(b % 65).toNat, by omega⟩
  have hn2 : n ≤ 64 := by omega
  have e1 : b.tmod 65 = n := by rw [Int.tmod_eq_emod_of_nonneg hb0, hn]
  have ew : IntKind.i64.wrap b = b := IntWalk.i64_in _ (by omega)
  have H1 := Lib.hid (fun w => Rounds_any n (by omega) w)
  by_cases h2 : n < 2
  · have hnil : rnds n = [] := by
      have h3 : n = 0 ∨ n = 1 := by omega
      rcases h3 with rfl | rfl <;> rfl
    rw [hnil] at H1
    go_enter Try.func5, Try.ntmps5
    go_wp2_with fail
    refine (H1.out _).mono ?_
    rintro e w1 ⟨v, rfl, ⟨A, c, vs, rfl, _, _⟩, hbl⟩
    have HB := Lib.hid hbl
    clear hbl
    have h2i : (n : Int) < 2 := by omega
    go_wp2_with fail
    refine (awake_any _).mono ?_
    rintro e w4 ⟨rfl, hbl⟩
    have HB4 := Lib.hid (HB.out.trans (hbl.mono HB.out.size))
    clear hbl
    go_wp2
    go_ret
    exact ⟨rfl, HB4.out⟩
  · obtain ⟨M, hM, hfull, hlen⟩ := sim_parts (by omega) hn2
    have HL := Lib.hid (fun l (hl : l ∈ rnds n) => show l.length ≤ 64 by have := prs_mem_len hl; omega)
    have HM := Lib.hid hM
    have HF := Lib.hid hfull
    clear hM hfull
    generalize rnds n = ls at *
    have h2i : ¬ (n : Int) < 2 := by omega
    have hz := zero_met
    go_enter Try.func5, Try.ntmps5
    go_wp2_with fail
    refine (H1.out _).mono ?_
    rintro e w1 ⟨v, rfl, ⟨A, c, vs, rfl, h3, h4⟩, hbl⟩
    have HB := Lib.hid hbl
    have R0 := Lib.hid h3
    have RE := Lib.hid h4
    clear hbl h3 h4
    have HT0 : Hid (Tab (w1.alloc (.cells zMet 32)) w1.heap.size 32 4096 0) := Lib.hid (Tab.new w1 32 4096)
    have HB0 := Lib.hid (below_lit w1 (.cells zMet 32))
    go_wp2_with fail
    generalize w1.alloc (.cells zMet 32) = w2 at *
    go_loopw [6, 7, 8, 9, 10] (fun iv _ _ _ _ wr => ∃ (r m : Nat), r ≤ ls.length ∧ iv = .int .i64 r ∧ Hid (stepR n m (ls.drop r) = some M) ∧ Hid (Tab wr w1.heap.size 32 4096 m) ∧ Hid (Below w1.heap.size w1 wr)) (fun iv _ _ _ _ _ => ls.length - (intOf iv).toNat)
    case atStart => exact ⟨0, 0, Nat.zero_le _, rfl, HM, HT0, HB0⟩
    case round =>
      obtain ⟨r, m, hr, rfl, hst, hT, hbr⟩ := hrel
      clear HT0 HB0 hz
      by_cases hlt : r < ls.length
      · have hst' := hst.out
        rw [List.drop_eq_getElem_cons hlt] at hst'
        obtain ⟨st, hs1, hs2⟩ := stepR_cons hst'
        have HS1 := Lib.hid hs1
        have HS2 := Lib.hid hs2
        obtain ⟨A', c', e2, r1⟩ := RE.out r hlt
        have R1 := Lib.hid r1
        obtain ⟨ad, q1, g1, k1⟩ := R0.out.2 (by omega)
        have c1 := k1 r _ e2
        have hlen2 := HL.out _ (List.getElem_mem hlt)
        clear hst hst' hs1 hs2 e2 r1 k1
        generalize ls[r] = l at *
        subst q1
        have C1 := Lib.hid c1
        clear c1
        have hne : w1.heap.size < wr.heap.size := hT.out.lt
        have hzb := zero_busy
        have HTb : Hid (Tab (wr.alloc (.cells zBusy 31)) wr.heap.size 31 64 0) := Lib.hid (Tab.new wr 31 64)
        have HTm := Lib.hid (hT.out.alloc (.cells zBusy 31))
        have HBa := Lib.hid (hbr.out.alloc hbr.out.size (.cells zBusy 31))
        go_wp2_with fail
        generalize wr.alloc (.cells zBusy 31) = w3 at *
        generalize wr.heap.size = gb at *
        go_loopw [8, 9, 10] (fun kv _ _ wq => ∃ (i m' b' : Nat), i ≤ l.length ∧ kv = .int .i64 i ∧ Hid (stepL n (m', b') (l.drop i) = some st) ∧ Hid (Tab wq w1.heap.size 32 4096 m') ∧ Hid (Tab wq gb 31 64 b') ∧ Hid (Below w1.heap.size w1 wq)) (fun kv _ _ _ => l.length - (intOf kv).toNat)
        case atStart => exact ⟨0, m, 0, Nat.zero_le _, rfl, HS1, HTm, HTb, HBa⟩
        case round =>
          obtain ⟨i, m', b', hi, rfl, hs, hTm, hTb, hbq⟩ := hrel
          clear HTb HTm HBa hzb
          have c1w := (hbq.out.cell (p := ad.add r) (by rw [block_of_add]; exact g1)).trans C1.out
          by_cases hlt2 : i < l.length
          · have hs' := hs.out
            rw [List.drop_eq_getElem_cons hlt2] at hs'
            obtain ⟨s', hp, hs3⟩ := stepL_cons hs'
            obtain ⟨p1, q1, g2, a0, a1⟩ := elemP R1.out hlt2
            obtain ⟨x, y, hxy, x1, x2, x3, x4, x5, rfl⟩ := stepP_some hp
            rw [hxy] at a0 a1
            simp only at a0 a1
            have HS3 := Lib.hid hs3
            subst q1
            have a0w := (hbq.out.cell (p := p1.add (i * 2)) (by rw [block_of_add]; exact g2)).trans a0
            have a1w := (hbq.out.cell (p := ⟨(p1.add (i * 2)).block, (p1.add (i * 2)).off + 1, none⟩) (by show (p1.add (i * 2)).block < _; rw [block_of_add]; exact g2)).trans a1
            clear hs hs' hp hs3 a0 a1 hxy
            go_wp2_with fail
            go_quiet (fail)
            go_wp2
            have hTm2 := Lib.hid (hTm.out.drewN nq)
            have hTb2 := Lib.hid (hTb.out.drewN nq)
            have hbq2 := Lib.hid (below_drewN hbq.out nq)
            clear hTm hTb hbq c1w a0w a1w
            generalize wr.drewN nq = wq at *
            have y0 := hTm2.out.zero (i := x * 64 + y) (by omega) x5
            have y1 := hTb2.out.zero (i := x) (by omega) x3
            have y2 := hTb2.out.zero (i := y) (by omega) x4
            have hb1 : (⟨w1.heap.size, x * 64 + y, none⟩ : Addr).block < wq.heap.size := hTm2.out.lt
            have hb2 : (⟨gb, x, none⟩ : Addr).block < wq.heap.size := hTb2.out.lt
            have test := Kn.drew_3 (Kn.new_3 (w0 := wq) (M := wq.heap.size) (p0 := ⟨w1.heap.size, x * 64 + y, none⟩) (p1 := ⟨gb, x, none⟩) (p2 := ⟨gb, y, none⟩) (v0 := .int .i64 0) (v1 := .int .i64 0) (v2 := .int .i64 0) (Nat.le_refl _) y0 hb1 y1 hb2 y2 hb2)
            clear y0 y1 y2
            have q1 : decide ((x : Int) < 0) = false := by simp
            have q2 : decide ((y : Int) ≤ (x : Int)) = false := by simp; omega
            have q3 : decide (y ≤ x) = false := by simp; omega
            have q4 : decide ((n : Int) ≤ (y : Int)) = false := by simp; omega
            have q5 : decide (n ≤ y) = false := by simp; omega
            have q6 : ¬ ((x : Int) < 0) := by omega
            have q7 : (x : Int) < 64 := by omega
            have q8 : (y : Int) < 64 := by omega
            have q9 : x < 64 := by omega
            have q10 : y < 64 := by omega
            refine wp_region_held_drew (S := (fun w' => w'.cell? (⟨w1.heap.size, x * 64 + y, none⟩) = some (.int .i64 0) ∧ w'.cell? (⟨gb, x, none⟩) = some (.int .i64 0) ∧ w'.cell? (⟨gb, y, none⟩) = some (.int .i64 0) ∧ Hid (Kn (wq.heap.size) (wq) [(⟨w1.heap.size, x * 64 + y, none⟩, .int .i64 0), (⟨gb, x, none⟩, .int .i64 0), (⟨gb, y, none⟩, .int .i64 0)] w'))) (by kernel_rfl) ?_ (fun hHeldp0 => ?_)
            · exact test
            refine wpAnyH_take (i := 0) (v := ?vp0) ops0 (by kernel_rfl) (by kernel_rfl) (by kernel_rfl) (fun _ _ _ h => h) (Or.inl ⟨by rfl, ?yp0⟩) hHeldp0 ?_
            case yp0 => (intro w hSw; (try dsimp only at hSw); go_simp; try (with_reducible rfl))
            try simp only [Act.put, List.setIfInBounds_toArray, List.set_cons_zero, List.set_cons_succ]
            refine wpAnyH_take (i := 1) (v := ?vp1) (opsS ops0) (by kernel_rfl) (by kernel_rfl) (by kernel_rfl) (fun _ _ _ h => h) (Or.inl ⟨by rfl, ?yp1⟩) hHeldp0 ?_
            case yp1 => (intro w hSw; (try dsimp only at hSw); go_simp; try (with_reducible rfl))
            try simp only [Act.put, List.setIfInBounds_toArray, List.set_cons_zero, List.set_cons_succ]
            refine wpAnyH_take (i := 2) (v := ?vp2) (opsS (opsS ops0)) (by kernel_rfl) (by kernel_rfl) (by kernel_rfl) (fun _ _ _ h => h) (Or.inl ⟨by rfl, ?yp2⟩) hHeldp0 ?_
            case yp2 => (intro w hSw; (try dsimp only at hSw); go_simp; try (with_reducible rfl))
            try simp only [Act.put, List.setIfInBounds_toArray, List.set_cons_zero, List.set_cons_succ]
            refine wpAnyH_take (i := 3) (v := ?vp3) (opsS (opsS (opsS ops0))) (by kernel_rfl) (by kernel_rfl) (by kernel_rfl) (fun _ _ _ h => h) (Or.inl ⟨by rfl, ?yp3⟩) hHeldp0 ?_
            case yp3 => (intro w hSw; (try dsimp only at hSw); go_simp; try (with_reducible rfl))
            try simp only [Act.put, List.setIfInBounds_toArray, List.set_cons_zero, List.set_cons_succ]
            refine wpAnyH_take (i := 4) (v := ?vp4) (opsS (opsS (opsS (opsS ops0)))) (by kernel_rfl) (by kernel_rfl) (by kernel_rfl) (fun _ _ _ h => h) (Or.inl ⟨by rfl, ?yp4⟩) hHeldp0 ?_
            case yp4 => (intro w hSw; (try dsimp only at hSw); go_simp; try (with_reducible rfl))
            try simp only [Act.put, List.setIfInBounds_toArray, List.set_cons_zero, List.set_cons_succ]
            refine wpAnyH_take (i := 5) (v := ?vp5) (opsS (opsS (opsS (opsS (opsS ops0))))) (by kernel_rfl) (by kernel_rfl) (by kernel_rfl) (fun _ _ _ h => h) (Or.inl ⟨by rfl, ?yp5⟩) hHeldp0 ?_
            case yp5 => (intro w hSw; (try dsimp only at hSw); go_simp; try (with_reducible rfl))
            try simp only [Act.put, List.setIfInBounds_toArray, List.set_cons_zero, List.set_cons_succ]
            refine wpAnyH_take (i := 6) (v := ?vp6) (opsS (opsS (opsS (opsS (opsS (opsS ops0)))))) (by kernel_rfl) (by kernel_rfl) (by kernel_rfl) (fun _ _ _ h => h) (Or.inl ⟨by rfl, ?yp6⟩) hHeldp0 ?_
            case yp6 => (intro w hSw; (try dsimp only at hSw); go_simp; try (with_reducible rfl))
            try simp only [Act.put, List.setIfInBounds_toArray, List.set_cons_zero, List.set_cons_succ]
            refine wpAnyH_take (i := 7) (v := ?vp7) (opsS (opsS (opsS (opsS (opsS (opsS (opsS ops0))))))) (by kernel_rfl) (by kernel_rfl) (by kernel_rfl) (fun _ _ _ h => h) (Or.inl ⟨by rfl, ?yp7⟩) hHeldp0 ?_
            case yp7 => (intro w hSw; (try dsimp only at hSw); go_simp; try (with_reducible rfl))
            try simp only [Act.put, List.setIfInBounds_toArray, List.set_cons_zero, List.set_cons_succ]
            refine wpAnyH_take (i := 8) (v := ?vp8) (opsS (opsS (opsS (opsS (opsS (opsS (opsS (opsS ops0)))))))) (by kernel_rfl) (by kernel_rfl) (by kernel_rfl) (fun _ _ _ h => h) (Or.inl ⟨by rfl, ?yp8⟩) hHeldp0 ?_
            case yp8 => (intro w hSw; (try dsimp only at hSw); go_simp; try (with_reducible rfl))
            try simp only [Act.put, List.setIfInBounds_toArray, List.set_cons_zero, List.set_cons_succ]
            refine wpAnyH_take (i := 9) (v := ?vp9) (opsS (opsS (opsS (opsS (opsS (opsS (opsS (opsS (opsS ops0))))))))) (by kernel_rfl) (by kernel_rfl) (by kernel_rfl) (fun _ _ _ h => h) (Or.inl ⟨by rfl, ?yp9⟩) hHeldp0 ?_
            case yp9 => (intro w hSw; (try dsimp only at hSw); go_simp; try (with_reducible rfl))
            try simp only [Act.put, List.setIfInBounds_toArray, List.set_cons_zero, List.set_cons_succ]
            refine wpAnyH_take (i := 10) (v := ?vp10) (opsS (opsS (opsS (opsS (opsS (opsS (opsS (opsS (opsS (opsS ops0)))))))))) (by kernel_rfl) (by kernel_rfl) (by kernel_rfl) (fun _ _ _ h => h) (Or.inl ⟨by rfl, ?yp10⟩) hHeldp0 ?_
            case yp10 => (intro w hSw; (try dsimp only at hSw); go_simp; try (with_reducible rfl))
            try simp only [Act.put, List.setIfInBounds_toArray, List.set_cons_zero, List.set_cons_succ]
            refine wpAnyH_take (i := 11) (v := ?vp11) (opsS (opsS (opsS (opsS (opsS (opsS (opsS (opsS (opsS (opsS (opsS ops0))))))))))) (by kernel_rfl) (by kernel_rfl) (by kernel_rfl) (fun _ _ _ h => h) (Or.inl ⟨by rfl, ?yp11⟩) hHeldp0 ?_
            case yp11 => (intro w hSw; (try dsimp only at hSw); go_simp; try (with_reducible rfl))
            try simp only [Act.put, List.setIfInBounds_toArray, List.set_cons_zero, List.set_cons_succ]
            refine wpAnyH_take (i := 12) (v := ?vp12) (opsS (opsS (opsS (opsS (opsS (opsS (opsS (opsS (opsS (opsS (opsS (opsS ops0)))))))))))) (by kernel_rfl) (by kernel_rfl) (by kernel_rfl) (fun _ _ _ h => h) (Or.inl ⟨by rfl, ?yp12⟩) hHeldp0 ?_
            case yp12 => (intro w hSw; (try dsimp only at hSw); go_simp; try (with_reducible rfl))
            try simp only [Act.put, List.setIfInBounds_toArray, List.set_cons_zero, List.set_cons_succ]
            refine wpAnyH_take (i := 13) (v := ?vp13) (opsS (opsS (opsS (opsS (opsS (opsS (opsS (opsS (opsS (opsS (opsS (opsS (opsS ops0))))))))))))) (by kernel_rfl) (by kernel_rfl) (by kernel_rfl) (fun _ _ _ h => h) (Or.inl ⟨by rfl, ?yp13⟩) hHeldp0 ?_
            case yp13 => (intro w hSw; (try dsimp only at hSw); go_simp; try (with_reducible rfl))
            try simp only [Act.put, List.setIfInBounds_toArray, List.set_cons_zero, List.set_cons_succ]
            refine wpAnyH_take (i := 14) (v := ?vp14) (opsS (opsS (opsS (opsS (opsS (opsS (opsS (opsS (opsS (opsS (opsS (opsS (opsS (opsS ops0)))))))))))))) (by kernel_rfl) (by kernel_rfl) (by kernel_rfl) (fun _ _ _ h => h) (Or.inl ⟨by rfl, ?yp14⟩) hHeldp0 ?_
            case yp14 => (intro w hSw; (try dsimp only at hSw); go_simp; try (with_reducible rfl))
            try simp only [Act.put, List.setIfInBounds_toArray, List.set_cons_zero, List.set_cons_succ]
            refine wpAnyH_take (i := 15) (v := ?vp15) (opsS (opsS (opsS (opsS (opsS (opsS (opsS (opsS (opsS (opsS (opsS (opsS (opsS (opsS (opsS ops0))))))))))))))) (by kernel_rfl) (by kernel_rfl) (by kernel_rfl) (fun _ _ _ h => h) (Or.inl ⟨by rfl, ?yp15⟩) hHeldp0 ?_
            case yp15 => (intro w hSw; (try dsimp only at hSw); go_simp; try (with_reducible rfl))
            try simp only [Act.put, List.setIfInBounds_toArray, List.set_cons_zero, List.set_cons_succ]
            refine wpAnyH_take (i := 16) (v := ?vp16) (opsS (opsS (opsS (opsS (opsS (opsS (opsS (opsS (opsS (opsS (opsS (opsS (opsS (opsS (opsS (opsS ops0)))))))))))))))) (by kernel_rfl) (by kernel_rfl) (by kernel_rfl) (fun _ _ _ h => h) (Or.inl ⟨by rfl, ?yp16⟩) hHeldp0 ?_
            case yp16 => (intro w hSw; (try dsimp only at hSw); go_simp; try (with_reducible rfl))
            try simp only [Act.put, List.setIfInBounds_toArray, List.set_cons_zero, List.set_cons_succ]
            refine wpAnyH_take (i := 17) (v := ?vp17) (opsS (opsS (opsS (opsS (opsS (opsS (opsS (opsS (opsS (opsS (opsS (opsS (opsS (opsS (opsS (opsS (opsS ops0))))))))))))))))) (by kernel_rfl) (by kernel_rfl) (by kernel_rfl) (fun _ _ _ h => h) (Or.inl ⟨by rfl, ?yp17⟩) hHeldp0 ?_
            case yp17 => (intro w hSw; (try dsimp only at hSw); go_simp; try (with_reducible rfl))
            try simp only [Act.put, List.setIfInBounds_toArray, List.set_cons_zero, List.set_cons_succ]
            refine wpAnyH_take (i := 18) (v := ?vp18) (opsS (opsS (opsS (opsS (opsS (opsS (opsS (opsS (opsS (opsS (opsS (opsS (opsS (opsS (opsS (opsS (opsS (opsS ops0)))))))))))))))))) (by kernel_rfl) (by kernel_rfl) (by kernel_rfl) (fun _ _ _ h => h) (Or.inl ⟨by rfl, ?yp18⟩) hHeldp0 ?_
            case yp18 => (intro w hSw; (try dsimp only at hSw); go_simp; try (with_reducible rfl))
            try simp only [Act.put, List.setIfInBounds_toArray, List.set_cons_zero, List.set_cons_succ]
            refine wpAnyH_take (i := 19) (v := ?vp19) (opsS (opsS (opsS (opsS (opsS (opsS (opsS (opsS (opsS (opsS (opsS (opsS (opsS (opsS (opsS (opsS (opsS (opsS (opsS ops0))))))))))))))))))) (by kernel_rfl) (by kernel_rfl) (by kernel_rfl) (fun _ _ _ h => h) (Or.inl ⟨by rfl, ?yp19⟩) hHeldp0 ?_
            case yp19 => (intro w hSw; (try dsimp only at hSw); go_simp; try (with_reducible rfl))
            try simp only [Act.put, List.setIfInBounds_toArray, List.set_cons_zero, List.set_cons_succ]
            refine wpAnyH_take (i := 20) (v := ?vp20) (opsS (opsS (opsS (opsS (opsS (opsS (opsS (opsS (opsS (opsS (opsS (opsS (opsS (opsS (opsS (opsS (opsS (opsS (opsS (opsS ops0)))))))))))))))))))) (by kernel_rfl) (by kernel_rfl) (by kernel_rfl) (fun _ _ _ h => h) (Or.inl ⟨by rfl, ?yp20⟩) hHeldp0 ?_
            case yp20 => (intro w hSw; (try dsimp only at hSw); go_simp; try (with_reducible rfl))
            try simp only [Act.put, List.setIfInBounds_toArray, List.set_cons_zero, List.set_cons_succ]
            refine wpAnyH_take (i := 21) (v := ?vp21) (opsS (opsS (opsS (opsS (opsS (opsS (opsS (opsS (opsS (opsS (opsS (opsS (opsS (opsS (opsS (opsS (opsS (opsS (opsS (opsS (opsS ops0))))))))))))))))))))) (by kernel_rfl) (by kernel_rfl) (by kernel_rfl) (fun _ _ _ h => h) (Or.inl ⟨by rfl, ?yp21⟩) hHeldp0 ?_
            case yp21 => (intro w hSw; (try dsimp only at hSw); go_simp; try (with_reducible rfl))
            try simp only [Act.put, List.setIfInBounds_toArray, List.set_cons_zero, List.set_cons_succ]
            refine wpAnyH_take (i := 22) (v := ?vp22) (opsS (opsS (opsS (opsS (opsS (opsS (opsS (opsS (opsS (opsS (opsS (opsS (opsS (opsS (opsS (opsS (opsS (opsS (opsS (opsS (opsS (opsS ops0)))))))))))))))))))))) (by kernel_rfl) (by kernel_rfl) (by kernel_rfl) (fun _ _ _ h => h) (Or.inl ⟨by rfl, ?yp22⟩) hHeldp0 ?_
            case yp22 => (intro w hSw; (try dsimp only at hSw); go_simp; try (with_reducible rfl))
            try simp only [Act.put, List.setIfInBounds_toArray, List.set_cons_zero, List.set_cons_succ]
            refine wpAnyH_take (i := 23) (v := ?vp23) (opsS (opsS (opsS (opsS (opsS (opsS (opsS (opsS (opsS (opsS (opsS (opsS (opsS (opsS (opsS (opsS (opsS (opsS (opsS (opsS (opsS (opsS (opsS ops0))))))))))))))))))))))) (by kernel_rfl) (by kernel_rfl) (by kernel_rfl) (fun _ _ _ h => h) (Or.inl ⟨by rfl, ?yp23⟩) hHeldp0 ?_
            case yp23 => (intro w hSw; (try dsimp only at hSw); go_simp; try (with_reducible rfl))
            try simp only [Act.put, List.setIfInBounds_toArray, List.set_cons_zero, List.set_cons_succ]
            refine wpAnyH_take (i := 24) (v := ?vp24) (opsS (opsS (opsS (opsS (opsS (opsS (opsS (opsS (opsS (opsS (opsS (opsS (opsS (opsS (opsS (opsS (opsS (opsS (opsS (opsS (opsS (opsS (opsS (opsS ops0)))))))))))))))))))))))) (by kernel_rfl) (by kernel_rfl) (by kernel_rfl) (fun _ _ _ h => h) (Or.inl ⟨by rfl, ?yp24⟩) hHeldp0 ?_
            case yp24 => (intro w hSw; (try dsimp only at hSw); go_simp; try (with_reducible rfl))
            try simp only [Act.put, List.setIfInBounds_toArray, List.set_cons_zero, List.set_cons_succ]
            refine wpAnyH_take (i := 25) (v := ?vp25) (opsS (opsS (opsS (opsS (opsS (opsS (opsS (opsS (opsS (opsS (opsS (opsS (opsS (opsS (opsS (opsS (opsS (opsS (opsS (opsS (opsS (opsS (opsS (opsS (opsS ops0))))))))))))))))))))))))) (by kernel_rfl) (by kernel_rfl) (by kernel_rfl) (fun _ _ _ h => h) (Or.inl ⟨by rfl, ?yp25⟩) hHeldp0 ?_
            case yp25 => (intro w hSw; (try dsimp only at hSw); go_simp; try (with_reducible rfl))
            try simp only [Act.put, List.setIfInBounds_toArray, List.set_cons_zero, List.set_cons_succ]
            refine wpAnyH_take (i := 26) (v := ?vp26) (opsS (opsS (opsS (opsS (opsS (opsS (opsS (opsS (opsS (opsS (opsS (opsS (opsS (opsS (opsS (opsS (opsS (opsS (opsS (opsS (opsS (opsS (opsS (opsS (opsS (opsS ops0)))))))))))))))))))))))))) (by kernel_rfl) (by kernel_rfl) (by kernel_rfl) (fun _ _ _ h => h) (Or.inl ⟨by rfl, ?yp26⟩) hHeldp0 ?_
            case yp26 => (intro w hSw; (try dsimp only at hSw); go_simp; try (with_reducible rfl))
            try simp only [Act.put, List.setIfInBounds_toArray, List.set_cons_zero, List.set_cons_succ]
            refine wpAnyH_take (i := 27) (v := ?vp27) (opsS (opsS (opsS (opsS (opsS (opsS (opsS (opsS (opsS (opsS (opsS (opsS (opsS (opsS (opsS (opsS (opsS (opsS (opsS (opsS (opsS (opsS (opsS (opsS (opsS (opsS (opsS ops0))))))))))))))))))))))))))) (by kernel_rfl) (by kernel_rfl) (by kernel_rfl) (fun _ _ _ h => h) (Or.inl ⟨by rfl, ?yp27⟩) hHeldp0 ?_
            case yp27 => (intro w hSw; (try dsimp only at hSw); go_simp; try (with_reducible rfl))
            try simp only [Act.put, List.setIfInBounds_toArray, List.set_cons_zero, List.set_cons_succ]
            refine wpAnyH_take (i := 28) (v := ?vp28) (opsS (opsS (opsS (opsS (opsS (opsS (opsS (opsS (opsS (opsS (opsS (opsS (opsS (opsS (opsS (opsS (opsS (opsS (opsS (opsS (opsS (opsS (opsS (opsS (opsS (opsS (opsS (opsS ops0)))))))))))))))))))))))))))) (by kernel_rfl) (by kernel_rfl) (by kernel_rfl) (fun _ _ _ h => h) (Or.inl ⟨by rfl, ?yp28⟩) hHeldp0 ?_
            case yp28 => (intro w hSw; (try dsimp only at hSw); go_simp; try (with_reducible rfl))
            try simp only [Act.put, List.setIfInBounds_toArray, List.set_cons_zero, List.set_cons_succ]
            refine wpAnyH_take (i := 29) (v := ?vp29) (opsS (opsS (opsS (opsS (opsS (opsS (opsS (opsS (opsS (opsS (opsS (opsS (opsS (opsS (opsS (opsS (opsS (opsS (opsS (opsS (opsS (opsS (opsS (opsS (opsS (opsS (opsS (opsS (opsS ops0))))))))))))))))))))))))))))) (by kernel_rfl) (by kernel_rfl) (by kernel_rfl) (fun _ _ _ h => h) (Or.inl ⟨by rfl, ?yp29⟩) hHeldp0 ?_
            case yp29 => (intro w hSw; (try dsimp only at hSw); go_simp; try (with_reducible rfl))
            try simp only [Act.put, List.setIfInBounds_toArray, List.set_cons_zero, List.set_cons_succ]
            refine wpAnyH_done (by kernel_rfl) ?_ _
            have hlow := hHeldp0.2.2.2.low
            have hTm3 := Lib.hid (hTm2.out.below hlow hb1)
            have hTb3 := Lib.hid (hTb2.out.below hlow hb2)
            have hbq3 := Lib.hid (hbq2.out.trans (hlow.mono hbq2.out.size))
            clear hHeldp0 test hlow hTm2 hTb2 hbq2 hb1 hb2
            generalize wq.drew = wz at *
            have f1 := hTb3.out.frozen x
            have f2 := hTb3.out.frozen y
            have f3 := hTm3.out.frozen (x * 64 + y)
            have y0 := hTm3.out.zero (i := x * 64 + y) (by omega) x5
            have y1 := hTb3.out.zero (i := x) (by omega) x3
            have y2 := hTb3.out.zero (i := y) (by omega) x4
            have nxy : ¬ x = y := by omega
            have nyx : ¬ y = x := by omega
            have ngb : ¬ w1.heap.size = gb := by omega
            have ngb2 : ¬ gb = w1.heap.size := by omega
            have hle : w1.heap.size ≤ gb := by omega
            have HTm4 := Lib.hid (((hTm3.out.far (p := ⟨gb, x, none⟩) ngb (.int .i64 1)).far (p := ⟨gb, y, none⟩) ngb (.int .i64 1)).set_ (i := x * 64 + y) (by omega))
            have HTb4 := Lib.hid (((hTb3.out.set_ (i := x) (by omega)).set_ (i := y) (by omega)).far (p := ⟨w1.heap.size, x * 64 + y, none⟩) ngb2 (.int .i64 1))
            have HBq4 := Lib.hid (((hbq3.out.setCell (p := ⟨gb, x, none⟩) hle (.int .i64 1)).setCell (p := ⟨gb, y, none⟩) hle (.int .i64 1)).setCell (p := ⟨w1.heap.size, x * 64 + y, none⟩) (Nat.le_refl _) (.int .i64 1))
            go_wp2
            refine ⟨⟨i + 1, m' ||| 2 ^ (x * 64 + y), b' ||| 2 ^ x ||| 2 ^ y, by omega, by simp, HS3, HTm4, HTb4, HBq4⟩, ?_⟩
            simp [intOf]; omega
          · obtain rfl : i = l.length := by omega
            have hs' := hs.out
            rw [List.drop_length] at hs'
            obtain rfl : (m', b') = st := by unfold stepL at hs'; exact Option.some.inj hs'
            have HS4 := Lib.hid HS2.out
            clear hs hs' HS2
            go_wp2
            refine ⟨⟨r + 1, m', by omega, by simp, HS4, hTm, hbq⟩, ?_⟩
            simp [intOf]; omega
      · obtain rfl : r = ls.length := by omega
        have hst' := hst.out
        rw [List.drop_length] at hst'
        obtain rfl : m = M := by unfold stepR at hst'; exact Option.some.inj hst'
        clear hst hst'
        go_wp2
        go_loopw [11, 12] (fun av _ wq => ∃ a : Nat, a ≤ n ∧ av = .int .i64 a ∧ Hid (Tab wq w1.heap.size 32 4096 m) ∧ Hid (Below w1.heap.size w1 wq)) (fun av _ _ => n - (intOf av).toNat)
        case atStart => exact ⟨0, Nat.zero_le _, rfl, hT, hbr⟩
        case round =>
          obtain ⟨a, ha, rfl, hT2, hb2⟩ := hrel
          clear hT hbr
          by_cases ha2 : a < n
          · go_wp2
            go_loopw [12] (fun dv wq => ∃ d : Nat, a + 1 ≤ d ∧ d ≤ n ∧ dv = .int .i64 d ∧ Hid (Tab wq w1.heap.size 32 4096 m) ∧ Hid (Below w1.heap.size w1 wq)) (fun dv _ => n - (intOf dv).toNat)
            case atStart => exact ⟨a + 1, Nat.le_refl _, by omega, by simp, hT2, hb2⟩
            case round =>
              obtain ⟨d, hd1, hd2, rfl, hT3, hb3⟩ := hrel
              clear hT2 hb2
              by_cases hd3 : d < n
              · have y0 := hT3.out.one (i := a * 64 + d) (by omega) (full_at HF.out (by omega) hd3)
                have q7 : (a : Int) < 64 := by omega
                have q8 : (d : Int) < 64 := by omega
                have q9 : a < 64 := by omega
                have q10 : d < 64 := by omega
                go_wp2
                refine ⟨⟨d + 1, by omega, by omega, by simp, hT3, hb3⟩, ?_⟩
                simp [intOf]; omega
              · obtain rfl : d = n := by omega
                go_wp2
                refine ⟨⟨a + 1, by omega, by simp, hT3, hb3⟩, ?_⟩
                simp [intOf]; omega
          · obtain rfl : a = n := by omega
            have hlen2 : (ls.length : Int) ≤ (a : Int) := by omega
            go_wp2_with fail
            refine (awake_any _).mono ?_
            rintro e w4 ⟨rfl, hbl⟩
            have HB4 := Lib.hid ((HB.out.trans (hb2.out.mono HB.out.size)).trans (hbl.mono (Nat.le_trans HB.out.size hb2.out.size)))
            clear hbl
            go_wp2
            go_ret
            exact ⟨rfl, HB4.out⟩
theorem once_all (W : World) (v0 : Value) (h0 : V5 W v0) :
    Calls Try.prog 5 #[v0] W fun e w' => e = .returned (.bool true) ∧ Below W.heap.size W w' := by
  obtain ⟨a, rfl, ha⟩ := h0
  obtain ⟨x, y⟩ := u8_in ha
  exact once_walk a.v x y W
end Go.Proofs.Ytigcfpalmkfoiaa.pg
