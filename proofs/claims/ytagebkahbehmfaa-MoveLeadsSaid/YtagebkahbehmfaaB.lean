/- What must be moved. -/
import Derived.Test.YtagebkahbehmfaaA
import Derived.Deep.RegionHeld3
namespace Go.Proofs.Ytagebkahbehmfaa.move
open Go.ChangeShapes Go.WideShapes Go.ChangeAt Go.RowKit Go.Proofs.Aid Go.Proofs.Ytagebkahbehmfaa.texts
theorem info36 : (Try.prog.info? 36).map (fun i => (i.zero, i.size, i.bytes)) = some (some (.agg #[.int .i64 0, .string ⟨#[]⟩, .string ⟨#[]⟩]), 3, 40) := by kernel_rfl
def plan (was now : List ByteArray) : Nat → List R36
  | 0 => []
  | k + 1 => if h : k < was.length ∧ k < now.length then if was[k] = now[k] then plan was now k else plan was now k ++ [⟨k, was[k], now[k]⟩] else plan was now k
theorem plan_same {was now : List ByteArray} {k : Nat} (h : k < was.length) (h2 : k < now.length) (e : was[k] = now[k]) : plan was now (k + 1) = plan was now k := by
  rw [plan, dif_pos ⟨h, h2⟩, if_pos e]
theorem plan_other {was now : List ByteArray} {k : Nat} (h : k < was.length) (h2 : k < now.length) (e : was[k] ≠ now[k]) : plan was now (k + 1) = plan was now k ++ [⟨k, was[k], now[k]⟩] := by
  rw [plan, dif_pos ⟨h, h2⟩, if_neg e]
theorem plan_len (was now : List ByteArray) (k : Nat) : (plan was now k).length ≤ k := by
  induction k with
  | zero => exact Nat.le_refl _
  | succ k ih =>
    rw [plan]
    split
    · split
      · omega
      · rw [List.length_append]; simp; omega
    · omega
def planAll (was now : List ByteArray) : List R36 := plan was now (min was.length now.length)
set_option maxHeartbeats 4000000 in
theorem plan_lt (w : World) (A B : Option Addr) (ca cb : Nat) (was now : List ByteArray) (hl : was.length ≤ 1000) (hl2 : now.length ≤ 1000) (hc : was.length < now.length) (h1 : Reads w w.heap.size 1 A was.length (was.flatMap tc)) (h2 : Reads w w.heap.size 1 B now.length (now.flatMap tc)) :
    Calls Try.prog 12 #[.slice A was.length ca, .slice B now.length cb] w fun e w' => ∃ v, e = .returned v ∧ Row w' w.heap.size 36 3 R36.cells v (planAll was now) ∧ Below w.heap.size w w' := by
  obtain ⟨i0, hi0, hz0, hz1, hz2⟩ := info_parts info36
  have H1 := Lib.hid h1
  have H2 := Lib.hid h2
  clear h1 h2
  have hrow0 : Row w w.heap.size 36 3 R36.cells (.slice none 0 0) (plan was now 0) := Row.nil _ _ _ _ _
  have HM := Lib.hid (show planAll was now = plan was now (min was.length now.length) from rfl)
  go_enter Try.func12, Try.ntmps12
  go_wp2_with fail
  go_loopw [5, 6, 12] (fun v _ iv wr => ∃ k : Nat, k ≤ was.length ∧ k ≤ now.length ∧ iv = .int .i64 k ∧ Row wr w.heap.size 36 3 R36.cells v (plan was now k) ∧ Below w.heap.size w wr) (fun _ _ iv _ => was.length - (intOf iv).toNat)
  case atStart => exact ⟨0, by omega, by omega, rfl, hrow0, Below.refl _ _⟩
  case round =>
    clear hrow0
    obtain ⟨k, hk, hk2, rfl, hrow, hlow⟩ := hrel
    have hsz := hlow.size
    have hlen := plan_len was now k
    by_cases hlt : k < was.length ∧ k < now.length
    · obtain ⟨hlt1, hlt2⟩ := hlt
      obtain ⟨a1, q1, hb1, c1⟩ := H1.out.elem1 hlt1
      obtain ⟨a2, q2, hb2, c2⟩ := H2.out.elem1 hlt2
      subst q1 q2
      have hpq : Hid (PQ w.heap.size w (a1.add k) (a2.add k) (.string was[k]) (.string now[k]) wr) := ⟨c1, c2, by rw [block_of_add]; exact hb1, by rw [block_of_add]; exact hb2, hlow⟩
      clear c1 c2
      obtain ⟨c1, c2, -⟩ := PQ.of hpq.out
      by_cases hx : was[k] = now[k]
      · have hro := Lib.hid (plan_same hlt1 hlt2 hx)
        rw [hx] at c1
        clear hx hpq
        generalize now[k] = y at *
        have hlowN : ∀ n, Below w.heap.size w (World.drewN _ n) := fun n => below_drewN hlow n
        have hrowN : ∀ n, Row (World.drewN _ n) w.heap.size 36 3 R36.cells _ _ := fun n => hrow.drewN n
        go_wp2_with fail
        go_quiet (fail)
        go_wp2
        go_roundw
        case rel => exact ⟨k + 1, by omega, by omega, by go_num, by rw [hro.out]; exact hrowN _, hlowN _⟩
        case measure => simp [intOf]; omega
      · have hro := Lib.hid (plan_other hlt1 hlt2 hx)
        have hx' := bytes_ne hx
        clear hx
        generalize was[k] = x at *
        generalize now[k] = y at *
        have hlowN : ∀ n, Below w.heap.size w (World.drewN _ n) := fun n => below_drewN hlow n
        have hrowN : ∀ n, Row (World.drewN _ n) w.heap.size 36 3 R36.cells _ _ := fun n => hrow.drewN n
        go_wp2_with fail
        go_quiet (fail)
        have hpq2 : Hid (PQ w.heap.size w (a1.add k) (a2.add k) (.string x) (.string y) (wr.drewN nq)) := ⟨hpq.c1, hpq.c2, hpq.hp, hpq.hq, hlowN nq⟩
        have hlow2 := hlowN nq
        have hrow2 := hrowN nq
        clear hlow hrow hpq c1 c2 hlowN hrowN hsz
        generalize wr.drewN nq = wz at *
        have hsz := hlow2.size
        have test := PQ.drew hpq2
        clear hpq2
        generalize plan was now k = L at *
        go_wp2_with fail
        refine wp_region_held_drew (S := (fun w' => w'.cell? (a1.add k) = some (.string x) ∧ w'.cell? (a2.add k) = some (.string y) ∧ Hid (PQ w.heap.size w (a1.add k) (a2.add k) (.string x) (.string y) w'))) (by kernel_rfl) ?_ (fun hHeldp0 => ?_)
        · exact test
        refine wpAnyH_take (i := 0) (v := ?vp0) ops0 (by kernel_rfl) (by kernel_rfl) (by kernel_rfl) (fun _ _ _ h => h) (Or.inl ⟨by rfl, ?yp0⟩) hHeldp0 ?_
        case yp0 => (intro w hSw; (try dsimp only at hSw); go_simp; try (with_reducible rfl))
        try simp only [Act.put, List.setIfInBounds_toArray, List.set_cons_zero, List.set_cons_succ]
        refine wpAnyH_take (i := 1) (v := ?vp1) (opsS ops0) (by kernel_rfl) (by kernel_rfl) (by kernel_rfl) (fun _ _ _ h => h) (Or.inl ⟨by rfl, ?yp1⟩) hHeldp0 ?_
        case yp1 => (intro w hSw; (try dsimp only at hSw); go_simp; try (with_reducible rfl))
        try simp only [Act.put, List.setIfInBounds_toArray, List.set_cons_zero, List.set_cons_succ]
        refine wpAnyH_take (i := 2) (v := ?vp2) (opsS (opsS ops0)) (by kernel_rfl) (by kernel_rfl) (by kernel_rfl) (fun _ _ _ h => h) (Or.inl ⟨by rfl, ?yp2⟩) hHeldp0 ?_
        case yp2 => (intro w hSw; (try dsimp only at hSw); go_simp; try (with_reducible rfl))
        try simp only [Act.put, List.setIfInBounds_toArray, List.set_cons_zero, List.set_cons_succ]
        refine wpAnyH_take (i := 3) (v := ?vp3) (opsS (opsS (opsS ops0))) (by kernel_rfl) (by kernel_rfl) (by kernel_rfl) (fun _ _ _ h => h) (Or.inl ⟨by rfl, ?yp3⟩) hHeldp0 ?_
        case yp3 => (intro w hSw; (try dsimp only at hSw); go_simp; try (with_reducible rfl))
        try simp only [Act.put, List.setIfInBounds_toArray, List.set_cons_zero, List.set_cons_succ]
        refine wpAnyH_take (i := 4) (v := ?vp4) (opsS (opsS (opsS (opsS ops0)))) (by kernel_rfl) (by kernel_rfl) (by kernel_rfl) (fun _ _ _ h => h) (Or.inl ⟨by rfl, ?yp4⟩) hHeldp0 ?_
        case yp4 => (intro w hSw; (try dsimp only at hSw); go_simp; try (with_reducible rfl))
        try simp only [Act.put, List.setIfInBounds_toArray, List.set_cons_zero, List.set_cons_succ]
        refine wpAnyH_take (i := 5) (v := ?vp5) (opsS (opsS (opsS (opsS (opsS ops0))))) (by kernel_rfl) (by kernel_rfl) (by kernel_rfl) (fun _ _ _ h => h) (Or.inl ⟨by rfl, ?yp5⟩) hHeldp0 ?_
        case yp5 => (intro w hSw; (try dsimp only at hSw); go_simp; try (with_reducible rfl))
        try simp only [Act.put, List.setIfInBounds_toArray, List.set_cons_zero, List.set_cons_succ]
        refine wpAnyH_take (i := 6) (v := ?vp6) (opsS (opsS (opsS (opsS (opsS (opsS ops0)))))) (by kernel_rfl) (by kernel_rfl) (by kernel_rfl) (fun _ _ _ h => h) (Or.inl ⟨by rfl, ?yp6⟩) hHeldp0 ?_
        case yp6 => (intro w hSw; (try dsimp only at hSw); go_simp; try (with_reducible rfl))
        try simp only [Act.put, List.setIfInBounds_toArray, List.set_cons_zero, List.set_cons_succ]
        refine wpAnyH_take (i := 7) (v := ?vp7) (opsS (opsS (opsS (opsS (opsS (opsS (opsS ops0))))))) (by kernel_rfl) (by kernel_rfl) (by kernel_rfl) (fun _ _ _ h => h) (Or.inl ⟨by rfl, ?yp7⟩) hHeldp0 ?_
        case yp7 => (intro w hSw; (try dsimp only at hSw); go_simp; try (with_reducible rfl))
        try simp only [Act.put, List.setIfInBounds_toArray, List.set_cons_zero, List.set_cons_succ]
        refine wpAnyH_take (i := 8) (v := ?vp8) (opsS (opsS (opsS (opsS (opsS (opsS (opsS (opsS ops0)))))))) (by kernel_rfl) (by kernel_rfl) (by kernel_rfl) (fun _ _ _ h => h) (Or.inl ⟨by rfl, ?yp8⟩) hHeldp0 ?_
        case yp8 => (intro w hSw; (try dsimp only at hSw); go_simp; try (with_reducible rfl))
        try simp only [Act.put, List.setIfInBounds_toArray, List.set_cons_zero, List.set_cons_succ]
        refine wpAnyH_take (i := 9) (v := ?vp9) (opsS (opsS (opsS (opsS (opsS (opsS (opsS (opsS (opsS ops0))))))))) (by kernel_rfl) (by kernel_rfl) (by kernel_rfl) (fun _ _ _ h => h) (Or.inl ⟨by rfl, ?yp9⟩) hHeldp0 ?_
        case yp9 => (intro w hSw; (try dsimp only at hSw); go_simp; try (with_reducible rfl))
        try simp only [Act.put, List.setIfInBounds_toArray, List.set_cons_zero, List.set_cons_succ]
        refine wpAnyH_take (i := 10) (v := ?vp10) (opsS (opsS (opsS (opsS (opsS (opsS (opsS (opsS (opsS (opsS ops0)))))))))) (by kernel_rfl) (by kernel_rfl) (by kernel_rfl) (fun _ _ _ h => h) (Or.inl ⟨by rfl, ?yp10⟩) hHeldp0 ?_
        case yp10 => (intro w hSw; (try dsimp only at hSw); go_simp; try (with_reducible rfl))
        try simp only [Act.put, List.setIfInBounds_toArray, List.set_cons_zero, List.set_cons_succ]
        refine wpAnyH_ready (rs := [11]) (by kernel_rfl) (by simp) ?_
        refine AllReadyH.cons (opsS (opsS (opsS (opsS (opsS (opsS (opsS (opsS (opsS (opsS (opsS ops0))))))))))) (fun K hK => ?_) AllReadyH.nil
        go_simp
        skip
        try dsimp only
        refine hK.out _ _ ?_ (fun hHeldp1 => ?_)
        · (first | assumption | (go_split_ands; exact PQ.step (by assumption) (Below.alloc (Hid.out (by assumption : Hid (PQ _ _ _ _ _ _ _))).low (by simp; omega) _) ) | (go_split_ands; exact PQ.step (by assumption) (by assumption)))
        clear hK K hHeldp0
        try clear hb
        try simp only [Act.put, List.setIfInBounds_toArray, List.set_cons_zero, List.set_cons_succ]
        refine wpAnyH_ready (rs := [12]) (by kernel_rfl) (by simp) ?_
        refine AllReadyH.cons (opsS (opsS (opsS (opsS (opsS (opsS (opsS (opsS (opsS (opsS (opsS (opsS ops0)))))))))))) (fun K hK => ?_) AllReadyH.nil
        refine step_append_row _ rfl _ _ 23 rfl w.heap.size 36 i0 _ 3 40 Try.underlying23 hi0 hz0 hz1 hz2 rfl (by decide) _ _ rfl (hrow2.drew.alloc _) R36.len _ ⟨k, x, y⟩ rfl (cells_new _ _ _) (by simp [R36.cells, Value.oneCell']) (by simp) (by unfold maxLen; omega) (by omega) (by simp; omega) ?_; intro v' w1 hrow' hgrow; have hbl := low_row hlow2.drew hrow2.drew (Nat.le_refl _) hsz hgrow
        try dsimp only
        refine hK.out _ _ ?_ (fun hHeldp2 => ?_)
        · (first | assumption | (go_split_ands; exact PQ.step (by assumption) (Below.alloc (Hid.out (by assumption : Hid (PQ _ _ _ _ _ _ _))).low (by simp; omega) _) ) | (go_split_ands; exact PQ.step (by assumption) (by assumption)))
        clear hK K hHeldp1
        try clear hb
        try simp only [Act.put, List.setIfInBounds_toArray, List.set_cons_zero, List.set_cons_succ]
        refine wpAnyH_take (i := 13) (v := ?vp13) (opsS (opsS (opsS (opsS (opsS (opsS (opsS (opsS (opsS (opsS (opsS (opsS (opsS ops0))))))))))))) (by kernel_rfl) (by kernel_rfl) (by kernel_rfl) (fun _ _ _ h => h) (Or.inl ⟨by rfl, ?yp13⟩) hHeldp2 ?_
        case yp13 => (intro w hSw; (try dsimp only at hSw); go_simp; try (with_reducible rfl))
        try simp only [Act.put, List.setIfInBounds_toArray, List.set_cons_zero, List.set_cons_succ]
        refine wpAnyH_done (by kernel_rfl) ?_ _
        clear hHeldp2 test
        go_wp2
        go_roundw
        case rel => exact ⟨k + 1, by omega, by omega, by go_num, by rw [hro.out]; exact hrow', hbl⟩
        case measure => simp [intOf]; omega
    · have hmin : min was.length now.length = k := by omega
      rw [hmin] at HM
      by_cases hw : k < was.length
      · have hn : ¬ k < now.length := by omega
        first
        | (exfalso; omega)
        | (go_wp2; go_ret; exact ⟨_, rfl, by rw [HM.out]; exact hrow, hlow⟩)
      · first
        | (exfalso; omega)
        | (go_wp2; go_ret; exact ⟨_, rfl, by rw [HM.out]; exact hrow, hlow⟩)
        | (have hn : ¬ k < now.length := by omega; go_wp2; go_ret; exact ⟨_, rfl, by rw [HM.out]; exact hrow, hlow⟩)
set_option maxHeartbeats 4000000 in
theorem plan_eq (w : World) (A B : Option Addr) (ca cb : Nat) (was now : List ByteArray) (hl : was.length ≤ 1000) (hl2 : now.length ≤ 1000) (hc : was.length ≤ now.length) (hc2 : now.length ≤ was.length) (h1 : Reads w w.heap.size 1 A was.length (was.flatMap tc)) (h2 : Reads w w.heap.size 1 B now.length (now.flatMap tc)) :
    Calls Try.prog 12 #[.slice A was.length ca, .slice B now.length cb] w fun e w' => ∃ v, e = .returned v ∧ Row w' w.heap.size 36 3 R36.cells v (planAll was now) ∧ Below w.heap.size w w' := by
  obtain ⟨i0, hi0, hz0, hz1, hz2⟩ := info_parts info36
  have H1 := Lib.hid h1
  have H2 := Lib.hid h2
  clear h1 h2
  have hrow0 : Row w w.heap.size 36 3 R36.cells (.slice none 0 0) (plan was now 0) := Row.nil _ _ _ _ _
  have HM := Lib.hid (show planAll was now = plan was now (min was.length now.length) from rfl)
  go_enter Try.func12, Try.ntmps12
  go_wp2_with fail
  go_loopw [5, 6, 12] (fun v _ iv wr => ∃ k : Nat, k ≤ was.length ∧ k ≤ now.length ∧ iv = .int .i64 k ∧ Row wr w.heap.size 36 3 R36.cells v (plan was now k) ∧ Below w.heap.size w wr) (fun _ _ iv _ => was.length - (intOf iv).toNat)
  case atStart => exact ⟨0, by omega, by omega, rfl, hrow0, Below.refl _ _⟩
  case round =>
    clear hrow0
    obtain ⟨k, hk, hk2, rfl, hrow, hlow⟩ := hrel
    have hsz := hlow.size
    have hlen := plan_len was now k
    by_cases hlt : k < was.length ∧ k < now.length
    · obtain ⟨hlt1, hlt2⟩ := hlt
      obtain ⟨a1, q1, hb1, c1⟩ := H1.out.elem1 hlt1
      obtain ⟨a2, q2, hb2, c2⟩ := H2.out.elem1 hlt2
      subst q1 q2
      have hpq : Hid (PQ w.heap.size w (a1.add k) (a2.add k) (.string was[k]) (.string now[k]) wr) := ⟨c1, c2, by rw [block_of_add]; exact hb1, by rw [block_of_add]; exact hb2, hlow⟩
      clear c1 c2
      obtain ⟨c1, c2, -⟩ := PQ.of hpq.out
      by_cases hx : was[k] = now[k]
      · have hro := Lib.hid (plan_same hlt1 hlt2 hx)
        rw [hx] at c1
        clear hx hpq
        generalize now[k] = y at *
        have hlowN : ∀ n, Below w.heap.size w (World.drewN _ n) := fun n => below_drewN hlow n
        have hrowN : ∀ n, Row (World.drewN _ n) w.heap.size 36 3 R36.cells _ _ := fun n => hrow.drewN n
        go_wp2_with fail
        go_quiet (fail)
        go_wp2
        go_roundw
        case rel => exact ⟨k + 1, by omega, by omega, by go_num, by rw [hro.out]; exact hrowN _, hlowN _⟩
        case measure => simp [intOf]; omega
      · have hro := Lib.hid (plan_other hlt1 hlt2 hx)
        have hx' := bytes_ne hx
        clear hx
        generalize was[k] = x at *
        generalize now[k] = y at *
        have hlowN : ∀ n, Below w.heap.size w (World.drewN _ n) := fun n => below_drewN hlow n
        have hrowN : ∀ n, Row (World.drewN _ n) w.heap.size 36 3 R36.cells _ _ := fun n => hrow.drewN n
        go_wp2_with fail
        go_quiet (fail)
        have hpq2 : Hid (PQ w.heap.size w (a1.add k) (a2.add k) (.string x) (.string y) (wr.drewN nq)) := ⟨hpq.c1, hpq.c2, hpq.hp, hpq.hq, hlowN nq⟩
        have hlow2 := hlowN nq
        have hrow2 := hrowN nq
        clear hlow hrow hpq c1 c2 hlowN hrowN hsz
        generalize wr.drewN nq = wz at *
        have hsz := hlow2.size
        have test := PQ.drew hpq2
        clear hpq2
        generalize plan was now k = L at *
        go_wp2_with fail
        refine wp_region_held_drew (S := (fun w' => w'.cell? (a1.add k) = some (.string x) ∧ w'.cell? (a2.add k) = some (.string y) ∧ Hid (PQ w.heap.size w (a1.add k) (a2.add k) (.string x) (.string y) w'))) (by kernel_rfl) ?_ (fun hHeldp0 => ?_)
        · exact test
        refine wpAnyH_take (i := 0) (v := ?vp0) ops0 (by kernel_rfl) (by kernel_rfl) (by kernel_rfl) (fun _ _ _ h => h) (Or.inl ⟨by rfl, ?yp0⟩) hHeldp0 ?_
        case yp0 => (intro w hSw; (try dsimp only at hSw); go_simp; try (with_reducible rfl))
        try simp only [Act.put, List.setIfInBounds_toArray, List.set_cons_zero, List.set_cons_succ]
        refine wpAnyH_take (i := 1) (v := ?vp1) (opsS ops0) (by kernel_rfl) (by kernel_rfl) (by kernel_rfl) (fun _ _ _ h => h) (Or.inl ⟨by rfl, ?yp1⟩) hHeldp0 ?_
        case yp1 => (intro w hSw; (try dsimp only at hSw); go_simp; try (with_reducible rfl))
        try simp only [Act.put, List.setIfInBounds_toArray, List.set_cons_zero, List.set_cons_succ]
        refine wpAnyH_take (i := 2) (v := ?vp2) (opsS (opsS ops0)) (by kernel_rfl) (by kernel_rfl) (by kernel_rfl) (fun _ _ _ h => h) (Or.inl ⟨by rfl, ?yp2⟩) hHeldp0 ?_
        case yp2 => (intro w hSw; (try dsimp only at hSw); go_simp; try (with_reducible rfl))
        try simp only [Act.put, List.setIfInBounds_toArray, List.set_cons_zero, List.set_cons_succ]
        refine wpAnyH_take (i := 3) (v := ?vp3) (opsS (opsS (opsS ops0))) (by kernel_rfl) (by kernel_rfl) (by kernel_rfl) (fun _ _ _ h => h) (Or.inl ⟨by rfl, ?yp3⟩) hHeldp0 ?_
        case yp3 => (intro w hSw; (try dsimp only at hSw); go_simp; try (with_reducible rfl))
        try simp only [Act.put, List.setIfInBounds_toArray, List.set_cons_zero, List.set_cons_succ]
        refine wpAnyH_take (i := 4) (v := ?vp4) (opsS (opsS (opsS (opsS ops0)))) (by kernel_rfl) (by kernel_rfl) (by kernel_rfl) (fun _ _ _ h => h) (Or.inl ⟨by rfl, ?yp4⟩) hHeldp0 ?_
        case yp4 => (intro w hSw; (try dsimp only at hSw); go_simp; try (with_reducible rfl))
        try simp only [Act.put, List.setIfInBounds_toArray, List.set_cons_zero, List.set_cons_succ]
        refine wpAnyH_take (i := 5) (v := ?vp5) (opsS (opsS (opsS (opsS (opsS ops0))))) (by kernel_rfl) (by kernel_rfl) (by kernel_rfl) (fun _ _ _ h => h) (Or.inl ⟨by rfl, ?yp5⟩) hHeldp0 ?_
        case yp5 => (intro w hSw; (try dsimp only at hSw); go_simp; try (with_reducible rfl))
        try simp only [Act.put, List.setIfInBounds_toArray, List.set_cons_zero, List.set_cons_succ]
        refine wpAnyH_take (i := 6) (v := ?vp6) (opsS (opsS (opsS (opsS (opsS (opsS ops0)))))) (by kernel_rfl) (by kernel_rfl) (by kernel_rfl) (fun _ _ _ h => h) (Or.inl ⟨by rfl, ?yp6⟩) hHeldp0 ?_
        case yp6 => (intro w hSw; (try dsimp only at hSw); go_simp; try (with_reducible rfl))
        try simp only [Act.put, List.setIfInBounds_toArray, List.set_cons_zero, List.set_cons_succ]
        refine wpAnyH_take (i := 7) (v := ?vp7) (opsS (opsS (opsS (opsS (opsS (opsS (opsS ops0))))))) (by kernel_rfl) (by kernel_rfl) (by kernel_rfl) (fun _ _ _ h => h) (Or.inl ⟨by rfl, ?yp7⟩) hHeldp0 ?_
        case yp7 => (intro w hSw; (try dsimp only at hSw); go_simp; try (with_reducible rfl))
        try simp only [Act.put, List.setIfInBounds_toArray, List.set_cons_zero, List.set_cons_succ]
        refine wpAnyH_take (i := 8) (v := ?vp8) (opsS (opsS (opsS (opsS (opsS (opsS (opsS (opsS ops0)))))))) (by kernel_rfl) (by kernel_rfl) (by kernel_rfl) (fun _ _ _ h => h) (Or.inl ⟨by rfl, ?yp8⟩) hHeldp0 ?_
        case yp8 => (intro w hSw; (try dsimp only at hSw); go_simp; try (with_reducible rfl))
        try simp only [Act.put, List.setIfInBounds_toArray, List.set_cons_zero, List.set_cons_succ]
        refine wpAnyH_take (i := 9) (v := ?vp9) (opsS (opsS (opsS (opsS (opsS (opsS (opsS (opsS (opsS ops0))))))))) (by kernel_rfl) (by kernel_rfl) (by kernel_rfl) (fun _ _ _ h => h) (Or.inl ⟨by rfl, ?yp9⟩) hHeldp0 ?_
        case yp9 => (intro w hSw; (try dsimp only at hSw); go_simp; try (with_reducible rfl))
        try simp only [Act.put, List.setIfInBounds_toArray, List.set_cons_zero, List.set_cons_succ]
        refine wpAnyH_take (i := 10) (v := ?vp10) (opsS (opsS (opsS (opsS (opsS (opsS (opsS (opsS (opsS (opsS ops0)))))))))) (by kernel_rfl) (by kernel_rfl) (by kernel_rfl) (fun _ _ _ h => h) (Or.inl ⟨by rfl, ?yp10⟩) hHeldp0 ?_
        case yp10 => (intro w hSw; (try dsimp only at hSw); go_simp; try (with_reducible rfl))
        try simp only [Act.put, List.setIfInBounds_toArray, List.set_cons_zero, List.set_cons_succ]
        refine wpAnyH_ready (rs := [11]) (by kernel_rfl) (by simp) ?_
        refine AllReadyH.cons (opsS (opsS (opsS (opsS (opsS (opsS (opsS (opsS (opsS (opsS (opsS ops0))))))))))) (fun K hK => ?_) AllReadyH.nil
        go_simp
        skip
        try dsimp only
        refine hK.out _ _ ?_ (fun hHeldp1 => ?_)
        · (first | assumption | (go_split_ands; exact PQ.step (by assumption) (Below.alloc (Hid.out (by assumption : Hid (PQ _ _ _ _ _ _ _))).low (by simp; omega) _) ) | (go_split_ands; exact PQ.step (by assumption) (by assumption)))
        clear hK K hHeldp0
        try clear hb
        try simp only [Act.put, List.setIfInBounds_toArray, List.set_cons_zero, List.set_cons_succ]
        refine wpAnyH_ready (rs := [12]) (by kernel_rfl) (by simp) ?_
        refine AllReadyH.cons (opsS (opsS (opsS (opsS (opsS (opsS (opsS (opsS (opsS (opsS (opsS (opsS ops0)))))))))))) (fun K hK => ?_) AllReadyH.nil
        refine step_append_row _ rfl _ _ 23 rfl w.heap.size 36 i0 _ 3 40 Try.underlying23 hi0 hz0 hz1 hz2 rfl (by decide) _ _ rfl (hrow2.drew.alloc _) R36.len _ ⟨k, x, y⟩ rfl (cells_new _ _ _) (by simp [R36.cells, Value.oneCell']) (by simp) (by unfold maxLen; omega) (by omega) (by simp; omega) ?_; intro v' w1 hrow' hgrow; have hbl := low_row hlow2.drew hrow2.drew (Nat.le_refl _) hsz hgrow
        try dsimp only
        refine hK.out _ _ ?_ (fun hHeldp2 => ?_)
        · (first | assumption | (go_split_ands; exact PQ.step (by assumption) (Below.alloc (Hid.out (by assumption : Hid (PQ _ _ _ _ _ _ _))).low (by simp; omega) _) ) | (go_split_ands; exact PQ.step (by assumption) (by assumption)))
        clear hK K hHeldp1
        try clear hb
        try simp only [Act.put, List.setIfInBounds_toArray, List.set_cons_zero, List.set_cons_succ]
        refine wpAnyH_take (i := 13) (v := ?vp13) (opsS (opsS (opsS (opsS (opsS (opsS (opsS (opsS (opsS (opsS (opsS (opsS (opsS ops0))))))))))))) (by kernel_rfl) (by kernel_rfl) (by kernel_rfl) (fun _ _ _ h => h) (Or.inl ⟨by rfl, ?yp13⟩) hHeldp2 ?_
        case yp13 => (intro w hSw; (try dsimp only at hSw); go_simp; try (with_reducible rfl))
        try simp only [Act.put, List.setIfInBounds_toArray, List.set_cons_zero, List.set_cons_succ]
        refine wpAnyH_done (by kernel_rfl) ?_ _
        clear hHeldp2 test
        go_wp2
        go_roundw
        case rel => exact ⟨k + 1, by omega, by omega, by go_num, by rw [hro.out]; exact hrow', hbl⟩
        case measure => simp [intOf]; omega
    · have hmin : min was.length now.length = k := by omega
      rw [hmin] at HM
      by_cases hw : k < was.length
      · have hn : ¬ k < now.length := by omega
        first
        | (exfalso; omega)
        | (go_wp2; go_ret; exact ⟨_, rfl, by rw [HM.out]; exact hrow, hlow⟩)
      · first
        | (exfalso; omega)
        | (go_wp2; go_ret; exact ⟨_, rfl, by rw [HM.out]; exact hrow, hlow⟩)
        | (have hn : ¬ k < now.length := by omega; go_wp2; go_ret; exact ⟨_, rfl, by rw [HM.out]; exact hrow, hlow⟩)
set_option maxHeartbeats 4000000 in
theorem plan_gt (w : World) (A B : Option Addr) (ca cb : Nat) (was now : List ByteArray) (hl : was.length ≤ 1000) (hl2 : now.length ≤ 1000) (hc : now.length < was.length) (h1 : Reads w w.heap.size 1 A was.length (was.flatMap tc)) (h2 : Reads w w.heap.size 1 B now.length (now.flatMap tc)) :
    Calls Try.prog 12 #[.slice A was.length ca, .slice B now.length cb] w fun e w' => ∃ v, e = .returned v ∧ Row w' w.heap.size 36 3 R36.cells v (planAll was now) ∧ Below w.heap.size w w' := by
  obtain ⟨i0, hi0, hz0, hz1, hz2⟩ := info_parts info36
  have H1 := Lib.hid h1
  have H2 := Lib.hid h2
  clear h1 h2
  have hrow0 : Row w w.heap.size 36 3 R36.cells (.slice none 0 0) (plan was now 0) := Row.nil _ _ _ _ _
  have HM := Lib.hid (show planAll was now = plan was now (min was.length now.length) from rfl)
  go_enter Try.func12, Try.ntmps12
  go_wp2_with fail
  go_loopw [5, 6, 12] (fun v _ iv wr => ∃ k : Nat, k ≤ was.length ∧ k ≤ now.length ∧ iv = .int .i64 k ∧ Row wr w.heap.size 36 3 R36.cells v (plan was now k) ∧ Below w.heap.size w wr) (fun _ _ iv _ => was.length - (intOf iv).toNat)
  case atStart => exact ⟨0, by omega, by omega, rfl, hrow0, Below.refl _ _⟩
  case round =>
    clear hrow0
    obtain ⟨k, hk, hk2, rfl, hrow, hlow⟩ := hrel
    have hsz := hlow.size
    have hlen := plan_len was now k
    by_cases hlt : k < was.length ∧ k < now.length
    · obtain ⟨hlt1, hlt2⟩ := hlt
      obtain ⟨a1, q1, hb1, c1⟩ := H1.out.elem1 hlt1
      obtain ⟨a2, q2, hb2, c2⟩ := H2.out.elem1 hlt2
      subst q1 q2
      have hpq : Hid (PQ w.heap.size w (a1.add k) (a2.add k) (.string was[k]) (.string now[k]) wr) := ⟨c1, c2, by rw [block_of_add]; exact hb1, by rw [block_of_add]; exact hb2, hlow⟩
      clear c1 c2
      obtain ⟨c1, c2, -⟩ := PQ.of hpq.out
      by_cases hx : was[k] = now[k]
      · have hro := Lib.hid (plan_same hlt1 hlt2 hx)
        rw [hx] at c1
        clear hx hpq
        generalize now[k] = y at *
        have hlowN : ∀ n, Below w.heap.size w (World.drewN _ n) := fun n => below_drewN hlow n
        have hrowN : ∀ n, Row (World.drewN _ n) w.heap.size 36 3 R36.cells _ _ := fun n => hrow.drewN n
        go_wp2_with fail
        go_quiet (fail)
        go_wp2
        go_roundw
        case rel => exact ⟨k + 1, by omega, by omega, by go_num, by rw [hro.out]; exact hrowN _, hlowN _⟩
        case measure => simp [intOf]; omega
      · have hro := Lib.hid (plan_other hlt1 hlt2 hx)
        have hx' := bytes_ne hx
        clear hx
        generalize was[k] = x at *
        generalize now[k] = y at *
        have hlowN : ∀ n, Below w.heap.size w (World.drewN _ n) := fun n => below_drewN hlow n
        have hrowN : ∀ n, Row (World.drewN _ n) w.heap.size 36 3 R36.cells _ _ := fun n => hrow.drewN n
        go_wp2_with fail
        go_quiet (fail)
        have hpq2 : Hid (PQ w.heap.size w (a1.add k) (a2.add k) (.string x) (.string y) (wr.drewN nq)) := ⟨hpq.c1, hpq.c2, hpq.hp, hpq.hq, hlowN nq⟩
        have hlow2 := hlowN nq
        have hrow2 := hrowN nq
        clear hlow hrow hpq c1 c2 hlowN hrowN hsz
        generalize wr.drewN nq = wz at *
        have hsz := hlow2.size
        have test := PQ.drew hpq2
        clear hpq2
        generalize plan was now k = L at *
        go_wp2_with fail
        refine wp_region_held_drew (S := (fun w' => w'.cell? (a1.add k) = some (.string x) ∧ w'.cell? (a2.add k) = some (.string y) ∧ Hid (PQ w.heap.size w (a1.add k) (a2.add k) (.string x) (.string y) w'))) (by kernel_rfl) ?_ (fun hHeldp0 => ?_)
        · exact test
        refine wpAnyH_take (i := 0) (v := ?vp0) ops0 (by kernel_rfl) (by kernel_rfl) (by kernel_rfl) (fun _ _ _ h => h) (Or.inl ⟨by rfl, ?yp0⟩) hHeldp0 ?_
        case yp0 => (intro w hSw; (try dsimp only at hSw); go_simp; try (with_reducible rfl))
        try simp only [Act.put, List.setIfInBounds_toArray, List.set_cons_zero, List.set_cons_succ]
        refine wpAnyH_take (i := 1) (v := ?vp1) (opsS ops0) (by kernel_rfl) (by kernel_rfl) (by kernel_rfl) (fun _ _ _ h => h) (Or.inl ⟨by rfl, ?yp1⟩) hHeldp0 ?_
        case yp1 => (intro w hSw; (try dsimp only at hSw); go_simp; try (with_reducible rfl))
        try simp only [Act.put, List.setIfInBounds_toArray, List.set_cons_zero, List.set_cons_succ]
        refine wpAnyH_take (i := 2) (v := ?vp2) (opsS (opsS ops0)) (by kernel_rfl) (by kernel_rfl) (by kernel_rfl) (fun _ _ _ h => h) (Or.inl ⟨by rfl, ?yp2⟩) hHeldp0 ?_
        case yp2 => (intro w hSw; (try dsimp only at hSw); go_simp; try (with_reducible rfl))
        try simp only [Act.put, List.setIfInBounds_toArray, List.set_cons_zero, List.set_cons_succ]
        refine wpAnyH_take (i := 3) (v := ?vp3) (opsS (opsS (opsS ops0))) (by kernel_rfl) (by kernel_rfl) (by kernel_rfl) (fun _ _ _ h => h) (Or.inl ⟨by rfl, ?yp3⟩) hHeldp0 ?_
        case yp3 => (intro w hSw; (try dsimp only at hSw); go_simp; try (with_reducible rfl))
        try simp only [Act.put, List.setIfInBounds_toArray, List.set_cons_zero, List.set_cons_succ]
        refine wpAnyH_take (i := 4) (v := ?vp4) (opsS (opsS (opsS (opsS ops0)))) (by kernel_rfl) (by kernel_rfl) (by kernel_rfl) (fun _ _ _ h => h) (Or.inl ⟨by rfl, ?yp4⟩) hHeldp0 ?_
        case yp4 => (intro w hSw; (try dsimp only at hSw); go_simp; try (with_reducible rfl))
        try simp only [Act.put, List.setIfInBounds_toArray, List.set_cons_zero, List.set_cons_succ]
        refine wpAnyH_take (i := 5) (v := ?vp5) (opsS (opsS (opsS (opsS (opsS ops0))))) (by kernel_rfl) (by kernel_rfl) (by kernel_rfl) (fun _ _ _ h => h) (Or.inl ⟨by rfl, ?yp5⟩) hHeldp0 ?_
        case yp5 => (intro w hSw; (try dsimp only at hSw); go_simp; try (with_reducible rfl))
        try simp only [Act.put, List.setIfInBounds_toArray, List.set_cons_zero, List.set_cons_succ]
        refine wpAnyH_take (i := 6) (v := ?vp6) (opsS (opsS (opsS (opsS (opsS (opsS ops0)))))) (by kernel_rfl) (by kernel_rfl) (by kernel_rfl) (fun _ _ _ h => h) (Or.inl ⟨by rfl, ?yp6⟩) hHeldp0 ?_
        case yp6 => (intro w hSw; (try dsimp only at hSw); go_simp; try (with_reducible rfl))
        try simp only [Act.put, List.setIfInBounds_toArray, List.set_cons_zero, List.set_cons_succ]
        refine wpAnyH_take (i := 7) (v := ?vp7) (opsS (opsS (opsS (opsS (opsS (opsS (opsS ops0))))))) (by kernel_rfl) (by kernel_rfl) (by kernel_rfl) (fun _ _ _ h => h) (Or.inl ⟨by rfl, ?yp7⟩) hHeldp0 ?_
        case yp7 => (intro w hSw; (try dsimp only at hSw); go_simp; try (with_reducible rfl))
        try simp only [Act.put, List.setIfInBounds_toArray, List.set_cons_zero, List.set_cons_succ]
        refine wpAnyH_take (i := 8) (v := ?vp8) (opsS (opsS (opsS (opsS (opsS (opsS (opsS (opsS ops0)))))))) (by kernel_rfl) (by kernel_rfl) (by kernel_rfl) (fun _ _ _ h => h) (Or.inl ⟨by rfl, ?yp8⟩) hHeldp0 ?_
        case yp8 => (intro w hSw; (try dsimp only at hSw); go_simp; try (with_reducible rfl))
        try simp only [Act.put, List.setIfInBounds_toArray, List.set_cons_zero, List.set_cons_succ]
        refine wpAnyH_take (i := 9) (v := ?vp9) (opsS (opsS (opsS (opsS (opsS (opsS (opsS (opsS (opsS ops0))))))))) (by kernel_rfl) (by kernel_rfl) (by kernel_rfl) (fun _ _ _ h => h) (Or.inl ⟨by rfl, ?yp9⟩) hHeldp0 ?_
        case yp9 => (intro w hSw; (try dsimp only at hSw); go_simp; try (with_reducible rfl))
        try simp only [Act.put, List.setIfInBounds_toArray, List.set_cons_zero, List.set_cons_succ]
        refine wpAnyH_take (i := 10) (v := ?vp10) (opsS (opsS (opsS (opsS (opsS (opsS (opsS (opsS (opsS (opsS ops0)))))))))) (by kernel_rfl) (by kernel_rfl) (by kernel_rfl) (fun _ _ _ h => h) (Or.inl ⟨by rfl, ?yp10⟩) hHeldp0 ?_
        case yp10 => (intro w hSw; (try dsimp only at hSw); go_simp; try (with_reducible rfl))
        try simp only [Act.put, List.setIfInBounds_toArray, List.set_cons_zero, List.set_cons_succ]
        refine wpAnyH_ready (rs := [11]) (by kernel_rfl) (by simp) ?_
        refine AllReadyH.cons (opsS (opsS (opsS (opsS (opsS (opsS (opsS (opsS (opsS (opsS (opsS ops0))))))))))) (fun K hK => ?_) AllReadyH.nil
        go_simp
        skip
        try dsimp only
        refine hK.out _ _ ?_ (fun hHeldp1 => ?_)
        · (first | assumption | (go_split_ands; exact PQ.step (by assumption) (Below.alloc (Hid.out (by assumption : Hid (PQ _ _ _ _ _ _ _))).low (by simp; omega) _) ) | (go_split_ands; exact PQ.step (by assumption) (by assumption)))
        clear hK K hHeldp0
        try clear hb
        try simp only [Act.put, List.setIfInBounds_toArray, List.set_cons_zero, List.set_cons_succ]
        refine wpAnyH_ready (rs := [12]) (by kernel_rfl) (by simp) ?_
        refine AllReadyH.cons (opsS (opsS (opsS (opsS (opsS (opsS (opsS (opsS (opsS (opsS (opsS (opsS ops0)))))))))))) (fun K hK => ?_) AllReadyH.nil
        refine step_append_row _ rfl _ _ 23 rfl w.heap.size 36 i0 _ 3 40 Try.underlying23 hi0 hz0 hz1 hz2 rfl (by decide) _ _ rfl (hrow2.drew.alloc _) R36.len _ ⟨k, x, y⟩ rfl (cells_new _ _ _) (by simp [R36.cells, Value.oneCell']) (by simp) (by unfold maxLen; omega) (by omega) (by simp; omega) ?_; intro v' w1 hrow' hgrow; have hbl := low_row hlow2.drew hrow2.drew (Nat.le_refl _) hsz hgrow
        try dsimp only
        refine hK.out _ _ ?_ (fun hHeldp2 => ?_)
        · (first | assumption | (go_split_ands; exact PQ.step (by assumption) (Below.alloc (Hid.out (by assumption : Hid (PQ _ _ _ _ _ _ _))).low (by simp; omega) _) ) | (go_split_ands; exact PQ.step (by assumption) (by assumption)))
        clear hK K hHeldp1
        try clear hb
        try simp only [Act.put, List.setIfInBounds_toArray, List.set_cons_zero, List.set_cons_succ]
        refine wpAnyH_take (i := 13) (v := ?vp13) (opsS (opsS (opsS (opsS (opsS (opsS (opsS (opsS (opsS (opsS (opsS (opsS (opsS ops0))))))))))))) (by kernel_rfl) (by kernel_rfl) (by kernel_rfl) (fun _ _ _ h => h) (Or.inl ⟨by rfl, ?yp13⟩) hHeldp2 ?_
        case yp13 => (intro w hSw; (try dsimp only at hSw); go_simp; try (with_reducible rfl))
        try simp only [Act.put, List.setIfInBounds_toArray, List.set_cons_zero, List.set_cons_succ]
        refine wpAnyH_done (by kernel_rfl) ?_ _
        clear hHeldp2 test
        go_wp2
        go_roundw
        case rel => exact ⟨k + 1, by omega, by omega, by go_num, by rw [hro.out]; exact hrow', hbl⟩
        case measure => simp [intOf]; omega
    · have hmin : min was.length now.length = k := by omega
      rw [hmin] at HM
      by_cases hw : k < was.length
      · have hn : ¬ k < now.length := by omega
        first
        | (exfalso; omega)
        | (go_wp2; go_ret; exact ⟨_, rfl, by rw [HM.out]; exact hrow, hlow⟩)
      · first
        | (exfalso; omega)
        | (go_wp2; go_ret; exact ⟨_, rfl, by rw [HM.out]; exact hrow, hlow⟩)
        | (have hn : ¬ k < now.length := by omega; go_wp2; go_ret; exact ⟨_, rfl, by rw [HM.out]; exact hrow, hlow⟩)
set_option maxHeartbeats 4000000 in
theorem plan_any (w : World) (A B : Option Addr) (ca cb : Nat) (was now : List ByteArray) (hl : was.length ≤ 1000) (hl2 : now.length ≤ 1000) (h1 : Reads w w.heap.size 1 A was.length (was.flatMap tc)) (h2 : Reads w w.heap.size 1 B now.length (now.flatMap tc)) :
    Calls Try.prog 12 #[.slice A was.length ca, .slice B now.length cb] w fun e w' => ∃ v, e = .returned v ∧ Row w' w.heap.size 36 3 R36.cells v (planAll was now) ∧ Below w.heap.size w w' := by
  rcases Nat.lt_trichotomy was.length now.length with hc | hc | hc
  · exact plan_lt w A B ca cb was now hl hl2 hc h1 h2
  · exact plan_eq w A B ca cb was now hl hl2 (by omega) (by omega) h1 h2
  · exact plan_gt w A B ca cb was now hl hl2 hc h1 h2
set_option maxHeartbeats 4000000 in
theorem rplan_any (w : World) (A B : Option Addr) (ca cb : Nat) (was now : List ByteArray) (hl : was.length ≤ 1000) (hl2 : now.length ≤ 1000) (h1 : Reads w w.heap.size 1 A was.length (was.flatMap tc)) (h2 : Reads w w.heap.size 1 B now.length (now.flatMap tc)) :
    Calls Try.prog 13 #[.slice A was.length ca, .slice B now.length cb] w fun e w' => ∃ v, e = .returned v ∧ Row w' w.heap.size 36 3 R36.cells v (planAll was now) ∧ Below w.heap.size w w' := by
  obtain ⟨i0, hi0, hz0, hz1, hz2⟩ := info_parts info36
  have H1 := Lib.hid h1
  have H2 := Lib.hid h2
  clear h1 h2
  have hrow0 : Row w w.heap.size 36 3 R36.cells (.slice none 0 0) (plan was now 0) := Row.nil _ _ _ _ _
  have HM := Lib.hid (show planAll was now = plan was now (min was.length now.length) from rfl)
  go_enter Try.func13, Try.ntmps13
  go_wp2_with fail
  go_loopw [5, 6] (fun v iv wr => ∃ k : Nat, k ≤ was.length ∧ k ≤ now.length ∧ iv = .int .i64 k ∧ Row wr w.heap.size 36 3 R36.cells v (plan was now k) ∧ Below w.heap.size w wr) (fun _ iv _ => was.length - (intOf iv).toNat)
  case atStart => exact ⟨0, by omega, by omega, rfl, hrow0, Below.refl _ _⟩
  case round =>
    clear hrow0
    obtain ⟨k, hk, hk2, rfl, hrow, hlow⟩ := hrel
    have hsz := hlow.size
    have hlen := plan_len was now k
    by_cases hlt : k < was.length ∧ k < now.length
    · obtain ⟨hlt1, hlt2⟩ := hlt
      obtain ⟨a1, q1, hb1, c1⟩ := H1.out.elem1 hlt1
      obtain ⟨a2, q2, hb2, c2⟩ := H2.out.elem1 hlt2
      subst q1 q2
      have hpq : Hid (PQ w.heap.size w (a1.add k) (a2.add k) (.string was[k]) (.string now[k]) wr) := ⟨c1, c2, by rw [block_of_add]; exact hb1, by rw [block_of_add]; exact hb2, hlow⟩
      clear c1 c2
      obtain ⟨c1, c2, -⟩ := PQ.of hpq.out
      by_cases hx : was[k] = now[k]
      · have hro := Lib.hid (plan_same hlt1 hlt2 hx)
        rw [hx] at c1
        clear hx hpq
        generalize now[k] = y at *
        have hlowN : ∀ n, Below w.heap.size w (World.drewN _ n) := fun n => below_drewN hlow n
        have hrowN : ∀ n, Row (World.drewN _ n) w.heap.size 36 3 R36.cells _ _ := fun n => hrow.drewN n
        go_wp2_with fail
        go_quiet (fail)
        go_wp2
        go_roundw
        case rel => exact ⟨k + 1, by omega, by omega, by go_num, by rw [hro.out]; exact hrowN _, hlowN _⟩
        case measure => simp [intOf]; omega
      · have hro := Lib.hid (plan_other hlt1 hlt2 hx)
        have hx' := bytes_ne hx
        clear hx
        generalize was[k] = x at *
        generalize now[k] = y at *
        have hlowN : ∀ n, Below w.heap.size w (World.drewN _ n) := fun n => below_drewN hlow n
        have hrowN : ∀ n, Row (World.drewN _ n) w.heap.size 36 3 R36.cells _ _ := fun n => hrow.drewN n
        go_wp2_with fail
        go_quiet (fail)
        have hpq2 : Hid (PQ w.heap.size w (a1.add k) (a2.add k) (.string x) (.string y) (wr.drewN nq)) := ⟨hpq.c1, hpq.c2, hpq.hp, hpq.hq, hlowN nq⟩
        have hlow2 := hlowN nq
        have hrow2 := hrowN nq
        clear hlow hrow hpq c1 c2 hlowN hrowN hsz
        generalize wr.drewN nq = wz at *
        have hsz := hlow2.size
        have test := PQ.drew hpq2
        clear hpq2
        generalize plan was now k = L at *
        go_wp2_with fail
        refine wp_region_held_drew (S := (fun w' => w'.cell? (a1.add k) = some (.string x) ∧ w'.cell? (a2.add k) = some (.string y) ∧ Hid (PQ w.heap.size w (a1.add k) (a2.add k) (.string x) (.string y) w'))) (by kernel_rfl) ?_ (fun hHeldp0 => ?_)
        · exact test
        refine wpAnyH_take (i := 0) (v := ?vp0) ops0 (by kernel_rfl) (by kernel_rfl) (by kernel_rfl) (fun _ _ _ h => h) (Or.inl ⟨by rfl, ?yp0⟩) hHeldp0 ?_
        case yp0 => (intro w hSw; (try dsimp only at hSw); go_simp; try (with_reducible rfl))
        try simp only [Act.put, List.setIfInBounds_toArray, List.set_cons_zero, List.set_cons_succ]
        refine wpAnyH_take (i := 1) (v := ?vp1) (opsS ops0) (by kernel_rfl) (by kernel_rfl) (by kernel_rfl) (fun _ _ _ h => h) (Or.inl ⟨by rfl, ?yp1⟩) hHeldp0 ?_
        case yp1 => (intro w hSw; (try dsimp only at hSw); go_simp; try (with_reducible rfl))
        try simp only [Act.put, List.setIfInBounds_toArray, List.set_cons_zero, List.set_cons_succ]
        refine wpAnyH_take (i := 2) (v := ?vp2) (opsS (opsS ops0)) (by kernel_rfl) (by kernel_rfl) (by kernel_rfl) (fun _ _ _ h => h) (Or.inl ⟨by rfl, ?yp2⟩) hHeldp0 ?_
        case yp2 => (intro w hSw; (try dsimp only at hSw); go_simp; try (with_reducible rfl))
        try simp only [Act.put, List.setIfInBounds_toArray, List.set_cons_zero, List.set_cons_succ]
        refine wpAnyH_take (i := 3) (v := ?vp3) (opsS (opsS (opsS ops0))) (by kernel_rfl) (by kernel_rfl) (by kernel_rfl) (fun _ _ _ h => h) (Or.inl ⟨by rfl, ?yp3⟩) hHeldp0 ?_
        case yp3 => (intro w hSw; (try dsimp only at hSw); go_simp; try (with_reducible rfl))
        try simp only [Act.put, List.setIfInBounds_toArray, List.set_cons_zero, List.set_cons_succ]
        refine wpAnyH_take (i := 4) (v := ?vp4) (opsS (opsS (opsS (opsS ops0)))) (by kernel_rfl) (by kernel_rfl) (by kernel_rfl) (fun _ _ _ h => h) (Or.inl ⟨by rfl, ?yp4⟩) hHeldp0 ?_
        case yp4 => (intro w hSw; (try dsimp only at hSw); go_simp; try (with_reducible rfl))
        try simp only [Act.put, List.setIfInBounds_toArray, List.set_cons_zero, List.set_cons_succ]
        refine wpAnyH_take (i := 5) (v := ?vp5) (opsS (opsS (opsS (opsS (opsS ops0))))) (by kernel_rfl) (by kernel_rfl) (by kernel_rfl) (fun _ _ _ h => h) (Or.inl ⟨by rfl, ?yp5⟩) hHeldp0 ?_
        case yp5 => (intro w hSw; (try dsimp only at hSw); go_simp; try (with_reducible rfl))
        try simp only [Act.put, List.setIfInBounds_toArray, List.set_cons_zero, List.set_cons_succ]
        refine wpAnyH_take (i := 6) (v := ?vp6) (opsS (opsS (opsS (opsS (opsS (opsS ops0)))))) (by kernel_rfl) (by kernel_rfl) (by kernel_rfl) (fun _ _ _ h => h) (Or.inl ⟨by rfl, ?yp6⟩) hHeldp0 ?_
        case yp6 => (intro w hSw; (try dsimp only at hSw); go_simp; try (with_reducible rfl))
        try simp only [Act.put, List.setIfInBounds_toArray, List.set_cons_zero, List.set_cons_succ]
        refine wpAnyH_take (i := 7) (v := ?vp7) (opsS (opsS (opsS (opsS (opsS (opsS (opsS ops0))))))) (by kernel_rfl) (by kernel_rfl) (by kernel_rfl) (fun _ _ _ h => h) (Or.inl ⟨by rfl, ?yp7⟩) hHeldp0 ?_
        case yp7 => (intro w hSw; (try dsimp only at hSw); go_simp; try (with_reducible rfl))
        try simp only [Act.put, List.setIfInBounds_toArray, List.set_cons_zero, List.set_cons_succ]
        refine wpAnyH_take (i := 8) (v := ?vp8) (opsS (opsS (opsS (opsS (opsS (opsS (opsS (opsS ops0)))))))) (by kernel_rfl) (by kernel_rfl) (by kernel_rfl) (fun _ _ _ h => h) (Or.inl ⟨by rfl, ?yp8⟩) hHeldp0 ?_
        case yp8 => (intro w hSw; (try dsimp only at hSw); go_simp; try (with_reducible rfl))
        try simp only [Act.put, List.setIfInBounds_toArray, List.set_cons_zero, List.set_cons_succ]
        refine wpAnyH_take (i := 9) (v := ?vp9) (opsS (opsS (opsS (opsS (opsS (opsS (opsS (opsS (opsS ops0))))))))) (by kernel_rfl) (by kernel_rfl) (by kernel_rfl) (fun _ _ _ h => h) (Or.inl ⟨by rfl, ?yp9⟩) hHeldp0 ?_
        case yp9 => (intro w hSw; (try dsimp only at hSw); go_simp; try (with_reducible rfl))
        try simp only [Act.put, List.setIfInBounds_toArray, List.set_cons_zero, List.set_cons_succ]
        refine wpAnyH_take (i := 10) (v := ?vp10) (opsS (opsS (opsS (opsS (opsS (opsS (opsS (opsS (opsS (opsS ops0)))))))))) (by kernel_rfl) (by kernel_rfl) (by kernel_rfl) (fun _ _ _ h => h) (Or.inl ⟨by rfl, ?yp10⟩) hHeldp0 ?_
        case yp10 => (intro w hSw; (try dsimp only at hSw); go_simp; try (with_reducible rfl))
        try simp only [Act.put, List.setIfInBounds_toArray, List.set_cons_zero, List.set_cons_succ]
        refine wpAnyH_ready (rs := [11]) (by kernel_rfl) (by simp) ?_
        refine AllReadyH.cons (opsS (opsS (opsS (opsS (opsS (opsS (opsS (opsS (opsS (opsS (opsS ops0))))))))))) (fun K hK => ?_) AllReadyH.nil
        go_simp
        skip
        try dsimp only
        refine hK.out _ _ ?_ (fun hHeldp1 => ?_)
        · (first | assumption | (go_split_ands; exact PQ.step (by assumption) (Below.alloc (Hid.out (by assumption : Hid (PQ _ _ _ _ _ _ _))).low (by simp; omega) _) ) | (go_split_ands; exact PQ.step (by assumption) (by assumption)))
        clear hK K hHeldp0
        try clear hb
        try simp only [Act.put, List.setIfInBounds_toArray, List.set_cons_zero, List.set_cons_succ]
        refine wpAnyH_ready (rs := [12]) (by kernel_rfl) (by simp) ?_
        refine AllReadyH.cons (opsS (opsS (opsS (opsS (opsS (opsS (opsS (opsS (opsS (opsS (opsS (opsS ops0)))))))))))) (fun K hK => ?_) AllReadyH.nil
        refine step_append_row _ rfl _ _ 23 rfl w.heap.size 36 i0 _ 3 40 Try.underlying23 hi0 hz0 hz1 hz2 rfl (by decide) _ _ rfl (hrow2.drew.alloc _) R36.len _ ⟨k, x, y⟩ rfl (cells_new _ _ _) (by simp [R36.cells, Value.oneCell']) (by simp) (by unfold maxLen; omega) (by omega) (by simp; omega) ?_; intro v' w1 hrow' hgrow; have hbl := low_row hlow2.drew hrow2.drew (Nat.le_refl _) hsz hgrow
        try dsimp only
        refine hK.out _ _ ?_ (fun hHeldp2 => ?_)
        · (first | assumption | (go_split_ands; exact PQ.step (by assumption) (Below.alloc (Hid.out (by assumption : Hid (PQ _ _ _ _ _ _ _))).low (by simp; omega) _) ) | (go_split_ands; exact PQ.step (by assumption) (by assumption)))
        clear hK K hHeldp1
        try clear hb
        try simp only [Act.put, List.setIfInBounds_toArray, List.set_cons_zero, List.set_cons_succ]
        refine wpAnyH_take (i := 13) (v := ?vp13) (opsS (opsS (opsS (opsS (opsS (opsS (opsS (opsS (opsS (opsS (opsS (opsS (opsS ops0))))))))))))) (by kernel_rfl) (by kernel_rfl) (by kernel_rfl) (fun _ _ _ h => h) (Or.inl ⟨by rfl, ?yp13⟩) hHeldp2 ?_
        case yp13 => (intro w hSw; (try dsimp only at hSw); go_simp; try (with_reducible rfl))
        try simp only [Act.put, List.setIfInBounds_toArray, List.set_cons_zero, List.set_cons_succ]
        refine wpAnyH_done (by kernel_rfl) ?_ _
        clear hHeldp2 test
        go_wp2
        go_roundw
        case rel => exact ⟨k + 1, by omega, by omega, by go_num, by rw [hro.out]; exact hrow', hbl⟩
        case measure => simp [intOf]; omega
    · have hmin : min was.length now.length = k := by omega
      rw [hmin] at HM
      by_cases hw : k < was.length
      · have hn : ¬ k < now.length := by omega
        go_wp2
        go_ret
        exact ⟨_, rfl, by rw [HM.out]; exact hrow, hlow⟩
      · go_wp2
        go_ret
        exact ⟨_, rfl, by rw [HM.out]; exact hrow, hlow⟩
theorem elem36 {w : World} {B : Nat} {A : Option Addr} {rs : List R36} (h : Reads w B 3 A rs.length (rs.flatMap R36.cells)) {i : Nat} (hi : i < rs.length) :
    ∃ ad, A = some ad ∧ ad.block < B ∧ w.cell? (ad.add (i * 3)) = some (.int .i64 rs[i].part) ∧ w.cell? ⟨(ad.add (i * 3)).block, (ad.add (i * 3)).off + 1, none⟩ = some (.string rs[i].from_) ∧ w.cell? ⟨(ad.add (i * 3)).block, (ad.add (i * 3)).off + 2, none⟩ = some (.string rs[i].to_) := by
  obtain ⟨ad, e, hb, hc⟩ := h.elem R36.len hi
  have x1 : ∀ j, (⟨(ad.add (i * 3)).block, (ad.add (i * 3)).off + (j + 1), none⟩ : Addr) = ad.add (i * 3 + (j + 1)) := fun j => by rw [← add_of_add]; rfl
  refine ⟨ad, e, hb, by simpa using hc 0 _ rfl, ?_, ?_⟩
  · rw [x1]; exact hc 1 _ rfl
  · rw [x1]; exact hc 2 _ rfl
set_option maxHeartbeats 2000000 in
theorem same_same (w : World) (A B : Option Addr) (ca cb : Nat) (xs : List R36) (hl : xs.length ≤ 1099511627776) (h1 : Reads w w.heap.size 3 A xs.length (xs.flatMap R36.cells)) (h2 : Reads w w.heap.size 3 B xs.length (xs.flatMap R36.cells)) :
    Calls Try.prog 11 #[.slice A xs.length ca, .slice B xs.length cb] w fun e w' => e = .returned (.bool true) ∧ Below w.heap.size w w' := by
  have H1 := Lib.hid h1
  have H2 := Lib.hid h2
  clear h1 h2
  go_enter Try.func11, Try.ntmps11
  go_wp2_with fail
  go_loopw [5] (fun iv w' => ∃ k : Nat, k ≤ xs.length ∧ iv = .int .i64 k ∧ Hid (Below w.heap.size w w')) (fun iv _ => xs.length - (intOf iv).toNat)
  case atStart => exact ⟨0, by omega, rfl, Below.refl _ _⟩
  case round =>
    obtain ⟨k, hk, rfl, hb⟩ := hrel
    by_cases hlt : k < xs.length
    · obtain ⟨a1, q1, -, c1, d1, e1⟩ := elem36 (H1.out.below hb.out) hlt
      obtain ⟨a2, q2, -, c2, d2, e2⟩ := elem36 (H2.out.below hb.out) hlt
      subst q1 q2
      generalize xs[k].part = x at *
      generalize xs[k].from_ = y at *
      generalize xs[k].to_ = z at *
      go_wp2_with fail
      go_quiet (fail)
      have hb2 : ∀ n, Hid (Below w.heap.size w (World.drewN _ n)) := fun n => below_drewN hb.out n
      go_wp2
      go_roundw
      case rel => exact ⟨k + 1, by omega, by go_num, hb2 _⟩
      case measure => simp [intOf]; omega
    · go_wp2
      go_ret
      exact ⟨rfl, hb.out⟩
set_option maxHeartbeats 2000000 in
theorem few20_any (w : World) (A : Option Addr) (cap : Nat) (rs : List R36) (hm : rs.length ≤ maxLen) (hR : Reads w w.heap.size 3 A rs.length (rs.flatMap R36.cells)) (hs : ∀ r ∈ rs, r.ok w) :
    Calls Try.prog 7 #[.slice A rs.length cap] w (SomeB (fun b => b = true → rs.length ≤ 20) w) := by
  have H1 := Lib.hid hR
  have HS := Lib.hid hs
  clear hR hs
  unfold maxLen at hm
  go_enter Try.func7, Try.ntmps7
  go_wp2_with fail
  go_loopw [3] (fun iv w' => ∃ k : Nat, k ≤ rs.length ∧ iv = .int .i64 k ∧ w' = w ∧ k ≤ 20) (fun iv _ => rs.length - (intOf iv).toNat)
  case atStart => exact ⟨0, by omega, rfl, rfl, by omega⟩
  case round =>
    obtain ⟨k, hk, rfl, rfl, hk4⟩ := hrel
    by_cases hlt : k < rs.length
    · by_cases h40 : k < 20
      · obtain ⟨ad, rfl, had, c0, c1, c2⟩ := elem36 H1.out hlt
        obtain ⟨m1, m2⟩ : rs[k].from_.size ≤ 9223372036854775807 ∧ rs[k].to_.size ≤ 9223372036854775807 := by have := HS.out rs[k] (List.getElem_mem hlt); unfold R36.ok maxLen at this; omega
        generalize rs[k].from_ = s1 at *
        generalize rs[k].to_ = s2 at *
        by_cases b1 : s1.size ≤ 100
        · have d1 : decide ((100 : Int) < s1.size) = false := by simp; omega
          by_cases b2 : s2.size ≤ 100
          · have d2 : decide ((100 : Int) < s2.size) = false := by simp; omega
            go_wp2
            go_roundw
            case rel => exact ⟨k + 1, by omega, by go_num, by trivial, by omega⟩
            case measure => simp [intOf]; omega
          · have d2 : decide ((100 : Int) < s2.size) = true := by simp; omega
            go_wp2
            go_ret
            exact ⟨false, rfl, rfl, fun h => by cases h⟩
        · have d1 : decide ((100 : Int) < s1.size) = true := by simp; omega
          go_wp2
          go_ret
          exact ⟨false, rfl, rfl, fun h => by cases h⟩
      · go_wp2
        go_ret
        exact ⟨_, rfl, rfl, fun h => by simp at h; omega⟩
    · go_wp2
      go_ret
      exact ⟨_, rfl, rfl, fun _ => by omega⟩
set_option maxHeartbeats 2000000 in
/-- Of lists that are as long as one another. -/
theorem moved_any (w : World) (A B : Option Addr) (ca cb n : Nat) (was now : List ByteArray) (hl : n ≤ 1000) (hw : was.length = n) (hn : now.length = n) (h1 : Reads w w.heap.size 1 A was.length (was.flatMap tc)) (h2 : Reads w w.heap.size 1 B now.length (now.flatMap tc)) :
    Calls Try.prog 19 #[.slice A n ca, .slice B n cb] w fun e w' => e = .returned (.int .i64 (planAll was now).length) ∧ Below w.heap.size w w' := by
  have H1 := Lib.hid h1
  have H2 := Lib.hid h2
  have HM := Lib.hid (show planAll was now = plan was now n by unfold planAll; rw [hw, hn, Nat.min_self])
  have HW := Lib.hid hw
  have HN := Lib.hid hn
  clear h1 h2 hw hn
  have hz : Hid ((plan was now 0).length = 0) := rfl
  go_enter Try.func19, Try.ntmps19
  go_wp2_with fail
  go_loopw [5, 6] (fun v iv wr => ∃ k : Nat, k ≤ n ∧ iv = .int .i64 k ∧ v = .int .i64 ((plan was now k).length : Int) ∧ Below w.heap.size w wr) (fun _ iv _ => n - (intOf iv).toNat)
  case atStart => exact ⟨0, by omega, rfl, rfl, Below.refl _ _⟩
  case round =>
    obtain ⟨k, hk, rfl, rfl, hlow⟩ := hrel
    have hlen := plan_len was now k
    by_cases hlt : k < n
    · have hlt1 : k < was.length := by have := HW.out; omega
      have hlt2 : k < now.length := by have := HN.out; omega
      obtain ⟨a1, q1, hb1, c1⟩ := (H1.out.below hlow).elem1 hlt1
      obtain ⟨a2, q2, hb2, c2⟩ := (H2.out.below hlow).elem1 hlt2
      subst q1 q2
      have hlowN : ∀ n, Below w.heap.size w (World.drewN _ n) := fun n => below_drewN hlow n
      by_cases hx : was[k] = now[k]
      · have hro := Lib.hid (plan_same hlt1 hlt2 hx)
        rw [hx] at c1
        clear hx
        generalize now[k] = y at *
        generalize plan was now k = L at *
        go_wp2_with fail
        go_quiet (fail)
        go_wp2
        go_roundw
        case rel => exact ⟨k + 1, by omega, by go_num, by rw [hro.out], hlowN _⟩
        case measure => simp [intOf]; omega
      · have hro := Lib.hid (plan_other hlt1 hlt2 hx)
        have hx' := bytes_ne hx
        clear hx
        generalize was[k] = x at *
        generalize now[k] = y at *
        generalize plan was now k = L at *
        go_wp2_with fail
        go_quiet (fail)
        go_wp2
        go_roundw
        case rel => exact ⟨k + 1, by omega, by go_num, by rw [hro.out, List.length_append]; go_num, hlowN _⟩
        case measure => simp [intOf]; omega
    · have hkn : k = n := by omega
      subst hkn
      go_wp2
      go_ret
      exact ⟨ret_int (by rw [HM.out]), hlow⟩
end Go.Proofs.Ytagebkahbehmfaa.move
