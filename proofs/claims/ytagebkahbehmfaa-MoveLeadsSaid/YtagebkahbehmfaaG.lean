/- The walk of MoveLeads. -/
import Derived.Test.YtagebkahbehmfaaF
namespace Go.Proofs.Ytagebkahbehmfaa.move
open Go.ChangeShapes Go.WideShapes Go.ChangeAt Go.RowKit Go.Proofs.Aid Go.Proofs.Ytagebkahbehmfaa.texts
set_option maxHeartbeats 2000000 in
/-- Of lists that are as long as one another. -/
theorem moved2_any (w : World) (A B : Option Addr) (ca cb : Nat) (was now : List ByteArray) (hl : was.length ≤ 1000) (hle : was.length = now.length) (h1 : Reads w w.heap.size 1 A was.length (was.flatMap tc)) (h2 : Reads w w.heap.size 1 B now.length (now.flatMap tc)) :
    Calls Try.prog 19 #[.slice A was.length ca, .slice B now.length cb] w fun e w' => e = .returned (.int .i64 (planAll was now).length) ∧ Below w.heap.size w w' := by
  obtain ⟨n, hn⟩ : ∃ n, n = was.length := ⟨_, rfl⟩
  have e1 : was.length = n := hn.symm
  have e2 : now.length = n := by omega
  have h := moved_any w A B ca cb n was now (by omega) e1 e2 h1 h2
  have h3 : (#[.slice A was.length ca, .slice B now.length cb] : Array Value) = #[.slice A n ca, .slice B n cb] := by rw [e1, e2]
  rw [h3]; exact h
theorem drop_step (P : List R36) {i : Nat} (h : i < P.length) : (P.drop i).reverse = (P.drop (i + 1)).reverse ++ [P[i]] := by
  rw [← List.getElem_cons_drop h, List.reverse_cons]
set_option maxRecDepth 100000 in
set_option maxHeartbeats 8000000 in
theorem leads_walk (W : World) (A B : Option Addr) (ca cb : Nat) (was now : List ByteArray) (h1 : Reads W W.heap.size 1 A was.length (was.flatMap tc)) (h2 : Reads W W.heap.size 1 B now.length (now.flatMap tc))
    (hs1 : ∀ s ∈ was, s.size ≤ maxLen) (hs2 : ∀ s ∈ now, s.size ≤ maxLen) (hl1 : was.length ≤ maxLen) (hl2 : now.length ≤ maxLen) :
    Calls Try.prog 4 #[.slice A was.length ca, .slice B now.length cb] W fun e w' => e = .returned (.bool true) ∧ Below W.heap.size W w' := by
  obtain ⟨i0, hi0, hz0, hz1, hz2⟩ := info_parts info36
  have H1 := Lib.hid h1
  have H2 := Lib.hid h2
  have S1 := Lib.hid hs1
  have S2 := Lib.hid hs2
  have L1 := Lib.hid hl1
  have L2 := Lib.hid hl2
  have HL := Lib.hid (Below.refl W.heap.size W)
  clear h1 h2 hs1 hs2 hl1 hl2
  go_enter Try.func4, Try.ntmps4
  go_wp2_with fail
  refine (few19_any _ A ca was L1.out H1.out S1.out).mono ?_
  rintro e w1 ⟨b, rfl, rfl, hb⟩
  cases b
  · clear hb
    go_wp2_with fail
    refine (awake_any _).mono ?_
    rintro e w2 ⟨rfl, hlow⟩
    go_wp2
    go_ret
    exact ⟨rfl, hlow⟩
  · have h40 := hb rfl
    clear hb
    by_cases hle : was.length = now.length
    · have hne : ((was.length : Int) != now.length) = false := by simp [hle]
      have HE := Lib.hid hle
      clear hle
      go_wp2_with fail
      refine (few19_any _ B cb now L2.out H2.out S2.out).mono ?_
      rintro e w1 ⟨b, rfl, rfl, hb⟩
      cases b
      · clear hb
        go_wp2_with fail
        refine (awake_any _).mono ?_
        rintro e w2 ⟨rfl, hlow⟩
        go_wp2
        go_ret
        exact ⟨rfl, hlow⟩
      · have h41 := hb rfl
        clear hb hne
        have hpl := planAll_len was now
        have HA1 := Lib.hid (leads1 HE.out)
        have HA2 := Lib.hid (leads2 HE.out)
        have HA3 := Lib.hid (leads3 HE.out)
        go_wp2_with fail
        refine (plan_any _ A B ca cb was now (by omega) (by omega) H1.out H2.out).mono ?_
        rintro e w2 ⟨v2, rfl, hrow, hb⟩
        generalize hpe : planAll was now = P at *
        have HPE := Lib.hid hpe
        clear hpe
        obtain ⟨A2, c2, rfl, hr⟩ := hrow.reads
        have HP := Lib.hid hr
        clear hr hrow
        replace H1 := Lib.hid ((Hid.out H1).more_below hb)
        replace H2 := Lib.hid ((Hid.out H2).more_below hb)
        replace HL := Lib.hid ((Hid.out HL).trans (hb.mono (Hid.out HL).size))
        clear hb
        have hb0 : Row w2 w2.heap.size 36 3 R36.cells (.slice none 0 0) (P.drop P.length).reverse := by rw [List.drop_length]; exact Row.nil _ _ _ _ _
        have ht0 : Row w2 w2.heap.size 36 3 R36.cells (.slice none 0 0) ((P.drop P.length).reverse.map turn) := by rw [List.drop_length]; exact Row.nil _ _ _ _ _
        have hlw0 := Below.refl w2.heap.size w2
        go_wp2_with fail
        go_loopw [6, 7, 8] (fun bv tv iv wr => ∃ (j : Nat) (x : Int), j ≤ P.length ∧ iv = .int .i64 x ∧ x = (j : Int) - 1 ∧ Row wr w2.heap.size 36 3 R36.cells bv (P.drop j).reverse ∧ Row wr w2.heap.size 36 3 R36.cells tv ((P.drop j).reverse.map turn) ∧ Below w2.heap.size w2 wr ∧ ∀ g, bv.ownBlock = some g → tv.ownBlock ≠ some g) (fun _ _ iv _ => (intOf iv + 1).toNat)
        case atStart => exact ⟨P.length, _, by omega, rfl, rfl, hb0, ht0, hlw0, fun g h => by cases h⟩
        case round =>
          clear hb0 ht0 hlw0
          obtain ⟨j, x, hj, rfl, hx, hrb, hrt, hlow, hne⟩ := hrel
          have hsz := hlow.size
          cases j with
          | zero =>
            have : x = -1 := by omega
            subst this
            clear hx hj
            rw [List.drop_zero] at hrb hrt
            have hb := hlow
            obtain ⟨A6, c6, rfl, hr6⟩ := hrb.reads
            obtain ⟨A7, c7, rfl, hr7⟩ := hrt.reads
            have hrl : P.reverse.length ≤ 40 := by rw [List.length_reverse]; omega
            have htl : (P.reverse.map turn).length ≤ 40 := by rw [List.length_map]; exact hrl
            have H6 := Lib.hid hr6
            have H7 := Lib.hid hr7
            clear hr6 hr7 hrb hrt hlow hne hsz
            replace H1 := Lib.hid ((Hid.out H1).more_below hb)
            replace H2 := Lib.hid ((Hid.out H2).more_below hb)
            replace HP := Lib.hid ((Hid.out HP).more_below hb)
            replace HL := Lib.hid ((Hid.out HL).trans (hb.mono (Hid.out HL).size))
            clear hb
            generalize P.reverse.map turn = T at *
            generalize P.reverse = R at *
            go_wp2_with fail
            refine (apply_any _ A A2 ca c2 was P (by omega) (by omega) H1.out HP.out).mono ?_
            rw [HA1.out]
            rintro e w3 h
            obtain ⟨A8, c8, rfl, hr, hb⟩ := AppPost.yes h
            have H8 := Lib.hid hr
            clear h hr
            replace H1 := Lib.hid ((Hid.out H1).more_below hb)
            replace H2 := Lib.hid ((Hid.out H2).more_below hb)
            replace H6 := Lib.hid ((Hid.out H6).more_below hb)
            replace H7 := Lib.hid ((Hid.out H7).more_below hb)
            replace HL := Lib.hid ((Hid.out HL).trans (hb.mono (Hid.out HL).size))
            clear hb
            go_wp2_with fail
            refine (apply_any _ A A6 ca c6 was R (by omega) (by omega) H1.out H6.out).mono ?_
            rw [HA2.out]
            rintro e w4 h
            obtain ⟨A9, c9, rfl, hr, hb⟩ := AppPost.yes h
            have H9 := Lib.hid hr
            clear h hr
            replace H1 := Lib.hid ((Hid.out H1).more_below hb)
            replace H2 := Lib.hid ((Hid.out H2).more_below hb)
            replace H7 := Lib.hid ((Hid.out H7).more_below hb)
            replace H8 := Lib.hid ((Hid.out H8).more_below hb)
            replace HL := Lib.hid ((Hid.out HL).trans (hb.mono (Hid.out HL).size))
            clear hb
            go_wp2_with fail
            refine (apply_any _ B A7 cb c7 now T (by omega) (by omega) H2.out H7.out).mono ?_
            rw [HA3.out]
            rintro e w5 h
            obtain ⟨A10, c10, rfl, hr, hb⟩ := AppPost.yes h
            have H10 := Lib.hid hr
            clear h hr H6 H7
            replace H1 := Lib.hid ((Hid.out H1).more_below hb)
            replace H2 := Lib.hid ((Hid.out H2).more_below hb)
            replace H8 := Lib.hid ((Hid.out H8).more_below hb)
            replace H9 := Lib.hid ((Hid.out H9).more_below hb)
            replace HL := Lib.hid ((Hid.out HL).trans (hb.mono (Hid.out HL).size))
            clear hb
            go_wp2_with fail
            refine (sameTexts_same _ A8 B c8 cb now (by omega) H8.out H2.out).mono ?_
            rintro e w6 ⟨rfl, hb⟩
            replace H1 := Lib.hid ((Hid.out H1).more_below hb)
            replace H2 := Lib.hid ((Hid.out H2).more_below hb)
            replace H9 := Lib.hid ((Hid.out H9).more_below hb)
            replace H10 := Lib.hid ((Hid.out H10).more_below hb)
            replace HL := Lib.hid ((Hid.out HL).trans (hb.mono (Hid.out HL).size))
            clear hb
            go_wp2_with fail
            refine (sameTexts_same _ A9 B c9 cb now (by omega) H9.out H2.out).mono ?_
            rintro e w7 ⟨rfl, hb⟩
            replace H1 := Lib.hid ((Hid.out H1).more_below hb)
            replace H2 := Lib.hid ((Hid.out H2).more_below hb)
            replace H10 := Lib.hid ((Hid.out H10).more_below hb)
            replace HL := Lib.hid ((Hid.out HL).trans (hb.mono (Hid.out HL).size))
            clear hb
            go_wp2_with fail
            refine (sameTexts_same _ A10 A c10 ca was (by omega) H10.out H1.out).mono ?_
            rintro e w8 ⟨rfl, hb⟩
            replace H1 := Lib.hid ((Hid.out H1).more_below hb)
            replace H2 := Lib.hid ((Hid.out H2).more_below hb)
            replace HL := Lib.hid ((Hid.out HL).trans (hb.mono (Hid.out HL).size))
            clear hb
            go_wp2_with fail
            refine (moved2_any _ A B ca cb was now (by omega) HE.out H1.out H2.out).mono ?_
            rw [HPE.out]
            rintro e w9 ⟨rfl, hb⟩
            replace HL := Lib.hid ((Hid.out HL).trans (hb.mono (Hid.out HL).size))
            clear hb
            go_wp2_with fail
            refine (awake_any _).mono ?_
            rintro e w10 ⟨rfl, hb⟩
            replace HL := Lib.hid ((Hid.out HL).trans (hb.mono (Hid.out HL).size))
            clear hb
            go_wp2
            go_ret
            exact ⟨rfl, HL.out⟩
          | succ i =>
            have : x = i := by omega
            subst this
            clear hx
            have hilt : i < P.length := by omega
            obtain ⟨a2, q2, ha2, c0, c1, c2'⟩ := elem36 HP.out hilt
            subst q2
            have hds := Lib.hid (drop_step P hilt)
            generalize hm : P[i] = m at *
            obtain ⟨p, y, z⟩ := m
            simp only at c0 c1 c2'
            have hpr : Hid (PR w2.heap.size w2 (a2.add (i * 3)) ⟨(a2.add (i * 3)).block, (a2.add (i * 3)).off + 2, none⟩ ⟨(a2.add (i * 3)).block, (a2.add (i * 3)).off + 1, none⟩ (.int .i64 p) (.string z) (.string y) wr) := ⟨c0, c2', c1, by rw [block_of_add]; exact ha2, by show (a2.add (i * 3)).block < _; rw [block_of_add]; exact ha2, by show (a2.add (i * 3)).block < _; rw [block_of_add]; exact ha2, hlow⟩
            clear hm c0 c1 c2'
            obtain ⟨c0, c2', c1, -⟩ := PR.of hpr.out
            have hdl : (P.drop (i + 1)).reverse.length ≤ 40 := by rw [List.length_reverse, List.length_drop]; omega
            have hdl2 : ((P.drop (i + 1)).reverse.map turn).length ≤ 40 := by rw [List.length_map]; exact hdl
            have hdt := Lib.hid (show (P.drop i).reverse.map turn = (P.drop (i + 1)).reverse.map turn ++ [⟨p, z, y⟩] by rw [hds.out, List.map_append]; rfl)
            generalize (P.drop (i + 1)).reverse.map turn = T at *
            generalize (P.drop (i + 1)).reverse = R at *
            have tok1 : True := trivial
            go_wp2_with (at_builtin; have _t := tok1; refine wpList_append_rowL _ rfl _ _ 23 rfl w2.heap.size 36 i0 _ 3 40 Try.underlying23 hi0 hz0 hz1 hz2 rfl (by decide) _ _ rfl (hrb.alloc _) R36.len _ ⟨p, y, z⟩ rfl (cells_new _ _ _) (by simp [R36.cells, Value.oneCell']) (by simp) (by unfold maxLen; omega) (by omega) (by simp; omega) ?_; intro v3 w3 hrb3 hg3 hat3; clear tok1)
            replace hg3 : (wr.alloc (.cells #[.int .i64 p, .string y, .string z] 36)).grownBy w3 u6.ownBlock := hg3
            replace hat3 : v3.ownBlock = u6.ownBlock ∨ v3.ownBlock = some (wr.alloc (.cells #[.int .i64 p, .string y, .string z] 36)).heap.size := hat3
            rw [World.size_alloc] at hat3
            have hlow3 := low_row hlow hrb (Nat.le_refl _) hsz hg3
            have hrt3 := (hrt.alloc (.cells #[.int .i64 p, .string y, .string z] 36)).kept hg3 (fun g hg e => hne g e hg)
            have hne3 : ∀ g, v3.ownBlock = some g → u7.ownBlock ≠ some g := fun g hg e => by
              rcases hat3 with h | h
              · exact hne g (by rw [← h]; exact hg) e
              · rw [h] at hg; injection hg with hg; have := (hrt.own e).2; omega
            have hs3 := hlow3.size
            have hpr3 : Hid (PR w2.heap.size w2 (a2.add (i * 3)) ⟨(a2.add (i * 3)).block, (a2.add (i * 3)).off + 2, none⟩ ⟨(a2.add (i * 3)).block, (a2.add (i * 3)).off + 1, none⟩ (.int .i64 p) (.string z) (.string y) w3) := ⟨hpr.c1, hpr.c2, hpr.c3, hpr.hp, hpr.hq, hpr.hr, hlow3⟩
            have test := PR.drew hpr3
            clear hg3 hat3 hlow hrb hrt hne hpr hpr3 c0 c1 c2' hsz
            go_wp2_with fail
            refine wp_region_held_drew (S := (fun w' => w'.cell? (a2.add (i * 3)) = some (.int .i64 p) ∧ w'.cell? ⟨(a2.add (i * 3)).block, (a2.add (i * 3)).off + 2, none⟩ = some (.string z) ∧ w'.cell? ⟨(a2.add (i * 3)).block, (a2.add (i * 3)).off + 1, none⟩ = some (.string y) ∧ Hid (PR w2.heap.size w2 (a2.add (i * 3)) ⟨(a2.add (i * 3)).block, (a2.add (i * 3)).off + 2, none⟩ ⟨(a2.add (i * 3)).block, (a2.add (i * 3)).off + 1, none⟩ (.int .i64 p) (.string z) (.string y) w'))) (by kernel_rfl) ?_ (fun hHeldp0 => ?_)
            · exact test
            refine wpAnyH_take (i := 0) (v := ?vp0) ops0 (by kernel_rfl) (by kernel_rfl) (by kernel_rfl) (fun _ _ _ h => h) (Or.inl ⟨by rfl, ?yp0⟩) hHeldp0 ?_
            case yp0 => (intro w hSw; (try dsimp only at hSw); go_simp; try (with_reducible rfl))
            try simp only [Act.put, List.setIfInBounds_toArray, List.set_cons_zero, List.set_cons_succ]
            refine wpAnyH_take (i := 1) (v := ?vp1) (opsS ops0) (by kernel_rfl) (by kernel_rfl) (by kernel_rfl) (fun _ _ _ h => h) (Or.inl ⟨by rfl, ?yp1⟩) hHeldp0 ?_
            case yp1 => (intro w hSw; (try dsimp only at hSw); go_simp; try (with_reducible rfl))
            try simp only [Act.put, List.setIfInBounds_toArray, List.set_cons_zero, List.set_cons_succ]
            refine wpAnyH_take (i := 2) (v := ?vp2) (opsS (opsS ops0)) (by kernel_rfl) (by kernel_rfl) (by kernel_rfl) (fun _ _ _ h => h) (Or.inl ⟨by rfl, ?yp2⟩) hHeldp0 ?_
            case yp2 => (intro w hSw; (try dsimp only at hSw); go_simp; try (with_reducible rfl))
            try simp only [Act.put, List.setIfInBounds_toArray, List.set_cons_zero, List.set_cons_succ]
            refine wpAnyH_take (i := 3) (v := ?vp3) (opsS (opsS (opsS ops0))) (by kernel_rfl) (by kernel_rfl) (by kernel_rfl) (fun _ _ _ h => h) (Or.inl ⟨by rfl, ?yp3⟩) hHeldp0 ?_
            case yp3 => (intro w hSw; (try dsimp only at hSw); go_simp; try (with_reducible rfl))
            try simp only [Act.put, List.setIfInBounds_toArray, List.set_cons_zero, List.set_cons_succ]
            refine wpAnyH_take (i := 4) (v := ?vp4) (opsS (opsS (opsS (opsS ops0)))) (by kernel_rfl) (by kernel_rfl) (by kernel_rfl) (fun _ _ _ h => h) (Or.inl ⟨by rfl, ?yp4⟩) hHeldp0 ?_
            case yp4 => (intro w hSw; (try dsimp only at hSw); go_simp; try (with_reducible rfl))
            try simp only [Act.put, List.setIfInBounds_toArray, List.set_cons_zero, List.set_cons_succ]
            refine wpAnyH_take (i := 5) (v := ?vp5) (opsS (opsS (opsS (opsS (opsS ops0))))) (by kernel_rfl) (by kernel_rfl) (by kernel_rfl) (fun _ _ _ h => h) (Or.inl ⟨by rfl, ?yp5⟩) hHeldp0 ?_
            case yp5 => (intro w hSw; (try dsimp only at hSw); go_simp; try (with_reducible rfl))
            try simp only [Act.put, List.setIfInBounds_toArray, List.set_cons_zero, List.set_cons_succ]
            refine wpAnyH_take (i := 6) (v := ?vp6) (opsS (opsS (opsS (opsS (opsS (opsS ops0)))))) (by kernel_rfl) (by kernel_rfl) (by kernel_rfl) (fun _ _ _ h => h) (Or.inl ⟨by rfl, ?yp6⟩) hHeldp0 ?_
            case yp6 => (intro w hSw; (try dsimp only at hSw); go_simp; try (with_reducible rfl))
            try simp only [Act.put, List.setIfInBounds_toArray, List.set_cons_zero, List.set_cons_succ]
            refine wpAnyH_take (i := 7) (v := ?vp7) (opsS (opsS (opsS (opsS (opsS (opsS (opsS ops0))))))) (by kernel_rfl) (by kernel_rfl) (by kernel_rfl) (fun _ _ _ h => h) (Or.inl ⟨by rfl, ?yp7⟩) hHeldp0 ?_
            case yp7 => (intro w hSw; (try dsimp only at hSw); go_simp; try (with_reducible rfl))
            try simp only [Act.put, List.setIfInBounds_toArray, List.set_cons_zero, List.set_cons_succ]
            refine wpAnyH_take (i := 8) (v := ?vp8) (opsS (opsS (opsS (opsS (opsS (opsS (opsS (opsS ops0)))))))) (by kernel_rfl) (by kernel_rfl) (by kernel_rfl) (fun _ _ _ h => h) (Or.inl ⟨by rfl, ?yp8⟩) hHeldp0 ?_
            case yp8 => (intro w hSw; (try dsimp only at hSw); go_simp; try (with_reducible rfl))
            try simp only [Act.put, List.setIfInBounds_toArray, List.set_cons_zero, List.set_cons_succ]
            refine wpAnyH_take (i := 9) (v := ?vp9) (opsS (opsS (opsS (opsS (opsS (opsS (opsS (opsS (opsS ops0))))))))) (by kernel_rfl) (by kernel_rfl) (by kernel_rfl) (fun _ _ _ h => h) (Or.inl ⟨by rfl, ?yp9⟩) hHeldp0 ?_
            case yp9 => (intro w hSw; (try dsimp only at hSw); go_simp; try (with_reducible rfl))
            try simp only [Act.put, List.setIfInBounds_toArray, List.set_cons_zero, List.set_cons_succ]
            refine wpAnyH_take (i := 10) (v := ?vp10) (opsS (opsS (opsS (opsS (opsS (opsS (opsS (opsS (opsS (opsS ops0)))))))))) (by kernel_rfl) (by kernel_rfl) (by kernel_rfl) (fun _ _ _ h => h) (Or.inl ⟨by rfl, ?yp10⟩) hHeldp0 ?_
            case yp10 => (intro w hSw; (try dsimp only at hSw); go_simp; try (with_reducible rfl))
            try simp only [Act.put, List.setIfInBounds_toArray, List.set_cons_zero, List.set_cons_succ]
            refine wpAnyH_take (i := 11) (v := ?vp11) (opsS (opsS (opsS (opsS (opsS (opsS (opsS (opsS (opsS (opsS (opsS ops0))))))))))) (by kernel_rfl) (by kernel_rfl) (by kernel_rfl) (fun _ _ _ h => h) (Or.inl ⟨by rfl, ?yp11⟩) hHeldp0 ?_
            case yp11 => (intro w hSw; (try dsimp only at hSw); go_simp; try (with_reducible rfl))
            try simp only [Act.put, List.setIfInBounds_toArray, List.set_cons_zero, List.set_cons_succ]
            refine wpAnyH_take (i := 12) (v := ?vp12) (opsS (opsS (opsS (opsS (opsS (opsS (opsS (opsS (opsS (opsS (opsS (opsS ops0)))))))))))) (by kernel_rfl) (by kernel_rfl) (by kernel_rfl) (fun _ _ _ h => h) (Or.inl ⟨by rfl, ?yp12⟩) hHeldp0 ?_
            case yp12 => (intro w hSw; (try dsimp only at hSw); go_simp; try (with_reducible rfl))
            try simp only [Act.put, List.setIfInBounds_toArray, List.set_cons_zero, List.set_cons_succ]
            refine wpAnyH_take (i := 13) (v := ?vp13) (opsS (opsS (opsS (opsS (opsS (opsS (opsS (opsS (opsS (opsS (opsS (opsS (opsS ops0))))))))))))) (by kernel_rfl) (by kernel_rfl) (by kernel_rfl) (fun _ _ _ h => h) (Or.inl ⟨by rfl, ?yp13⟩) hHeldp0 ?_
            case yp13 => (intro w hSw; (try dsimp only at hSw); go_simp; try (with_reducible rfl))
            try simp only [Act.put, List.setIfInBounds_toArray, List.set_cons_zero, List.set_cons_succ]
            refine wpAnyH_take (i := 14) (v := ?vp14) (opsS (opsS (opsS (opsS (opsS (opsS (opsS (opsS (opsS (opsS (opsS (opsS (opsS (opsS ops0)))))))))))))) (by kernel_rfl) (by kernel_rfl) (by kernel_rfl) (fun _ _ _ h => h) (Or.inl ⟨by rfl, ?yp14⟩) hHeldp0 ?_
            case yp14 => (intro w hSw; (try dsimp only at hSw); go_simp; try (with_reducible rfl))
            try simp only [Act.put, List.setIfInBounds_toArray, List.set_cons_zero, List.set_cons_succ]
            refine wpAnyH_take (i := 15) (v := ?vp15) (opsS (opsS (opsS (opsS (opsS (opsS (opsS (opsS (opsS (opsS (opsS (opsS (opsS (opsS (opsS ops0))))))))))))))) (by kernel_rfl) (by kernel_rfl) (by kernel_rfl) (fun _ _ _ h => h) (Or.inl ⟨by rfl, ?yp15⟩) hHeldp0 ?_
            case yp15 => (intro w hSw; (try dsimp only at hSw); go_simp; try (with_reducible rfl))
            try simp only [Act.put, List.setIfInBounds_toArray, List.set_cons_zero, List.set_cons_succ]
            refine wpAnyH_take (i := 16) (v := ?vp16) (opsS (opsS (opsS (opsS (opsS (opsS (opsS (opsS (opsS (opsS (opsS (opsS (opsS (opsS (opsS (opsS ops0)))))))))))))))) (by kernel_rfl) (by kernel_rfl) (by kernel_rfl) (fun _ _ _ h => h) (Or.inl ⟨by rfl, ?yp16⟩) hHeldp0 ?_
            case yp16 => (intro w hSw; (try dsimp only at hSw); go_simp; try (with_reducible rfl))
            try simp only [Act.put, List.setIfInBounds_toArray, List.set_cons_zero, List.set_cons_succ]
            refine wpAnyH_ready (rs := [17]) (by kernel_rfl) (by simp) ?_
            refine AllReadyH.cons (opsS (opsS (opsS (opsS (opsS (opsS (opsS (opsS (opsS (opsS (opsS (opsS (opsS (opsS (opsS (opsS (opsS ops0))))))))))))))))) (fun K hK => ?_) AllReadyH.nil
            go_simp
            skip
            try dsimp only
            refine hK.out _ _ ?_ (fun hHeldp1 => ?_)
            · (first | assumption | (go_split_ands; exact PR.step (by assumption) (Below.alloc (Hid.out (by assumption : Hid (PR _ _ _ _ _ _ _ _ _))).low (by simp; omega) _) ) | (go_split_ands; exact PR.step (by assumption) (by assumption)))
            clear hK K hHeldp0
            try clear hb
            try simp only [Act.put, List.setIfInBounds_toArray, List.set_cons_zero, List.set_cons_succ]
            refine wpAnyH_ready (rs := [18]) (by kernel_rfl) (by simp) ?_
            refine AllReadyH.cons (opsS (opsS (opsS (opsS (opsS (opsS (opsS (opsS (opsS (opsS (opsS (opsS (opsS (opsS (opsS (opsS (opsS (opsS ops0)))))))))))))))))) (fun K hK => ?_) AllReadyH.nil
            refine step_append_rowL _ rfl _ _ 23 rfl w2.heap.size 36 i0 _ 3 40 Try.underlying23 hi0 hz0 hz1 hz2 rfl (by decide) _ _ rfl (hrt3.drew.alloc _) R36.len _ ⟨p, z, y⟩ rfl (cells_new _ _ _) (by simp [R36.cells, Value.oneCell']) (by simp) (by unfold maxLen; omega) (by omega) (by simp; omega) ?_; intro v4 w4 hrt4 hg4 hat4; have hbl := low_row hlow3.drew hrt3.drew (Nat.le_refl _) hs3 hg4
            try dsimp only
            refine hK.out _ _ ?_ (fun hHeldp2 => ?_)
            · (first | assumption | (go_split_ands; exact PR.step (by assumption) (Below.alloc (Hid.out (by assumption : Hid (PR _ _ _ _ _ _ _ _ _))).low (by simp; omega) _) ) | (go_split_ands; exact PR.step (by assumption) (by assumption)))
            clear hK K hHeldp1
            try clear hb
            try simp only [Act.put, List.setIfInBounds_toArray, List.set_cons_zero, List.set_cons_succ]
            refine wpAnyH_take (i := 19) (v := ?vp19) (opsS (opsS (opsS (opsS (opsS (opsS (opsS (opsS (opsS (opsS (opsS (opsS (opsS (opsS (opsS (opsS (opsS (opsS (opsS ops0))))))))))))))))))) (by kernel_rfl) (by kernel_rfl) (by kernel_rfl) (fun _ _ _ h => h) (Or.inl ⟨by rfl, ?yp19⟩) hHeldp2 ?_
            case yp19 => (intro w hSw; (try dsimp only at hSw); go_simp; try (with_reducible rfl))
            try simp only [Act.put, List.setIfInBounds_toArray, List.set_cons_zero, List.set_cons_succ]
            refine wpAnyH_done (by kernel_rfl) ?_ _
            clear hHeldp2 test
            replace hg4 : (w3.drew.alloc (.cells #[.int .i64 p, .string z, .string y] 36)).grownBy w4 u7.ownBlock := hg4
            replace hat4 : v4.ownBlock = u7.ownBlock ∨ v4.ownBlock = some (w3.drew.alloc (.cells #[.int .i64 p, .string z, .string y] 36)).heap.size := hat4
            rw [World.size_alloc] at hat4
            replace hat4 : v4.ownBlock = u7.ownBlock ∨ v4.ownBlock = some (w3.heap.size + 1) := hat4
            have hrb4 := (hrb3.drew.alloc (.cells #[.int .i64 p, .string z, .string y] 36)).kept hg4 (fun g hg e => hne3 g hg e)
            have hne4 : ∀ g, v3.ownBlock = some g → v4.ownBlock ≠ some g := fun g hg e => by
              rcases hat4 with h | h
              · exact hne3 g hg (by rw [← h]; exact e)
              · rw [h] at e; injection e with e; have := (hrb3.own hg).2; omega
            clear hg4 hat4 hrb3 hrt3 hne3 hlow3 hs3
            go_wp2
            go_roundw
            case rel => exact ⟨i, _, by omega, rfl, rfl, by rw [hds.out]; exact hrb4, by rw [hdt.out]; exact hrt4, hbl, hne4⟩
            case measure => simp [intOf]
    · have hne : ((was.length : Int) != now.length) = true := by simp; omega
      clear hle
      go_wp2_with fail
      refine (awake_any _).mono ?_
      rintro e w2 ⟨rfl, hlow⟩
      go_wp2
      go_ret
      exact ⟨rfl, hlow⟩
theorem leads_all (W : World) (v0 : Value) (v1 : Value) (h0 : V22 W v0) (h1 : V22 W v1) :
    Calls Try.prog 4 #[v0, v1] W fun e w' => e = .returned (.bool true) ∧ Below W.heap.size W w' := by
  obtain ⟨A, ca, was, rfl, l1, r1, s1⟩ := opened h0
  obtain ⟨B, cb, now, rfl, l2, r2, s2⟩ := opened h1
  exact leads_walk W A B ca cb was now r1 r2 s1 s2 l1 l2
end Go.Proofs.Ytagebkahbehmfaa.move
