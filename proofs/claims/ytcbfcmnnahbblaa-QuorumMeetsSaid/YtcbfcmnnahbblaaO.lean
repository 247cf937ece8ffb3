/- The walk of QuorumMeets. -/
import Derived.Test.YtcbfcmnnahbblaaQ
import Derived.Deep.Cut
namespace Go.Proofs.Ytcbfcmnnahbblaa.quorum
open Go.ChangeShapes Go.WideShapes Go.ChangeAt Go.RowKit Go.Proofs.Aid Go.Proofs.Ytcbfcmnnahbblaa.texts
theorem Row.rd {w : World} {b n c : Nat} {A : Option Addr} {xs : List ByteArray} (h : Row w b 9 1 tc (.slice A n c) xs) : Reads w w.heap.size 1 A xs.length (xs.flatMap tc) := by
  obtain ⟨A', c', e, -, hr⟩ := h.reads'
  injection e with e1 e2 e3
  subst e1; exact hr
def Cut14 (W : World) (g l : Nat) (cs : List R38) (n0 n1 pn pr pw qr qw : Int) (ps pm : Bool) (s10 s11 : Value) (wx : World) : Prop :=
  ∃ B0 B1 A30 A31 A32 A33 c30 c31 c32 c33 A70 A71 A72 A73 c70 c71 c72 c73, s10 = .pointer (some ⟨B0, 0, none⟩) ∧ s11 = .pointer (some ⟨B1, 0, none⟩) ∧ Hid (QM W g l n0 n1 pn pr pw qr qw ps pm false wx) ∧
    Hid (NB g B0 #[.slice A30 (parts n0 cs cs.length 0).length c30, .slice A31 (parts n0 cs cs.length 1).length c31, .slice A32 (parts n0 cs cs.length 2).length c32, .slice A33 (parts n0 cs cs.length 3).length c33] wx) ∧
    Hid (NB g B1 #[.slice A70 (parts n1 cs cs.length 0).length c70, .slice A71 (parts n1 cs cs.length 1).length c71, .slice A72 (parts n1 cs cs.length 2).length c72, .slice A73 (parts n1 cs cs.length 3).length c73] wx) ∧
    Hid (Rows4 (parts n0 cs cs.length) A30 A31 A32 A33 c30 c31 c32 c33 wx) ∧ Hid (Rows4 (parts n1 cs cs.length) A70 A71 A72 A73 c70 c71 c72 c73 wx)
set_option maxRecDepth 100000 in
set_option maxHeartbeats 8000000 in
theorem meets_walk (W : World) (A : Option Addr) (ca : Nat) (cs : List R38) (n0 n1 pn pr pw qr qw : Int) (ps pm pb : Bool) (h1 : Reads W W.heap.size 2 A cs.length (cs.flatMap R38.cells))
    (lc : cs.length ≤ maxLen) (sc : ∀ c ∈ cs, c.node_.size ≤ maxLen) :
    Calls Try.prog 4 #[.agg #[.int .i64 pn, .int .i64 pr, .int .i64 pw, .int .i64 qr, .int .i64 qw, .bool ps, .bool pm, .bool pb], .slice A cs.length ca, .agg #[.int .i64 n0, .int .i64 n1]] W fun e w' => e = .returned (.bool true) ∧ Below W.heap.size W w' := by
  have HQ := Lib.hid (QM.start W n0 n1 pn pr pw qr qw ps pm pb)
  have H1 := Lib.hid h1
  have LC := Lib.hid lc
  have SC := Lib.hid sc
  clear h1 lc sc
  go_enter Try.func4, Try.ntmps4
  go_wp2_with fail
  generalize ((W.alloc (.cells #[.int .i64 pn, .int .i64 pr, .int .i64 pw, .int .i64 qr, .int .i64 qw, .bool ps, .bool pm, .bool pb] 23)).alloc (.cells #[.int .i64 n0, .int .i64 n1] 35)) = w0 at *
  generalize hg : W.heap.size = g at *
  have HG := Lib.hid hg
  clear hg
  generalize hgl : g + 1 = l at *
  have HGL := Lib.hid hgl
  clear hgl
  refine (few_any w0 A none ca 0 0 cs [] rfl LC.out (by decide) (QM.rd H1.out HQ) SC.out ⟨fun i h => by simp at h⟩).mono ?_
  rintro e w1 ⟨b, rfl, rfl, hb⟩
  cases b
  · clear hb
    go_wp2_with fail
    refine (awake_any _).mono ?_
    rintro e w9 ⟨rfl, hb⟩
    have HFN := QM.fin HG HQ hb
    clear hb
    go_wp2
    go_ret
    exact ⟨rfl, HFN.out⟩
  · obtain ⟨hl20, -⟩ := hb rfl
    clear hb LC SC
    cases d12 : decide ((12 : Int) < cs.length) with
    | true =>
      go_wp2_with fail
      refine (awake_any _).mono ?_
      rintro e w9 ⟨rfl, hb⟩
      have HFN := QM.fin HG HQ hb
      clear hb
      go_wp2
      go_ret
      exact ⟨rfl, HFN.out⟩
    | false =>
      have hl : cs.length ≤ 12 := by simp at d12; omega
      clear hl20
      obtain ⟨k0, k1, k2, k3, k4, k5, k6, k7, -, -, -⟩ := QM.of HQ.out
      go_wp2_with fail
      refine (strict_any _ pn pr pw qr qw ps pm pb).mono ?_
      rintro e w1 ⟨b, rfl, hst, hb⟩
      clear k0 k1 k2 k3 k4 k5 k6 k7
      obtain ⟨k0, k1, k2, k3, k4, k5, k6, k7, -, -, HQ⟩ := QM.step hb HQ
      clear hb
      cases b
      · clear hst
        go_wp2_with fail
        refine (awake_any _).mono ?_
        rintro e w9 ⟨rfl, hb⟩
        have HFN := QM.fin HG HQ hb
        clear hb
        go_wp2
        go_ret
        exact ⟨rfl, HFN.out⟩
      · obtain ⟨hfit, hsum⟩ := hst rfl
        have HFIT := Lib.hid hfit
        have HSUM := Lib.hid hsum
        clear hst hfit hsum
        cases pb
        · clear k0 k1 k2 k3 k4 k5 k6
          go_wp2_with fail
          clear k7 d12
          go_loopw [7, 8, 9] (fun cv iv _ wr => ∃ i : Nat, i ≤ cs.length ∧ iv = .int .i64 i ∧ cv = .int .i64 ((cs.take i).countP R38.primary : Nat) ∧ Hid (QM W g l n0 n1 pn pr pw qr qw ps pm false wr) ∧ Hid (∀ a b (ha : a < cs.length) (hb : b < cs.length), a < b → b < i → cs[a].node_ ≠ cs[b].node_)) (fun _ iv _ _ => cs.length - (intOf iv).toNat)
          case atStart => exact ⟨0, by omega, rfl, rfl, HQ, fun a b ha hb h h2 => by omega⟩
          case round =>
            clear HQ
            obtain ⟨i, hi, rfl, rfl, HQ, HD⟩ := hrel
            by_cases hlt : i < cs.length
            · obtain ⟨a1, q1, hb1, c0, c1⟩ := elem38 (H1.out.below HQ.out.low) hlt
              subst q1
              have hcp : Hid ((cs.take (i + 1)).countP R38.primary = (cs.take i).countP R38.primary + (if cs[i].primary = true then 1 else 0)) := by
                show _ = _
                rw [List.take_succ_eq_append_getElem hlt, List.countP_append]; simp [List.countP_cons]
              have hcl : (cs.take i).countP R38.primary ≤ i := Nat.le_trans List.countP_le_length (List.length_take_le _ _)
              generalize hx : (cs.take i).countP R38.primary = x at *
              clear hx
              generalize hpri : cs[i].primary = pri at *
              clear hpri
              have hcarry : Hid (∀ (K : Prop), ((if pri = true then 1 else 0) = 0 → pri = false → K) → ((if pri = true then 1 else 0) = 1 → pri = true → K) → K) := fun K y z => by
                cases pri
                · exact y rfl rfl
                · exact z rfl rfl
              refine hcarry.out _ (fun hp0 hp1 => ?_) (fun hp0 hp1 => ?_)
              all_goals
                subst hp1
                rw [hp0] at hcp
                clear hp0 hcarry
                go_wp2_with fail
                go_loopw [9] (fun kv wr => ∃ k : Nat, k ≤ i ∧ kv = .int .i64 k ∧ Hid (QM W g l n0 n1 pn pr pw qr qw ps pm false wr) ∧ Hid (∀ a (ha : a < cs.length) (hb : i < cs.length), a < k → cs[a].node_ ≠ cs[i].node_)) (fun kv _ => i - (intOf kv).toNat)
                case atStart => exact ⟨0, by omega, rfl, HQ, fun a ha hb h => by omega⟩
                case round =>
                  clear HQ c0 c1
                  obtain ⟨k, hk, rfl, HQ, HE⟩ := hrel
                  by_cases hki : k < i
                  · obtain ⟨a2, q2, hb2, x0, -⟩ := elem38 (H1.out.below HQ.out.low) (by omega : k < cs.length)
                    injection q2 with q2
                    subst q2
                    obtain ⟨a3, q3, hb3, y0, -⟩ := elem38 (H1.out.below HQ.out.low) hlt
                    injection q3 with q3
                    subst q3
                    by_cases he : cs[k].node_ = cs[i].node_
                    · rw [he] at x0
                      generalize cs[i].node_ = s at x0 y0
                      have hd1 : wr.drew.cell? (a1.add (k * 2)) = some (.string s) := x0
                      have hd2 : wr.drew.cell? (a1.add (i * 2)) = some (.string s) := y0
                      have HQD := fun q => QM.drewN HQ q
                      clear he HE HD
                      go_wp2_with fail
                      go_quiet (fail)
                      go_wp2_with fail
                      refine (awake_any _).mono ?_
                      rintro e w9 ⟨rfl, hb⟩
                      have HFN := QM.fin HG (HQD _) hb
                      clear hb
                      go_wp2
                      go_ret
                      exact ⟨rfl, HFN.out⟩
                    · have hne := bytes_ne he
                      have HE2 : Hid (∀ a (ha : a < cs.length) (hb : i < cs.length), a < k + 1 → cs[a].node_ ≠ cs[i].node_) := fun a ha hb h => by
                        by_cases e : a < k
                        · exact HE.out a ha hb e
                        · have : a = k := by omega
                          subst this; exact he
                      clear he
                      generalize cs[i].node_ = s at x0 y0 hne
                      generalize cs[k].node_ = t at x0 hne
                      have hd1 : wr.drew.cell? (a1.add (k * 2)) = some (.string t) := x0
                      have hd2 : wr.drew.cell? (a1.add (i * 2)) = some (.string s) := y0
                      have HQD := fun q => QM.drewN HQ q
                      go_wp2_with fail
                      go_quiet (fail)
                      go_wp2
                      go_roundw
                      case rel => exact ⟨k + 1, by omega, by go_num, HQD _, HE2⟩
                      case measure => simp [intOf]; omega
                  · have hki2 : k = i := by omega
                    have HD2 : Hid (∀ a b (ha : a < cs.length) (hb : b < cs.length), a < b → b < i + 1 → cs[a].node_ ≠ cs[b].node_) := fun a b ha hb h h2 => by
                      by_cases e : b < i
                      · exact HD.out a b ha hb h e
                      · have : b = i := by omega
                        subst this; exact HE.out a ha hb (by omega)
                    have HC2 := hcp.out
                    go_wp2
                    go_roundw
                    case rel => exact ⟨i + 1, by omega, by go_num, by rw [HC2]; first | rfl | (push_cast; rfl), HQ, HD2⟩
                    case measure => simp [intOf]; omega
            · have hil : i = cs.length := by omega
              subst hil
              rw [List.take_length]
              have hcl : cs.countP R38.primary ≤ cs.length := List.countP_le_length
              generalize hx : cs.countP R38.primary = x at *
              have HX := Lib.hid hx
              clear hx
              have test := QM.drew HQ
              go_wp2_with fail
              go_cut [10, 11] from 64 (fun s10 s11 wx => Cut14 W g l cs n0 n1 pn pr pw qr qw ps pm s10 s11 wx)
              case first =>
                refine wp_region_held_drew (S := (fun w' => w'.cell? ⟨g, 0, none⟩ = some (.int .i64 pn) ∧ w'.cell? ⟨g, 1, none⟩ = some (.int .i64 pr) ∧ w'.cell? ⟨g, 2, none⟩ = some (.int .i64 pw) ∧ w'.cell? ⟨g, 3, none⟩ = some (.int .i64 qr) ∧ w'.cell? ⟨g, 4, none⟩ = some (.int .i64 qw) ∧ w'.cell? ⟨g, 5, none⟩ = some (.bool ps) ∧ w'.cell? ⟨g, 6, none⟩ = some (.bool pm) ∧ w'.cell? ⟨g, 7, none⟩ = some (.bool false) ∧ w'.cell? ⟨l, 0, none⟩ = some (.int .i64 n0) ∧ w'.cell? ⟨l, 1, none⟩ = some (.int .i64 n1) ∧ Hid (QM W (g) l n0 n1 pn pr pw qr qw ps pm (false) w'))) (by kernel_rfl) ?_ (fun hH0 => ?_)
                · exact test
                clear test
                generalize wr.drew = wd at hH0 ⊢
                refine wpAnyH_take (i := 0) (v := ?vr0) ops0 (by kernel_rfl) (by kernel_rfl) (by kernel_rfl) (fun _ _ _ h => h) (Or.inl ⟨by rfl, ?yr0⟩) hH0 ?_
                case yr0 => (intro w hSw; (try dsimp only at hSw); go_simp; try (with_reducible rfl))
                try simp only [Act.put, List.setIfInBounds_toArray, List.set_cons_zero, List.set_cons_succ]
                refine wpAnyH_take (i := 1) (v := ?vr1) (opsS ops0) (by kernel_rfl) (by kernel_rfl) (by kernel_rfl) (fun _ _ _ h => h) (Or.inl ⟨by rfl, ?yr1⟩) hH0 ?_
                case yr1 => (intro w hSw; (try dsimp only at hSw); go_simp; try (with_reducible rfl))
                try simp only [Act.put, List.setIfInBounds_toArray, List.set_cons_zero, List.set_cons_succ]
                refine wpAnyH_take (i := 2) (v := ?vr2) (opsS (opsS ops0)) (by kernel_rfl) (by kernel_rfl) (by kernel_rfl) (fun _ _ _ h => h) (Or.inl ⟨by rfl, ?yr2⟩) hH0 ?_
                case yr2 => (intro w hSw; (try dsimp only at hSw); go_simp; try (with_reducible rfl))
                try simp only [Act.put, List.setIfInBounds_toArray, List.set_cons_zero, List.set_cons_succ]
                refine wpAnyH_take (i := 4) (v := ?vr4) (opsS (opsS (opsS (opsS ops0)))) (by kernel_rfl) (by kernel_rfl) (by kernel_rfl) (fun _ _ _ h => h) (Or.inl ⟨by rfl, ?yr4⟩) hH0 ?_
                case yr4 => (intro w hSw; (try dsimp only at hSw); go_simp; try (with_reducible rfl))
                try simp only [Act.put, List.setIfInBounds_toArray, List.set_cons_zero, List.set_cons_succ]
                refine wpAnyH_take (i := 5) (v := ?vr5) (opsS (opsS (opsS (opsS (opsS ops0))))) (by kernel_rfl) (by kernel_rfl) (by kernel_rfl) (fun _ _ _ h => h) (Or.inl ⟨by rfl, ?yr5⟩) hH0 ?_
                case yr5 => (intro w hSw; (try dsimp only at hSw); go_simp; try (with_reducible rfl))
                try simp only [Act.put, List.setIfInBounds_toArray, List.set_cons_zero, List.set_cons_succ]
                refine wpAnyH_take (i := 6) (v := ?vr6) (opsS (opsS (opsS (opsS (opsS (opsS ops0)))))) (by kernel_rfl) (by kernel_rfl) (by kernel_rfl) (fun _ _ _ h => h) (Or.inl ⟨by rfl, ?yr6⟩) hH0 ?_
                case yr6 => (intro w hSw; (try dsimp only at hSw); go_simp; try (with_reducible rfl))
                try simp only [Act.put, List.setIfInBounds_toArray, List.set_cons_zero, List.set_cons_succ]
                refine wpAnyH_ready (rs := [3, 8, 9]) (by kernel_rfl) (by simp) ?_
                refine AllReadyH.cons (opsS (opsS (opsS ops0))) (fun K hK => ?_) ?_
                · go_simp
                  refine (split_any _ A ca cs _ hl (QM.rd H1.out (by first | assumption | (go_split_ands; assumption)))).mono ?_
                  rintro e w3 ⟨A30, A31, A32, A33, c30, c31, c32, c33, rfl, r3, hb⟩
                  try dsimp only
                  refine hK.out _ _ ?_ (fun hH0_3 => ?_)
                  · (first | assumption | exact QM.drew (by assumption) | (go_split_ands; exact QM.drew (by assumption)) | (go_split_ands; exact QM.step (by assumption) (by assumption)) | (go_split_ands; exact QM.alloc (by assumption) _))
                  clear hK K hb hH0
                  try simp only [Act.put, List.setIfInBounds_toArray, List.set_cons_zero, List.set_cons_succ]
                  refine wpAnyH_ready (rs := [7, 8, 9]) (by kernel_rfl) (by simp) ?_
                  refine AllReadyH.cons (opsS (opsS (opsS (opsS (opsS (opsS (opsS ops0))))))) (fun K hK => ?_) ?_
                  · go_simp
                    refine (split_any _ A ca cs _ hl (QM.rd H1.out (by first | assumption | (go_split_ands; assumption)))).mono ?_
                    rintro e w7 ⟨A70, A71, A72, A73, c70, c71, c72, c73, rfl, r7, hb⟩
                    try dsimp only
                    refine hK.out _ _ ?_ (fun hH0_3_7 => ?_)
                    · (first | assumption | exact QM.drew (by assumption) | (go_split_ands; exact QM.drew (by assumption)) | (go_split_ands; exact QM.step (by assumption) (by assumption)) | (go_split_ands; exact QM.alloc (by assumption) _))
                    replace r3 := Rows4.below' r3 hb
                    clear hK K hb hH0_3
                    try simp only [Act.put, List.setIfInBounds_toArray, List.set_cons_zero, List.set_cons_succ]
                    refine wpAnyH_ready (rs := [8, 9]) (by kernel_rfl) (by simp) ?_
                    refine AllReadyH.cons (opsS (opsS (opsS (opsS (opsS (opsS (opsS (opsS ops0)))))))) (fun K hK => ?_) ?_
                    · go_simp
                      try dsimp only
                      refine hK.out _ _ ?_ (fun hH0_3_7_8 => ?_)
                      · (first | assumption | exact QM.drew (by assumption) | (go_split_ands; exact QM.drew (by assumption)) | (go_split_ands; exact QM.step (by assumption) (by assumption)) | (go_split_ands; exact QM.alloc (by assumption) _))
                      replace r3 := Rows4.alloc' r3 (.cells #[.slice none 0 0, .slice none 0 0, .slice none 0 0, .slice none 0 0] 39)
                      replace r7 := Rows4.alloc' r7 (.cells #[.slice none 0 0, .slice none 0 0, .slice none 0 0, .slice none 0 0] 39)
                      have z8 := NB.new hH0_3_7_8.2.2.2.2.2.2.2.2.2.2
                      clear hK K hH0_3_7
                      try simp only [Act.put, List.setIfInBounds_toArray, List.set_cons_zero, List.set_cons_succ]
                      generalize w7.alloc (.cells #[.slice none 0 0, .slice none 0 0, .slice none 0 0, .slice none 0 0] 39) = wz8 at *
                      generalize w7.heap.size = bz8 at *
                      try simp only [Act.put, List.setIfInBounds_toArray, List.set_cons_zero, List.set_cons_succ]
                      refine wpAnyH_ready (rs := [9]) (by kernel_rfl) (by simp) ?_
                      refine AllReadyH.cons (opsS (opsS (opsS (opsS (opsS (opsS (opsS (opsS (opsS ops0))))))))) (fun K hK => ?_) ?_
                      · go_simp
                        try dsimp only
                        refine hK.out _ _ ?_ (fun hH0_3_7_8_9 => ?_)
                        · (first | assumption | exact QM.drew (by assumption) | (go_split_ands; exact QM.drew (by assumption)) | (go_split_ands; exact QM.step (by assumption) (by assumption)) | (go_split_ands; exact QM.alloc (by assumption) _))
                        have hne := Nat.ne_of_lt z8.out.blk.lt
                        replace z8 := NB.alloc z8 (.cells #[.slice none 0 0, .slice none 0 0, .slice none 0 0, .slice none 0 0] 39)
                        replace r3 := Rows4.alloc' r3 (.cells #[.slice none 0 0, .slice none 0 0, .slice none 0 0, .slice none 0 0] 39)
                        replace r7 := Rows4.alloc' r7 (.cells #[.slice none 0 0, .slice none 0 0, .slice none 0 0, .slice none 0 0] 39)
                        have z9 := NB.new hH0_3_7_8_9.2.2.2.2.2.2.2.2.2.2
                        clear hK K hH0_3_7_8
                        try simp only [Act.put, List.setIfInBounds_toArray, List.set_cons_zero, List.set_cons_succ]
                        generalize wz8.alloc (.cells #[.slice none 0 0, .slice none 0 0, .slice none 0 0, .slice none 0 0] 39) = wz9 at *
                        generalize wz8.heap.size = bz9 at *
                        try simp only [Act.put, List.setIfInBounds_toArray, List.set_cons_zero, List.set_cons_succ]
                        refine wpAnyH_ready (rs := [10]) (by kernel_rfl) (by simp) ?_
                        refine AllReadyH.cons (opsS (opsS (opsS (opsS (opsS (opsS (opsS (opsS (opsS (opsS ops0)))))))))) (fun K hK => ?_) ?_
                        · obtain ⟨f0, f1, f2, f3, f4, f5, f6, f7⟩ := NB.of z8
                          have hqO := hH0_3_7_8_9.2.2.2.2.2.2.2.2.2.2
                          go_simp
                          try dsimp only
                          refine hK.out _ _ ?_ (fun hH0_3_7_8_9_10 => ?_)
                          · exact QM.of (QM.put hqO z8 (.slice A30 (parts n0 cs cs.length 0).length c30) (.slice A31 (parts n0 cs cs.length 1).length c31) (.slice A32 (parts n0 cs cs.length 2).length c32) (.slice A33 (parts n0 cs cs.length 3).length c33))
                          replace r3 := Rows4.put r3 z8 (.slice A30 (parts n0 cs cs.length 0).length c30) (.slice A31 (parts n0 cs cs.length 1).length c31) (.slice A32 (parts n0 cs cs.length 2).length c32) (.slice A33 (parts n0 cs cs.length 3).length c33)
                          replace r7 := Rows4.put r7 z8 (.slice A30 (parts n0 cs cs.length 0).length c30) (.slice A31 (parts n0 cs cs.length 1).length c31) (.slice A32 (parts n0 cs cs.length 2).length c32) (.slice A33 (parts n0 cs cs.length 3).length c33)
                          replace z9 := NB.far z9 (by first | exact hne | exact Ne.symm hne) (.slice A30 (parts n0 cs cs.length 0).length c30) (.slice A31 (parts n0 cs cs.length 1).length c31) (.slice A32 (parts n0 cs cs.length 2).length c32) (.slice A33 (parts n0 cs cs.length 3).length c33)
                          replace z8 := NB.put z8 (.slice A30 (parts n0 cs cs.length 0).length c30) (.slice A31 (parts n0 cs cs.length 1).length c31) (.slice A32 (parts n0 cs cs.length 2).length c32) (.slice A33 (parts n0 cs cs.length 3).length c33)
                          clear hK K hqO f0 f1 f2 f3 f4 f5 f6 f7 hH0_3_7_8_9
                          try simp only [Act.put, List.setIfInBounds_toArray, List.set_cons_zero, List.set_cons_succ]
                          refine wpAnyH_ready (rs := [11]) (by kernel_rfl) (by simp) ?_
                          refine AllReadyH.cons (opsS (opsS (opsS (opsS (opsS (opsS (opsS (opsS (opsS (opsS (opsS ops0))))))))))) (fun K hK => ?_) ?_
                          · obtain ⟨f0, f1, f2, f3, f4, f5, f6, f7⟩ := NB.of z9
                            have hqO := hH0_3_7_8_9_10.2.2.2.2.2.2.2.2.2.2
                            go_simp
                            try dsimp only
                            refine hK.out _ _ ?_ (fun hH0_3_7_8_9_10_11 => ?_)
                            · exact QM.of (QM.put hqO z9 (.slice A70 (parts n1 cs cs.length 0).length c70) (.slice A71 (parts n1 cs cs.length 1).length c71) (.slice A72 (parts n1 cs cs.length 2).length c72) (.slice A73 (parts n1 cs cs.length 3).length c73))
                            replace r3 := Rows4.put r3 z9 (.slice A70 (parts n1 cs cs.length 0).length c70) (.slice A71 (parts n1 cs cs.length 1).length c71) (.slice A72 (parts n1 cs cs.length 2).length c72) (.slice A73 (parts n1 cs cs.length 3).length c73)
                            replace r7 := Rows4.put r7 z9 (.slice A70 (parts n1 cs cs.length 0).length c70) (.slice A71 (parts n1 cs cs.length 1).length c71) (.slice A72 (parts n1 cs cs.length 2).length c72) (.slice A73 (parts n1 cs cs.length 3).length c73)
                            replace z8 := NB.far z8 (by first | exact hne | exact Ne.symm hne) (.slice A70 (parts n1 cs cs.length 0).length c70) (.slice A71 (parts n1 cs cs.length 1).length c71) (.slice A72 (parts n1 cs cs.length 2).length c72) (.slice A73 (parts n1 cs cs.length 3).length c73)
                            replace z9 := NB.put z9 (.slice A70 (parts n1 cs cs.length 0).length c70) (.slice A71 (parts n1 cs cs.length 1).length c71) (.slice A72 (parts n1 cs cs.length 2).length c72) (.slice A73 (parts n1 cs cs.length 3).length c73)
                            clear hK K hqO f0 f1 f2 f3 f4 f5 f6 f7 hH0_3_7_8_9_10
                            try simp only [Act.put, List.setIfInBounds_toArray, List.set_cons_zero, List.set_cons_succ]
                            refine wpAnyH_done (by kernel_rfl) ?_ _
                            have hqF := hH0_3_7_8_9_10_11.2.2.2.2.2.2.2.2.2.2
                            clear hH0_3_7_8_9_10_11
                            go_wp2
                            go_meet
                            case rel => exact ⟨_, _, A30, A31, A32, A33, c30, c31, c32, c33, A70, A71, A72, A73, c70, c71, c72, c73, rfl, rfl, hqF, z8, z9, r3, r7⟩
                          exact AllReadyH.nil
                        exact AllReadyH.nil
                      exact AllReadyH.nil
                    refine AllReadyH.cons (opsS (opsS (opsS (opsS (opsS (opsS (opsS (opsS (opsS ops0))))))))) (fun K hK => ?_) ?_
                    · go_simp
                      try dsimp only
                      refine hK.out _ _ ?_ (fun hH0_3_7_9 => ?_)
                      · (first | assumption | exact QM.drew (by assumption) | (go_split_ands; exact QM.drew (by assumption)) | (go_split_ands; exact QM.step (by assumption) (by assumption)) | (go_split_ands; exact QM.alloc (by assumption) _))
                      replace r3 := Rows4.alloc' r3 (.cells #[.slice none 0 0, .slice none 0 0, .slice none 0 0, .slice none 0 0] 39)
                      replace r7 := Rows4.alloc' r7 (.cells #[.slice none 0 0, .slice none 0 0, .slice none 0 0, .slice none 0 0] 39)
                      have z9 := NB.new hH0_3_7_9.2.2.2.2.2.2.2.2.2.2
                      clear hK K hH0_3_7
                      try simp only [Act.put, List.setIfInBounds_toArray, List.set_cons_zero, List.set_cons_succ]
                      generalize w7.alloc (.cells #[.slice none 0 0, .slice none 0 0, .slice none 0 0, .slice none 0 0] 39) = wz9 at *
                      generalize w7.heap.size = bz9 at *
                      try simp only [Act.put, List.setIfInBounds_toArray, List.set_cons_zero, List.set_cons_succ]
                      refine wpAnyH_ready (rs := [8]) (by kernel_rfl) (by simp) ?_
                      refine AllReadyH.cons (opsS (opsS (opsS (opsS (opsS (opsS (opsS (opsS ops0)))))))) (fun K hK => ?_) ?_
                      · go_simp
                        try dsimp only
                        refine hK.out _ _ ?_ (fun hH0_3_7_9_8 => ?_)
                        · (first | assumption | exact QM.drew (by assumption) | (go_split_ands; exact QM.drew (by assumption)) | (go_split_ands; exact QM.step (by assumption) (by assumption)) | (go_split_ands; exact QM.alloc (by assumption) _))
                        have hne := Nat.ne_of_lt z9.out.blk.lt
                        replace z9 := NB.alloc z9 (.cells #[.slice none 0 0, .slice none 0 0, .slice none 0 0, .slice none 0 0] 39)
                        replace r3 := Rows4.alloc' r3 (.cells #[.slice none 0 0, .slice none 0 0, .slice none 0 0, .slice none 0 0] 39)
                        replace r7 := Rows4.alloc' r7 (.cells #[.slice none 0 0, .slice none 0 0, .slice none 0 0, .slice none 0 0] 39)
                        have z8 := NB.new hH0_3_7_9_8.2.2.2.2.2.2.2.2.2.2
                        clear hK K hH0_3_7_9
                        try simp only [Act.put, List.setIfInBounds_toArray, List.set_cons_zero, List.set_cons_succ]
                        generalize wz9.alloc (.cells #[.slice none 0 0, .slice none 0 0, .slice none 0 0, .slice none 0 0] 39) = wz8 at *
                        generalize wz9.heap.size = bz8 at *
                        try simp only [Act.put, List.setIfInBounds_toArray, List.set_cons_zero, List.set_cons_succ]
                        refine wpAnyH_ready (rs := [10]) (by kernel_rfl) (by simp) ?_
                        refine AllReadyH.cons (opsS (opsS (opsS (opsS (opsS (opsS (opsS (opsS (opsS (opsS ops0)))))))))) (fun K hK => ?_) ?_
                        · obtain ⟨f0, f1, f2, f3, f4, f5, f6, f7⟩ := NB.of z8
                          have hqO := hH0_3_7_9_8.2.2.2.2.2.2.2.2.2.2
                          go_simp
                          try dsimp only
                          refine hK.out _ _ ?_ (fun hH0_3_7_9_8_10 => ?_)
                          · exact QM.of (QM.put hqO z8 (.slice A30 (parts n0 cs cs.length 0).length c30) (.slice A31 (parts n0 cs cs.length 1).length c31) (.slice A32 (parts n0 cs cs.length 2).length c32) (.slice A33 (parts n0 cs cs.length 3).length c33))
                          replace r3 := Rows4.put r3 z8 (.slice A30 (parts n0 cs cs.length 0).length c30) (.slice A31 (parts n0 cs cs.length 1).length c31) (.slice A32 (parts n0 cs cs.length 2).length c32) (.slice A33 (parts n0 cs cs.length 3).length c33)
                          replace r7 := Rows4.put r7 z8 (.slice A30 (parts n0 cs cs.length 0).length c30) (.slice A31 (parts n0 cs cs.length 1).length c31) (.slice A32 (parts n0 cs cs.length 2).length c32) (.slice A33 (parts n0 cs cs.length 3).length c33)
                          replace z9 := NB.far z9 (by first | exact hne | exact Ne.symm hne) (.slice A30 (parts n0 cs cs.length 0).length c30) (.slice A31 (parts n0 cs cs.length 1).length c31) (.slice A32 (parts n0 cs cs.length 2).length c32) (.slice A33 (parts n0 cs cs.length 3).length c33)
                          replace z8 := NB.put z8 (.slice A30 (parts n0 cs cs.length 0).length c30) (.slice A31 (parts n0 cs cs.length 1).length c31) (.slice A32 (parts n0 cs cs.length 2).length c32) (.slice A33 (parts n0 cs cs.length 3).length c33)
                          clear hK K hqO f0 f1 f2 f3 f4 f5 f6 f7 hH0_3_7_9_8
                          try simp only [Act.put, List.setIfInBounds_toArray, List.set_cons_zero, List.set_cons_succ]
                          refine wpAnyH_ready (rs := [11]) (by kernel_rfl) (by simp) ?_
                          refine AllReadyH.cons (opsS (opsS (opsS (opsS (opsS (opsS (opsS (opsS (opsS (opsS (opsS ops0))))))))))) (fun K hK => ?_) ?_
                          · obtain ⟨f0, f1, f2, f3, f4, f5, f6, f7⟩ := NB.of z9
                            have hqO := hH0_3_7_9_8_10.2.2.2.2.2.2.2.2.2.2
                            go_simp
                            try dsimp only
                            refine hK.out _ _ ?_ (fun hH0_3_7_9_8_10_11 => ?_)
                            · exact QM.of (QM.put hqO z9 (.slice A70 (parts n1 cs cs.length 0).length c70) (.slice A71 (parts n1 cs cs.length 1).length c71) (.slice A72 (parts n1 cs cs.length 2).length c72) (.slice A73 (parts n1 cs cs.length 3).length c73))
                            replace r3 := Rows4.put r3 z9 (.slice A70 (parts n1 cs cs.length 0).length c70) (.slice A71 (parts n1 cs cs.length 1).length c71) (.slice A72 (parts n1 cs cs.length 2).length c72) (.slice A73 (parts n1 cs cs.length 3).length c73)
                            replace r7 := Rows4.put r7 z9 (.slice A70 (parts n1 cs cs.length 0).length c70) (.slice A71 (parts n1 cs cs.length 1).length c71) (.slice A72 (parts n1 cs cs.length 2).length c72) (.slice A73 (parts n1 cs cs.length 3).length c73)
                            replace z8 := NB.far z8 (by first | exact hne | exact Ne.symm hne) (.slice A70 (parts n1 cs cs.length 0).length c70) (.slice A71 (parts n1 cs cs.length 1).length c71) (.slice A72 (parts n1 cs cs.length 2).length c72) (.slice A73 (parts n1 cs cs.length 3).length c73)
                            replace z9 := NB.put z9 (.slice A70 (parts n1 cs cs.length 0).length c70) (.slice A71 (parts n1 cs cs.length 1).length c71) (.slice A72 (parts n1 cs cs.length 2).length c72) (.slice A73 (parts n1 cs cs.length 3).length c73)
                            clear hK K hqO f0 f1 f2 f3 f4 f5 f6 f7 hH0_3_7_9_8_10
                            try simp only [Act.put, List.setIfInBounds_toArray, List.set_cons_zero, List.set_cons_succ]
                            refine wpAnyH_done (by kernel_rfl) ?_ _
                            have hqF := hH0_3_7_9_8_10_11.2.2.2.2.2.2.2.2.2.2
                            clear hH0_3_7_9_8_10_11
                            go_wp2
                            go_meet
                            case rel => exact ⟨_, _, A30, A31, A32, A33, c30, c31, c32, c33, A70, A71, A72, A73, c70, c71, c72, c73, rfl, rfl, hqF, z8, z9, r3, r7⟩
                          exact AllReadyH.nil
                        exact AllReadyH.nil
                      exact AllReadyH.nil
                    exact AllReadyH.nil
                  refine AllReadyH.cons (opsS (opsS (opsS (opsS (opsS (opsS (opsS (opsS ops0)))))))) (fun K hK => ?_) ?_
                  · go_simp
                    try dsimp only
                    refine hK.out _ _ ?_ (fun hH0_3_8 => ?_)
                    · (first | assumption | exact QM.drew (by assumption) | (go_split_ands; exact QM.drew (by assumption)) | (go_split_ands; exact QM.step (by assumption) (by assumption)) | (go_split_ands; exact QM.alloc (by assumption) _))
                    replace r3 := Rows4.alloc' r3 (.cells #[.slice none 0 0, .slice none 0 0, .slice none 0 0, .slice none 0 0] 39)
                    have z8 := NB.new hH0_3_8.2.2.2.2.2.2.2.2.2.2
                    clear hK K hH0_3
                    try simp only [Act.put, List.setIfInBounds_toArray, List.set_cons_zero, List.set_cons_succ]
                    generalize w3.alloc (.cells #[.slice none 0 0, .slice none 0 0, .slice none 0 0, .slice none 0 0] 39) = wz8 at *
                    generalize w3.heap.size = bz8 at *
                    try simp only [Act.put, List.setIfInBounds_toArray, List.set_cons_zero, List.set_cons_succ]
                    refine wpAnyH_ready (rs := [7, 9]) (by kernel_rfl) (by simp) ?_
                    refine AllReadyH.cons (opsS (opsS (opsS (opsS (opsS (opsS (opsS ops0))))))) (fun K hK => ?_) ?_
                    · go_simp
                      refine (split_any _ A ca cs _ hl (QM.rd H1.out (by first | assumption | (go_split_ands; assumption)))).mono ?_
                      rintro e w7 ⟨A70, A71, A72, A73, c70, c71, c72, c73, rfl, r7, hb⟩
                      try dsimp only
                      refine hK.out _ _ ?_ (fun hH0_3_8_7 => ?_)
                      · (first | assumption | exact QM.drew (by assumption) | (go_split_ands; exact QM.drew (by assumption)) | (go_split_ands; exact QM.step (by assumption) (by assumption)) | (go_split_ands; exact QM.alloc (by assumption) _))
                      replace z8 := NB.below z8 hb
                      replace r3 := Rows4.below' r3 hb
                      clear hK K hb hH0_3_8
                      try simp only [Act.put, List.setIfInBounds_toArray, List.set_cons_zero, List.set_cons_succ]
                      refine wpAnyH_ready (rs := [9]) (by kernel_rfl) (by simp) ?_
                      refine AllReadyH.cons (opsS (opsS (opsS (opsS (opsS (opsS (opsS (opsS (opsS ops0))))))))) (fun K hK => ?_) ?_
                      · go_simp
                        try dsimp only
                        refine hK.out _ _ ?_ (fun hH0_3_8_7_9 => ?_)
                        · (first | assumption | exact QM.drew (by assumption) | (go_split_ands; exact QM.drew (by assumption)) | (go_split_ands; exact QM.step (by assumption) (by assumption)) | (go_split_ands; exact QM.alloc (by assumption) _))
                        have hne := Nat.ne_of_lt z8.out.blk.lt
                        replace z8 := NB.alloc z8 (.cells #[.slice none 0 0, .slice none 0 0, .slice none 0 0, .slice none 0 0] 39)
                        replace r3 := Rows4.alloc' r3 (.cells #[.slice none 0 0, .slice none 0 0, .slice none 0 0, .slice none 0 0] 39)
                        replace r7 := Rows4.alloc' r7 (.cells #[.slice none 0 0, .slice none 0 0, .slice none 0 0, .slice none 0 0] 39)
                        have z9 := NB.new hH0_3_8_7_9.2.2.2.2.2.2.2.2.2.2
                        clear hK K hH0_3_8_7
                        try simp only [Act.put, List.setIfInBounds_toArray, List.set_cons_zero, List.set_cons_succ]
                        generalize w7.alloc (.cells #[.slice none 0 0, .slice none 0 0, .slice none 0 0, .slice none 0 0] 39) = wz9 at *
                        generalize w7.heap.size = bz9 at *
                        try simp only [Act.put, List.setIfInBounds_toArray, List.set_cons_zero, List.set_cons_succ]
                        refine wpAnyH_ready (rs := [10]) (by kernel_rfl) (by simp) ?_
                        refine AllReadyH.cons (opsS (opsS (opsS (opsS (opsS (opsS (opsS (opsS (opsS (opsS ops0)))))))))) (fun K hK => ?_) ?_
                        · obtain ⟨f0, f1, f2, f3, f4, f5, f6, f7⟩ := NB.of z8
                          have hqO := hH0_3_8_7_9.2.2.2.2.2.2.2.2.2.2
                          go_simp
                          try dsimp only
                          refine hK.out _ _ ?_ (fun hH0_3_8_7_9_10 => ?_)
                          · exact QM.of (QM.put hqO z8 (.slice A30 (parts n0 cs cs.length 0).length c30) (.slice A31 (parts n0 cs cs.length 1).length c31) (.slice A32 (parts n0 cs cs.length 2).length c32) (.slice A33 (parts n0 cs cs.length 3).length c33))
                          replace r3 := Rows4.put r3 z8 (.slice A30 (parts n0 cs cs.length 0).length c30) (.slice A31 (parts n0 cs cs.length 1).length c31) (.slice A32 (parts n0 cs cs.length 2).length c32) (.slice A33 (parts n0 cs cs.length 3).length c33)
                          replace r7 := Rows4.put r7 z8 (.slice A30 (parts n0 cs cs.length 0).length c30) (.slice A31 (parts n0 cs cs.length 1).length c31) (.slice A32 (parts n0 cs cs.length 2).length c32) (.slice A33 (parts n0 cs cs.length 3).length c33)
                          replace z9 := NB.far z9 (by first | exact hne | exact Ne.symm hne) (.slice A30 (parts n0 cs cs.length 0).length c30) (.slice A31 (parts n0 cs cs.length 1).length c31) (.slice A32 (parts n0 cs cs.length 2).length c32) (.slice A33 (parts n0 cs cs.length 3).length c33)
                          replace z8 := NB.put z8 (.slice A30 (parts n0 cs cs.length 0).length c30) (.slice A31 (parts n0 cs cs.length 1).length c31) (.slice A32 (parts n0 cs cs.length 2).length c32) (.slice A33 (parts n0 cs cs.length 3).length c33)
                          clear hK K hqO f0 f1 f2 f3 f4 f5 f6 f7 hH0_3_8_7_9
                          try simp only [Act.put, List.setIfInBounds_toArray, List.set_cons_zero, List.set_cons_succ]
                          refine wpAnyH_ready (rs := [11]) (by kernel_rfl) (by simp) ?_
                          refine AllReadyH.cons (opsS (opsS (opsS (opsS (opsS (opsS (opsS (opsS (opsS (opsS (opsS ops0))))))))))) (fun K hK => ?_) ?_
                          · obtain ⟨f0, f1, f2, f3, f4, f5, f6, f7⟩ := NB.of z9
                            have hqO := hH0_3_8_7_9_10.2.2.2.2.2.2.2.2.2.2
                            go_simp
                            try dsimp only
                            refine hK.out _ _ ?_ (fun hH0_3_8_7_9_10_11 => ?_)
                            · exact QM.of (QM.put hqO z9 (.slice A70 (parts n1 cs cs.length 0).length c70) (.slice A71 (parts n1 cs cs.length 1).length c71) (.slice A72 (parts n1 cs cs.length 2).length c72) (.slice A73 (parts n1 cs cs.length 3).length c73))
                            replace r3 := Rows4.put r3 z9 (.slice A70 (parts n1 cs cs.length 0).length c70) (.slice A71 (parts n1 cs cs.length 1).length c71) (.slice A72 (parts n1 cs cs.length 2).length c72) (.slice A73 (parts n1 cs cs.length 3).length c73)
                            replace r7 := Rows4.put r7 z9 (.slice A70 (parts n1 cs cs.length 0).length c70) (.slice A71 (parts n1 cs cs.length 1).length c71) (.slice A72 (parts n1 cs cs.length 2).length c72) (.slice A73 (parts n1 cs cs.length 3).length c73)
                            replace z8 := NB.far z8 (by first | exact hne | exact Ne.symm hne) (.slice A70 (parts n1 cs cs.length 0).length c70) (.slice A71 (parts n1 cs cs.length 1).length c71) (.slice A72 (parts n1 cs cs.length 2).length c72) (.slice A73 (parts n1 cs cs.length 3).length c73)
                            replace z9 := NB.put z9 (.slice A70 (parts n1 cs cs.length 0).length c70) (.slice A71 (parts n1 cs cs.length 1).length c71) (.slice A72 (parts n1 cs cs.length 2).length c72) (.slice A73 (parts n1 cs cs.length 3).length c73)
                            clear hK K hqO f0 f1 f2 f3 f4 f5 f6 f7 hH0_3_8_7_9_10
                            try simp only [Act.put, List.setIfInBounds_toArray, List.set_cons_zero, List.set_cons_succ]
                            refine wpAnyH_done (by kernel_rfl) ?_ _
                            have hqF := hH0_3_8_7_9_10_11.2.2.2.2.2.2.2.2.2.2
                            clear hH0_3_8_7_9_10_11
                            go_wp2
                            go_meet
                            case rel => exact ⟨_, _, A30, A31, A32, A33, c30, c31, c32, c33, A70, A71, A72, A73, c70, c71, c72, c73, rfl, rfl, hqF, z8, z9, r3, r7⟩
                          exact AllReadyH.nil
                        exact AllReadyH.nil
                      exact AllReadyH.nil
                    refine AllReadyH.cons (opsS (opsS (opsS (opsS (opsS (opsS (opsS (opsS (opsS ops0))))))))) (fun K hK => ?_) ?_
                    · go_simp
                      try dsimp only
                      refine hK.out _ _ ?_ (fun hH0_3_8_9 => ?_)
                      · (first | assumption | exact QM.drew (by assumption) | (go_split_ands; exact QM.drew (by assumption)) | (go_split_ands; exact QM.step (by assumption) (by assumption)) | (go_split_ands; exact QM.alloc (by assumption) _))
                      have hne := Nat.ne_of_lt z8.out.blk.lt
                      replace z8 := NB.alloc z8 (.cells #[.slice none 0 0, .slice none 0 0, .slice none 0 0, .slice none 0 0] 39)
                      replace r3 := Rows4.alloc' r3 (.cells #[.slice none 0 0, .slice none 0 0, .slice none 0 0, .slice none 0 0] 39)
                      have z9 := NB.new hH0_3_8_9.2.2.2.2.2.2.2.2.2.2
                      clear hK K hH0_3_8
                      try simp only [Act.put, List.setIfInBounds_toArray, List.set_cons_zero, List.set_cons_succ]
                      generalize wz8.alloc (.cells #[.slice none 0 0, .slice none 0 0, .slice none 0 0, .slice none 0 0] 39) = wz9 at *
                      generalize wz8.heap.size = bz9 at *
                      try simp only [Act.put, List.setIfInBounds_toArray, List.set_cons_zero, List.set_cons_succ]
                      refine wpAnyH_ready (rs := [7]) (by kernel_rfl) (by simp) ?_
                      refine AllReadyH.cons (opsS (opsS (opsS (opsS (opsS (opsS (opsS ops0))))))) (fun K hK => ?_) ?_
                      · go_simp
                        refine (split_any _ A ca cs _ hl (QM.rd H1.out (by first | assumption | (go_split_ands; assumption)))).mono ?_
                        rintro e w7 ⟨A70, A71, A72, A73, c70, c71, c72, c73, rfl, r7, hb⟩
                        try dsimp only
                        refine hK.out _ _ ?_ (fun hH0_3_8_9_7 => ?_)
                        · (first | assumption | exact QM.drew (by assumption) | (go_split_ands; exact QM.drew (by assumption)) | (go_split_ands; exact QM.step (by assumption) (by assumption)) | (go_split_ands; exact QM.alloc (by assumption) _))
                        replace z8 := NB.below z8 hb
                        replace z9 := NB.below z9 hb
                        replace r3 := Rows4.below' r3 hb
                        clear hK K hb hH0_3_8_9
                        try simp only [Act.put, List.setIfInBounds_toArray, List.set_cons_zero, List.set_cons_succ]
                        refine wpAnyH_ready (rs := [10]) (by kernel_rfl) (by simp) ?_
                        refine AllReadyH.cons (opsS (opsS (opsS (opsS (opsS (opsS (opsS (opsS (opsS (opsS ops0)))))))))) (fun K hK => ?_) ?_
                        · obtain ⟨f0, f1, f2, f3, f4, f5, f6, f7⟩ := NB.of z8
                          have hqO := hH0_3_8_9_7.2.2.2.2.2.2.2.2.2.2
                          go_simp
                          try dsimp only
                          refine hK.out _ _ ?_ (fun hH0_3_8_9_7_10 => ?_)
                          · exact QM.of (QM.put hqO z8 (.slice A30 (parts n0 cs cs.length 0).length c30) (.slice A31 (parts n0 cs cs.length 1).length c31) (.slice A32 (parts n0 cs cs.length 2).length c32) (.slice A33 (parts n0 cs cs.length 3).length c33))
                          replace r3 := Rows4.put r3 z8 (.slice A30 (parts n0 cs cs.length 0).length c30) (.slice A31 (parts n0 cs cs.length 1).length c31) (.slice A32 (parts n0 cs cs.length 2).length c32) (.slice A33 (parts n0 cs cs.length 3).length c33)
                          replace r7 := Rows4.put r7 z8 (.slice A30 (parts n0 cs cs.length 0).length c30) (.slice A31 (parts n0 cs cs.length 1).length c31) (.slice A32 (parts n0 cs cs.length 2).length c32) (.slice A33 (parts n0 cs cs.length 3).length c33)
                          replace z9 := NB.far z9 (by first | exact hne | exact Ne.symm hne) (.slice A30 (parts n0 cs cs.length 0).length c30) (.slice A31 (parts n0 cs cs.length 1).length c31) (.slice A32 (parts n0 cs cs.length 2).length c32) (.slice A33 (parts n0 cs cs.length 3).length c33)
                          replace z8 := NB.put z8 (.slice A30 (parts n0 cs cs.length 0).length c30) (.slice A31 (parts n0 cs cs.length 1).length c31) (.slice A32 (parts n0 cs cs.length 2).length c32) (.slice A33 (parts n0 cs cs.length 3).length c33)
                          clear hK K hqO f0 f1 f2 f3 f4 f5 f6 f7 hH0_3_8_9_7
                          try simp only [Act.put, List.setIfInBounds_toArray, List.set_cons_zero, List.set_cons_succ]
                          refine wpAnyH_ready (rs := [11]) (by kernel_rfl) (by simp) ?_
                          refine AllReadyH.cons (opsS (opsS (opsS (opsS (opsS (opsS (opsS (opsS (opsS (opsS (opsS ops0))))))))))) (fun K hK => ?_) ?_
                          · obtain ⟨f0, f1, f2, f3, f4, f5, f6, f7⟩ := NB.of z9
                            have hqO := hH0_3_8_9_7_10.2.2.2.2.2.2.2.2.2.2
                            go_simp
                            try dsimp only
                            refine hK.out _ _ ?_ (fun hH0_3_8_9_7_10_11 => ?_)
                            · exact QM.of (QM.put hqO z9 (.slice A70 (parts n1 cs cs.length 0).length c70) (.slice A71 (parts n1 cs cs.length 1).length c71) (.slice A72 (parts n1 cs cs.length 2).length c72) (.slice A73 (parts n1 cs cs.length 3).length c73))
                            replace r3 := Rows4.put r3 z9 (.slice A70 (parts n1 cs cs.length 0).length c70) (.slice A71 (parts n1 cs cs.length 1).length c71) (.slice A72 (parts n1 cs cs.length 2).length c72) (.slice A73 (parts n1 cs cs.length 3).length c73)
                            replace r7 := Rows4.put r7 z9 (.slice A70 (parts n1 cs cs.length 0).length c70) (.slice A71 (parts n1 cs cs.length 1).length c71) (.slice A72 (parts n1 cs cs.length 2).length c72) (.slice A73 (parts n1 cs cs.length 3).length c73)
                            replace z8 := NB.far z8 (by first | exact hne | exact Ne.symm hne) (.slice A70 (parts n1 cs cs.length 0).length c70) (.slice A71 (parts n1 cs cs.length 1).length c71) (.slice A72 (parts n1 cs cs.length 2).length c72) (.slice A73 (parts n1 cs cs.length 3).length c73)
                            replace z9 := NB.put z9 (.slice A70 (parts n1 cs cs.length 0).length c70) (.slice A71 (parts n1 cs cs.length 1).length c71) (.slice A72 (parts n1 cs cs.length 2).length c72) (.slice A73 (parts n1 cs cs.length 3).length c73)
                            clear hK K hqO f0 f1 f2 f3 f4 f5 f6 f7 hH0_3_8_9_7_10
                            try simp only [Act.put, List.setIfInBounds_toArray, List.set_cons_zero, List.set_cons_succ]
                            refine wpAnyH_done (by kernel_rfl) ?_ _
                            have hqF := hH0_3_8_9_7_10_11.2.2.2.2.2.2.2.2.2.2
                            clear hH0_3_8_9_7_10_11
                            go_wp2
                            go_meet
                            case rel => exact ⟨_, _, A30, A31, A32, A33, c30, c31, c32, c33, A70, A71, A72, A73, c70, c71, c72, c73, rfl, rfl, hqF, z8, z9, r3, r7⟩
                          exact AllReadyH.nil
                        exact AllReadyH.nil
                      exact AllReadyH.nil
                    exact AllReadyH.nil
                  refine AllReadyH.cons (opsS (opsS (opsS (opsS (opsS (opsS (opsS (opsS (opsS ops0))))))))) (fun K hK => ?_) ?_
                  · go_simp
                    try dsimp only
                    refine hK.out _ _ ?_ (fun hH0_3_9 => ?_)
                    · (first | assumption | exact QM.drew (by assumption) | (go_split_ands; exact QM.drew (by assumption)) | (go_split_ands; exact QM.step (by assumption) (by assumption)) | (go_split_ands; exact QM.alloc (by assumption) _))
                    replace r3 := Rows4.alloc' r3 (.cells #[.slice none 0 0, .slice none 0 0, .slice none 0 0, .slice none 0 0] 39)
                    have z9 := NB.new hH0_3_9.2.2.2.2.2.2.2.2.2.2
                    clear hK K hH0_3
                    try simp only [Act.put, List.setIfInBounds_toArray, List.set_cons_zero, List.set_cons_succ]
                    generalize w3.alloc (.cells #[.slice none 0 0, .slice none 0 0, .slice none 0 0, .slice none 0 0] 39) = wz9 at *
                    generalize w3.heap.size = bz9 at *
                    try simp only [Act.put, List.setIfInBounds_toArray, List.set_cons_zero, List.set_cons_succ]
                    refine wpAnyH_ready (rs := [7, 8]) (by kernel_rfl) (by simp) ?_
                    refine AllReadyH.cons (opsS (opsS (opsS (opsS (opsS (opsS (opsS ops0))))))) (fun K hK => ?_) ?_
                    · go_simp
                      refine (split_any _ A ca cs _ hl (QM.rd H1.out (by first | assumption | (go_split_ands; assumption)))).mono ?_
                      rintro e w7 ⟨A70, A71, A72, A73, c70, c71, c72, c73, rfl, r7, hb⟩
                      try dsimp only
                      refine hK.out _ _ ?_ (fun hH0_3_9_7 => ?_)
                      · (first | assumption | exact QM.drew (by assumption) | (go_split_ands; exact QM.drew (by assumption)) | (go_split_ands; exact QM.step (by assumption) (by assumption)) | (go_split_ands; exact QM.alloc (by assumption) _))
                      replace z9 := NB.below z9 hb
                      replace r3 := Rows4.below' r3 hb
                      clear hK K hb hH0_3_9
                      try simp only [Act.put, List.setIfInBounds_toArray, List.set_cons_zero, List.set_cons_succ]
                      refine wpAnyH_ready (rs := [8]) (by kernel_rfl) (by simp) ?_
                      refine AllReadyH.cons (opsS (opsS (opsS (opsS (opsS (opsS (opsS (opsS ops0)))))))) (fun K hK => ?_) ?_
                      · go_simp
                        try dsimp only
                        refine hK.out _ _ ?_ (fun hH0_3_9_7_8 => ?_)
                        · (first | assumption | exact QM.drew (by assumption) | (go_split_ands; exact QM.drew (by assumption)) | (go_split_ands; exact QM.step (by assumption) (by assumption)) | (go_split_ands; exact QM.alloc (by assumption) _))
                        have hne := Nat.ne_of_lt z9.out.blk.lt
                        replace z9 := NB.alloc z9 (.cells #[.slice none 0 0, .slice none 0 0, .slice none 0 0, .slice none 0 0] 39)
                        replace r3 := Rows4.alloc' r3 (.cells #[.slice none 0 0, .slice none 0 0, .slice none 0 0, .slice none 0 0] 39)
                        replace r7 := Rows4.alloc' r7 (.cells #[.slice none 0 0, .slice none 0 0, .slice none 0 0, .slice none 0 0] 39)
                        have z8 := NB.new hH0_3_9_7_8.2.2.2.2.2.2.2.2.2.2
                        clear hK K hH0_3_9_7
                        try simp only [Act.put, List.setIfInBounds_toArray, List.set_cons_zero, List.set_cons_succ]
                        generalize w7.alloc (.cells #[.slice none 0 0, .slice none 0 0, .slice none 0 0, .slice none 0 0] 39) = wz8 at *
                        generalize w7.heap.size = bz8 at *
                        try simp only [Act.put, List.setIfInBounds_toArray, List.set_cons_zero, List.set_cons_succ]
                        refine wpAnyH_ready (rs := [10]) (by kernel_rfl) (by simp) ?_
                        refine AllReadyH.cons (opsS (opsS (opsS (opsS (opsS (opsS (opsS (opsS (opsS (opsS ops0)))))))))) (fun K hK => ?_) ?_
                        · obtain ⟨f0, f1, f2, f3, f4, f5, f6, f7⟩ := NB.of z8
                          have hqO := hH0_3_9_7_8.2.2.2.2.2.2.2.2.2.2
                          go_simp
                          try dsimp only
                          refine hK.out _ _ ?_ (fun hH0_3_9_7_8_10 => ?_)
                          · exact QM.of (QM.put hqO z8 (.slice A30 (parts n0 cs cs.length 0).length c30) (.slice A31 (parts n0 cs cs.length 1).length c31) (.slice A32 (parts n0 cs cs.length 2).length c32) (.slice A33 (parts n0 cs cs.length 3).length c33))
                          replace r3 := Rows4.put r3 z8 (.slice A30 (parts n0 cs cs.length 0).length c30) (.slice A31 (parts n0 cs cs.length 1).length c31) (.slice A32 (parts n0 cs cs.length 2).length c32) (.slice A33 (parts n0 cs cs.length 3).length c33)
                          replace r7 := Rows4.put r7 z8 (.slice A30 (parts n0 cs cs.length 0).length c30) (.slice A31 (parts n0 cs cs.length 1).length c31) (.slice A32 (parts n0 cs cs.length 2).length c32) (.slice A33 (parts n0 cs cs.length 3).length c33)
                          replace z9 := NB.far z9 (by first | exact hne | exact Ne.symm hne) (.slice A30 (parts n0 cs cs.length 0).length c30) (.slice A31 (parts n0 cs cs.length 1).length c31) (.slice A32 (parts n0 cs cs.length 2).length c32) (.slice A33 (parts n0 cs cs.length 3).length c33)
                          replace z8 := NB.put z8 (.slice A30 (parts n0 cs cs.length 0).length c30) (.slice A31 (parts n0 cs cs.length 1).length c31) (.slice A32 (parts n0 cs cs.length 2).length c32) (.slice A33 (parts n0 cs cs.length 3).length c33)
                          clear hK K hqO f0 f1 f2 f3 f4 f5 f6 f7 hH0_3_9_7_8
                          try simp only [Act.put, List.setIfInBounds_toArray, List.set_cons_zero, List.set_cons_succ]
                          refine wpAnyH_ready (rs := [11]) (by kernel_rfl) (by simp) ?_
                          refine AllReadyH.cons (opsS (opsS (opsS (opsS (opsS (opsS (opsS (opsS (opsS (opsS (opsS ops0))))))))))) (fun K hK => ?_) ?_
                          · obtain ⟨f0, f1, f2, f3, f4, f5, f6, f7⟩ := NB.of z9
                            have hqO := hH0_3_9_7_8_10.2.2.2.2.2.2.2.2.2.2
                            go_simp
                            try dsimp only
                            refine hK.out _ _ ?_ (fun hH0_3_9_7_8_10_11 => ?_)
                            · exact QM.of (QM.put hqO z9 (.slice A70 (parts n1 cs cs.length 0).length c70) (.slice A71 (parts n1 cs cs.length 1).length c71) (.slice A72 (parts n1 cs cs.length 2).length c72) (.slice A73 (parts n1 cs cs.length 3).length c73))
                            replace r3 := Rows4.put r3 z9 (.slice A70 (parts n1 cs cs.length 0).length c70) (.slice A71 (parts n1 cs cs.length 1).length c71) (.slice A72 (parts n1 cs cs.length 2).length c72) (.slice A73 (parts n1 cs cs.length 3).length c73)
                            replace r7 := Rows4.put r7 z9 (.slice A70 (parts n1 cs cs.length 0).length c70) (.slice A71 (parts n1 cs cs.length 1).length c71) (.slice A72 (parts n1 cs cs.length 2).length c72) (.slice A73 (parts n1 cs cs.length 3).length c73)
                            replace z8 := NB.far z8 (by first | exact hne | exact Ne.symm hne) (.slice A70 (parts n1 cs cs.length 0).length c70) (.slice A71 (parts n1 cs cs.length 1).length c71) (.slice A72 (parts n1 cs cs.length 2).length c72) (.slice A73 (parts n1 cs cs.length 3).length c73)
                            replace z9 := NB.put z9 (.slice A70 (parts n1 cs cs.length 0).length c70) (.slice A71 (parts n1 cs cs.length 1).length c71) (.slice A72 (parts n1 cs cs.length 2).length c72) (.slice A73 (parts n1 cs cs.length 3).length c73)
                            clear hK K hqO f0 f1 f2 f3 f4 f5 f6 f7 hH0_3_9_7_8_10
                            try simp only [Act.put, List.setIfInBounds_toArray, List.set_cons_zero, List.set_cons_succ]
                            refine wpAnyH_done (by kernel_rfl) ?_ _
                            have hqF := hH0_3_9_7_8_10_11.2.2.2.2.2.2.2.2.2.2
                            clear hH0_3_9_7_8_10_11
                            go_wp2
                            go_meet
                            case rel => exact ⟨_, _, A30, A31, A32, A33, c30, c31, c32, c33, A70, A71, A72, A73, c70, c71, c72, c73, rfl, rfl, hqF, z8, z9, r3, r7⟩
                          exact AllReadyH.nil
                        exact AllReadyH.nil
                      exact AllReadyH.nil
                    refine AllReadyH.cons (opsS (opsS (opsS (opsS (opsS (opsS (opsS (opsS ops0)))))))) (fun K hK => ?_) ?_
                    · go_simp
                      try dsimp only
                      refine hK.out _ _ ?_ (fun hH0_3_9_8 => ?_)
                      · (first | assumption | exact QM.drew (by assumption) | (go_split_ands; exact QM.drew (by assumption)) | (go_split_ands; exact QM.step (by assumption) (by assumption)) | (go_split_ands; exact QM.alloc (by assumption) _))
                      have hne := Nat.ne_of_lt z9.out.blk.lt
                      replace z9 := NB.alloc z9 (.cells #[.slice none 0 0, .slice none 0 0, .slice none 0 0, .slice none 0 0] 39)
                      replace r3 := Rows4.alloc' r3 (.cells #[.slice none 0 0, .slice none 0 0, .slice none 0 0, .slice none 0 0] 39)
                      have z8 := NB.new hH0_3_9_8.2.2.2.2.2.2.2.2.2.2
                      clear hK K hH0_3_9
                      try simp only [Act.put, List.setIfInBounds_toArray, List.set_cons_zero, List.set_cons_succ]
                      generalize wz9.alloc (.cells #[.slice none 0 0, .slice none 0 0, .slice none 0 0, .slice none 0 0] 39) = wz8 at *
                      generalize wz9.heap.size = bz8 at *
                      try simp only [Act.put, List.setIfInBounds_toArray, List.set_cons_zero, List.set_cons_succ]
                      refine wpAnyH_ready (rs := [7]) (by kernel_rfl) (by simp) ?_
                      refine AllReadyH.cons (opsS (opsS (opsS (opsS (opsS (opsS (opsS ops0))))))) (fun K hK => ?_) ?_
                      · go_simp
                        refine (split_any _ A ca cs _ hl (QM.rd H1.out (by first | assumption | (go_split_ands; assumption)))).mono ?_
                        rintro e w7 ⟨A70, A71, A72, A73, c70, c71, c72, c73, rfl, r7, hb⟩
                        try dsimp only
                        refine hK.out _ _ ?_ (fun hH0_3_9_8_7 => ?_)
                        · (first | assumption | exact QM.drew (by assumption) | (go_split_ands; exact QM.drew (by assumption)) | (go_split_ands; exact QM.step (by assumption) (by assumption)) | (go_split_ands; exact QM.alloc (by assumption) _))
                        replace z8 := NB.below z8 hb
                        replace z9 := NB.below z9 hb
                        replace r3 := Rows4.below' r3 hb
                        clear hK K hb hH0_3_9_8
                        try simp only [Act.put, List.setIfInBounds_toArray, List.set_cons_zero, List.set_cons_succ]
                        refine wpAnyH_ready (rs := [10]) (by kernel_rfl) (by simp) ?_
                        refine AllReadyH.cons (opsS (opsS (opsS (opsS (opsS (opsS (opsS (opsS (opsS (opsS ops0)))))))))) (fun K hK => ?_) ?_
                        · obtain ⟨f0, f1, f2, f3, f4, f5, f6, f7⟩ := NB.of z8
                          have hqO := hH0_3_9_8_7.2.2.2.2.2.2.2.2.2.2
                          go_simp
                          try dsimp only
                          refine hK.out _ _ ?_ (fun hH0_3_9_8_7_10 => ?_)
                          · exact QM.of (QM.put hqO z8 (.slice A30 (parts n0 cs cs.length 0).length c30) (.slice A31 (parts n0 cs cs.length 1).length c31) (.slice A32 (parts n0 cs cs.length 2).length c32) (.slice A33 (parts n0 cs cs.length 3).length c33))
                          replace r3 := Rows4.put r3 z8 (.slice A30 (parts n0 cs cs.length 0).length c30) (.slice A31 (parts n0 cs cs.length 1).length c31) (.slice A32 (parts n0 cs cs.length 2).length c32) (.slice A33 (parts n0 cs cs.length 3).length c33)
                          replace r7 := Rows4.put r7 z8 (.slice A30 (parts n0 cs cs.length 0).length c30) (.slice A31 (parts n0 cs cs.length 1).length c31) (.slice A32 (parts n0 cs cs.length 2).length c32) (.slice A33 (parts n0 cs cs.length 3).length c33)
                          replace z9 := NB.far z9 (by first | exact hne | exact Ne.symm hne) (.slice A30 (parts n0 cs cs.length 0).length c30) (.slice A31 (parts n0 cs cs.length 1).length c31) (.slice A32 (parts n0 cs cs.length 2).length c32) (.slice A33 (parts n0 cs cs.length 3).length c33)
                          replace z8 := NB.put z8 (.slice A30 (parts n0 cs cs.length 0).length c30) (.slice A31 (parts n0 cs cs.length 1).length c31) (.slice A32 (parts n0 cs cs.length 2).length c32) (.slice A33 (parts n0 cs cs.length 3).length c33)
                          clear hK K hqO f0 f1 f2 f3 f4 f5 f6 f7 hH0_3_9_8_7
                          try simp only [Act.put, List.setIfInBounds_toArray, List.set_cons_zero, List.set_cons_succ]
                          refine wpAnyH_ready (rs := [11]) (by kernel_rfl) (by simp) ?_
                          refine AllReadyH.cons (opsS (opsS (opsS (opsS (opsS (opsS (opsS (opsS (opsS (opsS (opsS ops0))))))))))) (fun K hK => ?_) ?_
                          · obtain ⟨f0, f1, f2, f3, f4, f5, f6, f7⟩ := NB.of z9
                            have hqO := hH0_3_9_8_7_10.2.2.2.2.2.2.2.2.2.2
                            go_simp
                            try dsimp only
                            refine hK.out _ _ ?_ (fun hH0_3_9_8_7_10_11 => ?_)
                            · exact QM.of (QM.put hqO z9 (.slice A70 (parts n1 cs cs.length 0).length c70) (.slice A71 (parts n1 cs cs.length 1).length c71) (.slice A72 (parts n1 cs cs.length 2).length c72) (.slice A73 (parts n1 cs cs.length 3).length c73))
                            replace r3 := Rows4.put r3 z9 (.slice A70 (parts n1 cs cs.length 0).length c70) (.slice A71 (parts n1 cs cs.length 1).length c71) (.slice A72 (parts n1 cs cs.length 2).length c72) (.slice A73 (parts n1 cs cs.length 3).length c73)
                            replace r7 := Rows4.put r7 z9 (.slice A70 (parts n1 cs cs.length 0).length c70) (.slice A71 (parts n1 cs cs.length 1).length c71) (.slice A72 (parts n1 cs cs.length 2).length c72) (.slice A73 (parts n1 cs cs.length 3).length c73)
                            replace z8 := NB.far z8 (by first | exact hne | exact Ne.symm hne) (.slice A70 (parts n1 cs cs.length 0).length c70) (.slice A71 (parts n1 cs cs.length 1).length c71) (.slice A72 (parts n1 cs cs.length 2).length c72) (.slice A73 (parts n1 cs cs.length 3).length c73)
                            replace z9 := NB.put z9 (.slice A70 (parts n1 cs cs.length 0).length c70) (.slice A71 (parts n1 cs cs.length 1).length c71) (.slice A72 (parts n1 cs cs.length 2).length c72) (.slice A73 (parts n1 cs cs.length 3).length c73)
                            clear hK K hqO f0 f1 f2 f3 f4 f5 f6 f7 hH0_3_9_8_7_10
                            try simp only [Act.put, List.setIfInBounds_toArray, List.set_cons_zero, List.set_cons_succ]
                            refine wpAnyH_done (by kernel_rfl) ?_ _
                            have hqF := hH0_3_9_8_7_10_11.2.2.2.2.2.2.2.2.2.2
                            clear hH0_3_9_8_7_10_11
                            go_wp2
                            go_meet
                            case rel => exact ⟨_, _, A30, A31, A32, A33, c30, c31, c32, c33, A70, A71, A72, A73, c70, c71, c72, c73, rfl, rfl, hqF, z8, z9, r3, r7⟩
                          exact AllReadyH.nil
                        exact AllReadyH.nil
                      exact AllReadyH.nil
                    exact AllReadyH.nil
                  exact AllReadyH.nil
                refine AllReadyH.cons (opsS (opsS (opsS (opsS (opsS (opsS (opsS (opsS ops0)))))))) (fun K hK => ?_) ?_
                · go_simp
                  try dsimp only
                  refine hK.out _ _ ?_ (fun hH0_8 => ?_)
                  · (first | assumption | exact QM.drew (by assumption) | (go_split_ands; exact QM.drew (by assumption)) | (go_split_ands; exact QM.step (by assumption) (by assumption)) | (go_split_ands; exact QM.alloc (by assumption) _))
                  have z8 := NB.new hH0_8.2.2.2.2.2.2.2.2.2.2
                  clear hK K hH0
                  try simp only [Act.put, List.setIfInBounds_toArray, List.set_cons_zero, List.set_cons_succ]
                  generalize wd.alloc (.cells #[.slice none 0 0, .slice none 0 0, .slice none 0 0, .slice none 0 0] 39) = wz8 at *
                  generalize wd.heap.size = bz8 at *
                  try simp only [Act.put, List.setIfInBounds_toArray, List.set_cons_zero, List.set_cons_succ]
                  refine wpAnyH_ready (rs := [3, 9]) (by kernel_rfl) (by simp) ?_
                  refine AllReadyH.cons (opsS (opsS (opsS ops0))) (fun K hK => ?_) ?_
                  · go_simp
                    refine (split_any _ A ca cs _ hl (QM.rd H1.out (by first | assumption | (go_split_ands; assumption)))).mono ?_
                    rintro e w3 ⟨A30, A31, A32, A33, c30, c31, c32, c33, rfl, r3, hb⟩
                    try dsimp only
                    refine hK.out _ _ ?_ (fun hH0_8_3 => ?_)
                    · (first | assumption | exact QM.drew (by assumption) | (go_split_ands; exact QM.drew (by assumption)) | (go_split_ands; exact QM.step (by assumption) (by assumption)) | (go_split_ands; exact QM.alloc (by assumption) _))
                    replace z8 := NB.below z8 hb
                    clear hK K hb hH0_8
                    try simp only [Act.put, List.setIfInBounds_toArray, List.set_cons_zero, List.set_cons_succ]
                    refine wpAnyH_ready (rs := [7, 9]) (by kernel_rfl) (by simp) ?_
                    refine AllReadyH.cons (opsS (opsS (opsS (opsS (opsS (opsS (opsS ops0))))))) (fun K hK => ?_) ?_
                    · go_simp
                      refine (split_any _ A ca cs _ hl (QM.rd H1.out (by first | assumption | (go_split_ands; assumption)))).mono ?_
                      rintro e w7 ⟨A70, A71, A72, A73, c70, c71, c72, c73, rfl, r7, hb⟩
                      try dsimp only
                      refine hK.out _ _ ?_ (fun hH0_8_3_7 => ?_)
                      · (first | assumption | exact QM.drew (by assumption) | (go_split_ands; exact QM.drew (by assumption)) | (go_split_ands; exact QM.step (by assumption) (by assumption)) | (go_split_ands; exact QM.alloc (by assumption) _))
                      replace z8 := NB.below z8 hb
                      replace r3 := Rows4.below' r3 hb
                      clear hK K hb hH0_8_3
                      try simp only [Act.put, List.setIfInBounds_toArray, List.set_cons_zero, List.set_cons_succ]
                      refine wpAnyH_ready (rs := [9]) (by kernel_rfl) (by simp) ?_
                      refine AllReadyH.cons (opsS (opsS (opsS (opsS (opsS (opsS (opsS (opsS (opsS ops0))))))))) (fun K hK => ?_) ?_
                      · go_simp
                        try dsimp only
                        refine hK.out _ _ ?_ (fun hH0_8_3_7_9 => ?_)
                        · (first | assumption | exact QM.drew (by assumption) | (go_split_ands; exact QM.drew (by assumption)) | (go_split_ands; exact QM.step (by assumption) (by assumption)) | (go_split_ands; exact QM.alloc (by assumption) _))
                        have hne := Nat.ne_of_lt z8.out.blk.lt
                        replace z8 := NB.alloc z8 (.cells #[.slice none 0 0, .slice none 0 0, .slice none 0 0, .slice none 0 0] 39)
                        replace r3 := Rows4.alloc' r3 (.cells #[.slice none 0 0, .slice none 0 0, .slice none 0 0, .slice none 0 0] 39)
                        replace r7 := Rows4.alloc' r7 (.cells #[.slice none 0 0, .slice none 0 0, .slice none 0 0, .slice none 0 0] 39)
                        have z9 := NB.new hH0_8_3_7_9.2.2.2.2.2.2.2.2.2.2
                        clear hK K hH0_8_3_7
                        try simp only [Act.put, List.setIfInBounds_toArray, List.set_cons_zero, List.set_cons_succ]
                        generalize w7.alloc (.cells #[.slice none 0 0, .slice none 0 0, .slice none 0 0, .slice none 0 0] 39) = wz9 at *
                        generalize w7.heap.size = bz9 at *
                        try simp only [Act.put, List.setIfInBounds_toArray, List.set_cons_zero, List.set_cons_succ]
                        refine wpAnyH_ready (rs := [10]) (by kernel_rfl) (by simp) ?_
                        refine AllReadyH.cons (opsS (opsS (opsS (opsS (opsS (opsS (opsS (opsS (opsS (opsS ops0)))))))))) (fun K hK => ?_) ?_
                        · obtain ⟨f0, f1, f2, f3, f4, f5, f6, f7⟩ := NB.of z8
                          have hqO := hH0_8_3_7_9.2.2.2.2.2.2.2.2.2.2
                          go_simp
                          try dsimp only
                          refine hK.out _ _ ?_ (fun hH0_8_3_7_9_10 => ?_)
                          · exact QM.of (QM.put hqO z8 (.slice A30 (parts n0 cs cs.length 0).length c30) (.slice A31 (parts n0 cs cs.length 1).length c31) (.slice A32 (parts n0 cs cs.length 2).length c32) (.slice A33 (parts n0 cs cs.length 3).length c33))
                          replace r3 := Rows4.put r3 z8 (.slice A30 (parts n0 cs cs.length 0).length c30) (.slice A31 (parts n0 cs cs.length 1).length c31) (.slice A32 (parts n0 cs cs.length 2).length c32) (.slice A33 (parts n0 cs cs.length 3).length c33)
                          replace r7 := Rows4.put r7 z8 (.slice A30 (parts n0 cs cs.length 0).length c30) (.slice A31 (parts n0 cs cs.length 1).length c31) (.slice A32 (parts n0 cs cs.length 2).length c32) (.slice A33 (parts n0 cs cs.length 3).length c33)
                          replace z9 := NB.far z9 (by first | exact hne | exact Ne.symm hne) (.slice A30 (parts n0 cs cs.length 0).length c30) (.slice A31 (parts n0 cs cs.length 1).length c31) (.slice A32 (parts n0 cs cs.length 2).length c32) (.slice A33 (parts n0 cs cs.length 3).length c33)
                          replace z8 := NB.put z8 (.slice A30 (parts n0 cs cs.length 0).length c30) (.slice A31 (parts n0 cs cs.length 1).length c31) (.slice A32 (parts n0 cs cs.length 2).length c32) (.slice A33 (parts n0 cs cs.length 3).length c33)
                          clear hK K hqO f0 f1 f2 f3 f4 f5 f6 f7 hH0_8_3_7_9
                          try simp only [Act.put, List.setIfInBounds_toArray, List.set_cons_zero, List.set_cons_succ]
                          refine wpAnyH_ready (rs := [11]) (by kernel_rfl) (by simp) ?_
                          refine AllReadyH.cons (opsS (opsS (opsS (opsS (opsS (opsS (opsS (opsS (opsS (opsS (opsS ops0))))))))))) (fun K hK => ?_) ?_
                          · obtain ⟨f0, f1, f2, f3, f4, f5, f6, f7⟩ := NB.of z9
                            have hqO := hH0_8_3_7_9_10.2.2.2.2.2.2.2.2.2.2
                            go_simp
                            try dsimp only
                            refine hK.out _ _ ?_ (fun hH0_8_3_7_9_10_11 => ?_)
                            · exact QM.of (QM.put hqO z9 (.slice A70 (parts n1 cs cs.length 0).length c70) (.slice A71 (parts n1 cs cs.length 1).length c71) (.slice A72 (parts n1 cs cs.length 2).length c72) (.slice A73 (parts n1 cs cs.length 3).length c73))
                            replace r3 := Rows4.put r3 z9 (.slice A70 (parts n1 cs cs.length 0).length c70) (.slice A71 (parts n1 cs cs.length 1).length c71) (.slice A72 (parts n1 cs cs.length 2).length c72) (.slice A73 (parts n1 cs cs.length 3).length c73)
                            replace r7 := Rows4.put r7 z9 (.slice A70 (parts n1 cs cs.length 0).length c70) (.slice A71 (parts n1 cs cs.length 1).length c71) (.slice A72 (parts n1 cs cs.length 2).length c72) (.slice A73 (parts n1 cs cs.length 3).length c73)
                            replace z8 := NB.far z8 (by first | exact hne | exact Ne.symm hne) (.slice A70 (parts n1 cs cs.length 0).length c70) (.slice A71 (parts n1 cs cs.length 1).length c71) (.slice A72 (parts n1 cs cs.length 2).length c72) (.slice A73 (parts n1 cs cs.length 3).length c73)
                            replace z9 := NB.put z9 (.slice A70 (parts n1 cs cs.length 0).length c70) (.slice A71 (parts n1 cs cs.length 1).length c71) (.slice A72 (parts n1 cs cs.length 2).length c72) (.slice A73 (parts n1 cs cs.length 3).length c73)
                            clear hK K hqO f0 f1 f2 f3 f4 f5 f6 f7 hH0_8_3_7_9_10
                            try simp only [Act.put, List.setIfInBounds_toArray, List.set_cons_zero, List.set_cons_succ]
                            refine wpAnyH_done (by kernel_rfl) ?_ _
                            have hqF := hH0_8_3_7_9_10_11.2.2.2.2.2.2.2.2.2.2
                            clear hH0_8_3_7_9_10_11
                            go_wp2
                            go_meet
                            case rel => exact ⟨_, _, A30, A31, A32, A33, c30, c31, c32, c33, A70, A71, A72, A73, c70, c71, c72, c73, rfl, rfl, hqF, z8, z9, r3, r7⟩
                          exact AllReadyH.nil
                        exact AllReadyH.nil
                      exact AllReadyH.nil
                    refine AllReadyH.cons (opsS (opsS (opsS (opsS (opsS (opsS (opsS (opsS (opsS ops0))))))))) (fun K hK => ?_) ?_
                    · go_simp
                      try dsimp only
                      refine hK.out _ _ ?_ (fun hH0_8_3_9 => ?_)
                      · (first | assumption | exact QM.drew (by assumption) | (go_split_ands; exact QM.drew (by assumption)) | (go_split_ands; exact QM.step (by assumption) (by assumption)) | (go_split_ands; exact QM.alloc (by assumption) _))
                      have hne := Nat.ne_of_lt z8.out.blk.lt
                      replace z8 := NB.alloc z8 (.cells #[.slice none 0 0, .slice none 0 0, .slice none 0 0, .slice none 0 0] 39)
                      replace r3 := Rows4.alloc' r3 (.cells #[.slice none 0 0, .slice none 0 0, .slice none 0 0, .slice none 0 0] 39)
                      have z9 := NB.new hH0_8_3_9.2.2.2.2.2.2.2.2.2.2
                      clear hK K hH0_8_3
                      try simp only [Act.put, List.setIfInBounds_toArray, List.set_cons_zero, List.set_cons_succ]
                      generalize w3.alloc (.cells #[.slice none 0 0, .slice none 0 0, .slice none 0 0, .slice none 0 0] 39) = wz9 at *
                      generalize w3.heap.size = bz9 at *
                      try simp only [Act.put, List.setIfInBounds_toArray, List.set_cons_zero, List.set_cons_succ]
                      refine wpAnyH_ready (rs := [7]) (by kernel_rfl) (by simp) ?_
                      refine AllReadyH.cons (opsS (opsS (opsS (opsS (opsS (opsS (opsS ops0))))))) (fun K hK => ?_) ?_
                      · go_simp
                        refine (split_any _ A ca cs _ hl (QM.rd H1.out (by first | assumption | (go_split_ands; assumption)))).mono ?_
                        rintro e w7 ⟨A70, A71, A72, A73, c70, c71, c72, c73, rfl, r7, hb⟩
                        try dsimp only
                        refine hK.out _ _ ?_ (fun hH0_8_3_9_7 => ?_)
                        · (first | assumption | exact QM.drew (by assumption) | (go_split_ands; exact QM.drew (by assumption)) | (go_split_ands; exact QM.step (by assumption) (by assumption)) | (go_split_ands; exact QM.alloc (by assumption) _))
                        replace z8 := NB.below z8 hb
                        replace z9 := NB.below z9 hb
                        replace r3 := Rows4.below' r3 hb
                        clear hK K hb hH0_8_3_9
                        try simp only [Act.put, List.setIfInBounds_toArray, List.set_cons_zero, List.set_cons_succ]
                        refine wpAnyH_ready (rs := [10]) (by kernel_rfl) (by simp) ?_
                        refine AllReadyH.cons (opsS (opsS (opsS (opsS (opsS (opsS (opsS (opsS (opsS (opsS ops0)))))))))) (fun K hK => ?_) ?_
                        · obtain ⟨f0, f1, f2, f3, f4, f5, f6, f7⟩ := NB.of z8
                          have hqO := hH0_8_3_9_7.2.2.2.2.2.2.2.2.2.2
                          go_simp
                          try dsimp only
                          refine hK.out _ _ ?_ (fun hH0_8_3_9_7_10 => ?_)
                          · exact QM.of (QM.put hqO z8 (.slice A30 (parts n0 cs cs.length 0).length c30) (.slice A31 (parts n0 cs cs.length 1).length c31) (.slice A32 (parts n0 cs cs.length 2).length c32) (.slice A33 (parts n0 cs cs.length 3).length c33))
                          replace r3 := Rows4.put r3 z8 (.slice A30 (parts n0 cs cs.length 0).length c30) (.slice A31 (parts n0 cs cs.length 1).length c31) (.slice A32 (parts n0 cs cs.length 2).length c32) (.slice A33 (parts n0 cs cs.length 3).length c33)
                          replace r7 := Rows4.put r7 z8 (.slice A30 (parts n0 cs cs.length 0).length c30) (.slice A31 (parts n0 cs cs.length 1).length c31) (.slice A32 (parts n0 cs cs.length 2).length c32) (.slice A33 (parts n0 cs cs.length 3).length c33)
                          replace z9 := NB.far z9 (by first | exact hne | exact Ne.symm hne) (.slice A30 (parts n0 cs cs.length 0).length c30) (.slice A31 (parts n0 cs cs.length 1).length c31) (.slice A32 (parts n0 cs cs.length 2).length c32) (.slice A33 (parts n0 cs cs.length 3).length c33)
                          replace z8 := NB.put z8 (.slice A30 (parts n0 cs cs.length 0).length c30) (.slice A31 (parts n0 cs cs.length 1).length c31) (.slice A32 (parts n0 cs cs.length 2).length c32) (.slice A33 (parts n0 cs cs.length 3).length c33)
                          clear hK K hqO f0 f1 f2 f3 f4 f5 f6 f7 hH0_8_3_9_7
                          try simp only [Act.put, List.setIfInBounds_toArray, List.set_cons_zero, List.set_cons_succ]
                          refine wpAnyH_ready (rs := [11]) (by kernel_rfl) (by simp) ?_
                          refine AllReadyH.cons (opsS (opsS (opsS (opsS (opsS (opsS (opsS (opsS (opsS (opsS (opsS ops0))))))))))) (fun K hK => ?_) ?_
                          · obtain ⟨f0, f1, f2, f3, f4, f5, f6, f7⟩ := NB.of z9
                            have hqO := hH0_8_3_9_7_10.2.2.2.2.2.2.2.2.2.2
                            go_simp
                            try dsimp only
                            refine hK.out _ _ ?_ (fun hH0_8_3_9_7_10_11 => ?_)
                            · exact QM.of (QM.put hqO z9 (.slice A70 (parts n1 cs cs.length 0).length c70) (.slice A71 (parts n1 cs cs.length 1).length c71) (.slice A72 (parts n1 cs cs.length 2).length c72) (.slice A73 (parts n1 cs cs.length 3).length c73))
                            replace r3 := Rows4.put r3 z9 (.slice A70 (parts n1 cs cs.length 0).length c70) (.slice A71 (parts n1 cs cs.length 1).length c71) (.slice A72 (parts n1 cs cs.length 2).length c72) (.slice A73 (parts n1 cs cs.length 3).length c73)
                            replace r7 := Rows4.put r7 z9 (.slice A70 (parts n1 cs cs.length 0).length c70) (.slice A71 (parts n1 cs cs.length 1).length c71) (.slice A72 (parts n1 cs cs.length 2).length c72) (.slice A73 (parts n1 cs cs.length 3).length c73)
                            replace z8 := NB.far z8 (by first | exact hne | exact Ne.symm hne) (.slice A70 (parts n1 cs cs.length 0).length c70) (.slice A71 (parts n1 cs cs.length 1).length c71) (.slice A72 (parts n1 cs cs.length 2).length c72) (.slice A73 (parts n1 cs cs.length 3).length c73)
                            replace z9 := NB.put z9 (.slice A70 (parts n1 cs cs.length 0).length c70) (.slice A71 (parts n1 cs cs.length 1).length c71) (.slice A72 (parts n1 cs cs.length 2).length c72) (.slice A73 (parts n1 cs cs.length 3).length c73)
                            clear hK K hqO f0 f1 f2 f3 f4 f5 f6 f7 hH0_8_3_9_7_10
                            try simp only [Act.put, List.setIfInBounds_toArray, List.set_cons_zero, List.set_cons_succ]
                            refine wpAnyH_done (by kernel_rfl) ?_ _
                            have hqF := hH0_8_3_9_7_10_11.2.2.2.2.2.2.2.2.2.2
                            clear hH0_8_3_9_7_10_11
                            go_wp2
                            go_meet
                            case rel => exact ⟨_, _, A30, A31, A32, A33, c30, c31, c32, c33, A70, A71, A72, A73, c70, c71, c72, c73, rfl, rfl, hqF, z8, z9, r3, r7⟩
                          exact AllReadyH.nil
                        exact AllReadyH.nil
                      exact AllReadyH.nil
                    exact AllReadyH.nil
                  refine AllReadyH.cons (opsS (opsS (opsS (opsS (opsS (opsS (opsS (opsS (opsS ops0))))))))) (fun K hK => ?_) ?_
                  · go_simp
                    try dsimp only
                    refine hK.out _ _ ?_ (fun hH0_8_9 => ?_)
                    · (first | assumption | exact QM.drew (by assumption) | (go_split_ands; exact QM.drew (by assumption)) | (go_split_ands; exact QM.step (by assumption) (by assumption)) | (go_split_ands; exact QM.alloc (by assumption) _))
                    have hne := Nat.ne_of_lt z8.out.blk.lt
                    replace z8 := NB.alloc z8 (.cells #[.slice none 0 0, .slice none 0 0, .slice none 0 0, .slice none 0 0] 39)
                    have z9 := NB.new hH0_8_9.2.2.2.2.2.2.2.2.2.2
                    clear hK K hH0_8
                    try simp only [Act.put, List.setIfInBounds_toArray, List.set_cons_zero, List.set_cons_succ]
                    generalize wz8.alloc (.cells #[.slice none 0 0, .slice none 0 0, .slice none 0 0, .slice none 0 0] 39) = wz9 at *
                    generalize wz8.heap.size = bz9 at *
                    try simp only [Act.put, List.setIfInBounds_toArray, List.set_cons_zero, List.set_cons_succ]
                    refine wpAnyH_ready (rs := [3]) (by kernel_rfl) (by simp) ?_
                    refine AllReadyH.cons (opsS (opsS (opsS ops0))) (fun K hK => ?_) ?_
                    · go_simp
                      refine (split_any _ A ca cs _ hl (QM.rd H1.out (by first | assumption | (go_split_ands; assumption)))).mono ?_
                      rintro e w3 ⟨A30, A31, A32, A33, c30, c31, c32, c33, rfl, r3, hb⟩
                      try dsimp only
                      refine hK.out _ _ ?_ (fun hH0_8_9_3 => ?_)
                      · (first | assumption | exact QM.drew (by assumption) | (go_split_ands; exact QM.drew (by assumption)) | (go_split_ands; exact QM.step (by assumption) (by assumption)) | (go_split_ands; exact QM.alloc (by assumption) _))
                      replace z8 := NB.below z8 hb
                      replace z9 := NB.below z9 hb
                      clear hK K hb hH0_8_9
                      try simp only [Act.put, List.setIfInBounds_toArray, List.set_cons_zero, List.set_cons_succ]
                      refine wpAnyH_ready (rs := [7]) (by kernel_rfl) (by simp) ?_
                      refine AllReadyH.cons (opsS (opsS (opsS (opsS (opsS (opsS (opsS ops0))))))) (fun K hK => ?_) ?_
                      · go_simp
                        refine (split_any _ A ca cs _ hl (QM.rd H1.out (by first | assumption | (go_split_ands; assumption)))).mono ?_
                        rintro e w7 ⟨A70, A71, A72, A73, c70, c71, c72, c73, rfl, r7, hb⟩
                        try dsimp only
                        refine hK.out _ _ ?_ (fun hH0_8_9_3_7 => ?_)
                        · (first | assumption | exact QM.drew (by assumption) | (go_split_ands; exact QM.drew (by assumption)) | (go_split_ands; exact QM.step (by assumption) (by assumption)) | (go_split_ands; exact QM.alloc (by assumption) _))
                        replace z8 := NB.below z8 hb
                        replace z9 := NB.below z9 hb
                        replace r3 := Rows4.below' r3 hb
                        clear hK K hb hH0_8_9_3
                        try simp only [Act.put, List.setIfInBounds_toArray, List.set_cons_zero, List.set_cons_succ]
                        refine wpAnyH_ready (rs := [10]) (by kernel_rfl) (by simp) ?_
                        refine AllReadyH.cons (opsS (opsS (opsS (opsS (opsS (opsS (opsS (opsS (opsS (opsS ops0)))))))))) (fun K hK => ?_) ?_
                        · obtain ⟨f0, f1, f2, f3, f4, f5, f6, f7⟩ := NB.of z8
                          have hqO := hH0_8_9_3_7.2.2.2.2.2.2.2.2.2.2
                          go_simp
                          try dsimp only
                          refine hK.out _ _ ?_ (fun hH0_8_9_3_7_10 => ?_)
                          · exact QM.of (QM.put hqO z8 (.slice A30 (parts n0 cs cs.length 0).length c30) (.slice A31 (parts n0 cs cs.length 1).length c31) (.slice A32 (parts n0 cs cs.length 2).length c32) (.slice A33 (parts n0 cs cs.length 3).length c33))
                          replace r3 := Rows4.put r3 z8 (.slice A30 (parts n0 cs cs.length 0).length c30) (.slice A31 (parts n0 cs cs.length 1).length c31) (.slice A32 (parts n0 cs cs.length 2).length c32) (.slice A33 (parts n0 cs cs.length 3).length c33)
                          replace r7 := Rows4.put r7 z8 (.slice A30 (parts n0 cs cs.length 0).length c30) (.slice A31 (parts n0 cs cs.length 1).length c31) (.slice A32 (parts n0 cs cs.length 2).length c32) (.slice A33 (parts n0 cs cs.length 3).length c33)
                          replace z9 := NB.far z9 (by first | exact hne | exact Ne.symm hne) (.slice A30 (parts n0 cs cs.length 0).length c30) (.slice A31 (parts n0 cs cs.length 1).length c31) (.slice A32 (parts n0 cs cs.length 2).length c32) (.slice A33 (parts n0 cs cs.length 3).length c33)
                          replace z8 := NB.put z8 (.slice A30 (parts n0 cs cs.length 0).length c30) (.slice A31 (parts n0 cs cs.length 1).length c31) (.slice A32 (parts n0 cs cs.length 2).length c32) (.slice A33 (parts n0 cs cs.length 3).length c33)
                          clear hK K hqO f0 f1 f2 f3 f4 f5 f6 f7 hH0_8_9_3_7
                          try simp only [Act.put, List.setIfInBounds_toArray, List.set_cons_zero, List.set_cons_succ]
                          refine wpAnyH_ready (rs := [11]) (by kernel_rfl) (by simp) ?_
                          refine AllReadyH.cons (opsS (opsS (opsS (opsS (opsS (opsS (opsS (opsS (opsS (opsS (opsS ops0))))))))))) (fun K hK => ?_) ?_
                          · obtain ⟨f0, f1, f2, f3, f4, f5, f6, f7⟩ := NB.of z9
                            have hqO := hH0_8_9_3_7_10.2.2.2.2.2.2.2.2.2.2
                            go_simp
                            try dsimp only
                            refine hK.out _ _ ?_ (fun hH0_8_9_3_7_10_11 => ?_)
                            · exact QM.of (QM.put hqO z9 (.slice A70 (parts n1 cs cs.length 0).length c70) (.slice A71 (parts n1 cs cs.length 1).length c71) (.slice A72 (parts n1 cs cs.length 2).length c72) (.slice A73 (parts n1 cs cs.length 3).length c73))
                            replace r3 := Rows4.put r3 z9 (.slice A70 (parts n1 cs cs.length 0).length c70) (.slice A71 (parts n1 cs cs.length 1).length c71) (.slice A72 (parts n1 cs cs.length 2).length c72) (.slice A73 (parts n1 cs cs.length 3).length c73)
                            replace r7 := Rows4.put r7 z9 (.slice A70 (parts n1 cs cs.length 0).length c70) (.slice A71 (parts n1 cs cs.length 1).length c71) (.slice A72 (parts n1 cs cs.length 2).length c72) (.slice A73 (parts n1 cs cs.length 3).length c73)
                            replace z8 := NB.far z8 (by first | exact hne | exact Ne.symm hne) (.slice A70 (parts n1 cs cs.length 0).length c70) (.slice A71 (parts n1 cs cs.length 1).length c71) (.slice A72 (parts n1 cs cs.length 2).length c72) (.slice A73 (parts n1 cs cs.length 3).length c73)
                            replace z9 := NB.put z9 (.slice A70 (parts n1 cs cs.length 0).length c70) (.slice A71 (parts n1 cs cs.length 1).length c71) (.slice A72 (parts n1 cs cs.length 2).length c72) (.slice A73 (parts n1 cs cs.length 3).length c73)
                            clear hK K hqO f0 f1 f2 f3 f4 f5 f6 f7 hH0_8_9_3_7_10
                            try simp only [Act.put, List.setIfInBounds_toArray, List.set_cons_zero, List.set_cons_succ]
                            refine wpAnyH_done (by kernel_rfl) ?_ _
                            have hqF := hH0_8_9_3_7_10_11.2.2.2.2.2.2.2.2.2.2
                            clear hH0_8_9_3_7_10_11
                            go_wp2
                            go_meet
                            case rel => exact ⟨_, _, A30, A31, A32, A33, c30, c31, c32, c33, A70, A71, A72, A73, c70, c71, c72, c73, rfl, rfl, hqF, z8, z9, r3, r7⟩
                          exact AllReadyH.nil
                        exact AllReadyH.nil
                      exact AllReadyH.nil
                    exact AllReadyH.nil
                  exact AllReadyH.nil
                refine AllReadyH.cons (opsS (opsS (opsS (opsS (opsS (opsS (opsS (opsS (opsS ops0))))))))) (fun K hK => ?_) ?_
                · go_simp
                  try dsimp only
                  refine hK.out _ _ ?_ (fun hH0_9 => ?_)
                  · (first | assumption | exact QM.drew (by assumption) | (go_split_ands; exact QM.drew (by assumption)) | (go_split_ands; exact QM.step (by assumption) (by assumption)) | (go_split_ands; exact QM.alloc (by assumption) _))
                  have z9 := NB.new hH0_9.2.2.2.2.2.2.2.2.2.2
                  clear hK K hH0
                  try simp only [Act.put, List.setIfInBounds_toArray, List.set_cons_zero, List.set_cons_succ]
                  generalize wd.alloc (.cells #[.slice none 0 0, .slice none 0 0, .slice none 0 0, .slice none 0 0] 39) = wz9 at *
                  generalize wd.heap.size = bz9 at *
                  try simp only [Act.put, List.setIfInBounds_toArray, List.set_cons_zero, List.set_cons_succ]
                  refine wpAnyH_ready (rs := [3, 8]) (by kernel_rfl) (by simp) ?_
                  refine AllReadyH.cons (opsS (opsS (opsS ops0))) (fun K hK => ?_) ?_
                  · go_simp
                    refine (split_any _ A ca cs _ hl (QM.rd H1.out (by first | assumption | (go_split_ands; assumption)))).mono ?_
                    rintro e w3 ⟨A30, A31, A32, A33, c30, c31, c32, c33, rfl, r3, hb⟩
                    try dsimp only
                    refine hK.out _ _ ?_ (fun hH0_9_3 => ?_)
                    · (first | assumption | exact QM.drew (by assumption) | (go_split_ands; exact QM.drew (by assumption)) | (go_split_ands; exact QM.step (by assumption) (by assumption)) | (go_split_ands; exact QM.alloc (by assumption) _))
                    replace z9 := NB.below z9 hb
                    clear hK K hb hH0_9
                    try simp only [Act.put, List.setIfInBounds_toArray, List.set_cons_zero, List.set_cons_succ]
                    refine wpAnyH_ready (rs := [7, 8]) (by kernel_rfl) (by simp) ?_
                    refine AllReadyH.cons (opsS (opsS (opsS (opsS (opsS (opsS (opsS ops0))))))) (fun K hK => ?_) ?_
                    · go_simp
                      refine (split_any _ A ca cs _ hl (QM.rd H1.out (by first | assumption | (go_split_ands; assumption)))).mono ?_
                      rintro e w7 ⟨A70, A71, A72, A73, c70, c71, c72, c73, rfl, r7, hb⟩
                      try dsimp only
                      refine hK.out _ _ ?_ (fun hH0_9_3_7 => ?_)
                      · (first | assumption | exact QM.drew (by assumption) | (go_split_ands; exact QM.drew (by assumption)) | (go_split_ands; exact QM.step (by assumption) (by assumption)) | (go_split_ands; exact QM.alloc (by assumption) _))
                      replace z9 := NB.below z9 hb
                      replace r3 := Rows4.below' r3 hb
                      clear hK K hb hH0_9_3
                      try simp only [Act.put, List.setIfInBounds_toArray, List.set_cons_zero, List.set_cons_succ]
                      refine wpAnyH_ready (rs := [8]) (by kernel_rfl) (by simp) ?_
                      refine AllReadyH.cons (opsS (opsS (opsS (opsS (opsS (opsS (opsS (opsS ops0)))))))) (fun K hK => ?_) ?_
                      · go_simp
                        try dsimp only
                        refine hK.out _ _ ?_ (fun hH0_9_3_7_8 => ?_)
                        · (first | assumption | exact QM.drew (by assumption) | (go_split_ands; exact QM.drew (by assumption)) | (go_split_ands; exact QM.step (by assumption) (by assumption)) | (go_split_ands; exact QM.alloc (by assumption) _))
                        have hne := Nat.ne_of_lt z9.out.blk.lt
                        replace z9 := NB.alloc z9 (.cells #[.slice none 0 0, .slice none 0 0, .slice none 0 0, .slice none 0 0] 39)
                        replace r3 := Rows4.alloc' r3 (.cells #[.slice none 0 0, .slice none 0 0, .slice none 0 0, .slice none 0 0] 39)
                        replace r7 := Rows4.alloc' r7 (.cells #[.slice none 0 0, .slice none 0 0, .slice none 0 0, .slice none 0 0] 39)
                        have z8 := NB.new hH0_9_3_7_8.2.2.2.2.2.2.2.2.2.2
                        clear hK K hH0_9_3_7
                        try simp only [Act.put, List.setIfInBounds_toArray, List.set_cons_zero, List.set_cons_succ]
                        generalize w7.alloc (.cells #[.slice none 0 0, .slice none 0 0, .slice none 0 0, .slice none 0 0] 39) = wz8 at *
                        generalize w7.heap.size = bz8 at *
                        try simp only [Act.put, List.setIfInBounds_toArray, List.set_cons_zero, List.set_cons_succ]
                        refine wpAnyH_ready (rs := [10]) (by kernel_rfl) (by simp) ?_
                        refine AllReadyH.cons (opsS (opsS (opsS (opsS (opsS (opsS (opsS (opsS (opsS (opsS ops0)))))))))) (fun K hK => ?_) ?_
                        · obtain ⟨f0, f1, f2, f3, f4, f5, f6, f7⟩ := NB.of z8
                          have hqO := hH0_9_3_7_8.2.2.2.2.2.2.2.2.2.2
                          go_simp
                          try dsimp only
                          refine hK.out _ _ ?_ (fun hH0_9_3_7_8_10 => ?_)
                          · exact QM.of (QM.put hqO z8 (.slice A30 (parts n0 cs cs.length 0).length c30) (.slice A31 (parts n0 cs cs.length 1).length c31) (.slice A32 (parts n0 cs cs.length 2).length c32) (.slice A33 (parts n0 cs cs.length 3).length c33))
                          replace r3 := Rows4.put r3 z8 (.slice A30 (parts n0 cs cs.length 0).length c30) (.slice A31 (parts n0 cs cs.length 1).length c31) (.slice A32 (parts n0 cs cs.length 2).length c32) (.slice A33 (parts n0 cs cs.length 3).length c33)
                          replace r7 := Rows4.put r7 z8 (.slice A30 (parts n0 cs cs.length 0).length c30) (.slice A31 (parts n0 cs cs.length 1).length c31) (.slice A32 (parts n0 cs cs.length 2).length c32) (.slice A33 (parts n0 cs cs.length 3).length c33)
                          replace z9 := NB.far z9 (by first | exact hne | exact Ne.symm hne) (.slice A30 (parts n0 cs cs.length 0).length c30) (.slice A31 (parts n0 cs cs.length 1).length c31) (.slice A32 (parts n0 cs cs.length 2).length c32) (.slice A33 (parts n0 cs cs.length 3).length c33)
                          replace z8 := NB.put z8 (.slice A30 (parts n0 cs cs.length 0).length c30) (.slice A31 (parts n0 cs cs.length 1).length c31) (.slice A32 (parts n0 cs cs.length 2).length c32) (.slice A33 (parts n0 cs cs.length 3).length c33)
                          clear hK K hqO f0 f1 f2 f3 f4 f5 f6 f7 hH0_9_3_7_8
                          try simp only [Act.put, List.setIfInBounds_toArray, List.set_cons_zero, List.set_cons_succ]
                          refine wpAnyH_ready (rs := [11]) (by kernel_rfl) (by simp) ?_
                          refine AllReadyH.cons (opsS (opsS (opsS (opsS (opsS (opsS (opsS (opsS (opsS (opsS (opsS ops0))))))))))) (fun K hK => ?_) ?_
                          · obtain ⟨f0, f1, f2, f3, f4, f5, f6, f7⟩ := NB.of z9
                            have hqO := hH0_9_3_7_8_10.2.2.2.2.2.2.2.2.2.2
                            go_simp
                            try dsimp only
                            refine hK.out _ _ ?_ (fun hH0_9_3_7_8_10_11 => ?_)
                            · exact QM.of (QM.put hqO z9 (.slice A70 (parts n1 cs cs.length 0).length c70) (.slice A71 (parts n1 cs cs.length 1).length c71) (.slice A72 (parts n1 cs cs.length 2).length c72) (.slice A73 (parts n1 cs cs.length 3).length c73))
                            replace r3 := Rows4.put r3 z9 (.slice A70 (parts n1 cs cs.length 0).length c70) (.slice A71 (parts n1 cs cs.length 1).length c71) (.slice A72 (parts n1 cs cs.length 2).length c72) (.slice A73 (parts n1 cs cs.length 3).length c73)
                            replace r7 := Rows4.put r7 z9 (.slice A70 (parts n1 cs cs.length 0).length c70) (.slice A71 (parts n1 cs cs.length 1).length c71) (.slice A72 (parts n1 cs cs.length 2).length c72) (.slice A73 (parts n1 cs cs.length 3).length c73)
                            replace z8 := NB.far z8 (by first | exact hne | exact Ne.symm hne) (.slice A70 (parts n1 cs cs.length 0).length c70) (.slice A71 (parts n1 cs cs.length 1).length c71) (.slice A72 (parts n1 cs cs.length 2).length c72) (.slice A73 (parts n1 cs cs.length 3).length c73)
                            replace z9 := NB.put z9 (.slice A70 (parts n1 cs cs.length 0).length c70) (.slice A71 (parts n1 cs cs.length 1).length c71) (.slice A72 (parts n1 cs cs.length 2).length c72) (.slice A73 (parts n1 cs cs.length 3).length c73)
                            clear hK K hqO f0 f1 f2 f3 f4 f5 f6 f7 hH0_9_3_7_8_10
                            try simp only [Act.put, List.setIfInBounds_toArray, List.set_cons_zero, List.set_cons_succ]
                            refine wpAnyH_done (by kernel_rfl) ?_ _
                            have hqF := hH0_9_3_7_8_10_11.2.2.2.2.2.2.2.2.2.2
                            clear hH0_9_3_7_8_10_11
                            go_wp2
                            go_meet
                            case rel => exact ⟨_, _, A30, A31, A32, A33, c30, c31, c32, c33, A70, A71, A72, A73, c70, c71, c72, c73, rfl, rfl, hqF, z8, z9, r3, r7⟩
                          exact AllReadyH.nil
                        exact AllReadyH.nil
                      exact AllReadyH.nil
                    refine AllReadyH.cons (opsS (opsS (opsS (opsS (opsS (opsS (opsS (opsS ops0)))))))) (fun K hK => ?_) ?_
                    · go_simp
                      try dsimp only
                      refine hK.out _ _ ?_ (fun hH0_9_3_8 => ?_)
                      · (first | assumption | exact QM.drew (by assumption) | (go_split_ands; exact QM.drew (by assumption)) | (go_split_ands; exact QM.step (by assumption) (by assumption)) | (go_split_ands; exact QM.alloc (by assumption) _))
                      have hne := Nat.ne_of_lt z9.out.blk.lt
                      replace z9 := NB.alloc z9 (.cells #[.slice none 0 0, .slice none 0 0, .slice none 0 0, .slice none 0 0] 39)
                      replace r3 := Rows4.alloc' r3 (.cells #[.slice none 0 0, .slice none 0 0, .slice none 0 0, .slice none 0 0] 39)
                      have z8 := NB.new hH0_9_3_8.2.2.2.2.2.2.2.2.2.2
                      clear hK K hH0_9_3
                      try simp only [Act.put, List.setIfInBounds_toArray, List.set_cons_zero, List.set_cons_succ]
                      generalize w3.alloc (.cells #[.slice none 0 0, .slice none 0 0, .slice none 0 0, .slice none 0 0] 39) = wz8 at *
                      generalize w3.heap.size = bz8 at *
                      try simp only [Act.put, List.setIfInBounds_toArray, List.set_cons_zero, List.set_cons_succ]
                      refine wpAnyH_ready (rs := [7]) (by kernel_rfl) (by simp) ?_
                      refine AllReadyH.cons (opsS (opsS (opsS (opsS (opsS (opsS (opsS ops0))))))) (fun K hK => ?_) ?_
                      · go_simp
                        refine (split_any _ A ca cs _ hl (QM.rd H1.out (by first | assumption | (go_split_ands; assumption)))).mono ?_
                        rintro e w7 ⟨A70, A71, A72, A73, c70, c71, c72, c73, rfl, r7, hb⟩
                        try dsimp only
                        refine hK.out _ _ ?_ (fun hH0_9_3_8_7 => ?_)
                        · (first | assumption | exact QM.drew (by assumption) | (go_split_ands; exact QM.drew (by assumption)) | (go_split_ands; exact QM.step (by assumption) (by assumption)) | (go_split_ands; exact QM.alloc (by assumption) _))
                        replace z8 := NB.below z8 hb
                        replace z9 := NB.below z9 hb
                        replace r3 := Rows4.below' r3 hb
                        clear hK K hb hH0_9_3_8
                        try simp only [Act.put, List.setIfInBounds_toArray, List.set_cons_zero, List.set_cons_succ]
                        refine wpAnyH_ready (rs := [10]) (by kernel_rfl) (by simp) ?_
                        refine AllReadyH.cons (opsS (opsS (opsS (opsS (opsS (opsS (opsS (opsS (opsS (opsS ops0)))))))))) (fun K hK => ?_) ?_
                        · obtain ⟨f0, f1, f2, f3, f4, f5, f6, f7⟩ := NB.of z8
                          have hqO := hH0_9_3_8_7.2.2.2.2.2.2.2.2.2.2
                          go_simp
                          try dsimp only
                          refine hK.out _ _ ?_ (fun hH0_9_3_8_7_10 => ?_)
                          · exact QM.of (QM.put hqO z8 (.slice A30 (parts n0 cs cs.length 0).length c30) (.slice A31 (parts n0 cs cs.length 1).length c31) (.slice A32 (parts n0 cs cs.length 2).length c32) (.slice A33 (parts n0 cs cs.length 3).length c33))
                          replace r3 := Rows4.put r3 z8 (.slice A30 (parts n0 cs cs.length 0).length c30) (.slice A31 (parts n0 cs cs.length 1).length c31) (.slice A32 (parts n0 cs cs.length 2).length c32) (.slice A33 (parts n0 cs cs.length 3).length c33)
                          replace r7 := Rows4.put r7 z8 (.slice A30 (parts n0 cs cs.length 0).length c30) (.slice A31 (parts n0 cs cs.length 1).length c31) (.slice A32 (parts n0 cs cs.length 2).length c32) (.slice A33 (parts n0 cs cs.length 3).length c33)
                          replace z9 := NB.far z9 (by first | exact hne | exact Ne.symm hne) (.slice A30 (parts n0 cs cs.length 0).length c30) (.slice A31 (parts n0 cs cs.length 1).length c31) (.slice A32 (parts n0 cs cs.length 2).length c32) (.slice A33 (parts n0 cs cs.length 3).length c33)
                          replace z8 := NB.put z8 (.slice A30 (parts n0 cs cs.length 0).length c30) (.slice A31 (parts n0 cs cs.length 1).length c31) (.slice A32 (parts n0 cs cs.length 2).length c32) (.slice A33 (parts n0 cs cs.length 3).length c33)
                          clear hK K hqO f0 f1 f2 f3 f4 f5 f6 f7 hH0_9_3_8_7
                          try simp only [Act.put, List.setIfInBounds_toArray, List.set_cons_zero, List.set_cons_succ]
                          refine wpAnyH_ready (rs := [11]) (by kernel_rfl) (by simp) ?_
                          refine AllReadyH.cons (opsS (opsS (opsS (opsS (opsS (opsS (opsS (opsS (opsS (opsS (opsS ops0))))))))))) (fun K hK => ?_) ?_
                          · obtain ⟨f0, f1, f2, f3, f4, f5, f6, f7⟩ := NB.of z9
                            have hqO := hH0_9_3_8_7_10.2.2.2.2.2.2.2.2.2.2
                            go_simp
                            try dsimp only
                            refine hK.out _ _ ?_ (fun hH0_9_3_8_7_10_11 => ?_)
                            · exact QM.of (QM.put hqO z9 (.slice A70 (parts n1 cs cs.length 0).length c70) (.slice A71 (parts n1 cs cs.length 1).length c71) (.slice A72 (parts n1 cs cs.length 2).length c72) (.slice A73 (parts n1 cs cs.length 3).length c73))
                            replace r3 := Rows4.put r3 z9 (.slice A70 (parts n1 cs cs.length 0).length c70) (.slice A71 (parts n1 cs cs.length 1).length c71) (.slice A72 (parts n1 cs cs.length 2).length c72) (.slice A73 (parts n1 cs cs.length 3).length c73)
                            replace r7 := Rows4.put r7 z9 (.slice A70 (parts n1 cs cs.length 0).length c70) (.slice A71 (parts n1 cs cs.length 1).length c71) (.slice A72 (parts n1 cs cs.length 2).length c72) (.slice A73 (parts n1 cs cs.length 3).length c73)
                            replace z8 := NB.far z8 (by first | exact hne | exact Ne.symm hne) (.slice A70 (parts n1 cs cs.length 0).length c70) (.slice A71 (parts n1 cs cs.length 1).length c71) (.slice A72 (parts n1 cs cs.length 2).length c72) (.slice A73 (parts n1 cs cs.length 3).length c73)
                            replace z9 := NB.put z9 (.slice A70 (parts n1 cs cs.length 0).length c70) (.slice A71 (parts n1 cs cs.length 1).length c71) (.slice A72 (parts n1 cs cs.length 2).length c72) (.slice A73 (parts n1 cs cs.length 3).length c73)
                            clear hK K hqO f0 f1 f2 f3 f4 f5 f6 f7 hH0_9_3_8_7_10
                            try simp only [Act.put, List.setIfInBounds_toArray, List.set_cons_zero, List.set_cons_succ]
                            refine wpAnyH_done (by kernel_rfl) ?_ _
                            have hqF := hH0_9_3_8_7_10_11.2.2.2.2.2.2.2.2.2.2
                            clear hH0_9_3_8_7_10_11
                            go_wp2
                            go_meet
                            case rel => exact ⟨_, _, A30, A31, A32, A33, c30, c31, c32, c33, A70, A71, A72, A73, c70, c71, c72, c73, rfl, rfl, hqF, z8, z9, r3, r7⟩
                          exact AllReadyH.nil
                        exact AllReadyH.nil
                      exact AllReadyH.nil
                    exact AllReadyH.nil
                  refine AllReadyH.cons (opsS (opsS (opsS (opsS (opsS (opsS (opsS (opsS ops0)))))))) (fun K hK => ?_) ?_
                  · go_simp
                    try dsimp only
                    refine hK.out _ _ ?_ (fun hH0_9_8 => ?_)
                    · (first | assumption | exact QM.drew (by assumption) | (go_split_ands; exact QM.drew (by assumption)) | (go_split_ands; exact QM.step (by assumption) (by assumption)) | (go_split_ands; exact QM.alloc (by assumption) _))
                    have hne := Nat.ne_of_lt z9.out.blk.lt
                    replace z9 := NB.alloc z9 (.cells #[.slice none 0 0, .slice none 0 0, .slice none 0 0, .slice none 0 0] 39)
                    have z8 := NB.new hH0_9_8.2.2.2.2.2.2.2.2.2.2
                    clear hK K hH0_9
                    try simp only [Act.put, List.setIfInBounds_toArray, List.set_cons_zero, List.set_cons_succ]
                    generalize wz9.alloc (.cells #[.slice none 0 0, .slice none 0 0, .slice none 0 0, .slice none 0 0] 39) = wz8 at *
                    generalize wz9.heap.size = bz8 at *
                    try simp only [Act.put, List.setIfInBounds_toArray, List.set_cons_zero, List.set_cons_succ]
                    refine wpAnyH_ready (rs := [3]) (by kernel_rfl) (by simp) ?_
                    refine AllReadyH.cons (opsS (opsS (opsS ops0))) (fun K hK => ?_) ?_
                    · go_simp
                      refine (split_any _ A ca cs _ hl (QM.rd H1.out (by first | assumption | (go_split_ands; assumption)))).mono ?_
                      rintro e w3 ⟨A30, A31, A32, A33, c30, c31, c32, c33, rfl, r3, hb⟩
                      try dsimp only
                      refine hK.out _ _ ?_ (fun hH0_9_8_3 => ?_)
                      · (first | assumption | exact QM.drew (by assumption) | (go_split_ands; exact QM.drew (by assumption)) | (go_split_ands; exact QM.step (by assumption) (by assumption)) | (go_split_ands; exact QM.alloc (by assumption) _))
                      replace z8 := NB.below z8 hb
                      replace z9 := NB.below z9 hb
                      clear hK K hb hH0_9_8
                      try simp only [Act.put, List.setIfInBounds_toArray, List.set_cons_zero, List.set_cons_succ]
                      refine wpAnyH_ready (rs := [7]) (by kernel_rfl) (by simp) ?_
                      refine AllReadyH.cons (opsS (opsS (opsS (opsS (opsS (opsS (opsS ops0))))))) (fun K hK => ?_) ?_
                      · go_simp
                        refine (split_any _ A ca cs _ hl (QM.rd H1.out (by first | assumption | (go_split_ands; assumption)))).mono ?_
                        rintro e w7 ⟨A70, A71, A72, A73, c70, c71, c72, c73, rfl, r7, hb⟩
                        try dsimp only
                        refine hK.out _ _ ?_ (fun hH0_9_8_3_7 => ?_)
                        · (first | assumption | exact QM.drew (by assumption) | (go_split_ands; exact QM.drew (by assumption)) | (go_split_ands; exact QM.step (by assumption) (by assumption)) | (go_split_ands; exact QM.alloc (by assumption) _))
                        replace z8 := NB.below z8 hb
                        replace z9 := NB.below z9 hb
                        replace r3 := Rows4.below' r3 hb
                        clear hK K hb hH0_9_8_3
                        try simp only [Act.put, List.setIfInBounds_toArray, List.set_cons_zero, List.set_cons_succ]
                        refine wpAnyH_ready (rs := [10]) (by kernel_rfl) (by simp) ?_
                        refine AllReadyH.cons (opsS (opsS (opsS (opsS (opsS (opsS (opsS (opsS (opsS (opsS ops0)))))))))) (fun K hK => ?_) ?_
                        · obtain ⟨f0, f1, f2, f3, f4, f5, f6, f7⟩ := NB.of z8
                          have hqO := hH0_9_8_3_7.2.2.2.2.2.2.2.2.2.2
                          go_simp
                          try dsimp only
                          refine hK.out _ _ ?_ (fun hH0_9_8_3_7_10 => ?_)
                          · exact QM.of (QM.put hqO z8 (.slice A30 (parts n0 cs cs.length 0).length c30) (.slice A31 (parts n0 cs cs.length 1).length c31) (.slice A32 (parts n0 cs cs.length 2).length c32) (.slice A33 (parts n0 cs cs.length 3).length c33))
                          replace r3 := Rows4.put r3 z8 (.slice A30 (parts n0 cs cs.length 0).length c30) (.slice A31 (parts n0 cs cs.length 1).length c31) (.slice A32 (parts n0 cs cs.length 2).length c32) (.slice A33 (parts n0 cs cs.length 3).length c33)
                          replace r7 := Rows4.put r7 z8 (.slice A30 (parts n0 cs cs.length 0).length c30) (.slice A31 (parts n0 cs cs.length 1).length c31) (.slice A32 (parts n0 cs cs.length 2).length c32) (.slice A33 (parts n0 cs cs.length 3).length c33)
                          replace z9 := NB.far z9 (by first | exact hne | exact Ne.symm hne) (.slice A30 (parts n0 cs cs.length 0).length c30) (.slice A31 (parts n0 cs cs.length 1).length c31) (.slice A32 (parts n0 cs cs.length 2).length c32) (.slice A33 (parts n0 cs cs.length 3).length c33)
                          replace z8 := NB.put z8 (.slice A30 (parts n0 cs cs.length 0).length c30) (.slice A31 (parts n0 cs cs.length 1).length c31) (.slice A32 (parts n0 cs cs.length 2).length c32) (.slice A33 (parts n0 cs cs.length 3).length c33)
                          clear hK K hqO f0 f1 f2 f3 f4 f5 f6 f7 hH0_9_8_3_7
                          try simp only [Act.put, List.setIfInBounds_toArray, List.set_cons_zero, List.set_cons_succ]
                          refine wpAnyH_ready (rs := [11]) (by kernel_rfl) (by simp) ?_
                          refine AllReadyH.cons (opsS (opsS (opsS (opsS (opsS (opsS (opsS (opsS (opsS (opsS (opsS ops0))))))))))) (fun K hK => ?_) ?_
                          · obtain ⟨f0, f1, f2, f3, f4, f5, f6, f7⟩ := NB.of z9
                            have hqO := hH0_9_8_3_7_10.2.2.2.2.2.2.2.2.2.2
                            go_simp
                            try dsimp only
                            refine hK.out _ _ ?_ (fun hH0_9_8_3_7_10_11 => ?_)
                            · exact QM.of (QM.put hqO z9 (.slice A70 (parts n1 cs cs.length 0).length c70) (.slice A71 (parts n1 cs cs.length 1).length c71) (.slice A72 (parts n1 cs cs.length 2).length c72) (.slice A73 (parts n1 cs cs.length 3).length c73))
                            replace r3 := Rows4.put r3 z9 (.slice A70 (parts n1 cs cs.length 0).length c70) (.slice A71 (parts n1 cs cs.length 1).length c71) (.slice A72 (parts n1 cs cs.length 2).length c72) (.slice A73 (parts n1 cs cs.length 3).length c73)
                            replace r7 := Rows4.put r7 z9 (.slice A70 (parts n1 cs cs.length 0).length c70) (.slice A71 (parts n1 cs cs.length 1).length c71) (.slice A72 (parts n1 cs cs.length 2).length c72) (.slice A73 (parts n1 cs cs.length 3).length c73)
                            replace z8 := NB.far z8 (by first | exact hne | exact Ne.symm hne) (.slice A70 (parts n1 cs cs.length 0).length c70) (.slice A71 (parts n1 cs cs.length 1).length c71) (.slice A72 (parts n1 cs cs.length 2).length c72) (.slice A73 (parts n1 cs cs.length 3).length c73)
                            replace z9 := NB.put z9 (.slice A70 (parts n1 cs cs.length 0).length c70) (.slice A71 (parts n1 cs cs.length 1).length c71) (.slice A72 (parts n1 cs cs.length 2).length c72) (.slice A73 (parts n1 cs cs.length 3).length c73)
                            clear hK K hqO f0 f1 f2 f3 f4 f5 f6 f7 hH0_9_8_3_7_10
                            try simp only [Act.put, List.setIfInBounds_toArray, List.set_cons_zero, List.set_cons_succ]
                            refine wpAnyH_done (by kernel_rfl) ?_ _
                            have hqF := hH0_9_8_3_7_10_11.2.2.2.2.2.2.2.2.2.2
                            clear hH0_9_8_3_7_10_11
                            go_wp2
                            go_meet
                            case rel => exact ⟨_, _, A30, A31, A32, A33, c30, c31, c32, c33, A70, A71, A72, A73, c70, c71, c72, c73, rfl, rfl, hqF, z8, z9, r3, r7⟩
                          exact AllReadyH.nil
                        exact AllReadyH.nil
                      exact AllReadyH.nil
                    exact AllReadyH.nil
                  exact AllReadyH.nil
                exact AllReadyH.nil
              case rest =>
                clear test HQ
                obtain ⟨B0, B1, A30, A31, A32, A33, c30, c31, c32, c33, A70, A71, A72, A73, c70, c71, c72, c73, rfl, rfl, HQ, z8, z9, r3, r7⟩ := hcut
                have b00 : (parts n0 cs cs.length 0).length ≤ 1000 := by have := parts_len n0 cs 0 cs.length; omega
                have b02 : (parts n0 cs cs.length 2).length ≤ 1000 := by have := parts_len n0 cs 2 cs.length; omega
                have b10 : (parts n1 cs cs.length 0).length ≤ 1000 := by have := parts_len n1 cs 0 cs.length; omega
                have b11 : (parts n1 cs cs.length 1).length ≤ 1000 := by have := parts_len n1 cs 1 cs.length; omega
                have b12 : (parts n1 cs cs.length 2).length ≤ 1000 := by have := parts_len n1 cs 2 cs.length; omega
                obtain ⟨vr, hvr⟩ : ∃ v, rvI pr qr pm false cs (parts n1 cs cs.length 0) (parts n1 cs cs.length 1) (parts n1 cs cs.length 2) = v := ⟨_, rfl⟩
                have HVR := Lib.hid hvr
                clear hvr
                obtain ⟨k0, k1, k2, k3, k4, k5, k6, k7, -, -, -⟩ := QM.of HQ.out
                obtain ⟨f0, f1, f2, -, -, -, -, -⟩ := NB.of z9
                go_wp2_with fail
                refine (read_all _ A A70 A71 A72 ca c70 c71 c72 cs (parts n1 cs cs.length 0) (parts n1 cs cs.length 1) (parts n1 cs cs.length 2) pn pr pw qr qw ps pm false (by omega) b10 b11 b12 (QM.rd H1.out HQ) (Row.rd r7.out.r0) (Row.rd r7.out.r1) (Row.rd r7.out.r2)).mono ?_
                rw [HVR.out]
                rintro e w1 ⟨rfl, hb⟩
                replace z8 := NB.below z8 hb
                replace r3 := Rows4.below' r3 hb
                clear z9 r7 f0 f1 f2 k0 k1 k2 k3 k4 k5 k6 k7 b10 b11 b12
                obtain ⟨k0, k1, k2, k3, k4, k5, k6, k7, -, -, HQ⟩ := QM.step hb HQ
                obtain ⟨f0, -, f2, -, -, -, -, -⟩ := NB.of z8
                clear hb
                cases dx : decide (pn < (x : Int)) with
                | true =>
                  go_wp2_with fail
                  refine (awake_any _).mono ?_
                  rintro e w9 ⟨rfl, hb⟩
                  have HFN := QM.fin HG HQ hb
                  clear hb
                  go_wp2
                  go_ret
                  exact ⟨rfl, HFN.out⟩
                | false =>
                  obtain ⟨vw, hvw⟩ : ∃ v, wrI pw qw (nA (memB (parts n0 cs cs.length 0)) cs) (nB (memB (parts n0 cs cs.length 0)) cs) (nA (fun s => !inAny [parts n0 cs cs.length 0, parts n0 cs cs.length 2] s) cs) (nB (fun s => !inAny [parts n0 cs cs.length 0, parts n0 cs cs.length 2] s) cs) = v := ⟨_, rfl⟩
                  have HVW := Lib.hid hvw
                  clear hvw
                  go_wp2_with fail
                  refine (write_any _ A A30 A32 ca c30 c32 cs (parts n0 cs cs.length 0) (parts n0 cs cs.length 2) pn pr pw qr qw ps pm false (by omega) b00 b02 (QM.rd H1.out HQ) (Row.rd r3.out.r0) (Row.rd r3.out.r2)).mono ?_
                  rw [HVW.out]
                  rintro e w2 ⟨rfl, hb⟩
                  replace z8 := NB.below z8 hb
                  replace r3 := Rows4.below' r3 hb
                  clear f0 f2 k0 k1 k2 k3 k4 k5 k6 k7 b00 b02
                  obtain ⟨-, -, -, -, -, -, -, -, -, -, HQ⟩ := QM.step hb HQ
                  clear hb
                  by_cases hw1 : vw = 1
                  · have hmeet : Hid (vr = 1 ∨ vr = 3 → ∃ i, ∃ h : i < cs.length, cs[i].primary = true ∧ dig n0 i = 0 ∧ (dig n1 i = 0 ∨ (dig n1 i = 1 ∧ pm = true))) := fun h =>
                      meets (N := pn) (pr := pr) (pw := pw) (qr := qr) (qw := qw) (fun a b ha hb h => HD.out a b ha hb h hb) (by rw [HX.out]; simpa using dx) HSUM.out (HVW.out.trans hw1) (by rw [HVR.out]; exact h)
                    subst hw1
                    clear HVW HVR HD HX HSUM HFIT
                    by_cases h1 : vr = 1
                    · have hm := Lib.hid (hmeet.out (.inl h1))
                      clear hmeet
                      subst h1
                      go_wp2_with fail
                      clear z8 r3
                      go_loopw [13, 14, 15] (fun iv _ _ wr => ∃ i : Nat, i ≤ cs.length ∧ iv = .int .i64 i ∧ Hid (QM W g l n0 n1 pn pr pw qr qw ps pm false wr) ∧ Hid (∀ j (h : j < cs.length), j < i → ¬ (cs[j].primary = true ∧ dig n0 j = 0 ∧ (dig n1 j = 0 ∨ (dig n1 j = 1 ∧ pm = true))))) (fun iv _ _ _ => cs.length - (intOf iv).toNat)
                      case atStart => exact ⟨0, by omega, rfl, HQ, fun j h h2 => by omega⟩
                      case round =>
                        clear HQ
                        obtain ⟨i, hi, rfl, HQ, HNG⟩ := hrel
                        by_cases hlt : i < cs.length
                        · obtain ⟨a1, q1, hb1, -, c1⟩ := elem38 (H1.out.below HQ.out.low) hlt
                          subst q1
                          have hdig0 := Lib.hid (bits_and3 (n0 / 2 ^ (2 * i)))
                          have hdig1 := Lib.hid (bits_and3 (n1 / 2 ^ (2 * i)))
                          have hnext : Hid (¬ (cs[i].primary = true ∧ dig n0 i = 0 ∧ (dig n1 i = 0 ∨ (dig n1 i = 1 ∧ pm = true))) → ∀ j (h : j < cs.length), j < i + 1 → ¬ (cs[j].primary = true ∧ dig n0 j = 0 ∧ (dig n1 j = 0 ∨ (dig n1 j = 1 ∧ pm = true)))) := fun hn j h h2 => by
                            by_cases e : j < i
                            · exact HNG.out j h e
                            · have : j = i := by omega
                              subst this; exact hn
                          unfold dig at hnext
                          generalize cs[i].primary = pri at *
                          obtain ⟨-, -, -, -, -, -, k6, -, l0, l1, -⟩ := QM.of HQ.out
                          have m0 : wr.drew.cell? ⟨l, 0, none⟩ = some (.int .i64 n0) := l0
                          have m1 : wr.drew.cell? ⟨l, 1, none⟩ = some (.int .i64 n1) := l1
                          have d1 : decide (i < cs.length) = true := by simpa using hlt
                          have d2 : decide ((i : Int) < 16) = true := by simp; omega
                          have HQD := fun q => QM.drewN HQ q
                          clear HNG
                          go_wp2_with fail
                          go_quiet (fail)
                          rw [hdig0.out, hdig1.out]
                          clear hdig0 hdig1 m0 m1 l0 l1
                          generalize n0 / 2 ^ (2 * i) % 4 = e0 at *
                          generalize n1 / 2 ^ (2 * i) % 4 = e1 at *
                          have hbad : ∀ (K : Prop), (pri = false → K) → (pri = true → (e0 == 0) = false → K) → (pri = true → e0 = 0 → (e1 == 0) = false → (e1 == 1) = false → K) → (pri = true → e0 = 0 → e1 = 1 → pm = false → K) → (pri = true → e0 = 0 → e1 = 0 → K) → (pri = true → e0 = 0 → e1 = 1 → pm = true → K) → K := fun K y1 y2 y3 y4 y5 y6 => by
                            cases hp : pri with
                            | false => exact y1 hp
                            | true =>
                              by_cases x0 : e0 = 0
                              · by_cases x1 : e1 = 0
                                · exact y5 hp x0 x1
                                · by_cases x2 : e1 = 1
                                  · cases hm : pm with
                                    | false => exact y4 hp x0 x2 hm
                                    | true => exact y6 hp x0 x2 hm
                                  · exact y3 hp x0 (by simpa using x1) (by simpa using x2)
                              · exact y2 hp (by simpa using x0)
                          refine hbad _ (fun x1 => ?_) (fun x1 x2 => ?_) (fun x1 x2 x3 x4 => ?_) (fun x1 x2 x3 x4 => ?_) (fun x1 x2 x3 => ?_) (fun x1 x2 x3 x4 => ?_)
                          · have HN := Lib.hid (hnext.out (by rintro ⟨q1, q2, q3⟩; rw [x1] at q1; cases q1))
                            clear hbad hnext
                            subst x1
                            go_wp2
                            go_roundw
                            case rel => exact ⟨i + 1, by omega, by go_num, HQD _, HN⟩
                            case measure => simp [intOf]; omega
                          · have HN := Lib.hid (hnext.out (by rintro ⟨q1, q2, q3⟩; rw [q2] at x2; simp at x2))
                            clear hbad hnext
                            subst x1
                            go_wp2
                            go_roundw
                            case rel => exact ⟨i + 1, by omega, by go_num, HQD _, HN⟩
                            case measure => simp [intOf]; omega
                          · have HN := Lib.hid (hnext.out (by rintro ⟨q1, q2, q3⟩; rcases q3 with q3 | ⟨q3, -⟩ <;> rw [q3] at x3 x4 <;> simp at x3 x4))
                            clear hbad hnext
                            subst x1 x2
                            go_wp2
                            go_roundw
                            case rel => exact ⟨i + 1, by omega, by go_num, HQD _, HN⟩
                            case measure => simp [intOf]; omega
                          · have HN := Lib.hid (hnext.out (by rintro ⟨q1, q2, q3⟩; rcases q3 with q3 | ⟨-, q3⟩; · rw [x3] at q3; simp at q3
                                                              · rw [x4] at q3; cases q3))
                            clear hbad hnext hm
                            subst x1 x2 x3
                            rw [x4] at k6
                            go_wp2
                            go_roundw
                            case rel => exact ⟨i + 1, by omega, by go_num, HQD _, HN⟩
                            case measure => simp [intOf]; omega
                          · clear hbad hnext hm
                            subst x1 x2 x3
                            go_wp2_with fail
                            refine (awake_any _).mono ?_
                            rintro e w9 ⟨rfl, hb⟩
                            have HFN := QM.fin HG (HQD _) hb
                            clear hb
                            go_wp2
                            go_ret
                            exact ⟨rfl, HFN.out⟩
                          · clear hbad hnext hm
                            subst x1 x2 x3
                            rw [x4] at k6
                            go_wp2_with fail
                            refine (awake_any _).mono ?_
                            rintro e w9 ⟨rfl, hb⟩
                            have HFN := QM.fin HG (HQD _) hb
                            clear hb
                            go_wp2
                            go_ret
                            exact ⟨rfl, HFN.out⟩
                        · exfalso
                          obtain ⟨j, hj, hp, hd⟩ := hm.out
                          exact HNG.out j hj (by omega) ⟨hp, hd⟩
                    · by_cases h3 : vr = 3
                      · have hm := Lib.hid (hmeet.out (.inr h3))
                        clear hmeet h1
                        subst h3
                        go_wp2_with fail
                        clear z8 r3
                        go_loopw [13, 14, 15] (fun iv _ _ wr => ∃ i : Nat, i ≤ cs.length ∧ iv = .int .i64 i ∧ Hid (QM W g l n0 n1 pn pr pw qr qw ps pm false wr) ∧ Hid (∀ j (h : j < cs.length), j < i → ¬ (cs[j].primary = true ∧ dig n0 j = 0 ∧ (dig n1 j = 0 ∨ (dig n1 j = 1 ∧ pm = true))))) (fun iv _ _ _ => cs.length - (intOf iv).toNat)
                        case atStart => exact ⟨0, by omega, rfl, HQ, fun j h h2 => by omega⟩
                        case round =>
                          clear HQ
                          obtain ⟨i, hi, rfl, HQ, HNG⟩ := hrel
                          by_cases hlt : i < cs.length
                          · obtain ⟨a1, q1, hb1, -, c1⟩ := elem38 (H1.out.below HQ.out.low) hlt
                            subst q1
                            have hdig0 := Lib.hid (bits_and3 (n0 / 2 ^ (2 * i)))
                            have hdig1 := Lib.hid (bits_and3 (n1 / 2 ^ (2 * i)))
                            have hnext : Hid (¬ (cs[i].primary = true ∧ dig n0 i = 0 ∧ (dig n1 i = 0 ∨ (dig n1 i = 1 ∧ pm = true))) → ∀ j (h : j < cs.length), j < i + 1 → ¬ (cs[j].primary = true ∧ dig n0 j = 0 ∧ (dig n1 j = 0 ∨ (dig n1 j = 1 ∧ pm = true)))) := fun hn j h h2 => by
                              by_cases e : j < i
                              · exact HNG.out j h e
                              · have : j = i := by omega
                                subst this; exact hn
                            unfold dig at hnext
                            generalize cs[i].primary = pri at *
                            obtain ⟨-, -, -, -, -, -, k6, -, l0, l1, -⟩ := QM.of HQ.out
                            have m0 : wr.drew.cell? ⟨l, 0, none⟩ = some (.int .i64 n0) := l0
                            have m1 : wr.drew.cell? ⟨l, 1, none⟩ = some (.int .i64 n1) := l1
                            have d1 : decide (i < cs.length) = true := by simpa using hlt
                            have d2 : decide ((i : Int) < 16) = true := by simp; omega
                            have HQD := fun q => QM.drewN HQ q
                            clear HNG
                            go_wp2_with fail
                            go_quiet (fail)
                            rw [hdig0.out, hdig1.out]
                            clear hdig0 hdig1 m0 m1 l0 l1
                            generalize n0 / 2 ^ (2 * i) % 4 = e0 at *
                            generalize n1 / 2 ^ (2 * i) % 4 = e1 at *
                            have hbad : ∀ (K : Prop), (pri = false → K) → (pri = true → (e0 == 0) = false → K) → (pri = true → e0 = 0 → (e1 == 0) = false → (e1 == 1) = false → K) → (pri = true → e0 = 0 → e1 = 1 → pm = false → K) → (pri = true → e0 = 0 → e1 = 0 → K) → (pri = true → e0 = 0 → e1 = 1 → pm = true → K) → K := fun K y1 y2 y3 y4 y5 y6 => by
                              cases hp : pri with
                              | false => exact y1 hp
                              | true =>
                                by_cases x0 : e0 = 0
                                · by_cases x1 : e1 = 0
                                  · exact y5 hp x0 x1
                                  · by_cases x2 : e1 = 1
                                    · cases hm : pm with
                                      | false => exact y4 hp x0 x2 hm
                                      | true => exact y6 hp x0 x2 hm
                                    · exact y3 hp x0 (by simpa using x1) (by simpa using x2)
                                · exact y2 hp (by simpa using x0)
                            refine hbad _ (fun x1 => ?_) (fun x1 x2 => ?_) (fun x1 x2 x3 x4 => ?_) (fun x1 x2 x3 x4 => ?_) (fun x1 x2 x3 => ?_) (fun x1 x2 x3 x4 => ?_)
                            · have HN := Lib.hid (hnext.out (by rintro ⟨q1, q2, q3⟩; rw [x1] at q1; cases q1))
                              clear hbad hnext
                              subst x1
                              go_wp2
                              go_roundw
                              case rel => exact ⟨i + 1, by omega, by go_num, HQD _, HN⟩
                              case measure => simp [intOf]; omega
                            · have HN := Lib.hid (hnext.out (by rintro ⟨q1, q2, q3⟩; rw [q2] at x2; simp at x2))
                              clear hbad hnext
                              subst x1
                              go_wp2
                              go_roundw
                              case rel => exact ⟨i + 1, by omega, by go_num, HQD _, HN⟩
                              case measure => simp [intOf]; omega
                            · have HN := Lib.hid (hnext.out (by rintro ⟨q1, q2, q3⟩; rcases q3 with q3 | ⟨q3, -⟩ <;> rw [q3] at x3 x4 <;> simp at x3 x4))
                              clear hbad hnext
                              subst x1 x2
                              go_wp2
                              go_roundw
                              case rel => exact ⟨i + 1, by omega, by go_num, HQD _, HN⟩
                              case measure => simp [intOf]; omega
                            · have HN := Lib.hid (hnext.out (by rintro ⟨q1, q2, q3⟩; rcases q3 with q3 | ⟨-, q3⟩; · rw [x3] at q3; simp at q3
                                                                · rw [x4] at q3; cases q3))
                              clear hbad hnext hm
                              subst x1 x2 x3
                              rw [x4] at k6
                              go_wp2
                              go_roundw
                              case rel => exact ⟨i + 1, by omega, by go_num, HQD _, HN⟩
                              case measure => simp [intOf]; omega
                            · clear hbad hnext hm
                              subst x1 x2 x3
                              go_wp2_with fail
                              refine (awake_any _).mono ?_
                              rintro e w9 ⟨rfl, hb⟩
                              have HFN := QM.fin HG (HQD _) hb
                              clear hb
                              go_wp2
                              go_ret
                              exact ⟨rfl, HFN.out⟩
                            · clear hbad hnext hm
                              subst x1 x2 x3
                              rw [x4] at k6
                              go_wp2_with fail
                              refine (awake_any _).mono ?_
                              rintro e w9 ⟨rfl, hb⟩
                              have HFN := QM.fin HG (HQD _) hb
                              clear hb
                              go_wp2
                              go_ret
                              exact ⟨rfl, HFN.out⟩
                          · exfalso
                            obtain ⟨j, hj, hp, hd⟩ := hm.out
                            exact HNG.out j hj (by omega) ⟨hp, hd⟩
                      · have n1' : (vr != 1) = true := by simpa using h1
                        have n3' : (vr != 3) = true := by simpa using h3
                        have n1'' : (vr == 1) = false := by simpa using h1
                        have n3'' : (vr == 3) = false := by simpa using h3
                        go_wp2_with fail
                        refine (awake_any _).mono ?_
                        rintro e w9 ⟨rfl, hb⟩
                        have HFN := QM.fin HG HQ hb
                        clear hb
                        go_wp2
                        go_ret
                        exact ⟨rfl, HFN.out⟩
                  · have nw : (vw != 1) = true := by simpa using hw1
                    have nw' : (vw == 1) = false := by simpa using hw1
                    go_wp2_with fail
                    refine (awake_any _).mono ?_
                    rintro e w9 ⟨rfl, hb⟩
                    have HFN := QM.fin HG HQ hb
                    clear hb
                    go_wp2
                    go_ret
                    exact ⟨rfl, HFN.out⟩
        · go_wp2_with fail
          refine (awake_any _).mono ?_
          rintro e w9 ⟨rfl, hb⟩
          have HFN := QM.fin HG HQ hb
          clear hb
          go_wp2
          go_ret
          exact ⟨rfl, HFN.out⟩
end Go.Proofs.Ytcbfcmnnahbblaa.quorum
