/- All members of any entries: the reference's. -/
import Derived.Test.YtfkjoeibofnnoaaDoorTpC
namespace Go.Proofs.YtfkjoeibofnnoaaDoor.tp
set_option linter.unusedSimpArgs false
open Go.ChangeShapes Go.WideShapes Go.ChangeAt Go.RowKit Go.Proofs.Aid
open Go.Proofs.YtfkjoeibofnnoaaDoor.nm (Lets)
open Go.Proofs.YtfkjoeibofnnoaaDoor.rgy (En elemE underP infoE one_E)
set_option maxRecDepth 100000 in
set_option maxHeartbeats 8000000 in
theorem rmembers_any (w : World) (A : Option Addr) (ca : Nat) (xs : List En) (hl : xs.length ≤ 100000) (h1 : Reads w w.heap.size 4 A xs.length (xs.flatMap En.cells)) (hs : ∀ r ∈ xs, r.sz) (hs2 : ∀ r ∈ xs, r.key.size ≤ 1000000 ∧ r.reg.value.size ≤ 1000000) :
    Calls Tryd.prog 12 #[.slice A xs.length ca] w (RowM w (mems xs)) := by
  obtain ⟨i0, hi0, hz0, hz1, hz2⟩ := info_parts infoM
  have HU := Lib.hid (rgy.runder_any w A ca xs sNode hl h1 hs (by decide))
  have HM := Lib.hid (show mems xs = (xs.filter (underP sNode)).filterMap memE from rfl)
  have H5 := Lib.hid (fun (r : En) (hr : r ∈ xs.filter (underP sNode)) => under_five (List.mem_filter.1 hr).2)
  have HS := Lib.hid (fun (r : En) (hr : r ∈ xs.filter (underP sNode)) => hs2 r (List.mem_filter.1 hr).1)
  have hyl : (xs.filter (underP sNode)).length ≤ 100000 := Nat.le_trans (List.length_filter_le _ _) hl
  clear h1 hs hs2
  go_enter Tryd.func12, Tryd.ntmps12
  go_wp2_with fail
  refine HU.out.mono ?_
  rintro e w1 ⟨v1, rfl, hrow1, hb⟩
  clear HU
  obtain ⟨A1, c1, rfl, hR⟩ := hrow1.reads
  have HL := Lib.hid hb
  clear hrow1 hb
  generalize xs.filter (underP sNode) = ys at *
  have HG := Lib.hid (memsK_all ys)
  have H1 := Lib.hid hR
  have hw1 := HL.out.size
  clear hR
  have hrow0 : Row w1 w1.heap.size 26 4 Mb.cells (.slice none 0 0) (memsK ys 0) := Row.nil _ _ _ _ _
  go_wp2_with fail
  go_loopw [3, 5] (fun v iv wr => ∃ k : Nat, k ≤ ys.length ∧ iv = .int .i64 k ∧ Row wr w1.heap.size 26 4 Mb.cells v (memsK ys k) ∧ Below w1.heap.size w1 wr) (fun _ iv _ => ys.length - (intOf iv).toNat)
  case atStart => exact ⟨0, by omega, rfl, hrow0, Below.refl _ _⟩
  case round =>
    clear hrow0
    obtain ⟨k, hk, rfl, hrow, hlow⟩ := hrel
    have hsz := hlow.size
    have hlen := memsK_len ys k
    by_cases hlt : k < ys.length
    · obtain ⟨ad, rfl, had, c0, c1, c2, c3⟩ := elemE (H1.out.below hlow) hlt
      have h5 := H5.out _ (List.getElem_mem hlt)
      have hz := HS.out _ (List.getElem_mem hlt)
      have hyes := Lib.hid (memsK_yes hlt)
      have hno := Lib.hid (memsK_no hlt)
      generalize memsK ys k = L at *
      generalize ys[k] = xe at *
      obtain ⟨kk, n, b, v⟩ := xe
      simp only at c0 c1 c2 c3 h5 hz hyes hno
      have hke : (kk.extract 5 kk.size).size ≤ 1000000 := by rw [ByteArray.size_extract]; omega
      have h5i : (5 : Int) ≤ (kk.size : Int) := by omega
      have hbk : (ad.add (k * 4)).block < wr.heap.size := by rw [block_of_add]; omega
      have test := Kn.drew_2 (Kn.of_2 (Kn.new_2 (M := wr.heap.size) (p0 := ad.add (k * 4)) (p1 := ⟨(ad.add (k * 4)).block, (ad.add (k * 4)).off + 3, none⟩) (Nat.le_refl _) c0 hbk c3 hbk)).2.2
      have HC := Lib.hid (fun w => rmember_any (kk.extract 5 kk.size) v w hke hz.2)
      cases hm : memOk (kk.extract 5 kk.size) v with
      | false =>
        have hro := Lib.hid (hno.out hm)
        simp only [memR_no hm] at HC
        clear hm hyes hno
        go_wp2_with fail
        refine wp_region_held_drew (S := (fun w' => w'.cell? (ad.add (k * 4)) = some (.string kk) ∧ w'.cell? ⟨(ad.add (k * 4)).block, (ad.add (k * 4)).off + 3, none⟩ = some (.string v) ∧ Hid (Kn wr.heap.size wr [(ad.add (k * 4), .string kk), (⟨(ad.add (k * 4)).block, (ad.add (k * 4)).off + 3, none⟩, .string v)] w'))) (by kernel_rfl) ?_ (fun hHelda0 => ?_)
        · exact test
        refine wpAnyH_take (i := 0) (v := ?va0) ops0 (by kernel_rfl) (by kernel_rfl) (by kernel_rfl) (fun _ _ _ h => h) (Or.inl ⟨by rfl, ?ya0⟩) hHelda0 ?_
        case ya0 => (intro w hSw; (try dsimp only at hSw); go_simp; try (with_reducible rfl))
        try simp only [Act.put, List.setIfInBounds_toArray, List.set_cons_zero, List.set_cons_succ]
        refine wpAnyH_take (i := 1) (v := ?va1) (opsS ops0) (by kernel_rfl) (by kernel_rfl) (by kernel_rfl) (fun _ _ _ h => h) (Or.inl ⟨by rfl, ?ya1⟩) hHelda0 ?_
        case ya1 => (intro w hSw; (try dsimp only at hSw); go_simp; try (with_reducible rfl))
        try simp only [Act.put, List.setIfInBounds_toArray, List.set_cons_zero, List.set_cons_succ]
        refine wpAnyH_take (i := 2) (v := ?va2) (opsS (opsS ops0)) (by kernel_rfl) (by kernel_rfl) (by kernel_rfl) (fun _ _ _ h => h) (Or.inl ⟨by rfl, ?ya2⟩) hHelda0 ?_
        case ya2 => (intro w hSw; (try dsimp only at hSw); go_simp; try (with_reducible rfl))
        try simp only [Act.put, List.setIfInBounds_toArray, List.set_cons_zero, List.set_cons_succ]
        refine wpAnyH_take (i := 3) (v := ?va3) (opsS (opsS (opsS ops0))) (by kernel_rfl) (by kernel_rfl) (by kernel_rfl) (fun _ _ _ h => h) (Or.inl ⟨by rfl, ?ya3⟩) hHelda0 ?_
        case ya3 => (intro w hSw; (try dsimp only at hSw); go_simp; try (with_reducible rfl))
        try simp only [Act.put, List.setIfInBounds_toArray, List.set_cons_zero, List.set_cons_succ]
        refine wpAnyH_take (i := 4) (v := ?va4) (opsS (opsS (opsS (opsS ops0)))) (by kernel_rfl) (by kernel_rfl) (by kernel_rfl) (fun _ _ _ h => h) (Or.inl ⟨by rfl, ?ya4⟩) hHelda0 ?_
        case ya4 => (intro w hSw; (try dsimp only at hSw); go_simp; try (with_reducible rfl))
        try simp only [Act.put, List.setIfInBounds_toArray, List.set_cons_zero, List.set_cons_succ]
        refine wpAnyH_take (i := 5) (v := ?va5) (opsS (opsS (opsS (opsS (opsS ops0))))) (by kernel_rfl) (by kernel_rfl) (by kernel_rfl) (fun _ _ _ h => h) (Or.inl ⟨by rfl, ?ya5⟩) hHelda0 ?_
        case ya5 => (intro w hSw; (try dsimp only at hSw); go_simp; try (with_reducible rfl))
        try simp only [Act.put, List.setIfInBounds_toArray, List.set_cons_zero, List.set_cons_succ]
        refine wpAnyH_take (i := 6) (v := ?va6) (opsS (opsS (opsS (opsS (opsS (opsS ops0)))))) (by kernel_rfl) (by kernel_rfl) (by kernel_rfl) (fun _ _ _ h => h) (Or.inl ⟨by rfl, ?ya6⟩) hHelda0 ?_
        case ya6 => (intro w hSw; (try dsimp only at hSw); go_simp; try (with_reducible rfl))
        try simp only [Act.put, List.setIfInBounds_toArray, List.set_cons_zero, List.set_cons_succ]
        refine wpAnyH_take (i := 7) (v := ?va7) (opsS (opsS (opsS (opsS (opsS (opsS (opsS ops0))))))) (by kernel_rfl) (by kernel_rfl) (by kernel_rfl) (fun _ _ _ h => h) (Or.inl ⟨by rfl, ?ya7⟩) hHelda0 ?_
        case ya7 => (intro w hSw; (try dsimp only at hSw); go_simp; try (with_reducible rfl))
        try simp only [Act.put, List.setIfInBounds_toArray, List.set_cons_zero, List.set_cons_succ]
        refine wpAnyH_take (i := 8) (v := ?va8) (opsS (opsS (opsS (opsS (opsS (opsS (opsS (opsS ops0)))))))) (by kernel_rfl) (by kernel_rfl) (by kernel_rfl) (fun _ _ _ h => h) (Or.inl ⟨by rfl, ?ya8⟩) hHelda0 ?_
        case ya8 => (intro w hSw; (try dsimp only at hSw); go_simp; try (with_reducible rfl))
        try simp only [Act.put, List.setIfInBounds_toArray, List.set_cons_zero, List.set_cons_succ]
        refine wpAnyH_take (i := 9) (v := ?va9) (opsS (opsS (opsS (opsS (opsS (opsS (opsS (opsS (opsS ops0))))))))) (by kernel_rfl) (by kernel_rfl) (by kernel_rfl) (fun _ _ _ h => h) (Or.inl ⟨by rfl, ?ya9⟩) hHelda0 ?_
        case ya9 => (intro w hSw; (try dsimp only at hSw); go_simp; try (with_reducible rfl))
        try simp only [Act.put, List.setIfInBounds_toArray, List.set_cons_zero, List.set_cons_succ]
        refine wpAnyH_take (i := 10) (v := ?va10) (opsS (opsS (opsS (opsS (opsS (opsS (opsS (opsS (opsS (opsS ops0)))))))))) (by kernel_rfl) (by kernel_rfl) (by kernel_rfl) (fun _ _ _ h => h) (Or.inl ⟨by rfl, ?ya10⟩) hHelda0 ?_
        case ya10 => (intro w hSw; (try dsimp only at hSw); go_simp; try (with_reducible rfl))
        try simp only [Act.put, List.setIfInBounds_toArray, List.set_cons_zero, List.set_cons_succ]
        refine wpAnyH_take (i := 11) (v := ?va11) (opsS (opsS (opsS (opsS (opsS (opsS (opsS (opsS (opsS (opsS (opsS ops0))))))))))) (by kernel_rfl) (by kernel_rfl) (by kernel_rfl) (fun _ _ _ h => h) (Or.inl ⟨by rfl, ?ya11⟩) hHelda0 ?_
        case ya11 => (intro w hSw; (try dsimp only at hSw); go_simp; try (with_reducible rfl))
        try simp only [Act.put, List.setIfInBounds_toArray, List.set_cons_zero, List.set_cons_succ]
        refine wpAnyH_ready (rs := [12, 16]) (by kernel_rfl) (by simp) ?_
        refine AllReadyH.cons (opsS (opsS (opsS (opsS (opsS (opsS (opsS (opsS (opsS (opsS (opsS (opsS ops0)))))))))))) (fun K hK => ?_) ?_
        · go_simp
          refine (HC.out _).mono ?_
          rintro e w2 ⟨rfl, hb⟩
          try dsimp only
          refine hK.out _ _ ?_ (fun hHelda1 => ?_)
          · exact Kn.step_2 hHelda0.2.2 hb
          clear hK K hHelda0
          try clear hb
          try simp only [Act.put, List.setIfInBounds_toArray, List.set_cons_zero, List.set_cons_succ]
          refine wpAnyH_take (i := 13) (v := ?va13) (opsS (opsS (opsS (opsS (opsS (opsS (opsS (opsS (opsS (opsS (opsS (opsS (opsS ops0))))))))))))) (by kernel_rfl) (by kernel_rfl) (by kernel_rfl) (fun _ _ _ h => h) (Or.inl ⟨by rfl, ?ya13⟩) hHelda1 ?_
          case ya13 => (intro w hSw; (try dsimp only at hSw); go_simp; try (with_reducible rfl))
          try simp only [Act.put, List.setIfInBounds_toArray, List.set_cons_zero, List.set_cons_succ]
          refine wpAnyH_take (i := 14) (v := ?va14) (opsS (opsS (opsS (opsS (opsS (opsS (opsS (opsS (opsS (opsS (opsS (opsS (opsS (opsS ops0)))))))))))))) (by kernel_rfl) (by kernel_rfl) (by kernel_rfl) (fun _ _ _ h => h) (Or.inl ⟨by rfl, ?ya14⟩) hHelda1 ?_
          case ya14 => (intro w hSw; (try dsimp only at hSw); go_simp; try (with_reducible rfl))
          try simp only [Act.put, List.setIfInBounds_toArray, List.set_cons_zero, List.set_cons_succ]
          refine wpAnyH_take (i := 15) (v := ?va15) (opsS (opsS (opsS (opsS (opsS (opsS (opsS (opsS (opsS (opsS (opsS (opsS (opsS (opsS (opsS ops0))))))))))))))) (by kernel_rfl) (by kernel_rfl) (by kernel_rfl) (fun _ _ _ h => h) (Or.inl ⟨by rfl, ?ya15⟩) hHelda1 ?_
          case ya15 => (intro w hSw; (try dsimp only at hSw); go_simp; try (with_reducible rfl))
          try simp only [Act.put, List.setIfInBounds_toArray, List.set_cons_zero, List.set_cons_succ]
          refine wpAnyH_ready (rs := [16]) (by kernel_rfl) (by simp) ?_
          refine AllReadyH.cons (opsS (opsS (opsS (opsS (opsS (opsS (opsS (opsS (opsS (opsS (opsS (opsS (opsS (opsS (opsS (opsS ops0)))))))))))))))) (fun K hK => ?_) ?_
          · go_simp
            have HK0 := hHelda1
            try dsimp only
            refine hK.out _ _ ?_ (fun hHelda2 => ?_)
            · exact Kn.alloc_2 hHelda1.2.2 _
            clear hK K hHelda1
            try clear hb
            try simp only [Act.put, List.setIfInBounds_toArray, List.set_cons_zero, List.set_cons_succ]
            refine wpAnyH_ready (rs := [17]) (by kernel_rfl) (by simp) ?_
            refine AllReadyH.cons (opsS (opsS (opsS (opsS (opsS (opsS (opsS (opsS (opsS (opsS (opsS (opsS (opsS (opsS (opsS (opsS (opsS ops0))))))))))))))))) (fun K hK => ?_) ?_
            · go_simp
              skip
              try dsimp only
              refine hK.out _ _ ?_ (fun hHelda3 => ?_)
              · first | exact Kn.alloc_2 HK0.2.2 _ | exact Kn.far_2 hHelda2.2.2 (low4 hHelda2.2.2.out.low (Nat.le_of_lt (by have := HK0.2.2.out.low.size; omega)) _ _ _ _)
              clear hK K hHelda2
              try clear hb
              try simp only [Act.put, List.setIfInBounds_toArray, List.set_cons_zero, List.set_cons_succ]
              refine wpAnyH_take (i := 18) (v := ?va18) (opsS (opsS (opsS (opsS (opsS (opsS (opsS (opsS (opsS (opsS (opsS (opsS (opsS (opsS (opsS (opsS (opsS (opsS ops0)))))))))))))))))) (by kernel_rfl) (by kernel_rfl) (by kernel_rfl) (fun _ _ _ h => h) (Or.inl ⟨by rfl, ?ya18⟩) hHelda3 ?_
              case ya18 => (intro w hSw; (try dsimp only at hSw); go_simp; try (with_reducible rfl))
              try simp only [Act.put, List.setIfInBounds_toArray, List.set_cons_zero, List.set_cons_succ]
              refine wpAnyH_done (by kernel_rfl) ?_ _
              have hE := Lib.hid hHelda3.2.2.out.low
              have HRe := Lib.hid (hrow.below hE.out)
              have HLe := Lib.hid (hlow.trans (hE.out.mono hsz))
              have hszE := HLe.out.size
              clear hHelda3 test hrow hlow c0 c1 c2 c3
              go_wp2
              go_roundw
              case rel => exact ⟨k + 1, by omega, by go_num, by rw [hro.out]; exact HRe.out, HLe.out⟩
              case measure => simp [intOf]; omega
            exact AllReadyH.nil
          exact AllReadyH.nil
        refine AllReadyH.cons (opsS (opsS (opsS (opsS (opsS (opsS (opsS (opsS (opsS (opsS (opsS (opsS (opsS (opsS (opsS (opsS ops0)))))))))))))))) (fun K hK => ?_) ?_
        · go_simp
          have HBz := Lib.hid (Blk.new wr.drew 26 zc)
          try dsimp only
          refine hK.out _ _ ?_ (fun hHelda1 => ?_)
          · exact Kn.alloc_2 hHelda0.2.2 _
          clear hK K hHelda0
          try clear hb
          try simp only [Act.put, List.setIfInBounds_toArray, List.set_cons_zero, List.set_cons_succ]
          refine wpAnyH_ready (rs := [12]) (by kernel_rfl) (by simp) ?_
          refine AllReadyH.cons (opsS (opsS (opsS (opsS (opsS (opsS (opsS (opsS (opsS (opsS (opsS (opsS ops0)))))))))))) (fun K hK => ?_) ?_
          · go_simp
            refine (HC.out _).mono ?_
            rintro e w2 ⟨rfl, hb⟩
            replace HBz := Lib.hid (HBz.out.below hb HBz.out.lt)
            try dsimp only
            refine hK.out _ _ ?_ (fun hHelda2 => ?_)
            · exact Kn.step_2 hHelda1.2.2 hb
            clear hK K hHelda1
            try clear hb
            try simp only [Act.put, List.setIfInBounds_toArray, List.set_cons_zero, List.set_cons_succ]
            refine wpAnyH_take (i := 13) (v := ?va13) (opsS (opsS (opsS (opsS (opsS (opsS (opsS (opsS (opsS (opsS (opsS (opsS (opsS ops0))))))))))))) (by kernel_rfl) (by kernel_rfl) (by kernel_rfl) (fun _ _ _ h => h) (Or.inl ⟨by rfl, ?ya13⟩) hHelda2 ?_
            case ya13 => (intro w hSw; (try dsimp only at hSw); go_simp; try (with_reducible rfl))
            try simp only [Act.put, List.setIfInBounds_toArray, List.set_cons_zero, List.set_cons_succ]
            refine wpAnyH_take (i := 14) (v := ?va14) (opsS (opsS (opsS (opsS (opsS (opsS (opsS (opsS (opsS (opsS (opsS (opsS (opsS (opsS ops0)))))))))))))) (by kernel_rfl) (by kernel_rfl) (by kernel_rfl) (fun _ _ _ h => h) (Or.inl ⟨by rfl, ?ya14⟩) hHelda2 ?_
            case ya14 => (intro w hSw; (try dsimp only at hSw); go_simp; try (with_reducible rfl))
            try simp only [Act.put, List.setIfInBounds_toArray, List.set_cons_zero, List.set_cons_succ]
            refine wpAnyH_take (i := 15) (v := ?va15) (opsS (opsS (opsS (opsS (opsS (opsS (opsS (opsS (opsS (opsS (opsS (opsS (opsS (opsS (opsS ops0))))))))))))))) (by kernel_rfl) (by kernel_rfl) (by kernel_rfl) (fun _ _ _ h => h) (Or.inl ⟨by rfl, ?ya15⟩) hHelda2 ?_
            case ya15 => (intro w hSw; (try dsimp only at hSw); go_simp; try (with_reducible rfl))
            try simp only [Act.put, List.setIfInBounds_toArray, List.set_cons_zero, List.set_cons_succ]
            refine wpAnyH_ready (rs := [17]) (by kernel_rfl) (by simp) ?_
            refine AllReadyH.cons (opsS (opsS (opsS (opsS (opsS (opsS (opsS (opsS (opsS (opsS (opsS (opsS (opsS (opsS (opsS (opsS (opsS ops0))))))))))))))))) (fun K hK => ?_) ?_
            · skip
              have z0 : w2.cell? ⟨wr.heap.size, 0, none⟩ = some (.string ⟨#[]⟩) := by have := HBz.out.cell 0; exact this
              have z1 : w2.cell? ⟨wr.heap.size, 1, none⟩ = some (.string ⟨#[]⟩) := by have := HBz.out.cell 1; exact this
              have z2 : w2.cell? ⟨wr.heap.size, 2, none⟩ = some (.string ⟨#[]⟩) := by have := HBz.out.cell 2; exact this
              have z3 : w2.cell? ⟨wr.heap.size, 3, none⟩ = some (.bool false) := by have := HBz.out.cell 3; exact this
              have f0 : w2.frozen? ⟨wr.heap.size, 0, none⟩ = false := HBz.out.frozen 0
              have f1 : w2.frozen? ⟨wr.heap.size, 1, none⟩ = false := HBz.out.frozen 1
              have f2 : w2.frozen? ⟨wr.heap.size, 2, none⟩ = false := HBz.out.frozen 2
              have f3 : w2.frozen? ⟨wr.heap.size, 3, none⟩ = false := HBz.out.frozen 3
              go_simp
              try dsimp only
              refine hK.out _ _ ?_ (fun hHelda3 => ?_)
              · exact Kn.far_2 hHelda2.2.2 (low4 hHelda2.2.2.out.low (Nat.le_refl _) (.string ⟨#[]⟩) (.string ⟨#[]⟩) (.string ⟨#[]⟩) (.bool false))
              clear hK K hHelda2
              try clear hb
              try simp only [Act.put, List.setIfInBounds_toArray, List.set_cons_zero, List.set_cons_succ]
              refine wpAnyH_take (i := 18) (v := ?va18) (opsS (opsS (opsS (opsS (opsS (opsS (opsS (opsS (opsS (opsS (opsS (opsS (opsS (opsS (opsS (opsS (opsS (opsS ops0)))))))))))))))))) (by kernel_rfl) (by kernel_rfl) (by kernel_rfl) (fun _ _ _ h => h) (Or.inl ⟨by rfl, ?ya18⟩) hHelda3 ?_
              case ya18 => (intro w hSw; (try dsimp only at hSw); go_simp; try (with_reducible rfl))
              try simp only [Act.put, List.setIfInBounds_toArray, List.set_cons_zero, List.set_cons_succ]
              refine wpAnyH_done (by kernel_rfl) ?_ _
              have hE := Lib.hid hHelda3.2.2.out.low
              have HRe := Lib.hid (hrow.below hE.out)
              have HLe := Lib.hid (hlow.trans (hE.out.mono hsz))
              have hszE := HLe.out.size
              clear hHelda3 test hrow hlow c0 c1 c2 c3
              clear z0 z1 z2 z3 f0 f1 f2 f3
              go_wp2
              go_roundw
              case rel => exact ⟨k + 1, by omega, by go_num, by rw [hro.out]; exact HRe.out, HLe.out⟩
              case measure => simp [intOf]; omega
            exact AllReadyH.nil
          exact AllReadyH.nil
        exact AllReadyH.nil
      | true =>
        have hro := Lib.hid (hyes.out hm)
        have hmz := memV_sz hke hz.2
        simp only [memR_yes hm] at HC
        clear hm hyes hno
        generalize memV (kk.extract 5 kk.size) v = M at *
        obtain ⟨mn, mr, mz, mu⟩ := M
        go_wp2_with fail
        refine wp_region_held_drew (S := (fun w' => w'.cell? (ad.add (k * 4)) = some (.string kk) ∧ w'.cell? ⟨(ad.add (k * 4)).block, (ad.add (k * 4)).off + 3, none⟩ = some (.string v) ∧ Hid (Kn wr.heap.size wr [(ad.add (k * 4), .string kk), (⟨(ad.add (k * 4)).block, (ad.add (k * 4)).off + 3, none⟩, .string v)] w'))) (by kernel_rfl) ?_ (fun hHeldb0 => ?_)
        · exact test
        refine wpAnyH_take (i := 0) (v := ?vb0) ops0 (by kernel_rfl) (by kernel_rfl) (by kernel_rfl) (fun _ _ _ h => h) (Or.inl ⟨by rfl, ?yb0⟩) hHeldb0 ?_
        case yb0 => (intro w hSw; (try dsimp only at hSw); go_simp; try (with_reducible rfl))
        try simp only [Act.put, List.setIfInBounds_toArray, List.set_cons_zero, List.set_cons_succ]
        refine wpAnyH_take (i := 1) (v := ?vb1) (opsS ops0) (by kernel_rfl) (by kernel_rfl) (by kernel_rfl) (fun _ _ _ h => h) (Or.inl ⟨by rfl, ?yb1⟩) hHeldb0 ?_
        case yb1 => (intro w hSw; (try dsimp only at hSw); go_simp; try (with_reducible rfl))
        try simp only [Act.put, List.setIfInBounds_toArray, List.set_cons_zero, List.set_cons_succ]
        refine wpAnyH_take (i := 2) (v := ?vb2) (opsS (opsS ops0)) (by kernel_rfl) (by kernel_rfl) (by kernel_rfl) (fun _ _ _ h => h) (Or.inl ⟨by rfl, ?yb2⟩) hHeldb0 ?_
        case yb2 => (intro w hSw; (try dsimp only at hSw); go_simp; try (with_reducible rfl))
        try simp only [Act.put, List.setIfInBounds_toArray, List.set_cons_zero, List.set_cons_succ]
        refine wpAnyH_take (i := 3) (v := ?vb3) (opsS (opsS (opsS ops0))) (by kernel_rfl) (by kernel_rfl) (by kernel_rfl) (fun _ _ _ h => h) (Or.inl ⟨by rfl, ?yb3⟩) hHeldb0 ?_
        case yb3 => (intro w hSw; (try dsimp only at hSw); go_simp; try (with_reducible rfl))
        try simp only [Act.put, List.setIfInBounds_toArray, List.set_cons_zero, List.set_cons_succ]
        refine wpAnyH_take (i := 4) (v := ?vb4) (opsS (opsS (opsS (opsS ops0)))) (by kernel_rfl) (by kernel_rfl) (by kernel_rfl) (fun _ _ _ h => h) (Or.inl ⟨by rfl, ?yb4⟩) hHeldb0 ?_
        case yb4 => (intro w hSw; (try dsimp only at hSw); go_simp; try (with_reducible rfl))
        try simp only [Act.put, List.setIfInBounds_toArray, List.set_cons_zero, List.set_cons_succ]
        refine wpAnyH_take (i := 5) (v := ?vb5) (opsS (opsS (opsS (opsS (opsS ops0))))) (by kernel_rfl) (by kernel_rfl) (by kernel_rfl) (fun _ _ _ h => h) (Or.inl ⟨by rfl, ?yb5⟩) hHeldb0 ?_
        case yb5 => (intro w hSw; (try dsimp only at hSw); go_simp; try (with_reducible rfl))
        try simp only [Act.put, List.setIfInBounds_toArray, List.set_cons_zero, List.set_cons_succ]
        refine wpAnyH_take (i := 6) (v := ?vb6) (opsS (opsS (opsS (opsS (opsS (opsS ops0)))))) (by kernel_rfl) (by kernel_rfl) (by kernel_rfl) (fun _ _ _ h => h) (Or.inl ⟨by rfl, ?yb6⟩) hHeldb0 ?_
        case yb6 => (intro w hSw; (try dsimp only at hSw); go_simp; try (with_reducible rfl))
        try simp only [Act.put, List.setIfInBounds_toArray, List.set_cons_zero, List.set_cons_succ]
        refine wpAnyH_take (i := 7) (v := ?vb7) (opsS (opsS (opsS (opsS (opsS (opsS (opsS ops0))))))) (by kernel_rfl) (by kernel_rfl) (by kernel_rfl) (fun _ _ _ h => h) (Or.inl ⟨by rfl, ?yb7⟩) hHeldb0 ?_
        case yb7 => (intro w hSw; (try dsimp only at hSw); go_simp; try (with_reducible rfl))
        try simp only [Act.put, List.setIfInBounds_toArray, List.set_cons_zero, List.set_cons_succ]
        refine wpAnyH_take (i := 8) (v := ?vb8) (opsS (opsS (opsS (opsS (opsS (opsS (opsS (opsS ops0)))))))) (by kernel_rfl) (by kernel_rfl) (by kernel_rfl) (fun _ _ _ h => h) (Or.inl ⟨by rfl, ?yb8⟩) hHeldb0 ?_
        case yb8 => (intro w hSw; (try dsimp only at hSw); go_simp; try (with_reducible rfl))
        try simp only [Act.put, List.setIfInBounds_toArray, List.set_cons_zero, List.set_cons_succ]
        refine wpAnyH_take (i := 9) (v := ?vb9) (opsS (opsS (opsS (opsS (opsS (opsS (opsS (opsS (opsS ops0))))))))) (by kernel_rfl) (by kernel_rfl) (by kernel_rfl) (fun _ _ _ h => h) (Or.inl ⟨by rfl, ?yb9⟩) hHeldb0 ?_
        case yb9 => (intro w hSw; (try dsimp only at hSw); go_simp; try (with_reducible rfl))
        try simp only [Act.put, List.setIfInBounds_toArray, List.set_cons_zero, List.set_cons_succ]
        refine wpAnyH_take (i := 10) (v := ?vb10) (opsS (opsS (opsS (opsS (opsS (opsS (opsS (opsS (opsS (opsS ops0)))))))))) (by kernel_rfl) (by kernel_rfl) (by kernel_rfl) (fun _ _ _ h => h) (Or.inl ⟨by rfl, ?yb10⟩) hHeldb0 ?_
        case yb10 => (intro w hSw; (try dsimp only at hSw); go_simp; try (with_reducible rfl))
        try simp only [Act.put, List.setIfInBounds_toArray, List.set_cons_zero, List.set_cons_succ]
        refine wpAnyH_take (i := 11) (v := ?vb11) (opsS (opsS (opsS (opsS (opsS (opsS (opsS (opsS (opsS (opsS (opsS ops0))))))))))) (by kernel_rfl) (by kernel_rfl) (by kernel_rfl) (fun _ _ _ h => h) (Or.inl ⟨by rfl, ?yb11⟩) hHeldb0 ?_
        case yb11 => (intro w hSw; (try dsimp only at hSw); go_simp; try (with_reducible rfl))
        try simp only [Act.put, List.setIfInBounds_toArray, List.set_cons_zero, List.set_cons_succ]
        refine wpAnyH_ready (rs := [12, 16]) (by kernel_rfl) (by simp) ?_
        refine AllReadyH.cons (opsS (opsS (opsS (opsS (opsS (opsS (opsS (opsS (opsS (opsS (opsS (opsS ops0)))))))))))) (fun K hK => ?_) ?_
        · go_simp
          refine (HC.out _).mono ?_
          rintro e w2 ⟨rfl, hb⟩
          try dsimp only
          refine hK.out _ _ ?_ (fun hHeldb1 => ?_)
          · exact Kn.step_2 hHeldb0.2.2 hb
          clear hK K hHeldb0
          try clear hb
          try simp only [Act.put, List.setIfInBounds_toArray, List.set_cons_zero, List.set_cons_succ]
          refine wpAnyH_take (i := 13) (v := ?vb13) (opsS (opsS (opsS (opsS (opsS (opsS (opsS (opsS (opsS (opsS (opsS (opsS (opsS ops0))))))))))))) (by kernel_rfl) (by kernel_rfl) (by kernel_rfl) (fun _ _ _ h => h) (Or.inl ⟨by rfl, ?yb13⟩) hHeldb1 ?_
          case yb13 => (intro w hSw; (try dsimp only at hSw); go_simp; try (with_reducible rfl))
          try simp only [Act.put, List.setIfInBounds_toArray, List.set_cons_zero, List.set_cons_succ]
          refine wpAnyH_take (i := 14) (v := ?vb14) (opsS (opsS (opsS (opsS (opsS (opsS (opsS (opsS (opsS (opsS (opsS (opsS (opsS (opsS ops0)))))))))))))) (by kernel_rfl) (by kernel_rfl) (by kernel_rfl) (fun _ _ _ h => h) (Or.inl ⟨by rfl, ?yb14⟩) hHeldb1 ?_
          case yb14 => (intro w hSw; (try dsimp only at hSw); go_simp; try (with_reducible rfl))
          try simp only [Act.put, List.setIfInBounds_toArray, List.set_cons_zero, List.set_cons_succ]
          refine wpAnyH_take (i := 15) (v := ?vb15) (opsS (opsS (opsS (opsS (opsS (opsS (opsS (opsS (opsS (opsS (opsS (opsS (opsS (opsS (opsS ops0))))))))))))))) (by kernel_rfl) (by kernel_rfl) (by kernel_rfl) (fun _ _ _ h => h) (Or.inl ⟨by rfl, ?yb15⟩) hHeldb1 ?_
          case yb15 => (intro w hSw; (try dsimp only at hSw); go_simp; try (with_reducible rfl))
          try simp only [Act.put, List.setIfInBounds_toArray, List.set_cons_zero, List.set_cons_succ]
          refine wpAnyH_ready (rs := [16]) (by kernel_rfl) (by simp) ?_
          refine AllReadyH.cons (opsS (opsS (opsS (opsS (opsS (opsS (opsS (opsS (opsS (opsS (opsS (opsS (opsS (opsS (opsS (opsS ops0)))))))))))))))) (fun K hK => ?_) ?_
          · go_simp
            have HK0 := hHeldb1
            try dsimp only
            refine hK.out _ _ ?_ (fun hHeldb2 => ?_)
            · exact Kn.alloc_2 hHeldb1.2.2 _
            clear hK K hHeldb1
            try clear hb
            try simp only [Act.put, List.setIfInBounds_toArray, List.set_cons_zero, List.set_cons_succ]
            refine wpAnyH_ready (rs := [17]) (by kernel_rfl) (by simp) ?_
            refine AllReadyH.cons (opsS (opsS (opsS (opsS (opsS (opsS (opsS (opsS (opsS (opsS (opsS (opsS (opsS (opsS (opsS (opsS (opsS ops0))))))))))))))))) (fun K hK => ?_) ?_
            · go_simp
              skip
              try dsimp only
              refine hK.out _ _ ?_ (fun hHeldb3 => ?_)
              · first | exact Kn.alloc_2 HK0.2.2 _ | exact Kn.far_2 hHeldb2.2.2 (low4 hHeldb2.2.2.out.low (Nat.le_of_lt (by have := HK0.2.2.out.low.size; omega)) _ _ _ _)
              clear hK K hHeldb2
              try clear hb
              try simp only [Act.put, List.setIfInBounds_toArray, List.set_cons_zero, List.set_cons_succ]
              refine wpAnyH_take (i := 18) (v := ?vb18) (opsS (opsS (opsS (opsS (opsS (opsS (opsS (opsS (opsS (opsS (opsS (opsS (opsS (opsS (opsS (opsS (opsS (opsS ops0)))))))))))))))))) (by kernel_rfl) (by kernel_rfl) (by kernel_rfl) (fun _ _ _ h => h) (Or.inl ⟨by rfl, ?yb18⟩) hHeldb3 ?_
              case yb18 => (intro w hSw; (try dsimp only at hSw); go_simp; try (with_reducible rfl))
              try simp only [Act.put, List.setIfInBounds_toArray, List.set_cons_zero, List.set_cons_succ]
              refine wpAnyH_done (by kernel_rfl) ?_ _
              have hE := Lib.hid hHeldb3.2.2.out.low
              have HRe := Lib.hid (hrow.below hE.out)
              have HLe := Lib.hid (hlow.trans (hE.out.mono hsz))
              have hszE := HLe.out.size
              clear hHeldb3 test hrow hlow c0 c1 c2 c3
              go_wp2_with (at_builtin; refine wpList_append_row _ rfl _ _ 30 rfl w1.heap.size 26 i0 _ 4 56 Tryd.underlying30 hi0 hz0 hz1 hz2 rfl (by decide) _ _ rfl (HRe.out.alloc _) Mb.len _ ⟨mn, mr, mz, mu⟩ rfl (cells_new2 _ _ _ (Mb.cells ⟨mn, mr, mz, mu⟩)) (one_M _) (by unfold maxLen; omega) (by omega) (by simp at hszE ⊢; omega) ?_; intro v' w3 hrow' hgrow)
              have hlow' := low_row' HLe.out HRe.out (Nat.le_refl _) hszE hgrow
              go_roundw
              case rel => exact ⟨k + 1, by omega, by go_num, by rw [hro.out]; exact hrow', hlow'⟩
              case measure => simp [intOf]; omega
            exact AllReadyH.nil
          exact AllReadyH.nil
        refine AllReadyH.cons (opsS (opsS (opsS (opsS (opsS (opsS (opsS (opsS (opsS (opsS (opsS (opsS (opsS (opsS (opsS (opsS ops0)))))))))))))))) (fun K hK => ?_) ?_
        · go_simp
          have HBz := Lib.hid (Blk.new wr.drew 26 zc)
          try dsimp only
          refine hK.out _ _ ?_ (fun hHeldb1 => ?_)
          · exact Kn.alloc_2 hHeldb0.2.2 _
          clear hK K hHeldb0
          try clear hb
          try simp only [Act.put, List.setIfInBounds_toArray, List.set_cons_zero, List.set_cons_succ]
          refine wpAnyH_ready (rs := [12]) (by kernel_rfl) (by simp) ?_
          refine AllReadyH.cons (opsS (opsS (opsS (opsS (opsS (opsS (opsS (opsS (opsS (opsS (opsS (opsS ops0)))))))))))) (fun K hK => ?_) ?_
          · go_simp
            refine (HC.out _).mono ?_
            rintro e w2 ⟨rfl, hb⟩
            replace HBz := Lib.hid (HBz.out.below hb HBz.out.lt)
            try dsimp only
            refine hK.out _ _ ?_ (fun hHeldb2 => ?_)
            · exact Kn.step_2 hHeldb1.2.2 hb
            clear hK K hHeldb1
            try clear hb
            try simp only [Act.put, List.setIfInBounds_toArray, List.set_cons_zero, List.set_cons_succ]
            refine wpAnyH_take (i := 13) (v := ?vb13) (opsS (opsS (opsS (opsS (opsS (opsS (opsS (opsS (opsS (opsS (opsS (opsS (opsS ops0))))))))))))) (by kernel_rfl) (by kernel_rfl) (by kernel_rfl) (fun _ _ _ h => h) (Or.inl ⟨by rfl, ?yb13⟩) hHeldb2 ?_
            case yb13 => (intro w hSw; (try dsimp only at hSw); go_simp; try (with_reducible rfl))
            try simp only [Act.put, List.setIfInBounds_toArray, List.set_cons_zero, List.set_cons_succ]
            refine wpAnyH_take (i := 14) (v := ?vb14) (opsS (opsS (opsS (opsS (opsS (opsS (opsS (opsS (opsS (opsS (opsS (opsS (opsS (opsS ops0)))))))))))))) (by kernel_rfl) (by kernel_rfl) (by kernel_rfl) (fun _ _ _ h => h) (Or.inl ⟨by rfl, ?yb14⟩) hHeldb2 ?_
            case yb14 => (intro w hSw; (try dsimp only at hSw); go_simp; try (with_reducible rfl))
            try simp only [Act.put, List.setIfInBounds_toArray, List.set_cons_zero, List.set_cons_succ]
            refine wpAnyH_take (i := 15) (v := ?vb15) (opsS (opsS (opsS (opsS (opsS (opsS (opsS (opsS (opsS (opsS (opsS (opsS (opsS (opsS (opsS ops0))))))))))))))) (by kernel_rfl) (by kernel_rfl) (by kernel_rfl) (fun _ _ _ h => h) (Or.inl ⟨by rfl, ?yb15⟩) hHeldb2 ?_
            case yb15 => (intro w hSw; (try dsimp only at hSw); go_simp; try (with_reducible rfl))
            try simp only [Act.put, List.setIfInBounds_toArray, List.set_cons_zero, List.set_cons_succ]
            refine wpAnyH_ready (rs := [17]) (by kernel_rfl) (by simp) ?_
            refine AllReadyH.cons (opsS (opsS (opsS (opsS (opsS (opsS (opsS (opsS (opsS (opsS (opsS (opsS (opsS (opsS (opsS (opsS (opsS ops0))))))))))))))))) (fun K hK => ?_) ?_
            · skip
              have z0 : w2.cell? ⟨wr.heap.size, 0, none⟩ = some (.string ⟨#[]⟩) := by have := HBz.out.cell 0; exact this
              have z1 : w2.cell? ⟨wr.heap.size, 1, none⟩ = some (.string ⟨#[]⟩) := by have := HBz.out.cell 1; exact this
              have z2 : w2.cell? ⟨wr.heap.size, 2, none⟩ = some (.string ⟨#[]⟩) := by have := HBz.out.cell 2; exact this
              have z3 : w2.cell? ⟨wr.heap.size, 3, none⟩ = some (.bool false) := by have := HBz.out.cell 3; exact this
              have f0 : w2.frozen? ⟨wr.heap.size, 0, none⟩ = false := HBz.out.frozen 0
              have f1 : w2.frozen? ⟨wr.heap.size, 1, none⟩ = false := HBz.out.frozen 1
              have f2 : w2.frozen? ⟨wr.heap.size, 2, none⟩ = false := HBz.out.frozen 2
              have f3 : w2.frozen? ⟨wr.heap.size, 3, none⟩ = false := HBz.out.frozen 3
              go_simp
              try dsimp only
              refine hK.out _ _ ?_ (fun hHeldb3 => ?_)
              · exact Kn.far_2 hHeldb2.2.2 (low4 hHeldb2.2.2.out.low (Nat.le_refl _) (.string mn) (.string mr) (.string mz) (.bool mu))
              clear hK K hHeldb2
              try clear hb
              try simp only [Act.put, List.setIfInBounds_toArray, List.set_cons_zero, List.set_cons_succ]
              refine wpAnyH_take (i := 18) (v := ?vb18) (opsS (opsS (opsS (opsS (opsS (opsS (opsS (opsS (opsS (opsS (opsS (opsS (opsS (opsS (opsS (opsS (opsS (opsS ops0)))))))))))))))))) (by kernel_rfl) (by kernel_rfl) (by kernel_rfl) (fun _ _ _ h => h) (Or.inl ⟨by rfl, ?yb18⟩) hHeldb3 ?_
              case yb18 => (intro w hSw; (try dsimp only at hSw); go_simp; try (with_reducible rfl))
              try simp only [Act.put, List.setIfInBounds_toArray, List.set_cons_zero, List.set_cons_succ]
              refine wpAnyH_done (by kernel_rfl) ?_ _
              have hE := Lib.hid hHeldb3.2.2.out.low
              have HRe := Lib.hid (hrow.below hE.out)
              have HLe := Lib.hid (hlow.trans (hE.out.mono hsz))
              have hszE := HLe.out.size
              clear hHeldb3 test hrow hlow c0 c1 c2 c3
              clear z0 z1 z2 z3 f0 f1 f2 f3
              have hbf : Blk ((((w2.setCell ⟨wr.heap.size, 0, none⟩ (.string mn)).setCell ⟨wr.heap.size, 1, none⟩ (.string mr)).setCell ⟨wr.heap.size, 2, none⟩ (.string mz)).setCell ⟨wr.heap.size, 3, none⟩ (.bool mu)) wr.heap.size 26 #[.string mn, .string mr, .string mz, .bool mu] := set4 HBz.out
              generalize ((((w2.setCell ⟨wr.heap.size, 0, none⟩ (.string mn)).setCell ⟨wr.heap.size, 1, none⟩ (.string mr)).setCell ⟨wr.heap.size, 2, none⟩ (.string mz)).setCell ⟨wr.heap.size, 3, none⟩ (.bool mu)) = we at *
              have d0 : we.cell? ⟨wr.heap.size, 0, none⟩ = some (.string mn) := hbf.cell 0
              have d1 : we.cell? ⟨wr.heap.size, 1, none⟩ = some (.string mr) := hbf.cell 1
              have d2 : we.cell? ⟨wr.heap.size, 2, none⟩ = some (.string mz) := hbf.cell 2
              have d3 : we.cell? ⟨wr.heap.size, 3, none⟩ = some (.bool mu) := hbf.cell 3
              have hszW := hbf.lt
              clear HBz hbf hE
              go_wp2_with (at_builtin; refine wpList_append_row _ rfl _ _ 30 rfl w1.heap.size 26 i0 _ 4 56 Tryd.underlying30 hi0 hz0 hz1 hz2 rfl (by decide) _ _ rfl (HRe.out.alloc _) Mb.len _ ⟨mn, mr, mz, mu⟩ rfl (cells_new _ _ (Mb.cells ⟨mn, mr, mz, mu⟩)) (one_M _) (by unfold maxLen; omega) (by omega) (by simp at hszE ⊢; omega) ?_; intro v' w3 hrow' hgrow)
              have hlow' := low_row' HLe.out HRe.out (Nat.le_refl _) hszE hgrow
              go_roundw
              case rel => exact ⟨k + 1, by omega, by go_num, by rw [hro.out]; exact hrow', hlow'⟩
              case measure => simp [intOf]; omega
            exact AllReadyH.nil
          exact AllReadyH.nil
        exact AllReadyH.nil
    · have hkl : k = ys.length := by omega
      subst hkl
      go_wp2
      go_ret
      exact ⟨_, rfl, by rw [HM.out, ← HG.out]; exact hrow.more hw1, HL.out.trans (hlow.mono hw1)⟩
end Go.Proofs.YtfkjoeibofnnoaaDoor.tp
