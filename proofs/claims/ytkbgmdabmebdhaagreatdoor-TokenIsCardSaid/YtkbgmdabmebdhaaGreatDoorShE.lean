/- The walks of sha: the sum. -/
import Derived.Test.YtkbgmdabmebdhaaGreatDoorShD
import Derived.Deep.RegionHeld3
namespace Go.Proofs.YtkbgmdabmebdhaaGreatDoor.sha
open Go.ChangeShapes Go.WideShapes Go.ChangeAt Go.RowKit Go.Proofs.Aid
open Go.Proofs.YtkbgmdabmebdhaaGreatDoor.oc (be Wr WAt Read Settled Wrote Own self be_length Wr.below)
set_option linter.unusedVariables false
theorem shaRun_add (v : S8) (l : List UInt8) (a : Nat) : ∀ b, shaRun v l (a + b) = shaRun (shaRun v l a) (l.drop (64 * a)) b
  | 0 => rfl
  | b + 1 => by
    rw [← Nat.add_assoc]
    show blockS _ _ = blockS _ _
    rw [shaRun_add v l a b, List.drop_drop, Nat.mul_add]
theorem shaRun_front (v : S8) (l m : List UInt8) : ∀ a, 64 * a ≤ l.length → shaRun v (l ++ m) a = shaRun v l a
  | 0, _ => rfl
  | a + 1, h => by
    show blockS _ _ = blockS _ _
    rw [shaRun_front v l m a (by omega), List.drop_append_of_le_length (by omega), List.take_append_of_le_length (by rw [List.length_drop]; omega)]
/-- The words in their block. -/
structure Sm (w0 : World) (g : Nat) (r : List Nat) (w' : World) : Prop where
  h : Blk w' g 103 (wcell .u32 8 r)
  m : w0.heap.size ≤ g
  low : Below w0.heap.size w0 w'
theorem Sm.next {w0 w1 w2 : World} {g : Nat} {r : List Nat} (h : Sm w0 g r w1) (hb : Below w1.heap.size w1 w2) : Sm w0 g r w2 :=
  ⟨h.h.below hb h.h.lt, h.m, h.low.trans (hb.mono (by have := h.h.lt; have := h.m; omega))⟩
theorem Sm.drew {w0 w1 : World} {g : Nat} {r : List Nat} (h : Sm w0 g r w1) : Sm w0 g r w1.drew := ⟨h.h.drew, h.m, h.low.drew⟩
theorem Sm.row {w0 w1 : World} {g : Nat} {r : List Nat} (h : Sm w0 g r w1) (r' : List Nat) : Sm w0 g r' (w1.setRow g (wcell .u32 8 r')) := ⟨blk_setRow h.h, h.m, below_setRow h.low h.m _⟩
theorem int_eq {k : IntKind} {a b : Int} (h : a = b) : Value.int k a = .int k b := by rw [h]
theorem slice_from {P : Program} {t : TypeId} (ht : P.underlying t = some .string) (w : World) (s : ByteArray) (l : Nat) (h1 : l ≤ s.size) {L : Int} (hL : L = l) :
    (Instr.slice t (.string s) (some (.int .i64 L)) none none).run P w = .ok (.string (s.extract l s.size)) w := by
  subst hL
  have := run_slice_string_l (P := P) w t s ht .i64 (l : Int) (by omega) (by omega)
  simpa using this
def Summed (s : List UInt8) (w : World) (e : Ending) (w' : World) : Prop := e = .returned (.string ⟨(shaB s).toArray⟩) ∧ Below w.heap.size w w'
theorem run_index_wcell {P : Program} {t e : TypeId} {n : Nat} (ht : P.underlying t = some (.array n e)) (ha : ∀ w, (isAgg e).run P w = .ok false w) (hz : ∀ w, (sizeOf e).run P w = .ok 1 w) (l : List Nat) {k : Nat} (hk : k < n) (w : World) :
    (Instr.index t (.agg (wcell .u32 n l)) (.int .i64 (k : Int))).run P w = .ok (.int .u32 ((l.getD k 0 : Nat) : Int)) w := by
  have h := wcell_at (k := .u32) (l := l) hk
  simp [Instr.index, run_underlying ht, asIntOf, part, ha, hz, hk, h, Sem.run_bind, Result.andThen]
theorem agg29 (w : World) : (isAgg 102).run Tryz.prog w = .ok false w := by kernel_rfl
theorem size29 (w : World) : (sizeOf 102).run Tryz.prog w = .ok 1 w := by kernel_rfl
theorem index30 (w : World) (l : List Nat) (k : Nat) (hk : k < 8) : (Instr.index 103 (.agg (wcell .u32 8 l)) (.int .i64 (k : Int))).run Tryz.prog w = .ok (.int .u32 ((l.getD k 0 : Nat) : Int)) w :=
  run_index_wcell Tryz.underlying103 agg29 size29 l hk w
set_option maxRecDepth 100000 in
set_option maxHeartbeats 4000000 in
theorem sum_any (s : ByteArray) (w : World) (hs : s.size ≤ 1099511627776) (hl : Lets w) :
    Calls Tryz.prog 53 #[.string s] w (Summed s.data.toList w) := by
  obtain ⟨Q, hQ⟩ : ∃ Q, Q = s.size / 64 := ⟨_, rfl⟩
  have hQle : 64 * Q ≤ s.size := by omega
  have hwq : (s.size : Int) - (s.size : Int) % 64 = 64 * (Q : Int) := by omega
  have HQ := Lib.hid hQ
  clear hQ
  have HL := Lib.hid hl
  have p0 := hl.f 0 (by decide)
  have p1 := hl.f 1 (by decide)
  have p2 := hl.f 2 (by decide)
  have p3 := hl.f 3 (by decide)
  have p4 := hl.f 4 (by decide)
  have p5 := hl.f 5 (by decide)
  have p6 := hl.f 6 (by decide)
  have p7 := hl.f 7 (by decide)
  simp only [h0, S8.list, List.getD_cons_zero, List.getD_cons_succ, List.getD_eq_getElem?_getD, List.getElem?_cons_zero, List.getElem?_cons_succ, Option.getD_some] at p0 p1 p2 p3 p4 p5 p6 p7
  clear hl
  go_enter Tryz.func53, Tryz.ntmps53
  go_wp2
  have HT : Hid (Sm w w.heap.size (shaRun h0 s.data.toList 0).list (w.alloc (.cells #[.int .u32 1779033703, .int .u32 3144134277, .int .u32 1013904242, .int .u32 2773480762, .int .u32 1359893119, .int .u32 2600822924, .int .u32 528734635, .int .u32 1541459225] 103))) :=
    ⟨Blk.new w _ _, Nat.le_refl _, below_lit w _⟩
  generalize w.alloc (.cells #[.int .u32 1779033703, .int .u32 3144134277, .int .u32 1013904242, .int .u32 2773480762, .int .u32 1359893119, .int .u32 2600822924, .int .u32 528734635, .int .u32 1541459225] 103) = wa at *
  generalize (#[.int .u32 1779033703, .int .u32 3144134277, .int .u32 1013904242, .int .u32 2773480762, .int .u32 1359893119, .int .u32 2600822924, .int .u32 528734635, .int .u32 1541459225] : Array Value) = vc at *
  clear p0 p1 p2 p3 p4 p5 p6 p7 hwq
  go_loopw [5] (fun iv wr => ∃ q : Nat, q ≤ Q ∧ iv = .int .i64 (64 * (q : Int)) ∧ Hid (Sm w w.heap.size (shaRun h0 s.data.toList q).list wr)) (fun iv _ => 64 * Q - (intOf iv).toNat)
  case atStart => exact ⟨0, by omega, rfl, HT⟩
  case round =>
    clear HT
    obtain ⟨q, hq, rfl, hT⟩ := hrel
    by_cases hlt : q < Q
    · have hbd : 64 * (q : Int) < 64 * (Q : Int) := by omega
      have hok := Lib.hid (shaRun_ok h0_ok s.data.toList q)
      have HN := Lib.hid (show shaRun h0 s.data.toList (q + 1) = blockS (shaRun h0 s.data.toList q) ((s.data.toList.drop (64 * q)).take 64) from rfl)
      generalize shaRun h0 s.data.toList q = r at *
      have HTD := Lib.hid hT.out.drew
      have hlets := Lib.hid (HL.out.below HTD.out.low (Nat.le_refl _))
      have c6 := fun j => hT.out.h.cell j
      have p0 := c6 0
      have p1 := c6 1
      have p2 := c6 2
      have p3 := c6 3
      have p4 := c6 4
      have p5 := c6 5
      have p6 := c6 6
      have p7 := c6 7
      rw [← cells_list] at p0 p1 p2 p3 p4 p5 p6 p7
      simp only [S8.cells, List.getElem?_toArray, List.getElem?_cons_zero, List.getElem?_cons_succ] at p0 p1 p2 p3 p4 p5 p6 p7
      clear c6 hT
      have h64 : 64 * q + 64 ≤ s.size := by omega
      have hsl := fun w => run_slice_string_lh (P := Tryz.prog) Tryz.underlying9 w s .i64 .i64 (64 * q) (64 * q + 64) (by omega) h64 (L := 64 * (q : Int)) (H := 64 * (q : Int) + 64) (by omega) (by omega)
      have hc := Lib.hid (extract_list s (64 * q) (64 * q + 64))
      have hcs : Hid ((s.extract (64 * q) (64 * q + 64)).size = 64) := by unfold Hid; rw [ByteArray.size_extract]; omega
      generalize s.extract (64 * q) (64 * q + 64) = c at *
      have HC : Hid (∀ w', Lets w' → Calls Tryz.prog 70 #[.agg #[.int .u32 (r.a : Int), .int .u32 r.b, .int .u32 r.c, .int .u32 r.d, .int .u32 r.e, .int .u32 r.f, .int .u32 r.g, .int .u32 r.h], .string c] w' (Taken (blockS r c.data.toList) w')) := fun w' hl => taken_any r hok.out c w' hcs.out hl
      have ew : IntKind.i64.wrap (64 * (q : Int) + 64) = 64 * (q : Int) + 64 := IntWalk.i64_in _ (by omega)
      go_wp2
      go_still_tail 6, (by kernel_rfl)
      change wpList _ _ _ _ _ wr.drew
      generalize wr.drew = wd at *
      go_wp2_with (first
        | (refine (HC.out wd hlets.out).mono ?_; rintro e w4 ⟨rfl, hb⟩; have HT4 := Lib.hid (HTD.out.next hb); clear hb HTD)
        | (refine wpList_store_row rfl 103 _ _ rfl w.heap.size (blockS r c.data.toList).cells rfl rfl 103 (wcell .u32 8 r.list) HT4.out.h (info30c _) rfl (one30 _) ?_))
      go_roundw
      case rel =>
        refine ⟨q + 1, by omega, int_eq (by omega), ?_⟩
        rw [HN.out]
        have e : (s.data.toList.drop (64 * q)).take 64 = c.data.toList := by rw [hc.out]; congr 1; omega
        rw [e]
        exact HT4.out.row _
      case measure => simp [intOf]; omega
    · have hqQ : q = Q := by omega
      have hok := Lib.hid (shaRun_ok h0_ok s.data.toList q)
      have HV := Lib.hid (show shaRun h0 s.data.toList q = shaRun h0 (padB s.data.toList) q from (shaRun_front _ _ _ _ (by simp; omega)).symm)
      rw [HV.out] at hT hok
      have hsl := fun w => slice_from (P := Tryz.prog) Tryz.underlying9 w s (64 * q) (by omega) (L := 64 * (Q : Int)) (by omega)
      have hd := Lib.hid (extract_list s (64 * q) s.size)
      have hds : (s.extract (64 * q) s.size).size < 64 := by rw [ByteArray.size_extract]; have := HQ.out; omega
      generalize s.extract (64 * q) s.size = d at *
      have hfl := fillB_length s.size
      have hnl := noughts_lt s.size
      have hfw := Lib.hid (fill_whole s.size)
      have hfil := Lib.hid (fun w => filling_any s.size w hs)
      obtain ⟨fz, hfz, hfzl⟩ : ∃ fz : ByteArray, (⟨(fillB s.size).toArray⟩ : ByteArray) = fz ∧ fz.data.toList = fillB s.size := ⟨_, rfl, rfl⟩
      have hfzs : fz.size ≤ 72 := by
        have h := congrArg List.length hfzl
        rw [Array.length_toList] at h
        show fz.data.size ≤ 72
        omega
      have HFZ := Lib.hid hfz
      have HFL := Lib.hid hfzl
      clear hfz hfzl hfl hnl
      have HD : Hid ((d ++ fz).data.toList = (padB s.data.toList).drop (64 * q)) := by
        have h1 := hd.out
        unfold Hid
        rw [ba_app, h1, HFL.out, padB, List.drop_append_of_le_length (by simp; omega), List.take_of_length_le (by simp)]
        simp
      have HDW : Hid ((padB s.data.toList).length = 64 * ((padB s.data.toList).length / 64)) := by
        have h1 : (padB s.data.toList).length = s.size + (fillB s.size).length := by rw [padB, List.length_append]; simp
        have h2 := hfw.out
        unfold Hid
        omega
      have HPG : Hid (64 * q ≤ (padB s.data.toList).length) := by
        unfold Hid; rw [padB, List.length_append]; simp; omega
      have HSB : Hid (∀ t, t = (padB s.data.toList).length / 64 → outS (shaRun h0 (padB s.data.toList) t) = shaB s.data.toList) := fun t h => by rw [h]; rfl
      clear hd hfw HV hqQ
      generalize padB s.data.toList = pad at *
      have hdf : ¬ 9223372036854775807 < d.size + fz.size := by omega
      have hlsb0 : (d ++ fz).data.size ≤ 1000 := by
        have h1 := congrArg List.length (ba_app d fz)
        rw [Array.length_toList, List.length_append, Array.length_toList, Array.length_toList] at h1
        have h2 : d.data.size < 64 := hds
        have h3 : fz.data.size ≤ 72 := hfzs
        omega
      go_wp2
      refine wp_region_held_drew (S := (fun w' => Hid (Sm w w.heap.size (shaRun h0 pad q).list w'))) (by kernel_rfl) ?_ (fun hHelda0 => ?_)
      · (first | exact hT | exact Lib.hid (Sm.drew hT.out))
      refine wpAnyH_take (i := 0) (v := ?va0) ops0 (by kernel_rfl) (by kernel_rfl) (by kernel_rfl) (fun _ _ _ h => h) (Or.inl ⟨by rfl, ?ya0⟩) hHelda0 ?_
      case ya0 => (intro w hSw; (try dsimp only at hSw); go_simp; try (with_reducible rfl))
      try simp only [Act.put, List.setIfInBounds_toArray, List.set_cons_zero, List.set_cons_succ]
      refine wpAnyH_take (i := 1) (v := ?va1) (opsS ops0) (by kernel_rfl) (by kernel_rfl) (by kernel_rfl) (fun _ _ _ h => h) (Or.inl ⟨by rfl, ?ya1⟩) hHelda0 ?_
      case ya1 => (intro w hSw; (try dsimp only at hSw); go_simp; try (with_reducible rfl))
      try simp only [Act.put, List.setIfInBounds_toArray, List.set_cons_zero, List.set_cons_succ]
      refine wpAnyH_take (i := 2) (v := ?va2) (opsS (opsS ops0)) (by kernel_rfl) (by kernel_rfl) (by kernel_rfl) (fun _ _ _ h => h) (Or.inl ⟨by rfl, ?ya2⟩) hHelda0 ?_
      case ya2 => (intro w hSw; (try dsimp only at hSw); go_simp; try (with_reducible rfl))
      try simp only [Act.put, List.setIfInBounds_toArray, List.set_cons_zero, List.set_cons_succ]
      refine wpAnyH_take (i := 3) (v := ?va3) (opsS (opsS (opsS ops0))) (by kernel_rfl) (by kernel_rfl) (by kernel_rfl) (fun _ _ _ h => h) (Or.inl ⟨by rfl, ?ya3⟩) hHelda0 ?_
      case ya3 => (intro w hSw; (try dsimp only at hSw); go_simp; try (with_reducible rfl))
      try simp only [Act.put, List.setIfInBounds_toArray, List.set_cons_zero, List.set_cons_succ]
      refine wpAnyH_take (i := 4) (v := ?va4) (opsS (opsS (opsS (opsS ops0)))) (by kernel_rfl) (by kernel_rfl) (by kernel_rfl) (fun _ _ _ h => h) (Or.inl ⟨by rfl, ?ya4⟩) hHelda0 ?_
      case ya4 => (intro w hSw; (try dsimp only at hSw); go_simp; try (with_reducible rfl))
      try simp only [Act.put, List.setIfInBounds_toArray, List.set_cons_zero, List.set_cons_succ]
      refine wpAnyH_ready (rs := [5]) (by kernel_rfl) (by simp) ?_
      refine AllReadyH.cons (opsS (opsS (opsS (opsS (opsS ops0))))) (fun K hK => ?_) AllReadyH.nil
      go_simp
      refine (hfil.out _).mono ?_; rintro e w' ⟨rfl, hb⟩; rw [HFZ.out]; have hKp := Lib.hid (Sm.next (Hid.out hHelda0) hb)
      try dsimp only
      refine hK.out _ _ ?_ (fun hHelda1 => ?_)
      · (first | assumption | exact hT)
      clear hK K hHelda0
      try clear hb
      try simp only [Act.put, List.setIfInBounds_toArray, List.set_cons_zero, List.set_cons_succ]
      refine wpAnyH_take (i := 6) (v := ?va6) (opsS (opsS (opsS (opsS (opsS (opsS ops0)))))) (by kernel_rfl) (by kernel_rfl) (by kernel_rfl) (fun _ _ _ h => h) (Or.inl ⟨by rfl, ?ya6⟩) hHelda1 ?_
      case ya6 => (intro w hSw; (try dsimp only at hSw); go_simp; try (with_reducible rfl))
      try simp only [Act.put, List.setIfInBounds_toArray, List.set_cons_zero, List.set_cons_succ]
      refine wpAnyH_take (i := 7) (v := ?va7) (opsS (opsS (opsS (opsS (opsS (opsS (opsS ops0))))))) (by kernel_rfl) (by kernel_rfl) (by kernel_rfl) (fun _ _ _ h => h) (Or.inl ⟨by rfl, ?ya7⟩) hHelda1 ?_
      case ya7 => (intro w hSw; (try dsimp only at hSw); go_simp; try (with_reducible rfl))
      try simp only [Act.put, List.setIfInBounds_toArray, List.set_cons_zero, List.set_cons_succ]
      refine wpAnyH_done (by kernel_rfl) ?_ _
      have hwl := congrArg List.length HD.out
      rw [Array.length_toList, List.length_drop] at hwl
      have hwl : (d ++ fz).size = pad.length - 64 * q := hwl
      generalize d ++ fz = ls at *
      obtain ⟨N2, hN2⟩ : ∃ N2, N2 = pad.length / 64 - q := ⟨_, rfl⟩
      have hls : Hid (ls.size = 64 * N2) := by have := HDW.out; have := HPG.out; unfold Hid; omega
      have hlsb : ls.size ≤ 1000 := hlsb0
      have HR0 : Hid (∀ j, j = N2 → shaRun (shaRun h0 pad q) (pad.drop (64 * q)) j = shaRun h0 pad (pad.length / 64)) := fun j hj => by
        rw [← shaRun_add, hj]
        congr 1
        have := HDW.out; have := HPG.out
        omega
      have HOK := Lib.hid (fun j => shaRun_ok hok.out (pad.drop (64 * q)) j)
      have HPO := Lib.hid (shaRun_ok h0_ok pad (pad.length / 64))
      clear hwl hN2 hdf hlsb0 hds hfzs HFZ HFL hT hHelda1 hfil hsl HDW HPG hok
      generalize shaRun h0 pad q = r0 at *
      generalize hpl : pad.drop (64 * q) = pl at *
      have HSB2 := Lib.hid (HSB.out (pad.length / 64) rfl)
      clear HSB hpl
      generalize pad.length / 64 = np at *
      generalize shaRun h0 pad np = rF at *
      go_wp2
      have HT : Hid (Sm w w.heap.size (shaRun r0 pl 0).list w') := hKp
      clear hKp
      go_loopw [7] (fun iv wr => ∃ j : Nat, j ≤ N2 ∧ iv = .int .i64 (64 * (j : Int)) ∧ Hid (Sm w w.heap.size (shaRun r0 pl j).list wr)) (fun iv _ => 64 * N2 - (intOf iv).toNat)
      case atStart => exact ⟨0, by omega, rfl, HT⟩
      case round =>
        clear HT
        obtain ⟨j, hj, rfl, hT⟩ := hrel
        by_cases hlt : j < N2
        · have hbd : 64 * (j : Int) < (ls.size : Int) := by have := hls.out; omega
          have hok := Lib.hid (HOK.out j)
          have HN := Lib.hid (show shaRun r0 pl (j + 1) = blockS (shaRun r0 pl j) ((pl.drop (64 * j)).take 64) from rfl)
          generalize shaRun r0 pl j = r at *
          have HTD := Lib.hid hT.out.drew
          have hlets := Lib.hid (HL.out.below HTD.out.low (Nat.le_refl _))
          have c6 := fun j => hT.out.h.cell j
          have p0 := c6 0
          have p1 := c6 1
          have p2 := c6 2
          have p3 := c6 3
          have p4 := c6 4
          have p5 := c6 5
          have p6 := c6 6
          have p7 := c6 7
          rw [← cells_list] at p0 p1 p2 p3 p4 p5 p6 p7
          simp only [S8.cells, List.getElem?_toArray, List.getElem?_cons_zero, List.getElem?_cons_succ] at p0 p1 p2 p3 p4 p5 p6 p7
          clear c6 hT
          have h64 : 64 * j + 64 ≤ ls.size := by have := hls.out; omega
          have hsl := fun w => run_slice_string_lh (P := Tryz.prog) Tryz.underlying9 w ls .i64 .i64 (64 * j) (64 * j + 64) (by omega) h64 (L := 64 * (j : Int)) (H := 64 * (j : Int) + 64) (by omega) (by omega)
          have hc := Lib.hid (extract_list ls (64 * j) (64 * j + 64))
          have hcs : Hid ((ls.extract (64 * j) (64 * j + 64)).size = 64) := by unfold Hid; rw [ByteArray.size_extract]; omega
          generalize ls.extract (64 * j) (64 * j + 64) = c at *
          have HC : Hid (∀ w', Lets w' → Calls Tryz.prog 70 #[.agg #[.int .u32 (r.a : Int), .int .u32 r.b, .int .u32 r.c, .int .u32 r.d, .int .u32 r.e, .int .u32 r.f, .int .u32 r.g, .int .u32 r.h], .string c] w' (Taken (blockS r c.data.toList) w')) := fun w' hl => taken_any r hok.out c w' hcs.out hl
          have ew : IntKind.i64.wrap (64 * (j : Int) + 64) = 64 * (j : Int) + 64 := IntWalk.i64_in _ (by omega)
          go_wp2
          go_still_tail 6, (by kernel_rfl)
          change wpList _ _ _ _ _ wr.drew
          generalize wr.drew = wd at *
          go_wp2_with (first
            | (refine (HC.out wd hlets.out).mono ?_; rintro e w4 ⟨rfl, hb⟩; have HT4 := Lib.hid (HTD.out.next hb); clear hb HTD)
            | (refine wpList_store_row rfl 103 _ _ rfl w.heap.size (blockS r c.data.toList).cells rfl rfl 103 (wcell .u32 8 r.list) HT4.out.h (info30c _) rfl (one30 _) ?_))
          go_roundw
          case rel =>
            refine ⟨j + 1, by omega, int_eq (by omega), ?_⟩
            rw [HN.out]
            have e : (pl.drop (64 * j)).take 64 = c.data.toList := by rw [hc.out, HD.out]; congr 1; omega
            rw [e]
            exact HT4.out.row _
          case measure => simp [intOf]; omega
        · have hbd : ¬ 64 * (j : Int) < (ls.size : Int) := by have := hls.out; omega
          have hTF := hT.out
          rw [HR0.out j (by omega)] at hTF
          have HTF := Lib.hid hTF
          have hix := fun k hk w => index30 w rF.list k hk
          have HIX := Lib.hid hix
          clear hT hTF hix
          go_wp2_with (refine wpList_load_row rfl 103 _ rfl w.heap.size rfl 103 (wcell .u32 8 rF.list) (0, 0) _ (HTF.out.h.alloc _) Tryz.underlying103 rfl (by rw [wcell_size]; exact info30) ?_)
          have hgB := HTF.out.low.size
          have HB0 : Hid (Wr wr.heap.size ((rF.list.take 0).flatMap fun n : Nat => be 4 (n : Int)) (wr.alloc (.cells #[.pointer none, .slice none 0 0, .pointer none] 62))) := .inr (.inl ⟨rfl, Blk.new wr _ _⟩)
          have HBL : Hid (Below w.heap.size w (wr.alloc (.cells #[.pointer none, .slice none 0 0, .pointer none] 62))) := HTF.out.low.alloc hgB _
          have HLT := Lib.hid (S8.list_lt HPO.out)
          have HLE : Hid (rF.list.length = 8) := rfl
          have HOUT : Hid (∀ k, k = 8 → (rF.list.take k).flatMap (fun n : Nat => be 4 (n : Int)) = shaB s.data.toList) := fun k h => by rw [h, ← HSB2.out]; rfl
          clear HTF HSB2
          generalize wr.alloc (.cells #[.pointer none, .slice none 0 0, .pointer none] 62) = wb at *
          generalize wr.heap.size = gB at *
          generalize rF.list = rl at *
          go_loopw [51] (fun iv w3 => ∃ k : Nat, k ≤ 8 ∧ iv = .int .i64 k ∧ Hid (Wr gB ((rl.take k).flatMap fun n : Nat => be 4 (n : Int)) w3) ∧ Hid (Below w.heap.size w w3)) (fun iv _ => 8 - (intOf iv).toNat)
          case atStart => exact ⟨0, by omega, rfl, HB0, HBL⟩
          case round =>
            clear HB0 HBL
            obtain ⟨k, hk, rfl, hw, hlow⟩ := hrel
            by_cases hk8 : k < 8
            · have hkl : k < rl.length := by rw [HLE.out]; exact hk8
              have hix := HIX.out k hk8
              have hgd := getD_in hkl
              have hlt32 := HLT.out rl[k] (List.getElem_mem hkl)
              have htk := Lib.hid (List.take_succ_eq_append_getElem hkl)
              rw [hgd] at hix
              have hfl : Hid (((rl.take k).flatMap fun n : Nat => be 4 (n : Int)).length ≤ 32) := by
                unfold Hid
                rw [List.length_flatMap]
                simp only [be_length]
                have : (rl.take k).length ≤ 8 := by rw [List.length_take]; omega
                generalize rl.take k = m at this
                clear hix hgd htk hw
                rw [List.map_const']; simp; omega
              clear hgd
              generalize rl[k] = x at *
              go_wp2_with fail
              refine (oc.count_any gB _ (x : Int) wr hw.out (by have := hfl.out; omega)).mono ?_
              rintro e w4 ⟨rfl, h1, h2⟩
              have H1 : Hid (Wr gB ((rl.take (k + 1)).flatMap fun n : Nat => be 4 (n : Int)) w4) := by
                unfold Hid
                rw [htk.out, List.flatMap_append]
                exact .inl (by simpa using h1)
              have H2 : Hid (Below w.heap.size w w4) := hlow.out.trans (h2.mono hgB)
              clear h1 h2 hw hlow hfl htk
              go_wp2
              go_roundw
              case rel => exact ⟨k + 1, by omega, by go_num, H1, H2⟩
              case measure => simp [intOf]; omega
            · have hk88 : k = 8 := by omega
              have hw2 := hw.out
              rw [HOUT.out k hk88] at hw2
              have HW2 := Lib.hid hw2
              clear hw hw2 hk88
              go_wp2_with fail
              refine (oc.bytes_any gB _ wr HW2.out).mono ?_
              rintro e w4 ⟨rfl, h1, h2, h3⟩
              have HF : Hid (Summed s.data.toList w (.returned (.string ⟨(shaB s.data.toList).toArray⟩)) w4) := ⟨rfl, hlow.out.trans (h2.mono hgB)⟩
              clear h1 h2 h3
              go_wp2
              go_ret
              exact HF.out
theorem shaB_length (s : List UInt8) : (shaB s).length = 32 := by
  simp [shaB, outS, S8.list, be_length]
def Digested (b : List UInt8) (w : World) (e : Ending) (w' : World) : Prop := e = .returned (.string ⟨b.toArray⟩) ∧ Below w.heap.size w w'
end Go.Proofs.YtkbgmdabmebdhaaGreatDoor.sha
