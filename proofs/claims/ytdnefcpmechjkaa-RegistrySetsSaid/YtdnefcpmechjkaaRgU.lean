/- RegistrySets: the entry that gives any key any value; put, it is what the key has. -/
import Derived.Test.YtdnefcpmechjkaaRgT
namespace Go.Proofs.Ytdnefcpmechjkaa.rgy
open Go.ChangeShapes Go.WideShapes Go.ChangeAt Go.RowKit Go.Proofs.Aid Go.Proofs.Ytdnefcpmechjkaa.name Go.Proofs.Ytdnefcpmechjkaa.reg
theorem next_ok {a r : Rg} {s t : ByteArray} (h : a.next s t = (r, 0)) (ha : a.isZero ∨ a.may) : r.may ∧ r.newer a = true ∧ r.value = t := by
  unfold Rg.next at h
  split at h
  · injection h with _ h; cases h
  · rename_i h1
    split at h
    · injection h with _ h; cases h
    · rename_i h2
      injection h with h _
      subst h
      have hs : isName s.data.toList = true := by
        cases e : isName s.data.toList with
        | true => rfl
        | false => exact absurd (.inr (.inl e)) h1
      have ht : t.size ≤ 256 := by
        by_cases e : 256 < t.size
        · exact absurd (.inr (.inr e)) h1
        · omega
      obtain ⟨n, b, v⟩ := a
      have hn : 0 ≤ n ∧ n ≤ 9007199254740992 := by
        rcases ha with ha | ha
        · have := ha.1; simp only at this; omega
        · have := ha.1; have := ha.2.1; simp only at *; omega
      simp only at h2 ⊢
      refine ⟨⟨by simp only; omega, by simp only; omega, .inr hs, ht⟩, ?_, trivial⟩
      rw [newer_n (by omega), decide_eq_true_eq]; omega
theorem get_ok {l : List En} (h : may l = true) (k : ByteArray) : (get l k).isZero ∨ (get l k).may := by
  unfold get
  cases e : look l k with
  | none => exact .inl ⟨rfl, by show ByteArray.empty.toList = []; rw [Lib.toList_data]; rfl, by show ByteArray.empty.toList = []; rw [Lib.toList_data]; rfl⟩
  | some r => exact .inr (entry_may h e)
/-- What Set gives may be put, and is what the key has then. -/
theorem setE_ok {l : List En} {s k t : ByteArray} {a : En} (h : setE l s k t = (a, 0)) : may l = true ∧ isEntry a = true ∧ get (merge l [a]) k = a.reg ∧ a.reg.value = t := by
  unfold setE at h
  split at h
  · rename_i h1
    rw [Bool.and_eq_true] at h1
    split at h
    · rename_i h2
      injection h with h _
      subst h
      obtain ⟨h3, h4, h5⟩ := next_ok (r := ((get l k).next s t).1) (a := get l k) (s := s) (t := t) (by rw [← h2]) (get_ok h1.1 k)
      refine ⟨h1.1, ?_, ?_, h5⟩
      · unfold isEntry; rw [h1.2, decide_eq_true h3]; rfl
      · have sl := (may_iff.1 h1.1).2.2
        unfold get at h4 ⊢
        rw [merge_look k sl (by unfold srt; simp), look_cons, if_pos rfl]
        cases e : look l k with
        | none => rfl
        | some r =>
          rw [e] at h4
          show r.join _ = _
          exact join_right h4
    · rename_i h2
      injection h with _ h
      exact absurd h h2
  · injection h with _ h; cases h
theorem setE_sz {l : List En} {s k t : ByteArray} (hk : k.size ≤ maxLen) (hs : s.size ≤ maxLen) (ht : t.size ≤ maxLen) : (setE l s k t).1.sz := by
  unfold setE
  split
  · split
    · refine ⟨hk, ?_⟩
      unfold Rg.next
      split
      · exact ⟨Nat.zero_le _, Nat.zero_le _⟩
      · split
        · exact ⟨Nat.zero_le _, Nat.zero_le _⟩
        · exact ⟨hs, ht⟩
    · exact ⟨Nat.zero_le _, Nat.zero_le _, Nat.zero_le _⟩
  · exact ⟨Nat.zero_le _, Nat.zero_le _, Nat.zero_le _⟩
set_option maxRecDepth 100000 in
set_option maxHeartbeats 8000000 in
theorem sets_walk (W : World) (A : Option Addr) (ca : Nat) (xs : List En) (s0 s1 s2 : ByteArray) (hl : xs.length ≤ maxLen) (hca : xs.length ≤ ca) (h1 : Reads W W.heap.size 4 A xs.length (xs.flatMap En.cells)) (hz : ∀ r ∈ xs, r.sz) (hs0 : s0.size ≤ maxLen) (hs1 : s1.size ≤ maxLen) (hs2 : s2.size ≤ maxLen) :
    Calls Try.prog 5 #[.slice A xs.length ca, .agg #[.string s0, .string s1, .string s2]] W fun e w' => e = .returned (.bool true) ∧ Below W.heap.size W w' := by
  have HS := Lib.hid hz
  have HL1 := Lib.hid hl
  have HL := Lib.hid (below_lit W (.cells #[.string s0, .string s1, .string s2] 40))
  have HB := Lib.hid (Blk.new W 40 #[.string s0, .string s1, .string s2])
  have H1 := Lib.hid (h1.more_below HL.out)
  have S0 := Lib.hid hs0
  have S1 := Lib.hid hs1
  have S2 := Lib.hid hs2
  unfold maxLen at hs0 hs1 hs2
  clear h1 hz hl
  go_enter Try.func5, Try.ntmps5
  go_wp2_with fail
  generalize W.alloc (.cells #[.string s0, .string s1, .string s2] 40) = w0 at *
  refine (rfew_any w0 A ca xs 30 (by omega) HL1.out H1.out HS.out).mono ?_
  rintro e w1 ⟨b1, rfl, hb, hf1⟩
  replace HB := Lib.hid (Blk.below (Hid.out HB) hb (Hid.out HB).lt)
  replace H1 := Lib.hid ((Hid.out H1).more_below hb)
  replace HL := Lib.hid ((Hid.out HL).trans (hb.mono (Hid.out HL).size))
  clear hb
  have d0 : w1.cell? ⟨W.heap.size, 0, none⟩ = some (.string s0) := by rw [HB.out.cell]; rfl
  have d1 : w1.cell? ⟨W.heap.size, 1, none⟩ = some (.string s1) := by rw [HB.out.cell]; rfl
  have d2 : w1.cell? ⟨W.heap.size, 2, none⟩ = some (.string s2) := by rw [HB.out.cell]; rfl
  cases b1 with
  | false =>
    clear hf1
    go_wp2_with fail
    refine (awake_any _).mono ?_
    rintro e w2 ⟨rfl, hb⟩
    replace H1 := Lib.hid ((Hid.out H1).more_below hb)
    replace HL := Lib.hid ((Hid.out HL).trans (hb.mono (Hid.out HL).size))
    clear hb
    go_wp2
    go_ret
    exact ⟨rfl, HL.out⟩
  | true =>
    have hx30 := (hf1 rfl).1
    clear hf1
    by_cases h0 : s0.size ≤ 100 ∧ s1.size ≤ 200 ∧ s2.size ≤ 300
    · obtain ⟨z0, z1, z2⟩ := h0
      have hse := Lib.hid (fun w' h => set_any w' A ca xs s0 s1 s2 (by omega) h HS.out S0.out S1.out S2.out)
      have hsr := Lib.hid (fun w' h => rset_any w' A ca xs s0 s1 s2 (by omega) h HS.out S0.out S1.out S2.out)
      have hok := Lib.hid (fun a => @setE_ok xs s0 s1 s2 a)
      have hsz := setE_sz (l := xs) (s := s0) (k := s1) (t := s2) S1.out S0.out S2.out
      generalize setE xs s0 s1 s2 = r at *
      obtain ⟨⟨kk, n, b, v⟩, c⟩ := r
      have HZ := Lib.hid hsz
      clear hsz
      simp only at hse hsr
      have hneq := neqE_same ⟨kk, n, b, v⟩
      go_wp2_with fail
      refine (hse.out w1 H1.out).mono ?_
      rintro e w2 ⟨rfl, hb⟩
      replace HB := Lib.hid (Blk.below (Hid.out HB) hb (Hid.out HB).lt)
      replace H1 := Lib.hid ((Hid.out H1).more_below hb)
      replace HL := Lib.hid ((Hid.out HL).trans (hb.mono (Hid.out HL).size))
      clear hb
      have hgl0 := HB.out.lt
      have hd0 : w2.cell? ⟨W.heap.size, 0, none⟩ = some (.string s0) := by rw [HB.out.cell]; rfl
      have hd1 : w2.cell? ⟨W.heap.size, 1, none⟩ = some (.string s1) := by rw [HB.out.cell]; rfl
      have hd2 : w2.cell? ⟨W.heap.size, 2, none⟩ = some (.string s2) := by rw [HB.out.cell]; rfl
      have hbl := below_lit w2 (.cells #[.string kk, .int .i64 n, .string b, .string v] 35)
      have HX := Lib.hid (Blk.new w2 35 #[.string kk, .int .i64 n, .string b, .string v])
      have hb := hbl
      clear hbl
      replace HB := Lib.hid (Blk.below (Hid.out HB) hb (Hid.out HB).lt)
      replace H1 := Lib.hid ((Hid.out H1).more_below hb)
      replace HL := Lib.hid ((Hid.out HL).trans (hb.mono (Hid.out HL).size))
      clear hb
      clear d0 d1 d2
      have hgl : W.heap.size < w2.heap.size := hgl0
      have d0 : w2.cell? ⟨W.heap.size, 0, none⟩ = some (.string s0) := hd0
      have d1 : w2.cell? ⟨W.heap.size, 1, none⟩ = some (.string s1) := hd1
      have d2 : w2.cell? ⟨W.heap.size, 2, none⟩ = some (.string s2) := hd2
      clear hd0 hd1 hd2
      have hgl1 := hgl0
      clear hgl0
      go_wp2_with fail
      generalize hw3 : w2.alloc (.cells #[.string kk, .int .i64 n, .string b, .string v] 35) = w3 at *
      have hz3 : w2.heap.size < w3.heap.size := by rw [← hw3]; simp
      clear hw3 d0 d1 d2 hgl1
      generalize w2.heap.size = gx at *
      refine (hsr.out w3 H1.out).mono ?_
      rintro e w4 ⟨rfl, hb⟩
      replace HB := Lib.hid (Blk.below (Hid.out HB) hb (Hid.out HB).lt)
      replace HX := Lib.hid (Blk.below (Hid.out HX) hb (Hid.out HX).lt)
      replace H1 := Lib.hid ((Hid.out H1).more_below hb)
      replace HL := Lib.hid ((Hid.out HL).trans (hb.mono (Hid.out HL).size))
      clear hb
      have hlt4 : gx < w4.heap.size := HX.out.lt
      have hX4 : ∀ o, Blk (w4.alloc o) gx 35 #[.string kk, .int .i64 n, .string b, .string v] := fun o => HX.out.alloc o
      have e0 : w4.cell? ⟨gx, 0, none⟩ = some (.string kk) := by rw [HX.out.cell]; rfl
      have e1 : w4.cell? ⟨gx, 1, none⟩ = some (.int .i64 n) := by rw [HX.out.cell]; rfl
      have e2 : w4.cell? ⟨gx, 2, none⟩ = some (.string b) := by rw [HX.out.cell]; rfl
      have e3 : w4.cell? ⟨gx, 3, none⟩ = some (.string v) := by rw [HX.out.cell]; rfl
      have hb := below_lit w4 (.cells #[.string kk, .int .i64 n, .string b, .string v] 35)
      replace HB := Lib.hid (Blk.below (Hid.out HB) hb (Hid.out HB).lt)
      replace HX := Lib.hid (Blk.below (Hid.out HX) hb (Hid.out HX).lt)
      replace H1 := Lib.hid ((Hid.out H1).more_below hb)
      replace HL := Lib.hid ((Hid.out HL).trans (hb.mono (Hid.out HL).size))
      clear hb
      clear hX4
      by_cases hc : c = 0
      · subst hc
        obtain ⟨hma, hia, hga, hva⟩ := hok.out _ rfl
        simp only at hva
        subst hva
        have HM := Lib.hid (show (may xs && isEntry ⟨kk, n, b, v⟩) = true by rw [hma, hia]; rfl)
        have HGA := Lib.hid hga
        have hml := merge_len xs [⟨kk, n, b, v⟩]
        clear hok hma hia hga
        go_wp2_with fail
        generalize hw5 : w4.alloc (.cells #[.string kk, .int .i64 n, .string b, .string v] 35) = w5 at *
        clear hw5
        refine (put_any w5 A ca xs ⟨kk, n, b, v⟩ (by omega) hca H1.out HS.out HZ.out).mono ?_
        rw [HM.out, if_pos rfl, if_pos rfl]
        rintro e w6 ⟨v6, rfl, hrow, hb⟩
        obtain ⟨A6, c6, rfl, hr6⟩ := hrow.reads
        have H6 := Lib.hid hr6
        clear hr6 hrow
        replace HB := Lib.hid (Blk.below (Hid.out HB) hb (Hid.out HB).lt)
        replace HX := Lib.hid (Blk.below (Hid.out HX) hb (Hid.out HX).lt)
        replace H1 := Lib.hid ((Hid.out H1).more_below hb)
        replace HL := Lib.hid ((Hid.out HL).trans (hb.mono (Hid.out HL).size))
        clear hb
        have hbW : (⟨W.heap.size, 1, none⟩ : Addr).block < w6.heap.size := HB.out.lt
        have hbG : (⟨gx, 1, none⟩ : Addr).block < w6.heap.size := HX.out.lt
        have test := Kn.drew_5 (Kn.new_5 (w0 := w6) (M := w6.heap.size) (p0 := ⟨W.heap.size, 1, none⟩) (p1 := ⟨W.heap.size, 2, none⟩) (p2 := ⟨gx, 1, none⟩) (p3 := ⟨gx, 2, none⟩) (p4 := ⟨gx, 3, none⟩) (v0 := .string s1) (v1 := .string v) (v2 := .int .i64 n) (v3 := .string b) (v4 := .string v) (Nat.le_refl _) (by rw [HB.out.cell]; rfl) hbW (by rw [HB.out.cell]; rfl) hbW (by rw [HX.out.cell]; rfl) hbG (by rw [HX.out.cell]; rfl) hbG (by rw [HX.out.cell]; rfl) hbG)
        have heq := eqlR_same ⟨n, b, v⟩
        generalize merge xs [⟨kk, n, b, v⟩] = M at *
        have hll : M.length ≤ 4000 := by simp at hml; omega
        clear hml hneq e0 e1 e2 e3
        go_wp2_with fail
        refine wp_region_held_drew (S := (fun w' => w'.cell? (⟨W.heap.size, 1, none⟩) = some (.string s1) ∧ w'.cell? (⟨W.heap.size, 2, none⟩) = some (.string v) ∧ w'.cell? (⟨gx, 1, none⟩) = some (.int .i64 n) ∧ w'.cell? (⟨gx, 2, none⟩) = some (.string b) ∧ w'.cell? (⟨gx, 3, none⟩) = some (.string v) ∧ Hid (Kn (w6.heap.size) (w6) [(⟨W.heap.size, 1, none⟩, .string s1), (⟨W.heap.size, 2, none⟩, .string v), (⟨gx, 1, none⟩, .int .i64 n), (⟨gx, 2, none⟩, .string b), (⟨gx, 3, none⟩, .string v)] w'))) (by kernel_rfl) ?_ (fun hHeldp0 => ?_)
        · exact test
        refine wpAnyH_take (i := 0) (v := ?vp0) ops0 (by kernel_rfl) (by kernel_rfl) (by kernel_rfl) (fun _ _ _ h => h) (Or.inl ⟨by rfl, ?yp0⟩) hHeldp0 ?_
        case yp0 => (intro w hSw; (try dsimp only at hSw); go_simp; try (with_reducible rfl))
        try simp only [Act.put, List.setIfInBounds_toArray, List.set_cons_zero, List.set_cons_succ]
        refine wpAnyH_take (i := 1) (v := ?vp1) (opsS ops0) (by kernel_rfl) (by kernel_rfl) (by kernel_rfl) (fun _ _ _ h => h) (Or.inl ⟨by rfl, ?yp1⟩) hHeldp0 ?_
        case yp1 => (intro w hSw; (try dsimp only at hSw); go_simp; try (with_reducible rfl))
        try simp only [Act.put, List.setIfInBounds_toArray, List.set_cons_zero, List.set_cons_succ]
        refine wpAnyH_take (i := 2) (v := ?vp2) (opsS (opsS ops0)) (by kernel_rfl) (by kernel_rfl) (by kernel_rfl) (fun _ _ _ h => h) (Or.inl ⟨by rfl, ?yp2⟩) hHeldp0 ?_
        case yp2 => (intro w hSw; (try dsimp only at hSw); go_simp; try (with_reducible rfl))
        try simp only [Act.put, List.setIfInBounds_toArray, List.set_cons_zero, List.set_cons_succ]
        refine wpAnyH_take (i := 3) (v := ?vp3) (opsS (opsS (opsS ops0))) (by kernel_rfl) (by kernel_rfl) (by kernel_rfl) (fun _ _ _ h => h) (Or.inl ⟨by rfl, ?yp3⟩) hHeldp0 ?_
        case yp3 => (intro w hSw; (try dsimp only at hSw); go_simp; try (with_reducible rfl))
        try simp only [Act.put, List.setIfInBounds_toArray, List.set_cons_zero, List.set_cons_succ]
        refine wpAnyH_take (i := 4) (v := ?vp4) (opsS (opsS (opsS (opsS ops0)))) (by kernel_rfl) (by kernel_rfl) (by kernel_rfl) (fun _ _ _ h => h) (Or.inl ⟨by rfl, ?yp4⟩) hHeldp0 ?_
        case yp4 => (intro w hSw; (try dsimp only at hSw); go_simp; try (with_reducible rfl))
        try simp only [Act.put, List.setIfInBounds_toArray, List.set_cons_zero, List.set_cons_succ]
        refine wpAnyH_take (i := 5) (v := ?vp5) (opsS (opsS (opsS (opsS (opsS ops0))))) (by kernel_rfl) (by kernel_rfl) (by kernel_rfl) (fun _ _ _ h => h) (Or.inl ⟨by rfl, ?yp5⟩) hHeldp0 ?_
        case yp5 => (intro w hSw; (try dsimp only at hSw); go_simp; try (with_reducible rfl))
        try simp only [Act.put, List.setIfInBounds_toArray, List.set_cons_zero, List.set_cons_succ]
        refine wpAnyH_take (i := 7) (v := ?vp7) (opsS (opsS (opsS (opsS (opsS (opsS (opsS ops0))))))) (by kernel_rfl) (by kernel_rfl) (by kernel_rfl) (fun _ _ _ h => h) (Or.inl ⟨by rfl, ?yp7⟩) hHeldp0 ?_
        case yp7 => (intro w hSw; (try dsimp only at hSw); go_simp; try (with_reducible rfl))
        try simp only [Act.put, List.setIfInBounds_toArray, List.set_cons_zero, List.set_cons_succ]
        refine wpAnyH_take (i := 8) (v := ?vp8) (opsS (opsS (opsS (opsS (opsS (opsS (opsS (opsS ops0)))))))) (by kernel_rfl) (by kernel_rfl) (by kernel_rfl) (fun _ _ _ h => h) (Or.inl ⟨by rfl, ?yp8⟩) hHeldp0 ?_
        case yp8 => (intro w hSw; (try dsimp only at hSw); go_simp; try (with_reducible rfl))
        try simp only [Act.put, List.setIfInBounds_toArray, List.set_cons_zero, List.set_cons_succ]
        refine wpAnyH_ready (rs := [6]) (by kernel_rfl) (by simp) ?_
        refine AllReadyH.cons (opsS (opsS (opsS (opsS (opsS (opsS ops0)))))) (fun K hK => ?_) AllReadyH.nil
        go_simp
        refine (get_any _ A6 c6 M s1 (by omega) (H6.out.more_below hHeldp0.2.2.2.2.2.low)).mono ?_; rw [HGA.out]; rintro e w' ⟨rfl, hb⟩
        try dsimp only
        refine hK.out _ _ ?_ (fun hHeldp1 => ?_)
        · (first | assumption | exact Kn.drew_5 (by assumption) | (go_split_ands; exact Kn.drew_5 (by assumption)) | (go_split_ands; exact Kn.step_5 (by assumption) (by assumption)) | (go_split_ands; exact Kn.alloc_5 (by assumption) _) | (go_split_ands; exact Kn.far_5 (by assumption) (by assumption)))
        clear hK K hHeldp0
        try clear hb
        try simp only [Act.put, List.setIfInBounds_toArray, List.set_cons_zero, List.set_cons_succ]
        refine wpAnyH_take (i := 9) (v := ?vp9) (opsS (opsS (opsS (opsS (opsS (opsS (opsS (opsS (opsS ops0))))))))) (by kernel_rfl) (by kernel_rfl) (by kernel_rfl) (fun _ _ _ h => h) (Or.inl ⟨by rfl, ?yp9⟩) hHeldp1 ?_
        case yp9 => (intro w hSw; (try dsimp only at hSw); go_simp; try (with_reducible rfl))
        try simp only [Act.put, List.setIfInBounds_toArray, List.set_cons_zero, List.set_cons_succ]
        refine wpAnyH_take (i := 10) (v := ?vp10) (opsS (opsS (opsS (opsS (opsS (opsS (opsS (opsS (opsS (opsS ops0)))))))))) (by kernel_rfl) (by kernel_rfl) (by kernel_rfl) (fun _ _ _ h => h) (Or.inl ⟨by rfl, ?yp10⟩) hHeldp1 ?_
        case yp10 => (intro w hSw; (try dsimp only at hSw); go_simp; try (with_reducible rfl))
        try simp only [Act.put, List.setIfInBounds_toArray, List.set_cons_zero, List.set_cons_succ]
        refine wpAnyH_take (i := 11) (v := ?vp11) (opsS (opsS (opsS (opsS (opsS (opsS (opsS (opsS (opsS (opsS (opsS ops0))))))))))) (by kernel_rfl) (by kernel_rfl) (by kernel_rfl) (fun _ _ _ h => h) (Or.inl ⟨by rfl, ?yp11⟩) hHeldp1 ?_
        case yp11 => (intro w hSw; (try dsimp only at hSw); go_simp; try (with_reducible rfl))
        try simp only [Act.put, List.setIfInBounds_toArray, List.set_cons_zero, List.set_cons_succ]
        refine wpAnyH_take (i := 12) (v := ?vp12) (opsS (opsS (opsS (opsS (opsS (opsS (opsS (opsS (opsS (opsS (opsS (opsS ops0)))))))))))) (by kernel_rfl) (by kernel_rfl) (by kernel_rfl) (fun _ _ _ h => h) (Or.inl ⟨by rfl, ?yp12⟩) hHeldp1 ?_
        case yp12 => (intro w hSw; (try dsimp only at hSw); go_simp; try (with_reducible rfl))
        try simp only [Act.put, List.setIfInBounds_toArray, List.set_cons_zero, List.set_cons_succ]
        refine wpAnyH_take (i := 13) (v := ?vp13) (opsS (opsS (opsS (opsS (opsS (opsS (opsS (opsS (opsS (opsS (opsS (opsS (opsS ops0))))))))))))) (by kernel_rfl) (by kernel_rfl) (by kernel_rfl) (fun _ _ _ h => h) (Or.inl ⟨by rfl, ?yp13⟩) hHeldp1 ?_
        case yp13 => (intro w hSw; (try dsimp only at hSw); go_simp; try (with_reducible rfl))
        try simp only [Act.put, List.setIfInBounds_toArray, List.set_cons_zero, List.set_cons_succ]
        refine wpAnyH_take (i := 14) (v := ?vp14) (opsS (opsS (opsS (opsS (opsS (opsS (opsS (opsS (opsS (opsS (opsS (opsS (opsS (opsS ops0)))))))))))))) (by kernel_rfl) (by kernel_rfl) (by kernel_rfl) (fun _ _ _ h => h) (Or.inl ⟨by rfl, ?yp14⟩) hHeldp1 ?_
        case yp14 => (intro w hSw; (try dsimp only at hSw); go_simp; try (with_reducible rfl))
        try simp only [Act.put, List.setIfInBounds_toArray, List.set_cons_zero, List.set_cons_succ]
        refine wpAnyH_take (i := 15) (v := ?vp15) (opsS (opsS (opsS (opsS (opsS (opsS (opsS (opsS (opsS (opsS (opsS (opsS (opsS (opsS (opsS ops0))))))))))))))) (by kernel_rfl) (by kernel_rfl) (by kernel_rfl) (fun _ _ _ h => h) (Or.inl ⟨by rfl, ?yp15⟩) hHeldp1 ?_
        case yp15 => (intro w hSw; (try dsimp only at hSw); go_simp; try (with_reducible rfl))
        try simp only [Act.put, List.setIfInBounds_toArray, List.set_cons_zero, List.set_cons_succ]
        refine wpAnyH_take (i := 16) (v := ?vp16) (opsS (opsS (opsS (opsS (opsS (opsS (opsS (opsS (opsS (opsS (opsS (opsS (opsS (opsS (opsS (opsS ops0)))))))))))))))) (by kernel_rfl) (by kernel_rfl) (by kernel_rfl) (fun _ _ _ h => h) (Or.inl ⟨by rfl, ?yp16⟩) hHeldp1 ?_
        case yp16 => (intro w hSw; (try dsimp only at hSw); go_simp; try (with_reducible rfl))
        try simp only [Act.put, List.setIfInBounds_toArray, List.set_cons_zero, List.set_cons_succ]
        refine wpAnyH_take (i := 17) (v := ?vp17) (opsS (opsS (opsS (opsS (opsS (opsS (opsS (opsS (opsS (opsS (opsS (opsS (opsS (opsS (opsS (opsS (opsS ops0))))))))))))))))) (by kernel_rfl) (by kernel_rfl) (by kernel_rfl) (fun _ _ _ h => h) (Or.inl ⟨by rfl, ?yp17⟩) hHeldp1 ?_
        case yp17 => (intro w hSw; (try dsimp only at hSw); go_simp; try (with_reducible rfl))
        try simp only [Act.put, List.setIfInBounds_toArray, List.set_cons_zero, List.set_cons_succ]
        refine wpAnyH_take (i := 18) (v := ?vp18) (opsS (opsS (opsS (opsS (opsS (opsS (opsS (opsS (opsS (opsS (opsS (opsS (opsS (opsS (opsS (opsS (opsS (opsS ops0)))))))))))))))))) (by kernel_rfl) (by kernel_rfl) (by kernel_rfl) (fun _ _ _ h => h) (Or.inl ⟨by rfl, ?yp18⟩) hHeldp1 ?_
        case yp18 => (intro w hSw; (try dsimp only at hSw); go_simp; try (with_reducible rfl))
        try simp only [Act.put, List.setIfInBounds_toArray, List.set_cons_zero, List.set_cons_succ]
        refine wpAnyH_take (i := 19) (v := ?vp19) (opsS (opsS (opsS (opsS (opsS (opsS (opsS (opsS (opsS (opsS (opsS (opsS (opsS (opsS (opsS (opsS (opsS (opsS (opsS ops0))))))))))))))))))) (by kernel_rfl) (by kernel_rfl) (by kernel_rfl) (fun _ _ _ h => h) (Or.inl ⟨by rfl, ?yp19⟩) hHeldp1 ?_
        case yp19 => (intro w hSw; (try dsimp only at hSw); go_simp; try (with_reducible rfl))
        try simp only [Act.put, List.setIfInBounds_toArray, List.set_cons_zero, List.set_cons_succ]
        refine wpAnyH_ready (rs := [20]) (by kernel_rfl) (by simp) ?_
        refine AllReadyH.cons (opsS (opsS (opsS (opsS (opsS (opsS (opsS (opsS (opsS (opsS (opsS (opsS (opsS (opsS (opsS (opsS (opsS (opsS (opsS (opsS ops0)))))))))))))))))))) (fun K hK => ?_) AllReadyH.nil
        go_simp
        refine (awake_any _).mono ?_; rintro e w' ⟨rfl, hb⟩
        try dsimp only
        refine hK.out _ _ ?_ (fun hHeldp2 => ?_)
        · (first | assumption | exact Kn.drew_5 (by assumption) | (go_split_ands; exact Kn.drew_5 (by assumption)) | (go_split_ands; exact Kn.step_5 (by assumption) (by assumption)) | (go_split_ands; exact Kn.alloc_5 (by assumption) _) | (go_split_ands; exact Kn.far_5 (by assumption) (by assumption)))
        clear hK K hHeldp1
        try clear hb
        try simp only [Act.put, List.setIfInBounds_toArray, List.set_cons_zero, List.set_cons_succ]
        refine wpAnyH_take (i := 21) (v := ?vp21) (opsS (opsS (opsS (opsS (opsS (opsS (opsS (opsS (opsS (opsS (opsS (opsS (opsS (opsS (opsS (opsS (opsS (opsS (opsS (opsS (opsS ops0))))))))))))))))))))) (by kernel_rfl) (by kernel_rfl) (by kernel_rfl) (fun _ _ _ h => h) (Or.inl ⟨by rfl, ?yp21⟩) hHeldp2 ?_
        case yp21 => (intro w hSw; (try dsimp only at hSw); go_simp; try (with_reducible rfl))
        try simp only [Act.put, List.setIfInBounds_toArray, List.set_cons_zero, List.set_cons_succ]
        refine wpAnyH_take (i := 22) (v := ?vp22) (opsS (opsS (opsS (opsS (opsS (opsS (opsS (opsS (opsS (opsS (opsS (opsS (opsS (opsS (opsS (opsS (opsS (opsS (opsS (opsS (opsS (opsS ops0)))))))))))))))))))))) (by kernel_rfl) (by kernel_rfl) (by kernel_rfl) (fun _ _ _ h => h) (Or.inl ⟨by rfl, ?yp22⟩) hHeldp2 ?_
        case yp22 => (intro w hSw; (try dsimp only at hSw); go_simp; try (with_reducible rfl))
        try simp only [Act.put, List.setIfInBounds_toArray, List.set_cons_zero, List.set_cons_succ]
        refine wpAnyH_done (by kernel_rfl) ?_ _
        have hlf := Lib.hid (HL.out.trans ((hHeldp2.2.2.2.2.2.low).mono HL.out.size))
        clear hHeldp2 test
        go_wp2
        go_ret
        exact ⟨rfl, hlf.out⟩
      · have hc2 : (c != 0) = true := by rw [bne_iff_ne]; exact hc
        clear hok
        go_wp2_with fail
        refine (awake_any _).mono ?_
        rintro e w6 ⟨rfl, hb⟩
        replace H1 := Lib.hid ((Hid.out H1).more_below hb)
        replace HL := Lib.hid ((Hid.out HL).trans (hb.mono (Hid.out HL).size))
        clear hb
        go_wp2
        go_ret
        exact ⟨rfl, HL.out⟩
    · by_cases z0 : s0.size ≤ 100
      · by_cases z1 : s1.size ≤ 200
        · have z2 : ¬ s2.size ≤ 300 := fun h => h0 ⟨z0, z1, h⟩
          clear h0
          go_wp2_with fail
          refine (awake_any _).mono ?_
          rintro e w6 ⟨rfl, hb⟩
          replace H1 := Lib.hid ((Hid.out H1).more_below hb)
          replace HL := Lib.hid ((Hid.out HL).trans (hb.mono (Hid.out HL).size))
          clear hb
          go_wp2
          go_ret
          exact ⟨rfl, HL.out⟩
        · clear h0
          go_wp2_with fail
          refine (awake_any _).mono ?_
          rintro e w6 ⟨rfl, hb⟩
          replace H1 := Lib.hid ((Hid.out H1).more_below hb)
          replace HL := Lib.hid ((Hid.out HL).trans (hb.mono (Hid.out HL).size))
          clear hb
          go_wp2
          go_ret
          exact ⟨rfl, HL.out⟩
      · clear h0
        go_wp2_with fail
        refine (awake_any _).mono ?_
        rintro e w6 ⟨rfl, hb⟩
        replace H1 := Lib.hid ((Hid.out H1).more_below hb)
        replace HL := Lib.hid ((Hid.out HL).trans (hb.mono (Hid.out HL).size))
        clear hb
        go_wp2
        go_ret
        exact ⟨rfl, HL.out⟩
theorem sets_all (W : World) (v0 : Value) (v1 : Value) (h0 : V22 W v0) (h1 : V40 W v1) :
    Calls Try.prog 5 #[v0, v1] W fun e w' => e = .returned (.bool true) ∧ Below W.heap.size W w' := by
  obtain ⟨A, ca, xs, rfl, a1, a2, hR, hz⟩ := ents h0
  obtain ⟨r, rfl, hr⟩ := h1
  exact sets_walk W A ca xs r.x0 r.x1 r.x2 (Nat.le_trans a1 a2) a1 hR hz hr.1 hr.2.1 hr.2.2
end Go.Proofs.Ytdnefcpmechjkaa.rgy
