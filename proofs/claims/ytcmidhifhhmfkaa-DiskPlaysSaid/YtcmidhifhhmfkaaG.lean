/- The reference's Do, and the calls of a disk that nobody made. -/
import Derived.Test.YtcmidhifhhmfkaaD
namespace Go.Proofs.Ytcmidhifhhmfkaa.disk
open Go.ChangeShapes Go.WideShapes Go.ChangeAt Go.RowKit Go.Proofs.Aid
theorem nil_bytes (w : World) : Calls Try.prog 10 #[.pointer none] w fun e w' => e = .returned (.string ⟨#[]⟩) ∧ w' = w := by
  go_enter Try.func10, Try.ntmps10
  go_wp2
  go_ret
  exact ⟨rfl, rfl⟩
theorem nil_sure (w : World) : Calls Try.prog 11 #[.pointer none] w fun e w' => e = .returned (.int .i64 0) ∧ w' = w := by
  go_enter Try.func11, Try.ntmps11
  go_wp2
  go_ret
  exact ⟨rfl, rfl⟩
theorem nil_clone (w : World) : Calls Try.prog 12 #[.pointer none] w fun e w' => e = .returned (.pointer none) ∧ w' = w := by
  go_enter Try.func12, Try.ntmps12
  go_wp2
  go_ret
  exact ⟨rfl, rfl⟩
theorem nil_append (w : World) (s : ByteArray) : Calls Try.prog 13 #[.pointer none, .string s] w fun e w' => e = .returned (.tuple #[]) ∧ w' = w := by
  go_enter Try.func13, Try.ntmps13
  go_wp2
  exact Great.bodyPost_end0 Try.results13 rfl ⟨rfl, rfl⟩
theorem nil_sync (w : World) : Calls Try.prog 14 #[.pointer none] w fun e w' => e = .returned (.tuple #[]) ∧ w' = w := by
  go_enter Try.func14, Try.ntmps14
  go_wp2
  exact Great.bodyPost_end0 Try.results14 rfl ⟨rfl, rfl⟩
theorem nil_crash (w : World) (k : Int) : Calls Try.prog 15 #[.pointer none, .int .i64 k] w fun e w' => e = .returned (.tuple #[]) ∧ w' = w := by
  go_enter Try.func15, Try.ntmps15
  go_wp2
  exact bodyPost_ret (results_none Try.results15 _ _ _) rfl ⟨rfl, rfl⟩
theorem nil_swap (w : World) (s : ByteArray) : Calls Try.prog 16 #[.pointer none, .string s] w fun e w' => e = .returned (.tuple #[]) ∧ w' = w := by
  go_enter Try.func16, Try.ntmps16
  go_wp2
  exact Great.bodyPost_end0 Try.results16 rfl ⟨rfl, rfl⟩
theorem nil_do (w : World) (a : AC) : Calls Try.prog 8 #[.pointer none, a.val] w fun e w' => e = .returned (.tuple #[]) ∧ w' = w.alloc (.cells a.val.cells 35) := by
  obtain ⟨kind, s, keep⟩ := a
  show Calls Try.prog 8 #[.pointer none, .agg #[.int .i64 kind, .string s, .int .i64 keep]] w fun e w' => e = .returned (.tuple #[]) ∧ w' = w.alloc (.cells #[.int .i64 kind, .string s, .int .i64 keep] 35)
  by_cases h1 : kind = 1
  · subst h1
    go_enter Try.func8, Try.ntmps8
    go_wp2_with fail
    refine (nil_append _ _).mono ?_
    rintro e w1 ⟨rfl, rfl⟩
    go_wp2
    exact Great.bodyPost_end0 Try.results8 rfl ⟨rfl, rfl⟩
  by_cases h2 : kind = 2
  · subst h2
    go_enter Try.func8, Try.ntmps8
    go_wp2_with fail
    refine (nil_sync _).mono ?_
    rintro e w1 ⟨rfl, rfl⟩
    go_wp2
    exact Great.bodyPost_end0 Try.results8 rfl ⟨rfl, rfl⟩
  by_cases h3 : kind = 3
  · subst h3
    go_enter Try.func8, Try.ntmps8
    go_wp2_with fail
    refine (nil_crash _ _).mono ?_
    rintro e w1 ⟨rfl, rfl⟩
    go_wp2
    exact Great.bodyPost_end0 Try.results8 rfl ⟨rfl, rfl⟩
  by_cases h4 : kind = 4
  · subst h4
    go_enter Try.func8, Try.ntmps8
    go_wp2_with fail
    refine (nil_swap _ _).mono ?_
    rintro e w1 ⟨rfl, rfl⟩
    go_wp2
    exact Great.bodyPost_end0 Try.results8 rfl ⟨rfl, rfl⟩
  · go_enter Try.func8, Try.ntmps8
    go_wp2
    exact Great.bodyPost_end0 Try.results8 rfl ⟨rfl, rfl⟩
abbrev RdoAt (w : World) (x : Nat) (_S _T : ByteArray) (a : AC) (S' T' : ByteArray) : Prop :=
  Calls Try.prog 9 #[.pointer (some ⟨x, 0, none⟩), a.val] w fun e w' => e = .returned (.tuple #[]) ∧ Blk w' x 32 #[.string S', .string T'] ∧ Ch w w' x none
theorem ch_of {w W1 : World} (h : Below w.heap.size w W1) (x : Nat) : Ch w W1 x none := ⟨h.os, h.tape, h.output, h.size, fun k hk _ _ => h.block k hk⟩
theorem Ch.set_ {w W1 : World} {x : Nat} (h : Ch w W1 x none) (i : Nat) (u : Value) : Ch w (W1.setCell ⟨x, i, none⟩ u) x none :=
  ⟨h.os, h.tape, h.output, by have := h.size; simpa using this, fun k hk a b => (Below.heap_setCell W1 _ _ k a).trans (h.block k hk a b)⟩
theorem Ch.drew {w W1 : World} {x : Nat} {q : Option Nat} (h : Ch w W1 x q) : Ch w W1.drew x q := ⟨h.os, h.tape, h.output, h.size, h.block⟩
set_option maxHeartbeats 1000000 in
theorem rdo1 (w : World) (x : Nat) (S T s : ByteArray) (keep : Int) (hb : Blk w x 32 #[.string S, .string T]) (hsz : T.size + s.size ≤ 140737488355328) : RdoAt w x S T ⟨1, s, keep⟩ S (T ++ s) := by
  show Calls Try.prog 9 #[.pointer (some ⟨x, 0, none⟩), .agg #[.int .i64 1, .string s, .int .i64 keep]] w _
  have hB := hb.alloc (.cells #[.int .i64 1, .string s, .int .i64 keep] 35)
  have hA := Blk.new w 35 #[.int .i64 1, .string s, .int .i64 keep]
  have hlt := hb.lt
  have hl := Lib.hid ((Below.refl w.heap.size w).alloc (Nat.le_refl _) (.cells #[.int .i64 1, .string s, .int .i64 keep] 35))
  go_enter Try.func9, Try.ntmps9
  go_wp2_with fail
  generalize w.alloc (.cells #[.int .i64 1, .string s, .int .i64 keep] 35) = W1 at *
  generalize hg : w.heap.size = G at *
  have HG := Lib.hid hg
  clear hg
  have c0 : W1.cell? ⟨x, 0, none⟩ = some (.string S) := by rw [hB.cell]; rfl
  have c1 : W1.cell? ⟨x, 1, none⟩ = some (.string T) := by rw [hB.cell]; rfl
  have a1 : W1.cell? ⟨G, 1, none⟩ = some (.string s) := by rw [hA.cell]; rfl
  have a2 : W1.cell? ⟨G, 2, none⟩ = some (.int .i64 keep) := by rw [hA.cell]; rfl
  have f0 := hB.frozen 0
  have f1 := hB.frozen 1
  have z1 := hB.lt
  have HB := Lib.hid hB
  clear hA hB hb
  go_region_with (fail)
  all_goals
    have hf : Blk (W1.setCell ⟨x, 1, none⟩ (.string (T ++ s))).drew x 32 #[.string S, .string (T ++ s)] := by simpa using (HB.out.set_ 1 (.string (T ++ s))).drew
    have hc := ((ch_of (by rw [HG.out]; exact hl.out) x).set_ 1 (.string (T ++ s))).drew
    have HF := Lib.hid hf; have HC := Lib.hid hc
    clear hf hc HB c0 c1 a1 a2 f0 f1
    go_wp2
    exact Great.bodyPost_end0 Try.results9 rfl ⟨rfl, HF.out, HC.out⟩
theorem Ch.alloc {w W1 : World} {x : Nat} {q : Option Nat} (h : Ch w W1 x q) (o : Obj) : Ch w (W1.alloc o) x q :=
  ⟨h.os, h.tape, h.output, Nat.le_trans h.size (by simp), fun k hk a b => (Below.heap_alloc W1 o k (Nat.lt_of_lt_of_le hk h.size)).trans (h.block k hk a b)⟩
set_option maxHeartbeats 1000000 in
theorem rdo4 (w : World) (x : Nat) (S T s : ByteArray) (keep : Int) (hb : Blk w x 32 #[.string S, .string T]) : RdoAt w x S T ⟨4, s, keep⟩ s ⟨#[]⟩ := by
  show Calls Try.prog 9 #[.pointer (some ⟨x, 0, none⟩), .agg #[.int .i64 4, .string s, .int .i64 keep]] w _
  have hlt := hb.lt
  have c0 : w.cell? ⟨x, 0, none⟩ = some (.string S) := by rw [hb.cell]; rfl
  have c1 : w.cell? ⟨x, 1, none⟩ = some (.string T) := by rw [hb.cell]; rfl
  have f0 := hb.frozen 0
  have f1 := hb.frozen 1
  have hf := ((hb.set_ 0 (.string s)).set_ 1 (.string ⟨#[]⟩)).alloc (.cells #[.int .i64 4, .string s, .int .i64 keep] 35)
  have hc := (((Ch.refl w x none).set_ 0 (.string s)).set_ 1 (.string ⟨#[]⟩)).alloc (.cells #[.int .i64 4, .string s, .int .i64 keep] 35)
  have HF := Lib.hid hf; have HC := Lib.hid hc
  clear hf hc hb
  go_enter Try.func9, Try.ntmps9
  go_wp2
  exact Great.bodyPost_end0 Try.results9 rfl ⟨rfl, by simpa using HF.out, HC.out⟩
set_option maxHeartbeats 1000000 in
theorem rdo2 (w : World) (x : Nat) (S T s : ByteArray) (keep : Int) (hb : Blk w x 32 #[.string S, .string T]) (hsz : S.size + T.size ≤ 140737488355328) : RdoAt w x S T ⟨2, s, keep⟩ (S ++ T) ⟨#[]⟩ := by
  show Calls Try.prog 9 #[.pointer (some ⟨x, 0, none⟩), .agg #[.int .i64 2, .string s, .int .i64 keep]] w _
  have hB := hb.alloc (.cells #[.int .i64 2, .string s, .int .i64 keep] 35)
  have hA := Blk.new w 35 #[.int .i64 2, .string s, .int .i64 keep]
  have hlt := hb.lt
  have hl := Lib.hid ((Below.refl w.heap.size w).alloc (Nat.le_refl _) (.cells #[.int .i64 2, .string s, .int .i64 keep] 35))
  go_enter Try.func9, Try.ntmps9
  go_wp2_with fail
  generalize w.alloc (.cells #[.int .i64 2, .string s, .int .i64 keep] 35) = W1 at *
  generalize hg : w.heap.size = G at *
  have HG := Lib.hid hg
  clear hg
  have c0 : W1.cell? ⟨x, 0, none⟩ = some (.string S) := by rw [hB.cell]; rfl
  have c1 : W1.cell? ⟨x, 1, none⟩ = some (.string T) := by rw [hB.cell]; rfl
  have a1 : W1.cell? ⟨G, 1, none⟩ = some (.string s) := by rw [hA.cell]; rfl
  have a2 : W1.cell? ⟨G, 2, none⟩ = some (.int .i64 keep) := by rw [hA.cell]; rfl
  have f0 := hB.frozen 0
  have f1 := hB.frozen 1
  have z1 := hB.lt
  have HB := Lib.hid hB
  clear hA hB hb
  go_region_with (fail)
  all_goals
    have hf : Blk ((W1.setCell ⟨x, 0, none⟩ (.string (S ++ T))).drew.setCell ⟨x, 1, none⟩ (.string ⟨#[]⟩)) x 32 #[.string (S ++ T), .string ⟨#[]⟩] := by simpa using (HB.out.set_ 0 (.string (S ++ T))).drew.set_ 1 (.string ⟨#[]⟩)
    have hc := ((ch_of (by rw [HG.out]; exact hl.out) x).set_ 0 (.string (S ++ T))).drew.set_ 1 (.string ⟨#[]⟩)
    have HF := Lib.hid hf; have HC := Lib.hid hc
    clear hf hc HB
    go_wp2
    exact Great.bodyPost_end0 Try.results9 rfl ⟨rfl, HF.out, HC.out⟩
set_option maxHeartbeats 1000000 in
theorem rdo3 (w : World) (x : Nat) (S T s : ByteArray) (keep : Int) (hb : Blk w x 32 #[.string S, .string T]) (hsz : S.size + T.size ≤ 140737488355328) : RdoAt w x S T ⟨3, s, keep⟩ (S ++ T.extract 0 (max 0 (min keep T.size)).toNat) ⟨#[]⟩ := by
  show Calls Try.prog 9 #[.pointer (some ⟨x, 0, none⟩), .agg #[.int .i64 3, .string s, .int .i64 keep]] w _
  have hB := hb.alloc (.cells #[.int .i64 3, .string s, .int .i64 keep] 35)
  have hA := Blk.new w 35 #[.int .i64 3, .string s, .int .i64 keep]
  have hlt := hb.lt
  have hl := Lib.hid ((Below.refl w.heap.size w).alloc (Nat.le_refl _) (.cells #[.int .i64 3, .string s, .int .i64 keep] 35))
  go_enter Try.func9, Try.ntmps9
  go_wp2_with fail
  generalize w.alloc (.cells #[.int .i64 3, .string s, .int .i64 keep] 35) = W1 at *
  generalize hg : w.heap.size = G at *
  have HG := Lib.hid hg
  clear hg
  have c0 : W1.cell? ⟨x, 0, none⟩ = some (.string S) := by rw [hB.cell]; rfl
  have c1 : W1.cell? ⟨x, 1, none⟩ = some (.string T) := by rw [hB.cell]; rfl
  have a1 : W1.cell? ⟨G, 1, none⟩ = some (.string s) := by rw [hA.cell]; rfl
  have a2 : W1.cell? ⟨G, 2, none⟩ = some (.int .i64 keep) := by rw [hA.cell]; rfl
  have f0 := hB.frozen 0
  have f1 := hB.frozen 1
  have z1 := hB.lt
  have HB := Lib.hid hB
  clear hA hB hb
  have test : W1.drew.cell? ⟨x, 0, none⟩ = some (.string S) ∧ W1.drew.cell? ⟨x, 1, none⟩ = some (.string T) ∧ W1.drew.cell? ⟨G, 2, none⟩ = some (.int .i64 keep) := ⟨c0, c1, a2⟩
  refine wp_region_held_drew (S := (fun w' => w'.cell? ⟨x, 0, none⟩ = some (.string S) ∧ w'.cell? ⟨x, 1, none⟩ = some (.string T) ∧ w'.cell? ⟨G, 2, none⟩ = some (.int .i64 keep))) (by kernel_rfl) ?_ (fun hHeldp0 => ?_)
  · exact test
  refine wpAnyH_take (i := 0) (v := ?vp0) ops0 (by kernel_rfl) (by kernel_rfl) (by kernel_rfl) (fun _ _ _ h => h) (Or.inl ⟨by rfl, ?yp0⟩) hHeldp0 ?_
  case yp0 => (intro w hSw; (try dsimp only at hSw); go_simp; try (with_reducible rfl))
  try simp only [Act.put, List.setIfInBounds_toArray, List.set_cons_zero, List.set_cons_succ]
  refine wpAnyH_take (i := 1) (v := ?vp1) (opsS ops0) (by kernel_rfl) (by kernel_rfl) (by kernel_rfl) (fun _ _ _ h => h) (Or.inl ⟨by rfl, ?yp1⟩) hHeldp0 ?_
  case yp1 => (intro w hSw; (try dsimp only at hSw); go_simp; try (with_reducible rfl))
  try simp only [Act.put, List.setIfInBounds_toArray, List.set_cons_zero, List.set_cons_succ]
  refine wpAnyH_take (i := 2) (v := ?vp2) (opsS (opsS ops0)) (by kernel_rfl) (by kernel_rfl) (by kernel_rfl) (fun _ _ _ h => h) (Or.inl ⟨by rfl, ?yp2⟩) hHeldp0 ?_
  case yp2 => (intro w hSw; (try dsimp only at hSw); go_simp; try (with_reducible rfl))
  try simp only [Act.put, List.setIfInBounds_toArray, List.set_cons_zero, List.set_cons_succ]
  refine wpAnyH_take (i := 3) (v := ?vp3) (opsS (opsS (opsS ops0))) (by kernel_rfl) (by kernel_rfl) (by kernel_rfl) (fun _ _ _ h => h) (Or.inl ⟨by rfl, ?yp3⟩) hHeldp0 ?_
  case yp3 => (intro w hSw; (try dsimp only at hSw); go_simp; try (with_reducible rfl))
  try simp only [Act.put, List.setIfInBounds_toArray, List.set_cons_zero, List.set_cons_succ]
  refine wpAnyH_take (i := 4) (v := ?vp4) (opsS (opsS (opsS (opsS ops0)))) (by kernel_rfl) (by kernel_rfl) (by kernel_rfl) (fun _ _ _ h => h) (Or.inl ⟨by rfl, ?yp4⟩) hHeldp0 ?_
  case yp4 => (intro w hSw; (try dsimp only at hSw); go_simp; try (with_reducible rfl))
  try simp only [Act.put, List.setIfInBounds_toArray, List.set_cons_zero, List.set_cons_succ]
  refine wpAnyH_take (i := 5) (v := ?vp5) (opsS (opsS (opsS (opsS (opsS ops0))))) (by kernel_rfl) (by kernel_rfl) (by kernel_rfl) (fun _ _ _ h => h) (Or.inl ⟨by rfl, ?yp5⟩) hHeldp0 ?_
  case yp5 => (intro w hSw; (try dsimp only at hSw); go_simp; try (with_reducible rfl))
  try simp only [Act.put, List.setIfInBounds_toArray, List.set_cons_zero, List.set_cons_succ]
  refine wpAnyH_take (i := 6) (v := ?vp6) (opsS (opsS (opsS (opsS (opsS (opsS ops0)))))) (by kernel_rfl) (by kernel_rfl) (by kernel_rfl) (fun _ _ _ h => h) (Or.inl ⟨by rfl, ?yp6⟩) hHeldp0 ?_
  case yp6 => (intro w hSw; (try dsimp only at hSw); go_simp; try (with_reducible rfl))
  try simp only [Act.put, List.setIfInBounds_toArray, List.set_cons_zero, List.set_cons_succ]
  refine wpAnyH_take (i := 7) (v := ?vp7) (opsS (opsS (opsS (opsS (opsS (opsS (opsS ops0))))))) (by kernel_rfl) (by kernel_rfl) (by kernel_rfl) (fun _ _ _ h => h) (Or.inl ⟨by rfl, ?yp7⟩) hHeldp0 ?_
  case yp7 => (intro w hSw; (try dsimp only at hSw); go_simp; try (with_reducible rfl))
  try simp only [Act.put, List.setIfInBounds_toArray, List.set_cons_zero, List.set_cons_succ]
  refine wpAnyH_take (i := 8) (v := ?vp8) (opsS (opsS (opsS (opsS (opsS (opsS (opsS (opsS ops0)))))))) (by kernel_rfl) (by kernel_rfl) (by kernel_rfl) (fun _ _ _ h => h) (Or.inl ⟨by rfl, ?yp8⟩) hHeldp0 ?_
  case yp8 => (intro w hSw; (try dsimp only at hSw); go_simp; try (with_reducible rfl))
  try simp only [Act.put, List.setIfInBounds_toArray, List.set_cons_zero, List.set_cons_succ]
  refine wpAnyH_take (i := 9) (v := ?vp9) (opsS (opsS (opsS (opsS (opsS (opsS (opsS (opsS (opsS ops0))))))))) (by kernel_rfl) (by kernel_rfl) (by kernel_rfl) (fun _ _ _ h => h) (Or.inl ⟨by rfl, ?yp9⟩) hHeldp0 ?_
  case yp9 => (intro w hSw; (try dsimp only at hSw); go_simp; try (with_reducible rfl))
  try simp only [Act.put, List.setIfInBounds_toArray, List.set_cons_zero, List.set_cons_succ]
  refine wpAnyH_done (by kernel_rfl) ?_ _
  clear hHeldp0 test a1 a2
  have m0 : 0 ≤ max 0 (min keep T.size) := by omega
  have m1 : max 0 (min keep T.size) ≤ T.size := by omega
  generalize hm : max 0 (min keep (T.size : Int)) = m at *
  have HM := Lib.hid hm
  clear hm
  have ms : (T.extract 0 m.toNat).size = m.toNat := by simp; omega
  have msz : S.size + (T.extract 0 m.toNat).size ≤ 140737488355328 := by omega
  go_wp2_with fail
  go_region_with (fail)
  all_goals
    have hf : Blk ((W1.setCell ⟨x, 0, none⟩ (.string (S ++ T.extract 0 m.toNat))).setCell ⟨x, 1, none⟩ (.string ⟨#[]⟩)).drew.drew x 32 #[.string (S ++ T.extract 0 m.toNat), .string ⟨#[]⟩] := by simpa using ((HB.out.set_ 0 (.string (S ++ T.extract 0 m.toNat))).set_ 1 (.string ⟨#[]⟩)).drew.drew
    have hc := (((ch_of (by rw [HG.out]; exact hl.out) x).set_ 0 (.string (S ++ T.extract 0 m.toNat))).set_ 1 (.string ⟨#[]⟩)).drew.drew
    have HF := Lib.hid hf; have HC := Lib.hid hc
    clear hf hc HB
    go_wp2
    exact Great.bodyPost_end0 Try.results9 rfl ⟨rfl, by rw [HM.out]; exact HF.out, HC.out⟩
theorem rdo0 (w : World) (x : Nat) (S T : ByteArray) (a : AC) (hb : Blk w x 32 #[.string S, .string T]) (h1 : a.kind ≠ 1) (h2 : a.kind ≠ 2) (h3 : a.kind ≠ 3) (h4 : a.kind ≠ 4) : RdoAt w x S T a S T := by
  obtain ⟨kind, s, keep⟩ := a
  simp only at h1 h2 h3 h4
  show Calls Try.prog 9 #[.pointer (some ⟨x, 0, none⟩), .agg #[.int .i64 kind, .string s, .int .i64 keep]] w _
  have hB := hb.alloc (.cells #[.int .i64 kind, .string s, .int .i64 keep] 35)
  have hc := (Ch.refl w x none).alloc (.cells #[.int .i64 kind, .string s, .int .i64 keep] 35)
  have HF := Lib.hid hB; have HC := Lib.hid hc
  clear hB hc hb
  go_enter Try.func9, Try.ntmps9
  go_wp2
  exact Great.bodyPost_end0 Try.results9 rfl ⟨rfl, HF.out, HC.out⟩
/-- The reference's disk holds l, of which k are sure. -/
def RD (S T : ByteArray) (l : List UInt8) (k : Nat) : Prop := S.data.toList ++ T.data.toList = l ∧ S.size = k
theorem RD.len {S T : ByteArray} {l : List UInt8} {k : Nat} (h : RD S T l k) : S.size + T.size = l.length := by
  rw [← h.1]; simp
theorem rdo_any {w : World} {x : Nat} {S T : ByteArray} {l : List UInt8} {k : Nat} (hb : Blk w x 32 #[.string S, .string T]) (h : RD S T l k) (a : AC) (hsz : l.length + a.s.size ≤ 140737488355328) :
    Calls Try.prog 9 #[.pointer (some ⟨x, 0, none⟩), a.val] w fun e w' => e = .returned (.tuple #[]) ∧ Ch w w' x none ∧ ∃ S' T', Blk w' x 32 #[.string S', .string T'] ∧ RD S' T' (a.do_ l k).1 (a.do_ l k).2 := by
  have hl := h.len
  obtain ⟨kind, s, keep⟩ := a
  simp only at hsz
  by_cases h1 : kind = 1
  · subst h1
    refine (rdo1 w x S T s keep hb (by omega)).mono ?_
    rintro e w' ⟨rfl, hb', hc⟩
    refine ⟨rfl, hc, _, _, hb', ?_, h.2⟩
    show S.data.toList ++ (T ++ s).data.toList = l ++ s.data.toList
    rw [← h.1]; simp
  by_cases h2 : kind = 2
  · subst h2
    refine (rdo2 w x S T s keep hb (by omega)).mono ?_
    rintro e w' ⟨rfl, hb', hc⟩
    refine ⟨rfl, hc, _, _, hb', ?_, ?_⟩
    · show (S ++ T).data.toList ++ [] = l
      rw [← h.1]; simp
    · show (S ++ T).size = l.length
      rw [← hl]; simp
  by_cases h3 : kind = 3
  · subst h3
    refine (rdo3 w x S T s keep hb (by omega)).mono ?_
    rintro e w' ⟨rfl, hb', hc⟩
    have hk := h.2
    have hq : (max 0 (min keep (T.size : Int))).toNat = crashK l.length k keep - k := by unfold crashK; omega
    have hkl := crashK_le (n := l.length) (k := k) (keep := keep) (by omega)
    refine ⟨rfl, hc, _, _, hb', ?_, ?_⟩
    · show (S ++ T.extract 0 (max 0 (min keep (T.size : Int))).toNat).data.toList ++ [] = l.take (crashK l.length k keep)
      rw [hq]
      generalize crashK l.length k keep = q at *
      rw [← h.1, List.take_append, List.take_of_length_le (l := S.data.toList) (by simp; omega)]
      have e1 : (T.extract 0 (q - k)).data.toList = T.data.toList.take (q - k) := by rw [ByteArray.data_extract]; simp
      have e2 : (S ++ T.extract 0 (q - k)).data.toList = S.data.toList ++ (T.extract 0 (q - k)).data.toList := by simp
      rw [e2, e1, List.append_nil, show S.data.toList.length = k by simpa using hk]
    · show (S ++ T.extract 0 (max 0 (min keep (T.size : Int))).toNat).size = crashK l.length k keep
      rw [hq]; simp; omega
  by_cases h4 : kind = 4
  · subst h4
    refine (rdo4 w x S T s keep hb).mono ?_
    rintro e w' ⟨rfl, hb', hc⟩
    refine ⟨rfl, hc, _, _, hb', ?_, rfl⟩
    show s.data.toList ++ [] = s.data.toList
    simp
  · refine (rdo0 w x S T ⟨kind, s, keep⟩ hb h1 h2 h3 h4).mono ?_
    rintro e w' ⟨rfl, hb', hc⟩
    have e1 : AC.do_ ⟨kind, s, keep⟩ l k = (l, k) := by unfold AC.do_; simp only [if_neg h1, if_neg h2, if_neg h3, if_neg h4]
    rw [e1]
    exact ⟨rfl, hc, S, T, hb', h⟩
end Go.Proofs.Ytcmidhifhhmfkaa.disk
