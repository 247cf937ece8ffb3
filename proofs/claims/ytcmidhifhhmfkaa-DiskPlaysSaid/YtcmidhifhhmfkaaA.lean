/- The walks of package disk. -/
import Derived.Test.YtcmidhifhhmfkaaRowB
import Derived.Lib.Hide
import Derived.Deep.RegionHeld3
import Derived.Deep.QuietTactic
import Derived.BigQuiet
import Derived.WalkSpells
import Derived.Great.Walk
namespace Go.Proofs.Ytcmidhifhhmfkaa.disk
open Go.ChangeShapes Go.WideShapes Go.ChangeAt Go.RowKit Go.Proofs.Aid
theorem info5 : (Try.prog.info? 5).map (fun i => (i.zero, i.size, i.bytes)) = some (some (.int .u8 0), 1, 1) := by kernel_rfl
/-- A disk: its block, the slice that it holds, its bytes, how many are sure. -/
structure DK (w : World) (p : Nat) (v : Value) (l : List UInt8) (k : Nat) : Prop where
  blk : Blk w p 29 #[v, .int .i64 k]
  row : RowB w 5 v l
  le : k ≤ l.length
/-- What a call changes: the block p, the row q, and what is new. -/
structure Ch (w w' : World) (p : Nat) (q : Option Nat) : Prop where
  os : w'.os = w.os
  tape : w'.tape = w.tape
  output : w'.output = w.output
  size : w.heap.size ≤ w'.heap.size
  block : ∀ k, k < w.heap.size → k ≠ p → some k ≠ q → w'.heap[k]? = w.heap[k]?
theorem Ch.refl (w : World) (p : Nat) (q : Option Nat) : Ch w w p q := ⟨rfl, rfl, rfl, Nat.le_refl _, fun _ _ _ _ => rfl⟩
theorem Ch.below {w w' : World} {p : Nat} {q : Option Nat} {B : Nat} {W : World} (h : Ch w w' p q) (hb : Below B W w) (hB : B ≤ w.heap.size) (hp : B ≤ p) (hq : ∀ g, q = some g → B ≤ g) : Below B W w' :=
  ⟨h.os.trans hb.os, h.tape.trans hb.tape, h.output.trans hb.output, Nat.le_trans hb.size h.size, fun k hk => (h.block k (by omega) (by omega) (fun e => by have := hq k e.symm; omega)).trans (hb.block k hk)⟩
theorem Ch.trans {w w1 w2 : World} {p : Nat} {q : Option Nat} (h : Ch w w1 p q) (k : Ch w1 w2 p q) : Ch w w2 p q :=
  ⟨k.os.trans h.os, k.tape.trans h.tape, k.output.trans h.output, Nat.le_trans h.size k.size, fun j hj a b => (k.block j (Nat.lt_of_lt_of_le hj h.size) a b).trans (h.block j hj a b)⟩
theorem Ch.wide {w w1 : World} {p : Nat} (h : Ch w w1 p none) (q : Option Nat) : Ch w w1 p q := ⟨h.os, h.tape, h.output, h.size, fun j hj a _ => h.block j hj a (by simp)⟩
theorem new_any (w : World) : Calls Try.prog 7 #[] w fun e w' => e = .returned (.pointer (some ⟨w.heap.size, 0, none⟩)) ∧ w' = w.alloc (.cells #[.slice none 0 0, .int .i64 0] 29) := by
  go_enter Try.func7, Try.ntmps7
  go_wp2
  go_ret
  exact ⟨rfl, rfl⟩
theorem DK.new (w : World) : DK (w.alloc (.cells #[.slice none 0 0, .int .i64 0] 29)) w.heap.size (.slice none 0 0) [] 0 := ⟨Blk.new _ _ _, RowB.nil _ _, Nat.le_refl _⟩
theorem bytes_any {w : World} {p : Nat} {v : Value} {l : List UInt8} {k : Nat} (h : DK w p v l k) : Calls Try.prog 10 #[.pointer (some ⟨p, 0, none⟩)] w fun e w' => e = .returned (.string ⟨l.toArray⟩) ∧ w' = w := by
  have c0 : w.cell? ⟨p, 0, none⟩ = some v := by rw [h.blk.cell]; rfl
  have hs := h.row.string (P := Try.prog) 27 9 Try.underlying27 Try.underlying5 Try.underlying9
  obtain ⟨A, c, rfl, -⟩ := h.row.form
  go_enter Try.func10, Try.ntmps10
  go_wp2
  go_ret
  exact ⟨rfl, rfl⟩
theorem sure_any {w : World} {p : Nat} {v : Value} {l : List UInt8} {k : Nat} (h : DK w p v l k) : Calls Try.prog 11 #[.pointer (some ⟨p, 0, none⟩)] w fun e w' => e = .returned (.int .i64 k) ∧ w' = w := by
  have c1 : w.cell? ⟨p, 1, none⟩ = some (.int .i64 k) := by rw [h.blk.cell]; rfl
  go_enter Try.func11, Try.ntmps11
  go_wp2
  go_ret
  exact ⟨rfl, rfl⟩
theorem sync_raw {w : World} {p : Nat} {v : Value} {l : List UInt8} {k : Nat} (hb : Blk w p 29 #[v, .int .i64 k]) (hr : RowB w 5 v l) : Calls Try.prog 14 #[.pointer (some ⟨p, 0, none⟩)] w fun e w' => e = .returned (.tuple #[]) ∧ DK w' p v l l.length ∧ Ch w w' p none := by
  have c0 : w.cell? ⟨p, 0, none⟩ = some v := by rw [hb.cell]; rfl
  have c1 : w.cell? ⟨p, 1, none⟩ = some (.int .i64 k) := by rw [hb.cell]; rfl
  have f1 := hb.frozen 1
  have hp := hb.lt
  have hfin : DK (w.setCell ⟨p, 1, none⟩ (.int .i64 l.length)) p v l l.length := ⟨by simpa using hb.set_ 1 (.int .i64 l.length), hr.kept fun g hg => Below.heap_setCell w _ _ g (fun e => hr.ne hb (by decide) (by rw [hg, e])), Nat.le_refl _⟩
  have hch : Ch w (w.setCell ⟨p, 1, none⟩ (.int .i64 l.length)) p none := ⟨rfl, rfl, rfl, by simp, fun k _ hk _ => Below.heap_setCell w _ _ k hk⟩
  have H := Lib.hid (And.intro hfin hch)
  obtain ⟨A, c, rfl, -, hc, -⟩ := hr.form
  clear hb hr hfin hch
  go_enter Try.func14, Try.ntmps14
  go_wp2
  exact Great.bodyPost_end0 Try.results14 rfl ⟨rfl, H.out⟩
theorem sync_any {w : World} {p : Nat} {v : Value} {l : List UInt8} {k : Nat} (h : DK w p v l k) : Calls Try.prog 14 #[.pointer (some ⟨p, 0, none⟩)] w fun e w' => e = .returned (.tuple #[]) ∧ DK w' p v l l.length ∧ Ch w w' p none := sync_raw h.blk h.row
theorem append_any {w : World} {p : Nat} {v : Value} {l : List UInt8} {k : Nat} (h : DK w p v l k) (s : ByteArray) (hb : l.length + s.size ≤ 140737488355328) : Calls Try.prog 13 #[.pointer (some ⟨p, 0, none⟩), .string s] w fun e w' => e = .returned (.tuple #[]) ∧
    ∃ v', DK w' p v' (l ++ s.data.toList) k ∧ Ch w w' p v.ownBlock ∧ (v'.ownBlock = v.ownBlock ∨ v'.ownBlock = some w.heap.size) := by
  obtain ⟨i0, hi0, hz0, hz1, hz2⟩ := info_parts info5
  have c0 : w.cell? ⟨p, 0, none⟩ = some v := by rw [h.blk.cell]; rfl
  have H := Lib.hid h
  have hrow := Lib.hid h.row
  clear h
  go_enter Try.func13, Try.ntmps13
  go_wp2_with (at_builtin; refine wpList_appendB rfl _ _ 27 9 rfl 5 i0 Try.underlying27 Try.underlying9 hi0 hz0 hz1 hz2 rfl hrow.out s rfl hb ?_)
  intro v' w' hrow' hgr hat
  have hB := H.out.blk.grown hgr (fun e => H.out.row.ne H.out.blk (by decide) e.symm)
  have hz := hB.lt
  have f0 := hB.frozen 0
  have d0 : w'.cell? ⟨p, 0, none⟩ = some v := by rw [hB.cell]; rfl
  have hne := hrow'.ne hB (by decide)
  have hfin : DK (w'.setCell ⟨p, 0, none⟩ v') p v' (l ++ s.data.toList) k := ⟨by simpa using hB.set_ 0 v', hrow'.kept fun g hg => Below.heap_setCell w' _ _ g (fun e => hne (by rw [hg, e])), by have := H.out.le; simp; omega⟩
  have hch : Ch w (w'.setCell ⟨p, 0, none⟩ v') p v.ownBlock := ⟨hgr.os, hgr.tape, hgr.output, by have := hgr.size; simpa using this, fun k hk h1 h2 => (Below.heap_setCell w' _ _ k h1).trans (hgr.block k hk h2)⟩
  have HF := Lib.hid hfin; have HC := Lib.hid hch; have HA := Lib.hid hat
  obtain ⟨A', c', hv, -⟩ := hrow'.form
  rw [show (l ++ s.data.toList).length = l.length + s.size by simp] at hv
  subst hv
  clear hfin hch hrow' hgr hat hne
  go_wp2
  exact Great.bodyPost_end0 Try.results13 rfl ⟨rfl, _, HF.out, HC.out, HA.out⟩
def crashK (n k : Nat) (keep : Int) : Nat := k + (min (max keep 0) ((n : Int) - k)).toNat
theorem crashK_le {n k : Nat} {keep : Int} (h : k ≤ n) : crashK n k keep ≤ n ∧ k ≤ crashK n k keep := by unfold crashK; omega
structure CR (w0 : World) (p : Nat) (v : Value) (k : Nat) (w : World) : Prop where
  blk : Blk w p 29 #[v, .int .i64 k]
  low : Below w0.heap.size w0 w
theorem CR.of {w0 : World} {p : Nat} {v : Value} {k : Nat} {w : World} (h : CR w0 p v k w) : w.cell? ⟨p, 0, none⟩ = some v ∧ w.cell? ⟨p, 1, none⟩ = some (.int .i64 k) ∧ Hid (CR w0 p v k w) :=
  ⟨by rw [h.blk.cell]; rfl, by rw [h.blk.cell]; rfl, h⟩
theorem CR.drew {w0 : World} {p : Nat} {v : Value} {k : Nat} {w : World} (h : Hid (CR w0 p v k w)) : w.drew.cell? ⟨p, 0, none⟩ = some v ∧ w.drew.cell? ⟨p, 1, none⟩ = some (.int .i64 k) ∧ Hid (CR w0 p v k w.drew) :=
  CR.of ⟨h.blk.drew, h.low.drew⟩
set_option maxHeartbeats 1000000 in
theorem crash_any {w : World} {p : Nat} {v : Value} {l : List UInt8} {k : Nat} (h : DK w p v l k) (keep : Int) : Calls Try.prog 15 #[.pointer (some ⟨p, 0, none⟩), .int .i64 keep] w fun e w' => e = .returned (.tuple #[]) ∧
    ∃ v', DK w' p v' (l.take (crashK l.length k keep)) (crashK l.length k keep) ∧ Ch w w' p none ∧ v'.ownBlock = v.ownBlock := by
  have H := Lib.hid h
  have hle := h.le
  obtain ⟨A, c, rfl, hlc, hcm, -⟩ := h.row.form
  unfold maxLen at hcm
  have test := CR.drew (w0 := w) (p := p) (v := .slice A l.length c) (k := k) (w := w) ⟨h.blk, Below.refl _ _⟩
  have s1 : IntKind.i64.wrap ((l.length : Int) - k) = (l.length : Int) - k := IntWalk.i64_in _ (by omega)
  clear h
  go_enter Try.func15, Try.ntmps15
  go_wp2_with fail
  refine wp_region_held_drew (S := (fun w' => w'.cell? ⟨p, 0, none⟩ = some (.slice A l.length c) ∧ w'.cell? ⟨p, 1, none⟩ = some (.int .i64 k) ∧ Hid (CR w p (.slice A l.length c) k w'))) (by kernel_rfl) ?_ (fun hHeldp0 => ?_)
  · exact test
  refine wpAnyH_take (i := 0) (v := ?vp0) ops0 (by kernel_rfl) (by kernel_rfl) (by kernel_rfl) (fun _ _ _ h => h) (Or.inl ⟨by rfl, ?yp0⟩) hHeldp0 ?_
  case yp0 => (intro w hSw; (try dsimp only at hSw); go_simp; try (with_reducible rfl))
  try simp only [Act.put, List.setIfInBounds_toArray, List.set_cons_zero, List.set_cons_succ]
  refine wpAnyH_take (i := 1) (v := ?vp1) (opsS ops0) (by kernel_rfl) (by kernel_rfl) (by kernel_rfl) (fun _ _ _ h => h) (Or.inl ⟨by rfl, ?yp1⟩) hHeldp0 ?_
  case yp1 => (intro w hSw; (try dsimp only at hSw); go_simp; try (with_reducible rfl))
  try simp only [Act.put, List.setIfInBounds_toArray, List.set_cons_zero, List.set_cons_succ]
  refine wpAnyH_take (i := 2) (v := ?vp2) (opsS (opsS ops0)) (by kernel_rfl) (by kernel_rfl) (by kernel_rfl) (fun _ _ _ h => h) (Or.inl ⟨by rfl, ?yp2⟩) hHeldp0 ?_
  case yp2 => (intro w hSw; (try dsimp only at hSw); go_simp; try (with_reducible rfl))
  try simp only [Act.put, List.setIfInBounds_toArray, List.set_cons_zero, List.set_cons_succ]
  refine wpAnyH_take (i := 3) (v := ?vp3) (opsS (opsS (opsS ops0))) (by kernel_rfl) (by kernel_rfl) (by kernel_rfl) (fun _ _ _ h => h) (Or.inl ⟨by rfl, ?yp3⟩) hHeldp0 ?_
  case yp3 => (intro w hSw; (try dsimp only at hSw); go_simp; try (with_reducible rfl))
  try simp only [Act.put, List.setIfInBounds_toArray, List.set_cons_zero, List.set_cons_succ]
  refine wpAnyH_take (i := 4) (v := ?vp4) (opsS (opsS (opsS (opsS ops0)))) (by kernel_rfl) (by kernel_rfl) (by kernel_rfl) (fun _ _ _ h => h) (Or.inl ⟨by rfl, ?yp4⟩) hHeldp0 ?_
  case yp4 => (intro w hSw; (try dsimp only at hSw); go_simp; try (with_reducible rfl))
  try simp only [Act.put, List.setIfInBounds_toArray, List.set_cons_zero, List.set_cons_succ]
  refine wpAnyH_take (i := 5) (v := ?vp5) (opsS (opsS (opsS (opsS (opsS ops0))))) (by kernel_rfl) (by kernel_rfl) (by kernel_rfl) (fun _ _ _ h => h) (Or.inl ⟨by rfl, ?yp5⟩) hHeldp0 ?_
  case yp5 => (intro w hSw; (try dsimp only at hSw); go_simp; try (with_reducible rfl))
  try simp only [Act.put, List.setIfInBounds_toArray, List.set_cons_zero, List.set_cons_succ]
  refine wpAnyH_take (i := 6) (v := ?vp6) (opsS (opsS (opsS (opsS (opsS (opsS ops0)))))) (by kernel_rfl) (by kernel_rfl) (by kernel_rfl) (fun _ _ _ h => h) (Or.inl ⟨by rfl, ?yp6⟩) hHeldp0 ?_
  case yp6 => (intro w hSw; (try dsimp only at hSw); go_simp; try (with_reducible rfl))
  try simp only [Act.put, List.setIfInBounds_toArray, List.set_cons_zero, List.set_cons_succ]
  refine wpAnyH_take (i := 7) (v := ?vp7) (opsS (opsS (opsS (opsS (opsS (opsS (opsS ops0))))))) (by kernel_rfl) (by kernel_rfl) (by kernel_rfl) (fun _ _ _ h => h) (Or.inl ⟨by rfl, ?yp7⟩) hHeldp0 ?_
  case yp7 => (intro w hSw; (try dsimp only at hSw); go_simp; try (with_reducible rfl))
  try simp only [Act.put, List.setIfInBounds_toArray, List.set_cons_zero, List.set_cons_succ]
  refine wpAnyH_take (i := 8) (v := ?vp8) (opsS (opsS (opsS (opsS (opsS (opsS (opsS (opsS ops0)))))))) (by kernel_rfl) (by kernel_rfl) (by kernel_rfl) (fun _ _ _ h => h) (Or.inl ⟨by rfl, ?yp8⟩) hHeldp0 ?_
  case yp8 => (intro w hSw; (try dsimp only at hSw); go_simp; try (with_reducible rfl))
  try simp only [Act.put, List.setIfInBounds_toArray, List.set_cons_zero, List.set_cons_succ]
  refine wpAnyH_take (i := 9) (v := ?vp9) (opsS (opsS (opsS (opsS (opsS (opsS (opsS (opsS (opsS ops0))))))))) (by kernel_rfl) (by kernel_rfl) (by kernel_rfl) (fun _ _ _ h => h) (Or.inl ⟨by rfl, ?yp9⟩) hHeldp0 ?_
  case yp9 => (intro w hSw; (try dsimp only at hSw); go_simp; try (with_reducible rfl))
  try simp only [Act.put, List.setIfInBounds_toArray, List.set_cons_zero, List.set_cons_succ]
  refine wpAnyH_take (i := 10) (v := ?vp10) (opsS (opsS (opsS (opsS (opsS (opsS (opsS (opsS (opsS (opsS ops0)))))))))) (by kernel_rfl) (by kernel_rfl) (by kernel_rfl) (fun _ _ _ h => h) (Or.inl ⟨by rfl, ?yp10⟩) hHeldp0 ?_
  case yp10 => (intro w hSw; (try dsimp only at hSw); go_simp; try (with_reducible rfl))
  try simp only [Act.put, List.setIfInBounds_toArray, List.set_cons_zero, List.set_cons_succ]
  refine wpAnyH_done (by kernel_rfl) ?_ _
  obtain ⟨c0, c1, hC⟩ := hHeldp0
  clear test
  have hk := crashK_le (keep := keep) hle
  have s2 : IntKind.i64.wrap ((k : Int) + min (max keep 0) ((l.length : Int) - k)) = (crashK l.length k keep : Nat) := by
    have e : (k : Int) + min (max keep 0) ((l.length : Int) - k) = (crashK l.length k keep : Nat) := by unfold crashK; omega
    rw [e]; exact IntWalk.i64_in _ (by omega)
  have m0 : min (max keep 0) ((l.length : Int) - k) = (crashK l.length k keep : Nat) - k := by unfold crashK; omega
  generalize hq : crashK l.length k keep = q at *
  have HQ := Lib.hid hq
  clear hq
  have f0 := hC.out.blk.frozen 0
  have hrow : RowB w.drew 5 (.slice A l.length c) l := H.out.row.kept fun _ _ => rfl
  have hrow' := hrow.cut hk.1
  have hdk : DK (w.drew.setCell ⟨p, 0, none⟩ (.slice A q q)) p (.slice A q q) (l.take q) k := ⟨by simpa using hC.out.blk.set_ 0 (.slice A q q), hrow'.kept fun g hg => Below.heap_setCell _ _ _ g (fun e => hrow'.ne hC.out.blk (by decide) (by rw [hg, e])), by simp; omega⟩
  have HD := Lib.hid hdk
  have hch : Ch w (w.drew.setCell ⟨p, 0, none⟩ (.slice A q q)) p none := ⟨rfl, rfl, rfl, by simp, fun j _ hj _ => Below.heap_setCell _ _ _ j hj⟩
  have HC := Lib.hid hch
  clear hdk hch hrow hrow' hC H
  have hl : (l.take q).length = q := by simp; omega
  go_wp2_with fail
  refine (sync_any HD.out).mono ?_
  rw [hl]
  rintro e w1 ⟨rfl, hd, hc⟩
  have HD2 := Lib.hid hd; have HC2 := Lib.hid (HC.out.trans hc)
  clear hd hc HD HC
  go_wp2
  exact Great.bodyPost_end0 Try.results15 rfl ⟨rfl, .slice A q q, by rw [HQ.out]; exact HD2.out, HC2.out, by cases A <;> rfl⟩
theorem swap_any {w : World} {p : Nat} {v : Value} {l : List UInt8} {k : Nat} (h : DK w p v l k) (s : ByteArray) (hs : s.size ≤ 140737488355328) : Calls Try.prog 16 #[.pointer (some ⟨p, 0, none⟩), .string s] w fun e w' => e = .returned (.tuple #[]) ∧
    ∃ v', DK w' p v' s.data.toList s.size ∧ Ch w w' p none ∧ v'.ownBlock = some w.heap.size := by
  have c0 : w.cell? ⟨p, 0, none⟩ = some v := by rw [h.blk.cell]; rfl
  have hp := h.blk.lt
  have hcv := run_bytes_of_string (P := Try.prog) w 9 27 5 s Try.underlying9 Try.underlying27 Try.underlying5
  have hrow := RowB.of_string (w := w) s 5 (by unfold maxLen; omega)
  have hB := h.blk.drew.alloc (.cells (bytesRow s (grownCap w s.size 0 5)) 5 ((bytesRow s (grownCap w s.size 0 5)).size, (bytesRow s (grownCap w s.size 0 5)).size + 1))
  obtain ⟨A', c', hv, -⟩ := h.row.form
  subst hv
  have hw1 : Below w.heap.size w (w.drew.alloc (.cells (bytesRow s (grownCap w s.size 0 5)) 5 ((bytesRow s (grownCap w s.size 0 5)).size, (bytesRow s (grownCap w s.size 0 5)).size + 1))) := (Below.refl _ _).drew.alloc (Nat.le_refl _) _
  generalize w.drew.alloc (.cells (bytesRow s (grownCap w s.size 0 5)) 5 ((bytesRow s (grownCap w s.size 0 5)).size, (bytesRow s (grownCap w s.size 0 5)).size + 1)) = w1 at *
  generalize hcp : grownCap w s.size 0 5 = C at *
  clear hcp
  have d0 : w1.cell? ⟨p, 0, none⟩ = some (.slice A' l.length c') := by rw [hB.cell]; rfl
  have f0 := hB.frozen 0
  have hz := hB.lt
  have hb1 : Blk (w1.setCell ⟨p, 0, none⟩ (.slice (some ⟨w.heap.size, 0, none⟩) s.size C)) p 29 #[.slice (some ⟨w.heap.size, 0, none⟩) s.size C, .int .i64 k] := by simpa using hB.set_ 0 (.slice (some ⟨w.heap.size, 0, none⟩) s.size C)
  have hr1 : RowB (w1.setCell ⟨p, 0, none⟩ (.slice (some ⟨w.heap.size, 0, none⟩) s.size C)) 5 (.slice (some ⟨w.heap.size, 0, none⟩) s.size C) s.data.toList :=
    hrow.kept fun g hg => Below.heap_setCell _ _ _ g (fun e => hrow.ne hB (by decide) (by rw [hg, e]))
  have hch : Ch w (w1.setCell ⟨p, 0, none⟩ (.slice (some ⟨w.heap.size, 0, none⟩) s.size C)) p none := ⟨hw1.os, hw1.tape, hw1.output, by have := hw1.size; simpa using this, fun j hj h1 _ => (Below.heap_setCell _ _ _ j h1).trans (hw1.block j hj)⟩
  have HB := Lib.hid hb1; have HR := Lib.hid hr1; have HC := Lib.hid hch
  clear hb1 hr1 hch hB hrow hw1 h
  go_enter Try.func16, Try.ntmps16
  go_wp2_with fail
  refine (sync_raw HB.out HR.out).mono ?_
  rintro e w2 ⟨rfl, hd, hc⟩
  have HD2 := Lib.hid hd; have HC2 := Lib.hid (HC.out.trans hc)
  clear hd hc HB HC HR
  go_wp2
  exact Great.bodyPost_end0 Try.results16 rfl ⟨rfl, .slice (some ⟨w.heap.size, 0, none⟩) s.size C, by simpa using HD2.out, HC2.out, rfl⟩
/-- A call that is an act. -/
structure AC where
  kind : Int
  s : ByteArray
  keep : Int
def AC.val (a : AC) : Value := .agg #[.int .i64 a.kind, .string a.s, .int .i64 a.keep]
/-- The disk behind an act. -/
def AC.do_ (a : AC) (l : List UInt8) (k : Nat) : List UInt8 × Nat :=
  if a.kind = 1 then (l ++ a.s.data.toList, k) else if a.kind = 2 then (l, l.length) else if a.kind = 3 then (l.take (crashK l.length k a.keep), crashK l.length k a.keep) else if a.kind = 4 then (a.s.data.toList, a.s.size) else (l, k)
/-- Where the row lies behind a call. -/
def Far (w : World) (v v' : Value) : Prop := v'.ownBlock = v.ownBlock ∨ ∃ g, v'.ownBlock = some g ∧ w.heap.size ≤ g
theorem Ch.of_alloc {w w' : World} {p : Nat} {q : Option Nat} {o : Obj} (h : Ch (w.alloc o) w' p q) : Ch w w' p q :=
  ⟨h.os, h.tape, h.output, Nat.le_trans (by simp) h.size, fun j hj a b => (h.block j (by simp; omega) a b).trans (Below.heap_alloc w o j hj)⟩
theorem Far.of_alloc {w : World} {v v' : Value} {o : Obj} (h : Far (w.alloc o) v v') : Far w v v' := by
  rcases h with h | ⟨g, h, h1⟩
  · exact .inl h
  · exact .inr ⟨g, h, by simp at h1; omega⟩
theorem DK.alloc {w : World} {p : Nat} {v : Value} {l : List UInt8} {k : Nat} (h : DK w p v l k) (o : Obj) : DK (w.alloc o) p v l k :=
  ⟨h.blk.alloc o, h.row.kept fun g hg => Below.heap_alloc w o g (h.row.lt hg), h.le⟩
theorem do_any {w : World} {p : Nat} {v : Value} {l : List UInt8} {k : Nat} (h : DK w p v l k) (a : AC) (hs : l.length + a.s.size ≤ 140737488355328) : Calls Try.prog 8 #[.pointer (some ⟨p, 0, none⟩), a.val] w fun e w' => e = .returned (.tuple #[]) ∧
    ∃ v', DK w' p v' (a.do_ l k).1 (a.do_ l k).2 ∧ Ch w w' p v.ownBlock ∧ Far w v v' := by
  obtain ⟨kind, s, keep⟩ := a
  simp only at hs
  show Calls Try.prog 8 #[.pointer (some ⟨p, 0, none⟩), .agg #[.int .i64 kind, .string s, .int .i64 keep]] w _
  have H := Lib.hid (h.alloc (.cells #[.int .i64 kind, .string s, .int .i64 keep] 35))
  clear h
  have hD := Lib.hid (show AC.do_ ⟨kind, s, keep⟩ l k = if kind = 1 then (l ++ s.data.toList, k) else if kind = 2 then (l, l.length) else if kind = 3 then (l.take (crashK l.length k keep), crashK l.length k keep) else if kind = 4 then (s.data.toList, s.size) else (l, k) from rfl)
  by_cases h1 : kind = 1
  · subst h1
    go_enter Try.func8, Try.ntmps8
    go_wp2_with fail
    refine (append_any H.out s hs).mono ?_
    rintro e w1 ⟨rfl, v', hd, hc, hf⟩
    have HR := Lib.hid (show ∃ v', DK w1 p v' (AC.do_ ⟨1, s, keep⟩ l k).1 (AC.do_ ⟨1, s, keep⟩ l k).2 ∧ Ch w w1 p v.ownBlock ∧ Far w v v' from ⟨v', hd, hc.of_alloc, Far.of_alloc (hf.imp id fun e => ⟨_, e, Nat.le_refl _⟩)⟩)
    clear hd hc hf H hD
    go_wp2
    exact Great.bodyPost_end0 Try.results8 rfl ⟨rfl, HR.out⟩
  by_cases h2 : kind = 2
  · subst h2
    go_enter Try.func8, Try.ntmps8
    go_wp2_with fail
    refine (sync_any H.out).mono ?_
    rintro e w1 ⟨rfl, hd, hc⟩
    have HR := Lib.hid (show ∃ v', DK w1 p v' (AC.do_ ⟨2, s, keep⟩ l k).1 (AC.do_ ⟨2, s, keep⟩ l k).2 ∧ Ch w w1 p v.ownBlock ∧ Far w v v' from ⟨v, hd, hc.of_alloc.wide _, .inl rfl⟩)
    clear hd hc H hD
    go_wp2
    exact Great.bodyPost_end0 Try.results8 rfl ⟨rfl, HR.out⟩
  by_cases h3 : kind = 3
  · subst h3
    go_enter Try.func8, Try.ntmps8
    go_wp2_with fail
    refine (crash_any H.out keep).mono ?_
    rintro e w1 ⟨rfl, v', hd, hc, hf⟩
    have HR := Lib.hid (show ∃ v', DK w1 p v' (AC.do_ ⟨3, s, keep⟩ l k).1 (AC.do_ ⟨3, s, keep⟩ l k).2 ∧ Ch w w1 p v.ownBlock ∧ Far w v v' from ⟨v', hd, hc.of_alloc.wide _, .inl hf⟩)
    clear hd hc hf H hD
    go_wp2
    exact Great.bodyPost_end0 Try.results8 rfl ⟨rfl, HR.out⟩
  by_cases h4 : kind = 4
  · subst h4
    go_enter Try.func8, Try.ntmps8
    go_wp2_with fail
    refine (swap_any H.out s (by omega)).mono ?_
    rintro e w1 ⟨rfl, v', hd, hc, hf⟩
    have HR := Lib.hid (show ∃ v', DK w1 p v' (AC.do_ ⟨4, s, keep⟩ l k).1 (AC.do_ ⟨4, s, keep⟩ l k).2 ∧ Ch w w1 p v.ownBlock ∧ Far w v v' from ⟨v', hd, hc.of_alloc.wide _, Far.of_alloc (.inr ⟨_, hf, Nat.le_refl _⟩)⟩)
    clear hd hc hf H hD
    go_wp2
    exact Great.bodyPost_end0 Try.results8 rfl ⟨rfl, HR.out⟩
  · have HR := Lib.hid (show ∃ v', DK (w.alloc (.cells #[.int .i64 kind, .string s, .int .i64 keep] 35)) p v' (AC.do_ ⟨kind, s, keep⟩ l k).1 (AC.do_ ⟨kind, s, keep⟩ l k).2 ∧ Ch w (w.alloc (.cells #[.int .i64 kind, .string s, .int .i64 keep] 35)) p v.ownBlock ∧ Far w v v' from
      ⟨v, by rw [hD.out, if_neg h1, if_neg h2, if_neg h3, if_neg h4]; exact H.out, Ch.of_alloc (Ch.refl _ _ _), .inl rfl⟩)
    clear H hD
    go_enter Try.func8, Try.ntmps8
    go_wp2
    exact Great.bodyPost_end0 Try.results8 rfl ⟨rfl, HR.out⟩
end Go.Proofs.Ytcmidhifhhmfkaa.disk
