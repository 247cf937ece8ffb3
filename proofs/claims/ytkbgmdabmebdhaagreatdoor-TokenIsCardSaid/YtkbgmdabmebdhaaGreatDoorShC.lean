/- The walks of sha: a block taken into the words. -/
import Derived.Test.YtkbgmdabmebdhaaGreatDoorShB
namespace Go.Proofs.YtkbgmdabmebdhaaGreatDoor.sha
open Go.ChangeShapes Go.WideShapes Go.ChangeAt Go.RowKit Go.Proofs.Aid
set_option linter.unusedVariables false
/-- The two tables that the package holds. -/
structure Lets (w : World) : Prop where
  f : ∀ i, i < 8 → w.cell? ⟨1, i, none⟩ = some (.int .u32 ((h0.list.getD i 0 : Nat) : Int))
  s : ∀ i, i < 64 → w.cell? ⟨2, i, none⟩ = some (.int .u32 ((kTab.getD i 0 : Nat) : Int))
theorem Lets.lt {w : World} (h : Lets w) : 1 < w.heap.size ∧ 2 < w.heap.size := ⟨block_lt (h.f 0 (by decide)), block_lt (h.s 0 (by decide))⟩
theorem Lets.below {w w' : World} {B : Nat} (h : Lets w) (hb : Below B w w') (hB : w.heap.size ≤ B) : Lets w' :=
  ⟨fun i hi => (hb.cell (p := ⟨1, i, none⟩) (Nat.lt_of_lt_of_le h.lt.1 hB)).trans (h.f i hi), fun i hi => (hb.cell (p := ⟨2, i, none⟩) (Nat.lt_of_lt_of_le h.lt.2 hB)).trans (h.s i hi)⟩
theorem kTab_lt (i : Nat) : kTab.getD i 0 < 4294967296 := allLt_getD (by decide) i
theorem cells_list (x : S8) : x.cells = wcell .u32 8 x.list := rfl
theorem S8.list_lt {x : S8} (h : x.ok) : ∀ n ∈ x.list, n < 4294967296 := by
  intro n hn
  simp only [S8.list, List.mem_cons, List.not_mem_nil, or_false] at hn
  rcases hn with rfl | rfl | rfl | rfl | rfl | rfl | rfl | rfl
  · exact h.a
  · exact h.b
  · exact h.c
  · exact h.d
  · exact h.e
  · exact h.f
  · exact h.g
  · exact h.h
/-- The words when k of them are added. -/
def mixL (r v : List Nat) (k : Nat) : List Nat := (List.range 8).map fun j => if j < k then (r.getD j 0 + v.getD j 0) % 4294967296 else r.getD j 0
theorem mixL_at (r v : List Nat) (k : Nat) {j : Nat} (h : j < 8) : (mixL r v k).getD j 0 = if j < k then (r.getD j 0 + v.getD j 0) % 4294967296 else r.getD j 0 := by simp [mixL, h]
theorem mixL_out (r v : List Nat) (k : Nat) {j : Nat} (h : ¬ j < 8) : (mixL r v k).getD j 0 = 0 := getD_out (by simp [mixL]; omega)
theorem mixL_zero (r : S8) (v : List Nat) : mixL r.list v 0 = r.list := rfl
theorem mixL_all (r v : S8) : mixL r.list v.list 8 = (addS r v).list := rfl
theorem mixL_set (r v : List Nat) (k : Nat) (hk : k < 8) (n : Nat) (hn : n = (r.getD k 0 + v.getD k 0) % 4294967296) : (wcell .u32 8 (mixL r v k)).setIfInBounds k (.int .u32 (n : Int)) = wcell .u32 8 (mixL r v (k + 1)) := by
  subst hn
  refine wcell_set .u32 8 _ _ k _ ?_ fun j hj => ?_
  · rw [mixL_at _ _ _ hk, if_pos (by omega)]
  · by_cases h8 : j < 8
    · rw [mixL_at _ _ _ h8, mixL_at _ _ _ h8]
      by_cases h1 : j < k
      · rw [if_pos h1, if_pos (by omega)]
      · rw [if_neg h1, if_neg (by omega)]
    · rw [mixL_out _ _ _ h8, mixL_out _ _ _ h8]
theorem info30 : (Tryz.prog.info? 103).map (·.size) = some 8 := by kernel_rfl
theorem info30c (x : S8) : (Tryz.prog.info? 103).map (·.size) = some x.cells.size := info30
theorem one30 (x : S8) : x.cells.all (·.oneCell') = true := wcell_one .u32 8 x.list
/-- What `taken` holds while it goes on. -/
structure Tk (M : Nat) (w0 : World) (g2 g4 g5 g6 : Nat) (v r : List Nat) (l : List Nat) (w' : World) : Prop where
  h2 : Blk w' g2 103 (wcell .u32 8 v)
  h4 : Blk w' g4 103 (wcell .u32 8 [])
  h5 : Blk w' g5 111 (wcell .u32 64 l)
  h6 : Blk w' g6 103 (wcell .u32 8 r)
  n2 : g2 ≠ g6
  n4 : g4 ≠ g6
  n5 : g5 ≠ g6
  m2 : M ≤ g2
  m4 : M ≤ g4
  m6 : M ≤ g6
  low : Below M w0 w'
theorem Tk.next {M : Nat} {w0 w1 w2 : World} {g2 g4 g5 g6 : Nat} {v r l : List Nat} (h : Tk M w0 g2 g4 g5 g6 v r l w1) (hb : Below w1.heap.size w1 w2) : Tk M w0 g2 g4 g5 g6 v r l w2 :=
  ⟨h.h2.below hb h.h2.lt, h.h4.below hb h.h4.lt, h.h5.below hb h.h5.lt, h.h6.below hb h.h6.lt, h.n2, h.n4, h.n5, h.m2, h.m4, h.m6, h.low.trans (hb.mono (by have := h.h2.lt; have := h.m2; omega))⟩
theorem Tk.drew {M : Nat} {w0 w1 : World} {g2 g4 g5 g6 : Nat} {v r l : List Nat} (h : Tk M w0 g2 g4 g5 g6 v r l w1) : Tk M w0 g2 g4 g5 g6 v r l w1.drew :=
  ⟨h.h2.drew, h.h4.drew, h.h5.drew, h.h6.drew, h.n2, h.n4, h.n5, h.m2, h.m4, h.m6, h.low.drew⟩
theorem Tk.row {M : Nat} {w0 w1 : World} {g2 g4 g5 g6 : Nat} {v r l : List Nat} (h : Tk M w0 g2 g4 g5 g6 v r l w1) (r' : List Nat) : Tk M w0 g2 g4 g5 g6 v r' l (w1.setRow g6 (wcell .u32 8 r')) :=
  ⟨blk_setRow_far h.h2 (Ne.symm h.n2), blk_setRow_far h.h4 (Ne.symm h.n4), blk_setRow_far h.h5 (Ne.symm h.n5), blk_setRow h.h6, h.n2, h.n4, h.n5, h.m2, h.m4, h.m6, below_setRow h.low h.m6 _⟩
theorem Tk.cell {M : Nat} {w0 w1 : World} {g2 g4 g5 g6 : Nat} {v r l : List Nat} (h : Tk M w0 g2 g4 g5 g6 v r l w1) (k : Nat) (u : Value) (r' : List Nat) (hr : (wcell .u32 8 r).setIfInBounds k u = wcell .u32 8 r') : Tk M w0 g2 g4 g5 g6 v r' l (w1.setCell ⟨g6, k, none⟩ u) :=
  ⟨h.h2.far h.n2 u, h.h4.far h.n4 u, h.h5.far h.n5 u, by rw [← hr]; exact h.h6.set_ k u, h.n2, h.n4, h.n5, h.m2, h.m4, h.m6, h.low.setCell (p := ⟨g6, k, none⟩) h.m6 u⟩
def Taken (x : S8) (w : World) (e : Ending) (w' : World) : Prop := e = .returned (.agg x.cells) ∧ Below w.heap.size w w'
set_option maxRecDepth 100000 in
set_option maxHeartbeats 4000000 in
theorem taken_any (v : S8) (hv : v.ok) (s : ByteArray) (w : World) (hs : s.size = 64) (hl : Lets w) :
    Calls Tryz.prog 70 #[.agg v.cells, .string s] w (Taken (blockS v s.data.toList) w) := by
  have hz := zero49
  have HZ := Lib.hid (show (wcell .u32 64 []).size = 64 from wcell_size _ _ _)
  generalize wcell .u32 64 [] = Z0 at *
  have HV := Lib.hid hv
  have HS := Lib.hid hs
  have HL := Lib.hid hl
  clear hs hl hv
  simp only [S8.cells]
  go_enter Tryz.func70, Tryz.ntmps70
  go_wp2_with fail
  have W0 : Hid (Blk ((w.alloc (.cells v.cells 103)).alloc (.cells (wcell .u32 8 []) 103)) w.heap.size 103 (wcell .u32 8 v.list) ∧ Blk ((w.alloc (.cells v.cells 103)).alloc (.cells (wcell .u32 8 []) 103)) (w.heap.size + 1) 103 (wcell .u32 8 []) ∧ Below w.heap.size w ((w.alloc (.cells v.cells 103)).alloc (.cells (wcell .u32 8 []) 103)) ∧ ((w.alloc (.cells v.cells 103)).alloc (.cells (wcell .u32 8 []) 103)).heap.size = w.heap.size + 2) := by
    refine ⟨(Blk.new w _ _).alloc _, ?_, below_lit2 w _ _, by simp⟩
    have := Blk.new (w.alloc (.cells v.cells 103)) 103 (wcell .u32 8 [])
    rw [World.size_alloc] at this
    exact this
  change Calls Tryz.prog 82 _ ((w.alloc (.cells v.cells 103)).alloc (.cells (wcell .u32 8 []) 103)) _
  generalize (w.alloc (.cells v.cells 103)).alloc (.cells (wcell .u32 8 []) 103) = wa at *
  refine (scheduled_any s wa HS.out).mono ?_
  rintro e w1 ⟨rfl, hb⟩
  have hsz := wcell_size .u32 64 (sched s.data.toList)
  have HONE := Lib.hid (wcell_one .u32 64 (sched s.data.toList))
  have HB1 := Lib.hid hb
  have HSL := Lib.hid (sched_lt s.data.toList)
  have HF : Hid (∀ r w', r = (blockS v s.data.toList).list → Below w.heap.size w w' → Taken (blockS v s.data.toList) w (.returned (.agg (wcell .u32 8 r))) w') := fun r w' e h => by rw [e]; exact ⟨rfl, h⟩
  have HR : Hid (∀ t, t = 64 → mixL (runS v (sched s.data.toList) t).list v.list 8 = (blockS v s.data.toList).list) := fun t h => by rw [h]; exact mixL_all _ _
  generalize blockS v s.data.toList = out at *
  generalize sched s.data.toList = l at *
  clear hb
  have HI : Hid ((Tryz.prog.info? 111).map (·.size) = some (wcell .u32 64 l).size) := by unfold Hid; rw [hsz]; exact info49
  have HSZ := Lib.hid hsz
  clear hsz
  have HW : Hid (Blk (w1.alloc (.cells Z0 111)) w1.heap.size 111 Z0) := Blk.new w1 _ _
  generalize hcs : wcell .u32 64 l = cs at *
  have HCS := Lib.hid hcs
  clear hcs
  obtain ⟨A2, A4, A0, AZ⟩ := W0.out
  have z1 := HB1.out.size
  have B2 : Hid (Blk ((w1.alloc (.cells Z0 111)).setRow w1.heap.size cs) w.heap.size 103 (wcell .u32 8 v.list)) := blk_setRow_far ((A2.below HB1.out A2.lt).alloc _) (by omega)
  have B4 : Hid (Blk ((w1.alloc (.cells Z0 111)).setRow w1.heap.size cs) (w.heap.size + 1) 103 (wcell .u32 8 [])) := blk_setRow_far ((A4.below HB1.out A4.lt).alloc _) (by omega)
  have B5 : Hid (Blk ((w1.alloc (.cells Z0 111)).setRow w1.heap.size cs) w1.heap.size 111 cs) := blk_setRow HW.out
  have BL : Hid (Below w.heap.size w ((w1.alloc (.cells Z0 111)).setRow w1.heap.size cs)) := below_setRow ((A0.trans (HB1.out.mono (by omega))).alloc (by omega) _) (by omega) _
  have BZ : Hid (((w1.alloc (.cells Z0 111)).setRow w1.heap.size cs).heap.size = w1.heap.size + 1) := by simp [World.setRow, Hid]
  have z2 : w.heap.size + 2 ≤ w1.heap.size := by omega
  clear A2 A4 A0 AZ z1 W0 HB1
  go_wp2_with (first
    | (refine wpList_store_row rfl 111 _ _ rfl w1.heap.size cs rfl rfl 111 Z0 HW.out HI.out (HZ.out.trans HSZ.out.symm) HONE.out ?_; generalize (w1.alloc (.cells Z0 111)).setRow w1.heap.size cs = w2 at *)
    | (refine wpList_load_row rfl 103 _ rfl w.heap.size rfl 103 v.cells (0, 0) _ B2.out Tryz.underlying103 rfl (info30c v) ?_; simp only [S8.cells]))
  have HT : Hid (Tk w.heap.size w w.heap.size (w.heap.size + 1) w1.heap.size w2.heap.size v.list (runS v l 0).list l (w2.alloc (.cells v.cells 103))) :=
    ⟨B2.out.alloc _, B4.out.alloc _, by rw [HCS.out]; exact B5.out.alloc _, Blk.new w2 _ _, by have := BZ.out; omega, by have := BZ.out; omega, by have := BZ.out; omega, Nat.le_refl _, by omega, by have := BZ.out; omega, BL.out.alloc (by have := BZ.out; omega) _⟩
  simp only [S8.cells] at HT
  clear B2 B4 B5 BL BZ HW HONE HI HSZ HCS
  generalize w2.alloc (.cells #[.int .u32 (v.a : Int), .int .u32 v.b, .int .u32 v.c, .int .u32 v.d, .int .u32 v.e, .int .u32 v.f, .int .u32 v.g, .int .u32 v.h] 103) = w3 at *
  generalize w2.heap.size = g6 at *
  generalize w1.heap.size = g5 at *
  generalize (#[.int .u32 (v.a : Int), .int .u32 v.b, .int .u32 v.c, .int .u32 v.d, .int .u32 v.e, .int .u32 v.f, .int .u32 v.g, .int .u32 v.h] : Array Value) = vc at *
  go_loopw [12] (fun iv wr => ∃ t : Nat, t ≤ 64 ∧ iv = .int .i64 t ∧ Hid (Tk w.heap.size w w.heap.size (w.heap.size + 1) g5 g6 v.list (runS v l t).list l wr)) (fun iv _ => 64 - (intOf iv).toNat)
  case atStart => exact ⟨0, by omega, rfl, HT⟩
  case round =>
    clear HT
    obtain ⟨t, ht, rfl, hT⟩ := hrel
    by_cases hlt : t < 64
    · have hok := Lib.hid (runS_ok HV.out l t)
      have HN := Lib.hid (show runS v l (t + 1) = stepS (runS v l t) ((kTab.getD t 0 + l.getD t 0) % 4294967296) from rfl)
      generalize runS v l t = r at *
      have HTD := Lib.hid hT.out.drew
      have hlets := HL.out.below hT.out.low (Nat.le_refl _)
      have cs0 := hlets.s t hlt
      have cw0 := hT.out.h5.cell t
      rw [wcell_at hlt] at cw0
      have c6 := fun j => hT.out.h6.cell j
      have p0 := c6 0
      have p1 := c6 1
      have p2 := c6 2
      have p3 := c6 3
      have p4 := c6 4
      have p5 := c6 5
      have p6 := c6 6
      have p7 := c6 7
      rw [← cells_list] at p0 p1 p2 p3 p4 p5 p6 p7
      simp only [S8.cells, List.getElem?_toArray, List.getElem?_cons_zero, List.getElem?_cons_succ] at p0 p1 p2 p3 p4 p5 p6 p7
      clear c6 hlets hT
      have ykt := kTab_lt t
      have ylt := allLt_getD HSL.out t
      generalize kTab.getD t 0 = kt at *
      generalize l.getD t 0 = lt at *
      have HC : Hid (∀ w', Calls Tryz.prog 83 #[.agg #[.int .u32 (r.a : Int), .int .u32 r.b, .int .u32 r.c, .int .u32 r.d, .int .u32 r.e, .int .u32 r.f, .int .u32 r.g, .int .u32 r.h], .int .u32 (((kt + lt) % 4294967296 : Nat) : Int)] w' (Stepped (stepS r ((kt + lt) % 4294967296)) w')) := fun w' => stepped_any r ((kt + lt) % 4294967296) w' hok.out (mod_lt _)
      have ew : IntKind.u32.wrap ((kt : Int) + (lt : Int)) = (((kt + lt) % 4294967296 : Nat) : Int) := by rw [IntKind.wrap_u32]; omega
      go_wp2
      go_still_tail 8, (by kernel_rfl)
      change wpList _ _ _ _ _ wr.drew
      generalize wr.drew = wd at *
      go_wp2_with (first
        | (refine (HC.out wd).mono ?_; rintro e w4 ⟨rfl, hb⟩; have HT4 := Lib.hid (HTD.out.next hb); clear hb HTD)
        | (refine wpList_store_row rfl 103 _ _ rfl g6 (stepS r ((kt + lt) % 4294967296)).cells rfl rfl 103 (wcell .u32 8 r.list) HT4.out.h6 (info30c _) rfl (one30 _) ?_))
      go_roundw
      case rel => exact ⟨t + 1, by omega, by go_num, by rw [HN.out]; exact HT4.out.row _⟩
      case measure => simp [intOf]; omega
    · have ht64 : t = 64 := by omega
      have hT0 := hT.out
      rw [← mixL_zero _ v.list] at hT0
      have HT0 := Lib.hid hT0
      have HRt := Lib.hid (HR.out t ht64)
      clear ht64
      have hok := Lib.hid (runS_ok HV.out l t)
      clear hT hT0 HR
      generalize runS v l t = r at *
      go_wp2
      go_loopw [25] (fun iv wr => ∃ k : Nat, k ≤ 8 ∧ iv = .int .i64 k ∧ Hid (Tk w.heap.size w w.heap.size (w.heap.size + 1) g5 g6 v.list (mixL r.list v.list k) l wr)) (fun iv _ => 8 - (intOf iv).toNat)
      case atStart => exact ⟨0, by omega, rfl, HT0⟩
      case round =>
        clear HT0
        obtain ⟨k, hk, rfl, hT⟩ := hrel
        by_cases hk8 : k < 8
        · have HTD := Lib.hid hT.out.drew
          have HX := Lib.hid (mixL_set r.list v.list k hk8)
          have c6 := hT.out.h6.cell k
          have c2 := hT.out.h2.cell k
          rw [wcell_at hk8, mixL_at _ _ _ hk8, if_neg (by omega)] at c6
          rw [wcell_at hk8] at c2
          have f6 := HTD.out.h6.frozen k
          have d6 : wr.drew.cell? ⟨g6, k, none⟩ = some (.int .u32 ((r.list.getD k 0 : Nat) : Int)) := c6
          have d2 : wr.drew.cell? ⟨w.heap.size, k, none⟩ = some (.int .u32 ((v.list.getD k 0 : Nat) : Int)) := c2
          have y6 := allLt_getD (S8.list_lt hok.out) k
          have y2 := allLt_getD (S8.list_lt HV.out) k
          clear hT
          generalize r.list.getD k 0 = rk at *
          generalize v.list.getD k 0 = vk at *
          have ew : IntKind.u32.wrap ((rk : Int) + (vk : Int)) = (((rk + vk) % 4294967296 : Nat) : Int) := by rw [IntKind.wrap_u32]; omega
          go_wp2
          go_still_tail 8, (by kernel_rfl)
          change wpList _ _ _ _ _ wr.drew
          generalize wr.drew = wd at *
          go_wp2
          go_roundw
          case rel => exact ⟨k + 1, by omega, by go_num, HTD.out.cell k _ _ (HX.out _ rfl)⟩
          case measure => simp [intOf]; omega
        · have hk8' : k = 8 := by omega
          have hT8 := hT.out
          rw [hk8', HRt.out] at hT8
          have HT8 := Lib.hid hT8
          have HFF := Lib.hid (HF.out out.list)
          clear hT8 hT HF
          go_wp2_with (first
            | (refine wpList_load_row rfl 103 _ rfl g6 rfl 103 (wcell .u32 8 out.list) (0, 0) _ HT8.out.h6 Tryz.underlying103 rfl (by rw [wcell_size]; exact info30) ?_)
            | (refine wpList_store_row rfl 103 _ _ rfl (w.heap.size + 1) (wcell .u32 8 out.list) rfl rfl 103 (wcell .u32 8 []) HT8.out.h4 (by rw [wcell_size]; exact info30) (by rw [wcell_size, wcell_size]) (wcell_one _ _ _) ?_))
          exact bodyPost_ret (v := .agg (wcell .u32 8 out.list)) (results_cell_row (p := 4) (ty := 103) rfl _ _ (w.heap.size + 1) 103 _ (0, 0) _ rfl (blk_setRow HT8.out.h4) Tryz.underlying103 rfl (by rw [wcell_size]; exact info30)) rfl (HFF.out _ (by first | rfl | trivial) (below_setRow HT8.out.low (by omega) _))
end Go.Proofs.YtkbgmdabmebdhaaGreatDoor.sha
