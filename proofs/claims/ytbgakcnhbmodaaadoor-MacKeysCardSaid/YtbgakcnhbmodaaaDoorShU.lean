/- The walks of the reference of sha: a block. -/
import Derived.Test.YtbgakcnhbmodaaaDoorShS
namespace Go.Proofs.YtbgakcnhbmodaaaDoor.shr
open Go.ChangeShapes Go.WideShapes Go.ChangeAt Go.RowKit Go.Proofs.Aid
open Go.Proofs.YtbgakcnhbmodaaaDoor.oc (be be_length bz bz_append)
open Go.Proofs.YtbgakcnhbmodaaaDoor.sha
set_option linter.unusedVariables false
def c64 (x : S8) : Array Value := #[.int .i64 x.a, .int .i64 x.b, .int .i64 x.c, .int .i64 x.d, .int .i64 x.e, .int .i64 x.f, .int .i64 x.g, .int .i64 x.h]
theorem c64_list (x : S8) : c64 x = wcell .i64 8 x.list := rfl
theorem info42 : (Tryd.prog.info? 34).map (·.size) = some 8 := by kernel_rfl
theorem info42c (x : S8) : (Tryd.prog.info? 34).map (·.size) = some (c64 x).size := info42
theorem one42 (x : S8) : (c64 x).all (·.oneCell') = true := wcell_one .i64 8 x.list
structure Bk (M : Nat) (w0 : World) (g2 g4 g6 g7 gW : Nat) (v r l : List Nat) (w' : World) : Prop where
  h2 : Blk w' g2 34 (wcell .i64 8 v)
  h4 : Blk w' g4 34 (wcell .i64 8 [])
  h6 : Blk w' g6 51 (wcell .i64 64 kTab)
  h7 : Blk w' g7 34 (wcell .i64 8 r)
  hW : ∀ i, i < 64 → w'.cell? ⟨gW, i, none⟩ = some (.int .i64 ((l.getD i 0 : Nat) : Int))
  n2 : g2 ≠ g7
  n4 : g4 ≠ g7
  n6 : g6 ≠ g7
  nW : gW ≠ g7
  m2 : M ≤ g2
  m4 : M ≤ g4
  m7 : M ≤ g7
  low : Below M w0 w'
section
variable {M : Nat} {w0 w1 w2 : World} {g2 g4 g6 g7 gW : Nat} {v r l : List Nat}
theorem Bk.drewN (h : Bk M w0 g2 g4 g6 g7 gW v r l w1) (n : Nat) : Bk M w0 g2 g4 g6 g7 gW v r l (w1.drewN n) :=
  ⟨h.h2.drewN n, h.h4.drewN n, h.h6.drewN n, h.h7.drewN n, h.hW, h.n2, h.n4, h.n6, h.nW, h.m2, h.m4, h.m7, below_drewN h.low n⟩
theorem Bk.drew (h : Bk M w0 g2 g4 g6 g7 gW v r l w1) : Bk M w0 g2 g4 g6 g7 gW v r l w1.drew :=
  ⟨h.h2.drew, h.h4.drew, h.h6.drew, h.h7.drew, h.hW, h.n2, h.n4, h.n6, h.nW, h.m2, h.m4, h.m7, h.low.drew⟩
theorem cell_setRow (w : World) {g i : Nat} (cs : Array Value) (o : Nat) (hi : i ≠ g) : (w.setRow g cs).cell? ⟨i, o, none⟩ = w.cell? ⟨i, o, none⟩ := by
  apply World.cell?_of_block
  simp only [World.setRow, Array.getElem?_modify]
  rw [if_neg (fun e => hi e.symm)]
theorem Bk.row (h : Bk M w0 g2 g4 g6 g7 gW v r l w1) (r' : List Nat) : Bk M w0 g2 g4 g6 g7 gW v r' l (w1.setRow g7 (wcell .i64 8 r')) :=
  ⟨blk_setRow_far h.h2 (Ne.symm h.n2), blk_setRow_far h.h4 (Ne.symm h.n4), blk_setRow_far h.h6 (Ne.symm h.n6), blk_setRow h.h7, fun i hi => (cell_setRow w1 _ i h.nW).trans (h.hW i hi), h.n2, h.n4, h.n6, h.nW, h.m2, h.m4, h.m7, below_setRow h.low h.m7 _⟩
theorem Bk.cell (h : Bk M w0 g2 g4 g6 g7 gW v r l w1) (k : Nat) (u : Value) (r' : List Nat) (hr : (wcell .i64 8 r).setIfInBounds k u = wcell .i64 8 r') : Bk M w0 g2 g4 g6 g7 gW v r' l (w1.setCell ⟨g7, k, none⟩ u) :=
  ⟨h.h2.far h.n2 u, h.h4.far h.n4 u, h.h6.far h.n6 u, by rw [← hr]; exact h.h7.set_ k u, fun i hi => (World.cell?_setCell_other _ _ _ _ (fun e => h.nW (by injection e with e1 e2; exact e1.symm))).trans (h.hW i hi), h.n2, h.n4, h.n6, h.nW, h.m2, h.m4, h.m7, h.low.setCell (p := ⟨g7, k, none⟩) h.m7 u⟩
end
theorem mixL64_set (r v : List Nat) (k : Nat) (hk : k < 8) (n : Nat) (hn : n = (r.getD k 0 + v.getD k 0) % 4294967296) : (wcell .i64 8 (mixL r v k)).setIfInBounds k (.int .i64 (n : Int)) = wcell .i64 8 (mixL r v (k + 1)) := by
  subst hn
  refine wcell_set .i64 8 _ _ k _ ?_ fun j hj => ?_
  · rw [mixL_at _ _ _ hk, if_pos (by omega)]
  · by_cases h8 : j < 8
    · rw [mixL_at _ _ _ h8, mixL_at _ _ _ h8]
      by_cases h1 : j < k
      · rw [if_pos h1, if_pos (by omega)]
      · rw [if_neg h1, if_neg (by omega)]
    · rw [mixL_out _ _ _ h8, mixL_out _ _ _ h8]
theorem not_low {e : Nat} (h : e < 4294967296) : bits BinOp.xor IntKind.i64 (if IntKind.i64.signed = true then -1 else 9223372036854775807) (e : Int) % 4294967296 = ((e ^^^ 4294967295 : Nat) : Int) := by
  rw [show (if IntKind.i64.signed = true then (-1 : Int) else 9223372036854775807) = -1 from rfl]
  show IntKind.i64.wrap ((BitVec.ofInt 64 (-1) ^^^ BitVec.ofInt 64 (e : Int)).toNat : Int) % 4294967296 = _
  rw [BitVec.toNat_xor, ofInt_i64 e (by omega), show (BitVec.ofInt 64 (-1)).toNat = 18446744073709551615 by decide, IntKind.wrap_i64]
  have h1 : (18446744073709551615 ^^^ e) % 4294967296 = 4294967295 ^^^ e := by
    have := Nat.xor_mod_two_pow (a := 18446744073709551615) (b := e) (n := 32)
    rw [show (2 : Nat) ^ 32 = 4294967296 from rfl, Nat.mod_eq_of_lt h] at this
    exact this
  rw [Nat.xor_comm e, ← h1]
  omega
def Blocked (x : S8) (w : World) (e : Ending) (w' : World) : Prop := e = .returned (.agg (c64 x)) ∧ Below w.heap.size w w'
set_option maxRecDepth 100000 in
set_option maxHeartbeats 8000000 in
theorem block_any (v : S8) (hv : v.ok) (s : ByteArray) (w : World) (hs : s.size = 64) :
    Calls Tryd.prog 17 #[.agg (c64 v), .string s] w (Blocked (blockS v s.data.toList) w) := by
  have hz := zero58
  have HZ := Lib.hid (show (wcell .i64 64 []).size = 64 from wcell_size _ _ _)
  generalize wcell .i64 64 [] = Z0 at *
  have HV := Lib.hid hv
  have HS := Lib.hid hs
  clear hs hv
  simp only [c64]
  go_enter Tryd.func17, Tryd.ntmps17
  go_wp2_with fail
  have W0 : Hid (Blk ((w.alloc (.cells (c64 v) 34)).alloc (.cells (wcell .i64 8 []) 34)) w.heap.size 34 (wcell .i64 8 v.list) ∧ Blk ((w.alloc (.cells (c64 v) 34)).alloc (.cells (wcell .i64 8 []) 34)) (w.heap.size + 1) 34 (wcell .i64 8 []) ∧ Below w.heap.size w ((w.alloc (.cells (c64 v) 34)).alloc (.cells (wcell .i64 8 []) 34)) ∧ ((w.alloc (.cells (c64 v) 34)).alloc (.cells (wcell .i64 8 []) 34)).heap.size = w.heap.size + 2) := by
    refine ⟨(Blk.new w _ _).alloc _, ?_, below_lit2 w _ _, by simp⟩
    have := Blk.new (w.alloc (.cells (c64 v) 34)) 34 (wcell .i64 8 [])
    rw [World.size_alloc] at this
    exact this
  change Calls Tryd.prog 24 _ ((w.alloc (.cells (c64 v) 34)).alloc (.cells (wcell .i64 8 []) 34)) _
  generalize (w.alloc (.cells (c64 v) 34)).alloc (.cells (wcell .i64 8 []) 34) = wa at *
  refine (words_any s wa HS.out).mono ?_
  rintro e w1 ⟨vW, rfl, hrow, hb1⟩
  have HLEN : Hid ((sched s.data.toList).length = 64) := by unfold Hid; rw [sched, schedN_length, words16_length]
  have HSL := Lib.hid (sched_lt s.data.toList)
  have HF : Hid (∀ r w', r = (blockS v s.data.toList).list → Below w.heap.size w w' → Blocked (blockS v s.data.toList) w (.returned (.agg (wcell .i64 8 r))) w') := fun r w' e h => by rw [e]; exact ⟨rfl, h⟩
  have HR : Hid (∀ t, t = 64 → mixL (runS v (sched s.data.toList) t).list v.list 8 = (blockS v s.data.toList).list) := fun t h => by rw [h]; exact mixL_all _ _
  generalize blockS v s.data.toList = out at *
  generalize sched s.data.toList = l at *
  obtain ⟨gW, cap, hvW, hbg, hgl⟩ := World.ownsRow.form hrow (by rw [HLEN.out]; decide)
  subst hvW
  rw [HLEN.out] at hrow ⊢
  have HRW := Lib.hid (fun i (hi : i < 64) => show w1.cell? ⟨gW, i, none⟩ = some (.int .i64 ((l.getD i 0 : Nat) : Int)) from by
    rw [Go.Proofs.YtbgakcnhbmodaaaDoor.sha.getD_in (by rw [HLEN.out]; exact hi)]
    exact (Row1.cell hrow (i := i) (by rw [HLEN.out]; exact hi)).1)
  have HB1 := Lib.hid hb1
  clear hrow hb1
  go_wp2_with fail
  refine (constants_any w1).mono ?_
  rintro e w2 ⟨rfl, hb2⟩
  have HB2 := Lib.hid hb2
  clear hb2
  have hsz := wcell_size .i64 64 kTab
  have HONE := Lib.hid (wcell_one .i64 64 kTab)
  have HI : Hid ((Tryd.prog.info? 51).map (·.size) = some (wcell .i64 64 kTab).size) := by unfold Hid; rw [hsz]; exact info58
  have HSZ := Lib.hid hsz
  clear hsz
  have HW : Hid (Blk (w2.alloc (.cells Z0 51)) w2.heap.size 51 Z0) := Blk.new w2 _ _
  obtain ⟨A2, A4, A0, AZ⟩ := W0.out
  have z1 := HB1.out.size
  have z2 := HB2.out.size
  have hkT : Hid (wcell .i64 64 kTab = wcell .i64 64 kTab) := rfl
  generalize hcs : wcell .i64 64 kTab = cs at *
  have HCS := Lib.hid hcs
  clear hcs
  have hA : Below wa.heap.size wa w2 := HB1.out.trans (HB2.out.mono z1)
  have B2 : Hid (Blk ((w2.alloc (.cells Z0 51)).setRow w2.heap.size cs) w.heap.size 34 (wcell .i64 8 v.list)) := blk_setRow_far ((A2.below hA A2.lt).alloc _) (by omega)
  have B4 : Hid (Blk ((w2.alloc (.cells Z0 51)).setRow w2.heap.size cs) (w.heap.size + 1) 34 (wcell .i64 8 [])) := blk_setRow_far ((A4.below hA A4.lt).alloc _) (by omega)
  have B6 : Hid (Blk ((w2.alloc (.cells Z0 51)).setRow w2.heap.size cs) w2.heap.size 51 cs) := blk_setRow HW.out
  have BW : Hid (∀ i, i < 64 → ((w2.alloc (.cells Z0 51)).setRow w2.heap.size cs).cell? ⟨gW, i, none⟩ = some (.int .i64 ((l.getD i 0 : Nat) : Int))) := fun i hi => by
    rw [cell_setRow _ _ _ (by omega), World.cell?_alloc_lt _ _ _ (by show gW < w2.heap.size; omega)]
    exact (HB2.out.cell (p := ⟨gW, i, none⟩) hgl).trans (HRW.out i hi)
  have BL : Hid (Below w.heap.size w ((w2.alloc (.cells Z0 51)).setRow w2.heap.size cs)) := below_setRow ((A0.trans (hA.mono (by omega))).alloc (by omega) _) (by omega) _
  have BZ : Hid (((w2.alloc (.cells Z0 51)).setRow w2.heap.size cs).heap.size = w2.heap.size + 1) := by simp [World.setRow, Hid]
  have z3 : w.heap.size + 2 ≤ w2.heap.size := by omega
  have z4 : gW < w2.heap.size := by omega
  clear A2 A4 A0 AZ z1 z2 W0 HB1 HB2 HRW hA hkT
  go_wp2_with (first
    | (refine wpList_store_row rfl 51 _ _ rfl w2.heap.size cs rfl rfl 51 Z0 HW.out HI.out (HZ.out.trans HSZ.out.symm) HONE.out ?_; generalize (w2.alloc (.cells Z0 51)).setRow w2.heap.size cs = w3 at *)
    | (refine wpList_load_row rfl 34 _ rfl w.heap.size rfl 34 (c64 v) (0, 0) _ B2.out Tryd.underlying34 rfl (info42c v) ?_; simp only [c64]))
  have HT : Hid (Bk w.heap.size w w.heap.size (w.heap.size + 1) w2.heap.size w3.heap.size gW v.list (runS v l 0).list l (w3.alloc (.cells (c64 v) 34))) :=
    ⟨B2.out.alloc _, B4.out.alloc _, by rw [HCS.out]; exact B6.out.alloc _, Blk.new w3 _ _, fun i hi => by rw [World.cell?_alloc_lt _ _ _ (by show gW < w3.heap.size; have := BZ.out; omega)]; exact BW.out i hi, by have := BZ.out; omega, by have := BZ.out; omega, by have := BZ.out; omega, by have := BZ.out; omega, Nat.le_refl _, by omega, by have := BZ.out; omega, BL.out.alloc (by have := BZ.out; omega) _⟩
  simp only [c64] at HT
  clear B2 B4 B6 BW BL HW HONE HI HSZ HCS
  generalize w3.alloc (.cells #[.int .i64 (v.a : Int), .int .i64 v.b, .int .i64 v.c, .int .i64 v.d, .int .i64 v.e, .int .i64 v.f, .int .i64 v.g, .int .i64 v.h] 34) = w4 at *
  generalize w3.heap.size = g7 at *
  generalize w2.heap.size = g6 at *
  clear z3 z4 BZ hbg hgl
  generalize (#[.int .i64 (v.a : Int), .int .i64 v.b, .int .i64 v.c, .int .i64 v.d, .int .i64 v.e, .int .i64 v.f, .int .i64 v.g, .int .i64 v.h] : Array Value) = vc at *
  go_loopw [8] (fun iv wr => ∃ t : Nat, t ≤ 64 ∧ iv = .int .i64 t ∧ Hid (Bk w.heap.size w w.heap.size (w.heap.size + 1) g6 g7 gW v.list (runS v l t).list l wr)) (fun iv _ => 64 - (intOf iv).toNat)
  case atStart => exact ⟨0, by omega, rfl, HT⟩
  case round =>
    clear HT hz
    obtain ⟨t, ht, rfl, hT⟩ := hrel
    by_cases hlt : t < 64
    · have hok := Lib.hid (runS_ok HV.out l t)
      have HN := Lib.hid (show runS v l (t + 1) = stepS (runS v l t) ((kTab.getD t 0 + l.getD t 0) % 4294967296) from rfl)
      generalize runS v l t = r at *
      have HK : Hid (∀ w', Bk w.heap.size w w.heap.size (w.heap.size + 1) g6 g7 gW v.list r.list l w' → w'.cell? ⟨g6, t, none⟩ = some (.int .i64 ((kTab.getD t 0 : Nat) : Int)) ∧ w'.cell? ⟨gW, t, none⟩ = some (.int .i64 ((l.getD t 0 : Nat) : Int)) ∧ (∀ j, w'.cell? ⟨g7, j, none⟩ = (c64 r)[j]?)) := fun w' h => by
        refine ⟨?_, h.hW t hlt, fun j => h.h7.cell j⟩
        rw [h.h6.cell, wcell_at hlt]
      have ykt := kTab_lt t
      have ylt := allLt_getD HSL.out t
      generalize kTab.getD t 0 = kt at *
      generalize l.getD t 0 = lt at *
      obtain ⟨a, b, c, d, e, f, g, i⟩ := r
      obtain ⟨ha, hb, hc, hd, he, hf, hg, hh⟩ := hok.out
      simp only at ha hb hc hd he hf hg hh
      clear hok
      have q := HK.out wr hT.out
      have p0 := q.2.2 0
      have p4 := q.2.2 4
      simp only [c64, List.getElem?_toArray, List.getElem?_cons_zero, List.getElem?_cons_succ] at p0 p4
      clear q
      go_wp2
      go_quiet (fail)
      clear p0 p4
      have hT1 := Lib.hid (hT.out.drewN nq)
      clear hT
      generalize wr.drewN nq = wa at *
      have q := HK.out wa hT1.out
      have k1 := q.1
      have k2 := q.2.1
      have p5 := q.2.2 5
      have p6 := q.2.2 6
      have p7 := q.2.2 7
      simp only [c64, List.getElem?_toArray, List.getElem?_cons_zero, List.getElem?_cons_succ] at p5 p6 p7
      clear q
      have hr := rotr_lt
      have e1 := i64_xor_nat (rotr e 6) (rotr e 11) (hr _ _) (hr _ _)
      have e2 := i64_xor_nat (rotr e 6 ^^^ rotr e 11) (rotr e 25) (xor_lt (hr _ _) (hr _ _)) (hr _ _)
      have e3 := i64_and_nat e f he hf
      have e4 := not_low he
      have e5 := i64_and_nat (e ^^^ 4294967295) g (not_lt he) hg
      have e6 := i64_xor_nat (e &&& f) ((e ^^^ 4294967295) &&& g) (and_lt _ he) (and_lt _ (not_lt he))
      have H1 := Lib.hid (show rotr e 6 ^^^ rotr e 11 ^^^ rotr e 25 = bs1 e from rfl)
      have H2 := Lib.hid (show (e &&& f) ^^^ ((e ^^^ 4294967295) &&& g) = chf e f g from rfl)
      have b1 := bs1_lt e
      have b2 := chf_lt g he (f := f)
      rw [H1.out] at e2
      rw [H2.out] at e6
      have HST := Lib.hid (show stepS ⟨a, b, c, d, e, f, g, i⟩ ((kt + lt) % 4294967296) = ⟨(i + bs1 e + chf e f g + (kt + lt) % 4294967296 + (bs0 a + maj a b c)) % 4294967296, a, b, c, (d + (i + bs1 e + chf e f g + (kt + lt) % 4294967296)) % 4294967296, e, f, g⟩ from rfl)
      generalize bs1 e = B1 at *
      generalize chf e f g = CH at *
      have s1 : IntKind.i64.wrap ((i : Int) + (B1 : Int)) = (i : Int) + B1 := IntWalk.i64_in _ (by omega)
      have s2 : IntKind.i64.wrap ((i : Int) + (B1 : Int) + (CH : Int)) = (i : Int) + B1 + CH := IntWalk.i64_in _ (by omega)
      have s3 : IntKind.i64.wrap ((i : Int) + (B1 : Int) + (CH : Int) + (kt : Int)) = (i : Int) + B1 + CH + kt := IntWalk.i64_in _ (by omega)
      have s4 : IntKind.i64.wrap ((i : Int) + (B1 : Int) + (CH : Int) + (kt : Int) + (lt : Int)) = (i : Int) + B1 + CH + kt + lt := IntWalk.i64_in _ (by omega)
      go_wp2
      go_quiet ((first
        | (go_at_call 26; exact Calls.quiet_of (turn_any _ _ _ (by assumption) (by decide) (by decide)))
        | (go_at_call 27; exact Calls.quiet_of_same ((low_any _ _).mono fun _ _ h => ⟨h.1, h.2.symm⟩))))
      clear k1 k2 p5 p6 p7 e1 e2 e3 e4 e5 e6 s1 s2 s3 s4 H1 H2
      have hT2 := Lib.hid (hT1.out.drewN nq)
      clear hT1
      generalize wa.drewN nq = wb at *
      have q := HK.out wb hT2.out
      have p1 := q.2.2 1
      have p2 := q.2.2 2
      simp only [c64, List.getElem?_toArray, List.getElem?_cons_zero, List.getElem?_cons_succ] at p1 p2
      clear q
      have e7 := i64_xor_nat (rotr a 2) (rotr a 13) (hr _ _) (hr _ _)
      have e8 := i64_xor_nat (rotr a 2 ^^^ rotr a 13) (rotr a 22) (xor_lt (hr _ _) (hr _ _)) (hr _ _)
      have e9 := i64_and_nat a b ha hb
      have e10 := i64_and_nat a c ha hc
      have e11 := i64_xor_nat (a &&& b) (a &&& c) (and_lt _ ha) (and_lt _ ha)
      have e12 := i64_and_nat b c hb hc
      have e13 := i64_xor_nat ((a &&& b) ^^^ (a &&& c)) (b &&& c) (xor_lt (and_lt _ ha) (and_lt _ ha)) (and_lt _ hb)
      have H3 := Lib.hid (show rotr a 2 ^^^ rotr a 13 ^^^ rotr a 22 = bs0 a from rfl)
      have H4 := Lib.hid (show (a &&& b) ^^^ (a &&& c) ^^^ (b &&& c) = maj a b c from rfl)
      have b3 := bs0_lt a
      have b4 := maj_lt c ha hb
      rw [H3.out] at e8
      rw [H4.out] at e13
      generalize bs0 a = B0 at *
      generalize maj a b c = MJ at *
      have s5 : IntKind.i64.wrap ((B0 : Int) + (MJ : Int)) = (B0 : Int) + MJ := IntWalk.i64_in _ (by omega)
      go_wp2
      go_quiet ((first
        | (go_at_call 26; exact Calls.quiet_of (turn_any _ _ _ (by assumption) (by decide) (by decide)))
        | (go_at_call 27; exact Calls.quiet_of_same ((low_any _ _).mono fun _ _ h => ⟨h.1, h.2.symm⟩))))
      clear p1 p2 e7 e8 e9 e10 e11 e12 e13 s5 H3 H4 hr
      have hT3 := Lib.hid (hT2.out.drewN nq)
      clear hT2
      generalize wb.drewN nq = wc at *
      have hT4 := Lib.hid hT3.out.drew
      have q := HK.out wc hT3.out
      have p0 := q.2.2 0
      have p1 := q.2.2 1
      have p2 := q.2.2 2
      have p3 := q.2.2 3
      have p4 := q.2.2 4
      have p5 := q.2.2 5
      have p6 := q.2.2 6
      simp only [c64, List.getElem?_toArray, List.getElem?_cons_zero, List.getElem?_cons_succ] at p0 p1 p2 p3 p4 p5 p6
      clear q hT3 HK
      have s6 : IntKind.i64.wrap ((i : Int) + B1 + CH + kt + lt + ((B0 : Int) + MJ)) = (i : Int) + B1 + CH + kt + lt + ((B0 : Int) + MJ) := IntWalk.i64_in _ (by omega)
      have s7 : IntKind.i64.wrap ((d : Int) + ((i : Int) + B1 + CH + kt + lt)) = (d : Int) + ((i : Int) + B1 + CH + kt + lt) := IntWalk.i64_in _ (by omega)
      have hL := fun (x : Int) => (low_any x wc.drew).mono (fun e w'' (h : e = .returned (.int .i64 (x % 4294967296)) ∧ wc.drew = w'') => And.intro h.1 h.2.symm)
      go_wp2
      refine wp_region_still_tail 22 (by kernel_rfl) (by kernel_rfl) ?_
      simp only [List.take_succ_cons, List.take_zero, List.drop_succ_cons, List.drop_zero]
      repeat (first | still_step | still_call (hL _))
      try refine wpStill_nil ?_
      change wpList _ _ _ _ _ wc.drew
      have EQ : (#[.int .i64 (((i : Int) + B1 + CH + kt + lt + ((B0 : Int) + MJ)) % 4294967296), .int .i64 (a : Int), .int .i64 (b : Int), .int .i64 (c : Int), .int .i64 (((d : Int) + ((i : Int) + B1 + CH + kt + lt)) % 4294967296), .int .i64 (e : Int), .int .i64 (f : Int), .int .i64 (g : Int)] : Array Value) = wcell .i64 8 (stepS ⟨a, b, c, d, e, f, g, i⟩ ((kt + lt) % 4294967296)).list := by
        rw [HST.out, ← c64_list]
        have x1 : ((i : Int) + B1 + CH + kt + lt + ((B0 : Int) + MJ)) % 4294967296 = (((i + B1 + CH + (kt + lt) % 4294967296 + (B0 + MJ)) % 4294967296 : Nat) : Int) := by omega
        have x2 : ((d : Int) + ((i : Int) + B1 + CH + kt + lt)) % 4294967296 = (((d + (i + B1 + CH + (kt + lt) % 4294967296)) % 4294967296 : Nat) : Int) := by omega
        rw [x1, x2]
        rfl
      have HEQ := Lib.hid EQ
      clear EQ hL s6 s7 p0 p1 p2 p3 p4 p5 p6 HST
      generalize wc.drew = wd at *
      refine wpList_store_row rfl 34 _ _ rfl g7 (#[.int .i64 (((i : Int) + B1 + CH + kt + lt + ((B0 : Int) + MJ)) % 4294967296), .int .i64 (a : Int), .int .i64 (b : Int), .int .i64 (c : Int), .int .i64 (((d : Int) + ((i : Int) + B1 + CH + kt + lt)) % 4294967296), .int .i64 (e : Int), .int .i64 (f : Int), .int .i64 (g : Int)] : Array Value) rfl rfl 34 _ hT4.out.h7 info42 (wcell_size _ _ _) (by rw [HEQ.out]; exact wcell_one _ _ _) ?_
      go_wp2
      go_roundw
      case rel => exact ⟨t + 1, by omega, by go_num, by rw [HN.out, HEQ.out]; exact hT4.out.row _⟩
      case measure => simp [intOf]; omega
    · have ht64 : t = 64 := by omega
      have hT0 := hT.out
      rw [← mixL_zero _ v.list] at hT0
      have HT0 := Lib.hid hT0
      have HRt := Lib.hid (HR.out t ht64)
      have hok := Lib.hid (runS_ok HV.out l t)
      clear ht64 hT hT0 HR
      generalize runS v l t = r at *
      go_wp2
      go_loopw [13] (fun iv wr => ∃ k : Nat, k ≤ 8 ∧ iv = .int .i64 k ∧ Hid (Bk w.heap.size w w.heap.size (w.heap.size + 1) g6 g7 gW v.list (mixL r.list v.list k) l wr)) (fun iv _ => 8 - (intOf iv).toNat)
      case atStart => exact ⟨0, by omega, rfl, HT0⟩
      case round =>
        clear HT0
        obtain ⟨k, hk, rfl, hT⟩ := hrel
        by_cases hk8 : k < 8
        · have HTD := Lib.hid hT.out.drew
          have HX := Lib.hid (mixL64_set r.list v.list k hk8)
          have c6 := hT.out.h7.cell k
          have c2 := hT.out.h2.cell k
          rw [wcell_at hk8, mixL_at _ _ _ hk8, if_neg (by omega)] at c6
          rw [wcell_at hk8] at c2
          have f6 := HTD.out.h7.frozen k
          have d6 : wr.drew.cell? ⟨g7, k, none⟩ = some (.int .i64 ((r.list.getD k 0 : Nat) : Int)) := c6
          have d2 : wr.drew.cell? ⟨w.heap.size, k, none⟩ = some (.int .i64 ((v.list.getD k 0 : Nat) : Int)) := c2
          have y6 := allLt_getD (S8.list_lt hok.out) k
          have y2 := allLt_getD (S8.list_lt HV.out) k
          clear hT
          generalize r.list.getD k 0 = rk at *
          generalize v.list.getD k 0 = vk at *
          have ew : IntKind.i64.wrap ((rk : Int) + (vk : Int)) = (rk : Int) + vk := IntWalk.i64_in _ (by omega)
          have hL := fun (x : Int) => (low_any x wr.drew).mono (fun e w'' (h : e = .returned (.int .i64 (x % 4294967296)) ∧ wr.drew = w'') => And.intro h.1 h.2.symm)
          go_wp2
          refine wp_region_still_tail 10 (by kernel_rfl) (by kernel_rfl) ?_
          simp only [List.take_succ_cons, List.take_zero, List.drop_succ_cons, List.drop_zero]
          repeat (first | still_step | still_call (hL _))
          try refine wpStill_nil ?_
          change wpList _ _ _ _ _ wr.drew
          have HX2 : Hid (Bk w.heap.size w w.heap.size (w.heap.size + 1) g6 g7 gW v.list (mixL r.list v.list (k + 1)) l (wr.drew.setCell ⟨g7, k, none⟩ (.int .i64 (((rk : Int) + vk) % 4294967296)))) := by
            have e : ((rk : Int) + vk) % 4294967296 = (((rk + vk) % 4294967296 : Nat) : Int) := by omega
            rw [e]
            exact HTD.out.cell k _ _ (HX.out _ rfl)
          clear hL ew HX HTD c6 c2
          generalize wr.drew = wd at *
          go_wp2
          go_roundw
          case rel => exact ⟨k + 1, by omega, by go_num, HX2⟩
          case measure => simp [intOf]; omega
        · have hk8' : k = 8 := by omega
          have hT8 := hT.out
          rw [hk8', HRt.out] at hT8
          have HT8 := Lib.hid hT8
          clear hT8 hT hk8'
          go_wp2_with (first
            | (refine wpList_load_row rfl 34 _ rfl g7 rfl 34 (wcell .i64 8 out.list) (0, 0) _ HT8.out.h7 Tryd.underlying34 rfl (by rw [wcell_size]; exact info42) ?_)
            | (refine wpList_store_row rfl 34 _ _ rfl (w.heap.size + 1) (wcell .i64 8 out.list) rfl rfl 34 (wcell .i64 8 []) HT8.out.h4 (by rw [wcell_size]; exact info42) (by rw [wcell_size, wcell_size]) (wcell_one _ _ _) ?_))
          exact bodyPost_ret (v := .agg (wcell .i64 8 out.list)) (results_cell_row (p := 4) (ty := 34) rfl _ _ (w.heap.size + 1) 34 _ (0, 0) _ rfl (blk_setRow HT8.out.h4) Tryd.underlying34 rfl (by rw [wcell_size]; exact info42)) rfl (HF.out _ _ (by first | rfl | trivial) (below_setRow HT8.out.low (by omega) _))
end Go.Proofs.YtbgakcnhbmodaaaDoor.shr
