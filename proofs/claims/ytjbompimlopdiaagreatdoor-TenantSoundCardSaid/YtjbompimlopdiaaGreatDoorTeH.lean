/- The entries by which a tenant gets a secret, and a limit: of the package and of the reference. -/
import Derived.Test.YtjbompimlopdiaaGreatDoorTeB
import Derived.Test.YtjbompimlopdiaaGreatDoorNmD
namespace Go.Proofs.YtjbompimlopdiaaGreatDoor.te
set_option linter.unusedSimpArgs false
open Go.ChangeShapes Go.WideShapes Go.ChangeAt Go.RowKit Go.Proofs.Aid
open Go.Proofs.YtjbompimlopdiaaGreatDoor.rgy (En)
open Go.Proofs.YtjbompimlopdiaaGreatDoor.name (isName)
open Go.Proofs.YtjbompimlopdiaaGreatDoor.nm (Lets num numV numR)
def setS (l : List En) (s t x : ByteArray) : En × Int := if isName t.data.toList && isSec x then rgy.setE l s (tkey t fS) x else (rgy.En.zero, 1)
def setL (l : List En) (s t f : ByteArray) (n : Int) : En × Int := if isName t.data.toList && mayN (most f) n then rgy.setE l s (tkey t f) (nm.dec n) else (rgy.En.zero, 1)
theorem lit_ne2 {f : ByteArray} {l : List UInt8} (h : f ≠ ⟨l.toArray⟩) : (l == f.toList) = false := by
  rw [beq_eq_false_iff_ne]
  intro e
  apply h
  apply ByteArray.ext; apply Array.toList_inj.1
  rw [← Lib.toList_data, ← e]
theorem most_small (f : ByteArray) : most f ≤ 1099511627776 := by
  unfold most
  repeat (first | split | omega | decide)
def rowF : Nat → ByteArray | 0 => fB | 1 => fR | 2 => fU | _ => fQ
def rowM : Nat → Int | 0 => 1099511627776 | 1 => 1048576 | 2 => 1048576 | _ => 64
def mayUp (f : ByteArray) (n : Int) : Nat → Bool | 0 => false | i + 1 => mayUp f n i || (decide (f = rowF i) && mayN (rowM i) n)
theorem mayUp_all (f : ByteArray) (n : Int) : mayUp f n 4 = mayN (most f) n := by
  have hno : mayN (-1) n = false := by
    unfold mayN
    by_cases h : 0 ≤ n
    · rw [decide_eq_false (by omega : ¬ n ≤ -1), Bool.and_false]
    · rw [decide_eq_false h, Bool.false_and]
  show ((((false || (decide (f = fB) && mayN 1099511627776 n)) || (decide (f = fR) && mayN 1048576 n)) || (decide (f = fU) && mayN 1048576 n)) || (decide (f = fQ) && mayN 64 n)) = _
  unfold most
  by_cases e0 : f = fB
  · subst e0
    rw [if_pos rfl, decide_eq_false (by decide : ¬ fB = fR), decide_eq_false (by decide : ¬ fB = fU), decide_eq_false (by decide : ¬ fB = fQ)]; simp
  rw [if_neg e0, decide_eq_false e0]
  by_cases e1 : f = fR
  · subst e1
    rw [if_pos rfl, decide_eq_false (by decide : ¬ fR = fU), decide_eq_false (by decide : ¬ fR = fQ)]; simp
  rw [if_neg e1, decide_eq_false e1]
  by_cases e2 : f = fU
  · subst e2
    rw [if_pos rfl, decide_eq_false (by decide : ¬ fU = fQ)]; simp
  rw [if_neg e2, decide_eq_false e2]
  by_cases e3 : f = fQ
  · subst e3
    rw [if_pos rfl]; simp
  rw [if_neg e3, decide_eq_false e3, hno]; simp
set_option maxRecDepth 100000 in
set_option maxHeartbeats 8000000 in
theorem setS_any (w : World) (A : Option Addr) (ca : Nat) (xs : List En) (s t x : ByteArray) (hl : xs.length ≤ 100000) (h1 : Reads w w.heap.size 4 A xs.length (xs.flatMap En.cells)) (hz : ∀ x ∈ xs, x.sz) (hs : s.size ≤ 1000000) (ht : t.size ≤ 1000000) (hx : x.size ≤ 1000000) :
    Calls Tryz.prog 15 #[.slice A xs.length ca, .string s, .string t, .string x] w fun e w' => e = .returned (.tuple #[(setS xs s t x).1.val, .int .i64 (setS xs s t x).2]) ∧ Below w.heap.size w w' := by
  have HS := Lib.hid hz
  have HL := Lib.hid (below_lit w (.cells #[.string ⟨#[]⟩, .int .i64 0, .string ⟨#[]⟩, .string ⟨#[]⟩] 38))
  have HB := Lib.hid (Blk.new w 38 #[.string ⟨#[]⟩, .int .i64 0, .string ⟨#[]⟩, .string ⟨#[]⟩])
  have H1 := Lib.hid (h1.more_below HL.out)
  have hE := Lib.hid (show setS xs s t x = if isName t.data.toList && isSec x then rgy.setE xs s (tkey t fS) x else (rgy.En.zero, 1) from rfl)
  have hks := tkey_size t fS
  have hfs : fS.size = 6 := by decide
  have hset := Lib.hid (fun w' h => rgy.set_any w' A ca xs s (tkey t fS) x hl h HS.out (by unfold maxLen; omega) (by unfold maxLen; omega) (by unfold maxLen; omega))
  have HI := Lib.hid (fun w => name.is_any t w (by unfold maxLen; omega))
  have HC := Lib.hid (fun w => sec_any x w)
  clear h1 hz hks hfs
  generalize isName t.data.toList = nb at *
  generalize isSec x = sb at *
  go_enter Tryz.func15, Tryz.ntmps15
  go_wp2_with fail
  generalize w.alloc (.cells #[.string ⟨#[]⟩, .int .i64 0, .string ⟨#[]⟩, .string ⟨#[]⟩] 38) = w0 at *
  refine (HI.out w0).mono ?_
  rintro e w1 ⟨rfl, hbq⟩
  replace HB := Lib.hid (Blk.below (Hid.out HB) hbq (Hid.out HB).lt)
  replace H1 := Lib.hid ((Hid.out H1).more_below hbq)
  replace HL := Lib.hid ((Hid.out HL).trans (hbq.mono (Hid.out HL).size))
  clear hbq
  cases nb with
  | false =>
    have hbf := HB.out
    have f0 := hbf.frozen 0
    have f1 := hbf.frozen 1
    have f2 := hbf.frozen 2
    have f3 := hbf.frozen 3
    have d0 : w1.cell? ⟨w.heap.size, 0, none⟩ = some (.string ⟨#[]⟩) := by rw [hbf.cell]; rfl
    have d1 : w1.cell? ⟨w.heap.size, 1, none⟩ = some (.int .i64 0) := by rw [hbf.cell]; rfl
    have d2 : w1.cell? ⟨w.heap.size, 2, none⟩ = some (.string ⟨#[]⟩) := by rw [hbf.cell]; rfl
    have d3 : w1.cell? ⟨w.heap.size, 3, none⟩ = some (.string ⟨#[]⟩) := by rw [hbf.cell]; rfl
    go_wp2
    exact bodyPost_ret (v := .tuple #[.agg #[.string ⟨#[]⟩, .int .i64 0, .string ⟨#[]⟩, .string ⟨#[]⟩], .int .i64 1]) (by simp [results, Tryz.results15, go_sem, d0, d1, d2, d3] <;> rfl) rfl ⟨by rw [hE.out] <;> try rfl, rgy.low4 HL.out (Nat.le_refl _) _ _ _ _⟩
  | true =>
    go_wp2_with fail
    refine (HC.out _).mono ?_
    rintro e w2 ⟨rfl, rfl⟩
    cases sb with
    | false =>
      have hbf := HB.out
      have f0 := hbf.frozen 0
      have f1 := hbf.frozen 1
      have f2 := hbf.frozen 2
      have f3 := hbf.frozen 3
      have d0 : w2.cell? ⟨w.heap.size, 0, none⟩ = some (.string ⟨#[]⟩) := by rw [hbf.cell]; rfl
      have d1 : w2.cell? ⟨w.heap.size, 1, none⟩ = some (.int .i64 0) := by rw [hbf.cell]; rfl
      have d2 : w2.cell? ⟨w.heap.size, 2, none⟩ = some (.string ⟨#[]⟩) := by rw [hbf.cell]; rfl
      have d3 : w2.cell? ⟨w.heap.size, 3, none⟩ = some (.string ⟨#[]⟩) := by rw [hbf.cell]; rfl
      go_wp2
      exact bodyPost_ret (v := .tuple #[.agg #[.string ⟨#[]⟩, .int .i64 0, .string ⟨#[]⟩, .string ⟨#[]⟩], .int .i64 1]) (by simp [results, Tryz.results15, go_sem, d0, d1, d2, d3] <;> rfl) rfl ⟨by rw [hE.out] <;> try rfl, rgy.low4 HL.out (Nat.le_refl _) _ _ _ _⟩
    | true =>
      generalize hsr : rgy.setE xs s (tkey t fS) x = sr at *
      obtain ⟨⟨kk, ⟨rn, rb, rv⟩⟩, c⟩ := sr
      have HSR := Lib.hid hsr
      clear hsr
      go_wp2_with fail
      refine (tkey_any t fS _ ht (by decide)).mono ?_
      rintro e w3 ⟨rfl, hbq⟩
      replace HB := Lib.hid (Blk.below (Hid.out HB) hbq (Hid.out HB).lt)
      replace H1 := Lib.hid ((Hid.out H1).more_below hbq)
      replace HL := Lib.hid ((Hid.out HL).trans (hbq.mono (Hid.out HL).size))
      clear hbq
      go_wp2_with fail
      refine (hset.out _ H1.out).mono ?_
      try rw [HSR.out]
      rintro e w7 ⟨rfl, hbq⟩
      replace HB := Lib.hid (Blk.below (Hid.out HB) hbq (Hid.out HB).lt)
      replace H1 := Lib.hid ((Hid.out H1).more_below hbq)
      replace HL := Lib.hid ((Hid.out HL).trans (hbq.mono (Hid.out HL).size))
      clear hbq
      have hbf := HB.out
      have f0 := hbf.frozen 0
      have f1 := hbf.frozen 1
      have f2 := hbf.frozen 2
      have f3 := hbf.frozen 3
      have d0 : w7.cell? ⟨w.heap.size, 0, none⟩ = some (.string ⟨#[]⟩) := by rw [hbf.cell]; rfl
      have d1 : w7.cell? ⟨w.heap.size, 1, none⟩ = some (.int .i64 0) := by rw [hbf.cell]; rfl
      have d2 : w7.cell? ⟨w.heap.size, 2, none⟩ = some (.string ⟨#[]⟩) := by rw [hbf.cell]; rfl
      have d3 : w7.cell? ⟨w.heap.size, 3, none⟩ = some (.string ⟨#[]⟩) := by rw [hbf.cell]; rfl
      have h4 := Lib.hid (rgy.set4 (x := .string kk) (y := .int .i64 rn) (z := .string rb) (u := .string rv) HB.out)
      have hlf := Lib.hid (rgy.low4 HL.out (Nat.le_refl _) (.string kk) (.int .i64 rn) (.string rb) (.string rv))
      go_wp2
      exact bodyPost_ret (v := .tuple #[.agg #[.string kk, .int .i64 rn, .string rb, .string rv], .int .i64 c]) (by have r0 := h4.out.cell 0; have r1 := h4.out.cell 1; have r2 := h4.out.cell 2; have r3 := h4.out.cell 3; simp [results, Tryz.results15, go_sem, r0, r1, r2, r3]) rfl ⟨by rw [hE.out] <;> try rfl, hlf.out⟩
set_option maxRecDepth 100000 in
set_option maxHeartbeats 8000000 in
theorem rsetS_any (w : World) (A : Option Addr) (ca : Nat) (xs : List En) (s t x : ByteArray) (hl : xs.length ≤ 100000) (h1 : Reads w w.heap.size 4 A xs.length (xs.flatMap En.cells)) (hz : ∀ x ∈ xs, x.sz) (hs : s.size ≤ 1000000) (ht : t.size ≤ 1000000) (hx : x.size ≤ 1000000) :
    Calls Tryz.prog 16 #[.slice A xs.length ca, .string s, .string t, .string x] w fun e w' => e = .returned (.tuple #[(setS xs s t x).1.val, .int .i64 (setS xs s t x).2]) ∧ Below w.heap.size w w' := by
  have HS := Lib.hid hz
  have HL := Lib.hid (below_lit w (.cells #[.string ⟨#[]⟩, .int .i64 0, .string ⟨#[]⟩, .string ⟨#[]⟩] 38))
  have HB := Lib.hid (Blk.new w 38 #[.string ⟨#[]⟩, .int .i64 0, .string ⟨#[]⟩, .string ⟨#[]⟩])
  have H1 := Lib.hid (h1.more_below HL.out)
  have hE := Lib.hid (show setS xs s t x = if isName t.data.toList && isSec x then rgy.setE xs s (tkey t fS) x else (rgy.En.zero, 1) from rfl)
  have hks := tkey_size t fS
  have hfs : fS.size = 6 := by decide
  have hset := Lib.hid (fun w' h => rgy.rset_any w' A ca xs s (tkey t fS) x hl h HS.out (by unfold maxLen; omega) (by unfold maxLen; omega) (by unfold maxLen; omega))
  have HI := Lib.hid (fun w => reg.rname_any t w (by unfold maxLen; omega))
  have HC := Lib.hid (fun w => rsec_any x w)
  clear h1 hz hks hfs
  generalize isName t.data.toList = nb at *
  generalize isSec x = sb at *
  go_enter Tryz.func16, Tryz.ntmps16
  go_wp2_with fail
  generalize w.alloc (.cells #[.string ⟨#[]⟩, .int .i64 0, .string ⟨#[]⟩, .string ⟨#[]⟩] 38) = w0 at *
  refine (HI.out w0).mono ?_
  rintro e w1 ⟨rfl, rfl⟩
  cases nb with
  | false =>
    have hbf := HB.out
    have f0 := hbf.frozen 0
    have f1 := hbf.frozen 1
    have f2 := hbf.frozen 2
    have f3 := hbf.frozen 3
    have d0 : w1.cell? ⟨w.heap.size, 0, none⟩ = some (.string ⟨#[]⟩) := by rw [hbf.cell]; rfl
    have d1 : w1.cell? ⟨w.heap.size, 1, none⟩ = some (.int .i64 0) := by rw [hbf.cell]; rfl
    have d2 : w1.cell? ⟨w.heap.size, 2, none⟩ = some (.string ⟨#[]⟩) := by rw [hbf.cell]; rfl
    have d3 : w1.cell? ⟨w.heap.size, 3, none⟩ = some (.string ⟨#[]⟩) := by rw [hbf.cell]; rfl
    go_wp2
    exact bodyPost_ret (v := .tuple #[.agg #[.string ⟨#[]⟩, .int .i64 0, .string ⟨#[]⟩, .string ⟨#[]⟩], .int .i64 1]) (by simp [results, Tryz.results16, go_sem, d0, d1, d2, d3] <;> rfl) rfl ⟨by rw [hE.out] <;> try rfl, rgy.low4 HL.out (Nat.le_refl _) _ _ _ _⟩
  | true =>
    go_wp2_with fail
    refine (HC.out _).mono ?_
    rintro e w2 ⟨rfl, rfl⟩
    cases sb with
    | false =>
      have hbf := HB.out
      have f0 := hbf.frozen 0
      have f1 := hbf.frozen 1
      have f2 := hbf.frozen 2
      have f3 := hbf.frozen 3
      have d0 : w2.cell? ⟨w.heap.size, 0, none⟩ = some (.string ⟨#[]⟩) := by rw [hbf.cell]; rfl
      have d1 : w2.cell? ⟨w.heap.size, 1, none⟩ = some (.int .i64 0) := by rw [hbf.cell]; rfl
      have d2 : w2.cell? ⟨w.heap.size, 2, none⟩ = some (.string ⟨#[]⟩) := by rw [hbf.cell]; rfl
      have d3 : w2.cell? ⟨w.heap.size, 3, none⟩ = some (.string ⟨#[]⟩) := by rw [hbf.cell]; rfl
      go_wp2
      exact bodyPost_ret (v := .tuple #[.agg #[.string ⟨#[]⟩, .int .i64 0, .string ⟨#[]⟩, .string ⟨#[]⟩], .int .i64 1]) (by simp [results, Tryz.results16, go_sem, d0, d1, d2, d3] <;> rfl) rfl ⟨by rw [hE.out] <;> try rfl, rgy.low4 HL.out (Nat.le_refl _) _ _ _ _⟩
    | true =>
      generalize hsr : rgy.setE xs s (tkey t fS) x = sr at *
      obtain ⟨⟨kk, ⟨rn, rb, rv⟩⟩, c⟩ := sr
      have HSR := Lib.hid hsr
      clear hsr
      go_wp2_with fail
      refine (rtkey_any t fS _ ht (by decide)).mono ?_
      rintro e w3 ⟨rfl, rfl⟩
      go_wp2_with fail
      refine (hset.out _ H1.out).mono ?_
      try rw [HSR.out]
      rintro e w7 ⟨rfl, hbq⟩
      replace HB := Lib.hid (Blk.below (Hid.out HB) hbq (Hid.out HB).lt)
      replace H1 := Lib.hid ((Hid.out H1).more_below hbq)
      replace HL := Lib.hid ((Hid.out HL).trans (hbq.mono (Hid.out HL).size))
      clear hbq
      have hbf := HB.out
      have f0 := hbf.frozen 0
      have f1 := hbf.frozen 1
      have f2 := hbf.frozen 2
      have f3 := hbf.frozen 3
      have d0 : w7.cell? ⟨w.heap.size, 0, none⟩ = some (.string ⟨#[]⟩) := by rw [hbf.cell]; rfl
      have d1 : w7.cell? ⟨w.heap.size, 1, none⟩ = some (.int .i64 0) := by rw [hbf.cell]; rfl
      have d2 : w7.cell? ⟨w.heap.size, 2, none⟩ = some (.string ⟨#[]⟩) := by rw [hbf.cell]; rfl
      have d3 : w7.cell? ⟨w.heap.size, 3, none⟩ = some (.string ⟨#[]⟩) := by rw [hbf.cell]; rfl
      have h4 := Lib.hid (rgy.set4 (x := .string kk) (y := .int .i64 rn) (z := .string rb) (u := .string rv) HB.out)
      have hlf := Lib.hid (rgy.low4 HL.out (Nat.le_refl _) (.string kk) (.int .i64 rn) (.string rb) (.string rv))
      go_wp2
      exact bodyPost_ret (v := .tuple #[.agg #[.string kk, .int .i64 rn, .string rb, .string rv], .int .i64 c]) (by have r0 := h4.out.cell 0; have r1 := h4.out.cell 1; have r2 := h4.out.cell 2; have r3 := h4.out.cell 3; simp [results, Tryz.results16, go_sem, r0, r1, r2, r3]) rfl ⟨by rw [hE.out] <;> try rfl, hlf.out⟩
set_option maxRecDepth 100000 in
set_option maxHeartbeats 8000000 in
theorem setL_any (w : World) (A : Option Addr) (ca : Nat) (xs : List En) (s t f : ByteArray) (n : Int) (hl : xs.length ≤ 100000) (h1 : Reads w w.heap.size 4 A xs.length (xs.flatMap En.cells)) (hz : ∀ x ∈ xs, x.sz) (hs : s.size ≤ 1000000) (ht : t.size ≤ 1000000) (hf : f.size ≤ 1000000) (hn : -9223372036854775808 ≤ n ∧ n ≤ 9223372036854775807) (HLt : Hid (Lets w)) :
    Calls Tryz.prog 17 #[.slice A xs.length ca, .string s, .string t, .string f, .int .i64 n] w fun e w' => e = .returned (.tuple #[(setL xs s t f n).1.val, .int .i64 (setL xs s t f n).2]) ∧ Below w.heap.size w w' := by
  have HS := Lib.hid hz
  have HL := Lib.hid (below_lit w (.cells #[.string ⟨#[]⟩, .int .i64 0, .string ⟨#[]⟩, .string ⟨#[]⟩] 38))
  have HB := Lib.hid (Blk.new w 38 #[.string ⟨#[]⟩, .int .i64 0, .string ⟨#[]⟩, .string ⟨#[]⟩])
  have H1 := Lib.hid (h1.more_below HL.out)
  have hE := Lib.hid (show setL xs s t f n = if isName t.data.toList && mayUp f n 4 then rgy.setE xs s (tkey t f) (nm.dec n) else (rgy.En.zero, 1) by rw [mayUp_all]; rfl)
  have hks := tkey_size t f
  have hdz := nm.dec_size n hn.1 hn.2
  have hset := Lib.hid (fun w' h => rgy.set_any w' A ca xs s (tkey t f) (nm.dec n) hl h HS.out (by unfold maxLen; omega) (by unfold maxLen; omega) (by unfold maxLen; omega))
  have HI := Lib.hid (fun w => name.is_any t w (by unfold maxLen; omega))
  have hUp := Lib.hid (fun i => (show mayUp f n (i + 1) = (mayUp f n i || (decide (f = rowF i) && mayN (rowM i) n)) from rfl))
  have hU0 := Lib.hid (show mayUp f n 0 = false from rfl)
  clear h1 hz hks hdz
  generalize isName t.data.toList = nb at *
  have hv := (HLt.out.next HL.out).lim
  have hgt := nm.gT
  have z0 : (w.alloc (.cells #[.string ⟨#[]⟩, .int .i64 0, .string ⟨#[]⟩, .string ⟨#[]⟩] 38)).cell? ⟨0, 0, none⟩ = some (.string fB) := by rw [World.var?_cell hgt hv 0]; rfl
  have z1 : (w.alloc (.cells #[.string ⟨#[]⟩, .int .i64 0, .string ⟨#[]⟩, .string ⟨#[]⟩] 38)).cell? ⟨0, 1, none⟩ = some (.int .i64 1099511627776) := by rw [World.var?_cell hgt hv 1]; rfl
  have z2 : (w.alloc (.cells #[.string ⟨#[]⟩, .int .i64 0, .string ⟨#[]⟩, .string ⟨#[]⟩] 38)).cell? ⟨0, 2, none⟩ = some (.int .i64 1048576) := by rw [World.var?_cell hgt hv 2]; rfl
  have z3 : (w.alloc (.cells #[.string ⟨#[]⟩, .int .i64 0, .string ⟨#[]⟩, .string ⟨#[]⟩] 38)).cell? ⟨0, 3, none⟩ = some (.string fR) := by rw [World.var?_cell hgt hv 3]; rfl
  have z4 : (w.alloc (.cells #[.string ⟨#[]⟩, .int .i64 0, .string ⟨#[]⟩, .string ⟨#[]⟩] 38)).cell? ⟨0, 4, none⟩ = some (.int .i64 1048576) := by rw [World.var?_cell hgt hv 4]; rfl
  have z5 : (w.alloc (.cells #[.string ⟨#[]⟩, .int .i64 0, .string ⟨#[]⟩, .string ⟨#[]⟩] 38)).cell? ⟨0, 5, none⟩ = some (.int .i64 8) := by rw [World.var?_cell hgt hv 5]; rfl
  have z6 : (w.alloc (.cells #[.string ⟨#[]⟩, .int .i64 0, .string ⟨#[]⟩, .string ⟨#[]⟩] 38)).cell? ⟨0, 6, none⟩ = some (.string fU) := by rw [World.var?_cell hgt hv 6]; rfl
  have z7 : (w.alloc (.cells #[.string ⟨#[]⟩, .int .i64 0, .string ⟨#[]⟩, .string ⟨#[]⟩] 38)).cell? ⟨0, 7, none⟩ = some (.int .i64 1048576) := by rw [World.var?_cell hgt hv 7]; rfl
  have z8 : (w.alloc (.cells #[.string ⟨#[]⟩, .int .i64 0, .string ⟨#[]⟩, .string ⟨#[]⟩] 38)).cell? ⟨0, 8, none⟩ = some (.int .i64 16) := by rw [World.var?_cell hgt hv 8]; rfl
  have z9 : (w.alloc (.cells #[.string ⟨#[]⟩, .int .i64 0, .string ⟨#[]⟩, .string ⟨#[]⟩] 38)).cell? ⟨0, 9, none⟩ = some (.string fQ) := by rw [World.var?_cell hgt hv 9]; rfl
  have z10 : (w.alloc (.cells #[.string ⟨#[]⟩, .int .i64 0, .string ⟨#[]⟩, .string ⟨#[]⟩] 38)).cell? ⟨0, 10, none⟩ = some (.int .i64 64) := by rw [World.var?_cell hgt hv 10]; rfl
  have z11 : (w.alloc (.cells #[.string ⟨#[]⟩, .int .i64 0, .string ⟨#[]⟩, .string ⟨#[]⟩] 38)).cell? ⟨0, 11, none⟩ = some (.int .i64 16) := by rw [World.var?_cell hgt hv 11]; rfl
  clear hv hgt
  go_enter Tryz.func17, Tryz.ntmps17
  go_wp2_with fail
  generalize w.alloc (.cells #[.string ⟨#[]⟩, .int .i64 0, .string ⟨#[]⟩, .string ⟨#[]⟩] 38) = w0 at *
  have hz0 := HL.out.size
  clear z0 z1 z2 z3 z4 z5 z6 z7 z8 z9 z10 z11
  go_loopw [12, 16] (fun mv iv wr => ∃ i : Nat, i ≤ 4 ∧ iv = .int .i64 i ∧ mv = .bool (mayUp f n i) ∧ Hid (Below w0.heap.size w0 wr)) (fun _ iv _ => 4 - (intOf iv).toNat)
  case atStart => exact ⟨0, by omega, rfl, by rw [hU0.out], Below.refl _ _⟩
  case round =>
    obtain ⟨i, hi, rfl, rfl, hq⟩ := hrel
    have hsq := hq.out.size
    by_cases hi4 : i < 4
    · have hro := Lib.hid (hUp.out i)
      generalize hb0 : mayUp f n i = b0 at *
      clear hb0
      rcases (by omega : i = 0 ∨ i = 1 ∨ i = 2 ∨ i = 3) with rfl | rfl | rfl | rfl
      · have ix : ∀ w', (Instr.index 54 (.agg #[.string fB, .int .i64 1099511627776, .int .i64 1048576, .string fR, .int .i64 1048576, .int .i64 8, .string fU, .int .i64 1048576, .int .i64 16, .string fQ, .int .i64 64, .int .i64 16]) (.int .i64 0)).run Tryz.prog w' = .ok (.agg #[.string fB, .int .i64 1099511627776, .int .i64 1048576]) w' := fun _ => by kernel_rfl
        cases b0 with
        | true =>
          go_wp2
          go_roundw
          case rel => exact ⟨1, by omega, by go_num, by rw [hro.out]; rfl, hq.out.alloc hsq _⟩
          case measure => simp [intOf]
        | false =>
          by_cases hf0 : f = fB
          case neg =>
            have hn1 := lit_ne (l := [98, 121, 116, 101, 115]) hf0
            have hn2 := lit_ne2 (l := [98, 121, 116, 101, 115]) hf0
            have hd := Lib.hid (show decide (f = rowF 0) = false from decide_eq_false hf0)
            go_wp2
            go_roundw
            case rel => exact ⟨1, by omega, by go_num, by rw [hro.out, hd.out]; rfl, hq.out.alloc hsq _⟩
            case measure => simp [intOf]
          have hd := Lib.hid (show decide (f = rowF 0) = true from decide_eq_true hf0)
          have hmm := Lib.hid (show mayN (rowM 0) n = mayN 1099511627776 n from rfl)
          subst hf0
          go_wp2_with fail
          refine (may_any fB 1099511627776 1048576 n _).mono ?_
          rintro e w2 ⟨rfl, hb⟩
          have hq2 := Lib.hid ((hq.out.alloc hsq (.cells #[.string fB, .int .i64 1099511627776, .int .i64 1048576] 53)).trans (hb.mono (by simp; omega)))
          clear hb
          generalize mayN 1099511627776 n = mb at *
          go_wp2
          go_roundw
          case rel => exact ⟨1, by omega, by go_num, by rw [hro.out, hd.out, hmm.out]; cases mb <;> rfl, hq2⟩
          case measure => simp [intOf]
      · have ix : ∀ w', (Instr.index 54 (.agg #[.string fB, .int .i64 1099511627776, .int .i64 1048576, .string fR, .int .i64 1048576, .int .i64 8, .string fU, .int .i64 1048576, .int .i64 16, .string fQ, .int .i64 64, .int .i64 16]) (.int .i64 1)).run Tryz.prog w' = .ok (.agg #[.string fR, .int .i64 1048576, .int .i64 8]) w' := fun _ => by kernel_rfl
        cases b0 with
        | true =>
          go_wp2
          go_roundw
          case rel => exact ⟨2, by omega, by go_num, by rw [hro.out]; rfl, hq.out.alloc hsq _⟩
          case measure => simp [intOf]
        | false =>
          by_cases hf1 : f = fR
          case neg =>
            have hn1 := lit_ne (l := [114, 97, 116, 101]) hf1
            have hn2 := lit_ne2 (l := [114, 97, 116, 101]) hf1
            have hd := Lib.hid (show decide (f = rowF 1) = false from decide_eq_false hf1)
            go_wp2
            go_roundw
            case rel => exact ⟨2, by omega, by go_num, by rw [hro.out, hd.out]; rfl, hq.out.alloc hsq _⟩
            case measure => simp [intOf]
          have hd := Lib.hid (show decide (f = rowF 1) = true from decide_eq_true hf1)
          have hmm := Lib.hid (show mayN (rowM 1) n = mayN 1048576 n from rfl)
          subst hf1
          go_wp2_with fail
          refine (may_any fR 1048576 8 n _).mono ?_
          rintro e w2 ⟨rfl, hb⟩
          have hq2 := Lib.hid ((hq.out.alloc hsq (.cells #[.string fR, .int .i64 1048576, .int .i64 8] 53)).trans (hb.mono (by simp; omega)))
          clear hb
          generalize mayN 1048576 n = mb at *
          go_wp2
          go_roundw
          case rel => exact ⟨2, by omega, by go_num, by rw [hro.out, hd.out, hmm.out]; cases mb <;> rfl, hq2⟩
          case measure => simp [intOf]
      · have ix : ∀ w', (Instr.index 54 (.agg #[.string fB, .int .i64 1099511627776, .int .i64 1048576, .string fR, .int .i64 1048576, .int .i64 8, .string fU, .int .i64 1048576, .int .i64 16, .string fQ, .int .i64 64, .int .i64 16]) (.int .i64 2)).run Tryz.prog w' = .ok (.agg #[.string fU, .int .i64 1048576, .int .i64 16]) w' := fun _ => by kernel_rfl
        cases b0 with
        | true =>
          go_wp2
          go_roundw
          case rel => exact ⟨3, by omega, by go_num, by rw [hro.out]; rfl, hq.out.alloc hsq _⟩
          case measure => simp [intOf]
        | false =>
          by_cases hf2 : f = fU
          case neg =>
            have hn1 := lit_ne (l := [98, 117, 114, 115, 116]) hf2
            have hn2 := lit_ne2 (l := [98, 117, 114, 115, 116]) hf2
            have hd := Lib.hid (show decide (f = rowF 2) = false from decide_eq_false hf2)
            go_wp2
            go_roundw
            case rel => exact ⟨3, by omega, by go_num, by rw [hro.out, hd.out]; rfl, hq.out.alloc hsq _⟩
            case measure => simp [intOf]
          have hd := Lib.hid (show decide (f = rowF 2) = true from decide_eq_true hf2)
          have hmm := Lib.hid (show mayN (rowM 2) n = mayN 1048576 n from rfl)
          subst hf2
          go_wp2_with fail
          refine (may_any fU 1048576 16 n _).mono ?_
          rintro e w2 ⟨rfl, hb⟩
          have hq2 := Lib.hid ((hq.out.alloc hsq (.cells #[.string fU, .int .i64 1048576, .int .i64 16] 53)).trans (hb.mono (by simp; omega)))
          clear hb
          generalize mayN 1048576 n = mb at *
          go_wp2
          go_roundw
          case rel => exact ⟨3, by omega, by go_num, by rw [hro.out, hd.out, hmm.out]; cases mb <;> rfl, hq2⟩
          case measure => simp [intOf]
      · have ix : ∀ w', (Instr.index 54 (.agg #[.string fB, .int .i64 1099511627776, .int .i64 1048576, .string fR, .int .i64 1048576, .int .i64 8, .string fU, .int .i64 1048576, .int .i64 16, .string fQ, .int .i64 64, .int .i64 16]) (.int .i64 3)).run Tryz.prog w' = .ok (.agg #[.string fQ, .int .i64 64, .int .i64 16]) w' := fun _ => by kernel_rfl
        cases b0 with
        | true =>
          go_wp2
          go_roundw
          case rel => exact ⟨4, by omega, by go_num, by rw [hro.out]; rfl, hq.out.alloc hsq _⟩
          case measure => simp [intOf]
        | false =>
          by_cases hf3 : f = fQ
          case neg =>
            have hn1 := lit_ne (l := [113, 117, 101, 117, 101]) hf3
            have hn2 := lit_ne2 (l := [113, 117, 101, 117, 101]) hf3
            have hd := Lib.hid (show decide (f = rowF 3) = false from decide_eq_false hf3)
            go_wp2
            go_roundw
            case rel => exact ⟨4, by omega, by go_num, by rw [hro.out, hd.out]; rfl, hq.out.alloc hsq _⟩
            case measure => simp [intOf]
          have hd := Lib.hid (show decide (f = rowF 3) = true from decide_eq_true hf3)
          have hmm := Lib.hid (show mayN (rowM 3) n = mayN 64 n from rfl)
          subst hf3
          go_wp2_with fail
          refine (may_any fQ 64 16 n _).mono ?_
          rintro e w2 ⟨rfl, hb⟩
          have hq2 := Lib.hid ((hq.out.alloc hsq (.cells #[.string fQ, .int .i64 64, .int .i64 16] 53)).trans (hb.mono (by simp; omega)))
          clear hb
          generalize mayN 64 n = mb at *
          go_wp2
          go_roundw
          case rel => exact ⟨4, by omega, by go_num, by rw [hro.out, hd.out, hmm.out]; cases mb <;> rfl, hq2⟩
          case measure => simp [intOf]
    · have hi5 : i = 4 := by omega
      subst hi5
      have H1 := Lib.hid (H1.out.more_below hq.out)
      have HB := Lib.hid (HB.out.below hq.out HB.out.lt)
      have HL := Lib.hid (HL.out.trans (hq.out.mono hz0))
      clear hq hUp hU0
      generalize mayUp f n 4 = mb at *
      go_wp2_with fail
      refine (HI.out _).mono ?_
      rintro e w1 ⟨rfl, hbq⟩
      replace HB := Lib.hid (Blk.below (Hid.out HB) hbq (Hid.out HB).lt)
      replace H1 := Lib.hid ((Hid.out H1).more_below hbq)
      replace HL := Lib.hid ((Hid.out HL).trans (hbq.mono (Hid.out HL).size))
      clear hbq
      cases nb with
      | false =>
        have hbf := HB.out
        have f0 := hbf.frozen 0
        have f1 := hbf.frozen 1
        have f2 := hbf.frozen 2
        have f3 := hbf.frozen 3
        have d0 : w1.cell? ⟨w.heap.size, 0, none⟩ = some (.string ⟨#[]⟩) := by rw [hbf.cell]; rfl
        have d1 : w1.cell? ⟨w.heap.size, 1, none⟩ = some (.int .i64 0) := by rw [hbf.cell]; rfl
        have d2 : w1.cell? ⟨w.heap.size, 2, none⟩ = some (.string ⟨#[]⟩) := by rw [hbf.cell]; rfl
        have d3 : w1.cell? ⟨w.heap.size, 3, none⟩ = some (.string ⟨#[]⟩) := by rw [hbf.cell]; rfl
        go_wp2
        exact bodyPost_ret (v := .tuple #[.agg #[.string ⟨#[]⟩, .int .i64 0, .string ⟨#[]⟩, .string ⟨#[]⟩], .int .i64 1]) (by simp [results, Tryz.results17, go_sem, d0, d1, d2, d3] <;> rfl) rfl ⟨by rw [hE.out] <;> try rfl, rgy.low4 HL.out (Nat.le_refl _) _ _ _ _⟩
      | true =>
        cases mb with
        | false =>
          have hbf := HB.out
          have f0 := hbf.frozen 0
          have f1 := hbf.frozen 1
          have f2 := hbf.frozen 2
          have f3 := hbf.frozen 3
          have d0 : w1.cell? ⟨w.heap.size, 0, none⟩ = some (.string ⟨#[]⟩) := by rw [hbf.cell]; rfl
          have d1 : w1.cell? ⟨w.heap.size, 1, none⟩ = some (.int .i64 0) := by rw [hbf.cell]; rfl
          have d2 : w1.cell? ⟨w.heap.size, 2, none⟩ = some (.string ⟨#[]⟩) := by rw [hbf.cell]; rfl
          have d3 : w1.cell? ⟨w.heap.size, 3, none⟩ = some (.string ⟨#[]⟩) := by rw [hbf.cell]; rfl
          go_wp2
          exact bodyPost_ret (v := .tuple #[.agg #[.string ⟨#[]⟩, .int .i64 0, .string ⟨#[]⟩, .string ⟨#[]⟩], .int .i64 1]) (by simp [results, Tryz.results17, go_sem, d0, d1, d2, d3] <;> rfl) rfl ⟨by rw [hE.out] <;> try rfl, rgy.low4 HL.out (Nat.le_refl _) _ _ _ _⟩
        | true =>
          generalize hsr : rgy.setE xs s (tkey t f) (nm.dec n) = sr at *
          obtain ⟨⟨kk, ⟨rn, rb, rv⟩⟩, c⟩ := sr
          have HSR := Lib.hid hsr
          clear hsr
          go_wp2_with fail
          refine (tkey_any t f _ ht hf).mono ?_
          rintro e w3 ⟨rfl, hbq⟩
          replace HB := Lib.hid (Blk.below (Hid.out HB) hbq (Hid.out HB).lt)
          replace H1 := Lib.hid ((Hid.out H1).more_below hbq)
          replace HL := Lib.hid ((Hid.out HL).trans (hbq.mono (Hid.out HL).size))
          clear hbq
          go_wp2_with fail
          refine (nm.dec_any n _ hn.1 hn.2 (Lib.hid (HLt.out.next HL.out))).mono ?_
          rintro e w6 ⟨rfl, hbq⟩
          replace HB := Lib.hid (Blk.below (Hid.out HB) hbq (Hid.out HB).lt)
          replace H1 := Lib.hid ((Hid.out H1).more_below hbq)
          replace HL := Lib.hid ((Hid.out HL).trans (hbq.mono (Hid.out HL).size))
          clear hbq
          go_wp2_with fail
          refine (hset.out _ H1.out).mono ?_
          try rw [HSR.out]
          rintro e w7 ⟨rfl, hbq⟩
          replace HB := Lib.hid (Blk.below (Hid.out HB) hbq (Hid.out HB).lt)
          replace H1 := Lib.hid ((Hid.out H1).more_below hbq)
          replace HL := Lib.hid ((Hid.out HL).trans (hbq.mono (Hid.out HL).size))
          clear hbq
          have hbf := HB.out
          have f0 := hbf.frozen 0
          have f1 := hbf.frozen 1
          have f2 := hbf.frozen 2
          have f3 := hbf.frozen 3
          have d0 : w7.cell? ⟨w.heap.size, 0, none⟩ = some (.string ⟨#[]⟩) := by rw [hbf.cell]; rfl
          have d1 : w7.cell? ⟨w.heap.size, 1, none⟩ = some (.int .i64 0) := by rw [hbf.cell]; rfl
          have d2 : w7.cell? ⟨w.heap.size, 2, none⟩ = some (.string ⟨#[]⟩) := by rw [hbf.cell]; rfl
          have d3 : w7.cell? ⟨w.heap.size, 3, none⟩ = some (.string ⟨#[]⟩) := by rw [hbf.cell]; rfl
          have h4 := Lib.hid (rgy.set4 (x := .string kk) (y := .int .i64 rn) (z := .string rb) (u := .string rv) HB.out)
          have hlf := Lib.hid (rgy.low4 HL.out (Nat.le_refl _) (.string kk) (.int .i64 rn) (.string rb) (.string rv))
          go_wp2
          exact bodyPost_ret (v := .tuple #[.agg #[.string kk, .int .i64 rn, .string rb, .string rv], .int .i64 c]) (by have r0 := h4.out.cell 0; have r1 := h4.out.cell 1; have r2 := h4.out.cell 2; have r3 := h4.out.cell 3; simp [results, Tryz.results17, go_sem, r0, r1, r2, r3]) rfl ⟨by rw [hE.out] <;> try rfl, hlf.out⟩
set_option maxRecDepth 100000 in
set_option maxHeartbeats 8000000 in
theorem rsetL_any (w : World) (A : Option Addr) (ca : Nat) (xs : List En) (s t f : ByteArray) (n : Int) (hl : xs.length ≤ 100000) (h1 : Reads w w.heap.size 4 A xs.length (xs.flatMap En.cells)) (hz : ∀ x ∈ xs, x.sz) (hs : s.size ≤ 1000000) (ht : t.size ≤ 1000000) (hf : f.size ≤ 1000000) (hn : -9223372036854775808 ≤ n ∧ n ≤ 9223372036854775807) :
    Calls Tryz.prog 18 #[.slice A xs.length ca, .string s, .string t, .string f, .int .i64 n] w fun e w' => e = .returned (.tuple #[(setL xs s t f n).1.val, .int .i64 (setL xs s t f n).2]) ∧ Below w.heap.size w w' := by
  have HS := Lib.hid hz
  have HL := Lib.hid (below_lit w (.cells #[.string ⟨#[]⟩, .int .i64 0, .string ⟨#[]⟩, .string ⟨#[]⟩] 38))
  have HB := Lib.hid (Blk.new w 38 #[.string ⟨#[]⟩, .int .i64 0, .string ⟨#[]⟩, .string ⟨#[]⟩])
  have H1 := Lib.hid (h1.more_below HL.out)
  have hE := Lib.hid (show setL xs s t f n = if isName t.data.toList && mayN (most f) n then rgy.setE xs s (tkey t f) (nm.dec n) else (rgy.En.zero, 1) from rfl)
  have hks := tkey_size t f
  have hdz := nm.dec_size n hn.1 hn.2
  have hset := Lib.hid (fun w' h => rgy.rset_any w' A ca xs s (tkey t f) (nm.dec n) hl h HS.out (by unfold maxLen; omega) (by unfold maxLen; omega) (by unfold maxLen; omega))
  have HI := Lib.hid (fun w => reg.rname_any t w (by unfold maxLen; omega))
  have HBd := Lib.hid (fun w => bounds_any f w)
  clear h1 hz hks hdz
  generalize isName t.data.toList = nb at *
  generalize most f = m at *
  go_enter Tryz.func18, Tryz.ntmps18
  go_wp2_with fail
  generalize w.alloc (.cells #[.string ⟨#[]⟩, .int .i64 0, .string ⟨#[]⟩, .string ⟨#[]⟩] 38) = w0 at *
  refine (HBd.out w0).mono ?_
  rintro e w1 ⟨rfl, rfl⟩
  go_wp2_with fail
  refine (HI.out _).mono ?_
  rintro e w1 ⟨rfl, rfl⟩
  cases nb with
  | false =>
    have hbf := HB.out
    have f0 := hbf.frozen 0
    have f1 := hbf.frozen 1
    have f2 := hbf.frozen 2
    have f3 := hbf.frozen 3
    have d0 : w1.cell? ⟨w.heap.size, 0, none⟩ = some (.string ⟨#[]⟩) := by rw [hbf.cell]; rfl
    have d1 : w1.cell? ⟨w.heap.size, 1, none⟩ = some (.int .i64 0) := by rw [hbf.cell]; rfl
    have d2 : w1.cell? ⟨w.heap.size, 2, none⟩ = some (.string ⟨#[]⟩) := by rw [hbf.cell]; rfl
    have d3 : w1.cell? ⟨w.heap.size, 3, none⟩ = some (.string ⟨#[]⟩) := by rw [hbf.cell]; rfl
    go_wp2
    exact bodyPost_ret (v := .tuple #[.agg #[.string ⟨#[]⟩, .int .i64 0, .string ⟨#[]⟩, .string ⟨#[]⟩], .int .i64 1]) (by simp [results, Tryz.results18, go_sem, d0, d1, d2, d3] <;> rfl) rfl ⟨by rw [hE.out] <;> try rfl, rgy.low4 HL.out (Nat.le_refl _) _ _ _ _⟩
  | true =>
    by_cases g0 : 0 ≤ n
    case neg =>
      have hE2 := Lib.hid (hE.out.trans (show (if true && mayN m n then rgy.setE xs s (tkey t f) (nm.dec n) else (rgy.En.zero, 1)) = (rgy.En.zero, 1) by unfold mayN; rw [decide_eq_false g0]; rfl))
      have hbf := HB.out
      have f0 := hbf.frozen 0
      have f1 := hbf.frozen 1
      have f2 := hbf.frozen 2
      have f3 := hbf.frozen 3
      have d0 : w1.cell? ⟨w.heap.size, 0, none⟩ = some (.string ⟨#[]⟩) := by rw [hbf.cell]; rfl
      have d1 : w1.cell? ⟨w.heap.size, 1, none⟩ = some (.int .i64 0) := by rw [hbf.cell]; rfl
      have d2 : w1.cell? ⟨w.heap.size, 2, none⟩ = some (.string ⟨#[]⟩) := by rw [hbf.cell]; rfl
      have d3 : w1.cell? ⟨w.heap.size, 3, none⟩ = some (.string ⟨#[]⟩) := by rw [hbf.cell]; rfl
      go_wp2
      exact bodyPost_ret (v := .tuple #[.agg #[.string ⟨#[]⟩, .int .i64 0, .string ⟨#[]⟩, .string ⟨#[]⟩], .int .i64 1]) (by simp [results, Tryz.results18, go_sem, d0, d1, d2, d3] <;> rfl) rfl ⟨by rw [hE2.out] <;> try rfl, rgy.low4 HL.out (Nat.le_refl _) _ _ _ _⟩
    by_cases g1 : n ≤ m
    case neg =>
      have hE2 := Lib.hid (hE.out.trans (show (if true && mayN m n then rgy.setE xs s (tkey t f) (nm.dec n) else (rgy.En.zero, 1)) = (rgy.En.zero, 1) by unfold mayN; rw [decide_eq_false g1, Bool.and_false]; rfl))
      have hbf := HB.out
      have f0 := hbf.frozen 0
      have f1 := hbf.frozen 1
      have f2 := hbf.frozen 2
      have f3 := hbf.frozen 3
      have d0 : w1.cell? ⟨w.heap.size, 0, none⟩ = some (.string ⟨#[]⟩) := by rw [hbf.cell]; rfl
      have d1 : w1.cell? ⟨w.heap.size, 1, none⟩ = some (.int .i64 0) := by rw [hbf.cell]; rfl
      have d2 : w1.cell? ⟨w.heap.size, 2, none⟩ = some (.string ⟨#[]⟩) := by rw [hbf.cell]; rfl
      have d3 : w1.cell? ⟨w.heap.size, 3, none⟩ = some (.string ⟨#[]⟩) := by rw [hbf.cell]; rfl
      go_wp2
      exact bodyPost_ret (v := .tuple #[.agg #[.string ⟨#[]⟩, .int .i64 0, .string ⟨#[]⟩, .string ⟨#[]⟩], .int .i64 1]) (by simp [results, Tryz.results18, go_sem, d0, d1, d2, d3] <;> rfl) rfl ⟨by rw [hE2.out] <;> try rfl, rgy.low4 HL.out (Nat.le_refl _) _ _ _ _⟩
    have hE2 := Lib.hid (hE.out.trans (show (if true && mayN m n then rgy.setE xs s (tkey t f) (nm.dec n) else (rgy.En.zero, 1)) = rgy.setE xs s (tkey t f) (nm.dec n) by unfold mayN; rw [decide_eq_true g0, decide_eq_true g1]; rfl))
    generalize hsr : rgy.setE xs s (tkey t f) (nm.dec n) = sr at *
    obtain ⟨⟨kk, ⟨rn, rb, rv⟩⟩, c⟩ := sr
    have HSR := Lib.hid hsr
    clear hsr
    go_wp2_with fail
    refine (rtkey_any t f _ ht hf).mono ?_
    rintro e w3 ⟨rfl, rfl⟩
    go_wp2_with fail
    refine (nm.rdec_any n _ hn.1 hn.2).mono ?_
    rintro e w6 ⟨rfl, hbq⟩
    replace HB := Lib.hid (Blk.below (Hid.out HB) hbq (Hid.out HB).lt)
    replace H1 := Lib.hid ((Hid.out H1).more_below hbq)
    replace HL := Lib.hid ((Hid.out HL).trans (hbq.mono (Hid.out HL).size))
    clear hbq
    go_wp2_with fail
    refine (hset.out _ H1.out).mono ?_
    try rw [HSR.out]
    rintro e w7 ⟨rfl, hbq⟩
    replace HB := Lib.hid (Blk.below (Hid.out HB) hbq (Hid.out HB).lt)
    replace H1 := Lib.hid ((Hid.out H1).more_below hbq)
    replace HL := Lib.hid ((Hid.out HL).trans (hbq.mono (Hid.out HL).size))
    clear hbq
    have hbf := HB.out
    have f0 := hbf.frozen 0
    have f1 := hbf.frozen 1
    have f2 := hbf.frozen 2
    have f3 := hbf.frozen 3
    have d0 : w7.cell? ⟨w.heap.size, 0, none⟩ = some (.string ⟨#[]⟩) := by rw [hbf.cell]; rfl
    have d1 : w7.cell? ⟨w.heap.size, 1, none⟩ = some (.int .i64 0) := by rw [hbf.cell]; rfl
    have d2 : w7.cell? ⟨w.heap.size, 2, none⟩ = some (.string ⟨#[]⟩) := by rw [hbf.cell]; rfl
    have d3 : w7.cell? ⟨w.heap.size, 3, none⟩ = some (.string ⟨#[]⟩) := by rw [hbf.cell]; rfl
    have h4 := Lib.hid (rgy.set4 (x := .string kk) (y := .int .i64 rn) (z := .string rb) (u := .string rv) HB.out)
    have hlf := Lib.hid (rgy.low4 HL.out (Nat.le_refl _) (.string kk) (.int .i64 rn) (.string rb) (.string rv))
    go_wp2
    exact bodyPost_ret (v := .tuple #[.agg #[.string kk, .int .i64 rn, .string rb, .string rv], .int .i64 c]) (by have r0 := h4.out.cell 0; have r1 := h4.out.cell 1; have r2 := h4.out.cell 2; have r3 := h4.out.cell 3; simp [results, Tryz.results18, go_sem, r0, r1, r2, r3]) rfl ⟨by rw [hE2.out] <;> try rfl, hlf.out⟩
end Go.Proofs.YtjbompimlopdiaaGreatDoor.te
