/- What a limit of a tenant is; its secret: the package's functions and the reference's. -/
import Derived.Test.YtjbompimlopdiaaGreatDoorTeA
import Derived.Test.YtjbompimlopdiaaGreatDoorNmN
import Derived.Test.YtjbompimlopdiaaGreatDoorKn
namespace Go.Proofs.YtjbompimlopdiaaGreatDoor.te
set_option linter.unusedSimpArgs false
open Go.ChangeShapes Go.WideShapes Go.ChangeAt Go.RowKit Go.Proofs.Aid
open Go.Proofs.YtjbompimlopdiaaGreatDoor.rgy (En)
open Go.Proofs.YtjbompimlopdiaaGreatDoor.name (isName)
open Go.Proofs.YtjbompimlopdiaaGreatDoor.nm (Lets num numV numR)
/-- What a limit has; else what it has usually. -/
def limV (l : List En) (t f : ByteArray) (m u : Int) : Int := if (num (rgy.get l (tkey t f)).value).isSome && mayN m (numV (rgy.get l (tkey t f)).value) then numV (rgy.get l (tkey t f)).value else u
def secV (l : List En) (t : ByteArray) : ByteArray := (rgy.get l (tkey t fS)).value
def isT (l : List En) (t : ByteArray) : Bool := isName t.data.toList && isSec (secV l t)
/-- The values of registers are short. -/
def short (l : List En) : Prop := ∀ x ∈ l, x.reg.value.size ≤ 300
theorem get_short {l : List En} (h : short l) (k : ByteArray) : (rgy.get l k).value.size ≤ 300 := by
  unfold rgy.get rgy.look
  cases e : l.find? (fun e => decide (e.key = k)) with
  | none => exact Nat.zero_le _
  | some x => exact h x (List.mem_of_find?_eq_some e)
set_option maxRecDepth 100000 in
set_option maxHeartbeats 8000000 in
theorem of_any (w : World) (A : Option Addr) (ca : Nat) (xs : List En) (t f : ByteArray) (m u : Int) (hl : xs.length ≤ 100000) (h1 : Reads w w.heap.size 4 A xs.length (xs.flatMap En.cells)) (hsh : short xs) (ht : t.size ≤ 1000000) (hf : f.size ≤ 1000000) (HLt : Hid (Lets w)) :
    Calls Tryz.prog 24 #[.agg #[.string f, .int .i64 m, .int .i64 u], .slice A xs.length ca, .string t] w fun e w' => e = .returned (.int .i64 (limV xs t f m u)) ∧ Below w.heap.size w w' := by
  have H1 := Lib.hid h1; have hgs := get_short hsh (tkey t f); clear h1 hsh; have hO := Lib.hid (show limV xs t f m u = if (num (rgy.get xs (tkey t f)).value).isSome && mayN m (numV (rgy.get xs (tkey t f)).value) then numV (rgy.get xs (tkey t f)).value else u from rfl)
  generalize hga : rgy.get xs (tkey t f) = ga at *
  obtain ⟨gn, gb, gv⟩ := ga
  have HG := Lib.hid hga
  clear hga
  simp only at hO hgs
  have fa : ∀ w', (Instr.field 36 (.agg #[.int .i64 gn, .string gb, .string gv]) 2).run Tryz.prog w' = .ok (.string gv) w' := fun _ => by kernel_rfl
  have HN := Lib.hid (fun w hL => nm.num_any gv w (by omega) hL)
  unfold numR at HN
  generalize (num gv).isSome = no at *
  generalize numV gv = nv at *
  have HM := Lib.hid (fun w => may_any f m u nv w)
  generalize mayN m nv = mf at *
  have HL := Lib.hid (below_lit w (.cells #[.string f, .int .i64 m, .int .i64 u] 53))
  have HB := Lib.hid (Blk.new w 53 #[.string f, .int .i64 m, .int .i64 u])
  replace H1 := Lib.hid (H1.out.more_below HL.out)
  go_enter Tryz.func24, Tryz.ntmps24
  go_wp2_with fail
  generalize w.alloc (.cells #[.string f, .int .i64 m, .int .i64 u] 53) = w0 at *
  refine (tkey_any t f _ ht hf).mono ?_
  rintro e w1 ⟨rfl, hb⟩
  replace HB := Lib.hid (Blk.below (Hid.out HB) hb (Hid.out HB).lt)
  replace H1 := Lib.hid ((Hid.out H1).more_below hb)
  replace HL := Lib.hid ((Hid.out HL).trans (hb.mono (Hid.out HL).size))
  clear hb
  go_wp2_with fail
  refine (rgy.get_any _ A ca xs (tkey t f) (by omega) H1.out).mono ?_
  rw [HG.out]
  rintro e w2 ⟨rfl, hb⟩
  replace HB := Lib.hid (Blk.below (Hid.out HB) hb (Hid.out HB).lt)
  replace H1 := Lib.hid ((Hid.out H1).more_below hb)
  replace HL := Lib.hid ((Hid.out HL).trans (hb.mono (Hid.out HL).size))
  clear hb
  go_wp2_with fail
  refine (HN.out _ (Lib.hid (HLt.out.next HL.out))).mono ?_
  rintro e w3 ⟨rfl, hb⟩
  replace HB := Lib.hid (Blk.below (Hid.out HB) hb (Hid.out HB).lt)
  replace H1 := Lib.hid ((Hid.out H1).more_below hb)
  replace HL := Lib.hid ((Hid.out HL).trans (hb.mono (Hid.out HL).size))
  clear hb
  have d0 : w3.cell? ⟨w.heap.size, 0, none⟩ = some (.string f) := by rw [HB.out.cell]; rfl
  have d1 : w3.cell? ⟨w.heap.size, 1, none⟩ = some (.int .i64 m) := by rw [HB.out.cell]; rfl
  have d2 : w3.cell? ⟨w.heap.size, 2, none⟩ = some (.int .i64 u) := by rw [HB.out.cell]; rfl
  cases no with
  | false =>
    have hR := Lib.hid (show limV xs t f m u = u by rw [hO.out]; rfl)
    go_wp2
    go_ret
    exact ⟨ret_int hR.out.symm, HL.out⟩
  | true =>
    cases mf with
    | false =>
      have hR := Lib.hid (show limV xs t f m u = u by rw [hO.out]; rfl)
      go_wp2_with fail
      refine (HM.out _).mono ?_
      rintro e w4 ⟨rfl, hb⟩
      clear d0 d1 d2
      replace HB := Lib.hid (Blk.below (Hid.out HB) hb (Hid.out HB).lt)
      replace H1 := Lib.hid ((Hid.out H1).more_below hb)
      replace HL := Lib.hid ((Hid.out HL).trans (hb.mono (Hid.out HL).size))
      clear hb
      have d2 : w4.cell? ⟨w.heap.size, 2, none⟩ = some (.int .i64 u) := by rw [HB.out.cell]; rfl
      go_wp2
      go_ret
      exact ⟨ret_int hR.out.symm, HL.out⟩
    | true =>
      have hR := Lib.hid (show limV xs t f m u = nv by rw [hO.out]; rfl)
      go_wp2_with fail
      refine (HM.out _).mono ?_
      rintro e w4 ⟨rfl, hb⟩
      replace HB := Lib.hid (Blk.below (Hid.out HB) hb (Hid.out HB).lt)
      replace H1 := Lib.hid ((Hid.out H1).more_below hb)
      replace HL := Lib.hid ((Hid.out HL).trans (hb.mono (Hid.out HL).size))
      clear hb
      go_wp2
      go_ret
      exact ⟨ret_int hR.out.symm, HL.out⟩
set_option maxRecDepth 100000 in
set_option maxHeartbeats 8000000 in
theorem rlimit_any (w : World) (A : Option Addr) (ca : Nat) (xs : List En) (t f : ByteArray) (hl : xs.length ≤ 100000) (h1 : Reads w w.heap.size 4 A xs.length (xs.flatMap En.cells)) (hsh : short xs) (ht : t.size ≤ 1000000) (hf : f.size ≤ 1000000) :
    Calls Tryz.prog 27 #[.slice A xs.length ca, .string t, .string f] w fun e w' => e = .returned (.int .i64 (limV xs t f (most f) (usual f))) ∧ Below w.heap.size w w' := by
  have H1 := Lib.hid h1; have hgs := get_short hsh (tkey t f); clear h1 hsh; have hO := Lib.hid (show limV xs t f (most f) (usual f) = if (num (rgy.get xs (tkey t f)).value).isSome && mayN (most f) (numV (rgy.get xs (tkey t f)).value) then numV (rgy.get xs (tkey t f)).value else (usual f) from rfl)
  generalize hga : rgy.get xs (tkey t f) = ga at *
  obtain ⟨gn, gb, gv⟩ := ga
  have HG := Lib.hid hga
  clear hga
  simp only at hO hgs
  have fa : ∀ w', (Instr.field 36 (.agg #[.int .i64 gn, .string gb, .string gv]) 2).run Tryz.prog w' = .ok (.string gv) w' := fun _ => by kernel_rfl
  have HN := Lib.hid (fun w => nm.rnum_any gv w (by omega))
  have HBd := Lib.hid (fun w => bounds_any f w)
  unfold numR at HN
  generalize (num gv).isSome = no at *
  generalize numV gv = nv at *
  generalize most f = m at *
  generalize usual f = u at *
  have HL := Lib.hid (Below.refl w.heap.size w)
  go_enter Tryz.func27, Tryz.ntmps27
  go_wp2_with fail
  refine (HBd.out _).mono ?_
  rintro e w0 ⟨rfl, rfl⟩
  go_wp2_with fail
  refine (rtkey_any t f _ ht hf).mono ?_
  rintro e w1 ⟨rfl, rfl⟩
  go_wp2_with fail
  refine (rgy.rget_any _ A ca xs (tkey t f) (by omega) H1.out).mono ?_
  rw [HG.out]
  rintro e w2 ⟨rfl, hb⟩
  replace H1 := Lib.hid ((Hid.out H1).more_below hb)
  replace HL := Lib.hid ((Hid.out HL).trans (hb.mono (Hid.out HL).size))
  clear hb
  go_wp2_with fail
  refine (HN.out _).mono ?_
  rintro e w3 ⟨rfl, hb⟩
  replace H1 := Lib.hid ((Hid.out H1).more_below hb)
  replace HL := Lib.hid ((Hid.out HL).trans (hb.mono (Hid.out HL).size))
  clear hb
  cases no with
  | false =>
    have hR := Lib.hid (show limV xs t f m u = u by rw [hO.out]; rfl)
    go_wp2
    go_ret
    exact ⟨ret_int hR.out.symm, HL.out⟩
  | true =>
    by_cases g0 : 0 ≤ nv
    · by_cases g1 : nv ≤ m
      · have hR := Lib.hid (show limV xs t f m u = nv by rw [hO.out]; unfold mayN; rw [decide_eq_true g0, decide_eq_true g1]; rfl)
        go_wp2
        go_ret
        exact ⟨ret_int hR.out.symm, HL.out⟩
      · have hR := Lib.hid (show limV xs t f m u = u by rw [hO.out]; unfold mayN; rw [decide_eq_true g0, decide_eq_false g1]; rfl)
        go_wp2
        go_ret
        exact ⟨ret_int hR.out.symm, HL.out⟩
    · have hR := Lib.hid (show limV xs t f m u = u by rw [hO.out]; unfold mayN; rw [decide_eq_false g0]; rfl)
      go_wp2
      go_ret
      exact ⟨ret_int hR.out.symm, HL.out⟩
set_option maxRecDepth 100000 in
set_option maxHeartbeats 8000000 in
theorem secretOf_any (w : World) (A : Option Addr) (ca : Nat) (xs : List En) (t : ByteArray) (hl : xs.length ≤ 100000) (h1 : Reads w w.heap.size 4 A xs.length (xs.flatMap En.cells)) (ht : t.size ≤ 1000000) :
    Calls Tryz.prog 23 #[.slice A xs.length ca, .string t] w fun e w' => e = .returned (.tuple #[.string (secV xs t), .bool (isT xs t)]) ∧ Below w.heap.size w w' := by
  have H1 := Lib.hid h1
  clear h1
  have hO := Lib.hid (show isT xs t = (isName t.data.toList && isSec (secV xs t)) from rfl)
  have hS := Lib.hid (show secV xs t = (rgy.get xs (tkey t fS)).value from rfl)
  generalize hga : rgy.get xs (tkey t fS) = ga at *
  obtain ⟨gn, gb, gv⟩ := ga
  have HG := Lib.hid hga
  clear hga
  simp only at hS
  have fa : ∀ w', (Instr.field 36 (.agg #[.int .i64 gn, .string gb, .string gv]) 2).run Tryz.prog w' = .ok (.string gv) w' := fun _ => by kernel_rfl
  have HI := Lib.hid (fun w => name.is_any t w (by unfold maxLen; omega))
  have HC := Lib.hid (fun w => sec_any gv w)
  rw [hS.out] at hO ⊢
  generalize isName t.data.toList = nb at *
  generalize isSec gv = sb at *
  have HL := Lib.hid (Below.refl w.heap.size w)
  go_enter Tryz.func23, Tryz.ntmps23
  go_wp2_with fail
  refine (tkey_any t fS _ ht (by decide)).mono ?_
  rintro e w1 ⟨rfl, hb⟩
  replace H1 := Lib.hid ((Hid.out H1).more_below hb)
  replace HL := Lib.hid ((Hid.out HL).trans (hb.mono (Hid.out HL).size))
  clear hb
  go_wp2_with fail
  refine (rgy.get_any _ A ca xs (tkey t fS) (by omega) H1.out).mono ?_
  rw [HG.out]
  rintro e w2 ⟨rfl, hb⟩
  replace H1 := Lib.hid ((Hid.out H1).more_below hb)
  replace HL := Lib.hid ((Hid.out HL).trans (hb.mono (Hid.out HL).size))
  clear hb
  go_wp2_with fail
  refine (HI.out _).mono ?_
  rintro e w3 ⟨rfl, hb⟩
  replace H1 := Lib.hid ((Hid.out H1).more_below hb)
  replace HL := Lib.hid ((Hid.out HL).trans (hb.mono (Hid.out HL).size))
  clear hb
  cases nb with
  | false =>
    go_wp2
    go_ret2
    rw [hO.out]
    exact ⟨rfl, HL.out⟩
  | true =>
    go_wp2_with fail
    refine (HC.out _).mono ?_
    rintro e w4 ⟨rfl, rfl⟩
    go_wp2
    go_ret2
    rw [hO.out]
    exact ⟨rfl, HL.out⟩
end Go.Proofs.YtjbompimlopdiaaGreatDoor.te
