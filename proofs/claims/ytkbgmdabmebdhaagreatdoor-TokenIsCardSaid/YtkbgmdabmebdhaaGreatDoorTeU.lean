import Derived.Test.YtkbgmdabmebdhaaGreatDoorNmP
import Derived.Test.YtkbgmdabmebdhaaGreatDoorRgU
import Derived.Test.YtkbgmdabmebdhaaGreatDoorNmN
/- Tenants: the bounds of fields, keys, secrets: the package's functions and the reference's. -/
namespace Go.Proofs.YtkbgmdabmebdhaaGreatDoor.te
open Go.ChangeShapes Go.WideShapes Go.ChangeAt Go.RowKit Go.Proofs.Aid
open Go.Proofs.YtkbgmdabmebdhaaGreatDoor.nm (joinS)
abbrev fT : ByteArray := ⟨#[116, 101, 110, 97, 110, 116]⟩
abbrev fS : ByteArray := ⟨#[115, 101, 99, 114, 101, 116]⟩
abbrev fB : ByteArray := ⟨#[98, 121, 116, 101, 115]⟩
abbrev fR : ByteArray := ⟨#[114, 97, 116, 101]⟩
abbrev fU : ByteArray := ⟨#[98, 117, 114, 115, 116]⟩
abbrev fQ : ByteArray := ⟨#[113, 117, 101, 117, 101]⟩
def most (f : ByteArray) : Int := if f = fB then 1099511627776 else if f = fR then 1048576 else if f = fU then 1048576 else if f = fQ then 64 else -1
def usual (f : ByteArray) : Int := if f = fB then 1048576 else if f = fR then 8 else if f = fU then 16 else if f = fQ then 16 else 0
def mayN (m n : Int) : Bool := decide (0 ≤ n) && decide (n ≤ m)
theorem ret_bool {a b : Bool} (h : a = b) : Ending.returned (.bool a) = .returned (.bool b) := by rw [h]
theorem ret_int {k : IntKind} {a b : Int} (h : a = b) : Ending.returned (.int k a) = .returned (.int k b) := by rw [h]
theorem lit_ne {f : ByteArray} {l : List UInt8} (h : f ≠ ⟨l.toArray⟩) : (f.toList == l) = false := by
  rw [beq_eq_false_iff_ne]
  intro e
  apply h
  apply ByteArray.ext; apply Array.toList_inj.1
  rw [← Lib.toList_data, e]
theorem bounds_any (f : ByteArray) (w : World) : Calls Tryz.prog 63 #[.string f] w fun e w' => e = .returned (.tuple #[.int .i64 (most f), .int .i64 (usual f)]) ∧ w' = w := by
  by_cases e0 : f = fB
  · subst e0
    have HM := Lib.hid (show most fB = 1099511627776 ∧ usual fB = 1048576 from ⟨by decide +kernel, by decide +kernel⟩)
    go_enter Tryz.func63, Tryz.ntmps63
    go_wp2
    go_ret2
    rw [HM.out.1, HM.out.2]
    exact ⟨rfl, rfl⟩
  by_cases e1 : f = fR
  · subst e1
    have HM := Lib.hid (show most fR = 1048576 ∧ usual fR = 8 from ⟨by decide +kernel, by decide +kernel⟩)
    go_enter Tryz.func63, Tryz.ntmps63
    go_wp2
    go_ret2
    rw [HM.out.1, HM.out.2]
    exact ⟨rfl, rfl⟩
  by_cases e2 : f = fU
  · subst e2
    have HM := Lib.hid (show most fU = 1048576 ∧ usual fU = 16 from ⟨by decide +kernel, by decide +kernel⟩)
    go_enter Tryz.func63, Tryz.ntmps63
    go_wp2
    go_ret2
    rw [HM.out.1, HM.out.2]
    exact ⟨rfl, rfl⟩
  by_cases e3 : f = fQ
  · subst e3
    have HM := Lib.hid (show most fQ = 64 ∧ usual fQ = 16 from ⟨by decide +kernel, by decide +kernel⟩)
    go_enter Tryz.func63, Tryz.ntmps63
    go_wp2
    go_ret2
    rw [HM.out.1, HM.out.2]
    exact ⟨rfl, rfl⟩
  have HM := Lib.hid (show most f = -1 ∧ usual f = 0 by unfold most usual; simp only [e0, e1, e2, e3, if_false]; exact ⟨trivial, trivial⟩)
  have b0 := lit_ne (l := [98, 121, 116, 101, 115]) e0
  have b1 := lit_ne (l := [114, 97, 116, 101]) e1
  have b2 := lit_ne (l := [98, 117, 114, 115, 116]) e2
  have b3 := lit_ne (l := [113, 117, 101, 117, 101]) e3
  clear e0 e1 e2 e3
  go_enter Tryz.func63, Tryz.ntmps63
  go_wp2
  go_ret2
  rw [HM.out.1, HM.out.2]
  exact ⟨rfl, rfl⟩
theorem may_any (f : ByteArray) (m u n : Int) (w : World) : Calls Tryz.prog 62 #[.agg #[.string f, .int .i64 m, .int .i64 u], .int .i64 n] w fun e w' => e = .returned (.bool (mayN m n)) ∧ Below w.heap.size w w' := by
  have HL := Lib.hid (below_lit w (.cells #[.string f, .int .i64 m, .int .i64 u] 78))
  by_cases h1 : 0 ≤ n <;> by_cases h2 : n ≤ m <;> (go_enter Tryz.func62, Tryz.ntmps62; go_wp2; go_ret; exact ⟨ret_bool (by unfold mayN; simp <;> omega), HL.out⟩)
def isSec (s : ByteArray) : Bool := decide (1 ≤ s.size) && decide (s.size ≤ 64)
theorem sec_any (s : ByteArray) (w : World) : Calls Tryz.prog 60 #[.string s] w fun e w' => e = .returned (.bool (isSec s)) ∧ w' = w := by
  by_cases h0 : s.size = 0
  · obtain rfl := nm.empty_of h0
    have HM := Lib.hid (show isSec ByteArray.empty = false from rfl)
    go_enter Tryz.func60, Tryz.ntmps60
    go_wp2
    go_ret
    exact ⟨ret_bool HM.out.symm, rfl⟩
  · have hne := nm.ne_empty h0
    by_cases h1 : s.size ≤ 64
    all_goals
      go_enter Tryz.func60, Tryz.ntmps60
      go_wp2
      go_ret
      exact ⟨ret_bool (by unfold isSec; rw [Bool.eq_iff_iff]; simp only [Bool.and_eq_true, decide_eq_true_eq, Bool.false_eq_true]; omega), rfl⟩
theorem rsec_any (s : ByteArray) (w : World) : Calls Tryz.prog 45 #[.string s] w fun e w' => e = .returned (.bool (isSec s)) ∧ w' = w := by
  by_cases h0 : 1 ≤ s.size
  · by_cases h1 : s.size ≤ 64
    all_goals
      go_enter Tryz.func45, Tryz.ntmps45
      go_wp2
      go_ret
      exact ⟨ret_bool (by unfold isSec; rw [Bool.eq_iff_iff]; simp only [Bool.and_eq_true, decide_eq_true_eq, Bool.false_eq_true]; omega), rfl⟩
  · go_enter Tryz.func45, Tryz.ntmps45
    go_wp2
    go_ret
    exact ⟨ret_bool (by unfold isSec; rw [decide_eq_false h0, Bool.false_and]), rfl⟩
/-- The key of a field's register. -/
def tkey (t f : ByteArray) : ByteArray := joinS [fT, t, f]
theorem tkey_cat (t f : ByteArray) : ((((⟨#[116, 101, 110, 97, 110, 116, 47]⟩ : ByteArray) ++ t) ++ ⟨#[47]⟩) ++ f) = tkey t f := by
  apply ByteArray.ext
  apply Array.toList_inj.1
  simp [tkey, joinS, Lib.join]
theorem tkey_list (t f : ByteArray) : (tkey t f).data.toList = [116, 101, 110, 97, 110, 116, 47] ++ t.data.toList ++ [47] ++ f.data.toList := by
  simp [tkey, joinS, Lib.join]
theorem tkey_size (t f : ByteArray) : (tkey t f).size = 8 + t.size + f.size := by
  show (tkey t f).data.size = _
  rw [← Array.length_toList, tkey_list]
  simp
  omega
set_option maxHeartbeats 1000000 in
theorem tkey_any (t f : ByteArray) (w : World) (ht : t.size ≤ 1000000) (hf : f.size ≤ 1000000) :
    Calls Tryz.prog 59 #[.string t, .string f] w fun e w' => e = .returned (.string (tkey t f)) ∧ Below w.heap.size w w' := by
  have hp := Lib.hid (nm.path_any (w.alloc (.cells #[.string fT, .string t, .string f] 9)) (some ⟨w.heap.size, 0, none⟩) 3 [fT, t, f] (lit1 (f := texts.tc) w 9 [fT, t, f] (fun _ => rfl)) (by simp) (by simp) (by
    have := tkey_size t f
    unfold tkey at this
    rw [Array.length_toList]
    show (joinS [fT, t, f]).size ≤ _
    omega))
  have hl := Lib.hid (below_lit w (.cells #[.string fT, .string t, .string f] 9))
  go_enter Tryz.func59, Tryz.ntmps59
  go_wp2_with fail
  refine hp.out.mono ?_
  rintro e w1 ⟨rfl, hb1⟩
  have hb2 := Lib.hid (hl.out.trans (hb1.mono (by simp)))
  clear hb1
  go_wp2
  go_ret
  exact ⟨rfl, hb2.out⟩
theorem rtkey_any (t f : ByteArray) (w : World) (ht : t.size ≤ 1000000) (hf : f.size ≤ 1000000) :
    Calls Tryz.prog 33 #[.string t, .string f] w fun e w' => e = .returned (.string (tkey t f)) ∧ w' = w := by
  have hk := Lib.hid (tkey_cat t f)
  go_enter Tryz.func33, Tryz.ntmps33
  go_wp2
  go_ret
  exact ⟨nm.ret_str hk.out, rfl⟩
end Go.Proofs.YtkbgmdabmebdhaaGreatDoor.te

/- What a limit of a tenant is; its secret: the package's functions and the reference's. -/
namespace Go.Proofs.YtkbgmdabmebdhaaGreatDoor.te
set_option linter.unusedSimpArgs false
open Go.ChangeShapes Go.WideShapes Go.ChangeAt Go.RowKit Go.Proofs.Aid
open Go.Proofs.YtkbgmdabmebdhaaGreatDoor.rgy (En)
open Go.Proofs.YtkbgmdabmebdhaaGreatDoor.name (isName)
open Go.Proofs.YtkbgmdabmebdhaaGreatDoor.nm (Lets num numV numR)
/-- What a limit has; else what it has usually. -/
def limV (l : List En) (t f : ByteArray) (m u : Int) : Int := if (num (rgy.get l (tkey t f)).value).isSome && mayN m (numV (rgy.get l (tkey t f)).value) then numV (rgy.get l (tkey t f)).value else u
def secV (l : List En) (t : ByteArray) : ByteArray := (rgy.get l (tkey t fS)).value
def isT (l : List En) (t : ByteArray) : Bool := isName t.data.toList && isSec (secV l t)
/-- The values of registers are short. -/
def short (l : List En) : Prop := ∀ x ∈ l, x.reg.value.size ≤ 300
theorem get_short {l : List En} (h : short l) (k : ByteArray) : (rgy.get l k).value.size ≤ 300 := by
  unfold rgy.get rgy.look
  cases e : l.find? (fun e => decide (e.key = k)) with
  | none => exact Nat.zero_le _
  | some x => exact h x (List.mem_of_find?_eq_some e)
set_option maxRecDepth 100000 in
set_option maxHeartbeats 8000000 in
theorem of_any (w : World) (A : Option Addr) (ca : Nat) (xs : List En) (t f : ByteArray) (m u : Int) (hl : xs.length ≤ 100000) (h1 : Reads w w.heap.size 4 A xs.length (xs.flatMap En.cells)) (hsh : short xs) (ht : t.size ≤ 1000000) (hf : f.size ≤ 1000000) (HLt : Hid (Lets w)) :
    Calls Tryz.prog 43 #[.agg #[.string f, .int .i64 m, .int .i64 u], .slice A xs.length ca, .string t] w fun e w' => e = .returned (.int .i64 (limV xs t f m u)) ∧ Below w.heap.size w w' := by
  have H1 := Lib.hid h1; have hgs := get_short hsh (tkey t f); clear h1 hsh; have hO := Lib.hid (show limV xs t f m u = if (num (rgy.get xs (tkey t f)).value).isSome && mayN m (numV (rgy.get xs (tkey t f)).value) then numV (rgy.get xs (tkey t f)).value else u from rfl)
  generalize hga : rgy.get xs (tkey t f) = ga at *
  obtain ⟨gn, gb, gv⟩ := ga
  have HG := Lib.hid hga
  clear hga
  simp only at hO hgs
  have fa : ∀ w', (Instr.field 35 (.agg #[.int .i64 gn, .string gb, .string gv]) 2).run Tryz.prog w' = .ok (.string gv) w' := fun _ => by kernel_rfl
  have HN := Lib.hid (fun w hL => nm.num_any gv w (by omega) hL)
  unfold numR at HN
  generalize (num gv).isSome = no at *
  generalize numV gv = nv at *
  have HM := Lib.hid (fun w => may_any f m u nv w)
  generalize mayN m nv = mf at *
  have HL := Lib.hid (below_lit w (.cells #[.string f, .int .i64 m, .int .i64 u] 78))
  have HB := Lib.hid (Blk.new w 78 #[.string f, .int .i64 m, .int .i64 u])
  replace H1 := Lib.hid (H1.out.more_below HL.out)
  go_enter Tryz.func43, Tryz.ntmps43
  go_wp2_with fail
  generalize w.alloc (.cells #[.string f, .int .i64 m, .int .i64 u] 78) = w0 at *
  refine (tkey_any t f _ ht hf).mono ?_
  rintro e w1 ⟨rfl, hb⟩
  replace HB := Lib.hid (Blk.below (Hid.out HB) hb (Hid.out HB).lt)
  replace H1 := Lib.hid ((Hid.out H1).more_below hb)
  replace HL := Lib.hid ((Hid.out HL).trans (hb.mono (Hid.out HL).size))
  clear hb
  go_wp2_with fail
  refine (rgy.get_any _ A ca xs (tkey t f) (by omega) H1.out).mono ?_
  rw [HG.out]
  rintro e w2 ⟨rfl, hb⟩
  replace HB := Lib.hid (Blk.below (Hid.out HB) hb (Hid.out HB).lt)
  replace H1 := Lib.hid ((Hid.out H1).more_below hb)
  replace HL := Lib.hid ((Hid.out HL).trans (hb.mono (Hid.out HL).size))
  clear hb
  go_wp2_with fail
  refine (HN.out _ (Lib.hid (HLt.out.next HL.out))).mono ?_
  rintro e w3 ⟨rfl, hb⟩
  replace HB := Lib.hid (Blk.below (Hid.out HB) hb (Hid.out HB).lt)
  replace H1 := Lib.hid ((Hid.out H1).more_below hb)
  replace HL := Lib.hid ((Hid.out HL).trans (hb.mono (Hid.out HL).size))
  clear hb
  have d0 : w3.cell? ⟨w.heap.size, 0, none⟩ = some (.string f) := by rw [HB.out.cell]; rfl
  have d1 : w3.cell? ⟨w.heap.size, 1, none⟩ = some (.int .i64 m) := by rw [HB.out.cell]; rfl
  have d2 : w3.cell? ⟨w.heap.size, 2, none⟩ = some (.int .i64 u) := by rw [HB.out.cell]; rfl
  cases no with
  | false =>
    have hR := Lib.hid (show limV xs t f m u = u by rw [hO.out]; rfl)
    go_wp2
    go_ret
    exact ⟨ret_int hR.out.symm, HL.out⟩
  | true =>
    cases mf with
    | false =>
      have hR := Lib.hid (show limV xs t f m u = u by rw [hO.out]; rfl)
      go_wp2_with fail
      refine (HM.out _).mono ?_
      rintro e w4 ⟨rfl, hb⟩
      clear d0 d1 d2
      replace HB := Lib.hid (Blk.below (Hid.out HB) hb (Hid.out HB).lt)
      replace H1 := Lib.hid ((Hid.out H1).more_below hb)
      replace HL := Lib.hid ((Hid.out HL).trans (hb.mono (Hid.out HL).size))
      clear hb
      have d2 : w4.cell? ⟨w.heap.size, 2, none⟩ = some (.int .i64 u) := by rw [HB.out.cell]; rfl
      go_wp2
      go_ret
      exact ⟨ret_int hR.out.symm, HL.out⟩
    | true =>
      have hR := Lib.hid (show limV xs t f m u = nv by rw [hO.out]; rfl)
      go_wp2_with fail
      refine (HM.out _).mono ?_
      rintro e w4 ⟨rfl, hb⟩
      replace HB := Lib.hid (Blk.below (Hid.out HB) hb (Hid.out HB).lt)
      replace H1 := Lib.hid ((Hid.out H1).more_below hb)
      replace HL := Lib.hid ((Hid.out HL).trans (hb.mono (Hid.out HL).size))
      clear hb
      go_wp2
      go_ret
      exact ⟨ret_int hR.out.symm, HL.out⟩
set_option maxRecDepth 100000 in
set_option maxHeartbeats 8000000 in
theorem rlimit_any (w : World) (A : Option Addr) (ca : Nat) (xs : List En) (t f : ByteArray) (hl : xs.length ≤ 100000) (h1 : Reads w w.heap.size 4 A xs.length (xs.flatMap En.cells)) (hsh : short xs) (ht : t.size ≤ 1000000) (hf : f.size ≤ 1000000) :
    Calls Tryz.prog 46 #[.slice A xs.length ca, .string t, .string f] w fun e w' => e = .returned (.int .i64 (limV xs t f (most f) (usual f))) ∧ Below w.heap.size w w' := by
  have H1 := Lib.hid h1; have hgs := get_short hsh (tkey t f); clear h1 hsh; have hO := Lib.hid (show limV xs t f (most f) (usual f) = if (num (rgy.get xs (tkey t f)).value).isSome && mayN (most f) (numV (rgy.get xs (tkey t f)).value) then numV (rgy.get xs (tkey t f)).value else (usual f) from rfl)
  generalize hga : rgy.get xs (tkey t f) = ga at *
  obtain ⟨gn, gb, gv⟩ := ga
  have HG := Lib.hid hga
  clear hga
  simp only at hO hgs
  have fa : ∀ w', (Instr.field 35 (.agg #[.int .i64 gn, .string gb, .string gv]) 2).run Tryz.prog w' = .ok (.string gv) w' := fun _ => by kernel_rfl
  have HN := Lib.hid (fun w => nm.rnum_any gv w (by omega))
  have HBd := Lib.hid (fun w => bounds_any f w)
  unfold numR at HN
  generalize (num gv).isSome = no at *
  generalize numV gv = nv at *
  generalize most f = m at *
  generalize usual f = u at *
  have HL := Lib.hid (Below.refl w.heap.size w)
  go_enter Tryz.func46, Tryz.ntmps46
  go_wp2_with fail
  refine (HBd.out _).mono ?_
  rintro e w0 ⟨rfl, rfl⟩
  go_wp2_with fail
  refine (rtkey_any t f _ ht hf).mono ?_
  rintro e w1 ⟨rfl, rfl⟩
  go_wp2_with fail
  refine (rgy.rget_any _ A ca xs (tkey t f) (by omega) H1.out).mono ?_
  rw [HG.out]
  rintro e w2 ⟨rfl, hb⟩
  replace H1 := Lib.hid ((Hid.out H1).more_below hb)
  replace HL := Lib.hid ((Hid.out HL).trans (hb.mono (Hid.out HL).size))
  clear hb
  go_wp2_with fail
  refine (HN.out _).mono ?_
  rintro e w3 ⟨rfl, hb⟩
  replace H1 := Lib.hid ((Hid.out H1).more_below hb)
  replace HL := Lib.hid ((Hid.out HL).trans (hb.mono (Hid.out HL).size))
  clear hb
  cases no with
  | false =>
    have hR := Lib.hid (show limV xs t f m u = u by rw [hO.out]; rfl)
    go_wp2
    go_ret
    exact ⟨ret_int hR.out.symm, HL.out⟩
  | true =>
    by_cases g0 : 0 ≤ nv
    · by_cases g1 : nv ≤ m
      · have hR := Lib.hid (show limV xs t f m u = nv by rw [hO.out]; unfold mayN; rw [decide_eq_true g0, decide_eq_true g1]; rfl)
        go_wp2
        go_ret
        exact ⟨ret_int hR.out.symm, HL.out⟩
      · have hR := Lib.hid (show limV xs t f m u = u by rw [hO.out]; unfold mayN; rw [decide_eq_true g0, decide_eq_false g1]; rfl)
        go_wp2
        go_ret
        exact ⟨ret_int hR.out.symm, HL.out⟩
    · have hR := Lib.hid (show limV xs t f m u = u by rw [hO.out]; unfold mayN; rw [decide_eq_false g0]; rfl)
      go_wp2
      go_ret
      exact ⟨ret_int hR.out.symm, HL.out⟩
set_option maxRecDepth 100000 in
set_option maxHeartbeats 8000000 in
theorem secretOf_any (w : World) (A : Option Addr) (ca : Nat) (xs : List En) (t : ByteArray) (hl : xs.length ≤ 100000) (h1 : Reads w w.heap.size 4 A xs.length (xs.flatMap En.cells)) (ht : t.size ≤ 1000000) :
    Calls Tryz.prog 42 #[.slice A xs.length ca, .string t] w fun e w' => e = .returned (.tuple #[.string (secV xs t), .bool (isT xs t)]) ∧ Below w.heap.size w w' := by
  have H1 := Lib.hid h1
  clear h1
  have hO := Lib.hid (show isT xs t = (isName t.data.toList && isSec (secV xs t)) from rfl)
  have hS := Lib.hid (show secV xs t = (rgy.get xs (tkey t fS)).value from rfl)
  generalize hga : rgy.get xs (tkey t fS) = ga at *
  obtain ⟨gn, gb, gv⟩ := ga
  have HG := Lib.hid hga
  clear hga
  simp only at hS
  have fa : ∀ w', (Instr.field 35 (.agg #[.int .i64 gn, .string gb, .string gv]) 2).run Tryz.prog w' = .ok (.string gv) w' := fun _ => by kernel_rfl
  have HI := Lib.hid (fun w => name.is_any t w (by unfold maxLen; omega))
  have HC := Lib.hid (fun w => sec_any gv w)
  rw [hS.out] at hO ⊢
  generalize isName t.data.toList = nb at *
  generalize isSec gv = sb at *
  have HL := Lib.hid (Below.refl w.heap.size w)
  go_enter Tryz.func42, Tryz.ntmps42
  go_wp2_with fail
  refine (tkey_any t fS _ ht (by decide)).mono ?_
  rintro e w1 ⟨rfl, hb⟩
  replace H1 := Lib.hid ((Hid.out H1).more_below hb)
  replace HL := Lib.hid ((Hid.out HL).trans (hb.mono (Hid.out HL).size))
  clear hb
  go_wp2_with fail
  refine (rgy.get_any _ A ca xs (tkey t fS) (by omega) H1.out).mono ?_
  rw [HG.out]
  rintro e w2 ⟨rfl, hb⟩
  replace H1 := Lib.hid ((Hid.out H1).more_below hb)
  replace HL := Lib.hid ((Hid.out HL).trans (hb.mono (Hid.out HL).size))
  clear hb
  go_wp2_with fail
  refine (HI.out _).mono ?_
  rintro e w3 ⟨rfl, hb⟩
  replace H1 := Lib.hid ((Hid.out H1).more_below hb)
  replace HL := Lib.hid ((Hid.out HL).trans (hb.mono (Hid.out HL).size))
  clear hb
  cases nb with
  | false =>
    go_wp2
    go_ret2
    rw [hO.out]
    exact ⟨rfl, HL.out⟩
  | true =>
    go_wp2_with fail
    refine (HC.out _).mono ?_
    rintro e w4 ⟨rfl, rfl⟩
    go_wp2
    go_ret2
    rw [hO.out]
    exact ⟨rfl, HL.out⟩
end Go.Proofs.YtkbgmdabmebdhaaGreatDoor.te

/- What is said of a tenant: the package's function and the reference's. -/
namespace Go.Proofs.YtkbgmdabmebdhaaGreatDoor.te
set_option linter.unusedSimpArgs false
open Go.ChangeShapes Go.WideShapes Go.ChangeAt Go.RowKit Go.Proofs.Aid
open Go.Proofs.YtkbgmdabmebdhaaGreatDoor.rgy (En)
open Go.Proofs.YtkbgmdabmebdhaaGreatDoor.name (isName)
open Go.Proofs.YtkbgmdabmebdhaaGreatDoor.nm (Lets num numV numR)
structure Ten where
  name : ByteArray
  secret : ByteArray
  b : Int
  r : Int
  u : Int
  q : Int
def Ten.cells (x : Ten) : Array Value := #[.string x.name, .string x.secret, .int .i64 x.b, .int .i64 x.r, .int .i64 x.u, .int .i64 x.q]
def Ten.zero : Ten := ⟨⟨#[]⟩, ⟨#[]⟩, 0, 0, 0, 0⟩
abbrev zeroC : Array Value := #[.string ⟨#[]⟩, .string ⟨#[]⟩, .int .i64 0, .int .i64 0, .int .i64 0, .int .i64 0]
/-- What is said of a tenant. -/
def ofT (xs : List En) (t : ByteArray) : Ten := if isT xs t then ⟨t, secV xs t, limV xs t fB 1099511627776 1048576, limV xs t fR 1048576 8, limV xs t fU 1048576 16, limV xs t fQ 64 16⟩ else Ten.zero
theorem ofT_yes {xs : List En} {t : ByteArray} (h : isT xs t = true) : ofT xs t = ⟨t, secV xs t, limV xs t fB 1099511627776 1048576, limV xs t fR 1048576 8, limV xs t fU 1048576 16, limV xs t fQ 64 16⟩ := by unfold ofT; rw [if_pos h]
theorem ofT_no {xs : List En} {t : ByteArray} (h : isT xs t = false) : ofT xs t = Ten.zero := by unfold ofT; rw [if_neg (by rw [h]; decide)]
/-- The block of the result: whatever it holds. -/
def Res (g : Nat) (w : World) : Prop := ∃ cs : Array Value, cs.size = 6 ∧ Blk w g 51 cs
theorem Res.cells {w : World} {g : Nat} {t : TypeId} {cs : Array Value} (h : cs.size = 6) (hb : Blk w g t cs) : w.cell? ⟨g, 0, none⟩ = some (cs[0]'(by omega)) ∧ w.cell? ⟨g, 1, none⟩ = some (cs[1]'(by omega)) ∧ w.cell? ⟨g, 2, none⟩ = some (cs[2]'(by omega)) ∧ w.cell? ⟨g, 3, none⟩ = some (cs[3]'(by omega)) ∧ w.cell? ⟨g, 4, none⟩ = some (cs[4]'(by omega)) ∧ w.cell? ⟨g, 5, none⟩ = some (cs[5]'(by omega)) := by
  refine ⟨?_, ?_, ?_, ?_, ?_, ?_⟩ <;> (rw [hb.cell]; exact Array.getElem?_eq_getElem _)
theorem set6 {w : World} {g : Nat} {t : TypeId} {cs : Array Value} (x0 x1 x2 x3 x4 x5 : Value) (h : cs.size = 6) (hb : Blk w g t cs) : Blk ((((((w.setCell ⟨g, 0, none⟩ x0).setCell ⟨g, 1, none⟩ x1).setCell ⟨g, 2, none⟩ x2).setCell ⟨g, 3, none⟩ x3).setCell ⟨g, 4, none⟩ x4).setCell ⟨g, 5, none⟩ x5) g t #[x0, x1, x2, x3, x4, x5] := by
  have e : ((((((cs.setIfInBounds 0 x0).setIfInBounds 1 x1).setIfInBounds 2 x2).setIfInBounds 3 x3).setIfInBounds 4 x4).setIfInBounds 5 x5) = #[x0, x1, x2, x3, x4, x5] := by
    obtain ⟨l⟩ := cs
    match l, h with
    | [a0, a1, a2, a3, a4, a5], _ => simp only [List.setIfInBounds_toArray, List.set_cons_zero, List.set_cons_succ]
  rw [← e]
  exact ((((((hb.set_ 0 x0).set_ 1 x1).set_ 2 x2).set_ 3 x3).set_ 4 x4).set_ 5 x5)
theorem low6 {B : Nat} {W w : World} {g : Nat} (h : Below B W w) (hg : B ≤ g) (x0 x1 x2 x3 x4 x5 : Value) : Below B W ((((((w.setCell ⟨g, 0, none⟩ x0).setCell ⟨g, 1, none⟩ x1).setCell ⟨g, 2, none⟩ x2).setCell ⟨g, 3, none⟩ x3).setCell ⟨g, 4, none⟩ x4).setCell ⟨g, 5, none⟩ x5) :=
  ((((((h.setCell (p := ⟨g, 0, none⟩) hg x0).setCell (p := ⟨g, 1, none⟩) hg x1).setCell (p := ⟨g, 2, none⟩) hg x2).setCell (p := ⟨g, 3, none⟩) hg x3).setCell (p := ⟨g, 4, none⟩) hg x4).setCell (p := ⟨g, 5, none⟩) hg x5)
theorem Res.drew {g : Nat} {w : World} (h : Res g w) : Res g w.drew := by obtain ⟨cs, h1, h2⟩ := h; exact ⟨cs, h1, h2.drew⟩
theorem Res.step {g : Nat} {w w1 : World} (h : Hid (Res g w)) (hb : Below w.heap.size w w1) : Hid (Res g w1) := by obtain ⟨cs, h1, h2⟩ := h; exact ⟨cs, h1, h2.below hb h2.lt⟩
theorem Res.of_blk {g : Nat} {w : World} {cs : Array Value} (h : Blk w g 51 cs) (hs : cs.size = 6) : Res g w := ⟨cs, hs, h⟩
theorem ret_ten {x y : Array Value} {b c : Bool} (h : x = y) (k : b = c) : Ending.returned (.tuple #[.agg x, .bool b]) = .returned (.tuple #[.agg y, .bool c]) := by rw [h, k]
set_option maxRecDepth 100000 in
set_option maxHeartbeats 8000000 in
theorem tof_any (w : World) (A : Option Addr) (ca : Nat) (xs : List En) (t : ByteArray) (hl : xs.length ≤ 100000) (h1 : Reads w w.heap.size 4 A xs.length (xs.flatMap En.cells)) (hsh : short xs) (ht : t.size ≤ 1000000) (HLt : Hid (Lets w)) :
    Calls Tryz.prog 23 #[.slice A xs.length ca, .string t] w fun e w' => e = .returned (.tuple #[.agg (ofT xs t).cells, .bool (isT xs t)]) ∧ Below w.heap.size w w' := by
  have HF0 := Lib.hid (fun w h hL => of_any w A ca xs t fB 1099511627776 1048576 hl h hsh ht (by decide) hL)
  have HF1 := Lib.hid (fun w h hL => of_any w A ca xs t fR 1048576 8 hl h hsh ht (by decide) hL)
  have HF2 := Lib.hid (fun w h hL => of_any w A ca xs t fU 1048576 16 hl h hsh ht (by decide) hL)
  have HF3 := Lib.hid (fun w h hL => of_any w A ca xs t fQ 64 16 hl h hsh ht (by decide) hL)
  have HR0 := Lib.hid h1
  have HSe := Lib.hid (fun w h => secretOf_any w A ca xs t hl h ht)
  have hY := Lib.hid (@ofT_yes xs t)
  have hN := Lib.hid (@ofT_no xs t)
  have HL := Lib.hid (below_lit w (.cells zeroC 51))
  have HB := Lib.hid (Blk.new w 51 zeroC)
  have H1 := Lib.hid (h1.more_below HL.out)
  clear h1 hsh
  generalize secV xs t = s at *
  generalize limV xs t fB 1099511627776 1048576 = n0 at *
  generalize limV xs t fR 1048576 8 = n1 at *
  generalize limV xs t fU 1048576 16 = n2 at *
  generalize limV xs t fQ 64 16 = n3 at *
  generalize hb : isT xs t = b at *
  clear hb
  go_enter Tryz.func23, Tryz.ntmps23
  go_wp2_with fail
  generalize w.alloc (.cells zeroC 51) = w0 at *
  refine (HSe.out _ H1.out).mono ?_
  rintro e w1 ⟨rfl, hb⟩
  replace HB := Lib.hid (Blk.below (Hid.out HB) hb (Hid.out HB).lt)
  replace H1 := Lib.hid ((Hid.out H1).more_below hb)
  replace HL := Lib.hid ((Hid.out HL).trans (hb.mono (Hid.out HL).size))
  clear hb
  cases b with
  | false =>
    have hbf := HB.out
    have f0 := hbf.frozen 0
    have f1 := hbf.frozen 1
    have f2 := hbf.frozen 2
    have f3 := hbf.frozen 3
    have f4 := hbf.frozen 4
    have f5 := hbf.frozen 5
    have d0 : w1.cell? ⟨w.heap.size, 0, none⟩ = some (.string ⟨#[]⟩) := by rw [hbf.cell]; rfl
    have d1 : w1.cell? ⟨w.heap.size, 1, none⟩ = some (.string ⟨#[]⟩) := by rw [hbf.cell]; rfl
    have d2 : w1.cell? ⟨w.heap.size, 2, none⟩ = some (.int .i64 0) := by rw [hbf.cell]; rfl
    have d3 : w1.cell? ⟨w.heap.size, 3, none⟩ = some (.int .i64 0) := by rw [hbf.cell]; rfl
    have d4 : w1.cell? ⟨w.heap.size, 4, none⟩ = some (.int .i64 0) := by rw [hbf.cell]; rfl
    have d5 : w1.cell? ⟨w.heap.size, 5, none⟩ = some (.int .i64 0) := by rw [hbf.cell]; rfl
    go_wp2
    exact bodyPost_ret (v := .tuple #[.agg zeroC, .bool false]) (by simp [results, Tryz.results23, go_sem, d0, d1, d2, d3, d4, d5] <;> rfl) rfl ⟨by rw [hN.out (by first | trivial | rfl)]; rfl, low6 HL.out (Nat.le_refl _) _ _ _ _ _ _⟩
  | true =>
    have hv := (HLt.out.next HL.out).lim
    have hgt := nm.gT
    have hlt := (HLt.out.next HL.out).low.t
    have hltw := HLt.out.low.t
    have hsz := HB.out.lt
    have hres : Res w.heap.size w1 := ⟨zeroC, rfl, HB.out⟩
    have test : (fun w' => w'.cell? (⟨0, 0, none⟩) = some (.string fB) ∧ w'.cell? (⟨0, 1, none⟩) = some (.int .i64 1099511627776) ∧ w'.cell? (⟨0, 2, none⟩) = some (.int .i64 1048576) ∧ w'.cell? (⟨0, 3, none⟩) = some (.string fR) ∧ w'.cell? (⟨0, 4, none⟩) = some (.int .i64 1048576) ∧ w'.cell? (⟨0, 5, none⟩) = some (.int .i64 8) ∧ w'.cell? (⟨0, 6, none⟩) = some (.string fU) ∧ w'.cell? (⟨0, 7, none⟩) = some (.int .i64 1048576) ∧ w'.cell? (⟨0, 8, none⟩) = some (.int .i64 16) ∧ w'.cell? (⟨0, 9, none⟩) = some (.string fQ) ∧ w'.cell? (⟨0, 10, none⟩) = some (.int .i64 64) ∧ w'.cell? (⟨0, 11, none⟩) = some (.int .i64 16) ∧ Hid (Kn (w.heap.size) (w1) [(⟨0, 0, none⟩, .string fB), (⟨0, 1, none⟩, .int .i64 1099511627776), (⟨0, 2, none⟩, .int .i64 1048576), (⟨0, 3, none⟩, .string fR), (⟨0, 4, none⟩, .int .i64 1048576), (⟨0, 5, none⟩, .int .i64 8), (⟨0, 6, none⟩, .string fU), (⟨0, 7, none⟩, .int .i64 1048576), (⟨0, 8, none⟩, .int .i64 16), (⟨0, 9, none⟩, .string fQ), (⟨0, 10, none⟩, .int .i64 64), (⟨0, 11, none⟩, .int .i64 16)] w')) w1.drew ∧ Hid (Res w.heap.size w1.drew) := ⟨Kn.drew_12 (Kn.new_12 (w0 := w1) (M := w.heap.size) (p0 := ⟨0, 0, none⟩) (v0 := .string fB) (p1 := ⟨0, 1, none⟩) (v1 := .int .i64 1099511627776) (p2 := ⟨0, 2, none⟩) (v2 := .int .i64 1048576) (p3 := ⟨0, 3, none⟩) (v3 := .string fR) (p4 := ⟨0, 4, none⟩) (v4 := .int .i64 1048576) (p5 := ⟨0, 5, none⟩) (v5 := .int .i64 8) (p6 := ⟨0, 6, none⟩) (v6 := .string fU) (p7 := ⟨0, 7, none⟩) (v7 := .int .i64 1048576) (p8 := ⟨0, 8, none⟩) (v8 := .int .i64 16) (p9 := ⟨0, 9, none⟩) (v9 := .string fQ) (p10 := ⟨0, 10, none⟩) (v10 := .int .i64 64) (p11 := ⟨0, 11, none⟩) (v11 := .int .i64 16) (by omega)
      (by rw [World.var?_cell hgt hv 0]; rfl) hltw (by rw [World.var?_cell hgt hv 1]; rfl) hltw (by rw [World.var?_cell hgt hv 2]; rfl) hltw (by rw [World.var?_cell hgt hv 3]; rfl) hltw (by rw [World.var?_cell hgt hv 4]; rfl) hltw (by rw [World.var?_cell hgt hv 5]; rfl) hltw (by rw [World.var?_cell hgt hv 6]; rfl) hltw (by rw [World.var?_cell hgt hv 7]; rfl) hltw (by rw [World.var?_cell hgt hv 8]; rfl) hltw (by rw [World.var?_cell hgt hv 9]; rfl) hltw (by rw [World.var?_cell hgt hv 10]; rfl) hltw (by rw [World.var?_cell hgt hv 11]; rfl) hltw), Res.drew hres⟩
    clear HB hres hv
    go_wp2_with fail
    refine wp_region_held_drew (S := (fun w' => (fun w' => w'.cell? (⟨0, 0, none⟩) = some (.string fB) ∧ w'.cell? (⟨0, 1, none⟩) = some (.int .i64 1099511627776) ∧ w'.cell? (⟨0, 2, none⟩) = some (.int .i64 1048576) ∧ w'.cell? (⟨0, 3, none⟩) = some (.string fR) ∧ w'.cell? (⟨0, 4, none⟩) = some (.int .i64 1048576) ∧ w'.cell? (⟨0, 5, none⟩) = some (.int .i64 8) ∧ w'.cell? (⟨0, 6, none⟩) = some (.string fU) ∧ w'.cell? (⟨0, 7, none⟩) = some (.int .i64 1048576) ∧ w'.cell? (⟨0, 8, none⟩) = some (.int .i64 16) ∧ w'.cell? (⟨0, 9, none⟩) = some (.string fQ) ∧ w'.cell? (⟨0, 10, none⟩) = some (.int .i64 64) ∧ w'.cell? (⟨0, 11, none⟩) = some (.int .i64 16) ∧ Hid (Kn (w.heap.size) (w1) [(⟨0, 0, none⟩, .string fB), (⟨0, 1, none⟩, .int .i64 1099511627776), (⟨0, 2, none⟩, .int .i64 1048576), (⟨0, 3, none⟩, .string fR), (⟨0, 4, none⟩, .int .i64 1048576), (⟨0, 5, none⟩, .int .i64 8), (⟨0, 6, none⟩, .string fU), (⟨0, 7, none⟩, .int .i64 1048576), (⟨0, 8, none⟩, .int .i64 16), (⟨0, 9, none⟩, .string fQ), (⟨0, 10, none⟩, .int .i64 64), (⟨0, 11, none⟩, .int .i64 16)] w')) w' ∧ Hid (Res w.heap.size w'))) (by kernel_rfl) ?_ (fun hHeldp0 => ?_)
    · exact test
    refine wpAnyH_take (i := 0) (v := ?vp0) ops0 (by kernel_rfl) (by kernel_rfl) (by kernel_rfl) (fun _ _ _ h => h) (Or.inl ⟨by rfl, ?yp0⟩) hHeldp0 ?_
    case yp0 => (intro w hSw; (try dsimp only at hSw); go_simp; try (with_reducible rfl))
    try simp only [Act.put, List.setIfInBounds_toArray, List.set_cons_zero, List.set_cons_succ]
    refine wpAnyH_take (i := 1) (v := ?vp1) (opsS ops0) (by kernel_rfl) (by kernel_rfl) (by kernel_rfl) (fun _ _ _ h => h) (Or.inl ⟨by rfl, ?yp1⟩) hHeldp0 ?_
    case yp1 => (intro w hSw; (try dsimp only at hSw); go_simp; try (with_reducible rfl))
    try simp only [Act.put, List.setIfInBounds_toArray, List.set_cons_zero, List.set_cons_succ]
    refine wpAnyH_take (i := 2) (v := ?vp2) (opsS (opsS ops0)) (by kernel_rfl) (by kernel_rfl) (by kernel_rfl) (fun _ _ _ h => h) (Or.inl ⟨by rfl, ?yp2⟩) hHeldp0 ?_
    case yp2 => (intro w hSw; (try dsimp only at hSw); go_simp; try (with_reducible rfl))
    try simp only [Act.put, List.setIfInBounds_toArray, List.set_cons_zero, List.set_cons_succ]
    refine wpAnyH_take (i := 3) (v := ?vp3) (opsS (opsS (opsS ops0))) (by kernel_rfl) (by kernel_rfl) (by kernel_rfl) (fun _ _ _ h => h) (Or.inl ⟨by rfl, ?yp3⟩) hHeldp0 ?_
    case yp3 => (intro w hSw; (try dsimp only at hSw); go_simp; try (with_reducible rfl))
    try simp only [Act.put, List.setIfInBounds_toArray, List.set_cons_zero, List.set_cons_succ]
    refine wpAnyH_take (i := 4) (v := ?vp4) (opsS (opsS (opsS (opsS ops0)))) (by kernel_rfl) (by kernel_rfl) (by kernel_rfl) (fun _ _ _ h => h) (Or.inl ⟨by rfl, ?yp4⟩) hHeldp0 ?_
    case yp4 => (intro w hSw; (try dsimp only at hSw); go_simp; try (with_reducible rfl))
    try simp only [Act.put, List.setIfInBounds_toArray, List.set_cons_zero, List.set_cons_succ]
    refine wpAnyH_take (i := 5) (v := ?vp5) (opsS (opsS (opsS (opsS (opsS ops0))))) (by kernel_rfl) (by kernel_rfl) (by kernel_rfl) (fun _ _ _ h => h) (Or.inl ⟨by rfl, ?yp5⟩) hHeldp0 ?_
    case yp5 => (intro w hSw; (try dsimp only at hSw); go_simp; try (with_reducible rfl))
    try simp only [Act.put, List.setIfInBounds_toArray, List.set_cons_zero, List.set_cons_succ]
    refine wpAnyH_take (i := 7) (v := ?vp7) (opsS (opsS (opsS (opsS (opsS (opsS (opsS ops0))))))) (by kernel_rfl) (by kernel_rfl) (by kernel_rfl) (fun _ _ _ h => h) (Or.inl ⟨by rfl, ?yp7⟩) hHeldp0 ?_
    case yp7 => (intro w hSw; (try dsimp only at hSw); go_simp; try (with_reducible rfl))
    try simp only [Act.put, List.setIfInBounds_toArray, List.set_cons_zero, List.set_cons_succ]
    refine wpAnyH_take (i := 8) (v := ?vp8) (opsS (opsS (opsS (opsS (opsS (opsS (opsS (opsS ops0)))))))) (by kernel_rfl) (by kernel_rfl) (by kernel_rfl) (fun _ _ _ h => h) (Or.inl ⟨by rfl, ?yp8⟩) hHeldp0 ?_
    case yp8 => (intro w hSw; (try dsimp only at hSw); go_simp; try (with_reducible rfl))
    try simp only [Act.put, List.setIfInBounds_toArray, List.set_cons_zero, List.set_cons_succ]
    refine wpAnyH_take (i := 9) (v := ?vp9) (opsS (opsS (opsS (opsS (opsS (opsS (opsS (opsS (opsS ops0))))))))) (by kernel_rfl) (by kernel_rfl) (by kernel_rfl) (fun _ _ _ h => h) (Or.inl ⟨by rfl, ?yp9⟩) hHeldp0 ?_
    case yp9 => (intro w hSw; (try dsimp only at hSw); go_simp; try (with_reducible rfl))
    try simp only [Act.put, List.setIfInBounds_toArray, List.set_cons_zero, List.set_cons_succ]
    refine wpAnyH_take (i := 10) (v := ?vp10) (opsS (opsS (opsS (opsS (opsS (opsS (opsS (opsS (opsS (opsS ops0)))))))))) (by kernel_rfl) (by kernel_rfl) (by kernel_rfl) (fun _ _ _ h => h) (Or.inl ⟨by rfl, ?yp10⟩) hHeldp0 ?_
    case yp10 => (intro w hSw; (try dsimp only at hSw); go_simp; try (with_reducible rfl))
    try simp only [Act.put, List.setIfInBounds_toArray, List.set_cons_zero, List.set_cons_succ]
    refine wpAnyH_take (i := 12) (v := ?vp12) (opsS (opsS (opsS (opsS (opsS (opsS (opsS (opsS (opsS (opsS (opsS (opsS ops0)))))))))))) (by kernel_rfl) (by kernel_rfl) (by kernel_rfl) (fun _ _ _ h => h) (Or.inl ⟨by rfl, ?yp12⟩) hHeldp0 ?_
    case yp12 => (intro w hSw; (try dsimp only at hSw); go_simp; try (with_reducible rfl))
    try simp only [Act.put, List.setIfInBounds_toArray, List.set_cons_zero, List.set_cons_succ]
    refine wpAnyH_take (i := 13) (v := ?vp13) (opsS (opsS (opsS (opsS (opsS (opsS (opsS (opsS (opsS (opsS (opsS (opsS (opsS ops0))))))))))))) (by kernel_rfl) (by kernel_rfl) (by kernel_rfl) (fun _ _ _ h => h) (Or.inl ⟨by rfl, ?yp13⟩) hHeldp0 ?_
    case yp13 => (intro w hSw; (try dsimp only at hSw); go_simp; try (with_reducible rfl))
    try simp only [Act.put, List.setIfInBounds_toArray, List.set_cons_zero, List.set_cons_succ]
    refine wpAnyH_take (i := 14) (v := ?vp14) (opsS (opsS (opsS (opsS (opsS (opsS (opsS (opsS (opsS (opsS (opsS (opsS (opsS (opsS ops0)))))))))))))) (by kernel_rfl) (by kernel_rfl) (by kernel_rfl) (fun _ _ _ h => h) (Or.inl ⟨by rfl, ?yp14⟩) hHeldp0 ?_
    case yp14 => (intro w hSw; (try dsimp only at hSw); go_simp; try (with_reducible rfl))
    try simp only [Act.put, List.setIfInBounds_toArray, List.set_cons_zero, List.set_cons_succ]
    refine wpAnyH_take (i := 15) (v := ?vp15) (opsS (opsS (opsS (opsS (opsS (opsS (opsS (opsS (opsS (opsS (opsS (opsS (opsS (opsS (opsS ops0))))))))))))))) (by kernel_rfl) (by kernel_rfl) (by kernel_rfl) (fun _ _ _ h => h) (Or.inl ⟨by rfl, ?yp15⟩) hHeldp0 ?_
    case yp15 => (intro w hSw; (try dsimp only at hSw); go_simp; try (with_reducible rfl))
    try simp only [Act.put, List.setIfInBounds_toArray, List.set_cons_zero, List.set_cons_succ]
    refine wpAnyH_take (i := 17) (v := ?vp17) (opsS (opsS (opsS (opsS (opsS (opsS (opsS (opsS (opsS (opsS (opsS (opsS (opsS (opsS (opsS (opsS (opsS ops0))))))))))))))))) (by kernel_rfl) (by kernel_rfl) (by kernel_rfl) (fun _ _ _ h => h) (Or.inl ⟨by rfl, ?yp17⟩) hHeldp0 ?_
    case yp17 => (intro w hSw; (try dsimp only at hSw); go_simp; try (with_reducible rfl))
    try simp only [Act.put, List.setIfInBounds_toArray, List.set_cons_zero, List.set_cons_succ]
    refine wpAnyH_take (i := 18) (v := ?vp18) (opsS (opsS (opsS (opsS (opsS (opsS (opsS (opsS (opsS (opsS (opsS (opsS (opsS (opsS (opsS (opsS (opsS (opsS ops0)))))))))))))))))) (by kernel_rfl) (by kernel_rfl) (by kernel_rfl) (fun _ _ _ h => h) (Or.inl ⟨by rfl, ?yp18⟩) hHeldp0 ?_
    case yp18 => (intro w hSw; (try dsimp only at hSw); go_simp; try (with_reducible rfl))
    try simp only [Act.put, List.setIfInBounds_toArray, List.set_cons_zero, List.set_cons_succ]
    refine wpAnyH_take (i := 19) (v := ?vp19) (opsS (opsS (opsS (opsS (opsS (opsS (opsS (opsS (opsS (opsS (opsS (opsS (opsS (opsS (opsS (opsS (opsS (opsS (opsS ops0))))))))))))))))))) (by kernel_rfl) (by kernel_rfl) (by kernel_rfl) (fun _ _ _ h => h) (Or.inl ⟨by rfl, ?yp19⟩) hHeldp0 ?_
    case yp19 => (intro w hSw; (try dsimp only at hSw); go_simp; try (with_reducible rfl))
    try simp only [Act.put, List.setIfInBounds_toArray, List.set_cons_zero, List.set_cons_succ]
    refine wpAnyH_take (i := 20) (v := ?vp20) (opsS (opsS (opsS (opsS (opsS (opsS (opsS (opsS (opsS (opsS (opsS (opsS (opsS (opsS (opsS (opsS (opsS (opsS (opsS (opsS ops0)))))))))))))))))))) (by kernel_rfl) (by kernel_rfl) (by kernel_rfl) (fun _ _ _ h => h) (Or.inl ⟨by rfl, ?yp20⟩) hHeldp0 ?_
    case yp20 => (intro w hSw; (try dsimp only at hSw); go_simp; try (with_reducible rfl))
    try simp only [Act.put, List.setIfInBounds_toArray, List.set_cons_zero, List.set_cons_succ]
    refine wpAnyH_ready (rs := [6]) (by kernel_rfl) (by simp) ?_
    refine AllReadyH.cons (opsS (opsS (opsS (opsS (opsS (opsS ops0)))))) (fun K hK => ?_) AllReadyH.nil
    go_simp
    refine (HF0.out _ (HR0.out.more_below (HL.out.trans (hHeldp0.1.2.2.2.2.2.2.2.2.2.2.2.2.low.mono (by omega)))) (Lib.hid (HLt.out.next (HL.out.trans (hHeldp0.1.2.2.2.2.2.2.2.2.2.2.2.2.low.mono (by omega)))))).mono ?_; rintro e w' ⟨rfl, hb⟩
    try dsimp only
    refine hK.out _ _ ?_ (fun hHeldp1 => ?_)
    · (first | (exact ⟨Kn.far_12 hkn (low6 hkn.low (Nat.le_refl _) _ _ _ _ _ _), ⟨_, rfl, h6.out⟩⟩) | assumption | (go_split_ands; exact ⟨Kn.step_12 (by assumption) (by assumption), Res.step (by assumption) (by assumption)⟩) | (go_split_ands; exact ⟨Kn.drew_12 (by assumption), Res.drew (by assumption)⟩))
    clear hK K hHeldp0
    try clear hb
    try simp only [Act.put, List.setIfInBounds_toArray, List.set_cons_zero, List.set_cons_succ]
    refine wpAnyH_ready (rs := [11]) (by kernel_rfl) (by simp) ?_
    refine AllReadyH.cons (opsS (opsS (opsS (opsS (opsS (opsS (opsS (opsS (opsS (opsS (opsS ops0))))))))))) (fun K hK => ?_) AllReadyH.nil
    go_simp
    refine (HF1.out _ (HR0.out.more_below (HL.out.trans (hHeldp1.1.2.2.2.2.2.2.2.2.2.2.2.2.low.mono (by omega)))) (Lib.hid (HLt.out.next (HL.out.trans (hHeldp1.1.2.2.2.2.2.2.2.2.2.2.2.2.low.mono (by omega)))))).mono ?_; rintro e w' ⟨rfl, hb⟩
    try dsimp only
    refine hK.out _ _ ?_ (fun hHeldp2 => ?_)
    · (first | (exact ⟨Kn.far_12 hkn (low6 hkn.low (Nat.le_refl _) _ _ _ _ _ _), ⟨_, rfl, h6.out⟩⟩) | assumption | (go_split_ands; exact ⟨Kn.step_12 (by assumption) (by assumption), Res.step (by assumption) (by assumption)⟩) | (go_split_ands; exact ⟨Kn.drew_12 (by assumption), Res.drew (by assumption)⟩))
    clear hK K hHeldp1
    try clear hb
    try simp only [Act.put, List.setIfInBounds_toArray, List.set_cons_zero, List.set_cons_succ]
    refine wpAnyH_ready (rs := [16]) (by kernel_rfl) (by simp) ?_
    refine AllReadyH.cons (opsS (opsS (opsS (opsS (opsS (opsS (opsS (opsS (opsS (opsS (opsS (opsS (opsS (opsS (opsS (opsS ops0)))))))))))))))) (fun K hK => ?_) AllReadyH.nil
    go_simp
    refine (HF2.out _ (HR0.out.more_below (HL.out.trans (hHeldp2.1.2.2.2.2.2.2.2.2.2.2.2.2.low.mono (by omega)))) (Lib.hid (HLt.out.next (HL.out.trans (hHeldp2.1.2.2.2.2.2.2.2.2.2.2.2.2.low.mono (by omega)))))).mono ?_; rintro e w' ⟨rfl, hb⟩
    try dsimp only
    refine hK.out _ _ ?_ (fun hHeldp3 => ?_)
    · (first | (exact ⟨Kn.far_12 hkn (low6 hkn.low (Nat.le_refl _) _ _ _ _ _ _), ⟨_, rfl, h6.out⟩⟩) | assumption | (go_split_ands; exact ⟨Kn.step_12 (by assumption) (by assumption), Res.step (by assumption) (by assumption)⟩) | (go_split_ands; exact ⟨Kn.drew_12 (by assumption), Res.drew (by assumption)⟩))
    clear hK K hHeldp2
    try clear hb
    try simp only [Act.put, List.setIfInBounds_toArray, List.set_cons_zero, List.set_cons_succ]
    refine wpAnyH_ready (rs := [21]) (by kernel_rfl) (by simp) ?_
    refine AllReadyH.cons (opsS (opsS (opsS (opsS (opsS (opsS (opsS (opsS (opsS (opsS (opsS (opsS (opsS (opsS (opsS (opsS (opsS (opsS (opsS (opsS (opsS ops0))))))))))))))))))))) (fun K hK => ?_) AllReadyH.nil
    go_simp
    refine (HF3.out _ (HR0.out.more_below (HL.out.trans (hHeldp3.1.2.2.2.2.2.2.2.2.2.2.2.2.low.mono (by omega)))) (Lib.hid (HLt.out.next (HL.out.trans (hHeldp3.1.2.2.2.2.2.2.2.2.2.2.2.2.low.mono (by omega)))))).mono ?_; rintro e w' ⟨rfl, hb⟩
    try dsimp only
    refine hK.out _ _ ?_ (fun hHeldp4 => ?_)
    · (first | (exact ⟨Kn.far_12 hkn (low6 hkn.low (Nat.le_refl _) _ _ _ _ _ _), ⟨_, rfl, h6.out⟩⟩) | assumption | (go_split_ands; exact ⟨Kn.step_12 (by assumption) (by assumption), Res.step (by assumption) (by assumption)⟩) | (go_split_ands; exact ⟨Kn.drew_12 (by assumption), Res.drew (by assumption)⟩))
    clear hK K hHeldp3
    try clear hb
    try simp only [Act.put, List.setIfInBounds_toArray, List.set_cons_zero, List.set_cons_succ]
    refine wpAnyH_take (i := 22) (v := ?vp22) (opsS (opsS (opsS (opsS (opsS (opsS (opsS (opsS (opsS (opsS (opsS (opsS (opsS (opsS (opsS (opsS (opsS (opsS (opsS (opsS (opsS (opsS ops0)))))))))))))))))))))) (by kernel_rfl) (by kernel_rfl) (by kernel_rfl) (fun _ _ _ h => h) (Or.inl ⟨by rfl, ?yp22⟩) hHeldp4 ?_
    case yp22 => (intro w hSw; (try dsimp only at hSw); go_simp; try (with_reducible rfl))
    try simp only [Act.put, List.setIfInBounds_toArray, List.set_cons_zero, List.set_cons_succ]
    refine wpAnyH_ready (rs := [23]) (by kernel_rfl) (by simp) ?_
    refine AllReadyH.cons (opsS (opsS (opsS (opsS (opsS (opsS (opsS (opsS (opsS (opsS (opsS (opsS (opsS (opsS (opsS (opsS (opsS (opsS (opsS (opsS (opsS (opsS (opsS ops0))))))))))))))))))))))) (fun K hK => ?_) AllReadyH.nil
    obtain ⟨cs, hcs, hbk⟩ := hHeldp4.2; have f0 := hbk.frozen 0; have f1 := hbk.frozen 1; have f2 := hbk.frozen 2; have f3 := hbk.frozen 3; have f4 := hbk.frozen 4; have f5 := hbk.frozen 5; obtain ⟨e0, e1, e2, e3, e4, e5⟩ := Res.cells hcs hbk; go_simp; have h6 := Lib.hid (set6 (.string t) (.string s) (.int .i64 n0) (.int .i64 n1) (.int .i64 n2) (.int .i64 n3) hcs hbk); have hlf := Lib.hid (low6 (HL.out.trans (hHeldp4.1.2.2.2.2.2.2.2.2.2.2.2.2.low.mono (by omega))) (by omega : w.heap.size ≤ w.heap.size) (.string t) (.string s) (.int .i64 n0) (.int .i64 n1) (.int .i64 n2) (.int .i64 n3)); have hkn := hHeldp4.1.2.2.2.2.2.2.2.2.2.2.2.2
    try dsimp only
    refine hK.out _ _ ?_ (fun hHeldp5 => ?_)
    · (first | (exact ⟨Kn.far_12 hkn (low6 hkn.low (Nat.le_refl _) _ _ _ _ _ _), ⟨_, rfl, h6.out⟩⟩) | assumption | (go_split_ands; exact ⟨Kn.step_12 (by assumption) (by assumption), Res.step (by assumption) (by assumption)⟩) | (go_split_ands; exact ⟨Kn.drew_12 (by assumption), Res.drew (by assumption)⟩))
    clear hK K hHeldp4
    try clear hb
    try simp only [Act.put, List.setIfInBounds_toArray, List.set_cons_zero, List.set_cons_succ]
    refine wpAnyH_take (i := 24) (v := ?vp24) (opsS (opsS (opsS (opsS (opsS (opsS (opsS (opsS (opsS (opsS (opsS (opsS (opsS (opsS (opsS (opsS (opsS (opsS (opsS (opsS (opsS (opsS (opsS (opsS ops0)))))))))))))))))))))))) (by kernel_rfl) (by kernel_rfl) (by kernel_rfl) (fun _ _ _ h => h) (Or.inl ⟨by rfl, ?yp24⟩) hHeldp5 ?_
    case yp24 => (intro w hSw; (try dsimp only at hSw); go_simp; try (with_reducible rfl))
    try simp only [Act.put, List.setIfInBounds_toArray, List.set_cons_zero, List.set_cons_succ]
    refine wpAnyH_done (by kernel_rfl) ?_ _
    clear test
    go_wp2
    exact bodyPost_ret (v := .tuple #[.agg #[.string t, .string s, .int .i64 n0, .int .i64 n1, .int .i64 n2, .int .i64 n3], .bool true]) (by have r0 := h6.out.cell 0; have r1 := h6.out.cell 1; have r2 := h6.out.cell 2; have r3 := h6.out.cell 3; have r4 := h6.out.cell 4; have r5 := h6.out.cell 5; simp [results, Tryz.results23, go_sem, r0, r1, r2, r3, r4, r5]) rfl ⟨by rw [hY.out (by first | trivial | rfl)]; rfl, hlf.out⟩
set_option maxRecDepth 100000 in
set_option maxHeartbeats 8000000 in
theorem rof_any (w : World) (A : Option Addr) (ca : Nat) (xs : List En) (t : ByteArray) (hl : xs.length ≤ 100000) (h1 : Reads w w.heap.size 4 A xs.length (xs.flatMap En.cells)) (hsh : short xs) (ht : t.size ≤ 1000000) :
    Calls Tryz.prog 26 #[.slice A xs.length ca, .string t] w fun e w' => e = .returned (.tuple #[.agg (ofT xs t).cells, .bool (isT xs t)]) ∧ Below w.heap.size w w' := by
  have HF0 : Hid (∀ w, Reads w w.heap.size 4 A xs.length (xs.flatMap En.cells) → Calls Tryz.prog 46 #[.slice A xs.length ca, .string t, .string fB] w fun e w' => e = .returned (.int .i64 (limV xs t fB 1099511627776 1048576)) ∧ Below w.heap.size w w') := fun w h => rlimit_any w A ca xs t fB hl h hsh ht (by decide)
  have HF1 : Hid (∀ w, Reads w w.heap.size 4 A xs.length (xs.flatMap En.cells) → Calls Tryz.prog 46 #[.slice A xs.length ca, .string t, .string fR] w fun e w' => e = .returned (.int .i64 (limV xs t fR 1048576 8)) ∧ Below w.heap.size w w') := fun w h => rlimit_any w A ca xs t fR hl h hsh ht (by decide)
  have HF2 : Hid (∀ w, Reads w w.heap.size 4 A xs.length (xs.flatMap En.cells) → Calls Tryz.prog 46 #[.slice A xs.length ca, .string t, .string fU] w fun e w' => e = .returned (.int .i64 (limV xs t fU 1048576 16)) ∧ Below w.heap.size w w') := fun w h => rlimit_any w A ca xs t fU hl h hsh ht (by decide)
  have HF3 : Hid (∀ w, Reads w w.heap.size 4 A xs.length (xs.flatMap En.cells) → Calls Tryz.prog 46 #[.slice A xs.length ca, .string t, .string fQ] w fun e w' => e = .returned (.int .i64 (limV xs t fQ 64 16)) ∧ Below w.heap.size w w') := fun w h => rlimit_any w A ca xs t fQ hl h hsh ht (by decide)
  have hY := Lib.hid (@ofT_yes xs t)
  have hN := Lib.hid (@ofT_no xs t)
  have hI := Lib.hid (show isT xs t = (isName t.data.toList && isSec (secV xs t)) from rfl)
  have hS := Lib.hid (show secV xs t = (rgy.get xs (tkey t fS)).value from rfl)
  have HL := Lib.hid (below_lit w (.cells zeroC 51))
  have HB := Lib.hid (Blk.new w 51 zeroC)
  have H1 := Lib.hid (h1.more_below HL.out)
  clear h1 hsh
  generalize hga : rgy.get xs (tkey t fS) = ga at *
  obtain ⟨gn, gb, gv⟩ := ga
  have HG := Lib.hid hga
  clear hga
  simp only at hS
  have fa : ∀ w', (Instr.field 35 (.agg #[.int .i64 gn, .string gb, .string gv]) 2).run Tryz.prog w' = .ok (.string gv) w' := fun _ => by kernel_rfl
  rw [hS.out] at hY hI
  clear hS
  have HI := Lib.hid (fun w => reg.rname_any t w (by unfold maxLen; omega))
  have HC := Lib.hid (fun w => rsec_any gv w)
  generalize isName t.data.toList = nb at *
  generalize isSec gv = sb at *
  generalize limV xs t fB 1099511627776 1048576 = n0 at *
  generalize limV xs t fR 1048576 8 = n1 at *
  generalize limV xs t fU 1048576 16 = n2 at *
  generalize limV xs t fQ 64 16 = n3 at *
  go_enter Tryz.func26, Tryz.ntmps26
  go_wp2_with fail
  generalize w.alloc (.cells zeroC 51) = w0 at *
  refine (rtkey_any t fS _ ht (by decide)).mono ?_
  rintro e w1 ⟨rfl, rfl⟩
  go_wp2_with fail
  refine (rgy.rget_any _ A ca xs (tkey t fS) (by omega) H1.out).mono ?_
  rw [HG.out]
  rintro e w2 ⟨rfl, hb⟩
  replace HB := Lib.hid (Blk.below (Hid.out HB) hb (Hid.out HB).lt)
  replace H1 := Lib.hid ((Hid.out H1).more_below hb)
  replace HL := Lib.hid ((Hid.out HL).trans (hb.mono (Hid.out HL).size))
  clear hb
  go_wp2_with fail
  refine (HI.out _).mono ?_
  rintro e w3 ⟨rfl, rfl⟩
  cases nb with
  | false =>
    have hbf := HB.out
    have f0 := hbf.frozen 0
    have f1 := hbf.frozen 1
    have f2 := hbf.frozen 2
    have f3 := hbf.frozen 3
    have f4 := hbf.frozen 4
    have f5 := hbf.frozen 5
    have d0 : w3.cell? ⟨w.heap.size, 0, none⟩ = some (.string ⟨#[]⟩) := by rw [hbf.cell]; rfl
    have d1 : w3.cell? ⟨w.heap.size, 1, none⟩ = some (.string ⟨#[]⟩) := by rw [hbf.cell]; rfl
    have d2 : w3.cell? ⟨w.heap.size, 2, none⟩ = some (.int .i64 0) := by rw [hbf.cell]; rfl
    have d3 : w3.cell? ⟨w.heap.size, 3, none⟩ = some (.int .i64 0) := by rw [hbf.cell]; rfl
    have d4 : w3.cell? ⟨w.heap.size, 4, none⟩ = some (.int .i64 0) := by rw [hbf.cell]; rfl
    have d5 : w3.cell? ⟨w.heap.size, 5, none⟩ = some (.int .i64 0) := by rw [hbf.cell]; rfl
    go_wp2
    exact bodyPost_ret (v := .tuple #[.agg zeroC, .bool false]) (by simp [results, Tryz.results26, go_sem, d0, d1, d2, d3, d4, d5] <;> rfl) rfl ⟨by rw [hI.out, hN.out (by first | exact hI.out | trivial)]; rfl, low6 HL.out (Nat.le_refl _) _ _ _ _ _ _⟩
  | true =>
    go_wp2_with fail
    refine (HC.out _).mono ?_
    rintro e w4 ⟨rfl, rfl⟩
    cases sb with
    | false =>
      have hbf := HB.out
      have f0 := hbf.frozen 0
      have f1 := hbf.frozen 1
      have f2 := hbf.frozen 2
      have f3 := hbf.frozen 3
      have f4 := hbf.frozen 4
      have f5 := hbf.frozen 5
      have d0 : w4.cell? ⟨w.heap.size, 0, none⟩ = some (.string ⟨#[]⟩) := by rw [hbf.cell]; rfl
      have d1 : w4.cell? ⟨w.heap.size, 1, none⟩ = some (.string ⟨#[]⟩) := by rw [hbf.cell]; rfl
      have d2 : w4.cell? ⟨w.heap.size, 2, none⟩ = some (.int .i64 0) := by rw [hbf.cell]; rfl
      have d3 : w4.cell? ⟨w.heap.size, 3, none⟩ = some (.int .i64 0) := by rw [hbf.cell]; rfl
      have d4 : w4.cell? ⟨w.heap.size, 4, none⟩ = some (.int .i64 0) := by rw [hbf.cell]; rfl
      have d5 : w4.cell? ⟨w.heap.size, 5, none⟩ = some (.int .i64 0) := by rw [hbf.cell]; rfl
      go_wp2
      exact bodyPost_ret (v := .tuple #[.agg zeroC, .bool false]) (by simp [results, Tryz.results26, go_sem, d0, d1, d2, d3, d4, d5] <;> rfl) rfl ⟨by rw [hI.out, hN.out (by first | exact hI.out | trivial)]; rfl, low6 HL.out (Nat.le_refl _) _ _ _ _ _ _⟩
    | true =>
      go_wp2_with fail
      refine (HF0.out _ H1.out).mono ?_
      rintro e w5 ⟨rfl, hb⟩
      replace HB := Lib.hid (Blk.below (Hid.out HB) hb (Hid.out HB).lt)
      replace H1 := Lib.hid ((Hid.out H1).more_below hb)
      replace HL := Lib.hid ((Hid.out HL).trans (hb.mono (Hid.out HL).size))
      clear hb
      go_wp2_with fail
      refine (HF1.out _ H1.out).mono ?_
      rintro e w6 ⟨rfl, hb⟩
      replace HB := Lib.hid (Blk.below (Hid.out HB) hb (Hid.out HB).lt)
      replace H1 := Lib.hid ((Hid.out H1).more_below hb)
      replace HL := Lib.hid ((Hid.out HL).trans (hb.mono (Hid.out HL).size))
      clear hb
      go_wp2_with fail
      refine (HF2.out _ H1.out).mono ?_
      rintro e w7 ⟨rfl, hb⟩
      replace HB := Lib.hid (Blk.below (Hid.out HB) hb (Hid.out HB).lt)
      replace H1 := Lib.hid ((Hid.out H1).more_below hb)
      replace HL := Lib.hid ((Hid.out HL).trans (hb.mono (Hid.out HL).size))
      clear hb
      go_wp2_with fail
      refine (HF3.out _ H1.out).mono ?_
      rintro e w8 ⟨rfl, hb⟩
      replace HB := Lib.hid (Blk.below (Hid.out HB) hb (Hid.out HB).lt)
      replace H1 := Lib.hid ((Hid.out H1).more_below hb)
      replace HL := Lib.hid ((Hid.out HL).trans (hb.mono (Hid.out HL).size))
      clear hb
      have hbf := HB.out
      have f0 := hbf.frozen 0
      have f1 := hbf.frozen 1
      have f2 := hbf.frozen 2
      have f3 := hbf.frozen 3
      have f4 := hbf.frozen 4
      have f5 := hbf.frozen 5
      have d0 : w8.cell? ⟨w.heap.size, 0, none⟩ = some (.string ⟨#[]⟩) := by rw [hbf.cell]; rfl
      have d1 : w8.cell? ⟨w.heap.size, 1, none⟩ = some (.string ⟨#[]⟩) := by rw [hbf.cell]; rfl
      have d2 : w8.cell? ⟨w.heap.size, 2, none⟩ = some (.int .i64 0) := by rw [hbf.cell]; rfl
      have d3 : w8.cell? ⟨w.heap.size, 3, none⟩ = some (.int .i64 0) := by rw [hbf.cell]; rfl
      have d4 : w8.cell? ⟨w.heap.size, 4, none⟩ = some (.int .i64 0) := by rw [hbf.cell]; rfl
      have d5 : w8.cell? ⟨w.heap.size, 5, none⟩ = some (.int .i64 0) := by rw [hbf.cell]; rfl
      have h6 := Lib.hid (set6 (.string t) (.string gv) (.int .i64 n0) (.int .i64 n1) (.int .i64 n2) (.int .i64 n3) rfl HB.out)
      have hlf := Lib.hid (low6 HL.out (Nat.le_refl _) (.string t) (.string gv) (.int .i64 n0) (.int .i64 n1) (.int .i64 n2) (.int .i64 n3))
      go_wp2
      exact bodyPost_ret (v := .tuple #[.agg #[.string t, .string gv, .int .i64 n0, .int .i64 n1, .int .i64 n2, .int .i64 n3], .bool true]) (by have r0 := h6.out.cell 0; have r1 := h6.out.cell 1; have r2 := h6.out.cell 2; have r3 := h6.out.cell 3; have r4 := h6.out.cell 4; have r5 := h6.out.cell 5; simp [results, Tryz.results26, go_sem, r0, r1, r2, r3, r4, r5]) rfl ⟨by rw [hI.out, hY.out (by first | exact hI.out | trivial)]; rfl, hlf.out⟩
end Go.Proofs.YtkbgmdabmebdhaaGreatDoor.te
