/- What a field of a bucket's properties is: the package's function value and the reference's function. -/
import Derived.Test.YtknpbeekdjghgaaDoorPpB
import Derived.Test.YtknpbeekdjghgaaDoorNmN
import Derived.Test.YtknpbeekdjghgaaDoorKn
namespace Go.Proofs.YtknpbeekdjghgaaDoor.pp
set_option linter.unusedSimpArgs false
open Go.ChangeShapes Go.WideShapes Go.ChangeAt Go.RowKit Go.Proofs.Aid
open Go.Proofs.YtknpbeekdjghgaaDoor.rgy (En)
open Go.Proofs.YtknpbeekdjghgaaDoor.nm (Lets num numV numR)
/-- What a field has; else what it has usually. -/
def fieldV (l : List En) (t b f : ByteArray) (u : Int) : Int := if (num (rgy.get l (pkey t b f)).value).isSome && mayF f (numV (rgy.get l (pkey t b f)).value) then numV (rgy.get l (pkey t b f)).value else u
/-- The values of registers are short. -/
def short (l : List En) : Prop := ∀ x ∈ l, x.reg.value.size ≤ 300
theorem get_short {l : List En} (h : short l) (k : ByteArray) : (rgy.get l k).value.size ≤ 300 := by
  unfold rgy.get rgy.look
  cases e : l.find? (fun e => decide (e.key = k)) with
  | none => exact Nat.zero_le _
  | some x => exact h x (List.mem_of_find?_eq_some e)
set_option maxRecDepth 100000 in
set_option maxHeartbeats 8000000 in
theorem fieldF_any (w : World) (A : Option Addr) (ca : Nat) (xs : List En) (t b f : ByteArray) (u : Int) (pl pt pb : Addr) (hl : xs.length ≤ 100000) (h1 : Reads w w.heap.size 4 A xs.length (xs.flatMap En.cells)) (hsh : short xs) (ht : t.size ≤ 1000000) (hb : b.size ≤ 1000000) (hf : f.size ≤ 1000000)
    (cl : w.cell? pl = some (.slice A xs.length ca)) (ct : w.cell? pt = some (.string t)) (cb : w.cell? pb = some (.string b)) (HLt : Hid (Lets w)) :
    Calls Tryd.prog 25 #[.string f, .int .i64 u, .pointer (some pl), .pointer (some pt), .pointer (some pb)] w fun e w' => e = .returned (.int .i64 (fieldV xs t b f u)) ∧ Below w.heap.size w w' := by
  have H1 := Lib.hid h1
  have hgs := get_short hsh (pkey t b f)
  clear h1 hsh
  have hO := Lib.hid (show fieldV xs t b f u = if (num (rgy.get xs (pkey t b f)).value).isSome && mayF f (numV (rgy.get xs (pkey t b f)).value) then numV (rgy.get xs (pkey t b f)).value else u from rfl)
  generalize hga : rgy.get xs (pkey t b f) = ga at *
  obtain ⟨gn, gb, gv⟩ := ga
  have HG := Lib.hid hga
  clear hga
  simp only at hO hgs
  have fa : ∀ w', (Instr.field 32 (.agg #[.int .i64 gn, .string gb, .string gv]) 2).run Tryd.prog w' = .ok (.string gv) w' := fun _ => by kernel_rfl
  have HN := Lib.hid (fun w hL => nm.num_any gv w (by omega) hL)
  unfold numR at HN
  generalize (num gv).isSome = no at *
  generalize numV gv = nv at *
  have HM := Lib.hid (fun w => may_any f nv w)
  generalize mayF f nv = mf at *
  have test := Kn.drew_3 (Kn.new_3 (w0 := w) (M := w.heap.size) (p0 := pl) (p1 := pt) (p2 := pb) (v0 := .slice A xs.length ca) (v1 := .string t) (v2 := .string b) (Nat.le_refl _) cl (block_lt cl) ct (block_lt ct) cb (block_lt cb))
  clear cl ct cb
  go_enter Tryd.func25, Tryd.ntmps25
  go_wp2_with fail
  refine wp_region_held_drew (S := (fun w' => w'.cell? (pl) = some (.slice A xs.length ca) ∧ w'.cell? (pt) = some (.string t) ∧ w'.cell? (pb) = some (.string b) ∧ Hid (Kn (w.heap.size) (w) [(pl, .slice A xs.length ca), (pt, .string t), (pb, .string b)] w'))) (by kernel_rfl) ?_ (fun hHeldp0 => ?_)
  · exact test
  refine wpAnyH_take (i := 0) (v := ?vp0) ops0 (by kernel_rfl) (by kernel_rfl) (by kernel_rfl) (fun _ _ _ h => h) (Or.inl ⟨by rfl, ?yp0⟩) hHeldp0 ?_
  case yp0 => (intro w hSw; (try dsimp only at hSw); go_simp; try (with_reducible rfl))
  try simp only [Act.put, List.setIfInBounds_toArray, List.set_cons_zero, List.set_cons_succ]
  refine wpAnyH_take (i := 1) (v := ?vp1) (opsS ops0) (by kernel_rfl) (by kernel_rfl) (by kernel_rfl) (fun _ _ _ h => h) (Or.inl ⟨by rfl, ?yp1⟩) hHeldp0 ?_
  case yp1 => (intro w hSw; (try dsimp only at hSw); go_simp; try (with_reducible rfl))
  try simp only [Act.put, List.setIfInBounds_toArray, List.set_cons_zero, List.set_cons_succ]
  refine wpAnyH_take (i := 2) (v := ?vp2) (opsS (opsS ops0)) (by kernel_rfl) (by kernel_rfl) (by kernel_rfl) (fun _ _ _ h => h) (Or.inl ⟨by rfl, ?yp2⟩) hHeldp0 ?_
  case yp2 => (intro w hSw; (try dsimp only at hSw); go_simp; try (with_reducible rfl))
  try simp only [Act.put, List.setIfInBounds_toArray, List.set_cons_zero, List.set_cons_succ]
  refine wpAnyH_take (i := 3) (v := ?vp3) (opsS (opsS (opsS ops0))) (by kernel_rfl) (by kernel_rfl) (by kernel_rfl) (fun _ _ _ h => h) (Or.inl ⟨by rfl, ?yp3⟩) hHeldp0 ?_
  case yp3 => (intro w hSw; (try dsimp only at hSw); go_simp; try (with_reducible rfl))
  try simp only [Act.put, List.setIfInBounds_toArray, List.set_cons_zero, List.set_cons_succ]
  refine wpAnyH_ready (rs := [4]) (by kernel_rfl) (by simp) ?_
  refine AllReadyH.cons (opsS (opsS (opsS (opsS ops0)))) (fun K hK => ?_) AllReadyH.nil
  go_simp
  refine (pkey_any t b f _ ht hb hf).mono ?_; rintro e w' ⟨rfl, hb⟩
  try dsimp only
  refine hK.out _ _ ?_ (fun hHeldp1 => ?_)
  · (first | assumption | exact Kn.drew_3 (by assumption) | (go_split_ands; exact Kn.drew_3 (by assumption)) | (go_split_ands; exact Kn.step_3 (by assumption) (by assumption)) | (go_split_ands; exact Kn.alloc_3 (by assumption) _) | (go_split_ands; exact Kn.far_3 (by assumption) (by assumption)))
  clear hK K hHeldp0
  try clear hb
  try simp only [Act.put, List.setIfInBounds_toArray, List.set_cons_zero, List.set_cons_succ]
  refine wpAnyH_ready (rs := [5]) (by kernel_rfl) (by simp) ?_
  refine AllReadyH.cons (opsS (opsS (opsS (opsS (opsS ops0))))) (fun K hK => ?_) AllReadyH.nil
  go_simp
  refine (rgy.get_any _ A ca xs (pkey t b f) (by omega) (H1.out.more_below hHeldp1.2.2.2.low)).mono ?_; rw [HG.out]; rintro e w' ⟨rfl, hb⟩
  try dsimp only
  refine hK.out _ _ ?_ (fun hHeldp2 => ?_)
  · (first | assumption | exact Kn.drew_3 (by assumption) | (go_split_ands; exact Kn.drew_3 (by assumption)) | (go_split_ands; exact Kn.step_3 (by assumption) (by assumption)) | (go_split_ands; exact Kn.alloc_3 (by assumption) _) | (go_split_ands; exact Kn.far_3 (by assumption) (by assumption)))
  clear hK K hHeldp1
  try clear hb
  try simp only [Act.put, List.setIfInBounds_toArray, List.set_cons_zero, List.set_cons_succ]
  refine wpAnyH_take (i := 6) (v := ?vp6) (opsS (opsS (opsS (opsS (opsS (opsS ops0)))))) (by kernel_rfl) (by kernel_rfl) (by kernel_rfl) (fun _ _ _ h => h) (Or.inl ⟨by rfl, ?yp6⟩) hHeldp2 ?_
  case yp6 => (intro w hSw; (try dsimp only at hSw); go_simp; try (with_reducible rfl))
  try simp only [Act.put, List.setIfInBounds_toArray, List.set_cons_zero, List.set_cons_succ]
  refine wpAnyH_ready (rs := [7]) (by kernel_rfl) (by simp) ?_
  refine AllReadyH.cons (opsS (opsS (opsS (opsS (opsS (opsS (opsS ops0))))))) (fun K hK => ?_) AllReadyH.nil
  go_simp
  refine (HN.out _ (Lib.hid (HLt.out.next hHeldp2.2.2.2.low))).mono ?_; rintro e w' ⟨rfl, hb⟩
  try dsimp only
  refine hK.out _ _ ?_ (fun hHeldp3 => ?_)
  · (first | assumption | exact Kn.drew_3 (by assumption) | (go_split_ands; exact Kn.drew_3 (by assumption)) | (go_split_ands; exact Kn.step_3 (by assumption) (by assumption)) | (go_split_ands; exact Kn.alloc_3 (by assumption) _) | (go_split_ands; exact Kn.far_3 (by assumption) (by assumption)))
  clear hK K hHeldp2
  try clear hb
  try simp only [Act.put, List.setIfInBounds_toArray, List.set_cons_zero, List.set_cons_succ]
  refine wpAnyH_take (i := 8) (v := ?vp8) (opsS (opsS (opsS (opsS (opsS (opsS (opsS (opsS ops0)))))))) (by kernel_rfl) (by kernel_rfl) (by kernel_rfl) (fun _ _ _ h => h) (Or.inl ⟨by rfl, ?yp8⟩) hHeldp3 ?_
  case yp8 => (intro w hSw; (try dsimp only at hSw); go_simp; try (with_reducible rfl))
  try simp only [Act.put, List.setIfInBounds_toArray, List.set_cons_zero, List.set_cons_succ]
  refine wpAnyH_take (i := 9) (v := ?vp9) (opsS (opsS (opsS (opsS (opsS (opsS (opsS (opsS (opsS ops0))))))))) (by kernel_rfl) (by kernel_rfl) (by kernel_rfl) (fun _ _ _ h => h) (Or.inl ⟨by rfl, ?yp9⟩) hHeldp3 ?_
  case yp9 => (intro w hSw; (try dsimp only at hSw); go_simp; try (with_reducible rfl))
  try simp only [Act.put, List.setIfInBounds_toArray, List.set_cons_zero, List.set_cons_succ]
  refine wpAnyH_take (i := 10) (v := ?vp10) (opsS (opsS (opsS (opsS (opsS (opsS (opsS (opsS (opsS (opsS ops0)))))))))) (by kernel_rfl) (by kernel_rfl) (by kernel_rfl) (fun _ _ _ h => h) (Or.inl ⟨by rfl, ?yp10⟩) hHeldp3 ?_
  case yp10 => (intro w hSw; (try dsimp only at hSw); go_simp; try (with_reducible rfl))
  try simp only [Act.put, List.setIfInBounds_toArray, List.set_cons_zero, List.set_cons_succ]
  refine wpAnyH_take (i := 11) (v := ?vp11) (opsS (opsS (opsS (opsS (opsS (opsS (opsS (opsS (opsS (opsS (opsS ops0))))))))))) (by kernel_rfl) (by kernel_rfl) (by kernel_rfl) (fun _ _ _ h => h) (Or.inl ⟨by rfl, ?yp11⟩) hHeldp3 ?_
  case yp11 => (intro w hSw; (try dsimp only at hSw); go_simp; try (with_reducible rfl))
  try simp only [Act.put, List.setIfInBounds_toArray, List.set_cons_zero, List.set_cons_succ]
  refine wpAnyH_take (i := 12) (v := ?vp12) (opsS (opsS (opsS (opsS (opsS (opsS (opsS (opsS (opsS (opsS (opsS (opsS ops0)))))))))))) (by kernel_rfl) (by kernel_rfl) (by kernel_rfl) (fun _ _ _ h => h) (Or.inl ⟨by rfl, ?yp12⟩) hHeldp3 ?_
  case yp12 => (intro w hSw; (try dsimp only at hSw); go_simp; try (with_reducible rfl))
  try simp only [Act.put, List.setIfInBounds_toArray, List.set_cons_zero, List.set_cons_succ]
  refine wpAnyH_done (by kernel_rfl) ?_ _
  have HL := Lib.hid (hHeldp3.2.2.2.low)
  clear hHeldp3 test
  cases no with
  | false =>
    have hR := Lib.hid (show fieldV xs t b f u = u by rw [hO.out]; rfl)
    go_wp2
    go_ret
    exact ⟨ret_int hR.out.symm, HL.out⟩
  | true =>
    cases mf with
    | false =>
      have hR := Lib.hid (show fieldV xs t b f u = u by rw [hO.out]; rfl)
      go_wp2_with fail
      refine (HM.out _).mono ?_
      rintro e w2 ⟨rfl, rfl⟩
      go_wp2
      go_ret
      exact ⟨ret_int hR.out.symm, HL.out⟩
    | true =>
      have hR := Lib.hid (show fieldV xs t b f u = nv by rw [hO.out]; rfl)
      go_wp2_with fail
      refine (HM.out _).mono ?_
      rintro e w2 ⟨rfl, rfl⟩
      go_wp2
      go_ret
      exact ⟨ret_int hR.out.symm, HL.out⟩
end Go.Proofs.YtknpbeekdjghgaaDoor.pp
