/- What a user may do, by the package and by the reference. -/
import Derived.Test.YtcapahehfokihaaDoorAcK
import Derived.Test.YtcapahehfokihaaDoorRgS
namespace Go.Proofs.YtcapahehfokihaaDoor.acc
open Go.ChangeShapes Go.WideShapes Go.ChangeAt Go.RowKit Go.Proofs.Aid
open Go.Proofs.YtcapahehfokihaaDoor.rgy (En)
open Go.Proofs.YtcapahehfokihaaDoor.reg (Rg)
theorem rigN_bd (s : ByteArray) : 0 ≤ rigN s ∧ rigN s ≤ 7 := by
  unfold rigN
  cases e : rig s with
  | none => exact ⟨by simp, by simp⟩
  | some n =>
    unfold rig at e
    have := List.mem_of_find?_eq_some e
    simp at this
    exact ⟨by simp, by simp; omega⟩
def orI (a b : Int) : Int := bits BinOp.or IntKind.i64 a b
theorem orI_zero {a : Int} (ha : 0 ≤ a ∧ a ≤ 7) : bits BinOp.or IntKind.i64 0 a = a := by
  have h1 : a = 0 ∨ a = 1 ∨ a = 2 ∨ a = 3 ∨ a = 4 ∨ a = 5 ∨ a = 6 ∨ a = 7 := by omega
  clear ha
  rcases h1 with rfl | rfl | rfl | rfl | rfl | rfl | rfl | rfl <;> decide +kernel
def rgt (l : List En) (t b u : ByteArray) : Int := rigN (rgy.get l (key t b u)).value
def ofA (l : List En) (t b u : ByteArray) : Int := orI (rgt l t b u) (rgt l t b ⟨#[97, 108, 108]⟩)
set_option maxRecDepth 100000 in
set_option maxHeartbeats 8000000 in
theorem of_any (w : World) (A : Option Addr) (ca : Nat) (xs : List En) (t b u : ByteArray) (hl : xs.length ≤ 100000) (h1 : Reads w w.heap.size 4 A xs.length (xs.flatMap En.cells)) (ht : t.size ≤ 1000000) (hb : b.size ≤ 1000000) (hu : u.size ≤ 1000000) (HLt : Hid (Lets w)) :
    Calls Tryd.prog 9 #[.slice A xs.length ca, .string t, .string b, .string u] w fun e w' => e = .returned (.int .i64 (ofA xs t b u)) ∧ Below w.heap.size w w' := by
  have H1 := Lib.hid h1
  have HL := Lib.hid (Below.refl w.heap.size w)
  clear h1
  have hO := Lib.hid (show ofA xs t b u = orI (rigN (rgy.get xs (key t b u)).value) (rigN (rgy.get xs (key t b ⟨#[97, 108, 108]⟩)).value) from rfl)
  generalize hga : rgy.get xs (key t b u) = ga at *
  obtain ⟨gna, gba, gva⟩ := ga
  have HGa := Lib.hid hga
  clear hga
  generalize hgb : rgy.get xs (key t b ⟨#[97, 108, 108]⟩) = gb at *
  obtain ⟨gnb, gbb, gvb⟩ := gb
  have HGb := Lib.hid hgb
  clear hgb
  simp only at hO
  have hba := rigN_bd gva
  have hbb := rigN_bd gvb
  generalize hra : rigN gva = ra at *
  generalize hrb : rigN gvb = rb at *
  have HRa := Lib.hid hra
  have HRb := Lib.hid hrb
  clear hra hrb
  have fa : ∀ w', (Instr.field 31 (.agg #[.int .i64 gna, .string gba, .string gva]) 2).run Tryd.prog w' = .ok (.string gva) w' := fun _ => by kernel_rfl
  have fb : ∀ w', (Instr.field 31 (.agg #[.int .i64 gnb, .string gbb, .string gvb]) 2).run Tryd.prog w' = .ok (.string gvb) w' := fun _ => by kernel_rfl
  have i0 : ∀ w', (Instr.index 47 (.agg #[.string u, .string ⟨#[97, 108, 108]⟩]) (.int .i64 0)).run Tryd.prog w' = .ok (.string u) w' := fun _ => by kernel_rfl
  have i1 : ∀ w', (Instr.index 47 (.agg #[.string u, .string ⟨#[97, 108, 108]⟩]) (.int .i64 1)).run Tryd.prog w' = .ok (.string ⟨#[97, 108, 108]⟩) w' := fun _ => by kernel_rfl
  have O1 := Lib.hid (orI_zero hba)
  clear hba hbb
  go_enter Tryd.func9, Tryd.ntmps9
  go_wp2
  refine wp_loop_rounds 3 ?_
  rw [rounds_succ]
  go_wp2_with fail
  refine (key_any t b u _ ht hb hu).mono ?_
  rintro e wa1 ⟨rfl, hb⟩
  replace H1 := Lib.hid ((Hid.out H1).more_below hb)
  replace HL := Lib.hid ((Hid.out HL).trans (hb.mono (Hid.out HL).size))
  clear hb
  go_wp2_with fail
  refine (rgy.get_any _ A ca xs (key t b u) (by omega) H1.out).mono ?_
  rw [HGa.out]
  rintro e wa2 ⟨rfl, hb⟩
  replace H1 := Lib.hid ((Hid.out H1).more_below hb)
  replace HL := Lib.hid ((Hid.out HL).trans (hb.mono (Hid.out HL).size))
  clear hb
  go_wp2_with fail
  refine (rights_any gva _ (Lib.hid (HLt.out.below HL.out HLt.out.lt))).mono ?_
  rw [HRa.out]
  rintro e wa3 ⟨rfl, rfl⟩
  generalize (rig gva).isSome = sa
  go_wp2
  rw [rounds_succ]
  go_wp2_with fail
  refine (key_any t b ⟨#[97, 108, 108]⟩ _ ht hb (by decide)).mono ?_
  rintro e wb1 ⟨rfl, hb⟩
  replace H1 := Lib.hid ((Hid.out H1).more_below hb)
  replace HL := Lib.hid ((Hid.out HL).trans (hb.mono (Hid.out HL).size))
  clear hb
  go_wp2_with fail
  refine (rgy.get_any _ A ca xs (key t b ⟨#[97, 108, 108]⟩) (by omega) H1.out).mono ?_
  rw [HGb.out]
  rintro e wb2 ⟨rfl, hb⟩
  replace H1 := Lib.hid ((Hid.out H1).more_below hb)
  replace HL := Lib.hid ((Hid.out HL).trans (hb.mono (Hid.out HL).size))
  clear hb
  go_wp2_with fail
  refine (rights_any gvb _ (Lib.hid (HLt.out.below HL.out HLt.out.lt))).mono ?_
  rw [HRb.out]
  rintro e wb3 ⟨rfl, rfl⟩
  generalize (rig gvb).isSome = sb
  go_wp2
  rw [rounds_succ]
  go_wp2
  go_ret
  exact ⟨ret_int (by rw [hO.out, O1.out]; rfl), HL.out⟩
set_option maxRecDepth 100000 in
set_option maxHeartbeats 8000000 in
theorem rof_any (w : World) (A : Option Addr) (ca : Nat) (xs : List En) (t b u : ByteArray) (hl : xs.length ≤ 100000) (h1 : Reads w w.heap.size 4 A xs.length (xs.flatMap En.cells)) (ht : t.size ≤ 1000000) (hb : b.size ≤ 1000000) (hu : u.size ≤ 1000000) :
    Calls Tryd.prog 10 #[.slice A xs.length ca, .string t, .string b, .string u] w fun e w' => e = .returned (.int .i64 (ofA xs t b u)) ∧ Below w.heap.size w w' := by
  have H1 := Lib.hid h1
  have HL := Lib.hid (Below.refl w.heap.size w)
  clear h1
  have hO := Lib.hid (show ofA xs t b u = orI (rigN (rgy.get xs (key t b u)).value) (rigN (rgy.get xs (key t b ⟨#[97, 108, 108]⟩)).value) from rfl)
  generalize hga : rgy.get xs (key t b u) = ga at *
  obtain ⟨gna, gba, gva⟩ := ga
  have HGa := Lib.hid hga
  clear hga
  generalize hgb : rgy.get xs (key t b ⟨#[97, 108, 108]⟩) = gb at *
  obtain ⟨gnb, gbb, gvb⟩ := gb
  have HGb := Lib.hid hgb
  clear hgb
  simp only at hO
  have hba := rigN_bd gva
  have hbb := rigN_bd gvb
  generalize hra : rigN gva = ra at *
  generalize hrb : rigN gvb = rb at *
  have HRa := Lib.hid hra
  have HRb := Lib.hid hrb
  clear hra hrb
  have fa : ∀ w', (Instr.field 31 (.agg #[.int .i64 gna, .string gba, .string gva]) 2).run Tryd.prog w' = .ok (.string gva) w' := fun _ => by kernel_rfl
  have fb : ∀ w', (Instr.field 31 (.agg #[.int .i64 gnb, .string gbb, .string gvb]) 2).run Tryd.prog w' = .ok (.string gvb) w' := fun _ => by kernel_rfl
  clear hba hbb
  go_enter Tryd.func10, Tryd.ntmps10
  go_wp2_with fail
  refine (rkey_any t b u _ ht hb hu).mono ?_
  rintro e wa1 ⟨rfl, rfl⟩
  go_wp2_with fail
  refine (rgy.rget_any _ A ca xs (key t b u) (by omega) H1.out).mono ?_
  rw [HGa.out]
  rintro e wa2 ⟨rfl, hb⟩
  replace H1 := Lib.hid ((Hid.out H1).more_below hb)
  replace HL := Lib.hid ((Hid.out HL).trans (hb.mono (Hid.out HL).size))
  clear hb
  go_wp2_with fail
  refine (rrights_any gva _).mono ?_
  rw [HRa.out]
  rintro e wa3 ⟨rfl, rfl⟩
  generalize (rig gva).isSome = sa
  go_wp2_with fail
  refine (rkey_any t b ⟨#[97, 108, 108]⟩ _ ht hb (by decide)).mono ?_
  rintro e wb1 ⟨rfl, rfl⟩
  go_wp2_with fail
  refine (rgy.rget_any _ A ca xs (key t b ⟨#[97, 108, 108]⟩) (by omega) H1.out).mono ?_
  rw [HGb.out]
  rintro e wb2 ⟨rfl, hb⟩
  replace H1 := Lib.hid ((Hid.out H1).more_below hb)
  replace HL := Lib.hid ((Hid.out HL).trans (hb.mono (Hid.out HL).size))
  clear hb
  go_wp2_with fail
  refine (rrights_any gvb _).mono ?_
  rw [HRb.out]
  rintro e wb3 ⟨rfl, rfl⟩
  generalize (rig gvb).isSome = sb
  go_wp2
  go_ret
  exact ⟨ret_int (by rw [hO.out]; rfl), HL.out⟩
end Go.Proofs.YtcapahehfokihaaDoor.acc
