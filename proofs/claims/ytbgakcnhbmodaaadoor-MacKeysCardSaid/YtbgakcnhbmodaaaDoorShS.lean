/- The walks of the reference of sha: what goes behind, the constants, a block, the sum. -/
import Derived.Test.YtbgakcnhbmodaaaDoorShR
import Derived.Test.YtbgakcnhbmodaaaDoorShE
namespace Go.Proofs.YtbgakcnhbmodaaaDoor.shr
open Go.ChangeShapes Go.WideShapes Go.ChangeAt Go.RowKit Go.Proofs.Aid
open Go.Proofs.YtbgakcnhbmodaaaDoor.oc (be be_length bz bz_append)
open Go.Proofs.YtbgakcnhbmodaaaDoor.sha
set_option linter.unusedVariables false
def PadSt (s : List UInt8) (j : Nat) : List UInt8 := s ++ (128 : UInt8) :: List.replicate j 0
theorem padSt_snoc (s : List UInt8) (j : Nat) : PadSt s j ++ [0] = PadSt s (j + 1) := by simp [PadSt, List.replicate_succ']
theorem padSt_length (s : List UInt8) (j : Nat) : (PadSt s j).length = s.length + 1 + j := by simp [PadSt]; omega
theorem padSt_all (s : List UInt8) : PadSt s (noughts s.length) ++ be 8 ((s.length * 8 : Nat) : Int) = padB s := by simp [PadSt, padB, fillB]
def Pad (s : List UInt8) (w : World) (e : Ending) (w' : World) : Prop := e = .returned (.string (bz (padB s))) ∧ Below w.heap.size w w'
set_option maxRecDepth 100000 in
set_option maxHeartbeats 2000000 in
theorem pad_any (s : ByteArray) (w : World) (hs : s.size ≤ 1099511627776) :
    Calls Tryd.prog 16 #[.string s] w (Pad s.data.toList w) := by
  have e0 : s ++ (⟨#[128]⟩ : ByteArray) = bz (PadSt s.data.toList 0) := by rw [← oc.bz_list s]; exact bz_append _ _
  go_enter Tryd.func16, Tryd.ntmps16
  go_wp2
  have hn := noughts_lt s.size
  have HNO : Hid (noughts s.size = 63 - (s.size + 8) % 64) := rfl
  have HALL := Lib.hid (padSt_all s.data.toList)
  have HLEN := Lib.hid (fun j => padSt_length s.data.toList j)
  have hsl : s.data.toList.length = s.size := by simp
  have HSN := Lib.hid (padSt_snoc s.data.toList)
  rw [hsl] at HALL HLEN
  clear hsl e0
  generalize noughts s.size = N at *
  go_loopw [0] (fun sv wr => ∃ j : Nat, j ≤ N ∧ sv = .string (bz (PadSt s.data.toList j)) ∧ wr = w) (fun sv _ => (match sv with | .string x => s.size + 100 - x.size | _ => 0))
  case atStart => exact ⟨0, by omega, rfl, rfl⟩
  case round =>
    obtain ⟨j, hj, rfl, rfl⟩ := hrel
    have hz : (bz (PadSt s.data.toList j)).size = s.size + 1 + j := by rw [oc.bz_size, HLEN.out]
    have hap := Lib.hid (bz_append (PadSt s.data.toList j) [0])
    rw [HSN.out] at hap
    by_cases hlt : j < N
    · have hm : ¬ ((bz (PadSt s.data.toList j)).size : Int) % 64 = 56 := by have := HNO.out; omega
      have hm2 : ((((bz (PadSt s.data.toList j)).size : Int) % 64) == 56) = false := by simpa using hm
      have hb1 : (bz (PadSt s.data.toList j)).size ≤ 1099511627900 := by omega
      have hz2 : Hid ((bz (PadSt s.data.toList (j + 1))).size = s.size + 1 + (j + 1)) := by unfold Hid; rw [oc.bz_size, HLEN.out]
      have hz1 := Lib.hid hz
      clear hz
      generalize bz (PadSt s.data.toList j) = z at *
      go_wp2
      go_roundw
      case rel => exact ⟨j + 1, by omega, by rw [← hap.out]; rfl, by trivial⟩
      case measure =>
        have h1 := hz1.out
        have h2 := hz2.out
        rw [← hap.out] at h2
        show s.size + 100 - (z ++ bz [0]).size < s.size + 100 - z.size
        omega
    · have hjN : j = N := by omega
      have hm : ((bz (PadSt s.data.toList j)).size : Int) % 64 = 56 := by have := HNO.out; omega
      have hb1 : (bz (PadSt s.data.toList j)).size ≤ 1099511627900 := by omega
      have HI := Lib.hid (oc.qintB_any (8 * (s.size : Int)) wr)
      have HOUT : Hid (bz (PadSt s.data.toList j) ++ bz (be 8 (8 * (s.size : Int))) = bz (padB s.data.toList)) := by
        unfold Hid
        rw [bz_append, hjN, ← HALL.out]
        congr 3
        omega
      have hsb : (bz (be 8 (8 * (s.size : Int)))).size = 8 := by rw [oc.bz_size, be_length]
      clear hz hap hjN
      generalize bz (PadSt s.data.toList j) = z at *
      go_wp2_with fail
      refine HI.out.mono ?_
      rintro e w1 ⟨rfl, hb⟩
      generalize bz (be 8 (8 * (s.size : Int))) = y at *
      have HF : Hid (Pad s.data.toList wr (.returned (.string (bz (padB s.data.toList)))) w1) := ⟨rfl, hb⟩
      clear hb HI
      go_wp2
      go_ret
      rw [HOUT.out]
      exact HF.out
theorem wpList_built {P : Program} {ops : Array Oper} {rest : List Oper} {o : Oper} {a : Act} {w : World} {Q : Exit → Act → World → Prop} (hg : o.guard = none) (t : TypeId) (parts : Array (Nat × Operand)) (ho : o.op = .build t parts) (c : Array Value)
    (hb : P.built t (parts.map fun (i, x) => (i, a.eval x)).toList = some c) (h : wpList P ops Q rest (a.put o.dst (.agg c)) w) : wpList P ops Q (o :: rest) a w :=
  wpList_build hg t parts ho (by rw [hb]; rfl) (by rw [hb]; exact h)
def Const (w : World) (e : Ending) (w' : World) : Prop := e = .returned (.agg (wcell .i64 64 kTab)) ∧ Below w.heap.size w w'
theorem zero58 (w : World) : (zeroValue 51).run Tryd.prog w = .ok (.agg (wcell .i64 64 [])) w := by kernel_rfl
theorem info58 : (Tryd.prog.info? 51).map (·.size) = some 64 := by kernel_rfl
set_option maxRecDepth 100000 in
set_option maxHeartbeats 2000000 in
theorem constants_any (w : World) : Calls Tryd.prog 25 #[] w (Const w) := by
  have hz := zero58
  have HZ := Lib.hid (wcell_size .i64 64 [])
  have HK := Lib.hid (rfl : wcell .i64 64 kTab = wcell .i64 64 kTab)
  generalize wcell .i64 64 [] = Z0 at *
  have HB := Lib.hid (Blk.new w 51 Z0)
  have HL := Lib.hid (below_lit w (.cells Z0 51))
  go_enter Tryd.func25, Tryd.ntmps25
  go_wp2_with (first | (refine wpList_built rfl 51 _ rfl (wcell .i64 64 kTab) (by kernel_rfl) ?_) | refine wpList_store_row rfl 51 _ _ rfl w.heap.size (wcell .i64 64 kTab) rfl rfl 51 Z0 HB.out (by rw [wcell_size]; exact info58) (by rw [HZ.out, wcell_size]) (wcell_one _ _ _) ?_)
  exact bodyPost_ret (v := .agg (wcell .i64 64 kTab)) (results_cell_row (p := 0) (ty := 51) rfl _ _ w.heap.size 51 _ (0, 0) _ rfl (blk_setRow HB.out) Tryd.underlying51 rfl (by rw [wcell_size]; exact info58)) rfl ⟨rfl, below_setRow HL.out (Nat.le_refl _) _⟩
end Go.Proofs.YtbgakcnhbmodaaaDoor.shr
