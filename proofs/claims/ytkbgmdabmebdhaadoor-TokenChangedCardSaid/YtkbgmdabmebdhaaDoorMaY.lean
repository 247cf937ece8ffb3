/- The walks of mac: Is, for seats without mac's reference. -/
import Derived.Test.YtkbgmdabmebdhaaDoorMaB
namespace Go.Proofs.YtkbgmdabmebdhaaDoor.mac
open Go.ChangeShapes Go.WideShapes Go.ChangeAt Go.RowKit Go.Proofs.Aid
open Go.Proofs.YtkbgmdabmebdhaaDoor.oc (be be_length bz bz_append)
open Go.Proofs.YtkbgmdabmebdhaaDoor.sha
set_option linter.unusedVariables false
def IsD (b : Bool) (w : World) (e : Ending) (w' : World) : Prop := e = .returned (.bool b) ∧ Below w.heap.size w w'
set_option maxHeartbeats 1000000 in
theorem is_yes (k s : ByteArray) (w : World) (hk : k.size ≤ 1000000) (hs : s.size ≤ 1000000) (hl : Lets w) :
    Calls Tryd.prog 18 #[.string k, .string s, .string (bz (macB k.data.toList s.data.toList))] w (IsD true w) := by
  have HM : Hid (Calls Tryd.prog 14 #[.string k, .string s] w fun e w' => e = .returned (.string (bz (macB k.data.toList s.data.toList))) ∧ Below w.heap.size w w') := msum_any k s w hk hs hl
  clear hl
  generalize bz (macB k.data.toList s.data.toList) = y at *
  go_enter Tryd.func18, Tryd.ntmps18
  go_wp2_with fail
  refine HM.out.mono ?_
  rintro e w1 ⟨rfl, hb⟩
  have HF : Hid (IsD true w (.returned (.bool true)) w1) := ⟨rfl, hb⟩
  clear hb HM
  go_wp2
  go_ret
  exact HF.out
set_option maxHeartbeats 1000000 in
theorem is_no (k s z : ByteArray) (w : World) (hk : k.size ≤ 1000000) (hs : s.size ≤ 1000000) (hz : bz (macB k.data.toList s.data.toList) ≠ z) (hl : Lets w) :
    Calls Tryd.prog 18 #[.string k, .string s, .string z] w (IsD false w) := by
  have HM : Hid (Calls Tryd.prog 14 #[.string k, .string s] w fun e w' => e = .returned (.string (bz (macB k.data.toList s.data.toList))) ∧ Below w.heap.size w w') := msum_any k s w hk hs hl
  have hb1 := bytes_ne hz
  clear hl hz
  generalize bz (macB k.data.toList s.data.toList) = y at *
  go_enter Tryd.func18, Tryd.ntmps18
  go_wp2_with fail
  refine HM.out.mono ?_
  rintro e w1 ⟨rfl, hb⟩
  have HF : Hid (IsD false w (.returned (.bool false)) w1) := ⟨rfl, hb⟩
  clear hb HM
  go_wp2
  go_ret
  exact HF.out
end Go.Proofs.YtkbgmdabmebdhaaDoor.mac
