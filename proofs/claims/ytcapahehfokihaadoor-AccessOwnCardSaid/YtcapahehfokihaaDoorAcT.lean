/- Rights as letters, and the rights of letters: the package and the reference. -/
import Derived.Test.YtcapahehfokihaaDoorAcL
import Derived.Test.YtcapahehfokihaaDoorKit
import Derived.Lib.Hide
import Derived.WalkSpells
import Derived.WalkLawsBesides
import Derived.IntWalk
namespace Go.Proofs.YtcapahehfokihaaDoor.acc
open Go.ChangeShapes Go.WideShapes Go.ChangeAt Go.RowKit Go.Proofs.Aid
theorem ret_int {k : IntKind} {a b : Int} (h : a = b) : Ending.returned (.int k a) = .returned (.int k b) := by rw [h]
theorem ret_bool {a b : Bool} (h : a = b) : Ending.returned (.bool a) = .returned (.bool b) := by rw [h]
theorem ret_str {a b : ByteArray} (h : a = b) : Ending.returned (.string a) = .returned (.string b) := by rw [h]
def tx : Nat → ByteArray
  | 0 => ⟨#[]⟩
  | 1 => ⟨#[114]⟩
  | 2 => ⟨#[119]⟩
  | 3 => ⟨#[114, 119]⟩
  | 4 => ⟨#[108]⟩
  | 5 => ⟨#[114, 108]⟩
  | 6 => ⟨#[119, 108]⟩
  | 7 => ⟨#[114, 119, 108]⟩
  | _ => ⟨#[]⟩
def text (n : Int) : ByteArray := if 0 ≤ n ∧ n ≤ 7 then tx n.toNat else ⟨#[]⟩
def mayR (n : Int) : Bool := decide (0 ≤ n ∧ n ≤ 7)
theorem may_any (n : Int) (w : World) : Calls Tryd.prog 26 #[.int .i64 n] w fun e w' => e = .returned (.bool (mayR n)) ∧ w' = w := by
  by_cases h : 0 ≤ n
  · by_cases h2 : n ≤ 7
    all_goals
      have hr := Lib.hid (show mayR n = decide (n ≤ 7) by unfold mayR; simp [h])
      go_enter Tryd.func26, Tryd.ntmps26
      go_wp2
      go_ret
      exact ⟨ret_bool (by rw [hr.out]; first | rfl | (simp; done) | (simp; omega)), rfl⟩
  · have hr := Lib.hid (show mayR n = false by unfold mayR; simp; omega)
    go_enter Tryd.func26, Tryd.ntmps26
    go_wp2
    go_ret
    exact ⟨ret_bool (by rw [hr.out]), rfl⟩
set_option maxRecDepth 100000 in
set_option maxHeartbeats 4000000 in
theorem text_any (n : Int) (w : World) (hL : Lets w) : Calls Tryd.prog 17 #[.int .i64 n] w fun e w' => e = .returned (.string (text n)) ∧ w' = w := by
  obtain ⟨c0, c1, c2⟩ := hL
  by_cases h : 0 ≤ n ∧ n ≤ 7
  · have h8 : n = 0 ∨ n = 1 ∨ n = 2 ∨ n = 3 ∨ n = 4 ∨ n = 5 ∨ n = 6 ∨ n = 7 := by omega
    clear h
    have i0 : ∀ w', (Instr.index 23 (.agg #[.string ⟨#[114]⟩, .string ⟨#[119]⟩, .string ⟨#[108]⟩]) (.int .i64 0)).run Tryd.prog w' = .ok (.string ⟨#[114]⟩) w' := fun _ => by kernel_rfl
    have i1 : ∀ w', (Instr.index 23 (.agg #[.string ⟨#[114]⟩, .string ⟨#[119]⟩, .string ⟨#[108]⟩]) (.int .i64 1)).run Tryd.prog w' = .ok (.string ⟨#[119]⟩) w' := fun _ => by kernel_rfl
    have i2 : ∀ w', (Instr.index 23 (.agg #[.string ⟨#[114]⟩, .string ⟨#[119]⟩, .string ⟨#[108]⟩]) (.int .i64 2)).run Tryd.prog w' = .ok (.string ⟨#[108]⟩) w' := fun _ => by kernel_rfl
    rcases h8 with rfl | rfl | rfl | rfl | rfl | rfl | rfl | rfl
    all_goals
      go_enter Tryd.func17, Tryd.ntmps17
      go_wp2_with fail
      refine (may_any _ w).mono ?_
      rw [show mayR _ = true by decide]
      rintro e w' ⟨rfl, rfl⟩
      go_wp2
      refine wp_loop_rounds 4 ?_
      rw [rounds_succ]
      go_wp2
      rw [rounds_succ]
      go_wp2
      rw [rounds_succ]
      go_wp2
      rw [rounds_succ]
      go_wp2
      go_ret
      exact ⟨ret_str (by decide), rfl⟩
  · have hr := Lib.hid (show text n = ⟨#[]⟩ by unfold text; rw [if_neg h])
    have hd := Lib.hid (show mayR n = false by unfold mayR; rw [decide_eq_false_iff_not]; exact h)
    clear h
    go_enter Tryd.func17, Tryd.ntmps17
    go_wp2_with fail
    refine (may_any n w).mono ?_
    rw [hd.out]
    rintro e w' ⟨rfl, rfl⟩
    go_wp2
    go_ret
    exact ⟨ret_str (by rw [hr.out]), rfl⟩
set_option maxRecDepth 100000 in
set_option maxHeartbeats 4000000 in
theorem rtext_any (n : Int) (w : World) : Calls Tryd.prog 18 #[.int .i64 n] w fun e w' => e = .returned (.string (text n)) ∧ w' = w := by
  by_cases h : 0 ≤ n ∧ n ≤ 7
  · have h8 : n = 0 ∨ n = 1 ∨ n = 2 ∨ n = 3 ∨ n = 4 ∨ n = 5 ∨ n = 6 ∨ n = 7 := by omega
    clear h
    rcases h8 with rfl | rfl | rfl | rfl | rfl | rfl | rfl | rfl
    all_goals
      go_enter Tryd.func18, Tryd.ntmps18
      go_wp2
      go_ret
      exact ⟨ret_str (by decide), rfl⟩
  · have hr := Lib.hid (show text n = ⟨#[]⟩ by unfold text; rw [if_neg h])
    by_cases h0 : n < 0
    · clear h
      go_enter Tryd.func18, Tryd.ntmps18
      go_wp2
      go_ret
      exact ⟨ret_str (by rw [hr.out]), rfl⟩
    · have h7 : 7 < n := by omega
      clear h
      go_enter Tryd.func18, Tryd.ntmps18
      go_wp2
      go_ret
      exact ⟨ret_str (by rw [hr.out]), rfl⟩
def rig (s : ByteArray) : Option Nat := (List.range 8).find? fun n => decide (tx n = s)
def rigN (s : ByteArray) : Int := match rig s with | some n => n | none => 0
theorem rig_some {s : ByteArray} {k : Nat} (hk : k < 8) (h : tx k = s) (hj : ∀ j, j < k → tx j ≠ s) : rigN s = k ∧ (rig s).isSome = true := by
  have : rig s = some k := by
    unfold rig
    rw [List.find?_eq_some_iff_getElem]
    exact ⟨by simpa using h, k, by simpa using hk, by simp, fun j hjk => by simpa using hj j hjk⟩
  unfold rigN; rw [this]; exact ⟨rfl, rfl⟩
theorem rig_none {s : ByteArray} (hj : ∀ j, j < 8 → tx j ≠ s) : rigN s = 0 ∧ (rig s).isSome = false := by
  have : rig s = none := by
    unfold rig
    rw [List.find?_eq_none]
    intro n hn
    simpa using hj n (by simpa using hn)
  unfold rigN; rw [this]; exact ⟨rfl, rfl⟩
theorem text_tx {k : Nat} (h : k ≤ 7) : text (k : Int) = tx k := by
  unfold text; rw [if_pos (by omega)]; rfl
set_option maxRecDepth 100000 in
set_option maxHeartbeats 4000000 in
theorem rights_any (s : ByteArray) (w : World) (hL : Hid (Lets w)) : Calls Tryd.prog 15 #[.string s] w fun e w' => e = .returned (.tuple #[.int .i64 (rigN s), .bool (rig s).isSome]) ∧ w' = w := by
  go_enter Tryd.func15, Tryd.ntmps15
  go_wp2_with fail
  go_loopw [4, 5] (fun _ iv w' => ∃ k : Nat, k ≤ 8 ∧ iv = .int .i64 k ∧ w' = w ∧ Hid (∀ j, j < k → tx j ≠ s)) (fun _ iv _ => 8 - (intOf iv).toNat)
  case atStart => exact ⟨0, by omega, rfl, rfl, fun _ h => by omega⟩
  case round =>
    obtain ⟨k, hk, rfl, rfl, hI⟩ := hrel
    by_cases hlt : k < 8
    · have ht := text_tx (by omega : k ≤ 7)
      have htt := text_any (k : Int) wr hL.out
      rw [ht] at htt
      have HT := Lib.hid htt
      have hfound := Lib.hid (fun h => rig_some (s := s) hlt h hI.out)
      have hI2 : Hid (tx k ≠ s → ∀ j, j < k + 1 → tx j ≠ s) := fun h j hj => by
        by_cases e : j < k
        · exact hI.out j e
        · have : j = k := by omega
          subst this; exact h
      clear ht htt hI
      generalize tx k = x at *
      by_cases he : x = s
      · obtain ⟨hf1, hf2⟩ := hfound.out he
        have HF1 := Lib.hid hf1
        have HF2 := Lib.hid hf2
        subst he
        clear hfound hI2 hf1 hf2
        go_wp2_with fail
        refine HT.out.mono ?_
        rintro e w'' ⟨rfl, rfl⟩
        go_wp2
        go_ret2
        exact ⟨by rw [HF1.out, HF2.out]; rfl, rfl⟩
      · have he2 := bytes_ne he
        have hI3 := Lib.hid (hI2.out he)
        clear hfound hI2 he
        go_wp2_with fail
        refine HT.out.mono ?_
        rintro e w'' ⟨rfl, rfl⟩
        go_wp2
        go_roundw
        case rel => exact ⟨k + 1, by omega, by go_num, by trivial, hI3⟩
        case measure => simp [intOf]; omega
    · obtain ⟨hf1, hf2⟩ := rig_none (s := s) (fun j hj => hI.out j (by omega))
      have HF1 := Lib.hid hf1
      have HF2 := Lib.hid hf2
      clear hI hf1 hf2
      go_wp2
      go_ret2
      exact ⟨by rw [HF1.out, HF2.out]; rfl, rfl⟩
set_option maxRecDepth 100000 in
set_option maxHeartbeats 4000000 in
theorem rrights_any (s : ByteArray) (w : World) : Calls Tryd.prog 16 #[.string s] w fun e w' => e = .returned (.tuple #[.int .i64 (rigN s), .bool (rig s).isSome]) ∧ w' = w := by
  go_enter Tryd.func16, Tryd.ntmps16
  go_wp2_with fail
  go_loopw [4] (fun iv w' => ∃ k : Nat, k ≤ 8 ∧ iv = .int .i64 k ∧ w' = w ∧ Hid (∀ j, j < k → tx j ≠ s)) (fun iv _ => 8 - (intOf iv).toNat)
  case atStart => exact ⟨0, by omega, rfl, rfl, fun _ h => by omega⟩
  case round =>
    obtain ⟨k, hk, rfl, rfl, hI⟩ := hrel
    by_cases hlt : k < 8
    · have ht := text_tx (by omega : k ≤ 7)
      have htt := rtext_any (k : Int) wr
      rw [ht] at htt
      have HT := Lib.hid htt
      have hfound := Lib.hid (fun h => rig_some (s := s) hlt h hI.out)
      have hI2 : Hid (tx k ≠ s → ∀ j, j < k + 1 → tx j ≠ s) := fun h j hj => by
        by_cases e : j < k
        · exact hI.out j e
        · have : j = k := by omega
          subst this; exact h
      clear ht htt hI
      generalize tx k = x at *
      by_cases he : x = s
      · obtain ⟨hf1, hf2⟩ := hfound.out he
        have HF1 := Lib.hid hf1
        have HF2 := Lib.hid hf2
        subst he
        clear hfound hI2 hf1 hf2
        go_wp2_with fail
        refine HT.out.mono ?_
        rintro e w'' ⟨rfl, rfl⟩
        go_wp2
        go_ret2
        exact ⟨by rw [HF1.out, HF2.out]; rfl, rfl⟩
      · have he2 := bytes_ne he
        have hI3 := Lib.hid (hI2.out he)
        clear hfound hI2 he
        go_wp2_with fail
        refine HT.out.mono ?_
        rintro e w'' ⟨rfl, rfl⟩
        go_wp2
        go_roundw
        case rel => exact ⟨k + 1, by omega, by go_num, by trivial, hI3⟩
        case measure => simp [intOf]; omega
    · obtain ⟨hf1, hf2⟩ := rig_none (s := s) (fun j hj => hI.out j (by omega))
      have HF1 := Lib.hid hf1
      have HF2 := Lib.hid hf2
      clear hI hf1 hf2
      go_wp2
      go_ret2
      exact ⟨by rw [HF1.out, HF2.out]; rfl, rfl⟩
end Go.Proofs.YtcapahehfokihaaDoor.acc
