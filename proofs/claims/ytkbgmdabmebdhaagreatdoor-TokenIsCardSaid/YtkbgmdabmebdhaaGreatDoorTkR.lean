/- Token: the reference's Make, Read, Check. -/
import Derived.Test.YtkbgmdabmebdhaaGreatDoorTkC
import Derived.Test.YtkbgmdabmebdhaaGreatDoorOcU
import Derived.Test.YtkbgmdabmebdhaaGreatDoorMaD
namespace Go.Proofs.YtkbgmdabmebdhaaGreatDoor.tk
open Go.ChangeShapes Go.WideShapes Go.ChangeAt Go.RowKit Go.Proofs.Aid Go.Proofs.YtkbgmdabmebdhaaGreatDoor.rgy Go.Proofs.YtkbgmdabmebdhaaGreatDoor.name
open Go.Proofs.YtkbgmdabmebdhaaGreatDoor.oc (be be_length bz bz_append teB textS numS St RAt RPost pv pb QAt)
open Go.Proofs.YtkbgmdabmebdhaaGreatDoor.mac (macB msum_any MStr IsD is_yes is_no rmsum_any RStr)
open Go.Proofs.YtkbgmdabmebdhaaGreatDoor.te
set_option linter.unusedVariables false
set_option maxRecDepth 100000 in
set_option maxHeartbeats 2000000 in
theorem rsays_any (t u : ByteArray) (n : Int) (w : World) (ht : t.size ≤ 1000) (hu : u.size ≤ 1000) :
    Calls Tryz.prog 32 #[.string t, .string u, .int .i64 n] w fun e w' => e = .returned (.string (bz (saysB t u n))) ∧ Below w.heap.size w w' := by
  have HT := Lib.hid (fun w => oc.qtextB_any t w (by omega))
  have HU := Lib.hid (fun w => oc.qtextB_any u w (by omega))
  have HI := Lib.hid (fun w => oc.qintB_any n w)
  have h1 : (bz (teB t)).size = 4 + t.size := (oc.bz_size _).trans (teB_len t)
  have h2 : (bz (teB u)).size = 4 + u.size := (oc.bz_size _).trans (teB_len u)
  have h3 : (bz (be 8 n)).size = 8 := (oc.bz_size _).trans (be_length _ _)
  have HO : Hid (bz (teB t) ++ bz (teB u) ++ bz (be 8 n) = bz (saysB t u n)) := by unfold Hid saysB; rw [bz_append, bz_append]
  have h4 : (bz (teB t) ++ bz (teB u)).size = 8 + t.size + u.size := by rw [bz_append, oc.bz_size, List.length_append, teB_len, teB_len]; omega
  rw [← HO.out]
  clear HO
  generalize bz (teB t) = y1 at *
  generalize bz (teB u) = y2 at *
  generalize bz (be 8 n) = y3 at *
  go_enter Tryz.func32, Tryz.ntmps32
  go_wp2_with fail
  refine (HT.out _).mono ?_
  rintro e w1 ⟨rfl, hb⟩
  have HL := Lib.hid hb
  clear hb
  go_wp2_with fail
  refine (HU.out _).mono ?_
  rintro e w2 ⟨rfl, hb⟩
  have HL2 := Lib.hid (HL.out.trans (hb.mono HL.out.size)); clear hb HL; have HL := Lib.hid HL2.out; clear HL2
  go_wp2_with fail
  refine (HI.out _).mono ?_
  rintro e w3 ⟨rfl, hb⟩
  have HL2 := Lib.hid (HL.out.trans (hb.mono HL.out.size)); clear hb HL; have HL := Lib.hid HL2.out; clear HL2
  go_wp2
  go_ret
  exact ⟨rfl, HL.out⟩
set_option maxRecDepth 100000 in
set_option maxHeartbeats 2000000 in
theorem rmake_any (k t u : ByteArray) (n : Int) (w : World) (hk : k.size ≤ 1000) (ht : t.size ≤ 1000) (hu : u.size ≤ 1000) :
    Calls Tryz.prog 11 #[.string k, .string t, .string u, .int .i64 n] w fun e w' => e = .returned (.string (bz (tokB k t u n))) ∧ Below w.heap.size w w' := by
  have HS := Lib.hid (rsays_any t u n w ht hu)
  have hss : (bz (saysB t u n)).size = 16 + t.size + u.size := (oc.bz_size _).trans (saysB_len t u n)
  have HM := Lib.hid (fun w => rmsum_any k (bz (saysB t u n)) w (by omega) (by omega))
  have hms : (bz (macB k.data.toList (bz (saysB t u n)).data.toList)).size = 32 := (oc.bz_size _).trans (mac.macB_length _ _)
  have HO : Hid (bz (saysB t u n) ++ bz (macB k.data.toList (bz (saysB t u n)).data.toList) = bz (tokB k t u n)) := by unfold Hid; rw [bz_append]; rfl
  rw [← HO.out]
  clear HO
  unfold RStr at HM
  generalize bz (macB k.data.toList (bz (saysB t u n)).data.toList) = y2 at *
  generalize bz (saysB t u n) = y1 at *
  go_enter Tryz.func11, Tryz.ntmps11
  go_wp2_with fail
  refine HS.out.mono ?_
  rintro e w1 ⟨rfl, hb⟩
  have HL := Lib.hid hb
  clear hb
  go_wp2_with fail
  refine (HM.out _).mono ?_
  rintro e w2 ⟨rfl, hb⟩
  have HL2 := Lib.hid (HL.out.trans (hb.mono HL.out.size)); clear hb HL; have HL := Lib.hid HL2.out; clear HL2
  go_wp2
  go_ret
  exact ⟨rfl, HL.out⟩
theorem okR_nil : okR ⟨#[]⟩ = false := by decide +kernel
theorem cutA_nil (s : ByteArray) (h : s.size < 32) : cutA s = ⟨#[]⟩ := by unfold cutA; rw [show s.size - 32 = 0 by omega]; apply ByteArray.ext; simp
theorem chk_split (xs : List En) (s : ByteArray) (now : Int) : chk xs s now = (okR (cutA s) && (isName (rA (cutA s)).1.data.toList && (isName (rB (cutA s)).1.data.toList && (decide (now ≤ (rC (cutA s)).1) && (isT xs (rA (cutA s)).1 && decide (bz (macB (secV xs (rA (cutA s)).1).data.toList (cutA s).data.toList) = cutZ s)))))) := by
  unfold chk
  cases okR (cutA s) <;> cases isName (rA (cutA s)).1.data.toList <;> cases isName (rB (cutA s)).1.data.toList <;> cases isT xs (rA (cutA s)).1 <;> cases decide (now ≤ (rC (cutA s)).1) <;> cases decide (bz (macB (secV xs (rA (cutA s)).1).data.toList (cutA s).data.toList) = cutZ s) <;> rfl
set_option maxRecDepth 100000 in
set_option maxHeartbeats 2000000 in
theorem rread_any (s : ByteArray) (w : World) (hs : s.size ≤ 1000000) : Calls Tryz.prog 7 #[.string s] w (Rd s w) := by
  by_cases h32 : s.size < 32
  · have h32b : (s.size : Int) < 32 := by omega
    have HF : Hid (Rd s w (.returned (.tuple #[.string ⟨#[]⟩, .string ⟨#[]⟩, .int .i64 0, .bool false])) w) := ⟨by rw [cutA_nil s h32, okR_nil]; rfl, Below.refl _ _⟩
    generalize Rd s w = PR at *
    go_enter Tryz.func7, Tryz.ntmps7
    go_wp2
    go_ret4
    exact HF.out
  have h32b : ¬ (s.size : Int) < 32 := by omega
  obtain ⟨k, hk, hks⟩ : ∃ k : Nat, k = s.size - 32 ∧ k ≤ s.size := ⟨_, rfl, by omega⟩
  have hsl := fun w => tkS.slice_to (P := Tryz.prog) Tryz.underlying9 w s k hks (H := (k : Int)) rfl
  have hmx : (s.size : Int) - 32 = (k : Int) := by omega
  have hce : s.extract 0 k = cutA s := by subst hk; rfl
  rw [hce] at hsl
  have hcs : Hid ((cutA s).size ≤ 1000000) := by unfold Hid cutA; rw [ByteArray.size_extract]; omega
  clear hk hce
  have HY : Hid (okR (cutA s) = true → ∀ w', Below w.heap.size w w' → Rd s w (.returned (.tuple #[.string (rA (cutA s)).1, .string (rB (cutA s)).1, .int .i64 (rC (cutA s)).1, .bool true])) w') := fun h w' hb => ⟨by rw [h]; rfl, hb⟩
  have HN : Hid (okR (cutA s) = false → ∀ w', Below w.heap.size w w' → Rd s w (.returned (.tuple #[.string ⟨#[]⟩, .string ⟨#[]⟩, .int .i64 0, .bool false])) w') := fun h w' hb => ⟨by rw [h]; rfl, hb⟩
  have HA : Hid (textS (some (cutA s)) = rA (cutA s)) := rfl
  have HB : Hid (textS (rA (cutA s)).2 = rB (cutA s)) := rfl
  have HC3 : Hid (numS 8 (rB (cutA s)).2 = rC (cutA s)) := rfl
  have HOK : Hid (decide ((rC (cutA s)).2 = some ⟨#[]⟩) = okR (cutA s)) := rfl
  generalize rA (cutA s) = ra at *
  generalize rB (cutA s) = rb at *
  generalize rC (cutA s) = rc at *
  generalize okR (cutA s) = ok at *
  generalize cutA s = p at *
  generalize hPR : Rd s w = PR at *
  clear hPR
  have HR : Hid (QAt w.heap.size (some p) (w.alloc (.cells #[.string p, .bool false] 48))) :=
    ⟨by show p.size ≤ _; have := hcs.out; omega, p, by have := hcs.out; omega, Blk.new w _ _, fun x h => by injection h with h; exact h.symm⟩
  have HL := Lib.hid (below_lit w (.cells #[.string p, .bool false] 48))
  clear hcs
  go_enter Tryz.func7, Tryz.ntmps7
  go_wp2_with fail
  generalize w.alloc (.cells #[.string p, .bool false] 48) = w2 at *
  have hg : w.heap.size = w.heap.size := rfl
  refine (oc.qtext_any w.heap.size _ w2 HR.out).mono ?_
  rw [HA.out]
  rintro e w3 ⟨rfl, h1, h2⟩
  replace HR := Lib.hid h1
  replace HL := Lib.hid (grown_low HL.out h2 (Nat.le_refl _) HL.out.size)
  clear h1 h2 HA
  go_wp2_with fail
  refine (oc.qtext_any w.heap.size _ w3 HR.out).mono ?_
  rw [HB.out]
  rintro e w4 ⟨rfl, h1, h2⟩
  replace HR := Lib.hid h1
  replace HL := Lib.hid (grown_low HL.out h2 (Nat.le_refl _) HL.out.size)
  clear h1 h2 HB
  go_wp2_with fail
  refine (oc.qint_any w.heap.size _ w4 HR.out).mono ?_
  rw [HC3.out]
  rintro e w5 ⟨rfl, h1, h2⟩
  replace HR := Lib.hid h1
  replace HL := Lib.hid (grown_low HL.out h2 (Nat.le_refl _) HL.out.size)
  clear h1 h2 HC3
  obtain ⟨a, sa⟩ := ra
  obtain ⟨b, sb⟩ := rb
  obtain ⟨n, sn⟩ := rc
  simp only at HOK HY HR ⊢
  go_wp2_with fail
  refine (oc.qdone_any w.heap.size _ w5 HR.out).mono ?_
  rw [HOK.out]
  rintro e w6 ⟨rfl, rfl⟩
  clear HR HOK
  cases ok
  · have HF := Lib.hid (HN.out rfl _ HL.out)
    clear HN HY HL
    go_wp2
    go_ret4
    exact HF.out
  · have HF := Lib.hid (HY.out rfl _ HL.out)
    clear HN HY HL
    go_wp2
    go_ret4
    exact HF.out
end Go.Proofs.YtkbgmdabmebdhaaGreatDoor.tk
