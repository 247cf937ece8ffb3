/- Token: made, cut, read. -/
import Derived.Test.YtkbgmdabmebdhaaGreatDoorOdY
import Derived.Test.YtkbgmdabmebdhaaGreatDoorOcU
import Derived.Test.YtkbgmdabmebdhaaGreatDoorOcN
import Derived.Test.YtkbgmdabmebdhaaGreatDoorOcA
import Derived.Test.YtkbgmdabmebdhaaGreatDoorMaY
import Derived.Test.YtkbgmdabmebdhaaGreatDoorShE
namespace Go.Proofs.YtkbgmdabmebdhaaGreatDoor.tkS
open Go.ChangeShapes Go.WideShapes Go.ChangeAt Go.RowKit Go.Proofs.Aid
theorem slice_to {P : Program} {t : TypeId} (ht : P.underlying t = some .string) (w : World) (s : ByteArray) (h : Nat) (h1 : h ≤ s.size) {H : Int} (hH : H = h) :
    (Instr.slice t (.string s) none (some (.int .i64 H)) none).run P w = .ok (.string (s.extract 0 h)) w := by
  subst hH
  have := run_slice_string_h (P := P) w t s ht .i64 (h : Int) (by omega) (by omega)
  simpa using this
end Go.Proofs.YtkbgmdabmebdhaaGreatDoor.tkS
namespace Go.Proofs.YtkbgmdabmebdhaaGreatDoor.tk
open Go.ChangeShapes Go.WideShapes Go.ChangeAt Go.RowKit Go.Proofs.Aid
open Go.Proofs.YtkbgmdabmebdhaaGreatDoor.oc (be be_length bz bz_append teB textS numS St RAt RPost pv pb)
open Go.Proofs.YtkbgmdabmebdhaaGreatDoor.sha (sum_any ba_app shaB_length)
open Go.Proofs.YtkbgmdabmebdhaaGreatDoor.mac (macB msum_any MStr)
set_option linter.unusedVariables false
theorem results_tmp4 {fn : Func} {t u v x : Tmp} (h : fn.results = #[.tmp t, .tmp u, .tmp v, .tmp x]) (tmps : Array Value) (P : Program) (w : World) :
    (results fn tmps).run P w = .ok (.tuple #[tmps.getD t undef, tmps.getD u undef, tmps.getD v undef, tmps.getD x undef]) w := by
  simp [results, h]
macro "go_ret4" : tactic => `(tactic|
  ((try simp only [Exit.inBlock, Exit.then]); refine bodyPost_ret (results_tmp4 rfl _ _ _) rfl ?_))
def saysB (t u : ByteArray) (n : Int) : List UInt8 := teB t ++ teB u ++ be 8 n
def tokB (k t u : ByteArray) (n : Int) : List UInt8 := saysB t u n ++ macB k.data.toList (saysB t u n)
theorem teB_len (s : ByteArray) : (teB s).length = 4 + s.size := by
  unfold teB; rw [List.length_append, be_length]; simp
theorem saysB_len (t u : ByteArray) (n : Int) : (saysB t u n).length = 16 + t.size + u.size := by
  unfold saysB; rw [List.length_append, List.length_append, teB_len, teB_len, be_length]; omega
theorem tokB_len (k t u : ByteArray) (n : Int) : (tokB k t u n).length = 48 + t.size + u.size := by
  unfold tokB; rw [List.length_append, saysB_len, mac.macB_length]; omega
set_option maxRecDepth 100000 in
set_option maxHeartbeats 4000000 in
theorem make_any (k t u : ByteArray) (n : Int) (w : World) (hk : k.size ≤ 1000) (ht : t.size ≤ 1000) (hu : u.size ≤ 1000) (hl : sha.Lets w) :
    Calls Tryz.prog 10 #[.string k, .string t, .string u, .int .i64 n] w fun e w' => e = .returned (.string (bz (tokB k t u n))) ∧ Below w.heap.size w w' := by
  have HLt := Lib.hid hl
  clear hl
  have HW : Hid (od.Wr w.heap.size [] (w.alloc (.cells #[.pointer none, .slice none 0 0, .pointer none] 64))) := .inr (.inl ⟨rfl, Blk.new w _ _⟩)
  have HL := Lib.hid (below_lit w (.cells #[.pointer none, .slice none 0 0, .pointer none] 64))
  have HTL := Lib.hid (teB_len t)
  have HUL := Lib.hid (teB_len u)
  have HSL := Lib.hid (saysB_len t u n)
  have HSD : Hid (([] : List UInt8) ++ teB t ++ teB u ++ be 8 n = saysB t u n) := rfl
  have HOUT : Hid (∀ y1 y2 : ByteArray, y1 = ⟨(saysB t u n).toArray⟩ → y2 = ⟨(macB k.data.toList (saysB t u n)).toArray⟩ → ∀ w', Below w.heap.size w w' → (Ending.returned (.string (y1 ++ y2)) : Ending) = .returned (.string (bz (tokB k t u n))) ∧ Below w.heap.size w w') := fun y1 y2 e1 e2 w' h => ⟨by rw [e1, e2]; show Ending.returned (.string (bz (saysB t u n) ++ bz (macB k.data.toList (saysB t u n)))) = _; rw [bz_append]; rfl, h⟩
  go_enter Tryz.func10, Tryz.ntmps10
  go_wp2_with fail
  refine (od.text_any w.heap.size [] t _ HW.out (by unfold maxLen; omega) (by simp; omega)).mono ?_
  rintro e w1 ⟨rfl, h1, h2⟩
  replace HW : Hid (od.Wr w.heap.size (([] : List UInt8) ++ teB t) w1) := .inl h1
  replace HL := Lib.hid (HL.out.trans h2)
  clear h1 h2
  go_wp2_with fail
  refine (od.text_any w.heap.size _ u _ HW.out (by unfold maxLen; omega) (by have := HTL.out; simp; omega)).mono ?_
  rintro e w2 ⟨rfl, h1, h2⟩
  replace HW : Hid (od.Wr w.heap.size (([] : List UInt8) ++ teB t ++ teB u) w2) := .inl h1
  replace HL := Lib.hid (HL.out.trans h2)
  clear h1 h2
  go_wp2_with fail
  refine (od.int_any w.heap.size _ n _ HW.out (by have := HTL.out; have := HUL.out; simp; omega)).mono ?_
  rintro e w3 ⟨rfl, h1, h2⟩
  rw [HSD.out] at h1
  replace HW : Hid (od.Wr w.heap.size (saysB t u n) w3) := .inl h1
  replace HL := Lib.hid (HL.out.trans h2)
  clear h1 h2 HSD HTL HUL
  generalize saysB t u n = sb at *
  go_wp2_with fail
  refine (od.bytes_any w.heap.size sb _ HW.out).mono ?_
  rintro e w4 ⟨rfl, h1, h2, h3⟩
  replace HW := Lib.hid h1
  replace HL := Lib.hid (HL.out.trans h2)
  clear h1 h2 h3
  go_wp2_with fail
  refine (od.bytes_any w.heap.size sb _ HW.out).mono ?_
  rintro e w5 ⟨rfl, h1, h2, h3⟩
  replace HL := Lib.hid (HL.out.trans h2)
  clear h1 h2 h3 HW
  have hss : (bz sb).size ≤ 1000000 := by rw [oc.bz_size]; have := HSL.out; omega
  have HM := Lib.hid (msum_any k (bz sb) w5 (by omega) hss (HLt.out.below HL.out (Nat.le_refl _)))
  have hbl : (bz sb).data.toList = sb := rfl
  rw [hbl] at HM
  clear hss hbl
  have HML := Lib.hid (mac.macB_length k.data.toList sb)
  go_wp2_with fail
  refine HM.out.mono ?_
  rintro e w6 ⟨rfl, h2⟩
  have HF := Lib.hid (HOUT.out _ _ rfl rfl w6 (HL.out.trans (h2.mono HL.out.size)))
  have hy1 : (⟨sb.toArray⟩ : ByteArray).size = 16 + t.size + u.size := (oc.bz_size _).trans HSL.out
  have hy2 : (⟨(macB k.data.toList sb).toArray⟩ : ByteArray).size = 32 := (oc.bz_size _).trans HML.out
  clear h2 HM HL HOUT HLt HSL HML
  generalize (⟨(macB k.data.toList sb).toArray⟩ : ByteArray) = y2 at *
  generalize (⟨sb.toArray⟩ : ByteArray) = y1 at *
  go_wp2
  go_ret
  exact HF.out
/-! ### cut and read -/
def cutA (s : ByteArray) : ByteArray := s.extract 0 (s.size - 32)
def cutZ (s : ByteArray) : ByteArray := s.extract (s.size - 32) s.size
set_option maxRecDepth 100000 in
set_option maxHeartbeats 2000000 in
theorem cut_any (s : ByteArray) (w : World) (hs : s.size ≤ 1000000) :
    Calls Tryz.prog 14 #[.string s] w fun e w' => e = .returned (.tuple #[.string (cutA s), .string (cutZ s)]) ∧ Below w.heap.size w w' := by
  have HL := Lib.hid (Below.refl w.heap.size w).drew
  by_cases h32 : 32 ≤ s.size
  · obtain ⟨k, hk, hks⟩ : ∃ k : Nat, k = s.size - 32 ∧ k ≤ s.size := ⟨_, rfl, by omega⟩
    have hsl := fun w => tkS.slice_to (P := Tryz.prog) Tryz.underlying9 w s k hks (H := (k : Int)) rfl
    have hsz := fun w => sha.slice_from (P := Tryz.prog) Tryz.underlying9 w s k hks (L := (k : Int)) rfl
    have HF : Hid (∀ w', w' = w.drew → (Ending.returned (.tuple #[.string (s.extract 0 k), .string (s.extract k s.size)]) : Ending) = .returned (.tuple #[.string (cutA s), .string (cutZ s)]) ∧ Below w.heap.size w w') := fun w' e => by subst hk e; exact ⟨rfl, HL.out⟩
    have hmx : (s.size : Int) - 32 = (k : Int) := by omega
    have hmx2 : ¬ (k : Int) < 0 := by omega
    clear hk
    generalize cutA s = ca at *
    generalize cutZ s = cz at *
    generalize s.extract 0 k = a at *
    generalize s.extract k s.size = z at *
    go_enter Tryz.func14, Tryz.ntmps14
    go_wp2
    go_region
    go_wp2
    go_ret2
    exact HF.out _ rfl
  · have e0 : cutA s = ⟨#[]⟩ := by unfold cutA; rw [show s.size - 32 = 0 by omega]; apply ByteArray.ext; simp
    have e1 : cutZ s = s := by unfold cutZ; rw [show s.size - 32 = 0 by omega]; apply ByteArray.ext; simp
    have hsl := fun w => tkS.slice_to (P := Tryz.prog) Tryz.underlying9 w s 0 (by omega) (H := 0) rfl
    have hsz := fun w => sha.slice_from (P := Tryz.prog) Tryz.underlying9 w s 0 (by omega) (L := 0) rfl
    have e2 : s.extract 0 0 = ⟨#[]⟩ := by apply ByteArray.ext; simp
    have e3 : s.extract 0 s.size = s := by apply ByteArray.ext; simp
    rw [e2] at hsl
    rw [e3] at hsz
    rw [e0, e1]
    have hmx : (s.size : Int) - 32 < 0 := by omega
    have hmx3 : max ((s.size : Int) - 32) 0 = 0 := by omega
    clear e0 e1 e2 e3
    go_enter Tryz.func14, Tryz.ntmps14
    go_wp2
    go_region
    go_wp2
    go_ret2
    exact ⟨rfl, HL.out⟩
/-! what bytes say as a token -/
def rA (p : ByteArray) : ByteArray × St := textS (some p)
def rB (p : ByteArray) : ByteArray × St := textS (rA p).2
def rC (p : ByteArray) : Int × St := numS 8 (rB p).2
def okR (p : ByteArray) : Bool := decide ((rC p).2 = some ⟨#[]⟩)
def Rd (s : ByteArray) (w : World) (e : Ending) (w' : World) : Prop :=
  e = .returned (.tuple (if okR (cutA s) then #[.string (rA (cutA s)).1, .string (rB (cutA s)).1, .int .i64 (rC (cutA s)).1, .bool true] else #[.string ⟨#[]⟩, .string ⟨#[]⟩, .int .i64 0, .bool false])) ∧ Below w.heap.size w w'
theorem grown_low {B b : Nat} {a w w' : World} (h : Below B a w) (hg : w.grownBy w' (some b)) (hb : B ≤ b) (hB : B ≤ w.heap.size) : Below B a w' :=
  h.grown hg hB (fun q hq => by injection hq with hq; omega)
set_option maxRecDepth 100000 in
set_option maxHeartbeats 2000000 in
theorem read_any (s : ByteArray) (w : World) (hs : s.size ≤ 1000000) : Calls Tryz.prog 6 #[.string s] w (Rd s w) := by
  have HC := Lib.hid (cut_any s w hs)
  have hcs : Hid ((cutA s).size ≤ 1000000) := by unfold Hid cutA; rw [ByteArray.size_extract]; omega
  have HY : Hid (okR (cutA s) = true → ∀ w', Below w.heap.size w w' → Rd s w (.returned (.tuple #[.string (rA (cutA s)).1, .string (rB (cutA s)).1, .int .i64 (rC (cutA s)).1, .bool true])) w') := fun h w' hb => ⟨by rw [h]; rfl, hb⟩
  have HN : Hid (okR (cutA s) = false → ∀ w', Below w.heap.size w w' → Rd s w (.returned (.tuple #[.string ⟨#[]⟩, .string ⟨#[]⟩, .int .i64 0, .bool false])) w') := fun h w' hb => ⟨by rw [h]; rfl, hb⟩
  have HA : Hid (textS (some (cutA s)) = rA (cutA s)) := rfl
  have HB : Hid (textS (rA (cutA s)).2 = rB (cutA s)) := rfl
  have HC3 : Hid (numS 8 (rB (cutA s)).2 = rC (cutA s)) := rfl
  have HOK : Hid (decide ((rC (cutA s)).2 = some ⟨#[]⟩) = okR (cutA s)) := rfl
  generalize rA (cutA s) = ra at *
  generalize rB (cutA s) = rb at *
  generalize rC (cutA s) = rc at *
  generalize okR (cutA s) = ok at *
  generalize cutA s = p at *
  generalize cutZ s = q at *
  generalize hPR : Rd s w = PR at *
  clear hPR
  go_enter Tryz.func6, Tryz.ntmps6
  go_wp2_with fail
  refine HC.out.mono ?_
  rintro e w1 ⟨rfl, hb⟩
  have HL := Lib.hid hb
  clear hb HC
  go_wp2_with fail
  refine (oc.new_any p w1).mono ?_
  rintro e w2 ⟨rfl, rfl⟩
  have HR : Hid (RAt (some w1.heap.size) (some p) (w1.alloc (.cells #[.string p, .bool true] 69))) := oc.RAt.new p (by have := hcs.out; omega) w1
  have hB1 : w.heap.size ≤ w1.heap.size := HL.out.size
  have HB1 := Lib.hid hB1
  replace HL := Lib.hid (HL.out.alloc hB1 (.cells #[.string p, .bool true] 69))
  clear hB1 hcs
  generalize w1.alloc (.cells #[.string p, .bool true] 69) = w2 at *
  generalize w1.heap.size = g at *
  go_wp2_with fail
  refine (oc.rtext_any (some g) _ w2 HR.out).mono ?_
  rw [HA.out]
  rintro e w3 ⟨rfl, h1, h2⟩
  replace HR := Lib.hid h1
  replace HL := Lib.hid (grown_low HL.out h2 HB1.out HL.out.size)
  clear h1 h2 HA
  go_wp2_with fail
  refine (oc.rtext_any (some g) _ w3 HR.out).mono ?_
  rw [HB.out]
  rintro e w4 ⟨rfl, h1, h2⟩
  replace HR := Lib.hid h1
  replace HL := Lib.hid (grown_low HL.out h2 HB1.out HL.out.size)
  clear h1 h2 HB
  go_wp2_with fail
  refine (oc.rint_any (some g) _ w4 HR.out).mono ?_
  rw [HC3.out]
  rintro e w5 ⟨rfl, h1, h2⟩
  replace HR := Lib.hid h1
  replace HL := Lib.hid (grown_low HL.out h2 HB1.out HL.out.size)
  clear h1 h2 HC3
  obtain ⟨a, sa⟩ := ra
  obtain ⟨b, sb⟩ := rb
  obtain ⟨n, sn⟩ := rc
  simp only at HOK HY HR ⊢
  go_wp2_with fail
  refine (oc.done_any (some g) _ w5 HR.out).mono ?_
  rw [HOK.out]
  rintro e w6 ⟨rfl, rfl⟩
  clear HR HOK
  cases ok
  · have HF := Lib.hid (HN.out rfl _ HL.out)
    clear HN HY HL
    go_wp2
    go_ret4
    exact HF.out
  · have HF := Lib.hid (HY.out rfl _ HL.out)
    clear HN HY HL
    go_wp2
    go_ret4
    exact HF.out
end Go.Proofs.YtkbgmdabmebdhaaGreatDoor.tk
