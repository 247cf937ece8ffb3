/- Token: a list of one entry; what must come. -/
import Derived.Test.YtkbgmdabmebdhaaGreatDoorTkC
namespace Go.Proofs.YtkbgmdabmebdhaaGreatDoor.tk
open Go.ChangeShapes Go.WideShapes Go.ChangeAt Go.RowKit Go.Proofs.Aid Go.Proofs.YtkbgmdabmebdhaaGreatDoor.rgy Go.Proofs.YtkbgmdabmebdhaaGreatDoor.name
open Go.Proofs.YtkbgmdabmebdhaaGreatDoor.oc (be be_length bz bz_append teB textS numS St RAt RPost pv pb)
open Go.Proofs.YtkbgmdabmebdhaaGreatDoor.mac (macB msum_any MStr IsD is_yes is_no)
open Go.Proofs.YtkbgmdabmebdhaaGreatDoor.te
set_option linter.unusedVariables false
set_option maxRecDepth 100000 in
set_option maxHeartbeats 2000000 in
theorem known_any (t k : ByteArray) (w : World) (ht : t.size ≤ 1000) :
    Calls Tryz.prog 13 #[.string t, .string k] w fun e w' => e = .returned (.slice (some ⟨w.heap.size, 0, none⟩) 1 1) ∧ w' = w.alloc (.cells #[.string (tkey t fS), .int .i64 1, .string ⟨#[]⟩, .string k] 37) := by
  have HK := Lib.hid (fun w => rtkey_any t fS w (by omega) (by decide))
  generalize tkey t fS = key at *
  go_enter Tryz.func13, Tryz.ntmps13
  go_wp2_with fail
  refine (HK.out _).mono ?_
  rintro e w1 ⟨rfl, rfl⟩
  go_wp2
  go_ret
  exact ⟨rfl, rfl⟩
theorem one_reads (t k : ByteArray) (w : World) : Reads (w.alloc (.cells #[.string (tkey t fS), .int .i64 1, .string ⟨#[]⟩, .string k] 37)) (w.alloc (.cells #[.string (tkey t fS), .int .i64 1, .string ⟨#[]⟩, .string k] 37)).heap.size 4 (some ⟨w.heap.size, 0, none⟩) [enK t k].length ([enK t k].flatMap En.cells) :=
  lit1 (f := En.cells) w 37 [enK t k] En.len
theorem says_sz (t u : ByteArray) (n : Int) (L : List UInt8) (hL : L.length = 32) (st : t.size ≤ 1000) (su : u.size ≤ 1000) : (bz (saysB t u n ++ L)).size ≤ 1000000 := by
  rw [oc.bz_size, List.length_append, saysB_len]; omega
theorem check_one (t u k : ByteArray) (n now : Int) (L : List UInt8) (w : World) (hL : L.length = 32) (ht : isName t.data.toList = true) (hu : isName u.data.toList = true) (hk : isSec k = true) (st : t.size ≤ 1000) (su : u.size ≤ 1000) (h0 : -9223372036854775808 ≤ n) (h1 : n ≤ 9223372036854775807) (HLt : Hid (nm.Lets w)) :
    Calls Tryz.prog 8 #[.slice (some ⟨w.heap.size, 0, none⟩) 1 1, .string (bz (saysB t u n ++ L)), .int .i64 now] (w.alloc (.cells #[.string (tkey t fS), .int .i64 1, .string ⟨#[]⟩, .string k] 37)) (Ck (decide (macB k.data.toList (saysB t u n) = L) && decide (now ≤ n)) t u (w.alloc (.cells #[.string (tkey t fS), .int .i64 1, .string ⟨#[]⟩, .string k] 37))) := by
  have hk3 : k.size ≤ 64 := by
    unfold isSec at hk
    simp at hk
    exact hk.2
  have h := check_any (w.alloc (.cells #[.string (tkey t fS), .int .i64 1, .string ⟨#[]⟩, .string k] 37)) (some ⟨w.heap.size, 0, none⟩) 1 [enK t k] (bz (saysB t u n ++ L)) now (by show 1 ≤ 100000; omega) (one_reads t k w) (short_one t k (by omega)) (says_sz t u n L hL st su) (Lib.hid (HLt.out.next (below_lit w _)))
  rw [chk_back t u k n now L hL ht hu hk (by omega) (by omega) h0 h1, cutA_back _ _ hL, rA_back t u n (by omega), rB_back t u n (by omega) (by omega)] at h
  exact h
theorem read_tok (t u : ByteArray) (n : Int) (L : List UInt8) (w : World) (hL : L.length = 32) (st : t.size ≤ 1000) (su : u.size ≤ 1000) (h0 : -9223372036854775808 ≤ n) (h1 : n ≤ 9223372036854775807) :
    Calls Tryz.prog 6 #[.string (bz (saysB t u n ++ L))] w fun e w' => e = .returned (.tuple #[.string t, .string u, .int .i64 n, .bool true]) ∧ Below w.heap.size w w' := by
  have h := read_any (bz (saysB t u n ++ L)) w (says_sz t u n L hL st su)
  unfold Rd at h
  rw [cutA_back _ _ hL, okR_back t u n (by omega) (by omega) h0 h1, rA_back t u n (by omega), rB_back t u n (by omega) (by omega), rC_back t u n (by omega) (by omega) h0 h1] at h
  exact h
abbrev kK : ByteArray := ⟨#[107, 101, 121]⟩
abbrev tT : ByteArray := ⟨#[116]⟩
abbrev uA : ByteArray := ⟨#[97, 110, 110]⟩
abbrev oK : ByteArray := ⟨#[111, 116, 104, 101, 114]⟩
set_option maxRecDepth 100000 in
theorem two_macs : (macB oK.data.toList (saysB tT uA 5) == macB kK.data.toList (saysB tT uA 5)) = false := by decide +kernel
theorem nT : isName tT.data.toList = true := by decide +kernel
theorem nA : isName uA.data.toList = true := by decide +kernel
def Woke (w : World) (e : Ending) (w' : World) : Prop := e = .returned (.bool true) ∧ Below w.heap.size w w'
set_option maxRecDepth 100000 in
set_option maxHeartbeats 4000000 in
theorem awake_any (w : World) (HLt : Hid (nm.Lets w)) : Calls Tryz.prog 5 #[] w (Woke w) := by
  have HM := Lib.hid (make_any kK tT uA 5 w (by decide) (by decide) (by decide) HLt.out.sh)
  have hL : (macB kK.data.toList (saysB tT uA 5)).length = 32 := mac.macB_length _ _
  have HR := Lib.hid (fun w => read_tok tT uA 5 (macB kK.data.toList (saysB tT uA 5)) w hL (by decide) (by decide) (by decide) (by decide))
  have HC1 := Lib.hid (fun w h => check_one tT uA kK 5 5 (macB kK.data.toList (saysB tT uA 5)) w hL nT nA (by decide) (by decide) (by decide) (by decide) (by decide) h)
  have HC2 := Lib.hid (fun w h => check_one tT uA kK 5 6 (macB kK.data.toList (saysB tT uA 5)) w hL nT nA (by decide) (by decide) (by decide) (by decide) (by decide) h)
  have HC3 := Lib.hid (fun w h => check_one tT uA oK 5 5 (macB kK.data.toList (saysB tT uA 5)) w hL nT nA (by decide) (by decide) (by decide) (by decide) (by decide) h)
  have h2 : decide (macB oK.data.toList (saysB tT uA 5) = macB kK.data.toList (saysB tT uA 5)) = false := decide_eq_false (fun e => by have h := two_macs; rw [e] at h; simp at h)
  rw [h2, Bool.false_and] at HC3
  rw [decide_eq_true rfl, Bool.true_and, show decide ((5 : Int) ≤ 5) = true from rfl] at HC1
  rw [decide_eq_true rfl, Bool.true_and, show decide ((6 : Int) ≤ 5) = false from rfl] at HC2
  have HKN := Lib.hid (fun k w => known_any tT k w (by decide))
  have ht : Hid (tokB kK tT uA 5 = saysB tT uA 5 ++ macB kK.data.toList (saysB tT uA 5)) := rfl
  rw [ht.out] at HM
  clear ht h2 hL
  unfold Ck at HC1 HC2 HC3
  simp only [if_true, Bool.false_eq_true, if_false] at HC1 HC2 HC3
  generalize bz (saysB tT uA 5 ++ macB kK.data.toList (saysB tT uA 5)) = s0 at *
  go_enter Tryz.func5, Tryz.ntmps5
  go_wp2_with fail
  refine HM.out.mono ?_
  rintro e w1 ⟨rfl, hb⟩
  have HL := Lib.hid hb
  clear hb HM
  go_wp2_with fail
  refine (HR.out w1).mono ?_
  rintro e w2 ⟨rfl, hb⟩
  have HL2 := Lib.hid (HL.out.trans (hb.mono HL.out.size)); clear hb HL; have HL := Lib.hid HL2.out; clear HL2
  clear HR
  go_wp2_with fail
  refine (HKN.out kK w2).mono ?_
  rintro e w3 ⟨rfl, rfl⟩
  have HD1 := Lib.hid (HC1.out w2 (Lib.hid (HLt.out.next HL.out)))
  have HL2 := Lib.hid (HL.out.alloc HL.out.size (.cells #[.string (tkey tT fS), .int .i64 1, .string ⟨#[]⟩, .string kK] 37)); clear HL; have HL := Lib.hid HL2.out; clear HL2
  clear HC1
  generalize w2.alloc (.cells #[.string (tkey tT fS), .int .i64 1, .string ⟨#[]⟩, .string kK] 37) = w3 at *
  go_wp2_with fail
  refine HD1.out.mono ?_
  rintro e w4 ⟨rfl, hb⟩
  have HL2 := Lib.hid (HL.out.trans (hb.mono HL.out.size)); clear hb HL; have HL := Lib.hid HL2.out; clear HL2
  clear HD1
  go_wp2_with fail
  refine (HKN.out kK w4).mono ?_
  rintro e w5 ⟨rfl, rfl⟩
  have HD2 := Lib.hid (HC2.out w4 (Lib.hid (HLt.out.next HL.out)))
  have HL2 := Lib.hid (HL.out.alloc HL.out.size (.cells #[.string (tkey tT fS), .int .i64 1, .string ⟨#[]⟩, .string kK] 37)); clear HL; have HL := Lib.hid HL2.out; clear HL2
  clear HC2
  generalize w4.alloc (.cells #[.string (tkey tT fS), .int .i64 1, .string ⟨#[]⟩, .string kK] 37) = w5 at *
  go_wp2_with fail
  refine HD2.out.mono ?_
  rintro e w6 ⟨rfl, hb⟩
  have HL2 := Lib.hid (HL.out.trans (hb.mono HL.out.size)); clear hb HL; have HL := Lib.hid HL2.out; clear HL2
  clear HD2
  go_wp2_with fail
  refine (HKN.out oK w6).mono ?_
  rintro e w7 ⟨rfl, rfl⟩
  have HD3 := Lib.hid (HC3.out w6 (Lib.hid (HLt.out.next HL.out)))
  have HL2 := Lib.hid (HL.out.alloc HL.out.size (.cells #[.string (tkey tT fS), .int .i64 1, .string ⟨#[]⟩, .string oK] 37)); clear HL; have HL := Lib.hid HL2.out; clear HL2
  clear HC3 HKN
  generalize w6.alloc (.cells #[.string (tkey tT fS), .int .i64 1, .string ⟨#[]⟩, .string oK] 37) = w7 at *
  go_wp2_with fail
  refine HD3.out.mono ?_
  rintro e w8 ⟨rfl, hb⟩
  have HL2 := Lib.hid (HL.out.trans (hb.mono HL.out.size)); clear hb HL; have HL := Lib.hid HL2.out; clear HL2
  clear HD3
  have HF : Hid (Woke w (.returned (.bool true)) w8) := ⟨rfl, HL.out⟩
  clear HL
  go_wp2
  go_ret
  exact HF.out
end Go.Proofs.YtkbgmdabmebdhaaGreatDoor.tk
