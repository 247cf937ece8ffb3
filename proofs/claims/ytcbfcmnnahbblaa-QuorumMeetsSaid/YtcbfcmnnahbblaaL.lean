/- Strict properties. -/
import Derived.Test.YtcbfcmnnahbblaaJ
namespace Go.Proofs.Ytcbfcmnnahbblaa.quorum
open Go.ChangeShapes Go.WideShapes Go.ChangeAt Go.RowKit Go.Proofs.Aid Go.Proofs.Ytcbfcmnnahbblaa.texts
def mN (lo n : Int) : Bool := decide (lo ≤ n) && decide (n ≤ 16)
theorem may_n (w : World) (n : Int) : Calls Try.prog 29 #[.string ⟨#[110]⟩, .int .i64 n] w fun e w' => e = .returned (.bool (mN 1 n)) ∧ w' = w := by
  cases d : decide ((1 : Int) ≤ n) with
  | true =>
    go_enter Try.func29, Try.ntmps29
    go_wp2
    go_ret
    exact ⟨ret_bool (by unfold mN; rw [d]; rfl), rfl⟩
  | false =>
    go_enter Try.func29, Try.ntmps29
    go_wp2
    go_ret
    exact ⟨ret_bool (by unfold mN; rw [d]; rfl), rfl⟩
theorem may_r (w : World) (n : Int) : Calls Try.prog 29 #[.string ⟨#[114]⟩, .int .i64 n] w fun e w' => e = .returned (.bool (mN 1 n)) ∧ w' = w := by
  cases d : decide ((1 : Int) ≤ n) with
  | true =>
    go_enter Try.func29, Try.ntmps29
    go_wp2
    go_ret
    exact ⟨ret_bool (by unfold mN; rw [d]; rfl), rfl⟩
  | false =>
    go_enter Try.func29, Try.ntmps29
    go_wp2
    go_ret
    exact ⟨ret_bool (by unfold mN; rw [d]; rfl), rfl⟩
theorem may_w (w : World) (n : Int) : Calls Try.prog 29 #[.string ⟨#[119]⟩, .int .i64 n] w fun e w' => e = .returned (.bool (mN 1 n)) ∧ w' = w := by
  cases d : decide ((1 : Int) ≤ n) with
  | true =>
    go_enter Try.func29, Try.ntmps29
    go_wp2
    go_ret
    exact ⟨ret_bool (by unfold mN; rw [d]; rfl), rfl⟩
  | false =>
    go_enter Try.func29, Try.ntmps29
    go_wp2
    go_ret
    exact ⟨ret_bool (by unfold mN; rw [d]; rfl), rfl⟩
theorem may_pr (w : World) (n : Int) : Calls Try.prog 29 #[.string ⟨#[112, 114]⟩, .int .i64 n] w fun e w' => e = .returned (.bool (mN 0 n)) ∧ w' = w := by
  cases d : decide ((0 : Int) ≤ n) with
  | true =>
    go_enter Try.func29, Try.ntmps29
    go_wp2
    go_ret
    exact ⟨ret_bool (by unfold mN; rw [d]; rfl), rfl⟩
  | false =>
    go_enter Try.func29, Try.ntmps29
    go_wp2
    go_ret
    exact ⟨ret_bool (by unfold mN; rw [d]; rfl), rfl⟩
theorem may_pw (w : World) (n : Int) : Calls Try.prog 29 #[.string ⟨#[112, 119]⟩, .int .i64 n] w fun e w' => e = .returned (.bool (mN 0 n)) ∧ w' = w := by
  cases d : decide ((0 : Int) ≤ n) with
  | true =>
    go_enter Try.func29, Try.ntmps29
    go_wp2
    go_ret
    exact ⟨ret_bool (by unfold mN; rw [d]; rfl), rfl⟩
  | false =>
    go_enter Try.func29, Try.ntmps29
    go_wp2
    go_ret
    exact ⟨ret_bool (by unfold mN; rw [d]; rfl), rfl⟩
def Fit (pn _pr _pw qr qw : Int) : Prop := 1 ≤ pn ∧ pn ≤ 16 ∧ 0 ≤ qr ∧ qr ≤ pn ∧ 0 ≤ qw ∧ qw ≤ pn
def ChkPost (w : World) (F : Prop) (e : Ending) (w' : World) : Prop := ∃ v : Int, e = .returned (.int .i64 v) ∧ (v = 0 → F) ∧ Below w.heap.size w w'
set_option maxRecDepth 100000 in
set_option maxHeartbeats 4000000 in
theorem check_any (w : World) (pn pr pw qr qw : Int) (ps pm pb : Bool) : Calls Try.prog 23 #[.agg #[.int .i64 pn, .int .i64 pr, .int .i64 pw, .int .i64 qr, .int .i64 qw, .bool ps, .bool pm, .bool pb]] w (ChkPost w (Fit pn pr pw qr qw)) := by
  have HL := Lib.hid (below_lit w (.cells #[.int .i64 pn, .int .i64 pr, .int .i64 pw, .int .i64 qr, .int .i64 qw, .bool ps, .bool pm, .bool pb] 23))
  go_enter Try.func23, Try.ntmps23
  go_wp2_with fail
  refine (may_n _ _).mono ?_
  cases M0 : mN 1 pn with
  | false =>
    rintro e w1 ⟨rfl, rfl⟩
    go_wp2; go_ret; exact ⟨1, rfl, (fun h => by cases h), HL.out⟩
  | true =>
    rintro e w1 ⟨rfl, rfl⟩
    go_wp2_with fail
    refine (may_r _ _).mono ?_
    cases M1 : mN 1 pr with
    | false =>
      rintro e w2 ⟨rfl, rfl⟩
      go_wp2; go_ret; exact ⟨1, rfl, (fun h => by cases h), HL.out⟩
    | true =>
      rintro e w2 ⟨rfl, rfl⟩
      go_wp2_with fail
      refine (may_w _ _).mono ?_
      cases M2 : mN 1 pw with
      | false =>
        rintro e w3 ⟨rfl, rfl⟩
        go_wp2; go_ret; exact ⟨1, rfl, (fun h => by cases h), HL.out⟩
      | true =>
        rintro e w3 ⟨rfl, rfl⟩
        go_wp2_with fail
        refine (may_pr _ _).mono ?_
        cases M3 : mN 0 qr with
        | false =>
          rintro e w4 ⟨rfl, rfl⟩
          go_wp2; go_ret; exact ⟨1, rfl, (fun h => by cases h), HL.out⟩
        | true =>
          rintro e w4 ⟨rfl, rfl⟩
          go_wp2_with fail
          refine (may_pw _ _).mono ?_
          cases M4 : mN 0 qw with
          | false =>
            rintro e w5 ⟨rfl, rfl⟩
            go_wp2; go_ret; exact ⟨1, rfl, (fun h => by cases h), HL.out⟩
          | true =>
            rintro e w5 ⟨rfl, rfl⟩
            cases D0 : decide (pn < pr) with
            | true => go_wp2; go_ret; exact ⟨1, rfl, (fun h => by cases h), HL.out⟩
            | false =>
              cases D1 : decide (pn < pw) with
              | true => go_wp2; go_ret; exact ⟨1, rfl, (fun h => by cases h), HL.out⟩
              | false =>
                cases D2 : decide (pn < qr) with
                | true => go_wp2; go_ret; exact ⟨1, rfl, (fun h => by cases h), HL.out⟩
                | false =>
                  cases D3 : decide (pn < qw) with
                  | true => go_wp2; go_ret; exact ⟨1, rfl, (fun h => by cases h), HL.out⟩
                  | false =>
                    have hf : Hid (Fit pn pr pw qr qw) := by
                      unfold mN at M0 M3 M4
                      simp only [Bool.and_eq_true, decide_eq_true_eq, decide_eq_false_iff_not] at M0 M3 M4 D2 D3
                      exact ⟨by omega, by omega, by omega, by omega, by omega, by omega⟩
                    go_wp2
                    go_ret
                    exact ⟨0, rfl, fun _ => hf.out, HL.out⟩
def StrictPost (w : World) (F : Prop) (e : Ending) (w' : World) : Prop := ∃ b : Bool, e = .returned (.bool b) ∧ (b = true → F) ∧ Below w.heap.size w w'
set_option maxRecDepth 100000 in
set_option maxHeartbeats 4000000 in
theorem strict_any (w : World) (pn pr pw qr qw : Int) (ps pm pb : Bool) : Calls Try.prog 13 #[.agg #[.int .i64 pn, .int .i64 pr, .int .i64 pw, .int .i64 qr, .int .i64 qw, .bool ps, .bool pm, .bool pb]] w (StrictPost w (Fit pn pr pw qr qw ∧ pn < qr + qw)) := by
  have HL := Lib.hid (below_lit w (.cells #[.int .i64 pn, .int .i64 pr, .int .i64 pw, .int .i64 qr, .int .i64 qw, .bool ps, .bool pm, .bool pb] 23))
  have HBK := Lib.hid (Blk.new w 23 #[.int .i64 pn, .int .i64 pr, .int .i64 pw, .int .i64 qr, .int .i64 qw, .bool ps, .bool pm, .bool pb])
  go_enter Try.func13, Try.ntmps13
  go_wp2_with fail
  refine (check_any _ pn pr pw qr qw ps pm pb).mono ?_
  rintro e w1 ⟨v, rfl, hv, hb⟩
  replace HBK := Lib.hid (Blk.below (Hid.out HBK) hb (Hid.out HBK).lt)
  replace HL := Lib.hid ((Hid.out HL).trans (hb.mono (Hid.out HL).size))
  clear hb
  by_cases h0 : v = 0
  · subst h0
    have hF := hv rfl
    have HF := Lib.hid hF
    obtain ⟨h1, h2, h3, h4, h5, h6⟩ := hF
    clear hv
    have k0 : w1.cell? ⟨w.heap.size, 0, none⟩ = some (.int .i64 pn) := HBK.out.cell 0
    have k3 : w1.cell? ⟨w.heap.size, 3, none⟩ = some (.int .i64 qr) := HBK.out.cell 3
    have k4 : w1.cell? ⟨w.heap.size, 4, none⟩ = some (.int .i64 qw) := HBK.out.cell 4
    cases hd : decide (pn < qr + qw) with
    | true =>
      have HD := Lib.hid (by simpa using hd : pn < qr + qw)
      go_wp2
      go_ret
      exact ⟨true, rfl, fun _ => ⟨HF.out, HD.out⟩, HL.out⟩
    | false =>
      go_wp2
      go_ret
      exact ⟨false, rfl, (fun h => by cases h), HL.out⟩
  · have hn : (v == 0) = false := by simpa using h0
    clear hv
    go_wp2
    go_ret
    exact ⟨false, rfl, (fun h => by cases h), HL.out⟩
end Go.Proofs.Ytcbfcmnnahbblaa.quorum
