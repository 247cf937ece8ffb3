/- The walks of sha: turning, one step. -/
import Derived.Test.YtkbgmdabmebdhaaGreatDoorShN
import Derived.Test.YtkbgmdabmebdhaaGreatDoorKit
import Derived.OpenShut
import Derived.ShutString
import Derived.BigQuiet
import Derived.Deep.QuietTactic
namespace Go.Proofs.YtkbgmdabmebdhaaGreatDoor.sha
open Go.ChangeShapes Go.WideShapes Go.ChangeAt Go.RowKit Go.Proofs.Aid
set_option linter.unusedVariables false
theorem ret_int {k : IntKind} {a b : Int} (h : a = b) : Ending.returned (.int k a) = .returned (.int k b) := by rw [h]
theorem rotl_any (x k : Nat) (w : World) (hx : x < 4294967296) (h0 : 0 < k) (h1 : k < 32) :
    Calls Tryz.prog 101 #[.int .u32 x, .int .i64 (-(k : Int))] w fun e w' => e = .returned (.int .u32 (rotr x k : Nat)) ∧ w = w' := by
  have hs := rot_s h0 h1
  have HR := Lib.hid (rot_u32 x (32 - k) k hx (by omega) (by omega))
  have hk : 32 - (32 - k) = k := by omega
  generalize -(k : Int) = m at *
  have hs1 : 32 - k < 32 := by omega
  generalize 32 - k = s at *
  go_enter Tryz.func101, Tryz.ntmps101
  go_wp2
  go_ret
  exact ⟨ret_int HR.out, rfl⟩
theorem right_any (x k : Nat) (w : World) (hx : x < 4294967296) (h0 : 0 < k) (h1 : k < 32) :
    Calls Tryz.prog 90 #[.int .u32 x, .int .i64 k] w fun e w' => e = .returned (.int .u32 (rotr x k : Nat)) ∧ w = w' := by
  go_enter Tryz.func90, Tryz.ntmps90
  go_wp2_with fail
  refine (rotl_any x k _ hx h0 h1).mono ?_
  rintro e w' ⟨rfl, rfl⟩
  go_wp2
  go_ret
  exact ⟨rfl, rfl⟩
def S8.cells (x : S8) : Array Value := #[.int .u32 x.a, .int .u32 x.b, .int .u32 x.c, .int .u32 x.d, .int .u32 x.e, .int .u32 x.f, .int .u32 x.g, .int .u32 x.h]
def Stepped (x : S8) (w : World) (e : Ending) (w' : World) : Prop := e = .returned (.agg x.cells) ∧ Below w.heap.size w w'
set_option maxRecDepth 100000 in
set_option maxHeartbeats 2000000 in
theorem stepped_any (x : S8) (k : Nat) (w : World) (hx : x.ok) (hk : k < 4294967296) :
    Calls Tryz.prog 83 #[.agg x.cells, .int .u32 k] w (Stepped (stepS x k) w) := by
  obtain ⟨a, b, c, d, e, f, g, i⟩ := x
  obtain ⟨ha, hb, hc, hd, he, hf, hg, hh⟩ := hx
  simp only at ha hb hc hd he hf hg hh
  have HS : Hid (Stepped (stepS ⟨a, b, c, d, e, f, g, i⟩ k) w = Stepped ⟨(i + bs1 e + chf e f g + k + (bs0 a + maj a b c)) % 4294967296, a, b, c, (d + (i + bs1 e + chf e f g + k)) % 4294967296, e, f, g⟩ w) := rfl
  rw [HS.out]
  clear HS
  simp only [S8.cells]
  have hr := rotr_lt
  have e1 := u32_xor_nat (rotr e 6) (rotr e 11) (hr _ _) (hr _ _)
  have e2 := u32_xor_nat (rotr e 6 ^^^ rotr e 11) (rotr e 25) (xor_lt (hr _ _) (hr _ _)) (hr _ _)
  have e3 := u32_and_nat e f he hf
  have e4 := u32_not he
  have e5 := u32_and_nat (e ^^^ 4294967295) g (not_lt he) hg
  have e6 := u32_xor_nat (e &&& f) ((e ^^^ 4294967295) &&& g) (and_lt _ he) (and_lt _ (not_lt he))
  have e7 := u32_xor_nat (rotr a 2) (rotr a 13) (hr _ _) (hr _ _)
  have e8 := u32_xor_nat (rotr a 2 ^^^ rotr a 13) (rotr a 22) (xor_lt (hr _ _) (hr _ _)) (hr _ _)
  have e9 := u32_and_nat a b ha hb
  have e10 := u32_and_nat a c ha hc
  have e11 := u32_xor_nat (a &&& b) (a &&& c) (and_lt _ ha) (and_lt _ ha)
  have e12 := u32_and_nat b c hb hc
  have e13 := u32_xor_nat ((a &&& b) ^^^ (a &&& c)) (b &&& c) (xor_lt (and_lt _ ha) (and_lt _ ha)) (and_lt _ hb)
  have H1 := Lib.hid (show rotr e 6 ^^^ rotr e 11 ^^^ rotr e 25 = bs1 e from rfl)
  have H2 := Lib.hid (show (e &&& f) ^^^ ((e ^^^ 4294967295) &&& g) = chf e f g from rfl)
  have H3 := Lib.hid (show rotr a 2 ^^^ rotr a 13 ^^^ rotr a 22 = bs0 a from rfl)
  have H4 := Lib.hid (show (a &&& b) ^^^ (a &&& c) ^^^ (b &&& c) = maj a b c from rfl)
  have b1 := bs1_lt e
  have b2 := chf_lt g he (f := f)
  have b3 := bs0_lt a
  have b4 := maj_lt c ha hb
  rw [H1.out] at e2
  rw [H2.out] at e6
  rw [H3.out] at e8
  rw [H4.out] at e13
  generalize bs1 e = B1 at *
  generalize bs0 a = B0 at *
  generalize chf e f g = CH at *
  generalize maj a b c = MJ at *
  go_enter Tryz.func83, Tryz.ntmps83
  go_wp2
  go_quiet (fail)
  go_wp2_with (go_at_call 90; refine (right_any _ _ _ (by assumption) (by decide) (by decide)).mono ?_; rintro e w' ⟨rfl, rfl⟩)
  refine bodyPost_ret (v := .agg #[.int .u32 (((i + B1 + CH + k + (B0 + MJ)) % 4294967296 : Nat) : Int), .int .u32 a, .int .u32 b, .int .u32 c, .int .u32 ((d + (i + B1 + CH + k)) % 4294967296 : Nat), .int .u32 e, .int .u32 f, .int .u32 g]) (by simp [results, Tryz.results83, go_sem]) rfl ?_
  refine ⟨rfl, ?_⟩
  have hb0 : Below w.heap.size w (((w.alloc (.cells #[.int .u32 a, .int .u32 b, .int .u32 c, .int .u32 d, .int .u32 e, .int .u32 f, .int .u32 g, .int .u32 i] 103)).alloc (.cells #[.int .u32 0, .int .u32 0, .int .u32 0, .int .u32 0, .int .u32 0, .int .u32 0, .int .u32 0, .int .u32 0] 103)).drewN nq) :=
    below_drewN (((Below.refl _ _).alloc (Nat.le_refl _) _).alloc (by simp) _) nq
  repeat (refine Below.setCell ?_ (by simp) _)
  exact hb0
end Go.Proofs.YtkbgmdabmebdhaaGreatDoor.sha
