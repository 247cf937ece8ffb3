/- The walks of the reference of sha: turning, the words of a block. -/
import Derived.Test.YtbgakcnhbmodaaaDoorShO
import Derived.Test.YtbgakcnhbmodaaaDoorOcN
import Derived.BigQuiet
import Derived.IntWalk
import Derived.StillTailTactics
import Derived.Deep.RegionHeld3
import Derived.Deep.RegionLaw
namespace Go.Proofs.YtbgakcnhbmodaaaDoor.shr
open Go.ChangeShapes Go.WideShapes Go.ChangeAt Go.RowKit Go.Proofs.Aid
open Go.Proofs.YtbgakcnhbmodaaaDoor.oc (be be_length)
open Go.Proofs.YtbgakcnhbmodaaaDoor.sha
set_option linter.unusedVariables false
theorem ret_int {k : IntKind} {a b : Int} (h : a = b) : Ending.returned (.int k a) = .returned (.int k b) := by rw [h]
theorem low_any (n : Int) (w : World) :
    Calls Tryd.prog 27 #[.int .i64 n] w fun e w' => e = .returned (.int .i64 (n % 4294967296)) ∧ w = w' := by
  have h := Lib.hid (i64_low n)
  go_enter Tryd.func27, Tryd.ntmps27
  go_wp2
  go_ret
  exact ⟨ret_int h.out, rfl⟩
theorem turn_low (x k : Nat) (hx : x < 4294967296) (h0 : 0 < k) (h1 : k < 32) : bits .or .i64 ((x : Int) / 2 ^ k) ((x : Int) * 2 ^ (32 - k)) % 4294967296 = ((rotr x k : Nat) : Int) := by
  have hp : 2 ^ (32 - k) ≤ 2 ^ 31 := Nat.pow_le_pow_right (by decide) (by omega)
  have hm : x * 2 ^ (32 - k) < 9223372036854775808 := by
    have : x * 2 ^ (32 - k) ≤ 4294967295 * 2 ^ 31 := Nat.mul_le_mul (by omega) hp
    omega
  have hd : x / 2 ^ k ≤ x := Nat.div_le_self _ _
  have h := i64_or_nat (x / 2 ^ k) (x * 2 ^ (32 - k)) (by omega) hm
  have e1 : (x : Int) / 2 ^ k = ((x / 2 ^ k : Nat) : Int) := by push_cast; rfl
  have e2 : (x : Int) * 2 ^ (32 - k) = ((x * 2 ^ (32 - k) : Nat) : Int) := by push_cast; rfl
  rw [e1, e2, h]
  unfold rotr
  rw [Nat.shiftRight_eq_div_pow, Nat.shiftLeft_eq]
  omega
def Quiet (v : Value) (w : World) (e : Ending) (w' : World) : Prop := e = .returned v ∧ ∃ m, w' = w.drewN m
set_option maxRecDepth 100000 in
set_option maxHeartbeats 1000000 in
theorem turn_any (x k : Nat) (w : World) (hx : x < 4294967296) (h0 : 0 < k) (h1 : k < 32) :
    Calls Tryd.prog 26 #[.int .i64 (x : Int), .int .i64 (k : Int)] w fun e w' => e = .returned (.int .i64 (rotr x k : Nat)) ∧ ∃ m, w' = w.drewN m := by
  have hp : 2 ^ (32 - k) ≤ 2 ^ 31 := Nat.pow_le_pow_right (by decide) (by omega)
  have hm : x * 2 ^ (32 - k) < 9223372036854775808 := by
    have : x * 2 ^ (32 - k) ≤ 4294967295 * 2 ^ 31 := Nat.mul_le_mul (by omega) hp
    omega
  have HR := Lib.hid (turn_low x k hx h0 h1)
  have ew : IntKind.i64.wrap (32 - (k : Int)) = 32 - (k : Int) := IntWalk.i64_in _ (by omega)
  have e32 : (32 - (k : Int)).toNat = 32 - k := by omega
  have hge : 0 ≤ 32 - (k : Int) := by omega
  have hle : 32 - (k : Int) ≤ 64 := by omega
  have hke : (k : Int) ≤ 64 := by omega
  have ex : IntKind.i64.wrap ((x : Int) * 2 ^ (32 - k)) = (x : Int) * 2 ^ (32 - k) := IntWalk.i64_in _ (by
    have e2 : (x : Int) * 2 ^ (32 - k) = ((x * 2 ^ (32 - k) : Nat) : Int) := by push_cast; rfl
    rw [e2]; omega)
  clear hp hm
  go_enter Tryd.func26, Tryd.ntmps26
  go_wp2
  go_quiet ((go_at_call 27; exact Calls.quiet_of_same ((low_any _ _).mono fun _ _ h => ⟨h.1, h.2.symm⟩)))
  go_wp2
  go_ret
  exact ⟨ret_int HR.out, nq, rfl⟩
/-! ### the block of the words -/
theorem infoN : (Tryd.prog.info? 3).map (fun i => (i.zero, i.size, i.bytes)) = some (some (.int .i64 0), 1, 8) := by kernel_rfl
def WInv (l : List Nat) (w0 : World) (v : Value) (w' : World) : Prop := Row w' w0.heap.size 3 1 (fun n : Nat => [.int .i64 (n : Int)]) v l ∧ Below w0.heap.size w0 w'
def Worded (l : List Nat) (w : World) (e : Ending) (w' : World) : Prop := ∃ v, e = .returned v ∧ WInv l w v w'
set_option maxRecDepth 100000 in
theorem word4 (a b c d : UInt8) : bits .or .i64 (bits .or .i64 (bits .or .i64 ((a.toNat : Int) * 16777216) ((b.toNat : Int) * 65536)) ((c.toNat : Int) * 256)) (d.toNat : Int) = ((wordN [a, b, c, d] : Nat) : Int) := by
  have ha := a.toNat_lt
  have hb := b.toNat_lt
  have hc := c.toNat_lt
  have hd := d.toNat_lt
  have h1 := i64_or_nat (a.toNat * 16777216) (b.toNat * 65536) (by omega) (by omega)
  have e1 : a.toNat * 16777216 ||| b.toNat * 65536 = a.toNat * 16777216 + b.toNat * 65536 := by
    have h := Nat.two_pow_add_eq_or_of_lt (i := 24) (b := b.toNat * 65536) (by omega) a.toNat
    rw [show 2 ^ 24 * a.toNat = a.toNat * 16777216 by omega] at h
    exact h.symm
  rw [e1] at h1
  have h2 := i64_or_nat (a.toNat * 16777216 + b.toNat * 65536) (c.toNat * 256) (by omega) (by omega)
  have e2 : a.toNat * 16777216 + b.toNat * 65536 ||| c.toNat * 256 = a.toNat * 16777216 + b.toNat * 65536 + c.toNat * 256 := by
    have h := Nat.two_pow_add_eq_or_of_lt (i := 16) (b := c.toNat * 256) (by omega) (a.toNat * 256 + b.toNat)
    rw [show 2 ^ 16 * (a.toNat * 256 + b.toNat) = a.toNat * 16777216 + b.toNat * 65536 by omega] at h
    exact h.symm
  rw [e2] at h2
  have h3 := i64_or_nat (a.toNat * 16777216 + b.toNat * 65536 + c.toNat * 256) d.toNat (by omega) (by omega)
  have e3 : a.toNat * 16777216 + b.toNat * 65536 + c.toNat * 256 ||| d.toNat = a.toNat * 16777216 + b.toNat * 65536 + c.toNat * 256 + d.toNat := by
    have h := Nat.two_pow_add_eq_or_of_lt (i := 8) (b := d.toNat) (by omega) (a.toNat * 65536 + b.toNat * 256 + c.toNat)
    rw [show 2 ^ 8 * (a.toNat * 65536 + b.toNat * 256 + c.toNat) = a.toNat * 16777216 + b.toNat * 65536 + c.toNat * 256 by omega] at h
    exact h.symm
  rw [e3] at h3
  have f1 : ((a.toNat * 16777216 : Nat) : Int) = (a.toNat : Int) * 16777216 := by simp
  have f2 : ((b.toNat * 65536 : Nat) : Int) = (b.toNat : Int) * 65536 := by simp
  have f3 : ((c.toNat * 256 : Nat) : Int) = (c.toNat : Int) * 256 := by simp
  rw [f1, f2] at h1
  rw [f3] at h2
  rw [h1, h2, h3]
  have e : wordN [a, b, c, d] = (((0 * 256 + a.toNat) * 256 + b.toNat) * 256 + c.toNat) * 256 + d.toNat := rfl
  rw [e]
  congr 1
  omega
theorem four_at (l : List UInt8) (t : Nat) (h : 4 * t + 4 ≤ l.length) : (l.drop (4 * t)).take 4 = [l[4 * t], l[4 * t + 1], l[4 * t + 2], l[4 * t + 3]] := by
  apply List.ext_getElem
  · simp; omega
  · intro i h1 h2
    simp only [List.getElem_take, List.getElem_drop]
    have hi : i < 4 := by simpa using h2
    match i, hi with
    | 0, _ => rfl
    | 1, _ => rfl
    | 2, _ => rfl
    | 3, _ => rfl
theorem index_str {P : Program} {t : TypeId} (ht : P.underlying t = some .string) (w : World) (s : ByteArray) (k : IntKind) {i : Nat} (hi : i < s.size) {I : Int} (hI : I = i) :
    (Instr.index t (.string s) (.int k I)).run P w = .ok (.int .u8 ((s[i].toNat : Nat) : Int)) w := by
  subst hI
  rw [run_index_string (P := P) w t s k (i : Int) ht]
  simp [hi]
structure WF (w0 : World) (g t cap : Nat) (l : List Nat) (q7 q16 : Nat) (w' : World) : Prop where
  c7 : w'.cell? ⟨g, t - 7, none⟩ = some (.int .i64 (q7 : Int))
  c16 : w'.cell? ⟨g, t - 16, none⟩ = some (.int .i64 (q16 : Int))
  row : Row w' w0.heap.size 3 1 (fun n : Nat => [.int .i64 (n : Int)]) (.slice (some ⟨g, 0, none⟩) t cap) l
  low : Below w0.heap.size w0 w'
theorem WF.drewN {w0 w' : World} {g t cap : Nat} {l : List Nat} {q7 q16 : Nat} (h : WF w0 g t cap l q7 q16 w') (m : Nat) : WF w0 g t cap l q7 q16 (w'.drewN m) := ⟨h.c7, h.c16, h.row, below_drewN h.low m⟩
set_option maxRecDepth 100000 in
set_option maxHeartbeats 4000000 in
theorem words_any (s : ByteArray) (w : World) (hs : s.size = 64) :
    Calls Tryd.prog 24 #[.string s] w (Worded (sched s.data.toList) w) := by
  obtain ⟨i0, hi0', hz0, hz1, hz2⟩ := info_parts infoN
  have HS := Lib.hid hs
  clear hs
  have hrow0 : Row w w.heap.size 3 1 (fun n : Nat => [.int .i64 (n : Int)]) (.slice none 0 0) (words16 s.data.toList 0) := Row.nil _ _ _ _ _
  have H0 := Lib.hid (Below.refl w.heap.size w)
  go_enter Tryd.func24, Tryd.ntmps24
  go_wp2
  go_loopw [3, 4] (fun v iv wr => ∃ t : Nat, t ≤ 16 ∧ iv = .int .i64 t ∧ Row wr w.heap.size 3 1 (fun n : Nat => [.int .i64 (n : Int)]) v (words16 s.data.toList t) ∧ Hid (Below w.heap.size w wr)) (fun _ iv _ => 16 - (intOf iv).toNat)
  case atStart => exact ⟨0, by omega, rfl, hrow0, H0⟩
  case round =>
    clear hrow0 H0
    obtain ⟨t, ht, rfl, hrow, hlow⟩ := hrel
    obtain ⟨A, c, rfl⟩ := hrow.form
    by_cases hlt : t < 16
    · have hsz := HS.out
      have h0 : 4 * t < s.size := by omega
      have h1 : 4 * t + 1 < s.size := by omega
      have h2 : 4 * t + 2 < s.size := by omega
      have h3 : 4 * t + 3 < s.size := by omega
      clear hsz
      have hi0 := fun w => index_str (P := Tryd.prog) Tryd.underlying9 w s .i64 h0 (I := 4 * (t : Int)) (by omega)
      have hi1 := fun w => index_str (P := Tryd.prog) Tryd.underlying9 w s .i64 h1 (I := 4 * (t : Int) + 1) (by omega)
      have hi2 := fun w => index_str (P := Tryd.prog) Tryd.underlying9 w s .i64 h2 (I := 4 * (t : Int) + 2) (by omega)
      have hi3 := fun w => index_str (P := Tryd.prog) Tryd.underlying9 w s .i64 h3 (I := 4 * (t : Int) + 3) (by omega)
      have HT : Hid (words16 s.data.toList (t + 1) = words16 s.data.toList t ++ [wordN [s[4 * t], s[4 * t + 1], s[4 * t + 2], s[4 * t + 3]]]) := by
        unfold Hid
        rw [words16_succ, four_at _ _ (by simp; omega)]
        rfl
      have HW := word4 s[4 * t] s[4 * t + 1] s[4 * t + 2] s[4 * t + 3]
      have b0 := s[4 * t].toNat_lt
      have b1 := s[4 * t + 1].toNat_lt
      have b2 := s[4 * t + 2].toNat_lt
      have b3 := s[4 * t + 3].toNat_lt
      generalize wordN [s[4 * t], s[4 * t + 1], s[4 * t + 2], s[4 * t + 3]] = wd at *
      generalize s[4 * t].toNat = x0 at *
      generalize s[4 * t + 1].toNat = x1 at *
      generalize s[4 * t + 2].toNat = x2 at *
      generalize s[4 * t + 3].toNat = x3 at *
      have hln := Lib.hid (words16_length s.data.toList t)
      have HTL : Hid ((words16 s.data.toList t).length ≤ 16) := by unfold Hid; rw [hln.out]; omega
      generalize words16 s.data.toList t = l at *
      have ew0 : IntKind.i64.wrap (4 * (t : Int)) = 4 * (t : Int) := IntWalk.i64_in _ (by omega)
      have ew1 : IntKind.i64.wrap (4 * (t : Int) + 1) = 4 * (t : Int) + 1 := IntWalk.i64_in _ (by omega)
      have ew2 : IntKind.i64.wrap (4 * (t : Int) + 2) = 4 * (t : Int) + 2 := IntWalk.i64_in _ (by omega)
      have ew3 : IntKind.i64.wrap (4 * (t : Int) + 3) = 4 * (t : Int) + 3 := IntWalk.i64_in _ (by omega)
      have ew4 : IntKind.i64.wrap ((x0 : Int) * 16777216) = (x0 : Int) * 16777216 := IntWalk.i64_in _ (by omega)
      have ew5 : IntKind.i64.wrap ((x1 : Int) * 65536) = (x1 : Int) * 65536 := IntWalk.i64_in _ (by omega)
      have ew6 : IntKind.i64.wrap ((x2 : Int) * 256) = (x2 : Int) * 256 := IntWalk.i64_in _ (by omega)
      have ew7 : IntKind.i64.wrap (x0 : Int) = (x0 : Int) := IntWalk.i64_in _ (by omega)
      have ew8 : IntKind.i64.wrap (x1 : Int) = (x1 : Int) := IntWalk.i64_in _ (by omega)
      have ew9 : IntKind.i64.wrap (x2 : Int) = (x2 : Int) := IntWalk.i64_in _ (by omega)
      have ew10 : IntKind.i64.wrap (x3 : Int) = (x3 : Int) := IntWalk.i64_in _ (by omega)
      have hsz := Lib.hid hlow.out.size
      go_wp2
      refine wp_region_held_drew (S := (fun w' => Hid (Below w.heap.size w w'))) (by kernel_rfl) ?_ (fun hHelda0 => ?_)
      · exact Lib.hid hlow.out.drew
      refine wpAnyH_take (i := 0) (v := ?va0) ops0 (by kernel_rfl) (by kernel_rfl) (by kernel_rfl) (fun _ _ _ h => h) (Or.inl ⟨by rfl, ?ya0⟩) hHelda0 ?_
      case ya0 => (intro w hSw; (try dsimp only at hSw); go_simp; try (with_reducible rfl))
      try simp only [Act.put, List.setIfInBounds_toArray, List.set_cons_zero, List.set_cons_succ]
      refine wpAnyH_take (i := 1) (v := ?va1) (opsS ops0) (by kernel_rfl) (by kernel_rfl) (by kernel_rfl) (fun _ _ _ h => h) (Or.inl ⟨by rfl, ?ya1⟩) hHelda0 ?_
      case ya1 => (intro w hSw; (try dsimp only at hSw); go_simp; try (with_reducible rfl))
      try simp only [Act.put, List.setIfInBounds_toArray, List.set_cons_zero, List.set_cons_succ]
      refine wpAnyH_take (i := 2) (v := ?va2) (opsS (opsS ops0)) (by kernel_rfl) (by kernel_rfl) (by kernel_rfl) (fun _ _ _ h => h) (Or.inl ⟨by rfl, ?ya2⟩) hHelda0 ?_
      case ya2 => (intro w hSw; (try dsimp only at hSw); go_simp; try (with_reducible rfl))
      try simp only [Act.put, List.setIfInBounds_toArray, List.set_cons_zero, List.set_cons_succ]
      refine wpAnyH_take (i := 3) (v := ?va3) (opsS (opsS (opsS ops0))) (by kernel_rfl) (by kernel_rfl) (by kernel_rfl) (fun _ _ _ h => h) (Or.inl ⟨by rfl, ?ya3⟩) hHelda0 ?_
      case ya3 => (intro w hSw; (try dsimp only at hSw); go_simp; try (with_reducible rfl))
      try simp only [Act.put, List.setIfInBounds_toArray, List.set_cons_zero, List.set_cons_succ]
      refine wpAnyH_take (i := 4) (v := ?va4) (opsS (opsS (opsS (opsS ops0)))) (by kernel_rfl) (by kernel_rfl) (by kernel_rfl) (fun _ _ _ h => h) (Or.inl ⟨by rfl, ?ya4⟩) hHelda0 ?_
      case ya4 => (intro w hSw; (try dsimp only at hSw); go_simp; try (with_reducible rfl))
      try simp only [Act.put, List.setIfInBounds_toArray, List.set_cons_zero, List.set_cons_succ]
      refine wpAnyH_take (i := 5) (v := ?va5) (opsS (opsS (opsS (opsS (opsS ops0))))) (by kernel_rfl) (by kernel_rfl) (by kernel_rfl) (fun _ _ _ h => h) (Or.inl ⟨by rfl, ?ya5⟩) hHelda0 ?_
      case ya5 => (intro w hSw; (try dsimp only at hSw); go_simp; try (with_reducible rfl))
      try simp only [Act.put, List.setIfInBounds_toArray, List.set_cons_zero, List.set_cons_succ]
      refine wpAnyH_take (i := 6) (v := ?va6) (opsS (opsS (opsS (opsS (opsS (opsS ops0)))))) (by kernel_rfl) (by kernel_rfl) (by kernel_rfl) (fun _ _ _ h => h) (Or.inl ⟨by rfl, ?ya6⟩) hHelda0 ?_
      case ya6 => (intro w hSw; (try dsimp only at hSw); go_simp; try (with_reducible rfl))
      try simp only [Act.put, List.setIfInBounds_toArray, List.set_cons_zero, List.set_cons_succ]
      refine wpAnyH_take (i := 7) (v := ?va7) (opsS (opsS (opsS (opsS (opsS (opsS (opsS ops0))))))) (by kernel_rfl) (by kernel_rfl) (by kernel_rfl) (fun _ _ _ h => h) (Or.inl ⟨by rfl, ?ya7⟩) hHelda0 ?_
      case ya7 => (intro w hSw; (try dsimp only at hSw); go_simp; try (with_reducible rfl))
      try simp only [Act.put, List.setIfInBounds_toArray, List.set_cons_zero, List.set_cons_succ]
      refine wpAnyH_take (i := 8) (v := ?va8) (opsS (opsS (opsS (opsS (opsS (opsS (opsS (opsS ops0)))))))) (by kernel_rfl) (by kernel_rfl) (by kernel_rfl) (fun _ _ _ h => h) (Or.inl ⟨by rfl, ?ya8⟩) hHelda0 ?_
      case ya8 => (intro w hSw; (try dsimp only at hSw); go_simp; try (with_reducible rfl))
      try simp only [Act.put, List.setIfInBounds_toArray, List.set_cons_zero, List.set_cons_succ]
      refine wpAnyH_take (i := 9) (v := ?va9) (opsS (opsS (opsS (opsS (opsS (opsS (opsS (opsS (opsS ops0))))))))) (by kernel_rfl) (by kernel_rfl) (by kernel_rfl) (fun _ _ _ h => h) (Or.inl ⟨by rfl, ?ya9⟩) hHelda0 ?_
      case ya9 => (intro w hSw; (try dsimp only at hSw); go_simp; try (with_reducible rfl))
      try simp only [Act.put, List.setIfInBounds_toArray, List.set_cons_zero, List.set_cons_succ]
      refine wpAnyH_take (i := 10) (v := ?va10) (opsS (opsS (opsS (opsS (opsS (opsS (opsS (opsS (opsS (opsS ops0)))))))))) (by kernel_rfl) (by kernel_rfl) (by kernel_rfl) (fun _ _ _ h => h) (Or.inl ⟨by rfl, ?ya10⟩) hHelda0 ?_
      case ya10 => (intro w hSw; (try dsimp only at hSw); go_simp; try (with_reducible rfl))
      try simp only [Act.put, List.setIfInBounds_toArray, List.set_cons_zero, List.set_cons_succ]
      refine wpAnyH_take (i := 11) (v := ?va11) (opsS (opsS (opsS (opsS (opsS (opsS (opsS (opsS (opsS (opsS (opsS ops0))))))))))) (by kernel_rfl) (by kernel_rfl) (by kernel_rfl) (fun _ _ _ h => h) (Or.inl ⟨by rfl, ?ya11⟩) hHelda0 ?_
      case ya11 => (intro w hSw; (try dsimp only at hSw); go_simp; try (with_reducible rfl))
      try simp only [Act.put, List.setIfInBounds_toArray, List.set_cons_zero, List.set_cons_succ]
      refine wpAnyH_take (i := 12) (v := ?va12) (opsS (opsS (opsS (opsS (opsS (opsS (opsS (opsS (opsS (opsS (opsS (opsS ops0)))))))))))) (by kernel_rfl) (by kernel_rfl) (by kernel_rfl) (fun _ _ _ h => h) (Or.inl ⟨by rfl, ?ya12⟩) hHelda0 ?_
      case ya12 => (intro w hSw; (try dsimp only at hSw); go_simp; try (with_reducible rfl))
      try simp only [Act.put, List.setIfInBounds_toArray, List.set_cons_zero, List.set_cons_succ]
      refine wpAnyH_take (i := 13) (v := ?va13) (opsS (opsS (opsS (opsS (opsS (opsS (opsS (opsS (opsS (opsS (opsS (opsS (opsS ops0))))))))))))) (by kernel_rfl) (by kernel_rfl) (by kernel_rfl) (fun _ _ _ h => h) (Or.inl ⟨by rfl, ?ya13⟩) hHelda0 ?_
      case ya13 => (intro w hSw; (try dsimp only at hSw); go_simp; try (with_reducible rfl))
      try simp only [Act.put, List.setIfInBounds_toArray, List.set_cons_zero, List.set_cons_succ]
      refine wpAnyH_take (i := 14) (v := ?va14) (opsS (opsS (opsS (opsS (opsS (opsS (opsS (opsS (opsS (opsS (opsS (opsS (opsS (opsS ops0)))))))))))))) (by kernel_rfl) (by kernel_rfl) (by kernel_rfl) (fun _ _ _ h => h) (Or.inl ⟨by rfl, ?ya14⟩) hHelda0 ?_
      case ya14 => (intro w hSw; (try dsimp only at hSw); go_simp; try (with_reducible rfl))
      try simp only [Act.put, List.setIfInBounds_toArray, List.set_cons_zero, List.set_cons_succ]
      refine wpAnyH_take (i := 15) (v := ?va15) (opsS (opsS (opsS (opsS (opsS (opsS (opsS (opsS (opsS (opsS (opsS (opsS (opsS (opsS (opsS ops0))))))))))))))) (by kernel_rfl) (by kernel_rfl) (by kernel_rfl) (fun _ _ _ h => h) (Or.inl ⟨by rfl, ?ya15⟩) hHelda0 ?_
      case ya15 => (intro w hSw; (try dsimp only at hSw); go_simp; try (with_reducible rfl))
      try simp only [Act.put, List.setIfInBounds_toArray, List.set_cons_zero, List.set_cons_succ]
      refine wpAnyH_take (i := 16) (v := ?va16) (opsS (opsS (opsS (opsS (opsS (opsS (opsS (opsS (opsS (opsS (opsS (opsS (opsS (opsS (opsS (opsS ops0)))))))))))))))) (by kernel_rfl) (by kernel_rfl) (by kernel_rfl) (fun _ _ _ h => h) (Or.inl ⟨by rfl, ?ya16⟩) hHelda0 ?_
      case ya16 => (intro w hSw; (try dsimp only at hSw); go_simp; try (with_reducible rfl))
      try simp only [Act.put, List.setIfInBounds_toArray, List.set_cons_zero, List.set_cons_succ]
      refine wpAnyH_take (i := 17) (v := ?va17) (opsS (opsS (opsS (opsS (opsS (opsS (opsS (opsS (opsS (opsS (opsS (opsS (opsS (opsS (opsS (opsS (opsS ops0))))))))))))))))) (by kernel_rfl) (by kernel_rfl) (by kernel_rfl) (fun _ _ _ h => h) (Or.inl ⟨by rfl, ?ya17⟩) hHelda0 ?_
      case ya17 => (intro w hSw; (try dsimp only at hSw); go_simp; try (with_reducible rfl))
      try simp only [Act.put, List.setIfInBounds_toArray, List.set_cons_zero, List.set_cons_succ]
      refine wpAnyH_take (i := 18) (v := ?va18) (opsS (opsS (opsS (opsS (opsS (opsS (opsS (opsS (opsS (opsS (opsS (opsS (opsS (opsS (opsS (opsS (opsS (opsS ops0)))))))))))))))))) (by kernel_rfl) (by kernel_rfl) (by kernel_rfl) (fun _ _ _ h => h) (Or.inl ⟨by rfl, ?ya18⟩) hHelda0 ?_
      case ya18 => (intro w hSw; (try dsimp only at hSw); go_simp; try (with_reducible rfl))
      try simp only [Act.put, List.setIfInBounds_toArray, List.set_cons_zero, List.set_cons_succ]
      refine wpAnyH_take (i := 19) (v := ?va19) (opsS (opsS (opsS (opsS (opsS (opsS (opsS (opsS (opsS (opsS (opsS (opsS (opsS (opsS (opsS (opsS (opsS (opsS (opsS ops0))))))))))))))))))) (by kernel_rfl) (by kernel_rfl) (by kernel_rfl) (fun _ _ _ h => h) (Or.inl ⟨by rfl, ?ya19⟩) hHelda0 ?_
      case ya19 => (intro w hSw; (try dsimp only at hSw); go_simp; try (with_reducible rfl))
      try simp only [Act.put, List.setIfInBounds_toArray, List.set_cons_zero, List.set_cons_succ]
      refine wpAnyH_take (i := 20) (v := ?va20) (opsS (opsS (opsS (opsS (opsS (opsS (opsS (opsS (opsS (opsS (opsS (opsS (opsS (opsS (opsS (opsS (opsS (opsS (opsS (opsS ops0)))))))))))))))))))) (by kernel_rfl) (by kernel_rfl) (by kernel_rfl) (fun _ _ _ h => h) (Or.inl ⟨by rfl, ?ya20⟩) hHelda0 ?_
      case ya20 => (intro w hSw; (try dsimp only at hSw); go_simp; try (with_reducible rfl))
      try simp only [Act.put, List.setIfInBounds_toArray, List.set_cons_zero, List.set_cons_succ]
      refine wpAnyH_take (i := 21) (v := ?va21) (opsS (opsS (opsS (opsS (opsS (opsS (opsS (opsS (opsS (opsS (opsS (opsS (opsS (opsS (opsS (opsS (opsS (opsS (opsS (opsS (opsS ops0))))))))))))))))))))) (by kernel_rfl) (by kernel_rfl) (by kernel_rfl) (fun _ _ _ h => h) (Or.inl ⟨by rfl, ?ya21⟩) hHelda0 ?_
      case ya21 => (intro w hSw; (try dsimp only at hSw); go_simp; try (with_reducible rfl))
      try simp only [Act.put, List.setIfInBounds_toArray, List.set_cons_zero, List.set_cons_succ]
      refine wpAnyH_take (i := 22) (v := ?va22) (opsS (opsS (opsS (opsS (opsS (opsS (opsS (opsS (opsS (opsS (opsS (opsS (opsS (opsS (opsS (opsS (opsS (opsS (opsS (opsS (opsS (opsS ops0)))))))))))))))))))))) (by kernel_rfl) (by kernel_rfl) (by kernel_rfl) (fun _ _ _ h => h) (Or.inl ⟨by rfl, ?ya22⟩) hHelda0 ?_
      case ya22 => (intro w hSw; (try dsimp only at hSw); go_simp; try (with_reducible rfl))
      try simp only [Act.put, List.setIfInBounds_toArray, List.set_cons_zero, List.set_cons_succ]
      refine wpAnyH_take (i := 23) (v := ?va23) (opsS (opsS (opsS (opsS (opsS (opsS (opsS (opsS (opsS (opsS (opsS (opsS (opsS (opsS (opsS (opsS (opsS (opsS (opsS (opsS (opsS (opsS (opsS ops0))))))))))))))))))))))) (by kernel_rfl) (by kernel_rfl) (by kernel_rfl) (fun _ _ _ h => h) (Or.inl ⟨by rfl, ?ya23⟩) hHelda0 ?_
      case ya23 => (intro w hSw; (try dsimp only at hSw); go_simp; try (with_reducible rfl))
      try simp only [Act.put, List.setIfInBounds_toArray, List.set_cons_zero, List.set_cons_succ]
      refine wpAnyH_take (i := 24) (v := ?va24) (opsS (opsS (opsS (opsS (opsS (opsS (opsS (opsS (opsS (opsS (opsS (opsS (opsS (opsS (opsS (opsS (opsS (opsS (opsS (opsS (opsS (opsS (opsS (opsS ops0)))))))))))))))))))))))) (by kernel_rfl) (by kernel_rfl) (by kernel_rfl) (fun _ _ _ h => h) (Or.inl ⟨by rfl, ?ya24⟩) hHelda0 ?_
      case ya24 => (intro w hSw; (try dsimp only at hSw); go_simp; try (with_reducible rfl))
      try simp only [Act.put, List.setIfInBounds_toArray, List.set_cons_zero, List.set_cons_succ]
      refine wpAnyH_take (i := 25) (v := ?va25) (opsS (opsS (opsS (opsS (opsS (opsS (opsS (opsS (opsS (opsS (opsS (opsS (opsS (opsS (opsS (opsS (opsS (opsS (opsS (opsS (opsS (opsS (opsS (opsS (opsS ops0))))))))))))))))))))))))) (by kernel_rfl) (by kernel_rfl) (by kernel_rfl) (fun _ _ _ h => h) (Or.inl ⟨by rfl, ?ya25⟩) hHelda0 ?_
      case ya25 => (intro w hSw; (try dsimp only at hSw); go_simp; try (with_reducible rfl))
      try simp only [Act.put, List.setIfInBounds_toArray, List.set_cons_zero, List.set_cons_succ]
      refine wpAnyH_take (i := 26) (v := ?va26) (opsS (opsS (opsS (opsS (opsS (opsS (opsS (opsS (opsS (opsS (opsS (opsS (opsS (opsS (opsS (opsS (opsS (opsS (opsS (opsS (opsS (opsS (opsS (opsS (opsS (opsS ops0)))))))))))))))))))))))))) (by kernel_rfl) (by kernel_rfl) (by kernel_rfl) (fun _ _ _ h => h) (Or.inl ⟨by rfl, ?ya26⟩) hHelda0 ?_
      case ya26 => (intro w hSw; (try dsimp only at hSw); go_simp; try (with_reducible rfl))
      try simp only [Act.put, List.setIfInBounds_toArray, List.set_cons_zero, List.set_cons_succ]
      refine wpAnyH_take (i := 27) (v := ?va27) (opsS (opsS (opsS (opsS (opsS (opsS (opsS (opsS (opsS (opsS (opsS (opsS (opsS (opsS (opsS (opsS (opsS (opsS (opsS (opsS (opsS (opsS (opsS (opsS (opsS (opsS (opsS ops0))))))))))))))))))))))))))) (by kernel_rfl) (by kernel_rfl) (by kernel_rfl) (fun _ _ _ h => h) (Or.inl ⟨by rfl, ?ya27⟩) hHelda0 ?_
      case ya27 => (intro w hSw; (try dsimp only at hSw); go_simp; try (with_reducible rfl))
      try simp only [Act.put, List.setIfInBounds_toArray, List.set_cons_zero, List.set_cons_succ]
      refine wpAnyH_take (i := 28) (v := ?va28) (opsS (opsS (opsS (opsS (opsS (opsS (opsS (opsS (opsS (opsS (opsS (opsS (opsS (opsS (opsS (opsS (opsS (opsS (opsS (opsS (opsS (opsS (opsS (opsS (opsS (opsS (opsS (opsS ops0)))))))))))))))))))))))))))) (by kernel_rfl) (by kernel_rfl) (by kernel_rfl) (fun _ _ _ h => h) (Or.inl ⟨by rfl, ?ya28⟩) hHelda0 ?_
      case ya28 => (intro w hSw; (try dsimp only at hSw); go_simp; try (with_reducible rfl))
      try simp only [Act.put, List.setIfInBounds_toArray, List.set_cons_zero, List.set_cons_succ]
      refine wpAnyH_take (i := 29) (v := ?va29) (opsS (opsS (opsS (opsS (opsS (opsS (opsS (opsS (opsS (opsS (opsS (opsS (opsS (opsS (opsS (opsS (opsS (opsS (opsS (opsS (opsS (opsS (opsS (opsS (opsS (opsS (opsS (opsS (opsS ops0))))))))))))))))))))))))))))) (by kernel_rfl) (by kernel_rfl) (by kernel_rfl) (fun _ _ _ h => h) (Or.inl ⟨by rfl, ?ya29⟩) hHelda0 ?_
      case ya29 => (intro w hSw; (try dsimp only at hSw); go_simp; try (with_reducible rfl))
      try simp only [Act.put, List.setIfInBounds_toArray, List.set_cons_zero, List.set_cons_succ]
      refine wpAnyH_ready (rs := [30]) (by kernel_rfl) (by simp) ?_
      refine AllReadyH.cons (opsS (opsS (opsS (opsS (opsS (opsS (opsS (opsS (opsS (opsS (opsS (opsS (opsS (opsS (opsS (opsS (opsS (opsS (opsS (opsS (opsS (opsS (opsS (opsS (opsS (opsS (opsS (opsS (opsS (opsS ops0)))))))))))))))))))))))))))))) (fun K hK => ?_) AllReadyH.nil
      go_simp
      skip
      try dsimp only
      refine hK.out _ _ ?_ (fun hHelda1 => ?_)
      · (first | assumption | exact Lib.hid (Below.alloc (Hid.out (by assumption : Hid (Below w.heap.size w wr.drew))) hsz.out _) | exact Lib.hid hbl)
      clear hK K hHelda0
      try clear hb
      try simp only [Act.put, List.setIfInBounds_toArray, List.set_cons_zero, List.set_cons_succ]
      refine wpAnyH_ready (rs := [31]) (by kernel_rfl) (by simp) ?_
      refine AllReadyH.cons (opsS (opsS (opsS (opsS (opsS (opsS (opsS (opsS (opsS (opsS (opsS (opsS (opsS (opsS (opsS (opsS (opsS (opsS (opsS (opsS (opsS (opsS (opsS (opsS (opsS (opsS (opsS (opsS (opsS (opsS (opsS ops0))))))))))))))))))))))))))))))) (fun K hK => ?_) AllReadyH.nil
      refine step_append_row _ rfl _ _ 49 rfl w.heap.size 3 i0 _ 1 8 Tryd.underlying49 hi0' hz0 hz1 hz2 rfl (by decide) _ _ rfl (hrow.drew.alloc _) (fun _ => rfl) _ wd rfl (cells_new _ _ _) (by simp [Value.oneCell']) (by simp) (by have := HTL.out; unfold maxLen; omega) (by have := HTL.out; omega) (by have := hsz.out; simp; omega) ?_; intro v' w1 hrow' hgrow; have hbl := low_row hlow.out.drew hrow.drew (Nat.le_refl _) hsz.out hgrow
      try dsimp only
      refine hK.out _ _ ?_ (fun hHelda2 => ?_)
      · (first | assumption | exact Lib.hid (Below.alloc (Hid.out (by assumption : Hid (Below w.heap.size w wr.drew))) hsz.out _) | exact Lib.hid hbl)
      clear hK K hHelda1
      try clear hb
      try simp only [Act.put, List.setIfInBounds_toArray, List.set_cons_zero, List.set_cons_succ]
      refine wpAnyH_take (i := 32) (v := ?va32) (opsS (opsS (opsS (opsS (opsS (opsS (opsS (opsS (opsS (opsS (opsS (opsS (opsS (opsS (opsS (opsS (opsS (opsS (opsS (opsS (opsS (opsS (opsS (opsS (opsS (opsS (opsS (opsS (opsS (opsS (opsS (opsS ops0)))))))))))))))))))))))))))))))) (by kernel_rfl) (by kernel_rfl) (by kernel_rfl) (fun _ _ _ h => h) (Or.inl ⟨by rfl, ?ya32⟩) hHelda2 ?_
      case ya32 => (intro w hSw; (try dsimp only at hSw); go_simp; try (with_reducible rfl))
      try simp only [Act.put, List.setIfInBounds_toArray, List.set_cons_zero, List.set_cons_succ]
      refine wpAnyH_done (by kernel_rfl) ?_ _
      have HR1 := Lib.hid hrow'
      have HB1 := Lib.hid hbl
      clear hrow hlow hrow' hgrow hbl
      go_wp2
      go_roundw
      case rel => exact ⟨t + 1, by omega, by go_num, by rw [HT.out]; exact HR1.out, HB1⟩
      case measure => simp [intOf]; omega
    · have ht16 : t = 16 := by omega
      subst ht16
      go_wp2
      rw [show ((16 : Nat) : Int) = 16 from rfl]
      have hrow0 : Row wr w.heap.size 3 1 (fun n : Nat => [.int .i64 (n : Int)]) (.slice A (words16 s.data.toList 16).length c) (schedN (16 - 16) (words16 s.data.toList 16)) := hrow
      have hwl := words16_length s.data.toList 16
      have hwb := words16_lt s.data.toList 16
      have HF : Hid (∀ t : Nat, t = 48 → schedN t (words16 s.data.toList 16) = sched s.data.toList) := fun t h => by rw [h]; rfl
      clear hrow
      rw [words16_length] at hrow0
      rw [words16_length]
      generalize words16 s.data.toList 16 = l0 at *
      have HLN := Lib.hid (schedN_length l0)
      have HLT := Lib.hid (schedN_lt hwb)
      have HL0 := Lib.hid hwl
      clear hwl hwb
      have H0 := Lib.hid hlow.out
      clear hlow
      go_loopw [3, 5] (fun v iv wr => ∃ t : Nat, 16 ≤ t ∧ t ≤ 64 ∧ iv = .int .i64 t ∧ Row wr w.heap.size 3 1 (fun n : Nat => [.int .i64 (n : Int)]) v (schedN (t - 16) l0) ∧ Hid (Below w.heap.size w wr)) (fun _ iv _ => 64 - (intOf iv).toNat)
      case atStart => exact ⟨16, by omega, by omega, rfl, hrow0, H0⟩
      case round =>
        clear hrow0 H0
        obtain ⟨t, ht16, ht, rfl, hrow, hlow⟩ := hrel
        have hlen := HLN.out (t - 16)
        rw [HL0.out] at hlen
        obtain ⟨g, cap, hv, hbg, hgl⟩ := World.ownsRow.form hrow (by omega)
        subst hv
        by_cases hlt : t < 64
        · have hk := Lib.hid (show t - 16 + 1 = t + 1 - 16 by omega)
          have hlen2 : (schedN (t - 16) l0).length = t := by omega
          have c15 := (Row1.cell hrow (i := t - 15) (by omega)).1
          have c2 := (Row1.cell hrow (i := t - 2) (by omega)).1
          have c7 := (Row1.cell hrow (i := t - 7) (by omega)).1
          have c16 := (Row1.cell hrow (i := t - 16) (by omega)).1
          rw [← Go.Proofs.YtbgakcnhbmodaaaDoor.sha.getD_in (l := schedN (t - 16) l0) (by omega)] at c15 c2 c7 c16
          have y15 := allLt_getD (HLT.out (t - 16)) (t - 15)
          have y2 := allLt_getD (HLT.out (t - 16)) (t - 2)
          have y7 := allLt_getD (HLT.out (t - 16)) (t - 7)
          have y16 := allLt_getD (HLT.out (t - 16)) (t - 16)
          have HN : Hid (nextW (schedN (t - 16) l0) (t - 16) = (sg1 ((schedN (t - 16) l0).getD (t - 2) 0) + (schedN (t - 16) l0).getD (t - 7) 0 + sg0 ((schedN (t - 16) l0).getD (t - 15) 0) + (schedN (t - 16) l0).getD (t - 16) 0) % 4294967296) := by
            unfold Hid nextW
            rw [show t - 16 + 14 = t - 2 by omega, show t - 16 + 9 = t - 7 by omega, show t - 16 + 1 = t - 15 by omega]
          have HS2 := Lib.hid (show schedN (t - 16 + 1) l0 = schedN (t - 16) l0 ++ [nextW (schedN (t - 16) l0) (t - 16)] from rfl)
          have HROW := Lib.hid hrow
          have hsz := Lib.hid hlow.out.size
          have HLT2 : Hid ((schedN (t - 16) l0).length ≤ 64) := by unfold Hid; omega
          clear hrow hlen
          generalize (schedN (t - 16) l0).getD (t - 15) 0 = a at *
          generalize (schedN (t - 16) l0).getD (t - 2) 0 = b at *
          generalize (schedN (t - 16) l0).getD (t - 7) 0 = q7 at *
          generalize (schedN (t - 16) l0).getD (t - 16) 0 = q16 at *
          have hrt := rotr_lt
          have e1 := i64_xor_nat (rotr a 7) (rotr a 18) (hrt _ _) (hrt _ _)
          have e2 : bits .xor .i64 ((rotr a 7 ^^^ rotr a 18 : Nat) : Int) ((a : Int) / 8) = ((rotr a 7 ^^^ rotr a 18 ^^^ a >>> 3 : Nat) : Int) := by
            have := i64_xor_nat (rotr a 7 ^^^ rotr a 18) (a / 8) (xor_lt (hrt _ _) (hrt _ _)) (by omega)
            rw [Nat.shiftRight_eq_div_pow]; exact this
          have e3 := i64_xor_nat (rotr b 17) (rotr b 19) (hrt _ _) (hrt _ _)
          have e4 : bits .xor .i64 ((rotr b 17 ^^^ rotr b 19 : Nat) : Int) ((b : Int) / 1024) = ((rotr b 17 ^^^ rotr b 19 ^^^ b >>> 10 : Nat) : Int) := by
            have := i64_xor_nat (rotr b 17 ^^^ rotr b 19) (b / 1024) (xor_lt (hrt _ _) (hrt _ _)) (by omega)
            rw [Nat.shiftRight_eq_div_pow]; exact this
          have s1 := sg0_lt y15
          have s2 := sg1_lt y2
          have H1 := Lib.hid (show rotr a 7 ^^^ rotr a 18 ^^^ a >>> 3 = sg0 a from rfl)
          have H2 := Lib.hid (show rotr b 17 ^^^ rotr b 19 ^^^ b >>> 10 = sg1 b from rfl)
          rw [H1.out] at e2
          rw [H2.out] at e4
          generalize sg0 a = S0 at *
          generalize sg1 b = S1 at *
          have w15 : IntKind.i64.wrap ((t : Int) - 15) = (t : Int) - 15 := IntWalk.i64_in _ (by omega)
          have w2 : IntKind.i64.wrap ((t : Int) - 2) = (t : Int) - 2 := IntWalk.i64_in _ (by omega)
          have w7 : IntKind.i64.wrap ((t : Int) - 7) = (t : Int) - 7 := IntWalk.i64_in _ (by omega)
          have w16 : IntKind.i64.wrap ((t : Int) - 16) = (t : Int) - 16 := IntWalk.i64_in _ (by omega)
          have n15 : ((t : Int) - 15).toNat = t - 15 := by omega
          have n2 : ((t : Int) - 2).toNat = t - 2 := by omega
          have n7 : ((t : Int) - 7).toNat = t - 7 := by omega
          have n16 : ((t : Int) - 16).toNat = t - 16 := by omega
          rw [hlen2] at HROW ⊢
          have HFX : Hid (∀ m, WF w g t cap (schedN (t - 16) l0) q7 q16 (wr.drewN m)) := fun m => ⟨c7, c16, HROW.out, below_drewN hlow.out m⟩
          clear c7 c16 HROW hlow hlen2
          go_wp2
          go_quiet (fail)
          have HX := Lib.hid (HFX.out nq)
          clear c15 c2 HFX
          generalize wr.drewN nq = wa at *
          go_wp2_with fail
          refine (turn_any a 7 wa y15 (by decide) (by decide)).mono ?_
          rintro e w' ⟨rfl, m, rfl⟩
          replace HX := Lib.hid (HX.out.drewN m)
          generalize wa.drewN m = wb at *
          go_wp2_with fail
          refine (turn_any a 18 wb y15 (by decide) (by decide)).mono ?_
          rintro e w' ⟨rfl, m, rfl⟩
          replace HX := Lib.hid (HX.out.drewN m)
          generalize wb.drewN m = wc at *
          go_wp2_with fail
          refine (turn_any b 17 wc y2 (by decide) (by decide)).mono ?_
          rintro e w' ⟨rfl, m, rfl⟩
          replace HX := Lib.hid (HX.out.drewN m)
          generalize wc.drewN m = wd at *
          go_wp2_with fail
          refine (turn_any b 19 wd y2 (by decide) (by decide)).mono ?_
          rintro e w' ⟨rfl, m, rfl⟩
          replace HX := Lib.hid (HX.out.drewN m)
          generalize wd.drewN m = we at *
          have c7 := HX.out.c7
          have c16 := HX.out.c16
          have HROW := Lib.hid HX.out.row
          have HLOW := Lib.hid HX.out.low
          have hsz2 := Lib.hid HX.out.low.size
          clear hsz HX
          go_wp2
          have ea : IntKind.i64.wrap ((S1 : Int) + (q7 : Int)) = (S1 : Int) + q7 := IntWalk.i64_in _ (by omega)
          have eb : IntKind.i64.wrap ((S1 : Int) + (q7 : Int) + (S0 : Int)) = (S1 : Int) + q7 + S0 := IntWalk.i64_in _ (by omega)
          have ec : IntKind.i64.wrap ((S1 : Int) + (q7 : Int) + (S0 : Int) + (q16 : Int)) = (S1 : Int) + q7 + S0 + q16 := IntWalk.i64_in _ (by omega)
          have ed : ((S1 : Int) + (q7 : Int) + (S0 : Int) + (q16 : Int)) % 4294967296 = (((S1 + q7 + S0 + q16) % 4294967296 : Nat) : Int) := by omega
          have ED := Lib.hid ed
          clear ed e1 e2 e3 e4 hrt w15 w2 n15 n2
          have g1 : 0 ≤ (t : Int) - 7 := by omega
          have g2 : (t : Int) - 7 < t := by omega
          have g3 : 0 ≤ (t : Int) - 16 := by omega
          have g4 : (t : Int) - 16 < t := by omega
          have g5 : (7 : Int) ≤ t := by omega
          have g6 : (16 : Int) ≤ t := by omega
          have g7 : 7 ≤ t := by omega
          go_region_law ((first
            | (refine step_append_row _ rfl _ _ 49 rfl w.heap.size 3 i0 _ 1 8 Tryd.underlying49 hi0' hz0 hz1 hz2 rfl (by decide) _ _ rfl (HROW.out.drew.alloc _) (fun _ => rfl) _ ((S1 + q7 + S0 + q16) % 4294967296) rfl (cells_new _ _ _) (by simp [Value.oneCell']) (by simp) (by have := HLT2.out; unfold maxLen; omega) (by have := HLT2.out; omega) (by have := hsz2.out; simp; omega) ?_; intro v' w1 hrow' hgrow; have hbl := low_row HLOW.out.drew HROW.out.drew (Nat.le_refl _) hsz2.out hgrow)
            | (go_simp; go_at_call 27; refine (low_any _ _).mono ?_; rintro e w' ⟨rfl, rfl⟩; rw [ED.out]; dsimp only)))
          all_goals
            have HR1 := Lib.hid hrow'
            have HB1 := Lib.hid hbl
            clear hrow' hgrow hbl
            go_wp2
            go_roundw
            case rel => exact ⟨t + 1, by omega, by omega, by go_num, by rw [← hk.out, HS2.out, HN.out]; exact HR1.out, HB1⟩
            case measure => simp [intOf]; omega
        · have ht64 : t - 16 = 48 := by omega
          have HFF : Hid (Worded (sched s.data.toList) w (.returned (.slice (some ⟨g, 0, none⟩) (schedN (t - 16) l0).length cap)) wr) := by
            rw [HF.out _ ht64] at hrow ⊢
            exact ⟨_, rfl, hrow, hlow.out⟩
          clear hrow hlow
          go_wp2
          go_ret
          exact HFF.out
end Go.Proofs.YtbgakcnhbmodaaaDoor.shr
