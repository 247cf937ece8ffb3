import Derived.Test.YtkbgmdabmebdhaaGreatDoorShE
import Derived.Lib.FrozenHead
import Derived.Test.YtkbgmdabmebdhaaGreatDoorShO
import Derived.Test.YtkbgmdabmebdhaaGreatDoorOcN
import Derived.BigQuiet
import Derived.IntWalk
import Derived.StillTailTactics
import Derived.Deep.RegionHeld3
import Derived.Deep.RegionLaw
/- The walks of sha: a builder of one's own, the digits. -/
namespace Go.Proofs.YtkbgmdabmebdhaaGreatDoor.sha
open Go.ChangeShapes Go.WideShapes Go.ChangeAt Go.RowKit Go.Proofs.Aid
open Go.Proofs.YtkbgmdabmebdhaaGreatDoor.oc (be self be_length)
open Go.Lib (byteCells)
set_option linter.unusedVariables false
set_option linter.unusedSimpArgs false
theorem liesB2 : liesAt Tryz.prog Tryz.prog.depth 59 (2 / Tryz.prog.cellsOf 59) 0 59 1 = true := by kernel_rfl
set_option maxRecDepth 100000 in
set_option maxHeartbeats 1000000 in
theorem hcc_new (b : Nat) (w : World) (cs : Array Value) (hcs : cs.size = 2) (hb : Blk w b 59 cs) (h0 : w.cell? ⟨b, 0, none⟩ = some (.pointer none)) :
    Calls Tryz.prog 81 #[self b] w fun e w' => e = .returned (.tuple #[]) ∧ w' = w.setCell ⟨b, 0, none⟩ (self b) := by
  obtain ⟨j, hj, hjs⟩ := Option.map_eq_some_iff.1 oc.infoB
  have hsh := oc.shape_of hb
  rw [hcs] at hsh
  have hfz := hb.frozen 0
  have h1 := Lib.hid (Lib.run_to_unsafe (P := Tryz.prog) w ⟨b, 0, none⟩ Tryz.underlying56 Tryz.underlying118 hj (by rw [hjs]; decide) hsh (by show (0:Nat) < 2; decide))
  have h2 := Lib.hid (Lib.run_from_unsafe (P := Tryz.prog) w ⟨b, 0, none⟩ Tryz.underlying118 Tryz.underlying56 hj hsh liesB2)
  clear hb hsh hcs
  go_enter Tryz.func81, Tryz.ntmps81
  go_wp2
  rw [h1.out]
  simp only [Result.andThen]
  rw [Oper.upon_value]
  go_wp2
  rw [run_callFunc_extern Tryz.func89 (by kernel_rfl) (by kernel_rfl) (by kernel_rfl) (e := Extern.AbiNoEscape.same) (by kernel_rfl)]
  rw [Lib.run_noEscape]
  simp only [Result.andThen]
  rw [Oper.upon_value]
  go_wp2
  rw [h2.out]
  simp only [Result.andThen]
  rw [Oper.upon_value]
  go_wp2
  go_end0
  exact ⟨rfl, rfl⟩
/-- A builder that holds bs: fresh, or written to. -/
def Bl (b : Nat) (p : Value) (bs : List UInt8) (w : World) : Prop := ∃ v, Blk w b 59 #[p, v] ∧ w.ownsRow (b + 1) 5 1 v bs.length (byteCells bs)
def Bw (b : Nat) (bs : List UInt8) (w : World) : Prop := Bl b (.pointer none) bs w ∨ Bl b (self b) bs w
theorem Bl.lt {b : Nat} {p : Value} {bs : List UInt8} {w : World} (h : Bl b p bs w) : b < w.heap.size := by obtain ⟨v, hb, _⟩ := h; exact hb.lt
theorem Bl.isB {b : Nat} {p : Value} {bs : List UInt8} {w : World} (h : Bl b p bs w) : Lib.BuilderAt 59 5 b b p (byteCells bs) w := by
  obtain ⟨v, hb, ho⟩ := h
  refine ⟨Nat.le_refl _, v, hb, ?_, fun e => ?_⟩
  · rw [Lib.byteCells_length]
    exact ⟨ho.1, ho.2.imp id fun ⟨g, cap, cur, h1, h2, h3⟩ => ⟨g, cap, cur, h1, by omega, h3⟩⟩
  · have := (ho.lt b e).1; omega
theorem Bw.isB {b : Nat} {bs : List UInt8} {w : World} (h : Bw b bs w) : Lib.IsBuilder 59 5 b b (byteCells bs) w := h.imp Bl.isB Bl.isB
theorem Bl.set {b : Nat} {p : Value} {bs : List UInt8} {w : World} (h : Bl b p bs w) (q : Value) : Bl b q bs (w.setCell ⟨b, 0, none⟩ q) := by
  obtain ⟨v, hb, ho⟩ := h
  refine ⟨v, by simpa using hb.set_ 0 q, ho.kept (row := some b) ⟨rfl, rfl, rfl, by simp [World.setCell], fun k _ hk => Below.heap_setCell _ _ _ _ (fun e => hk (by simp [e]))⟩ (.inr fun e => ?_)⟩
  have := (ho.lt b e).1; omega
def Wb (b : Nat) (bs : List UInt8) (w : World) (e : Ending) (w' : World) : Prop := e = .returned .nilIface ∧ Bl b (self b) bs w' ∧ Below b w w'
def Cb (b : Nat) (bs : List UInt8) (w : World) (e : Ending) (w' : World) : Prop := e = .returned (.tuple #[]) ∧ Bl b (self b) bs w' ∧ Below b w w'
theorem hcc_any (b : Nat) (bs : List UInt8) (w : World) (h : Bw b bs w) : Calls Tryz.prog 81 #[self b] w (Cb b bs w) := by
  rcases h with h | h
  · obtain ⟨v, hb, ho⟩ := id h
    refine (hcc_new b w _ rfl hb (by rw [hb.cell]; rfl)).mono ?_
    rintro e w' ⟨rfl, rfl⟩
    exact ⟨rfl, h.set (self b), (Below.refl b w).setCell (p := ⟨b, 0, none⟩) (Nat.le_refl _) _⟩
  · obtain ⟨v, hb, ho⟩ := id h
    refine (oc.cc_used b w (by rw [hb.cell]; rfl)).mono ?_
    rintro e w' ⟨rfl, rfl⟩
    exact ⟨rfl, h, Below.refl _ _⟩
theorem hexB_snoc (l : List UInt8) (c : UInt8) : hexB (l ++ [c]) = hexB l ++ [hexD (c.toNat / 16)] ++ [hexD (c.toNat % 16)] := by simp [hexB]
theorem hexB_len (l : List UInt8) : (hexB l).length = 2 * l.length := by
  induction l with
  | nil => rfl
  | cons c l ih => simp only [hexB, List.flatMap_cons, List.length_append, List.length_cons, List.length_nil] at *; omega
theorem hexB_length (s : List UInt8) : (hexB (shaB s)).length = 64 := by rw [hexB_len, shaB_length]
def hexT : ByteArray := ⟨#[48, 49, 50, 51, 52, 53, 54, 55, 56, 57, 97, 98, 99, 100, 101, 102]⟩
theorem and15 : ∀ c : Fin 256, bits .and .u8 (c.val : Int) 15 = ((c.val % 16 : Nat) : Int) := by decide +kernel
theorem hexDn : ∀ k : Fin 16, (hexT[k.val]'(by show k.val < 16; exact k.isLt)).toNat = (hexD k.val).toNat := by decide +kernel
def Hexed (b : List UInt8) (w : World) (e : Ending) (w' : World) : Prop := e = .returned (.string ⟨b.toArray⟩) ∧ Below w.heap.size w w'
theorem hexRun (w : World) (k : Nat) (hk : k < 16) : (Instr.index 9 (.string hexT) (.int .u8 (k : Int))).run Tryz.prog w = .ok (.int .u8 ((hexD k).toNat : Int)) w := by
  have h := hexDn ⟨k, hk⟩
  rw [run_index_string (P := Tryz.prog) w 9 hexT .u8 (k : Int) Tryz.underlying9]
  have h2 : (hexT[k]'(by show k < 16; exact hk)).toNat = (hexD k).toNat := h
  have hk2 : k < hexT.size := hk
  simp [hk2, h2]
end Go.Proofs.YtkbgmdabmebdhaaGreatDoor.sha

/- The walks of sha: the digits. -/
namespace Go.Proofs.YtkbgmdabmebdhaaGreatDoor.sha
open Go.ChangeShapes Go.WideShapes Go.ChangeAt Go.RowKit Go.Proofs.Aid
open Go.Proofs.YtkbgmdabmebdhaaGreatDoor.oc (be self be_length)
open Go.Lib (byteCells)
set_option linter.unusedVariables false
theorem Bl.below {b : Nat} {p : Value} {bs : List UInt8} {w w' : World} (h : Bl b p bs w) (hb : Below w.heap.size w w') : Bl b p bs w' := by
  obtain ⟨v, h1, h2⟩ := h
  exact ⟨v, h1.below hb h1.lt, h2.kept (only_of_below hb none) (by cases v.ownBlock <;> simp)⟩
theorem Bw.below {b : Nat} {bs : List UInt8} {w w' : World} (h : Bw b bs w) (hb : Below w.heap.size w w') : Bw b bs w' := h.imp (Bl.below · hb) (Bl.below · hb)
end Go.Proofs.YtkbgmdabmebdhaaGreatDoor.sha

/- The walks of the reference of sha: turning, the words of a block. -/
namespace Go.Proofs.YtkbgmdabmebdhaaGreatDoor.shr
open Go.ChangeShapes Go.WideShapes Go.ChangeAt Go.RowKit Go.Proofs.Aid
open Go.Proofs.YtkbgmdabmebdhaaGreatDoor.oc (be be_length)
open Go.Proofs.YtkbgmdabmebdhaaGreatDoor.sha
set_option linter.unusedVariables false
theorem ret_int {k : IntKind} {a b : Int} (h : a = b) : Ending.returned (.int k a) = .returned (.int k b) := by rw [h]
theorem low_any (n : Int) (w : World) :
    Calls Tryz.prog 80 #[.int .i64 n] w fun e w' => e = .returned (.int .i64 (n % 4294967296)) ∧ w = w' := by
  have h := Lib.hid (i64_low n)
  go_enter Tryz.func80, Tryz.ntmps80
  go_wp2
  go_ret
  exact ⟨ret_int h.out, rfl⟩
theorem turn_low (x k : Nat) (hx : x < 4294967296) (h0 : 0 < k) (h1 : k < 32) : bits .or .i64 ((x : Int) / 2 ^ k) ((x : Int) * 2 ^ (32 - k)) % 4294967296 = ((rotr x k : Nat) : Int) := by
  have hp : 2 ^ (32 - k) ≤ 2 ^ 31 := Nat.pow_le_pow_right (by decide) (by omega)
  have hm : x * 2 ^ (32 - k) < 9223372036854775808 := by
    have : x * 2 ^ (32 - k) ≤ 4294967295 * 2 ^ 31 := Nat.mul_le_mul (by omega) hp
    omega
  have hd : x / 2 ^ k ≤ x := Nat.div_le_self _ _
  have h := i64_or_nat (x / 2 ^ k) (x * 2 ^ (32 - k)) (by omega) hm
  have e1 : (x : Int) / 2 ^ k = ((x / 2 ^ k : Nat) : Int) := by push_cast; rfl
  have e2 : (x : Int) * 2 ^ (32 - k) = ((x * 2 ^ (32 - k) : Nat) : Int) := by push_cast; rfl
  rw [e1, e2, h]
  unfold rotr
  rw [Nat.shiftRight_eq_div_pow, Nat.shiftLeft_eq]
  omega
def Quiet (v : Value) (w : World) (e : Ending) (w' : World) : Prop := e = .returned v ∧ ∃ m, w' = w.drewN m
set_option maxRecDepth 100000 in
set_option maxHeartbeats 1000000 in
theorem turn_any (x k : Nat) (w : World) (hx : x < 4294967296) (h0 : 0 < k) (h1 : k < 32) :
    Calls Tryz.prog 79 #[.int .i64 (x : Int), .int .i64 (k : Int)] w fun e w' => e = .returned (.int .i64 (rotr x k : Nat)) ∧ ∃ m, w' = w.drewN m := by
  have hp : 2 ^ (32 - k) ≤ 2 ^ 31 := Nat.pow_le_pow_right (by decide) (by omega)
  have hm : x * 2 ^ (32 - k) < 9223372036854775808 := by
    have : x * 2 ^ (32 - k) ≤ 4294967295 * 2 ^ 31 := Nat.mul_le_mul (by omega) hp
    omega
  have HR := Lib.hid (turn_low x k hx h0 h1)
  have ew : IntKind.i64.wrap (32 - (k : Int)) = 32 - (k : Int) := IntWalk.i64_in _ (by omega)
  have e32 : (32 - (k : Int)).toNat = 32 - k := by omega
  have hge : 0 ≤ 32 - (k : Int) := by omega
  have hle : 32 - (k : Int) ≤ 64 := by omega
  have hke : (k : Int) ≤ 64 := by omega
  have ex : IntKind.i64.wrap ((x : Int) * 2 ^ (32 - k)) = (x : Int) * 2 ^ (32 - k) := IntWalk.i64_in _ (by
    have e2 : (x : Int) * 2 ^ (32 - k) = ((x * 2 ^ (32 - k) : Nat) : Int) := by push_cast; rfl
    rw [e2]; omega)
  clear hp hm
  go_enter Tryz.func79, Tryz.ntmps79
  go_wp2
  go_quiet ((go_at_call 80; exact Calls.quiet_of_same ((low_any _ _).mono fun _ _ h => ⟨h.1, h.2.symm⟩)))
  go_wp2
  go_ret
  exact ⟨ret_int HR.out, nq, rfl⟩
/-! ### the block of the words -/
theorem infoN : (Tryz.prog.info? 3).map (fun i => (i.zero, i.size, i.bytes)) = some (some (.int .i64 0), 1, 8) := by kernel_rfl
def WInv (l : List Nat) (w0 : World) (v : Value) (w' : World) : Prop := Row w' w0.heap.size 3 1 (fun n : Nat => [.int .i64 (n : Int)]) v l ∧ Below w0.heap.size w0 w'
def Worded (l : List Nat) (w : World) (e : Ending) (w' : World) : Prop := ∃ v, e = .returned v ∧ WInv l w v w'
set_option maxRecDepth 100000 in
theorem word4 (a b c d : UInt8) : bits .or .i64 (bits .or .i64 (bits .or .i64 ((a.toNat : Int) * 16777216) ((b.toNat : Int) * 65536)) ((c.toNat : Int) * 256)) (d.toNat : Int) = ((wordN [a, b, c, d] : Nat) : Int) := by
  have ha := a.toNat_lt
  have hb := b.toNat_lt
  have hc := c.toNat_lt
  have hd := d.toNat_lt
  have h1 := i64_or_nat (a.toNat * 16777216) (b.toNat * 65536) (by omega) (by omega)
  have e1 : a.toNat * 16777216 ||| b.toNat * 65536 = a.toNat * 16777216 + b.toNat * 65536 := by
    have h := Nat.two_pow_add_eq_or_of_lt (i := 24) (b := b.toNat * 65536) (by omega) a.toNat
    rw [show 2 ^ 24 * a.toNat = a.toNat * 16777216 by omega] at h
    exact h.symm
  rw [e1] at h1
  have h2 := i64_or_nat (a.toNat * 16777216 + b.toNat * 65536) (c.toNat * 256) (by omega) (by omega)
  have e2 : a.toNat * 16777216 + b.toNat * 65536 ||| c.toNat * 256 = a.toNat * 16777216 + b.toNat * 65536 + c.toNat * 256 := by
    have h := Nat.two_pow_add_eq_or_of_lt (i := 16) (b := c.toNat * 256) (by omega) (a.toNat * 256 + b.toNat)
    rw [show 2 ^ 16 * (a.toNat * 256 + b.toNat) = a.toNat * 16777216 + b.toNat * 65536 by omega] at h
    exact h.symm
  rw [e2] at h2
  have h3 := i64_or_nat (a.toNat * 16777216 + b.toNat * 65536 + c.toNat * 256) d.toNat (by omega) (by omega)
  have e3 : a.toNat * 16777216 + b.toNat * 65536 + c.toNat * 256 ||| d.toNat = a.toNat * 16777216 + b.toNat * 65536 + c.toNat * 256 + d.toNat := by
    have h := Nat.two_pow_add_eq_or_of_lt (i := 8) (b := d.toNat) (by omega) (a.toNat * 65536 + b.toNat * 256 + c.toNat)
    rw [show 2 ^ 8 * (a.toNat * 65536 + b.toNat * 256 + c.toNat) = a.toNat * 16777216 + b.toNat * 65536 + c.toNat * 256 by omega] at h
    exact h.symm
  rw [e3] at h3
  have f1 : ((a.toNat * 16777216 : Nat) : Int) = (a.toNat : Int) * 16777216 := by simp
  have f2 : ((b.toNat * 65536 : Nat) : Int) = (b.toNat : Int) * 65536 := by simp
  have f3 : ((c.toNat * 256 : Nat) : Int) = (c.toNat : Int) * 256 := by simp
  rw [f1, f2] at h1
  rw [f3] at h2
  rw [h1, h2, h3]
  have e : wordN [a, b, c, d] = (((0 * 256 + a.toNat) * 256 + b.toNat) * 256 + c.toNat) * 256 + d.toNat := rfl
  rw [e]
  congr 1
  omega
theorem four_at (l : List UInt8) (t : Nat) (h : 4 * t + 4 ≤ l.length) : (l.drop (4 * t)).take 4 = [l[4 * t], l[4 * t + 1], l[4 * t + 2], l[4 * t + 3]] := by
  apply List.ext_getElem
  · simp; omega
  · intro i h1 h2
    simp only [List.getElem_take, List.getElem_drop]
    have hi : i < 4 := by simpa using h2
    match i, hi with
    | 0, _ => rfl
    | 1, _ => rfl
    | 2, _ => rfl
    | 3, _ => rfl
theorem index_str {P : Program} {t : TypeId} (ht : P.underlying t = some .string) (w : World) (s : ByteArray) (k : IntKind) {i : Nat} (hi : i < s.size) {I : Int} (hI : I = i) :
    (Instr.index t (.string s) (.int k I)).run P w = .ok (.int .u8 ((s[i].toNat : Nat) : Int)) w := by
  subst hI
  rw [run_index_string (P := P) w t s k (i : Int) ht]
  simp [hi]
structure WF (w0 : World) (g t cap : Nat) (l : List Nat) (q7 q16 : Nat) (w' : World) : Prop where
  c7 : w'.cell? ⟨g, t - 7, none⟩ = some (.int .i64 (q7 : Int))
  c16 : w'.cell? ⟨g, t - 16, none⟩ = some (.int .i64 (q16 : Int))
  row : Row w' w0.heap.size 3 1 (fun n : Nat => [.int .i64 (n : Int)]) (.slice (some ⟨g, 0, none⟩) t cap) l
  low : Below w0.heap.size w0 w'
theorem WF.drewN {w0 w' : World} {g t cap : Nat} {l : List Nat} {q7 q16 : Nat} (h : WF w0 g t cap l q7 q16 w') (m : Nat) : WF w0 g t cap l q7 q16 (w'.drewN m) := ⟨h.c7, h.c16, h.row, below_drewN h.low m⟩
set_option maxRecDepth 100000 in
set_option maxHeartbeats 4000000 in
theorem words_any (s : ByteArray) (w : World) (hs : s.size = 64) :
    Calls Tryz.prog 77 #[.string s] w (Worded (sched s.data.toList) w) := by
  obtain ⟨i0, hi0', hz0, hz1, hz2⟩ := info_parts infoN
  have HS := Lib.hid hs
  clear hs
  have hrow0 : Row w w.heap.size 3 1 (fun n : Nat => [.int .i64 (n : Int)]) (.slice none 0 0) (words16 s.data.toList 0) := Row.nil _ _ _ _ _
  have H0 := Lib.hid (Below.refl w.heap.size w)
  go_enter Tryz.func77, Tryz.ntmps77
  go_wp2
  go_loopw [3, 4] (fun v iv wr => ∃ t : Nat, t ≤ 16 ∧ iv = .int .i64 t ∧ Row wr w.heap.size 3 1 (fun n : Nat => [.int .i64 (n : Int)]) v (words16 s.data.toList t) ∧ Hid (Below w.heap.size w wr)) (fun _ iv _ => 16 - (intOf iv).toNat)
  case atStart => exact ⟨0, by omega, rfl, hrow0, H0⟩
  case round =>
    clear hrow0 H0
    obtain ⟨t, ht, rfl, hrow, hlow⟩ := hrel
    obtain ⟨A, c, rfl⟩ := hrow.form
    by_cases hlt : t < 16
    · have hsz := HS.out
      have h0 : 4 * t < s.size := by omega
      have h1 : 4 * t + 1 < s.size := by omega
      have h2 : 4 * t + 2 < s.size := by omega
      have h3 : 4 * t + 3 < s.size := by omega
      clear hsz
      have hi0 := fun w => index_str (P := Tryz.prog) Tryz.underlying9 w s .i64 h0 (I := 4 * (t : Int)) (by omega)
      have hi1 := fun w => index_str (P := Tryz.prog) Tryz.underlying9 w s .i64 h1 (I := 4 * (t : Int) + 1) (by omega)
      have hi2 := fun w => index_str (P := Tryz.prog) Tryz.underlying9 w s .i64 h2 (I := 4 * (t : Int) + 2) (by omega)
      have hi3 := fun w => index_str (P := Tryz.prog) Tryz.underlying9 w s .i64 h3 (I := 4 * (t : Int) + 3) (by omega)
      have HT : Hid (words16 s.data.toList (t + 1) = words16 s.data.toList t ++ [wordN [s[4 * t], s[4 * t + 1], s[4 * t + 2], s[4 * t + 3]]]) := by
        unfold Hid
        rw [words16_succ, four_at _ _ (by simp; omega)]
        rfl
      have HW := word4 s[4 * t] s[4 * t + 1] s[4 * t + 2] s[4 * t + 3]
      have b0 := s[4 * t].toNat_lt
      have b1 := s[4 * t + 1].toNat_lt
      have b2 := s[4 * t + 2].toNat_lt
      have b3 := s[4 * t + 3].toNat_lt
      generalize wordN [s[4 * t], s[4 * t + 1], s[4 * t + 2], s[4 * t + 3]] = wd at *
      generalize s[4 * t].toNat = x0 at *
      generalize s[4 * t + 1].toNat = x1 at *
      generalize s[4 * t + 2].toNat = x2 at *
      generalize s[4 * t + 3].toNat = x3 at *
      have hln := Lib.hid (words16_length s.data.toList t)
      have HTL : Hid ((words16 s.data.toList t).length ≤ 16) := by unfold Hid; rw [hln.out]; omega
      generalize words16 s.data.toList t = l at *
      have ew0 : IntKind.i64.wrap (4 * (t : Int)) = 4 * (t : Int) := IntWalk.i64_in _ (by omega)
      have ew1 : IntKind.i64.wrap (4 * (t : Int) + 1) = 4 * (t : Int) + 1 := IntWalk.i64_in _ (by omega)
      have ew2 : IntKind.i64.wrap (4 * (t : Int) + 2) = 4 * (t : Int) + 2 := IntWalk.i64_in _ (by omega)
      have ew3 : IntKind.i64.wrap (4 * (t : Int) + 3) = 4 * (t : Int) + 3 := IntWalk.i64_in _ (by omega)
      have ew4 : IntKind.i64.wrap ((x0 : Int) * 16777216) = (x0 : Int) * 16777216 := IntWalk.i64_in _ (by omega)
      have ew5 : IntKind.i64.wrap ((x1 : Int) * 65536) = (x1 : Int) * 65536 := IntWalk.i64_in _ (by omega)
      have ew6 : IntKind.i64.wrap ((x2 : Int) * 256) = (x2 : Int) * 256 := IntWalk.i64_in _ (by omega)
      have ew7 : IntKind.i64.wrap (x0 : Int) = (x0 : Int) := IntWalk.i64_in _ (by omega)
      have ew8 : IntKind.i64.wrap (x1 : Int) = (x1 : Int) := IntWalk.i64_in _ (by omega)
      have ew9 : IntKind.i64.wrap (x2 : Int) = (x2 : Int) := IntWalk.i64_in _ (by omega)
      have ew10 : IntKind.i64.wrap (x3 : Int) = (x3 : Int) := IntWalk.i64_in _ (by omega)
      have hsz := Lib.hid hlow.out.size
      go_wp2
      refine wp_region_held_drew (S := (fun w' => Hid (Below w.heap.size w w'))) (by kernel_rfl) ?_ (fun hHelda0 => ?_)
      · exact Lib.hid hlow.out.drew
      refine wpAnyH_take (i := 0) (v := ?va0) ops0 (by kernel_rfl) (by kernel_rfl) (by kernel_rfl) (fun _ _ _ h => h) (Or.inl ⟨by rfl, ?ya0⟩) hHelda0 ?_
      case ya0 => (intro w hSw; (try dsimp only at hSw); go_simp; try (with_reducible rfl))
      try simp only [Act.put, List.setIfInBounds_toArray, List.set_cons_zero, List.set_cons_succ]
      refine wpAnyH_take (i := 1) (v := ?va1) (opsS ops0) (by kernel_rfl) (by kernel_rfl) (by kernel_rfl) (fun _ _ _ h => h) (Or.inl ⟨by rfl, ?ya1⟩) hHelda0 ?_
      case ya1 => (intro w hSw; (try dsimp only at hSw); go_simp; try (with_reducible rfl))
      try simp only [Act.put, List.setIfInBounds_toArray, List.set_cons_zero, List.set_cons_succ]
      refine wpAnyH_take (i := 2) (v := ?va2) (opsS (opsS ops0)) (by kernel_rfl) (by kernel_rfl) (by kernel_rfl) (fun _ _ _ h => h) (Or.inl ⟨by rfl, ?ya2⟩) hHelda0 ?_
      case ya2 => (intro w hSw; (try dsimp only at hSw); go_simp; try (with_reducible rfl))
      try simp only [Act.put, List.setIfInBounds_toArray, List.set_cons_zero, List.set_cons_succ]
      refine wpAnyH_take (i := 3) (v := ?va3) (opsS (opsS (opsS ops0))) (by kernel_rfl) (by kernel_rfl) (by kernel_rfl) (fun _ _ _ h => h) (Or.inl ⟨by rfl, ?ya3⟩) hHelda0 ?_
      case ya3 => (intro w hSw; (try dsimp only at hSw); go_simp; try (with_reducible rfl))
      try simp only [Act.put, List.setIfInBounds_toArray, List.set_cons_zero, List.set_cons_succ]
      refine wpAnyH_take (i := 4) (v := ?va4) (opsS (opsS (opsS (opsS ops0)))) (by kernel_rfl) (by kernel_rfl) (by kernel_rfl) (fun _ _ _ h => h) (Or.inl ⟨by rfl, ?ya4⟩) hHelda0 ?_
      case ya4 => (intro w hSw; (try dsimp only at hSw); go_simp; try (with_reducible rfl))
      try simp only [Act.put, List.setIfInBounds_toArray, List.set_cons_zero, List.set_cons_succ]
      refine wpAnyH_take (i := 5) (v := ?va5) (opsS (opsS (opsS (opsS (opsS ops0))))) (by kernel_rfl) (by kernel_rfl) (by kernel_rfl) (fun _ _ _ h => h) (Or.inl ⟨by rfl, ?ya5⟩) hHelda0 ?_
      case ya5 => (intro w hSw; (try dsimp only at hSw); go_simp; try (with_reducible rfl))
      try simp only [Act.put, List.setIfInBounds_toArray, List.set_cons_zero, List.set_cons_succ]
      refine wpAnyH_take (i := 6) (v := ?va6) (opsS (opsS (opsS (opsS (opsS (opsS ops0)))))) (by kernel_rfl) (by kernel_rfl) (by kernel_rfl) (fun _ _ _ h => h) (Or.inl ⟨by rfl, ?ya6⟩) hHelda0 ?_
      case ya6 => (intro w hSw; (try dsimp only at hSw); go_simp; try (with_reducible rfl))
      try simp only [Act.put, List.setIfInBounds_toArray, List.set_cons_zero, List.set_cons_succ]
      refine wpAnyH_take (i := 7) (v := ?va7) (opsS (opsS (opsS (opsS (opsS (opsS (opsS ops0))))))) (by kernel_rfl) (by kernel_rfl) (by kernel_rfl) (fun _ _ _ h => h) (Or.inl ⟨by rfl, ?ya7⟩) hHelda0 ?_
      case ya7 => (intro w hSw; (try dsimp only at hSw); go_simp; try (with_reducible rfl))
      try simp only [Act.put, List.setIfInBounds_toArray, List.set_cons_zero, List.set_cons_succ]
      refine wpAnyH_take (i := 8) (v := ?va8) (opsS (opsS (opsS (opsS (opsS (opsS (opsS (opsS ops0)))))))) (by kernel_rfl) (by kernel_rfl) (by kernel_rfl) (fun _ _ _ h => h) (Or.inl ⟨by rfl, ?ya8⟩) hHelda0 ?_
      case ya8 => (intro w hSw; (try dsimp only at hSw); go_simp; try (with_reducible rfl))
      try simp only [Act.put, List.setIfInBounds_toArray, List.set_cons_zero, List.set_cons_succ]
      refine wpAnyH_take (i := 9) (v := ?va9) (opsS (opsS (opsS (opsS (opsS (opsS (opsS (opsS (opsS ops0))))))))) (by kernel_rfl) (by kernel_rfl) (by kernel_rfl) (fun _ _ _ h => h) (Or.inl ⟨by rfl, ?ya9⟩) hHelda0 ?_
      case ya9 => (intro w hSw; (try dsimp only at hSw); go_simp; try (with_reducible rfl))
      try simp only [Act.put, List.setIfInBounds_toArray, List.set_cons_zero, List.set_cons_succ]
      refine wpAnyH_take (i := 10) (v := ?va10) (opsS (opsS (opsS (opsS (opsS (opsS (opsS (opsS (opsS (opsS ops0)))))))))) (by kernel_rfl) (by kernel_rfl) (by kernel_rfl) (fun _ _ _ h => h) (Or.inl ⟨by rfl, ?ya10⟩) hHelda0 ?_
      case ya10 => (intro w hSw; (try dsimp only at hSw); go_simp; try (with_reducible rfl))
      try simp only [Act.put, List.setIfInBounds_toArray, List.set_cons_zero, List.set_cons_succ]
      refine wpAnyH_take (i := 11) (v := ?va11) (opsS (opsS (opsS (opsS (opsS (opsS (opsS (opsS (opsS (opsS (opsS ops0))))))))))) (by kernel_rfl) (by kernel_rfl) (by kernel_rfl) (fun _ _ _ h => h) (Or.inl ⟨by rfl, ?ya11⟩) hHelda0 ?_
      case ya11 => (intro w hSw; (try dsimp only at hSw); go_simp; try (with_reducible rfl))
      try simp only [Act.put, List.setIfInBounds_toArray, List.set_cons_zero, List.set_cons_succ]
      refine wpAnyH_take (i := 12) (v := ?va12) (opsS (opsS (opsS (opsS (opsS (opsS (opsS (opsS (opsS (opsS (opsS (opsS ops0)))))))))))) (by kernel_rfl) (by kernel_rfl) (by kernel_rfl) (fun _ _ _ h => h) (Or.inl ⟨by rfl, ?ya12⟩) hHelda0 ?_
      case ya12 => (intro w hSw; (try dsimp only at hSw); go_simp; try (with_reducible rfl))
      try simp only [Act.put, List.setIfInBounds_toArray, List.set_cons_zero, List.set_cons_succ]
      refine wpAnyH_take (i := 13) (v := ?va13) (opsS (opsS (opsS (opsS (opsS (opsS (opsS (opsS (opsS (opsS (opsS (opsS (opsS ops0))))))))))))) (by kernel_rfl) (by kernel_rfl) (by kernel_rfl) (fun _ _ _ h => h) (Or.inl ⟨by rfl, ?ya13⟩) hHelda0 ?_
      case ya13 => (intro w hSw; (try dsimp only at hSw); go_simp; try (with_reducible rfl))
      try simp only [Act.put, List.setIfInBounds_toArray, List.set_cons_zero, List.set_cons_succ]
      refine wpAnyH_take (i := 14) (v := ?va14) (opsS (opsS (opsS (opsS (opsS (opsS (opsS (opsS (opsS (opsS (opsS (opsS (opsS (opsS ops0)))))))))))))) (by kernel_rfl) (by kernel_rfl) (by kernel_rfl) (fun _ _ _ h => h) (Or.inl ⟨by rfl, ?ya14⟩) hHelda0 ?_
      case ya14 => (intro w hSw; (try dsimp only at hSw); go_simp; try (with_reducible rfl))
      try simp only [Act.put, List.setIfInBounds_toArray, List.set_cons_zero, List.set_cons_succ]
      refine wpAnyH_take (i := 15) (v := ?va15) (opsS (opsS (opsS (opsS (opsS (opsS (opsS (opsS (opsS (opsS (opsS (opsS (opsS (opsS (opsS ops0))))))))))))))) (by kernel_rfl) (by kernel_rfl) (by kernel_rfl) (fun _ _ _ h => h) (Or.inl ⟨by rfl, ?ya15⟩) hHelda0 ?_
      case ya15 => (intro w hSw; (try dsimp only at hSw); go_simp; try (with_reducible rfl))
      try simp only [Act.put, List.setIfInBounds_toArray, List.set_cons_zero, List.set_cons_succ]
      refine wpAnyH_take (i := 16) (v := ?va16) (opsS (opsS (opsS (opsS (opsS (opsS (opsS (opsS (opsS (opsS (opsS (opsS (opsS (opsS (opsS (opsS ops0)))))))))))))))) (by kernel_rfl) (by kernel_rfl) (by kernel_rfl) (fun _ _ _ h => h) (Or.inl ⟨by rfl, ?ya16⟩) hHelda0 ?_
      case ya16 => (intro w hSw; (try dsimp only at hSw); go_simp; try (with_reducible rfl))
      try simp only [Act.put, List.setIfInBounds_toArray, List.set_cons_zero, List.set_cons_succ]
      refine wpAnyH_take (i := 17) (v := ?va17) (opsS (opsS (opsS (opsS (opsS (opsS (opsS (opsS (opsS (opsS (opsS (opsS (opsS (opsS (opsS (opsS (opsS ops0))))))))))))))))) (by kernel_rfl) (by kernel_rfl) (by kernel_rfl) (fun _ _ _ h => h) (Or.inl ⟨by rfl, ?ya17⟩) hHelda0 ?_
      case ya17 => (intro w hSw; (try dsimp only at hSw); go_simp; try (with_reducible rfl))
      try simp only [Act.put, List.setIfInBounds_toArray, List.set_cons_zero, List.set_cons_succ]
      refine wpAnyH_take (i := 18) (v := ?va18) (opsS (opsS (opsS (opsS (opsS (opsS (opsS (opsS (opsS (opsS (opsS (opsS (opsS (opsS (opsS (opsS (opsS (opsS ops0)))))))))))))))))) (by kernel_rfl) (by kernel_rfl) (by kernel_rfl) (fun _ _ _ h => h) (Or.inl ⟨by rfl, ?ya18⟩) hHelda0 ?_
      case ya18 => (intro w hSw; (try dsimp only at hSw); go_simp; try (with_reducible rfl))
      try simp only [Act.put, List.setIfInBounds_toArray, List.set_cons_zero, List.set_cons_succ]
      refine wpAnyH_take (i := 19) (v := ?va19) (opsS (opsS (opsS (opsS (opsS (opsS (opsS (opsS (opsS (opsS (opsS (opsS (opsS (opsS (opsS (opsS (opsS (opsS (opsS ops0))))))))))))))))))) (by kernel_rfl) (by kernel_rfl) (by kernel_rfl) (fun _ _ _ h => h) (Or.inl ⟨by rfl, ?ya19⟩) hHelda0 ?_
      case ya19 => (intro w hSw; (try dsimp only at hSw); go_simp; try (with_reducible rfl))
      try simp only [Act.put, List.setIfInBounds_toArray, List.set_cons_zero, List.set_cons_succ]
      refine wpAnyH_take (i := 20) (v := ?va20) (opsS (opsS (opsS (opsS (opsS (opsS (opsS (opsS (opsS (opsS (opsS (opsS (opsS (opsS (opsS (opsS (opsS (opsS (opsS (opsS ops0)))))))))))))))))))) (by kernel_rfl) (by kernel_rfl) (by kernel_rfl) (fun _ _ _ h => h) (Or.inl ⟨by rfl, ?ya20⟩) hHelda0 ?_
      case ya20 => (intro w hSw; (try dsimp only at hSw); go_simp; try (with_reducible rfl))
      try simp only [Act.put, List.setIfInBounds_toArray, List.set_cons_zero, List.set_cons_succ]
      refine wpAnyH_take (i := 21) (v := ?va21) (opsS (opsS (opsS (opsS (opsS (opsS (opsS (opsS (opsS (opsS (opsS (opsS (opsS (opsS (opsS (opsS (opsS (opsS (opsS (opsS (opsS ops0))))))))))))))))))))) (by kernel_rfl) (by kernel_rfl) (by kernel_rfl) (fun _ _ _ h => h) (Or.inl ⟨by rfl, ?ya21⟩) hHelda0 ?_
      case ya21 => (intro w hSw; (try dsimp only at hSw); go_simp; try (with_reducible rfl))
      try simp only [Act.put, List.setIfInBounds_toArray, List.set_cons_zero, List.set_cons_succ]
      refine wpAnyH_take (i := 22) (v := ?va22) (opsS (opsS (opsS (opsS (opsS (opsS (opsS (opsS (opsS (opsS (opsS (opsS (opsS (opsS (opsS (opsS (opsS (opsS (opsS (opsS (opsS (opsS ops0)))))))))))))))))))))) (by kernel_rfl) (by kernel_rfl) (by kernel_rfl) (fun _ _ _ h => h) (Or.inl ⟨by rfl, ?ya22⟩) hHelda0 ?_
      case ya22 => (intro w hSw; (try dsimp only at hSw); go_simp; try (with_reducible rfl))
      try simp only [Act.put, List.setIfInBounds_toArray, List.set_cons_zero, List.set_cons_succ]
      refine wpAnyH_take (i := 23) (v := ?va23) (opsS (opsS (opsS (opsS (opsS (opsS (opsS (opsS (opsS (opsS (opsS (opsS (opsS (opsS (opsS (opsS (opsS (opsS (opsS (opsS (opsS (opsS (opsS ops0))))))))))))))))))))))) (by kernel_rfl) (by kernel_rfl) (by kernel_rfl) (fun _ _ _ h => h) (Or.inl ⟨by rfl, ?ya23⟩) hHelda0 ?_
      case ya23 => (intro w hSw; (try dsimp only at hSw); go_simp; try (with_reducible rfl))
      try simp only [Act.put, List.setIfInBounds_toArray, List.set_cons_zero, List.set_cons_succ]
      refine wpAnyH_take (i := 24) (v := ?va24) (opsS (opsS (opsS (opsS (opsS (opsS (opsS (opsS (opsS (opsS (opsS (opsS (opsS (opsS (opsS (opsS (opsS (opsS (opsS (opsS (opsS (opsS (opsS (opsS ops0)))))))))))))))))))))))) (by kernel_rfl) (by kernel_rfl) (by kernel_rfl) (fun _ _ _ h => h) (Or.inl ⟨by rfl, ?ya24⟩) hHelda0 ?_
      case ya24 => (intro w hSw; (try dsimp only at hSw); go_simp; try (with_reducible rfl))
      try simp only [Act.put, List.setIfInBounds_toArray, List.set_cons_zero, List.set_cons_succ]
      refine wpAnyH_take (i := 25) (v := ?va25) (opsS (opsS (opsS (opsS (opsS (opsS (opsS (opsS (opsS (opsS (opsS (opsS (opsS (opsS (opsS (opsS (opsS (opsS (opsS (opsS (opsS (opsS (opsS (opsS (opsS ops0))))))))))))))))))))))))) (by kernel_rfl) (by kernel_rfl) (by kernel_rfl) (fun _ _ _ h => h) (Or.inl ⟨by rfl, ?ya25⟩) hHelda0 ?_
      case ya25 => (intro w hSw; (try dsimp only at hSw); go_simp; try (with_reducible rfl))
      try simp only [Act.put, List.setIfInBounds_toArray, List.set_cons_zero, List.set_cons_succ]
      refine wpAnyH_take (i := 26) (v := ?va26) (opsS (opsS (opsS (opsS (opsS (opsS (opsS (opsS (opsS (opsS (opsS (opsS (opsS (opsS (opsS (opsS (opsS (opsS (opsS (opsS (opsS (opsS (opsS (opsS (opsS (opsS ops0)))))))))))))))))))))))))) (by kernel_rfl) (by kernel_rfl) (by kernel_rfl) (fun _ _ _ h => h) (Or.inl ⟨by rfl, ?ya26⟩) hHelda0 ?_
      case ya26 => (intro w hSw; (try dsimp only at hSw); go_simp; try (with_reducible rfl))
      try simp only [Act.put, List.setIfInBounds_toArray, List.set_cons_zero, List.set_cons_succ]
      refine wpAnyH_take (i := 27) (v := ?va27) (opsS (opsS (opsS (opsS (opsS (opsS (opsS (opsS (opsS (opsS (opsS (opsS (opsS (opsS (opsS (opsS (opsS (opsS (opsS (opsS (opsS (opsS (opsS (opsS (opsS (opsS (opsS ops0))))))))))))))))))))))))))) (by kernel_rfl) (by kernel_rfl) (by kernel_rfl) (fun _ _ _ h => h) (Or.inl ⟨by rfl, ?ya27⟩) hHelda0 ?_
      case ya27 => (intro w hSw; (try dsimp only at hSw); go_simp; try (with_reducible rfl))
      try simp only [Act.put, List.setIfInBounds_toArray, List.set_cons_zero, List.set_cons_succ]
      refine wpAnyH_take (i := 28) (v := ?va28) (opsS (opsS (opsS (opsS (opsS (opsS (opsS (opsS (opsS (opsS (opsS (opsS (opsS (opsS (opsS (opsS (opsS (opsS (opsS (opsS (opsS (opsS (opsS (opsS (opsS (opsS (opsS (opsS ops0)))))))))))))))))))))))))))) (by kernel_rfl) (by kernel_rfl) (by kernel_rfl) (fun _ _ _ h => h) (Or.inl ⟨by rfl, ?ya28⟩) hHelda0 ?_
      case ya28 => (intro w hSw; (try dsimp only at hSw); go_simp; try (with_reducible rfl))
      try simp only [Act.put, List.setIfInBounds_toArray, List.set_cons_zero, List.set_cons_succ]
      refine wpAnyH_take (i := 29) (v := ?va29) (opsS (opsS (opsS (opsS (opsS (opsS (opsS (opsS (opsS (opsS (opsS (opsS (opsS (opsS (opsS (opsS (opsS (opsS (opsS (opsS (opsS (opsS (opsS (opsS (opsS (opsS (opsS (opsS (opsS ops0))))))))))))))))))))))))))))) (by kernel_rfl) (by kernel_rfl) (by kernel_rfl) (fun _ _ _ h => h) (Or.inl ⟨by rfl, ?ya29⟩) hHelda0 ?_
      case ya29 => (intro w hSw; (try dsimp only at hSw); go_simp; try (with_reducible rfl))
      try simp only [Act.put, List.setIfInBounds_toArray, List.set_cons_zero, List.set_cons_succ]
      refine wpAnyH_ready (rs := [30]) (by kernel_rfl) (by simp) ?_
      refine AllReadyH.cons (opsS (opsS (opsS (opsS (opsS (opsS (opsS (opsS (opsS (opsS (opsS (opsS (opsS (opsS (opsS (opsS (opsS (opsS (opsS (opsS (opsS (opsS (opsS (opsS (opsS (opsS (opsS (opsS (opsS (opsS ops0)))))))))))))))))))))))))))))) (fun K hK => ?_) AllReadyH.nil
      go_simp
      skip
      try dsimp only
      refine hK.out _ _ ?_ (fun hHelda1 => ?_)
      · (first | assumption | exact Lib.hid (Below.alloc (Hid.out (by assumption : Hid (Below w.heap.size w wr.drew))) hsz.out _) | exact Lib.hid hbl)
      clear hK K hHelda0
      try clear hb
      try simp only [Act.put, List.setIfInBounds_toArray, List.set_cons_zero, List.set_cons_succ]
      refine wpAnyH_ready (rs := [31]) (by kernel_rfl) (by simp) ?_
      refine AllReadyH.cons (opsS (opsS (opsS (opsS (opsS (opsS (opsS (opsS (opsS (opsS (opsS (opsS (opsS (opsS (opsS (opsS (opsS (opsS (opsS (opsS (opsS (opsS (opsS (opsS (opsS (opsS (opsS (opsS (opsS (opsS (opsS ops0))))))))))))))))))))))))))))))) (fun K hK => ?_) AllReadyH.nil
      refine step_append_row _ rfl _ _ 106 rfl w.heap.size 3 i0 _ 1 8 Tryz.underlying106 hi0' hz0 hz1 hz2 rfl (by decide) _ _ rfl (hrow.drew.alloc _) (fun _ => rfl) _ wd rfl (cells_new _ _ _) (by simp [Value.oneCell']) (by simp) (by have := HTL.out; unfold maxLen; omega) (by have := HTL.out; omega) (by have := hsz.out; simp; omega) ?_; intro v' w1 hrow' hgrow; have hbl := low_row hlow.out.drew hrow.drew (Nat.le_refl _) hsz.out hgrow
      try dsimp only
      refine hK.out _ _ ?_ (fun hHelda2 => ?_)
      · (first | assumption | exact Lib.hid (Below.alloc (Hid.out (by assumption : Hid (Below w.heap.size w wr.drew))) hsz.out _) | exact Lib.hid hbl)
      clear hK K hHelda1
      try clear hb
      try simp only [Act.put, List.setIfInBounds_toArray, List.set_cons_zero, List.set_cons_succ]
      refine wpAnyH_take (i := 32) (v := ?va32) (opsS (opsS (opsS (opsS (opsS (opsS (opsS (opsS (opsS (opsS (opsS (opsS (opsS (opsS (opsS (opsS (opsS (opsS (opsS (opsS (opsS (opsS (opsS (opsS (opsS (opsS (opsS (opsS (opsS (opsS (opsS (opsS ops0)))))))))))))))))))))))))))))))) (by kernel_rfl) (by kernel_rfl) (by kernel_rfl) (fun _ _ _ h => h) (Or.inl ⟨by rfl, ?ya32⟩) hHelda2 ?_
      case ya32 => (intro w hSw; (try dsimp only at hSw); go_simp; try (with_reducible rfl))
      try simp only [Act.put, List.setIfInBounds_toArray, List.set_cons_zero, List.set_cons_succ]
      refine wpAnyH_done (by kernel_rfl) ?_ _
      have HR1 := Lib.hid hrow'
      have HB1 := Lib.hid hbl
      clear hrow hlow hrow' hgrow hbl
      go_wp2
      go_roundw
      case rel => exact ⟨t + 1, by omega, by go_num, by rw [HT.out]; exact HR1.out, HB1⟩
      case measure => simp [intOf]; omega
    · have ht16 : t = 16 := by omega
      subst ht16
      go_wp2
      rw [show ((16 : Nat) : Int) = 16 from rfl]
      have hrow0 : Row wr w.heap.size 3 1 (fun n : Nat => [.int .i64 (n : Int)]) (.slice A (words16 s.data.toList 16).length c) (schedN (16 - 16) (words16 s.data.toList 16)) := hrow
      have hwl := words16_length s.data.toList 16
      have hwb := words16_lt s.data.toList 16
      have HF : Hid (∀ t : Nat, t = 48 → schedN t (words16 s.data.toList 16) = sched s.data.toList) := fun t h => by rw [h]; rfl
      clear hrow
      rw [words16_length] at hrow0
      rw [words16_length]
      generalize words16 s.data.toList 16 = l0 at *
      have HLN := Lib.hid (schedN_length l0)
      have HLT := Lib.hid (schedN_lt hwb)
      have HL0 := Lib.hid hwl
      clear hwl hwb
      have H0 := Lib.hid hlow.out
      clear hlow
      go_loopw [3, 5] (fun v iv wr => ∃ t : Nat, 16 ≤ t ∧ t ≤ 64 ∧ iv = .int .i64 t ∧ Row wr w.heap.size 3 1 (fun n : Nat => [.int .i64 (n : Int)]) v (schedN (t - 16) l0) ∧ Hid (Below w.heap.size w wr)) (fun _ iv _ => 64 - (intOf iv).toNat)
      case atStart => exact ⟨16, by omega, by omega, rfl, hrow0, H0⟩
      case round =>
        clear hrow0 H0
        obtain ⟨t, ht16, ht, rfl, hrow, hlow⟩ := hrel
        have hlen := HLN.out (t - 16)
        rw [HL0.out] at hlen
        obtain ⟨g, cap, hv, hbg, hgl⟩ := World.ownsRow.form hrow (by omega)
        subst hv
        by_cases hlt : t < 64
        · have hk := Lib.hid (show t - 16 + 1 = t + 1 - 16 by omega)
          have hlen2 : (schedN (t - 16) l0).length = t := by omega
          have c15 := (Row1.cell hrow (i := t - 15) (by omega)).1
          have c2 := (Row1.cell hrow (i := t - 2) (by omega)).1
          have c7 := (Row1.cell hrow (i := t - 7) (by omega)).1
          have c16 := (Row1.cell hrow (i := t - 16) (by omega)).1
          rw [← Go.Proofs.YtkbgmdabmebdhaaGreatDoor.sha.getD_in (l := schedN (t - 16) l0) (by omega)] at c15 c2 c7 c16
          have y15 := allLt_getD (HLT.out (t - 16)) (t - 15)
          have y2 := allLt_getD (HLT.out (t - 16)) (t - 2)
          have y7 := allLt_getD (HLT.out (t - 16)) (t - 7)
          have y16 := allLt_getD (HLT.out (t - 16)) (t - 16)
          have HN : Hid (nextW (schedN (t - 16) l0) (t - 16) = (sg1 ((schedN (t - 16) l0).getD (t - 2) 0) + (schedN (t - 16) l0).getD (t - 7) 0 + sg0 ((schedN (t - 16) l0).getD (t - 15) 0) + (schedN (t - 16) l0).getD (t - 16) 0) % 4294967296) := by
            unfold Hid nextW
            rw [show t - 16 + 14 = t - 2 by omega, show t - 16 + 9 = t - 7 by omega, show t - 16 + 1 = t - 15 by omega]
          have HS2 := Lib.hid (show schedN (t - 16 + 1) l0 = schedN (t - 16) l0 ++ [nextW (schedN (t - 16) l0) (t - 16)] from rfl)
          have HROW := Lib.hid hrow
          have hsz := Lib.hid hlow.out.size
          have HLT2 : Hid ((schedN (t - 16) l0).length ≤ 64) := by unfold Hid; omega
          clear hrow hlen
          generalize (schedN (t - 16) l0).getD (t - 15) 0 = a at *
          generalize (schedN (t - 16) l0).getD (t - 2) 0 = b at *
          generalize (schedN (t - 16) l0).getD (t - 7) 0 = q7 at *
          generalize (schedN (t - 16) l0).getD (t - 16) 0 = q16 at *
          have hrt := rotr_lt
          have e1 := i64_xor_nat (rotr a 7) (rotr a 18) (hrt _ _) (hrt _ _)
          have e2 : bits .xor .i64 ((rotr a 7 ^^^ rotr a 18 : Nat) : Int) ((a : Int) / 8) = ((rotr a 7 ^^^ rotr a 18 ^^^ a >>> 3 : Nat) : Int) := by
            have := i64_xor_nat (rotr a 7 ^^^ rotr a 18) (a / 8) (xor_lt (hrt _ _) (hrt _ _)) (by omega)
            rw [Nat.shiftRight_eq_div_pow]; exact this
          have e3 := i64_xor_nat (rotr b 17) (rotr b 19) (hrt _ _) (hrt _ _)
          have e4 : bits .xor .i64 ((rotr b 17 ^^^ rotr b 19 : Nat) : Int) ((b : Int) / 1024) = ((rotr b 17 ^^^ rotr b 19 ^^^ b >>> 10 : Nat) : Int) := by
            have := i64_xor_nat (rotr b 17 ^^^ rotr b 19) (b / 1024) (xor_lt (hrt _ _) (hrt _ _)) (by omega)
            rw [Nat.shiftRight_eq_div_pow]; exact this
          have s1 := sg0_lt y15
          have s2 := sg1_lt y2
          have H1 := Lib.hid (show rotr a 7 ^^^ rotr a 18 ^^^ a >>> 3 = sg0 a from rfl)
          have H2 := Lib.hid (show rotr b 17 ^^^ rotr b 19 ^^^ b >>> 10 = sg1 b from rfl)
          rw [H1.out] at e2
          rw [H2.out] at e4
          generalize sg0 a = S0 at *
          generalize sg1 b = S1 at *
          have w15 : IntKind.i64.wrap ((t : Int) - 15) = (t : Int) - 15 := IntWalk.i64_in _ (by omega)
          have w2 : IntKind.i64.wrap ((t : Int) - 2) = (t : Int) - 2 := IntWalk.i64_in _ (by omega)
          have w7 : IntKind.i64.wrap ((t : Int) - 7) = (t : Int) - 7 := IntWalk.i64_in _ (by omega)
          have w16 : IntKind.i64.wrap ((t : Int) - 16) = (t : Int) - 16 := IntWalk.i64_in _ (by omega)
          have n15 : ((t : Int) - 15).toNat = t - 15 := by omega
          have n2 : ((t : Int) - 2).toNat = t - 2 := by omega
          have n7 : ((t : Int) - 7).toNat = t - 7 := by omega
          have n16 : ((t : Int) - 16).toNat = t - 16 := by omega
          rw [hlen2] at HROW ⊢
          have HFX : Hid (∀ m, WF w g t cap (schedN (t - 16) l0) q7 q16 (wr.drewN m)) := fun m => ⟨c7, c16, HROW.out, below_drewN hlow.out m⟩
          clear c7 c16 HROW hlow hlen2
          go_wp2
          go_quiet (fail)
          have HX := Lib.hid (HFX.out nq)
          clear c15 c2 HFX
          generalize wr.drewN nq = wa at *
          go_wp2_with fail
          refine (turn_any a 7 wa y15 (by decide) (by decide)).mono ?_
          rintro e w' ⟨rfl, m, rfl⟩
          replace HX := Lib.hid (HX.out.drewN m)
          generalize wa.drewN m = wb at *
          go_wp2_with fail
          refine (turn_any a 18 wb y15 (by decide) (by decide)).mono ?_
          rintro e w' ⟨rfl, m, rfl⟩
          replace HX := Lib.hid (HX.out.drewN m)
          generalize wb.drewN m = wc at *
          go_wp2_with fail
          refine (turn_any b 17 wc y2 (by decide) (by decide)).mono ?_
          rintro e w' ⟨rfl, m, rfl⟩
          replace HX := Lib.hid (HX.out.drewN m)
          generalize wc.drewN m = wd at *
          go_wp2_with fail
          refine (turn_any b 19 wd y2 (by decide) (by decide)).mono ?_
          rintro e w' ⟨rfl, m, rfl⟩
          replace HX := Lib.hid (HX.out.drewN m)
          generalize wd.drewN m = we at *
          have c7 := HX.out.c7
          have c16 := HX.out.c16
          have HROW := Lib.hid HX.out.row
          have HLOW := Lib.hid HX.out.low
          have hsz2 := Lib.hid HX.out.low.size
          clear hsz HX
          go_wp2
          have ea : IntKind.i64.wrap ((S1 : Int) + (q7 : Int)) = (S1 : Int) + q7 := IntWalk.i64_in _ (by omega)
          have eb : IntKind.i64.wrap ((S1 : Int) + (q7 : Int) + (S0 : Int)) = (S1 : Int) + q7 + S0 := IntWalk.i64_in _ (by omega)
          have ec : IntKind.i64.wrap ((S1 : Int) + (q7 : Int) + (S0 : Int) + (q16 : Int)) = (S1 : Int) + q7 + S0 + q16 := IntWalk.i64_in _ (by omega)
          have ed : ((S1 : Int) + (q7 : Int) + (S0 : Int) + (q16 : Int)) % 4294967296 = (((S1 + q7 + S0 + q16) % 4294967296 : Nat) : Int) := by omega
          have ED := Lib.hid ed
          clear ed e1 e2 e3 e4 hrt w15 w2 n15 n2
          have g1 : 0 ≤ (t : Int) - 7 := by omega
          have g2 : (t : Int) - 7 < t := by omega
          have g3 : 0 ≤ (t : Int) - 16 := by omega
          have g4 : (t : Int) - 16 < t := by omega
          have g5 : (7 : Int) ≤ t := by omega
          have g6 : (16 : Int) ≤ t := by omega
          have g7 : 7 ≤ t := by omega
          go_region_law ((first
            | (refine step_append_row _ rfl _ _ 106 rfl w.heap.size 3 i0 _ 1 8 Tryz.underlying106 hi0' hz0 hz1 hz2 rfl (by decide) _ _ rfl (HROW.out.drew.alloc _) (fun _ => rfl) _ ((S1 + q7 + S0 + q16) % 4294967296) rfl (cells_new _ _ _) (by simp [Value.oneCell']) (by simp) (by have := HLT2.out; unfold maxLen; omega) (by have := HLT2.out; omega) (by have := hsz2.out; simp; omega) ?_; intro v' w1 hrow' hgrow; have hbl := low_row HLOW.out.drew HROW.out.drew (Nat.le_refl _) hsz2.out hgrow)
            | (go_simp; go_at_call 80; refine (low_any _ _).mono ?_; rintro e w' ⟨rfl, rfl⟩; rw [ED.out]; dsimp only)))
          all_goals
            have HR1 := Lib.hid hrow'
            have HB1 := Lib.hid hbl
            clear hrow' hgrow hbl
            go_wp2
            go_roundw
            case rel => exact ⟨t + 1, by omega, by omega, by go_num, by rw [← hk.out, HS2.out, HN.out]; exact HR1.out, HB1⟩
            case measure => simp [intOf]; omega
        · have ht64 : t - 16 = 48 := by omega
          have HFF : Hid (Worded (sched s.data.toList) w (.returned (.slice (some ⟨g, 0, none⟩) (schedN (t - 16) l0).length cap)) wr) := by
            rw [HF.out _ ht64] at hrow ⊢
            exact ⟨_, rfl, hrow, hlow.out⟩
          clear hrow hlow
          go_wp2
          go_ret
          exact HFF.out
end Go.Proofs.YtkbgmdabmebdhaaGreatDoor.shr

/- The walks of the reference of sha: what goes behind, the constants, a block, the sum. -/
namespace Go.Proofs.YtkbgmdabmebdhaaGreatDoor.shr
open Go.ChangeShapes Go.WideShapes Go.ChangeAt Go.RowKit Go.Proofs.Aid
open Go.Proofs.YtkbgmdabmebdhaaGreatDoor.oc (be be_length bz bz_append)
open Go.Proofs.YtkbgmdabmebdhaaGreatDoor.sha
set_option linter.unusedVariables false
def PadSt (s : List UInt8) (j : Nat) : List UInt8 := s ++ (128 : UInt8) :: List.replicate j 0
theorem padSt_snoc (s : List UInt8) (j : Nat) : PadSt s j ++ [0] = PadSt s (j + 1) := by simp [PadSt, List.replicate_succ']
theorem padSt_length (s : List UInt8) (j : Nat) : (PadSt s j).length = s.length + 1 + j := by simp [PadSt]; omega
theorem padSt_all (s : List UInt8) : PadSt s (noughts s.length) ++ be 8 ((s.length * 8 : Nat) : Int) = padB s := by simp [PadSt, padB, fillB]
def Pad (s : List UInt8) (w : World) (e : Ending) (w' : World) : Prop := e = .returned (.string (bz (padB s))) ∧ Below w.heap.size w w'
set_option maxRecDepth 100000 in
set_option maxHeartbeats 2000000 in
theorem pad_any (s : ByteArray) (w : World) (hs : s.size ≤ 1099511627776) :
    Calls Tryz.prog 65 #[.string s] w (Pad s.data.toList w) := by
  have e0 : s ++ (⟨#[128]⟩ : ByteArray) = bz (PadSt s.data.toList 0) := by rw [← oc.bz_list s]; exact bz_append _ _
  go_enter Tryz.func65, Tryz.ntmps65
  go_wp2
  have hn := noughts_lt s.size
  have HNO : Hid (noughts s.size = 63 - (s.size + 8) % 64) := rfl
  have HALL := Lib.hid (padSt_all s.data.toList)
  have HLEN := Lib.hid (fun j => padSt_length s.data.toList j)
  have hsl : s.data.toList.length = s.size := by simp
  have HSN := Lib.hid (padSt_snoc s.data.toList)
  rw [hsl] at HALL HLEN
  clear hsl e0
  generalize noughts s.size = N at *
  go_loopw [0] (fun sv wr => ∃ j : Nat, j ≤ N ∧ sv = .string (bz (PadSt s.data.toList j)) ∧ wr = w) (fun sv _ => (match sv with | .string x => s.size + 100 - x.size | _ => 0))
  case atStart => exact ⟨0, by omega, rfl, rfl⟩
  case round =>
    obtain ⟨j, hj, rfl, rfl⟩ := hrel
    have hz : (bz (PadSt s.data.toList j)).size = s.size + 1 + j := by rw [oc.bz_size, HLEN.out]
    have hap := Lib.hid (bz_append (PadSt s.data.toList j) [0])
    rw [HSN.out] at hap
    by_cases hlt : j < N
    · have hm : ¬ ((bz (PadSt s.data.toList j)).size : Int) % 64 = 56 := by have := HNO.out; omega
      have hm2 : ((((bz (PadSt s.data.toList j)).size : Int) % 64) == 56) = false := by simpa using hm
      have hb1 : (bz (PadSt s.data.toList j)).size ≤ 1099511627900 := by omega
      have hz2 : Hid ((bz (PadSt s.data.toList (j + 1))).size = s.size + 1 + (j + 1)) := by unfold Hid; rw [oc.bz_size, HLEN.out]
      have hz1 := Lib.hid hz
      clear hz
      generalize bz (PadSt s.data.toList j) = z at *
      go_wp2
      go_roundw
      case rel => exact ⟨j + 1, by omega, by rw [← hap.out]; rfl, by trivial⟩
      case measure =>
        have h1 := hz1.out
        have h2 := hz2.out
        rw [← hap.out] at h2
        show s.size + 100 - (z ++ bz [0]).size < s.size + 100 - z.size
        omega
    · have hjN : j = N := by omega
      have hm : ((bz (PadSt s.data.toList j)).size : Int) % 64 = 56 := by have := HNO.out; omega
      have hb1 : (bz (PadSt s.data.toList j)).size ≤ 1099511627900 := by omega
      have HI := Lib.hid (oc.qintB_any (8 * (s.size : Int)) wr)
      have HOUT : Hid (bz (PadSt s.data.toList j) ++ bz (be 8 (8 * (s.size : Int))) = bz (padB s.data.toList)) := by
        unfold Hid
        rw [bz_append, hjN, ← HALL.out]
        congr 3
        omega
      have hsb : (bz (be 8 (8 * (s.size : Int)))).size = 8 := by rw [oc.bz_size, be_length]
      clear hz hap hjN
      generalize bz (PadSt s.data.toList j) = z at *
      go_wp2_with fail
      refine HI.out.mono ?_
      rintro e w1 ⟨rfl, hb⟩
      generalize bz (be 8 (8 * (s.size : Int))) = y at *
      have HF : Hid (Pad s.data.toList wr (.returned (.string (bz (padB s.data.toList)))) w1) := ⟨rfl, hb⟩
      clear hb HI
      go_wp2
      go_ret
      rw [HOUT.out]
      exact HF.out
theorem wpList_built {P : Program} {ops : Array Oper} {rest : List Oper} {o : Oper} {a : Act} {w : World} {Q : Exit → Act → World → Prop} (hg : o.guard = none) (t : TypeId) (parts : Array (Nat × Operand)) (ho : o.op = .build t parts) (c : Array Value)
    (hb : P.built t (parts.map fun (i, x) => (i, a.eval x)).toList = some c) (h : wpList P ops Q rest (a.put o.dst (.agg c)) w) : wpList P ops Q (o :: rest) a w :=
  wpList_build hg t parts ho (by rw [hb]; rfl) (by rw [hb]; exact h)
def Const (w : World) (e : Ending) (w' : World) : Prop := e = .returned (.agg (wcell .i64 64 kTab)) ∧ Below w.heap.size w w'
theorem zero58 (w : World) : (zeroValue 108).run Tryz.prog w = .ok (.agg (wcell .i64 64 [])) w := by kernel_rfl
theorem info58 : (Tryz.prog.info? 108).map (·.size) = some 64 := by kernel_rfl
set_option maxRecDepth 100000 in
set_option maxHeartbeats 2000000 in
theorem constants_any (w : World) : Calls Tryz.prog 78 #[] w (Const w) := by
  have hz := zero58
  have HZ := Lib.hid (wcell_size .i64 64 [])
  have HK := Lib.hid (rfl : wcell .i64 64 kTab = wcell .i64 64 kTab)
  generalize wcell .i64 64 [] = Z0 at *
  have HB := Lib.hid (Blk.new w 108 Z0)
  have HL := Lib.hid (below_lit w (.cells Z0 108))
  go_enter Tryz.func78, Tryz.ntmps78
  go_wp2_with (first | (refine wpList_built rfl 108 _ rfl (wcell .i64 64 kTab) (by kernel_rfl) ?_) | refine wpList_store_row rfl 108 _ _ rfl w.heap.size (wcell .i64 64 kTab) rfl rfl 108 Z0 HB.out (by rw [wcell_size]; exact info58) (by rw [HZ.out, wcell_size]) (wcell_one _ _ _) ?_)
  exact bodyPost_ret (v := .agg (wcell .i64 64 kTab)) (results_cell_row (p := 0) (ty := 108) rfl _ _ w.heap.size 108 _ (0, 0) _ rfl (blk_setRow HB.out) Tryz.underlying108 rfl (by rw [wcell_size]; exact info58)) rfl ⟨rfl, below_setRow HL.out (Nat.le_refl _) _⟩
end Go.Proofs.YtkbgmdabmebdhaaGreatDoor.shr

/- The walks of the reference of sha: a block. -/
namespace Go.Proofs.YtkbgmdabmebdhaaGreatDoor.shr
open Go.ChangeShapes Go.WideShapes Go.ChangeAt Go.RowKit Go.Proofs.Aid
open Go.Proofs.YtkbgmdabmebdhaaGreatDoor.oc (be be_length bz bz_append)
open Go.Proofs.YtkbgmdabmebdhaaGreatDoor.sha
set_option linter.unusedVariables false
def c64 (x : S8) : Array Value := #[.int .i64 x.a, .int .i64 x.b, .int .i64 x.c, .int .i64 x.d, .int .i64 x.e, .int .i64 x.f, .int .i64 x.g, .int .i64 x.h]
theorem c64_list (x : S8) : c64 x = wcell .i64 8 x.list := rfl
theorem info42 : (Tryz.prog.info? 94).map (·.size) = some 8 := by kernel_rfl
theorem info42c (x : S8) : (Tryz.prog.info? 94).map (·.size) = some (c64 x).size := info42
theorem one42 (x : S8) : (c64 x).all (·.oneCell') = true := wcell_one .i64 8 x.list
structure Bk (M : Nat) (w0 : World) (g2 g4 g6 g7 gW : Nat) (v r l : List Nat) (w' : World) : Prop where
  h2 : Blk w' g2 94 (wcell .i64 8 v)
  h4 : Blk w' g4 94 (wcell .i64 8 [])
  h6 : Blk w' g6 108 (wcell .i64 64 kTab)
  h7 : Blk w' g7 94 (wcell .i64 8 r)
  hW : ∀ i, i < 64 → w'.cell? ⟨gW, i, none⟩ = some (.int .i64 ((l.getD i 0 : Nat) : Int))
  n2 : g2 ≠ g7
  n4 : g4 ≠ g7
  n6 : g6 ≠ g7
  nW : gW ≠ g7
  m2 : M ≤ g2
  m4 : M ≤ g4
  m7 : M ≤ g7
  low : Below M w0 w'
section
variable {M : Nat} {w0 w1 w2 : World} {g2 g4 g6 g7 gW : Nat} {v r l : List Nat}
theorem Bk.drewN (h : Bk M w0 g2 g4 g6 g7 gW v r l w1) (n : Nat) : Bk M w0 g2 g4 g6 g7 gW v r l (w1.drewN n) :=
  ⟨h.h2.drewN n, h.h4.drewN n, h.h6.drewN n, h.h7.drewN n, h.hW, h.n2, h.n4, h.n6, h.nW, h.m2, h.m4, h.m7, below_drewN h.low n⟩
theorem Bk.drew (h : Bk M w0 g2 g4 g6 g7 gW v r l w1) : Bk M w0 g2 g4 g6 g7 gW v r l w1.drew :=
  ⟨h.h2.drew, h.h4.drew, h.h6.drew, h.h7.drew, h.hW, h.n2, h.n4, h.n6, h.nW, h.m2, h.m4, h.m7, h.low.drew⟩
theorem cell_setRow (w : World) {g i : Nat} (cs : Array Value) (o : Nat) (hi : i ≠ g) : (w.setRow g cs).cell? ⟨i, o, none⟩ = w.cell? ⟨i, o, none⟩ := by
  apply World.cell?_of_block
  simp only [World.setRow, Array.getElem?_modify]
  rw [if_neg (fun e => hi e.symm)]
theorem Bk.row (h : Bk M w0 g2 g4 g6 g7 gW v r l w1) (r' : List Nat) : Bk M w0 g2 g4 g6 g7 gW v r' l (w1.setRow g7 (wcell .i64 8 r')) :=
  ⟨blk_setRow_far h.h2 (Ne.symm h.n2), blk_setRow_far h.h4 (Ne.symm h.n4), blk_setRow_far h.h6 (Ne.symm h.n6), blk_setRow h.h7, fun i hi => (cell_setRow w1 _ i h.nW).trans (h.hW i hi), h.n2, h.n4, h.n6, h.nW, h.m2, h.m4, h.m7, below_setRow h.low h.m7 _⟩
theorem Bk.cell (h : Bk M w0 g2 g4 g6 g7 gW v r l w1) (k : Nat) (u : Value) (r' : List Nat) (hr : (wcell .i64 8 r).setIfInBounds k u = wcell .i64 8 r') : Bk M w0 g2 g4 g6 g7 gW v r' l (w1.setCell ⟨g7, k, none⟩ u) :=
  ⟨h.h2.far h.n2 u, h.h4.far h.n4 u, h.h6.far h.n6 u, by rw [← hr]; exact h.h7.set_ k u, fun i hi => (World.cell?_setCell_other _ _ _ _ (fun e => h.nW (by injection e with e1 e2; exact e1.symm))).trans (h.hW i hi), h.n2, h.n4, h.n6, h.nW, h.m2, h.m4, h.m7, h.low.setCell (p := ⟨g7, k, none⟩) h.m7 u⟩
end
theorem mixL64_set (r v : List Nat) (k : Nat) (hk : k < 8) (n : Nat) (hn : n = (r.getD k 0 + v.getD k 0) % 4294967296) : (wcell .i64 8 (mixL r v k)).setIfInBounds k (.int .i64 (n : Int)) = wcell .i64 8 (mixL r v (k + 1)) := by
  subst hn
  refine wcell_set .i64 8 _ _ k _ ?_ fun j hj => ?_
  · rw [mixL_at _ _ _ hk, if_pos (by omega)]
  · by_cases h8 : j < 8
    · rw [mixL_at _ _ _ h8, mixL_at _ _ _ h8]
      by_cases h1 : j < k
      · rw [if_pos h1, if_pos (by omega)]
      · rw [if_neg h1, if_neg (by omega)]
    · rw [mixL_out _ _ _ h8, mixL_out _ _ _ h8]
theorem not_low {e : Nat} (h : e < 4294967296) : bits BinOp.xor IntKind.i64 (if IntKind.i64.signed = true then -1 else 9223372036854775807) (e : Int) % 4294967296 = ((e ^^^ 4294967295 : Nat) : Int) := by
  rw [show (if IntKind.i64.signed = true then (-1 : Int) else 9223372036854775807) = -1 from rfl]
  show IntKind.i64.wrap ((BitVec.ofInt 64 (-1) ^^^ BitVec.ofInt 64 (e : Int)).toNat : Int) % 4294967296 = _
  rw [BitVec.toNat_xor, ofInt_i64 e (by omega), show (BitVec.ofInt 64 (-1)).toNat = 18446744073709551615 by decide, IntKind.wrap_i64]
  have h1 : (18446744073709551615 ^^^ e) % 4294967296 = 4294967295 ^^^ e := by
    have := Nat.xor_mod_two_pow (a := 18446744073709551615) (b := e) (n := 32)
    rw [show (2 : Nat) ^ 32 = 4294967296 from rfl, Nat.mod_eq_of_lt h] at this
    exact this
  rw [Nat.xor_comm e, ← h1]
  omega
def Blocked (x : S8) (w : World) (e : Ending) (w' : World) : Prop := e = .returned (.agg (c64 x)) ∧ Below w.heap.size w w'
set_option maxRecDepth 100000 in
set_option maxHeartbeats 8000000 in
theorem block_any (v : S8) (hv : v.ok) (s : ByteArray) (w : World) (hs : s.size = 64) :
    Calls Tryz.prog 66 #[.agg (c64 v), .string s] w (Blocked (blockS v s.data.toList) w) := by
  have hz := zero58
  have HZ := Lib.hid (show (wcell .i64 64 []).size = 64 from wcell_size _ _ _)
  generalize wcell .i64 64 [] = Z0 at *
  have HV := Lib.hid hv
  have HS := Lib.hid hs
  clear hs hv
  simp only [c64]
  go_enter Tryz.func66, Tryz.ntmps66
  go_wp2_with fail
  have W0 : Hid (Blk ((w.alloc (.cells (c64 v) 94)).alloc (.cells (wcell .i64 8 []) 94)) w.heap.size 94 (wcell .i64 8 v.list) ∧ Blk ((w.alloc (.cells (c64 v) 94)).alloc (.cells (wcell .i64 8 []) 94)) (w.heap.size + 1) 94 (wcell .i64 8 []) ∧ Below w.heap.size w ((w.alloc (.cells (c64 v) 94)).alloc (.cells (wcell .i64 8 []) 94)) ∧ ((w.alloc (.cells (c64 v) 94)).alloc (.cells (wcell .i64 8 []) 94)).heap.size = w.heap.size + 2) := by
    refine ⟨(Blk.new w _ _).alloc _, ?_, below_lit2 w _ _, by simp⟩
    have := Blk.new (w.alloc (.cells (c64 v) 94)) 94 (wcell .i64 8 [])
    rw [World.size_alloc] at this
    exact this
  change Calls Tryz.prog 77 _ ((w.alloc (.cells (c64 v) 94)).alloc (.cells (wcell .i64 8 []) 94)) _
  generalize (w.alloc (.cells (c64 v) 94)).alloc (.cells (wcell .i64 8 []) 94) = wa at *
  refine (words_any s wa HS.out).mono ?_
  rintro e w1 ⟨vW, rfl, hrow, hb1⟩
  have HLEN : Hid ((sched s.data.toList).length = 64) := by unfold Hid; rw [sched, schedN_length, words16_length]
  have HSL := Lib.hid (sched_lt s.data.toList)
  have HF : Hid (∀ r w', r = (blockS v s.data.toList).list → Below w.heap.size w w' → Blocked (blockS v s.data.toList) w (.returned (.agg (wcell .i64 8 r))) w') := fun r w' e h => by rw [e]; exact ⟨rfl, h⟩
  have HR : Hid (∀ t, t = 64 → mixL (runS v (sched s.data.toList) t).list v.list 8 = (blockS v s.data.toList).list) := fun t h => by rw [h]; exact mixL_all _ _
  generalize blockS v s.data.toList = out at *
  generalize sched s.data.toList = l at *
  obtain ⟨gW, cap, hvW, hbg, hgl⟩ := World.ownsRow.form hrow (by rw [HLEN.out]; decide)
  subst hvW
  rw [HLEN.out] at hrow ⊢
  have HRW := Lib.hid (fun i (hi : i < 64) => show w1.cell? ⟨gW, i, none⟩ = some (.int .i64 ((l.getD i 0 : Nat) : Int)) from by
    rw [Go.Proofs.YtkbgmdabmebdhaaGreatDoor.sha.getD_in (by rw [HLEN.out]; exact hi)]
    exact (Row1.cell hrow (i := i) (by rw [HLEN.out]; exact hi)).1)
  have HB1 := Lib.hid hb1
  clear hrow hb1
  go_wp2_with fail
  refine (constants_any w1).mono ?_
  rintro e w2 ⟨rfl, hb2⟩
  have HB2 := Lib.hid hb2
  clear hb2
  have hsz := wcell_size .i64 64 kTab
  have HONE := Lib.hid (wcell_one .i64 64 kTab)
  have HI : Hid ((Tryz.prog.info? 108).map (·.size) = some (wcell .i64 64 kTab).size) := by unfold Hid; rw [hsz]; exact info58
  have HSZ := Lib.hid hsz
  clear hsz
  have HW : Hid (Blk (w2.alloc (.cells Z0 108)) w2.heap.size 108 Z0) := Blk.new w2 _ _
  obtain ⟨A2, A4, A0, AZ⟩ := W0.out
  have z1 := HB1.out.size
  have z2 := HB2.out.size
  have hkT : Hid (wcell .i64 64 kTab = wcell .i64 64 kTab) := rfl
  generalize hcs : wcell .i64 64 kTab = cs at *
  have HCS := Lib.hid hcs
  clear hcs
  have hA : Below wa.heap.size wa w2 := HB1.out.trans (HB2.out.mono z1)
  have B2 : Hid (Blk ((w2.alloc (.cells Z0 108)).setRow w2.heap.size cs) w.heap.size 94 (wcell .i64 8 v.list)) := blk_setRow_far ((A2.below hA A2.lt).alloc _) (by omega)
  have B4 : Hid (Blk ((w2.alloc (.cells Z0 108)).setRow w2.heap.size cs) (w.heap.size + 1) 94 (wcell .i64 8 [])) := blk_setRow_far ((A4.below hA A4.lt).alloc _) (by omega)
  have B6 : Hid (Blk ((w2.alloc (.cells Z0 108)).setRow w2.heap.size cs) w2.heap.size 108 cs) := blk_setRow HW.out
  have BW : Hid (∀ i, i < 64 → ((w2.alloc (.cells Z0 108)).setRow w2.heap.size cs).cell? ⟨gW, i, none⟩ = some (.int .i64 ((l.getD i 0 : Nat) : Int))) := fun i hi => by
    rw [cell_setRow _ _ _ (by omega), World.cell?_alloc_lt _ _ _ (by show gW < w2.heap.size; omega)]
    exact (HB2.out.cell (p := ⟨gW, i, none⟩) hgl).trans (HRW.out i hi)
  have BL : Hid (Below w.heap.size w ((w2.alloc (.cells Z0 108)).setRow w2.heap.size cs)) := below_setRow ((A0.trans (hA.mono (by omega))).alloc (by omega) _) (by omega) _
  have BZ : Hid (((w2.alloc (.cells Z0 108)).setRow w2.heap.size cs).heap.size = w2.heap.size + 1) := by simp [World.setRow, Hid]
  have z3 : w.heap.size + 2 ≤ w2.heap.size := by omega
  have z4 : gW < w2.heap.size := by omega
  clear A2 A4 A0 AZ z1 z2 W0 HB1 HB2 HRW hA hkT
  go_wp2_with (first
    | (refine wpList_store_row rfl 108 _ _ rfl w2.heap.size cs rfl rfl 108 Z0 HW.out HI.out (HZ.out.trans HSZ.out.symm) HONE.out ?_; generalize (w2.alloc (.cells Z0 108)).setRow w2.heap.size cs = w3 at *)
    | (refine wpList_load_row rfl 94 _ rfl w.heap.size rfl 94 (c64 v) (0, 0) _ B2.out Tryz.underlying94 rfl (info42c v) ?_; simp only [c64]))
  have HT : Hid (Bk w.heap.size w w.heap.size (w.heap.size + 1) w2.heap.size w3.heap.size gW v.list (runS v l 0).list l (w3.alloc (.cells (c64 v) 94))) :=
    ⟨B2.out.alloc _, B4.out.alloc _, by rw [HCS.out]; exact B6.out.alloc _, Blk.new w3 _ _, fun i hi => by rw [World.cell?_alloc_lt _ _ _ (by show gW < w3.heap.size; have := BZ.out; omega)]; exact BW.out i hi, by have := BZ.out; omega, by have := BZ.out; omega, by have := BZ.out; omega, by have := BZ.out; omega, Nat.le_refl _, by omega, by have := BZ.out; omega, BL.out.alloc (by have := BZ.out; omega) _⟩
  simp only [c64] at HT
  clear B2 B4 B6 BW BL HW HONE HI HSZ HCS
  generalize w3.alloc (.cells #[.int .i64 (v.a : Int), .int .i64 v.b, .int .i64 v.c, .int .i64 v.d, .int .i64 v.e, .int .i64 v.f, .int .i64 v.g, .int .i64 v.h] 94) = w4 at *
  generalize w3.heap.size = g7 at *
  generalize w2.heap.size = g6 at *
  clear z3 z4 BZ hbg hgl
  generalize (#[.int .i64 (v.a : Int), .int .i64 v.b, .int .i64 v.c, .int .i64 v.d, .int .i64 v.e, .int .i64 v.f, .int .i64 v.g, .int .i64 v.h] : Array Value) = vc at *
  go_loopw [8] (fun iv wr => ∃ t : Nat, t ≤ 64 ∧ iv = .int .i64 t ∧ Hid (Bk w.heap.size w w.heap.size (w.heap.size + 1) g6 g7 gW v.list (runS v l t).list l wr)) (fun iv _ => 64 - (intOf iv).toNat)
  case atStart => exact ⟨0, by omega, rfl, HT⟩
  case round =>
    clear HT hz
    obtain ⟨t, ht, rfl, hT⟩ := hrel
    by_cases hlt : t < 64
    · have hok := Lib.hid (runS_ok HV.out l t)
      have HN := Lib.hid (show runS v l (t + 1) = stepS (runS v l t) ((kTab.getD t 0 + l.getD t 0) % 4294967296) from rfl)
      generalize runS v l t = r at *
      have HK : Hid (∀ w', Bk w.heap.size w w.heap.size (w.heap.size + 1) g6 g7 gW v.list r.list l w' → w'.cell? ⟨g6, t, none⟩ = some (.int .i64 ((kTab.getD t 0 : Nat) : Int)) ∧ w'.cell? ⟨gW, t, none⟩ = some (.int .i64 ((l.getD t 0 : Nat) : Int)) ∧ (∀ j, w'.cell? ⟨g7, j, none⟩ = (c64 r)[j]?)) := fun w' h => by
        refine ⟨?_, h.hW t hlt, fun j => h.h7.cell j⟩
        rw [h.h6.cell, wcell_at hlt]
      have ykt := kTab_lt t
      have ylt := allLt_getD HSL.out t
      generalize kTab.getD t 0 = kt at *
      generalize l.getD t 0 = lt at *
      obtain ⟨a, b, c, d, e, f, g, i⟩ := r
      obtain ⟨ha, hb, hc, hd, he, hf, hg, hh⟩ := hok.out
      simp only at ha hb hc hd he hf hg hh
      clear hok
      have q := HK.out wr hT.out
      have p0 := q.2.2 0
      have p4 := q.2.2 4
      simp only [c64, List.getElem?_toArray, List.getElem?_cons_zero, List.getElem?_cons_succ] at p0 p4
      clear q
      go_wp2
      go_quiet (fail)
      clear p0 p4
      have hT1 := Lib.hid (hT.out.drewN nq)
      clear hT
      generalize wr.drewN nq = wa at *
      have q := HK.out wa hT1.out
      have k1 := q.1
      have k2 := q.2.1
      have p5 := q.2.2 5
      have p6 := q.2.2 6
      have p7 := q.2.2 7
      simp only [c64, List.getElem?_toArray, List.getElem?_cons_zero, List.getElem?_cons_succ] at p5 p6 p7
      clear q
      have hr := rotr_lt
      have e1 := i64_xor_nat (rotr e 6) (rotr e 11) (hr _ _) (hr _ _)
      have e2 := i64_xor_nat (rotr e 6 ^^^ rotr e 11) (rotr e 25) (xor_lt (hr _ _) (hr _ _)) (hr _ _)
      have e3 := i64_and_nat e f he hf
      have e4 := not_low he
      have e5 := i64_and_nat (e ^^^ 4294967295) g (not_lt he) hg
      have e6 := i64_xor_nat (e &&& f) ((e ^^^ 4294967295) &&& g) (and_lt _ he) (and_lt _ (not_lt he))
      have H1 := Lib.hid (show rotr e 6 ^^^ rotr e 11 ^^^ rotr e 25 = bs1 e from rfl)
      have H2 := Lib.hid (show (e &&& f) ^^^ ((e ^^^ 4294967295) &&& g) = chf e f g from rfl)
      have b1 := bs1_lt e
      have b2 := chf_lt g he (f := f)
      rw [H1.out] at e2
      rw [H2.out] at e6
      have HST := Lib.hid (show stepS ⟨a, b, c, d, e, f, g, i⟩ ((kt + lt) % 4294967296) = ⟨(i + bs1 e + chf e f g + (kt + lt) % 4294967296 + (bs0 a + maj a b c)) % 4294967296, a, b, c, (d + (i + bs1 e + chf e f g + (kt + lt) % 4294967296)) % 4294967296, e, f, g⟩ from rfl)
      generalize bs1 e = B1 at *
      generalize chf e f g = CH at *
      have s1 : IntKind.i64.wrap ((i : Int) + (B1 : Int)) = (i : Int) + B1 := IntWalk.i64_in _ (by omega)
      have s2 : IntKind.i64.wrap ((i : Int) + (B1 : Int) + (CH : Int)) = (i : Int) + B1 + CH := IntWalk.i64_in _ (by omega)
      have s3 : IntKind.i64.wrap ((i : Int) + (B1 : Int) + (CH : Int) + (kt : Int)) = (i : Int) + B1 + CH + kt := IntWalk.i64_in _ (by omega)
      have s4 : IntKind.i64.wrap ((i : Int) + (B1 : Int) + (CH : Int) + (kt : Int) + (lt : Int)) = (i : Int) + B1 + CH + kt + lt := IntWalk.i64_in _ (by omega)
      go_wp2
      go_quiet ((first
        | (go_at_call 79; exact Calls.quiet_of (turn_any _ _ _ (by assumption) (by decide) (by decide)))
        | (go_at_call 80; exact Calls.quiet_of_same ((low_any _ _).mono fun _ _ h => ⟨h.1, h.2.symm⟩))))
      clear k1 k2 p5 p6 p7 e1 e2 e3 e4 e5 e6 s1 s2 s3 s4 H1 H2
      have hT2 := Lib.hid (hT1.out.drewN nq)
      clear hT1
      generalize wa.drewN nq = wb at *
      have q := HK.out wb hT2.out
      have p1 := q.2.2 1
      have p2 := q.2.2 2
      simp only [c64, List.getElem?_toArray, List.getElem?_cons_zero, List.getElem?_cons_succ] at p1 p2
      clear q
      have e7 := i64_xor_nat (rotr a 2) (rotr a 13) (hr _ _) (hr _ _)
      have e8 := i64_xor_nat (rotr a 2 ^^^ rotr a 13) (rotr a 22) (xor_lt (hr _ _) (hr _ _)) (hr _ _)
      have e9 := i64_and_nat a b ha hb
      have e10 := i64_and_nat a c ha hc
      have e11 := i64_xor_nat (a &&& b) (a &&& c) (and_lt _ ha) (and_lt _ ha)
      have e12 := i64_and_nat b c hb hc
      have e13 := i64_xor_nat ((a &&& b) ^^^ (a &&& c)) (b &&& c) (xor_lt (and_lt _ ha) (and_lt _ ha)) (and_lt _ hb)
      have H3 := Lib.hid (show rotr a 2 ^^^ rotr a 13 ^^^ rotr a 22 = bs0 a from rfl)
      have H4 := Lib.hid (show (a &&& b) ^^^ (a &&& c) ^^^ (b &&& c) = maj a b c from rfl)
      have b3 := bs0_lt a
      have b4 := maj_lt c ha hb
      rw [H3.out] at e8
      rw [H4.out] at e13
      generalize bs0 a = B0 at *
      generalize maj a b c = MJ at *
      have s5 : IntKind.i64.wrap ((B0 : Int) + (MJ : Int)) = (B0 : Int) + MJ := IntWalk.i64_in _ (by omega)
      go_wp2
      go_quiet ((first
        | (go_at_call 79; exact Calls.quiet_of (turn_any _ _ _ (by assumption) (by decide) (by decide)))
        | (go_at_call 80; exact Calls.quiet_of_same ((low_any _ _).mono fun _ _ h => ⟨h.1, h.2.symm⟩))))
      clear p1 p2 e7 e8 e9 e10 e11 e12 e13 s5 H3 H4 hr
      have hT3 := Lib.hid (hT2.out.drewN nq)
      clear hT2
      generalize wb.drewN nq = wc at *
      have hT4 := Lib.hid hT3.out.drew
      have q := HK.out wc hT3.out
      have p0 := q.2.2 0
      have p1 := q.2.2 1
      have p2 := q.2.2 2
      have p3 := q.2.2 3
      have p4 := q.2.2 4
      have p5 := q.2.2 5
      have p6 := q.2.2 6
      simp only [c64, List.getElem?_toArray, List.getElem?_cons_zero, List.getElem?_cons_succ] at p0 p1 p2 p3 p4 p5 p6
      clear q hT3 HK
      have s6 : IntKind.i64.wrap ((i : Int) + B1 + CH + kt + lt + ((B0 : Int) + MJ)) = (i : Int) + B1 + CH + kt + lt + ((B0 : Int) + MJ) := IntWalk.i64_in _ (by omega)
      have s7 : IntKind.i64.wrap ((d : Int) + ((i : Int) + B1 + CH + kt + lt)) = (d : Int) + ((i : Int) + B1 + CH + kt + lt) := IntWalk.i64_in _ (by omega)
      have hL := fun (x : Int) => (low_any x wc.drew).mono (fun e w'' (h : e = .returned (.int .i64 (x % 4294967296)) ∧ wc.drew = w'') => And.intro h.1 h.2.symm)
      go_wp2
      refine wp_region_still_tail 22 (by kernel_rfl) (by kernel_rfl) ?_
      simp only [List.take_succ_cons, List.take_zero, List.drop_succ_cons, List.drop_zero]
      repeat (first | still_step | still_call (hL _))
      try refine wpStill_nil ?_
      change wpList _ _ _ _ _ wc.drew
      have EQ : (#[.int .i64 (((i : Int) + B1 + CH + kt + lt + ((B0 : Int) + MJ)) % 4294967296), .int .i64 (a : Int), .int .i64 (b : Int), .int .i64 (c : Int), .int .i64 (((d : Int) + ((i : Int) + B1 + CH + kt + lt)) % 4294967296), .int .i64 (e : Int), .int .i64 (f : Int), .int .i64 (g : Int)] : Array Value) = wcell .i64 8 (stepS ⟨a, b, c, d, e, f, g, i⟩ ((kt + lt) % 4294967296)).list := by
        rw [HST.out, ← c64_list]
        have x1 : ((i : Int) + B1 + CH + kt + lt + ((B0 : Int) + MJ)) % 4294967296 = (((i + B1 + CH + (kt + lt) % 4294967296 + (B0 + MJ)) % 4294967296 : Nat) : Int) := by omega
        have x2 : ((d : Int) + ((i : Int) + B1 + CH + kt + lt)) % 4294967296 = (((d + (i + B1 + CH + (kt + lt) % 4294967296)) % 4294967296 : Nat) : Int) := by omega
        rw [x1, x2]
        rfl
      have HEQ := Lib.hid EQ
      clear EQ hL s6 s7 p0 p1 p2 p3 p4 p5 p6 HST
      generalize wc.drew = wd at *
      refine wpList_store_row rfl 94 _ _ rfl g7 (#[.int .i64 (((i : Int) + B1 + CH + kt + lt + ((B0 : Int) + MJ)) % 4294967296), .int .i64 (a : Int), .int .i64 (b : Int), .int .i64 (c : Int), .int .i64 (((d : Int) + ((i : Int) + B1 + CH + kt + lt)) % 4294967296), .int .i64 (e : Int), .int .i64 (f : Int), .int .i64 (g : Int)] : Array Value) rfl rfl 94 _ hT4.out.h7 info42 (wcell_size _ _ _) (by rw [HEQ.out]; exact wcell_one _ _ _) ?_
      go_wp2
      go_roundw
      case rel => exact ⟨t + 1, by omega, by go_num, by rw [HN.out, HEQ.out]; exact hT4.out.row _⟩
      case measure => simp [intOf]; omega
    · have ht64 : t = 64 := by omega
      have hT0 := hT.out
      rw [← mixL_zero _ v.list] at hT0
      have HT0 := Lib.hid hT0
      have HRt := Lib.hid (HR.out t ht64)
      have hok := Lib.hid (runS_ok HV.out l t)
      clear ht64 hT hT0 HR
      generalize runS v l t = r at *
      go_wp2
      go_loopw [13] (fun iv wr => ∃ k : Nat, k ≤ 8 ∧ iv = .int .i64 k ∧ Hid (Bk w.heap.size w w.heap.size (w.heap.size + 1) g6 g7 gW v.list (mixL r.list v.list k) l wr)) (fun iv _ => 8 - (intOf iv).toNat)
      case atStart => exact ⟨0, by omega, rfl, HT0⟩
      case round =>
        clear HT0
        obtain ⟨k, hk, rfl, hT⟩ := hrel
        by_cases hk8 : k < 8
        · have HTD := Lib.hid hT.out.drew
          have HX := Lib.hid (mixL64_set r.list v.list k hk8)
          have c6 := hT.out.h7.cell k
          have c2 := hT.out.h2.cell k
          rw [wcell_at hk8, mixL_at _ _ _ hk8, if_neg (by omega)] at c6
          rw [wcell_at hk8] at c2
          have f6 := HTD.out.h7.frozen k
          have d6 : wr.drew.cell? ⟨g7, k, none⟩ = some (.int .i64 ((r.list.getD k 0 : Nat) : Int)) := c6
          have d2 : wr.drew.cell? ⟨w.heap.size, k, none⟩ = some (.int .i64 ((v.list.getD k 0 : Nat) : Int)) := c2
          have y6 := allLt_getD (S8.list_lt hok.out) k
          have y2 := allLt_getD (S8.list_lt HV.out) k
          clear hT
          generalize r.list.getD k 0 = rk at *
          generalize v.list.getD k 0 = vk at *
          have ew : IntKind.i64.wrap ((rk : Int) + (vk : Int)) = (rk : Int) + vk := IntWalk.i64_in _ (by omega)
          have hL := fun (x : Int) => (low_any x wr.drew).mono (fun e w'' (h : e = .returned (.int .i64 (x % 4294967296)) ∧ wr.drew = w'') => And.intro h.1 h.2.symm)
          go_wp2
          refine wp_region_still_tail 10 (by kernel_rfl) (by kernel_rfl) ?_
          simp only [List.take_succ_cons, List.take_zero, List.drop_succ_cons, List.drop_zero]
          repeat (first | still_step | still_call (hL _))
          try refine wpStill_nil ?_
          change wpList _ _ _ _ _ wr.drew
          have HX2 : Hid (Bk w.heap.size w w.heap.size (w.heap.size + 1) g6 g7 gW v.list (mixL r.list v.list (k + 1)) l (wr.drew.setCell ⟨g7, k, none⟩ (.int .i64 (((rk : Int) + vk) % 4294967296)))) := by
            have e : ((rk : Int) + vk) % 4294967296 = (((rk + vk) % 4294967296 : Nat) : Int) := by omega
            rw [e]
            exact HTD.out.cell k _ _ (HX.out _ rfl)
          clear hL ew HX HTD c6 c2
          generalize wr.drew = wd at *
          go_wp2
          go_roundw
          case rel => exact ⟨k + 1, by omega, by go_num, HX2⟩
          case measure => simp [intOf]; omega
        · have hk8' : k = 8 := by omega
          have hT8 := hT.out
          rw [hk8', HRt.out] at hT8
          have HT8 := Lib.hid hT8
          clear hT8 hT hk8'
          go_wp2_with (first
            | (refine wpList_load_row rfl 94 _ rfl g7 rfl 94 (wcell .i64 8 out.list) (0, 0) _ HT8.out.h7 Tryz.underlying94 rfl (by rw [wcell_size]; exact info42) ?_)
            | (refine wpList_store_row rfl 94 _ _ rfl (w.heap.size + 1) (wcell .i64 8 out.list) rfl rfl 94 (wcell .i64 8 []) HT8.out.h4 (by rw [wcell_size]; exact info42) (by rw [wcell_size, wcell_size]) (wcell_one _ _ _) ?_))
          exact bodyPost_ret (v := .agg (wcell .i64 8 out.list)) (results_cell_row (p := 4) (ty := 94) rfl _ _ (w.heap.size + 1) 94 _ (0, 0) _ rfl (blk_setRow HT8.out.h4) Tryz.underlying94 rfl (by rw [wcell_size]; exact info42)) rfl (HF.out _ _ (by first | rfl | trivial) (below_setRow HT8.out.low (by omega) _))
end Go.Proofs.YtkbgmdabmebdhaaGreatDoor.shr

/- The walks of the reference of sha: the sum, the digits. -/
namespace Go.Proofs.YtkbgmdabmebdhaaGreatDoor.shr
open Go.ChangeShapes Go.WideShapes Go.ChangeAt Go.RowKit Go.Proofs.Aid
open Go.Proofs.YtkbgmdabmebdhaaGreatDoor.oc (be be_length bz bz_append)
open Go.Proofs.YtkbgmdabmebdhaaGreatDoor.sha
set_option linter.unusedVariables false
structure Rm (w0 : World) (g : Nat) (r : List Nat) (w' : World) : Prop where
  h : Blk w' g 94 (wcell .i64 8 r)
  m : w0.heap.size ≤ g
  low : Below w0.heap.size w0 w'
theorem Rm.next {w0 w1 w2 : World} {g : Nat} {r : List Nat} (h : Rm w0 g r w1) (hb : Below w1.heap.size w1 w2) : Rm w0 g r w2 :=
  ⟨h.h.below hb h.h.lt, h.m, h.low.trans (hb.mono (by have := h.h.lt; have := h.m; omega))⟩
theorem Rm.drew {w0 w1 : World} {g : Nat} {r : List Nat} (h : Rm w0 g r w1) : Rm w0 g r w1.drew := ⟨h.h.drew, h.m, h.low.drew⟩
theorem Rm.row {w0 w1 : World} {g : Nat} {r : List Nat} (h : Rm w0 g r w1) (r' : List Nat) : Rm w0 g r' (w1.setRow g (wcell .i64 8 r')) := ⟨blk_setRow h.h, h.m, below_setRow h.low h.m _⟩
def RSummed (s : List UInt8) (w : World) (e : Ending) (w' : World) : Prop := e = .returned (.string (bz (shaB s))) ∧ Below w.heap.size w w'
theorem slice_to {P : Program} {t : TypeId} (ht : P.underlying t = some .string) (w : World) (s : ByteArray) (h : Nat) (h1 : h ≤ s.size) {H : Int} (hH : H = h) :
    (Instr.slice t (.string s) none (some (.int .i64 H)) none).run P w = .ok (.string (s.extract 0 h)) w := by
  subst hH
  have := run_slice_string_h (P := P) w t s ht .i64 (h : Int) (by omega) (by omega)
  simpa using this
set_option maxRecDepth 100000 in
set_option maxHeartbeats 4000000 in
theorem rsum_any (s : ByteArray) (w : World) (hs : s.size ≤ 1099511627776) :
    Calls Tryz.prog 47 #[.string s] w (RSummed s.data.toList w) := by
  have HP := Lib.hid (fun w' => pad_any s w' hs)
  have hpl : (padB s.data.toList).length % 64 = 0 ∧ (padB s.data.toList).length ≤ 1099511627900 := by
    have h1 := fill_whole s.size
    have h2 := fillB_length s.size
    have h3 := noughts_lt s.size
    have h4 : (padB s.data.toList).length = s.size + (fillB s.size).length := by rw [padB, List.length_append]; simp
    omega
  have HOUT : Hid (∀ q, q = (padB s.data.toList).length / 64 → outS (shaRun h0 (padB s.data.toList) q) = shaB s.data.toList) := fun q h => by rw [h]; rfl
  go_enter Tryz.func47, Tryz.ntmps47
  go_wp2_with fail
  have HT0 : Hid (Rm w w.heap.size (shaRun h0 (padB s.data.toList) 0).list (w.alloc (.cells #[.int .i64 1779033703, .int .i64 3144134277, .int .i64 1013904242, .int .i64 2773480762, .int .i64 1359893119, .int .i64 2600822924, .int .i64 528734635, .int .i64 1541459225] 94))) :=
    ⟨Blk.new w _ _, Nat.le_refl _, below_lit w _⟩
  generalize w.alloc (.cells #[.int .i64 1779033703, .int .i64 3144134277, .int .i64 1013904242, .int .i64 2773480762, .int .i64 1359893119, .int .i64 2600822924, .int .i64 528734635, .int .i64 1541459225] 94) = wa at *
  refine (HP.out wa).mono ?_
  rintro e w1 ⟨rfl, hb⟩
  have HT1 := Lib.hid (HT0.out.next hb)
  clear hb HT0 HP
  generalize padB s.data.toList = pad at *
  obtain ⟨p0, hp0, hp0l⟩ : ∃ p : ByteArray, bz pad = p ∧ p.data.toList = pad.drop (64 * 0) := ⟨_, rfl, rfl⟩
  rw [hp0]
  have HP0 := Lib.hid hp0l
  clear hp0 hp0l
  generalize (#[.int .i64 1779033703, .int .i64 3144134277, .int .i64 1013904242, .int .i64 2773480762, .int .i64 1359893119, .int .i64 2600822924, .int .i64 528734635, .int .i64 1541459225] : Array Value) = vc at *
  go_wp2
  go_loopw [4] (fun sv wr => ∃ (q : Nat) (p : ByteArray), q ≤ pad.length / 64 ∧ sv = .string p ∧ Hid (p.data.toList = pad.drop (64 * q)) ∧ Hid (Rm w w.heap.size (shaRun h0 pad q).list wr)) (fun sv _ => (match sv with | .string x => x.size | _ => 0))
  case atStart => exact ⟨0, p0, by omega, rfl, HP0, HT1⟩
  case round =>
    clear HT1 HP0
    obtain ⟨q, p, hq, rfl, hp, hT⟩ := hrel
    have hps : p.size = pad.length - 64 * q := by
      have h := congrArg List.length hp.out
      rw [Array.length_toList, List.length_drop] at h
      exact h
    by_cases hlt : q < pad.length / 64
    · have h64 : 64 ≤ p.size := by omega
      have hok := Lib.hid (shaRun_ok h0_ok pad q)
      have HN := Lib.hid (show shaRun h0 pad (q + 1) = blockS (shaRun h0 pad q) ((pad.drop (64 * q)).take 64) from rfl)
      generalize shaRun h0 pad q = r at *
      have HTD := Lib.hid hT.out.drew
      have c6 := fun j => hT.out.h.cell j
      have p0' := c6 0
      have p1 := c6 1
      have p2 := c6 2
      have p3 := c6 3
      have p4 := c6 4
      have p5 := c6 5
      have p6 := c6 6
      have p7 := c6 7
      rw [← c64_list] at p0' p1 p2 p3 p4 p5 p6 p7
      simp only [c64, List.getElem?_toArray, List.getElem?_cons_zero, List.getElem?_cons_succ] at p0' p1 p2 p3 p4 p5 p6 p7
      clear c6 hT
      have hsl := fun w => slice_to (P := Tryz.prog) Tryz.underlying9 w p 64 h64 (H := 64) rfl
      have hsl2 := fun w => slice_from (P := Tryz.prog) Tryz.underlying9 w p 64 h64 (L := 64) rfl
      have hc := Lib.hid (extract_list p 0 64)
      have hcs : Hid ((p.extract 0 64).size = 64) := by unfold Hid; rw [ByteArray.size_extract]; omega
      have hd := Lib.hid (extract_list p 64 p.size)
      have hds : Hid ((p.extract 64 p.size).size < p.size) := by unfold Hid; rw [ByteArray.size_extract]; omega
      have HPL : Hid (p.data.toList.length = p.size) := by unfold Hid; simp
      generalize p.extract 0 64 = c at *
      generalize p.extract 64 p.size = d at *
      have HC : Hid (∀ w', Calls Tryz.prog 66 #[.agg #[.int .i64 (r.a : Int), .int .i64 r.b, .int .i64 r.c, .int .i64 r.d, .int .i64 r.e, .int .i64 r.f, .int .i64 r.g, .int .i64 r.h], .string c] w' (Blocked (blockS r c.data.toList) w')) := fun w' => block_any r hok.out c w' hcs.out
      have HPS := Lib.hid hps
      have h64' : (64 : Int) ≤ (p.size : Int) := by omega
      clear hps
      go_wp2
      go_still_tail 3, (by kernel_rfl)
      change wpList _ _ _ _ _ wr.drew
      generalize wr.drew = wd at *
      go_wp2_with (first
        | (refine (HC.out wd).mono ?_; rintro e w4 ⟨rfl, hb⟩; have HT4 := Lib.hid (HTD.out.next hb); clear hb HTD)
        | (refine wpList_store_row rfl 94 _ _ rfl w.heap.size (c64 (blockS r c.data.toList)) rfl rfl 94 (wcell .i64 8 r.list) HT4.out.h (info42c _) rfl (one42 _) ?_))
      go_roundw
      case rel =>
        refine ⟨q + 1, d, by omega, rfl, ?_, ?_⟩
        · show d.data.toList = _
          rw [hd.out, List.take_of_length_le (by rw [List.length_drop, HPL.out]; omega), hp.out, List.drop_drop]
          congr 1
        · rw [HN.out]
          have e : (pad.drop (64 * q)).take 64 = c.data.toList := by rw [hc.out, hp.out]; rfl
          rw [e]
          exact HT4.out.row _
      case measure => exact hds.out
    · have hps2 : p.size = 0 := by omega
      have hps3 : ¬ (64 : Int) ≤ (p.size : Int) := by omega
      have hqe : q = pad.length / 64 := by omega
      have HO := Lib.hid (HOUT.out q hqe)
      have HPO := Lib.hid (shaRun_ok h0_ok pad q)
      clear hps hps2 hqe HOUT
      generalize shaRun h0 pad q = rF at *
      have HLT := Lib.hid (S8.list_lt HPO.out)
      have HLE : Hid (rF.list.length = 8) := rfl
      have HO2 : Hid (∀ k, k = 8 → bz ((rF.list.take k).flatMap (fun n : Nat => be 4 (n : Int))) = bz (shaB s.data.toList)) := fun k h => by rw [h, ← HO.out]; rfl
      have H0 : Hid ((⟨#[]⟩ : ByteArray) = bz ((rF.list.take 0).flatMap (fun n : Nat => be 4 (n : Int)))) := rfl
      clear HO HPO
      generalize rF.list = rl at *
      go_wp2
      go_loopw [5, 6] (fun sv iv wr => ∃ k : Nat, k ≤ 8 ∧ iv = .int .i64 k ∧ sv = .string (bz ((rl.take k).flatMap (fun n : Nat => be 4 (n : Int)))) ∧ Hid (Rm w w.heap.size rl wr)) (fun _ iv _ => 8 - (intOf iv).toNat)
      case atStart => exact ⟨0, by omega, rfl, by rw [← H0.out], hT⟩
      case round =>
        clear H0 hT
        obtain ⟨k, hk, rfl, rfl, hT⟩ := hrel
        by_cases hk8 : k < 8
        · have hkl : k < rl.length := by rw [HLE.out]; exact hk8
          have ck := hT.out.h.cell k
          rw [wcell_at hk8, Go.Proofs.YtkbgmdabmebdhaaGreatDoor.sha.getD_in hkl] at ck
          have htk := Lib.hid (List.take_succ_eq_append_getElem hkl)
          generalize rl[k] = x at *
          have hap := Lib.hid (bz_append ((rl.take k).flatMap (fun n : Nat => be 4 (n : Int))) (be 4 (x : Int)))
          have hzs : (bz ((rl.take k).flatMap (fun n : Nat => be 4 (n : Int)))).size ≤ 32 := by
            rw [oc.bz_size, List.length_flatMap]
            simp only [be_length]
            have : (rl.take k).length ≤ 8 := by rw [List.length_take]; omega
            generalize rl.take k = m at this
            clear htk hap hT
            rw [List.map_const']; simp; omega
          have hxs : (bz (be 4 (x : Int))).size = 4 := by rw [oc.bz_size, be_length]
          have HCO := Lib.hid (oc.qcountB_any (x : Int) wr)
          generalize bz ((rl.take k).flatMap (fun n : Nat => be 4 (n : Int))) = z at *
          go_wp2_with fail
          refine HCO.out.mono ?_
          rintro e w2 ⟨rfl, hb⟩
          have hT2 := Lib.hid (hT.out.next hb)
          clear hb hT HCO
          generalize bz (be 4 (x : Int)) = y at *
          go_wp2
          go_roundw
          case rel => exact ⟨k + 1, by omega, by go_num, by rw [htk.out, List.flatMap_append, hap.out]; simp, hT2⟩
          case measure => simp [intOf]; omega
        · have hk88 : k = 8 := by omega
          have HFF : Hid (RSummed s.data.toList w (.returned (.string (bz (shaB s.data.toList)))) wr) := ⟨rfl, hT.out.low⟩
          have HX := Lib.hid (HO2.out k hk88)
          rw [HX.out]
          clear hk88 hT
          go_wp2
          go_ret
          exact HFF.out
end Go.Proofs.YtkbgmdabmebdhaaGreatDoor.shr

/- The walks of the reference of sha: the digits, of lists. -/
namespace Go.Proofs.YtkbgmdabmebdhaaGreatDoor.shr
open Go.ChangeShapes Go.WideShapes Go.ChangeAt Go.RowKit Go.Proofs.Aid
open Go.Proofs.YtkbgmdabmebdhaaGreatDoor.oc (be be_length bz bz_append)
open Go.Proofs.YtkbgmdabmebdhaaGreatDoor.sha
set_option linter.unusedVariables false
theorem hexS : ∀ k : Fin 16, hexT.extract k.val (k.val + 1) = bz [hexD k.val] := by decide +kernel
theorem i15 : ∀ c : Fin 256, bits .and .i64 (c.val : Int) 15 = ((c.val % 16 : Nat) : Int) := by decide +kernel
theorem hexSl (w : World) (k : Nat) (hk : k < 16) {L H : Int} (hL : L = k) (hH : H = (k + 1 : Nat)) : (Instr.slice 9 (.string hexT) (some (.int .i64 L)) (some (.int .i64 H)) none).run Tryz.prog w = .ok (.string (bz [hexD k])) w := by
  rw [← hexS ⟨k, hk⟩]
  exact run_slice_string_lh (P := Tryz.prog) Tryz.underlying9 w hexT .i64 .i64 k (k + 1) (by omega) (by show k + 1 ≤ 16; omega) hL hH
def Dig (b : List UInt8) (w : World) (e : Ending) (w' : World) : Prop := e = .returned (.string (bz b)) ∧ ∃ m, w' = w.drewN m
def RHexed (b : List UInt8) (w : World) (e : Ending) (w' : World) : Prop := e = .returned (.string (bz b)) ∧ Below w.heap.size w w'
end Go.Proofs.YtkbgmdabmebdhaaGreatDoor.shr
