/- The walks of sha: a builder of one's own, the digits. -/
import Derived.Test.YtbgakcnhbmodaaaDoorShE
import Derived.Lib.FrozenHead
namespace Go.Proofs.YtbgakcnhbmodaaaDoor.sha
open Go.ChangeShapes Go.WideShapes Go.ChangeAt Go.RowKit Go.Proofs.Aid
open Go.Proofs.YtbgakcnhbmodaaaDoor.oc (be self be_length)
open Go.Lib (byteCells)
set_option linter.unusedVariables false
set_option linter.unusedSimpArgs false
theorem liesB2 : liesAt Tryd.prog Tryd.prog.depth 42 (2 / Tryd.prog.cellsOf 42) 0 42 1 = true := by kernel_rfl
set_option maxRecDepth 100000 in
set_option maxHeartbeats 1000000 in
theorem hcc_new (b : Nat) (w : World) (cs : Array Value) (hcs : cs.size = 2) (hb : Blk w b 42 cs) (h0 : w.cell? ⟨b, 0, none⟩ = some (.pointer none)) :
    Calls Tryd.prog 37 #[self b] w fun e w' => e = .returned (.tuple #[]) ∧ w' = w.setCell ⟨b, 0, none⟩ (self b) := by
  obtain ⟨j, hj, hjs⟩ := Option.map_eq_some_iff.1 oc.infoB
  have hsh := oc.shape_of hb
  rw [hcs] at hsh
  have hfz := hb.frozen 0
  have h1 := Lib.hid (Lib.run_to_unsafe (P := Tryd.prog) w ⟨b, 0, none⟩ Tryd.underlying40 Tryd.underlying71 hj (by rw [hjs]; decide) hsh (by show (0:Nat) < 2; decide))
  have h2 := Lib.hid (Lib.run_from_unsafe (P := Tryd.prog) w ⟨b, 0, none⟩ Tryd.underlying71 Tryd.underlying40 hj hsh liesB2)
  clear hb hsh hcs
  go_enter Tryd.func37, Tryd.ntmps37
  go_wp2
  rw [h1.out]
  simp only [Result.andThen]
  rw [Oper.upon_value]
  go_wp2
  rw [run_callFunc_extern Tryd.func44 (by kernel_rfl) (by kernel_rfl) (by kernel_rfl) (e := Extern.AbiNoEscape.same) (by kernel_rfl)]
  rw [Lib.run_noEscape]
  simp only [Result.andThen]
  rw [Oper.upon_value]
  go_wp2
  rw [h2.out]
  simp only [Result.andThen]
  rw [Oper.upon_value]
  go_wp2
  go_end0
  exact ⟨rfl, rfl⟩
/-- A builder that holds bs: fresh, or written to. -/
def Bl (b : Nat) (p : Value) (bs : List UInt8) (w : World) : Prop := ∃ v, Blk w b 42 #[p, v] ∧ w.ownsRow (b + 1) 5 1 v bs.length (byteCells bs)
def Bw (b : Nat) (bs : List UInt8) (w : World) : Prop := Bl b (.pointer none) bs w ∨ Bl b (self b) bs w
theorem Bl.lt {b : Nat} {p : Value} {bs : List UInt8} {w : World} (h : Bl b p bs w) : b < w.heap.size := by obtain ⟨v, hb, _⟩ := h; exact hb.lt
theorem Bl.isB {b : Nat} {p : Value} {bs : List UInt8} {w : World} (h : Bl b p bs w) : Lib.BuilderAt 42 5 b b p (byteCells bs) w := by
  obtain ⟨v, hb, ho⟩ := h
  refine ⟨Nat.le_refl _, v, hb, ?_, fun e => ?_⟩
  · rw [Lib.byteCells_length]
    exact ⟨ho.1, ho.2.imp id fun ⟨g, cap, cur, h1, h2, h3⟩ => ⟨g, cap, cur, h1, by omega, h3⟩⟩
  · have := (ho.lt b e).1; omega
theorem Bw.isB {b : Nat} {bs : List UInt8} {w : World} (h : Bw b bs w) : Lib.IsBuilder 42 5 b b (byteCells bs) w := h.imp Bl.isB Bl.isB
theorem Bl.set {b : Nat} {p : Value} {bs : List UInt8} {w : World} (h : Bl b p bs w) (q : Value) : Bl b q bs (w.setCell ⟨b, 0, none⟩ q) := by
  obtain ⟨v, hb, ho⟩ := h
  refine ⟨v, by simpa using hb.set_ 0 q, ho.kept (row := some b) ⟨rfl, rfl, rfl, by simp [World.setCell], fun k _ hk => Below.heap_setCell _ _ _ _ (fun e => hk (by simp [e]))⟩ (.inr fun e => ?_)⟩
  have := (ho.lt b e).1; omega
def Wb (b : Nat) (bs : List UInt8) (w : World) (e : Ending) (w' : World) : Prop := e = .returned .nilIface ∧ Bl b (self b) bs w' ∧ Below b w w'
def Cb (b : Nat) (bs : List UInt8) (w : World) (e : Ending) (w' : World) : Prop := e = .returned (.tuple #[]) ∧ Bl b (self b) bs w' ∧ Below b w w'
theorem hcc_any (b : Nat) (bs : List UInt8) (w : World) (h : Bw b bs w) : Calls Tryd.prog 37 #[self b] w (Cb b bs w) := by
  rcases h with h | h
  · obtain ⟨v, hb, ho⟩ := id h
    refine (hcc_new b w _ rfl hb (by rw [hb.cell]; rfl)).mono ?_
    rintro e w' ⟨rfl, rfl⟩
    exact ⟨rfl, h.set (self b), (Below.refl b w).setCell (p := ⟨b, 0, none⟩) (Nat.le_refl _) _⟩
  · obtain ⟨v, hb, ho⟩ := id h
    refine (oc.cc_used b w (by rw [hb.cell]; rfl)).mono ?_
    rintro e w' ⟨rfl, rfl⟩
    exact ⟨rfl, h, Below.refl _ _⟩
theorem hexB_snoc (l : List UInt8) (c : UInt8) : hexB (l ++ [c]) = hexB l ++ [hexD (c.toNat / 16)] ++ [hexD (c.toNat % 16)] := by simp [hexB]
theorem hexB_len (l : List UInt8) : (hexB l).length = 2 * l.length := by
  induction l with
  | nil => rfl
  | cons c l ih => simp only [hexB, List.flatMap_cons, List.length_append, List.length_cons, List.length_nil] at *; omega
theorem hexB_length (s : List UInt8) : (hexB (shaB s)).length = 64 := by rw [hexB_len, shaB_length]
def hexT : ByteArray := ⟨#[48, 49, 50, 51, 52, 53, 54, 55, 56, 57, 97, 98, 99, 100, 101, 102]⟩
theorem and15 : ∀ c : Fin 256, bits .and .u8 (c.val : Int) 15 = ((c.val % 16 : Nat) : Int) := by decide +kernel
theorem hexDn : ∀ k : Fin 16, (hexT[k.val]'(by show k.val < 16; exact k.isLt)).toNat = (hexD k.val).toNat := by decide +kernel
def Hexed (b : List UInt8) (w : World) (e : Ending) (w' : World) : Prop := e = .returned (.string ⟨b.toArray⟩) ∧ Below w.heap.size w w'
theorem hexRun (w : World) (k : Nat) (hk : k < 16) : (Instr.index 9 (.string hexT) (.int .u8 (k : Int))).run Tryd.prog w = .ok (.int .u8 ((hexD k).toNat : Int)) w := by
  have h := hexDn ⟨k, hk⟩
  rw [run_index_string (P := Tryd.prog) w 9 hexT .u8 (k : Int) Tryd.underlying9]
  have h2 : (hexT[k]'(by show k < 16; exact hk)).toNat = (hexD k).toNat := h
  have hk2 : k < hexT.size := hk
  simp [hk2, h2]
end Go.Proofs.YtbgakcnhbmodaaaDoor.sha
