/- A writer of bytes: its memory, and what the library's builder inside it does. No condition. -/
import Derived.Test.YtkbgmdabmebdhaaGreatDoorKit
import Derived.Lib.Hide
import Derived.Shelf.Strings.BuilderF
namespace Go.Proofs.YtkbgmdabmebdhaaGreatDoor.oc
set_option linter.unusedSimpArgs false
set_option linter.unusedVariables false
open Go.ChangeShapes Go.WideShapes Go.ChangeAt Go.RowKit Go.Proofs.Aid
open Go.Lib (byteCells strCells)
theorem infoB : (Tryz.prog.info? 59).map (fun i => i.size) = some 2 := by kernel_rfl
theorem infoU : (Tryz.prog.info? 5).map (fun i => (i.zero, i.size, i.bytes)) = some (some (.int .u8 0), 1, 1) := by kernel_rfl
theorem cellsU : Tryz.prog.cellsOf 5 = 1 := by kernel_rfl
theorem liesB : liesAt Tryz.prog Tryz.prog.depth 62 (3 / Tryz.prog.cellsOf 62) 0 59 1 = true := by kernel_rfl
abbrev self (b : Nat) : Value := .pointer (some ⟨b, 0, none⟩)
/-- The bytes that a builder's slice holds. -/
def Own (b : Nat) (v : Value) (bs : List UInt8) (w : World) : Prop := w.ownsRowF (b + 1) 5 1 v bs.length (byteCells bs) ∧ (bs = [] → v = .slice none 0 0)
theorem Own.nil (b : Nat) (w : World) : Own b (.slice none 0 0) [] w := ⟨World.ownsRowF_nil _ _ _ _, fun _ => rfl⟩
theorem Own.kept {b : Nat} {v : Value} {bs : List UInt8} {w w' : World} {row : Option Nat} (h : Own b v bs w) (hg : w.grownBy w' row) (hne : v.ownBlock = none ∨ v.ownBlock ≠ row) : Own b v bs w' := ⟨h.1.kept hg hne, h.2⟩
theorem Own.ne {b : Nat} {v : Value} {bs : List UInt8} {w : World} (h : Own b v bs w) : v.ownBlock ≠ some b := fun e => by have := (h.1.lt b e).1; omega
theorem Own.set {b : Nat} {v : Value} {bs : List UInt8} {w : World} (h : Own b v bs w) (i : Nat) (u : Value) : Own b v bs (w.setCell ⟨b, i, none⟩ u) :=
  h.kept (row := some b) ⟨rfl, rfl, rfl, by simp [World.setCell], fun k _ hk => Below.heap_setCell _ _ _ _ (fun e => hk (by simp [e]))⟩ (Or.inr h.ne)
theorem Own.form {b : Nat} {v : Value} {bs : List UInt8} {w : World} (h : Own b v bs w) : ∃ ao cap, v = .slice ao bs.length cap := by
  rcases h.1.2 with ⟨hv, h0⟩ | ⟨g, cap, cur, fz, hv, _⟩
  · exact ⟨none, 0, by rw [hv, h0]⟩
  · exact ⟨_, _, hv⟩
theorem Own.froze {b g cap : Nat} {bs : List UInt8} {w : World} (h : Own b (.slice (some ⟨g, 0, none⟩) bs.length cap) bs w) : Own b (.slice (some ⟨g, 0, none⟩) bs.length cap) bs (w.freeze ⟨g, 0, none⟩ bs.length) := by
  unfold World.freeze
  split
  · exact h
  · obtain ⟨hown, hn⟩ := h
    refine ⟨⟨hown.1, ?_⟩, hn⟩
    rcases hown.2 with ⟨hv, _⟩ | ⟨g', cap', cur, fz, hv, hbg, hg, hfz, rest⟩
    · cases hv
    · injection hv with ha _ hcap
      injection ha with ha
      injection ha with hgg _ _
      subst hgg
      subst hcap
      obtain ⟨lo, hi⟩ := fz
      refine .inr ⟨g, _, cur, (if lo == hi then (0, 0 + bs.length) else (min lo 0, max hi (0 + bs.length))), rfl, hbg, ?_, ?_, rest⟩
      · simp [Array.getElem?_modify, hg]
      · simp only at hfz
        split <;> simp <;> omega
theorem Blk.froze {w : World} {b g n : Nat} {t : TypeId} {cs : Array Value} (h : Blk w b t cs) (hg : g ≠ b) : Blk (w.freeze ⟨g, 0, none⟩ n) b t cs := by
  unfold World.freeze
  split
  · exact h
  · unfold Blk at h ⊢
    simp only [Array.getElem?_modify]
    rw [if_neg hg]; exact h
theorem shape_of {w : World} {b : Nat} {t : TypeId} {cs : Array Value} (h : Blk w b t cs) : w.shape? b = some (t, cs.size) := by
  unfold Blk at h; simp [World.shape?, h]
/-- What the copy check leaves. -/
def Checked (b : Nat) (v h : Value) (bs : List UInt8) (w : World) (e : Ending) (w' : World) : Prop := e = .returned (.tuple #[]) ∧ Blk w' b 62 #[self b, v, h] ∧ Own b v bs w' ∧ Below b w w'
set_option maxRecDepth 100000 in
set_option maxHeartbeats 1000000 in
theorem cc_used (b : Nat) (w : World) (h0 : w.cell? ⟨b, 0, none⟩ = some (self b)) :
    Calls Tryz.prog 81 #[self b] w fun e w' => e = .returned (.tuple #[]) ∧ w' = w := by
  obtain ⟨j, hj, _⟩ := Option.map_eq_some_iff.1 infoB
  have hq := Lib.run_neq_ptr_same (P := Tryz.prog) w ⟨b, 0, none⟩ Tryz.underlying56 hj
  go_enter Tryz.func81, Tryz.ntmps81
  go_wp2
  go_end0
  exact ⟨rfl, rfl⟩
set_option maxRecDepth 100000 in
set_option maxHeartbeats 1000000 in
theorem cc_new (b : Nat) (w : World) (cs : Array Value) (hcs : cs.size = 3) (hb : Blk w b 62 cs) (h0 : w.cell? ⟨b, 0, none⟩ = some (.pointer none)) :
    Calls Tryz.prog 81 #[self b] w fun e w' => e = .returned (.tuple #[]) ∧ w' = w.setCell ⟨b, 0, none⟩ (self b) := by
  obtain ⟨j, hj, hjs⟩ := Option.map_eq_some_iff.1 infoB
  have hsh := shape_of hb
  rw [hcs] at hsh
  have hfz := hb.frozen 0
  have h1 := Lib.hid (Lib.run_to_unsafe (P := Tryz.prog) w ⟨b, 0, none⟩ Tryz.underlying56 Tryz.underlying118 hj (by rw [hjs]; decide) hsh (by show (0:Nat) < 3; decide))
  have h2 := Lib.hid (Lib.run_from_unsafe (P := Tryz.prog) w ⟨b, 0, none⟩ Tryz.underlying118 Tryz.underlying56 hj hsh liesB)
  clear hb hsh hcs
  go_enter Tryz.func81, Tryz.ntmps81
  go_wp2
  rw [h1.out]
  simp only [Result.andThen]
  rw [Oper.upon_value]
  go_wp2
  rw [run_callFunc_extern Tryz.func89 (by kernel_rfl) (by kernel_rfl) (by kernel_rfl) (e := Extern.AbiNoEscape.same) (by kernel_rfl)]
  rw [Lib.run_noEscape]
  simp only [Result.andThen]
  rw [Oper.upon_value]
  go_wp2
  rw [h2.out]
  simp only [Result.andThen]
  rw [Oper.upon_value]
  go_wp2
  go_end0
  exact ⟨rfl, rfl⟩
/-- What String leaves. -/
def Told (b : Nat) (p v h : Value) (bs : List UInt8) (w : World) (e : Ending) (w' : World) : Prop := e = .returned (.string ⟨bs.toArray⟩) ∧ Blk w' b 62 #[p, v, h] ∧ Own b v bs w' ∧ Below b w w' ∧ ∀ i t cs, t ≠ 5 → Blk w i t cs → Blk w' i t cs
set_option maxRecDepth 100000 in
set_option maxHeartbeats 2000000 in
theorem string_none (b : Nat) (p h : Value) (w : World) (hb : Blk w b 62 #[p, .slice none 0 0, h]) :
    Calls Tryz.prog 52 #[self b] w (Told b p (.slice none 0 0) h [] w) := by
  have c1 := hb.cell 1
  simp at c1
  have mixed : Tryz.prog.follows Departure.mixedOrders = true := by kernel_rfl
  have hUS := fun w => Lib.run_unsafeString_none (P := Tryz.prog) w 101 3 9 none
  have hSD := fun w => Lib.run_unsafeSliceData_nil (P := Tryz.prog) w #[57] 101 0 0
  have HF : Hid (∀ e w', e = .returned (.string ByteArray.empty) ∧ w' = w.drew → Told b p (.slice none 0 0) h [] w e w') := by
    rintro e w' ⟨rfl, rfl⟩
    exact ⟨rfl, hb.drew, Own.nil _ _, (Below.refl _ _).drew, fun _ _ _ _ h => h⟩
  clear hb
  go_enter Tryz.func52, Tryz.ntmps52
  go_wp2
  go_region_o
  all_goals (go_wp2; go_ret; exact HF.out _ _ ⟨rfl, rfl⟩)
set_option maxRecDepth 100000 in
set_option maxHeartbeats 2000000 in
theorem string_some (b g cap : Nat) (p h : Value) (bs : List UInt8) (h0 : bs ≠ []) (w : World) (hb : Blk w b 62 #[p, .slice (some ⟨g, 0, none⟩) bs.length cap, h]) (ho : Own b (.slice (some ⟨g, 0, none⟩) bs.length cap) bs w) :
    Calls Tryz.prog 52 #[self b] w (Told b p (.slice (some ⟨g, 0, none⟩) bs.length cap) h bs w) := by
  have hl0 : bs.length ≠ 0 := by simpa using h0
  obtain ⟨cur, hbg, hg, hnc, hcm, hcs⟩ : ∃ cur, b + 1 ≤ g ∧ w.shape? g = some (5, cur) ∧ bs.length ≤ cap ∧ cap ≤ maxLen ∧ cur = cap := by
    rcases ho.1.2 with ⟨hz, _⟩ | ⟨g', cap', cur, fz, hv, h1, h2, _, h4, h5, h6, _⟩
    · cases hz
    · injection hv with h7 h8 h9
      injection h7 with h7
      injection h7 with h7
      subst h7 h9
      exact ⟨cur.size, h1, by simp [World.shape?, h2], h4, h5, by simpa using h6⟩
  have hgt : ∀ i t cs, t ≠ 5 → Blk w i t cs → g ≠ i := by
    rintro i t cs ht hi rfl
    have := shape_of hi
    rw [hg] at this
    injection this with this
    injection this with this
    exact ht this.symm
  have hcell : ∀ j x, bs[j]? = some x → w.cell? ((⟨g, 0, none⟩ : Addr).add j) = some (.int .u8 x.toNat) := fun j x hx => ho.1.cells (g := g) rfl j (.int .u8 x.toNat) (by simp [Lib.byteCells, hx])
  have c1 := hb.cell 1
  simp at c1
  have mixed : Tryz.prog.follows Departure.mixedOrders = true := by kernel_rfl
  have hUS : (Builtin.unsafeString_ #[101, 3] 9 #[.pointer (some ⟨g, 0, none⟩), .int .i64 bs.length]).run Tryz.prog w.drew = .ok (.string ⟨bs.toArray⟩) (w.drew.freeze ⟨g, 0, none⟩ bs.length) :=
    Lib.run_unsafeString_row (P := Tryz.prog) w.drew 101 3 9 5 Tryz.underlying101 cellsU g cur hg bs h0 (by omega) (by unfold maxLen at hcm; omega) hcell
  have hSD : (Builtin.unsafeSliceData_ #[57] 101 #[.slice (some ⟨g, 0, none⟩) bs.length cap]).run Tryz.prog w.drew = .ok (.pointer (some ⟨g, 0, none⟩)) w.drew :=
    Lib.run_unsafeSliceData_row _ _ _ _ _ _ (by omega)
  have HF : Hid (∀ e w', e = .returned (.string ⟨bs.toArray⟩) ∧ w' = w.drew.freeze ⟨g, 0, none⟩ bs.length → Told b p (.slice (some ⟨g, 0, none⟩) bs.length cap) h bs w e w') := by
    rintro e w' ⟨rfl, rfl⟩
    exact ⟨rfl, Blk.froze hb.drew (by omega), Own.froze (ho.kept (only_drew (World.grownBy.refl w none)) (by simp [Value.ownBlock])), Lib.below_freeze (Below.drew (Below.refl b w)) (p := ⟨g, 0, none⟩) (by show b ≤ g; omega) _, fun i t cs ht hi => Blk.froze hi.drew (hgt i t cs ht hi)⟩
  clear hb ho hcell hg hnc hcm hcs h0 hl0 hgt
  go_enter Tryz.func52, Tryz.ntmps52
  go_wp2
  go_region_o
  all_goals (go_wp2; go_ret; exact HF.out _ _ ⟨rfl, rfl⟩)
theorem string_any (b : Nat) (p v h : Value) (bs : List UInt8) (w : World) (hb : Blk w b 62 #[p, v, h]) (ho : Own b v bs w) :
    Calls Tryz.prog 52 #[self b] w (Told b p v h bs w) := by
  by_cases h0 : bs = []
  · subst h0
    have := ho.2 rfl
    subst this
    exact string_none b p h w hb
  · rcases ho.1.2 with ⟨_, hz⟩ | ⟨g, cap, cur, fz, rfl, _⟩
    · exact absurd (List.eq_nil_of_length_eq_zero hz) h0
    · exact string_some b g cap p h bs h0 w hb ho
end Go.Proofs.YtkbgmdabmebdhaaGreatDoor.oc
