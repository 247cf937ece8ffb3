/- A writer of bytes: what WriteString and each call of its own leave. No condition. -/
import Derived.Test.YtkbgmdabmebdhaaGreatDoorOcW
import Derived.LaidEqlPtr
namespace Go.Proofs.YtkbgmdabmebdhaaGreatDoor.oc
set_option linter.unusedSimpArgs false
set_option linter.unusedVariables false
open Go.ChangeShapes Go.WideShapes Go.ChangeAt Go.RowKit Go.Proofs.Aid
open Go.Lib (byteCells strCells)
/-- What WriteString leaves. -/
def Wrote (b : Nat) (h : Value) (bs : List UInt8) (n : Nat) (w : World) (e : Ending) (w' : World) : Prop := ∃ v', e = .returned (.tuple #[.int .i64 n, .nilIface]) ∧ Blk w' b 62 #[self b, v', h] ∧ Own b v' bs w' ∧ Below b w w'
theorem cc_any (b : Nat) (p v h : Value) (bs : List UInt8) (w : World) (hp : p = .pointer none ∨ p = self b) (hb : Blk w b 62 #[p, v, h]) (ho : Own b v bs w) :
    Calls Tryz.prog 81 #[self b] w (Checked b v h bs w) := by
  rcases hp with rfl | rfl
  · refine (cc_new b w _ rfl hb (by rw [hb.cell]; rfl)).mono ?_
    rintro e w' ⟨rfl, rfl⟩
    exact ⟨rfl, by simpa using hb.set_ 0 (self b), ho.set 0 _, (Below.refl b w).setCell (p := ⟨b, 0, none⟩) (Nat.le_refl _) _⟩
  · refine (cc_used b w (by rw [hb.cell]; rfl)).mono ?_
    rintro e w' ⟨rfl, rfl⟩
    exact ⟨rfl, hb, ho, Below.refl _ _⟩
set_option maxRecDepth 100000 in
set_option maxHeartbeats 2000000 in
theorem writeString_any (b : Nat) (p v h : Value) (bs : List UInt8) (s : ByteArray) (w : World) (hp : p = .pointer none ∨ p = self b) (hb : Blk w b 62 #[p, v, h]) (ho : Own b v bs w) (hlen : bs.length + s.size ≤ 140737488355328) :
    Calls Tryz.prog 69 #[self b, .string s] w (Wrote b h (bs ++ s.data.toList) s.size w) := by
  obtain ⟨i0, hi, hz0, hz1, hz2⟩ := info_parts infoU
  have HC := Lib.hid (cc_any b p v h bs w hp hb ho)
  clear hp hb ho
  go_enter Tryz.func69, Tryz.ntmps69
  go_wp2_with fail
  refine HC.out.mono ?_
  rintro e w1 ⟨rfl, hb, ho, hlow⟩
  have c0 := hb.cell 0
  have c1 := hb.cell 1
  have f1 := hb.frozen 1
  simp at c0 c1
  have HB := Lib.hid hb
  have HO := Lib.hid ho
  have HL := Lib.hid hlow
  have hlt := hb.lt
  clear hb ho hlow
  go_wp2_with (at_builtin; refine Lib.wpList_append_own_stringF _ rfl _ _ 57 9 rfl (b + 1) 5 i0 Tryz.underlying57 Tryz.underlying9 hi hz0 hz1 hz2 _ _ _ rfl HO.out.1 s rfl ?c3 ?c4 ?c5 ?_)
  case c3 => unfold maxLen; omega
  case c4 => omega
  case c5 => omega
  intro v' w2 hown' hgrow hnil
  have hb2 := HB.out.grown hgrow (fun e => HO.out.ne e.symm)
  have d0 := hb2.cell 0
  have d1 := hb2.cell 1
  have g1 := hb2.frozen 1
  simp at d0 d1
  have HF : Hid (Wrote b h (bs ++ s.data.toList) s.size w (.returned (.tuple #[.int .i64 s.size, .nilIface])) (w2.setCell ⟨b, 1, none⟩ v')) := by
    have ho2 : Own b v' (bs ++ s.data.toList) w2 := ⟨by rw [Lib.byteCells_append, List.length_append]; simpa [Lib.strCells_eq] using hown', fun e => by
      rw [List.append_eq_nil_iff] at e
      exact hnil.2 ⟨HO.out.2 e.1, by have := e.2; simpa using congrArg List.length this⟩⟩
    refine ⟨v', rfl, by simpa using hb2.set_ 1 v', ho2.set 1 _, ?_⟩
    exact (HL.out.grown hgrow (by omega) (fun k hk => by have := (HO.out.1.lt k hk).1; omega)).setCell (p := ⟨b, 1, none⟩) (Nat.le_refl _) _
  obtain ⟨ao, n', cap, rfl⟩ : ∃ ao n' cap, v' = .slice ao n' cap := by
    rcases hown'.2 with ⟨hv, _⟩ | ⟨g, cap, cur, fz, hv, _⟩
    · exact ⟨_, _, _, hv⟩
    · exact ⟨_, _, _, hv⟩
  clear hown' hnil hgrow hb2
  go_wp2
  go_ret2
  exact HF.out
/-- A writer that has been written to, and holds bs; a new one. -/
def WAt (b : Nat) (bs : List UInt8) (w : World) : Prop := ∃ v, Blk w b 62 #[self b, v, self b] ∧ Own b v bs w
def WNew (b : Nat) (w : World) : Prop := Blk w b 62 #[.pointer none, .slice none 0 0, .pointer none]
def WOdd (b : Nat) (bs : List UInt8) (w : World) : Prop := ∃ v, Blk w b 62 #[self b, v, .pointer none] ∧ Own b v bs w ∧ bs.length ≤ 140737488355328
def Wr (b : Nat) (bs : List UInt8) (w : World) : Prop := WAt b bs w ∨ (bs = [] ∧ WNew b w) ∨ WOdd b bs w
def Settled (b : Nat) (bs : List UInt8) (w : World) (e : Ending) (w' : World) : Prop := e = .returned (.tuple #[]) ∧ WAt b bs w' ∧ Below b w w'
theorem infoW : (Tryz.prog.info? 62).map (fun i => i.size) = some 3 := by kernel_rfl
theorem eql_self (b : Nat) (w : World) : (binOp .eql 60 (self b) (self b)).run Tryz.prog w = .ok (.bool true) w := by
  obtain ⟨j, hj, _⟩ := Option.map_eq_some_iff.1 infoW
  exact run_eql_ptr_same (P := Tryz.prog) w ⟨b, 0, none⟩ Tryz.underlying60 hj
theorem eql_nil_self (b : Nat) (w : World) : (binOp .eql 60 (.pointer none) (self b)).run Tryz.prog w = .ok (.bool false) w := by
  obtain ⟨j, hj, _⟩ := Option.map_eq_some_iff.1 infoW
  have h : ∀ d : Nat, (Op.equalIn (d + 1) 60 (.pointer none) (.pointer (some ⟨b, 0, none⟩))).run Tryz.prog w = .ok false w := fun d => by
    simp [Op.equalIn, run_underlying Tryz.underlying60, sizeOf, typeInfo, hj]
  simp only [binOp]
  simp [Op.equal, Op.maxDepth, h 9999]
theorem WAt.lt {b : Nat} {bs : List UInt8} {w : World} (h : WAt b bs w) : b < w.heap.size := by obtain ⟨v, hb, _⟩ := h; exact hb.lt
set_option maxRecDepth 100000 in
set_option maxHeartbeats 2000000 in
theorem settle_any (b : Nat) (bs : List UInt8) (w : World) (h : Wr b bs w) :
    Calls Tryz.prog 68 #[self b] w (Settled b bs w) := by
  rcases h with h | ⟨rfl, hn⟩ | ⟨v, hn, ho, hlo⟩
  · have HF : Hid (Settled b bs w (.returned (.tuple #[])) w) := ⟨rfl, h, Below.refl _ _⟩
    obtain ⟨v, hb, ho⟩ := h
    have c2 := hb.cell 2
    simp at c2
    have hq := eql_self b
    clear hb ho
    go_enter Tryz.func68, Tryz.ntmps68
    go_wp2
    go_end0
    exact HF.out
  · unfold WNew at hn
    have hq := eql_nil_self b
    have c2 := hn.cell 2
    simp at c2
    have HS := Lib.hid (string_none b (.pointer none) (.pointer none) w hn)
    clear hn
    go_enter Tryz.func68, Tryz.ntmps68
    go_wp2_with fail
    refine HS.out.mono ?_
    rintro e w1 ⟨rfl, hb, ho, hlow, -⟩
    have f0 := hb.frozen 0
    have f1 := hb.frozen 1
    have c0 := hb.cell 0
    have c1 := hb.cell 1
    simp at c0 c1
    have hb2 := (hb.set_ 0 (.pointer none)).set_ 1 (.slice none 0 0)
    simp at hb2
    have HL := Lib.hid ((hlow.setCell (p := ⟨b, 0, none⟩) (Nat.le_refl _) (.pointer none)).setCell (p := ⟨b, 1, none⟩) (Nat.le_refl _) (.slice none 0 0))
    have HB := Lib.hid hb2
    clear hb ho hlow hb2
    go_wp2_with fail
    refine (writeString_any b (.pointer none) (.slice none 0 0) (.pointer none) [] ⟨#[]⟩ _ (.inl rfl) HB.out (Own.nil _ _) (by decide)).mono ?_
    rintro e w2 ⟨v', rfl, hb3, ho3, hlow3⟩
    have g2 := hb3.frozen 2
    have d2 := hb3.cell 2
    simp at d2
    have HF : Hid (Settled b [] w (.returned (.tuple #[])) (w2.setCell ⟨b, 2, none⟩ (self b))) :=
      ⟨rfl, ⟨v', by simpa using hb3.set_ 2 (self b), ho3.set 2 _⟩, (HL.out.trans hlow3).setCell (p := ⟨b, 2, none⟩) (Nat.le_refl _) _⟩
    clear hb3 ho3 hlow3
    go_wp2
    go_end0
    exact HF.out
  · have hq := eql_nil_self b
    have c2 := hn.cell 2
    simp at c2
    have HS := Lib.hid (string_any b (self b) v (.pointer none) bs w hn ho)
    clear hn ho
    go_enter Tryz.func68, Tryz.ntmps68
    go_wp2_with fail
    refine HS.out.mono ?_
    rintro e w1 ⟨rfl, hb, ho, hlow, -⟩
    have f0 := hb.frozen 0
    have f1 := hb.frozen 1
    have c0 := hb.cell 0
    have c1 := hb.cell 1
    simp at c0 c1
    have hb2 := (hb.set_ 0 (.pointer none)).set_ 1 (.slice none 0 0)
    simp at hb2
    have HL := Lib.hid ((hlow.setCell (p := ⟨b, 0, none⟩) (Nat.le_refl _) (.pointer none)).setCell (p := ⟨b, 1, none⟩) (Nat.le_refl _) (.slice none 0 0))
    have HB := Lib.hid hb2
    clear hb ho hlow hb2
    go_wp2_with fail
    refine (writeString_any b (.pointer none) (.slice none 0 0) (.pointer none) [] ⟨bs.toArray⟩ _ (.inl rfl) HB.out (Own.nil _ _) (by show 0 + bs.toArray.size ≤ _; simpa using hlo)).mono ?_
    rintro e w2 ⟨v', rfl, hb3, ho3, hlow3⟩
    have g2 := hb3.frozen 2
    have d2 := hb3.cell 2
    simp at d2
    have HF : Hid (Settled b bs w (.returned (.tuple #[])) (w2.setCell ⟨b, 2, none⟩ (self b))) :=
      ⟨rfl, ⟨v', by simpa using hb3.set_ 2 (self b), ho3.set 2 _⟩, (HL.out.trans hlow3).setCell (p := ⟨b, 2, none⟩) (Nat.le_refl _) _⟩
    clear hb3 ho3 hlow3
    go_wp2
    go_end0
    exact HF.out
set_option maxRecDepth 100000 in
set_option maxHeartbeats 2000000 in
theorem put_any (b : Nat) (bs : List UInt8) (s : ByteArray) (w : World) (h : Wr b bs w) (hlen : bs.length + s.size ≤ 140737488355328) :
    Calls Tryz.prog 50 #[self b, .string s] w (Settled b (bs ++ s.data.toList) w) := by
  have HS := Lib.hid (settle_any b bs w h)
  clear h
  go_enter Tryz.func50, Tryz.ntmps50
  go_wp2_with fail
  refine HS.out.mono ?_
  rintro e w1 ⟨rfl, ⟨v, hb, ho⟩, hlow⟩
  have HW := Lib.hid (writeString_any b _ v _ bs s w1 (.inr rfl) hb ho hlen)
  have HL := Lib.hid hlow
  clear hb ho hlow
  go_wp2_with fail
  refine HW.out.mono ?_
  rintro e w2 ⟨v', rfl, hb3, ho3, hlow3⟩
  have HF : Hid (Settled b (bs ++ s.data.toList) w (.returned (.tuple #[])) w2) := ⟨rfl, ⟨v', hb3, ho3⟩, HL.out.trans hlow3⟩
  clear hb3 ho3 hlow3
  go_wp2
  go_end0
  exact HF.out
theorem put_nil (s : ByteArray) (w : World) :
    Calls Tryz.prog 50 #[.pointer none, .string s] w fun e w' => e = .returned (.tuple #[]) ∧ w' = w := by
  go_enter Tryz.func50, Tryz.ntmps50
  go_wp2
  exact bodyPost_ret (results_none rfl _ _ _) rfl ⟨rfl, rfl⟩
/-- What Bytes leaves. -/
def Read (b : Nat) (bs : List UInt8) (w : World) (e : Ending) (w' : World) : Prop := e = .returned (.string ⟨bs.toArray⟩) ∧ Wr b bs w' ∧ Below b w w' ∧ ∀ i t cs, t ≠ 5 → Blk w i t cs → Blk w' i t cs
set_option maxHeartbeats 2000000 in
theorem bytes_any (b : Nat) (bs : List UInt8) (w : World) (h : Wr b bs w) :
    Calls Tryz.prog 30 #[self b] w (Read b bs w) := by
  obtain ⟨HS⟩ : Nonempty (Hid (Calls Tryz.prog 52 #[self b] w (Read b bs w))) := by
    refine ⟨Lib.hid ?_⟩
    rcases h with ⟨v, hb, ho⟩ | ⟨rfl, hn⟩ | ⟨v, hb, ho, hlo⟩
    · refine (string_any b _ v _ bs w hb ho).mono ?_
      rintro e w' ⟨rfl, h1, h2, h3, h4⟩
      exact ⟨rfl, .inl ⟨v, h1, h2⟩, h3, h4⟩
    · refine (string_any b _ _ _ [] w hn (Own.nil _ _)).mono ?_
      rintro e w' ⟨rfl, h1, h2, h3, h4⟩
      exact ⟨rfl, .inr (.inl ⟨rfl, h1⟩), h3, h4⟩
    · refine (string_any b _ v _ bs w hb ho).mono ?_
      rintro e w' ⟨rfl, h1, h2, h3, h4⟩
      exact ⟨rfl, .inr (.inr ⟨v, h1, h2, hlo⟩), h3, h4⟩
  clear h
  go_enter Tryz.func30, Tryz.ntmps30
  go_wp2_with fail
  refine HS.out.mono ?_
  rintro e w1 ⟨rfl, h1, h2⟩
  have HF : Hid (Read b bs w (.returned (.string ⟨bs.toArray⟩)) w1) := ⟨rfl, h1, h2⟩
  clear h1 h2
  go_wp2
  go_ret
  exact HF.out
theorem bytes_nil (w : World) : Calls Tryz.prog 30 #[.pointer none] w fun e w' => e = .returned (.string ⟨#[]⟩) ∧ w' = w := by
  go_enter Tryz.func30, Tryz.ntmps30
  go_wp2
  go_ret
  exact ⟨rfl, rfl⟩
theorem Own.below {b : Nat} {v : Value} {bs : List UInt8} {w w' : World} (h : Own b v bs w) (hb : Below w.heap.size w w') : Own b v bs w' := h.kept (only_of_below hb none) (by cases v.ownBlock <;> simp)
theorem Wr.below {b : Nat} {bs : List UInt8} {w w' : World} (h : Wr b bs w) (hb : Below w.heap.size w w') : Wr b bs w' := by
  rcases h with ⟨v, h1, h2⟩ | ⟨e, h1⟩ | ⟨v, h1, h2, h3⟩
  · exact .inl ⟨v, h1.below hb h1.lt, h2.below hb⟩
  · exact .inr (.inl ⟨e, Blk.below h1 hb (Blk.lt h1)⟩)
  · exact .inr (.inr ⟨v, h1.below hb h1.lt, h2.below hb, h3⟩)
theorem Wr.lt {b : Nat} {bs : List UInt8} {w : World} (h : Wr b bs w) : b < w.heap.size := by
  rcases h with h | ⟨_, h⟩ | ⟨_, h, _⟩
  · exact h.lt
  · exact Blk.lt h
  · exact h.lt
end Go.Proofs.YtkbgmdabmebdhaaGreatDoor.oc
