/- What the register of a member has, and the member that a register tells: the walks. -/
import Derived.Test.YtfkjoeibofnnoaaDoorTpA
import Derived.Test.YtfkjoeibofnnoaaDoorKn
namespace Go.Proofs.YtfkjoeibofnnoaaDoor.tp
set_option linter.unusedSimpArgs false
open Go.ChangeShapes Go.WideShapes Go.ChangeAt Go.RowKit Go.Proofs.Aid
open Go.Proofs.YtfkjoeibofnnoaaDoor.name (isName)
open Go.Proofs.YtfkjoeibofnnoaaDoor.nm (Lets joinS partsS PartsIs)
open Go.Proofs.YtfkjoeibofnnoaaDoor.texts (tc)
theorem lit_ne {f : ByteArray} {l : List UInt8} (h : f ≠ ⟨l.toArray⟩) : (f.toList == l) = false := by
  rw [beq_eq_false_iff_ne]
  intro e
  apply h
  apply ByteArray.ext; apply Array.toList_inj.1
  rw [← Lib.toList_data, e]
abbrev zc : Array Value := #[.string ⟨#[]⟩, .string ⟨#[]⟩, .string ⟨#[]⟩, .bool false]
theorem set4 {w : World} {g : Nat} {ty : TypeId} {a0 a1 a2 a3 x y z u : Value} (hb : Blk w g ty #[a0, a1, a2, a3]) : Blk ((((w.setCell ⟨g, 0, none⟩ x).setCell ⟨g, 1, none⟩ y).setCell ⟨g, 2, none⟩ z).setCell ⟨g, 3, none⟩ u) g ty #[x, y, z, u] :=
  (((hb.set_ 0 x).set_ 1 y).set_ 2 z).set_ 3 u
theorem low4 {B : Nat} {W w : World} {g : Nat} (h : Below B W w) (hg : B ≤ g) (x y z u : Value) : Below B W ((((w.setCell ⟨g, 0, none⟩ x).setCell ⟨g, 1, none⟩ y).setCell ⟨g, 2, none⟩ z).setCell ⟨g, 3, none⟩ u) :=
  (((h.setCell (p := ⟨g, 0, none⟩) hg x).setCell (p := ⟨g, 1, none⟩) hg y).setCell (p := ⟨g, 2, none⟩) hg z).setCell (p := ⟨g, 3, none⟩) hg u
theorem far4 {w : World} {g : Nat} {p : Addr} {v : Value} (h : w.cell? p = some v) (hp : p.block ≠ g) (x y z u : Value) : ((((w.setCell ⟨g, 0, none⟩ x).setCell ⟨g, 1, none⟩ y).setCell ⟨g, 2, none⟩ z).setCell ⟨g, 3, none⟩ u).cell? p = some v := by
  have hne : ∀ i, (⟨g, i, none⟩ : Addr) ≠ p := fun i e => hp (by rw [← e])
  rw [World.cell?_setCell_other _ _ _ _ (hne 3), World.cell?_setCell_other _ _ _ _ (hne 2), World.cell?_setCell_other _ _ _ _ (hne 1), World.cell?_setCell_other _ _ _ _ (hne 0)]
  exact h
theorem mem_no {node v : ByteArray} (h : memOk node v = false) : memR node v = .returned (.tuple #[Mb.zero.val, .bool false]) := by simp [memR, mem, h]
theorem mem_yes {node v a b c : ByteArray} (hp : partsS v = [a, b, c]) (h : memOk node v = true) : memR node v = .returned (.tuple #[.agg #[.string node, .string a, .string b, .bool (decide (c = sUp))], .bool true]) := by
  simp [memR, mem, h, memV, hp]
theorem ok_three {node v a b c : ByteArray} (hp : partsS v = [a, b, c]) : memOk node v = (isName node.data.toList && isName a.data.toList && isName b.data.toList && (decide (c = sUp) || decide (c = sDown))) := by
  unfold memOk; rw [hp]
theorem ok_other {node v : ByteArray} (h : (partsS v).length ≠ 3) : memOk node v = false := by
  unfold memOk
  split
  · rename_i a b c e
    rw [e] at h; simp at h
  · rfl
theorem name_ne {s : ByteArray} (h : isName s.data.toList = true) : s ≠ ⟨#[]⟩ := by
  rintro rfl
  exact absurd h (by decide)
/-- What was cut is no cell of a block of empty texts. -/
theorem apart {w : World} {g : Nat} {t : TypeId} {p : Addr} {a : ByteArray} (hb : Blk w g t zc) (h : w.cell? p = some (.string a)) (ha : a ≠ ⟨#[]⟩) : p.block ≠ g := by
  intro e
  have hs := nm.cell_spot h
  obtain ⟨b, o, sp⟩ := p
  subst e
  have : sp = none := hs
  subst this
  rw [hb.cell] at h
  match o, h with
  | 0, h => simp at h; exact ha h.symm
  | 1, h => simp at h; exact ha h.symm
  | 2, h => simp at h; exact ha h.symm
  | 3, h => simp at h
  | o + 4, h => simp at h
set_option maxHeartbeats 2000000 in
theorem value_any (n r z : ByteArray) (u : Bool) (w : World) (hr : r.size ≤ 1000000) (hz : z.size ≤ 1000000) :
    Calls Tryd.prog 16 #[.agg #[.string n, .string r, .string z, .bool u]] w fun e w' => e = valR r z u ∧ Below w.heap.size w w' := by
  have HL := Lib.hid (below_lit w (.cells #[.string n, .string r, .string z, .bool u] 26))
  have HB := Lib.hid (Blk.new w 26 #[.string n, .string r, .string z, .bool u])
  have hI1 := Lib.hid (fun w => name.is_any r w (by unfold maxLen; omega))
  have hI2 := Lib.hid (fun w => name.is_any z w (by unfold maxLen; omega))
  have hV := Lib.hid (show valR r z u = if isName r.data.toList && isName z.data.toList then .returned (.tuple #[.string (valueV r z u), .int .i64 0]) else .returned (.tuple #[.string ⟨#[]⟩, .int .i64 1]) from rfl)
  have hvs := value_size r z u
  go_enter Tryd.func16, Tryd.ntmps16
  have d1 : (w.alloc (.cells #[.string n, .string r, .string z, .bool u] 26)).cell? ⟨w.heap.size, 1, none⟩ = some (.string r) := by rw [HB.out.cell]; rfl
  go_wp2_with fail
  clear d1
  generalize w.alloc (.cells #[.string n, .string r, .string z, .bool u] 26) = w0 at *
  refine (hI1.out w0).mono ?_
  rintro e w1 ⟨rfl, hb⟩
  replace HL := Lib.hid (HL.out.trans (hb.mono HL.out.size))
  replace HB := Lib.hid (HB.out.below hb HB.out.lt)
  clear hb
  cases h1 : isName r.data.toList with
  | false =>
    rw [h1] at hV
    go_wp2
    go_ret2
    exact ⟨hV.out.symm, HL.out⟩
  | true =>
  have d2 : w1.cell? ⟨w.heap.size, 2, none⟩ = some (.string z) := by rw [HB.out.cell]; rfl
  go_wp2_with fail
  refine (hI2.out w1).mono ?_
  rintro e w2 ⟨rfl, hb⟩
  replace HL := Lib.hid (HL.out.trans (hb.mono HL.out.size))
  replace HB := Lib.hid (HB.out.below hb HB.out.lt)
  clear hb d2
  cases h2 : isName z.data.toList with
  | false =>
    rw [h1, h2] at hV
    go_wp2
    go_ret2
    exact ⟨hV.out.symm, HL.out⟩
  | true =>
  rw [h1, h2] at hV
  have d1 : w2.cell? ⟨w.heap.size, 1, none⟩ = some (.string r) := by rw [HB.out.cell]; rfl
  have d2 : w2.cell? ⟨w.heap.size, 2, none⟩ = some (.string z) := by rw [HB.out.cell]; rfl
  have d3 : w2.cell? ⟨w.heap.size, 3, none⟩ = some (.bool u) := by rw [HB.out.cell]; rfl
  have hp := Lib.hid (nm.path_any (w2.alloc (.cells #[.string r, .string z, .string (st u)] 9)) (some ⟨w2.heap.size, 0, none⟩) 3 [r, z, st u] (lit1 (f := tc) w2 9 [r, z, st u] (fun _ => rfl)) (by simp) (by simp) (by
    rw [Array.length_toList]
    show (valueV r z u).size ≤ _
    omega))
  have hl2 := Lib.hid (below_lit w2 (.cells #[.string r, .string z, .string (st u)] 9))
  cases u with
  | false =>
    go_wp2_with fail
    refine hp.out.mono ?_
    rintro e w3 ⟨rfl, hb⟩
    have hlf := Lib.hid (HL.out.trans ((hl2.out.trans (hb.mono (by simp))).mono HL.out.size))
    clear hb
    go_wp2
    go_ret2
    exact ⟨by rw [hV.out]; rfl, hlf.out⟩
  | true =>
    go_wp2_with fail
    refine hp.out.mono ?_
    rintro e w3 ⟨rfl, hb⟩
    have hlf := Lib.hid (HL.out.trans ((hl2.out.trans (hb.mono (by simp))).mono HL.out.size))
    clear hb
    go_wp2
    go_ret2
    exact ⟨by rw [hV.out]; rfl, hlf.out⟩
set_option maxHeartbeats 2000000 in
theorem rvalue_any (n r z : ByteArray) (u : Bool) (w : World) (hr : r.size ≤ 1000000) (hz : z.size ≤ 1000000) :
    Calls Tryd.prog 17 #[.agg #[.string n, .string r, .string z, .bool u]] w fun e w' => e = valR r z u ∧ Below w.heap.size w w' := by
  have HL := Lib.hid (below_lit w (.cells #[.string n, .string r, .string z, .bool u] 26))
  have HB := Lib.hid (Blk.new w 26 #[.string n, .string r, .string z, .bool u])
  have hI1 := Lib.hid (fun w => reg.rname_any r w (by unfold maxLen; omega))
  have hI2 := Lib.hid (fun w => reg.rname_any z w (by unfold maxLen; omega))
  have hV := Lib.hid (show valR r z u = if isName r.data.toList && isName z.data.toList then .returned (.tuple #[.string (valueV r z u), .int .i64 0]) else .returned (.tuple #[.string ⟨#[]⟩, .int .i64 1]) from rfl)
  have hcat := Lib.hid (value_cat r z u)
  have hsu := st_size u
  go_enter Tryd.func17, Tryd.ntmps17
  have d1 : (w.alloc (.cells #[.string n, .string r, .string z, .bool u] 26)).cell? ⟨w.heap.size, 1, none⟩ = some (.string r) := by rw [HB.out.cell]; rfl
  go_wp2_with fail
  clear d1
  generalize w.alloc (.cells #[.string n, .string r, .string z, .bool u] 26) = w0 at *
  have d1 : w0.cell? ⟨w.heap.size, 1, none⟩ = some (.string r) := by rw [HB.out.cell]; rfl
  have d2 : w0.cell? ⟨w.heap.size, 2, none⟩ = some (.string z) := by rw [HB.out.cell]; rfl
  have d3 : w0.cell? ⟨w.heap.size, 3, none⟩ = some (.bool u) := by rw [HB.out.cell]; rfl
  refine (hI1.out w0).mono ?_
  rintro e w1 ⟨rfl, rfl⟩
  cases h1 : isName r.data.toList with
  | false =>
    rw [h1] at hV
    go_wp2
    go_ret2
    exact ⟨hV.out.symm, HL.out⟩
  | true =>
  go_wp2_with fail
  refine (hI2.out _).mono ?_
  rintro e w2 ⟨rfl, rfl⟩
  cases h2 : isName z.data.toList with
  | false =>
    rw [h1, h2] at hV
    go_wp2
    go_ret2
    exact ⟨hV.out.symm, HL.out⟩
  | true =>
  rw [h1, h2] at hV
  cases u with
  | false =>
    have e1 : st false = sDown := rfl
    rw [e1] at hcat
    go_wp2
    go_ret2
    exact ⟨by rw [hV.out, ← hcat.out]; rfl, HL.out⟩
  | true =>
    have e1 : st true = sUp := rfl
    rw [e1] at hcat
    go_wp2
    go_ret2
    exact ⟨by rw [hV.out, ← hcat.out]; rfl, HL.out⟩
set_option maxRecDepth 100000 in
set_option maxHeartbeats 8000000 in
theorem member_any (node v : ByteArray) (w : World) (hn : node.size ≤ 1000000) (hv : v.size ≤ 1000000) (HLt : Hid (Lets w)) :
    Calls Tryd.prog 8 #[.string node, .string v] w fun e w' => e = memR node v ∧ Below w.heap.size w w' := by
  have HL := Lib.hid (below_lit w (.cells zc 26))
  have HB := Lib.hid (Blk.new w 26 zc)
  have hNo := Lib.hid (@mem_no node v)
  have hYes := Lib.hid (fun a b c => @mem_yes node v a b c)
  have hOk := Lib.hid (fun a b c => @ok_three node v a b c)
  have hOt := Lib.hid (@ok_other node v)
  have hIn := Lib.hid (fun w => name.is_any node w (by unfold maxLen; omega))
  go_enter Tryd.func8, Tryd.ntmps8
  go_wp2_with fail
  generalize w.alloc (.cells zc 26) = w0 at *
  refine (nm.parts_any v w0 hv (Lib.hid (HLt.out.next HL.out))).mono ?_
  rintro e w1 ⟨A, cap, rfl, -, hR, hb⟩
  replace HL := Lib.hid (HL.out.trans (hb.mono HL.out.size))
  replace HB := Lib.hid (HB.out.below hb HB.out.lt)
  clear hb
  have hps := nm.partsS_small v
  generalize hP : partsS v = L at *
  have HP := Lib.hid hP
  clear hP
  have HR := Lib.hid hR
  clear hR
  by_cases h3 : L.length = 3
  case neg =>
    have hR2 := Lib.hid (hNo.out (hOt.out h3))
    have h3' : ((L.length : Int) == 3) = false := by rw [beq_eq_false_iff_ne]; omega
    have hbk := HB.out
    have f0 := hbk.frozen 0
    have f1 := hbk.frozen 1
    have f2 := hbk.frozen 2
    have f3 := hbk.frozen 3
    have z0 : w1.cell? ⟨w.heap.size, 0, none⟩ = some (.string ⟨#[]⟩) := by rw [hbk.cell]; rfl
    have z1 : w1.cell? ⟨w.heap.size, 1, none⟩ = some (.string ⟨#[]⟩) := by rw [hbk.cell]; rfl
    have z2 : w1.cell? ⟨w.heap.size, 2, none⟩ = some (.string ⟨#[]⟩) := by rw [hbk.cell]; rfl
    have z3 : w1.cell? ⟨w.heap.size, 3, none⟩ = some (.bool false) := by rw [hbk.cell]; rfl
    have hlf := Lib.hid (low4 HL.out (Nat.le_refl _) (.string ⟨#[]⟩) (.string ⟨#[]⟩) (.string ⟨#[]⟩) (.bool false))
    clear hbk
    go_wp2
    exact bodyPost_ret (v := .tuple #[.agg #[.string ⟨#[]⟩, .string ⟨#[]⟩, .string ⟨#[]⟩, .bool false], .bool false]) (by simp [results, Tryd.results8, go_sem, z0, z1, z2, z3] <;> rfl) rfl ⟨hR2.out.symm, hlf.out⟩
  obtain ⟨a, b, c, rfl⟩ : ∃ a b c, L = [a, b, c] := by
    match L, h3 with
    | [a, b, c], _ => exact ⟨a, b, c, rfl⟩
  have hok := hOk.out a b c rfl
  have hyes := Lib.hid (hYes.out a b c rfl)
  clear hOk hYes hOt h3
  have hza : a.size ≤ 1000001 := by have := hps a (by simp); omega
  have hzb : b.size ≤ 1000001 := by have := hps b (by simp); omega
  have hzc : c.size ≤ 1000001 := by have := hps c (by simp); omega
  clear hps
  have hIa := Lib.hid (fun w => name.is_any a w (by unfold maxLen; omega))
  have hIb := Lib.hid (fun w => name.is_any b w (by unfold maxLen; omega))
  obtain ⟨ad, rfl, -, hat⟩ := HR.out.2 (by simp)
  clear hat
  cases h1 : isName node.data.toList with
  | false =>
    have hR2 := Lib.hid (hNo.out (by rw [hok, h1]; rfl))
    clear hok hyes
    go_wp2_with fail
    refine (hIn.out w1).mono ?_
    rintro e w2 ⟨rfl, hb⟩
    replace HL := Lib.hid (HL.out.trans (hb.mono HL.out.size))
    replace HB := Lib.hid (HB.out.below hb HB.out.lt)
    replace HR := Lib.hid (HR.out.more_below hb)
    clear hb
    rw [h1]
    have hbk := HB.out
    have f0 := hbk.frozen 0
    have f1 := hbk.frozen 1
    have f2 := hbk.frozen 2
    have f3 := hbk.frozen 3
    have z0 : w2.cell? ⟨w.heap.size, 0, none⟩ = some (.string ⟨#[]⟩) := by rw [hbk.cell]; rfl
    have z1 : w2.cell? ⟨w.heap.size, 1, none⟩ = some (.string ⟨#[]⟩) := by rw [hbk.cell]; rfl
    have z2 : w2.cell? ⟨w.heap.size, 2, none⟩ = some (.string ⟨#[]⟩) := by rw [hbk.cell]; rfl
    have z3 : w2.cell? ⟨w.heap.size, 3, none⟩ = some (.bool false) := by rw [hbk.cell]; rfl
    have hlf := Lib.hid (low4 HL.out (Nat.le_refl _) (.string ⟨#[]⟩) (.string ⟨#[]⟩) (.string ⟨#[]⟩) (.bool false))
    clear hbk
    go_wp2
    exact bodyPost_ret (v := .tuple #[.agg #[.string ⟨#[]⟩, .string ⟨#[]⟩, .string ⟨#[]⟩, .bool false], .bool false]) (by simp [results, Tryd.results8, go_sem, z0, z1, z2, z3] <;> rfl) rfl ⟨hR2.out.symm, hlf.out⟩
  | true =>
  go_wp2_with fail
  refine (hIn.out w1).mono ?_
  rintro e w2 ⟨rfl, hb⟩
  replace HL := Lib.hid (HL.out.trans (hb.mono HL.out.size))
  replace HB := Lib.hid (HB.out.below hb HB.out.lt)
  replace HR := Lib.hid (HR.out.more_below hb)
  clear hb
  rw [h1]
  have hat : ∀ j u, ([a, b, c].flatMap tc)[j]? = some u → w2.cell? (ad.add j) = some u := fun j u hu => by
    obtain ⟨ad', e', -, h'⟩ := HR.out.2 (by simp)
    injection e' with e'; subst e'; exact h' j u hu
  have c0 : w2.cell? ad = some (.string a) := by have := hat 0 _ rfl; simpa [Addr.add] using this
  have c1 : w2.cell? ⟨ad.block, ad.off + 1, none⟩ = some (.string b) := by have := hat 1 _ rfl; simpa [Addr.add] using this
  have c2 : w2.cell? ⟨ad.block, ad.off + 2, none⟩ = some (.string c) := by have := hat 2 _ rfl; simpa [Addr.add] using this
  clear hat
  cases h2 : isName a.data.toList with
  | false =>
    have hR2 := Lib.hid (hNo.out (by rw [hok, h1, h2]; rfl))
    clear hok hyes
    go_wp2_with fail
    refine (hIa.out _).mono ?_
    rintro e w3 ⟨rfl, hb⟩
    replace HL := Lib.hid (HL.out.trans (hb.mono HL.out.size))
    replace HB := Lib.hid (HB.out.below hb HB.out.lt)
    replace HR := Lib.hid (HR.out.more_below hb)
    clear hb
    rw [h2]
    clear c0 c1 c2
    have hbk := HB.out
    have f0 := hbk.frozen 0
    have f1 := hbk.frozen 1
    have f2 := hbk.frozen 2
    have f3 := hbk.frozen 3
    have z0 : w3.cell? ⟨w.heap.size, 0, none⟩ = some (.string ⟨#[]⟩) := by rw [hbk.cell]; rfl
    have z1 : w3.cell? ⟨w.heap.size, 1, none⟩ = some (.string ⟨#[]⟩) := by rw [hbk.cell]; rfl
    have z2 : w3.cell? ⟨w.heap.size, 2, none⟩ = some (.string ⟨#[]⟩) := by rw [hbk.cell]; rfl
    have z3 : w3.cell? ⟨w.heap.size, 3, none⟩ = some (.bool false) := by rw [hbk.cell]; rfl
    have hlf := Lib.hid (low4 HL.out (Nat.le_refl _) (.string ⟨#[]⟩) (.string ⟨#[]⟩) (.string ⟨#[]⟩) (.bool false))
    clear hbk
    go_wp2
    exact bodyPost_ret (v := .tuple #[.agg #[.string ⟨#[]⟩, .string ⟨#[]⟩, .string ⟨#[]⟩, .bool false], .bool false]) (by simp [results, Tryd.results8, go_sem, z0, z1, z2, z3] <;> rfl) rfl ⟨hR2.out.symm, hlf.out⟩
  | true =>
  go_wp2_with fail
  refine (hIa.out _).mono ?_
  rintro e w3 ⟨rfl, hb⟩
  replace HL := Lib.hid (HL.out.trans (hb.mono HL.out.size))
  replace HB := Lib.hid (HB.out.below hb HB.out.lt)
  replace HR := Lib.hid (HR.out.more_below hb)
  clear hb
  rw [h2]
  clear c0 c1 c2
  have hat : ∀ j u, ([a, b, c].flatMap tc)[j]? = some u → w3.cell? (ad.add j) = some u := fun j u hu => by
    obtain ⟨ad', e', -, h'⟩ := HR.out.2 (by simp)
    injection e' with e'; subst e'; exact h' j u hu
  have c0 : w3.cell? ad = some (.string a) := by have := hat 0 _ rfl; simpa [Addr.add] using this
  have c1 : w3.cell? ⟨ad.block, ad.off + 1, none⟩ = some (.string b) := by have := hat 1 _ rfl; simpa [Addr.add] using this
  have c2 : w3.cell? ⟨ad.block, ad.off + 2, none⟩ = some (.string c) := by have := hat 2 _ rfl; simpa [Addr.add] using this
  clear hat
  cases h4 : isName b.data.toList with
  | false =>
    have hR2 := Lib.hid (hNo.out (by rw [hok, h1, h2, h4]; rfl))
    clear hok hyes
    go_wp2_with fail
    refine (hIb.out _).mono ?_
    rintro e w4 ⟨rfl, hb⟩
    replace HL := Lib.hid (HL.out.trans (hb.mono HL.out.size))
    replace HB := Lib.hid (HB.out.below hb HB.out.lt)
    replace HR := Lib.hid (HR.out.more_below hb)
    clear hb
    rw [h4]
    clear c0 c1 c2
    have hbk := HB.out
    have f0 := hbk.frozen 0
    have f1 := hbk.frozen 1
    have f2 := hbk.frozen 2
    have f3 := hbk.frozen 3
    have z0 : w4.cell? ⟨w.heap.size, 0, none⟩ = some (.string ⟨#[]⟩) := by rw [hbk.cell]; rfl
    have z1 : w4.cell? ⟨w.heap.size, 1, none⟩ = some (.string ⟨#[]⟩) := by rw [hbk.cell]; rfl
    have z2 : w4.cell? ⟨w.heap.size, 2, none⟩ = some (.string ⟨#[]⟩) := by rw [hbk.cell]; rfl
    have z3 : w4.cell? ⟨w.heap.size, 3, none⟩ = some (.bool false) := by rw [hbk.cell]; rfl
    have hlf := Lib.hid (low4 HL.out (Nat.le_refl _) (.string ⟨#[]⟩) (.string ⟨#[]⟩) (.string ⟨#[]⟩) (.bool false))
    clear hbk
    go_wp2
    exact bodyPost_ret (v := .tuple #[.agg #[.string ⟨#[]⟩, .string ⟨#[]⟩, .string ⟨#[]⟩, .bool false], .bool false]) (by simp [results, Tryd.results8, go_sem, z0, z1, z2, z3] <;> rfl) rfl ⟨hR2.out.symm, hlf.out⟩
  | true =>
  go_wp2_with fail
  refine (hIb.out _).mono ?_
  rintro e w4 ⟨rfl, hb⟩
  replace HL := Lib.hid (HL.out.trans (hb.mono HL.out.size))
  replace HB := Lib.hid (HB.out.below hb HB.out.lt)
  replace HR := Lib.hid (HR.out.more_below hb)
  clear hb
  rw [h4]
  clear c0 c1 c2
  have hat : ∀ j u, ([a, b, c].flatMap tc)[j]? = some u → w4.cell? (ad.add j) = some u := fun j u hu => by
    obtain ⟨ad', e', -, h'⟩ := HR.out.2 (by simp)
    injection e' with e'; subst e'; exact h' j u hu
  have c0 : w4.cell? ad = some (.string a) := by have := hat 0 _ rfl; simpa [Addr.add] using this
  have c1 : w4.cell? ⟨ad.block, ad.off + 1, none⟩ = some (.string b) := by have := hat 1 _ rfl; simpa [Addr.add] using this
  have c2 : w4.cell? ⟨ad.block, ad.off + 2, none⟩ = some (.string c) := by have := hat 2 _ rfl; simpa [Addr.add] using this
  clear hat
  have hna := name_ne h2
  have hap := apart HB.out c0 hna
  rw [h1, h2, h4] at hok
  simp only [Bool.true_and] at hok
  clear hna h1 h2 h4
  by_cases hu : c = sUp
  · subst hu
    have hR2 := Lib.hid (hyes.out (by rw [hok]; decide))
    clear hok hyes
    have hbk := HB.out
    have f0 := hbk.frozen 0
    have f1 := hbk.frozen 1
    have f2 := hbk.frozen 2
    have f3 := hbk.frozen 3
    have z0 : w4.cell? ⟨w.heap.size, 0, none⟩ = some (.string ⟨#[]⟩) := by rw [hbk.cell]; rfl
    have z1 : w4.cell? ⟨w.heap.size, 1, none⟩ = some (.string ⟨#[]⟩) := by rw [hbk.cell]; rfl
    have z2 : w4.cell? ⟨w.heap.size, 2, none⟩ = some (.string ⟨#[]⟩) := by rw [hbk.cell]; rfl
    have z3 : w4.cell? ⟨w.heap.size, 3, none⟩ = some (.bool false) := by rw [hbk.cell]; rfl
    have h8 := Lib.hid (set4 (x := .string node) (y := .string a) (z := .string b) (u := .bool true) hbk)
    have hlf := Lib.hid (low4 HL.out (Nat.le_refl _) (.string node) (.string a) (.string b) (.bool true))
    have hkp := And.intro (far4 c0 hap (.string node) (.string a) (.string b) (.bool true)) (And.intro (far4 (p := ⟨ad.block, ad.off + 1, none⟩) c1 hap (.string node) (.string a) (.string b) (.bool true)) (far4 (p := ⟨ad.block, ad.off + 2, none⟩) c2 hap (.string node) (.string a) (.string b) (.bool true)))
    have test : w4.drew.cell? ad = some (.string a) ∧ w4.drew.cell? ⟨ad.block, ad.off + 1, none⟩ = some (.string b) ∧ w4.drew.cell? ⟨ad.block, ad.off + 2, none⟩ = some (.string sUp) := ⟨c0, c1, c2⟩
    have g0 : w4.drew.frozen? ⟨w.heap.size, 0, none⟩ = false := f0
    have g1 : w4.drew.frozen? ⟨w.heap.size, 1, none⟩ = false := f1
    have g2 : w4.drew.frozen? ⟨w.heap.size, 2, none⟩ = false := f2
    have g3 : w4.drew.frozen? ⟨w.heap.size, 3, none⟩ = false := f3
    have y0 : w4.drew.cell? ⟨w.heap.size, 0, none⟩ = some (.string ⟨#[]⟩) := z0
    have y1 : w4.drew.cell? ⟨w.heap.size, 1, none⟩ = some (.string ⟨#[]⟩) := z1
    have y2 : w4.drew.cell? ⟨w.heap.size, 2, none⟩ = some (.string ⟨#[]⟩) := z2
    have y3 : w4.drew.cell? ⟨w.heap.size, 3, none⟩ = some (.bool false) := z3
    clear hbk
    go_wp2_with fail
    refine wp_region_held_drew (S := (fun w' => w'.cell? ad = some (.string a) ∧ w'.cell? ⟨ad.block, ad.off + 1, none⟩ = some (.string b) ∧ w'.cell? ⟨ad.block, ad.off + 2, none⟩ = some (.string sUp))) (by kernel_rfl) ?_ (fun hHeldp0 => ?_)
    · exact test
    refine wpAnyH_take (i := 0) (v := ?vp0) ops0 (by kernel_rfl) (by kernel_rfl) (by kernel_rfl) (fun _ _ _ h => h) (Or.inl ⟨by rfl, ?yp0⟩) hHeldp0 ?_
    case yp0 => (intro w hSw; (try dsimp only at hSw); go_simp; try (with_reducible rfl))
    try simp only [Act.put, List.setIfInBounds_toArray, List.set_cons_zero, List.set_cons_succ]
    refine wpAnyH_take (i := 1) (v := ?vp1) (opsS ops0) (by kernel_rfl) (by kernel_rfl) (by kernel_rfl) (fun _ _ _ h => h) (Or.inl ⟨by rfl, ?yp1⟩) hHeldp0 ?_
    case yp1 => (intro w hSw; (try dsimp only at hSw); go_simp; try (with_reducible rfl))
    try simp only [Act.put, List.setIfInBounds_toArray, List.set_cons_zero, List.set_cons_succ]
    refine wpAnyH_take (i := 2) (v := ?vp2) (opsS (opsS ops0)) (by kernel_rfl) (by kernel_rfl) (by kernel_rfl) (fun _ _ _ h => h) (Or.inl ⟨by rfl, ?yp2⟩) hHeldp0 ?_
    case yp2 => (intro w hSw; (try dsimp only at hSw); go_simp; try (with_reducible rfl))
    try simp only [Act.put, List.setIfInBounds_toArray, List.set_cons_zero, List.set_cons_succ]
    refine wpAnyH_take (i := 3) (v := ?vp3) (opsS (opsS (opsS ops0))) (by kernel_rfl) (by kernel_rfl) (by kernel_rfl) (fun _ _ _ h => h) (Or.inl ⟨by rfl, ?yp3⟩) hHeldp0 ?_
    case yp3 => (intro w hSw; (try dsimp only at hSw); go_simp; try (with_reducible rfl))
    try simp only [Act.put, List.setIfInBounds_toArray, List.set_cons_zero, List.set_cons_succ]
    refine wpAnyH_take (i := 4) (v := ?vp4) (opsS (opsS (opsS (opsS ops0)))) (by kernel_rfl) (by kernel_rfl) (by kernel_rfl) (fun _ _ _ h => h) (Or.inl ⟨by rfl, ?yp4⟩) hHeldp0 ?_
    case yp4 => (intro w hSw; (try dsimp only at hSw); go_simp; try (with_reducible rfl))
    try simp only [Act.put, List.setIfInBounds_toArray, List.set_cons_zero, List.set_cons_succ]
    refine wpAnyH_take (i := 5) (v := ?vp5) (opsS (opsS (opsS (opsS (opsS ops0))))) (by kernel_rfl) (by kernel_rfl) (by kernel_rfl) (fun _ _ _ h => h) (Or.inl ⟨by rfl, ?yp5⟩) hHeldp0 ?_
    case yp5 => (intro w hSw; (try dsimp only at hSw); go_simp; try (with_reducible rfl))
    try simp only [Act.put, List.setIfInBounds_toArray, List.set_cons_zero, List.set_cons_succ]
    refine wpAnyH_take (i := 6) (v := ?vp6) (opsS (opsS (opsS (opsS (opsS (opsS ops0)))))) (by kernel_rfl) (by kernel_rfl) (by kernel_rfl) (fun _ _ _ h => h) (Or.inl ⟨by rfl, ?yp6⟩) hHeldp0 ?_
    case yp6 => (intro w hSw; (try dsimp only at hSw); go_simp; try (with_reducible rfl))
    try simp only [Act.put, List.setIfInBounds_toArray, List.set_cons_zero, List.set_cons_succ]
    refine wpAnyH_take (i := 7) (v := ?vp7) (opsS (opsS (opsS (opsS (opsS (opsS (opsS ops0))))))) (by kernel_rfl) (by kernel_rfl) (by kernel_rfl) (fun _ _ _ h => h) (Or.inl ⟨by rfl, ?yp7⟩) hHeldp0 ?_
    case yp7 => (intro w hSw; (try dsimp only at hSw); go_simp; try (with_reducible rfl))
    try simp only [Act.put, List.setIfInBounds_toArray, List.set_cons_zero, List.set_cons_succ]
    refine wpAnyH_take (i := 8) (v := ?vp8) (opsS (opsS (opsS (opsS (opsS (opsS (opsS (opsS ops0)))))))) (by kernel_rfl) (by kernel_rfl) (by kernel_rfl) (fun _ _ _ h => h) (Or.inl ⟨by rfl, ?yp8⟩) hHeldp0 ?_
    case yp8 => (intro w hSw; (try dsimp only at hSw); go_simp; try (with_reducible rfl))
    try simp only [Act.put, List.setIfInBounds_toArray, List.set_cons_zero, List.set_cons_succ]
    refine wpAnyH_take (i := 9) (v := ?vp9) (opsS (opsS (opsS (opsS (opsS (opsS (opsS (opsS (opsS ops0))))))))) (by kernel_rfl) (by kernel_rfl) (by kernel_rfl) (fun _ _ _ h => h) (Or.inl ⟨by rfl, ?yp9⟩) hHeldp0 ?_
    case yp9 => (intro w hSw; (try dsimp only at hSw); go_simp; try (with_reducible rfl))
    try simp only [Act.put, List.setIfInBounds_toArray, List.set_cons_zero, List.set_cons_succ]
    refine wpAnyH_take (i := 10) (v := ?vp10) (opsS (opsS (opsS (opsS (opsS (opsS (opsS (opsS (opsS (opsS ops0)))))))))) (by kernel_rfl) (by kernel_rfl) (by kernel_rfl) (fun _ _ _ h => h) (Or.inl ⟨by rfl, ?yp10⟩) hHeldp0 ?_
    case yp10 => (intro w hSw; (try dsimp only at hSw); go_simp; try (with_reducible rfl))
    try simp only [Act.put, List.setIfInBounds_toArray, List.set_cons_zero, List.set_cons_succ]
    refine wpAnyH_take (i := 11) (v := ?vp11) (opsS (opsS (opsS (opsS (opsS (opsS (opsS (opsS (opsS (opsS (opsS ops0))))))))))) (by kernel_rfl) (by kernel_rfl) (by kernel_rfl) (fun _ _ _ h => h) (Or.inl ⟨by rfl, ?yp11⟩) hHeldp0 ?_
    case yp11 => (intro w hSw; (try dsimp only at hSw); go_simp; try (with_reducible rfl))
    try simp only [Act.put, List.setIfInBounds_toArray, List.set_cons_zero, List.set_cons_succ]
    refine wpAnyH_ready (rs := [12]) (by kernel_rfl) (by simp) ?_
    refine AllReadyH.cons (opsS (opsS (opsS (opsS (opsS (opsS (opsS (opsS (opsS (opsS (opsS (opsS ops0)))))))))))) (fun K hK => ?_) AllReadyH.nil
    go_simp
    skip
    try dsimp only
    refine hK.out _ _ ?_ (fun hHeldp1 => ?_)
    · (first | assumption | exact hkp)
    clear hK K hHeldp0
    try clear hb
    try simp only [Act.put, List.setIfInBounds_toArray, List.set_cons_zero, List.set_cons_succ]
    refine wpAnyH_take (i := 13) (v := ?vp13) (opsS (opsS (opsS (opsS (opsS (opsS (opsS (opsS (opsS (opsS (opsS (opsS (opsS ops0))))))))))))) (by kernel_rfl) (by kernel_rfl) (by kernel_rfl) (fun _ _ _ h => h) (Or.inl ⟨by rfl, ?yp13⟩) hHeldp1 ?_
    case yp13 => (intro w hSw; (try dsimp only at hSw); go_simp; try (with_reducible rfl))
    try simp only [Act.put, List.setIfInBounds_toArray, List.set_cons_zero, List.set_cons_succ]
    refine wpAnyH_done (by kernel_rfl) ?_ _
    clear hHeldp1 test hkp c0 c1 c2 f0 f1 f2 f3 g0 g1 g2 g3 z0 z1 z2 z3 y0 y1 y2 y3
    go_wp2
    exact bodyPost_ret (v := .tuple #[.agg #[.string node, .string a, .string b, .bool true], .bool true]) (by have r0 := h8.out.cell 0; have r1 := h8.out.cell 1; have r2 := h8.out.cell 2; have r3 := h8.out.cell 3; simp [results, Tryd.results8, go_sem, r0, r1, r2, r3]) rfl ⟨by rw [hR2.out]; rfl, hlf.out.drew⟩
  · by_cases hd : c = sDown
    · subst hd
      have hR2 := Lib.hid (hyes.out (by rw [hok]; decide))
      clear hok hyes
      have hbk := HB.out
      have f0 := hbk.frozen 0
      have f1 := hbk.frozen 1
      have f2 := hbk.frozen 2
      have f3 := hbk.frozen 3
      have z0 : w4.cell? ⟨w.heap.size, 0, none⟩ = some (.string ⟨#[]⟩) := by rw [hbk.cell]; rfl
      have z1 : w4.cell? ⟨w.heap.size, 1, none⟩ = some (.string ⟨#[]⟩) := by rw [hbk.cell]; rfl
      have z2 : w4.cell? ⟨w.heap.size, 2, none⟩ = some (.string ⟨#[]⟩) := by rw [hbk.cell]; rfl
      have z3 : w4.cell? ⟨w.heap.size, 3, none⟩ = some (.bool false) := by rw [hbk.cell]; rfl
      have h8 := Lib.hid (set4 (x := .string node) (y := .string a) (z := .string b) (u := .bool false) hbk)
      have hlf := Lib.hid (low4 HL.out (Nat.le_refl _) (.string node) (.string a) (.string b) (.bool false))
      have hkp := And.intro (far4 c0 hap (.string node) (.string a) (.string b) (.bool false)) (And.intro (far4 (p := ⟨ad.block, ad.off + 1, none⟩) c1 hap (.string node) (.string a) (.string b) (.bool false)) (far4 (p := ⟨ad.block, ad.off + 2, none⟩) c2 hap (.string node) (.string a) (.string b) (.bool false)))
      have test : w4.drew.cell? ad = some (.string a) ∧ w4.drew.cell? ⟨ad.block, ad.off + 1, none⟩ = some (.string b) ∧ w4.drew.cell? ⟨ad.block, ad.off + 2, none⟩ = some (.string sDown) := ⟨c0, c1, c2⟩
      have g0 : w4.drew.frozen? ⟨w.heap.size, 0, none⟩ = false := f0
      have g1 : w4.drew.frozen? ⟨w.heap.size, 1, none⟩ = false := f1
      have g2 : w4.drew.frozen? ⟨w.heap.size, 2, none⟩ = false := f2
      have g3 : w4.drew.frozen? ⟨w.heap.size, 3, none⟩ = false := f3
      have y0 : w4.drew.cell? ⟨w.heap.size, 0, none⟩ = some (.string ⟨#[]⟩) := z0
      have y1 : w4.drew.cell? ⟨w.heap.size, 1, none⟩ = some (.string ⟨#[]⟩) := z1
      have y2 : w4.drew.cell? ⟨w.heap.size, 2, none⟩ = some (.string ⟨#[]⟩) := z2
      have y3 : w4.drew.cell? ⟨w.heap.size, 3, none⟩ = some (.bool false) := z3
      clear hbk
      go_wp2_with fail
      refine wp_region_held_drew (S := (fun w' => w'.cell? ad = some (.string a) ∧ w'.cell? ⟨ad.block, ad.off + 1, none⟩ = some (.string b) ∧ w'.cell? ⟨ad.block, ad.off + 2, none⟩ = some (.string sDown))) (by kernel_rfl) ?_ (fun hHeldq0 => ?_)
      · exact test
      refine wpAnyH_take (i := 0) (v := ?vq0) ops0 (by kernel_rfl) (by kernel_rfl) (by kernel_rfl) (fun _ _ _ h => h) (Or.inl ⟨by rfl, ?yq0⟩) hHeldq0 ?_
      case yq0 => (intro w hSw; (try dsimp only at hSw); go_simp; try (with_reducible rfl))
      try simp only [Act.put, List.setIfInBounds_toArray, List.set_cons_zero, List.set_cons_succ]
      refine wpAnyH_take (i := 1) (v := ?vq1) (opsS ops0) (by kernel_rfl) (by kernel_rfl) (by kernel_rfl) (fun _ _ _ h => h) (Or.inl ⟨by rfl, ?yq1⟩) hHeldq0 ?_
      case yq1 => (intro w hSw; (try dsimp only at hSw); go_simp; try (with_reducible rfl))
      try simp only [Act.put, List.setIfInBounds_toArray, List.set_cons_zero, List.set_cons_succ]
      refine wpAnyH_take (i := 2) (v := ?vq2) (opsS (opsS ops0)) (by kernel_rfl) (by kernel_rfl) (by kernel_rfl) (fun _ _ _ h => h) (Or.inl ⟨by rfl, ?yq2⟩) hHeldq0 ?_
      case yq2 => (intro w hSw; (try dsimp only at hSw); go_simp; try (with_reducible rfl))
      try simp only [Act.put, List.setIfInBounds_toArray, List.set_cons_zero, List.set_cons_succ]
      refine wpAnyH_take (i := 3) (v := ?vq3) (opsS (opsS (opsS ops0))) (by kernel_rfl) (by kernel_rfl) (by kernel_rfl) (fun _ _ _ h => h) (Or.inl ⟨by rfl, ?yq3⟩) hHeldq0 ?_
      case yq3 => (intro w hSw; (try dsimp only at hSw); go_simp; try (with_reducible rfl))
      try simp only [Act.put, List.setIfInBounds_toArray, List.set_cons_zero, List.set_cons_succ]
      refine wpAnyH_take (i := 4) (v := ?vq4) (opsS (opsS (opsS (opsS ops0)))) (by kernel_rfl) (by kernel_rfl) (by kernel_rfl) (fun _ _ _ h => h) (Or.inl ⟨by rfl, ?yq4⟩) hHeldq0 ?_
      case yq4 => (intro w hSw; (try dsimp only at hSw); go_simp; try (with_reducible rfl))
      try simp only [Act.put, List.setIfInBounds_toArray, List.set_cons_zero, List.set_cons_succ]
      refine wpAnyH_take (i := 5) (v := ?vq5) (opsS (opsS (opsS (opsS (opsS ops0))))) (by kernel_rfl) (by kernel_rfl) (by kernel_rfl) (fun _ _ _ h => h) (Or.inl ⟨by rfl, ?yq5⟩) hHeldq0 ?_
      case yq5 => (intro w hSw; (try dsimp only at hSw); go_simp; try (with_reducible rfl))
      try simp only [Act.put, List.setIfInBounds_toArray, List.set_cons_zero, List.set_cons_succ]
      refine wpAnyH_take (i := 6) (v := ?vq6) (opsS (opsS (opsS (opsS (opsS (opsS ops0)))))) (by kernel_rfl) (by kernel_rfl) (by kernel_rfl) (fun _ _ _ h => h) (Or.inl ⟨by rfl, ?yq6⟩) hHeldq0 ?_
      case yq6 => (intro w hSw; (try dsimp only at hSw); go_simp; try (with_reducible rfl))
      try simp only [Act.put, List.setIfInBounds_toArray, List.set_cons_zero, List.set_cons_succ]
      refine wpAnyH_take (i := 7) (v := ?vq7) (opsS (opsS (opsS (opsS (opsS (opsS (opsS ops0))))))) (by kernel_rfl) (by kernel_rfl) (by kernel_rfl) (fun _ _ _ h => h) (Or.inl ⟨by rfl, ?yq7⟩) hHeldq0 ?_
      case yq7 => (intro w hSw; (try dsimp only at hSw); go_simp; try (with_reducible rfl))
      try simp only [Act.put, List.setIfInBounds_toArray, List.set_cons_zero, List.set_cons_succ]
      refine wpAnyH_take (i := 8) (v := ?vq8) (opsS (opsS (opsS (opsS (opsS (opsS (opsS (opsS ops0)))))))) (by kernel_rfl) (by kernel_rfl) (by kernel_rfl) (fun _ _ _ h => h) (Or.inl ⟨by rfl, ?yq8⟩) hHeldq0 ?_
      case yq8 => (intro w hSw; (try dsimp only at hSw); go_simp; try (with_reducible rfl))
      try simp only [Act.put, List.setIfInBounds_toArray, List.set_cons_zero, List.set_cons_succ]
      refine wpAnyH_take (i := 9) (v := ?vq9) (opsS (opsS (opsS (opsS (opsS (opsS (opsS (opsS (opsS ops0))))))))) (by kernel_rfl) (by kernel_rfl) (by kernel_rfl) (fun _ _ _ h => h) (Or.inl ⟨by rfl, ?yq9⟩) hHeldq0 ?_
      case yq9 => (intro w hSw; (try dsimp only at hSw); go_simp; try (with_reducible rfl))
      try simp only [Act.put, List.setIfInBounds_toArray, List.set_cons_zero, List.set_cons_succ]
      refine wpAnyH_take (i := 10) (v := ?vq10) (opsS (opsS (opsS (opsS (opsS (opsS (opsS (opsS (opsS (opsS ops0)))))))))) (by kernel_rfl) (by kernel_rfl) (by kernel_rfl) (fun _ _ _ h => h) (Or.inl ⟨by rfl, ?yq10⟩) hHeldq0 ?_
      case yq10 => (intro w hSw; (try dsimp only at hSw); go_simp; try (with_reducible rfl))
      try simp only [Act.put, List.setIfInBounds_toArray, List.set_cons_zero, List.set_cons_succ]
      refine wpAnyH_take (i := 11) (v := ?vq11) (opsS (opsS (opsS (opsS (opsS (opsS (opsS (opsS (opsS (opsS (opsS ops0))))))))))) (by kernel_rfl) (by kernel_rfl) (by kernel_rfl) (fun _ _ _ h => h) (Or.inl ⟨by rfl, ?yq11⟩) hHeldq0 ?_
      case yq11 => (intro w hSw; (try dsimp only at hSw); go_simp; try (with_reducible rfl))
      try simp only [Act.put, List.setIfInBounds_toArray, List.set_cons_zero, List.set_cons_succ]
      refine wpAnyH_ready (rs := [12]) (by kernel_rfl) (by simp) ?_
      refine AllReadyH.cons (opsS (opsS (opsS (opsS (opsS (opsS (opsS (opsS (opsS (opsS (opsS (opsS ops0)))))))))))) (fun K hK => ?_) AllReadyH.nil
      go_simp
      skip
      try dsimp only
      refine hK.out _ _ ?_ (fun hHeldq1 => ?_)
      · (first | assumption | exact hkp)
      clear hK K hHeldq0
      try clear hb
      try simp only [Act.put, List.setIfInBounds_toArray, List.set_cons_zero, List.set_cons_succ]
      refine wpAnyH_take (i := 13) (v := ?vq13) (opsS (opsS (opsS (opsS (opsS (opsS (opsS (opsS (opsS (opsS (opsS (opsS (opsS ops0))))))))))))) (by kernel_rfl) (by kernel_rfl) (by kernel_rfl) (fun _ _ _ h => h) (Or.inl ⟨by rfl, ?yq13⟩) hHeldq1 ?_
      case yq13 => (intro w hSw; (try dsimp only at hSw); go_simp; try (with_reducible rfl))
      try simp only [Act.put, List.setIfInBounds_toArray, List.set_cons_zero, List.set_cons_succ]
      refine wpAnyH_done (by kernel_rfl) ?_ _
      clear hHeldq1 test hkp c0 c1 c2 f0 f1 f2 f3 g0 g1 g2 g3 z0 z1 z2 z3 y0 y1 y2 y3
      go_wp2
      exact bodyPost_ret (v := .tuple #[.agg #[.string node, .string a, .string b, .bool false], .bool true]) (by have r0 := h8.out.cell 0; have r1 := h8.out.cell 1; have r2 := h8.out.cell 2; have r3 := h8.out.cell 3; simp [results, Tryd.results8, go_sem, r0, r1, r2, r3]) rfl ⟨by rw [hR2.out]; rfl, hlf.out.drew⟩
    · have hR2 := Lib.hid (hNo.out (by rw [hok]; simp [hu, hd]))
      have b0 := lit_ne (l := [117, 112]) hu
      have b1 := lit_ne (l := [100, 111, 119, 110]) hd
      clear hok hyes hu hd
      have hbk := HB.out
      have f0 := hbk.frozen 0
      have f1 := hbk.frozen 1
      have f2 := hbk.frozen 2
      have f3 := hbk.frozen 3
      have z0 : w4.cell? ⟨w.heap.size, 0, none⟩ = some (.string ⟨#[]⟩) := by rw [hbk.cell]; rfl
      have z1 : w4.cell? ⟨w.heap.size, 1, none⟩ = some (.string ⟨#[]⟩) := by rw [hbk.cell]; rfl
      have z2 : w4.cell? ⟨w.heap.size, 2, none⟩ = some (.string ⟨#[]⟩) := by rw [hbk.cell]; rfl
      have z3 : w4.cell? ⟨w.heap.size, 3, none⟩ = some (.bool false) := by rw [hbk.cell]; rfl
      have hlf := Lib.hid (low4 HL.out (Nat.le_refl _) (.string ⟨#[]⟩) (.string ⟨#[]⟩) (.string ⟨#[]⟩) (.bool false))
      clear hbk
      go_wp2
      exact bodyPost_ret (v := .tuple #[.agg #[.string ⟨#[]⟩, .string ⟨#[]⟩, .string ⟨#[]⟩, .bool false], .bool false]) (by simp [results, Tryd.results8, go_sem, z0, z1, z2, z3] <;> rfl) rfl ⟨hR2.out.symm, hlf.out⟩
set_option maxRecDepth 100000 in
set_option maxHeartbeats 8000000 in
theorem rmember_any (node v : ByteArray) (w : World) (hn : node.size ≤ 1000000) (hv : v.size ≤ 1000000) :
    Calls Tryd.prog 9 #[.string node, .string v] w fun e w' => e = memR node v ∧ Below w.heap.size w w' := by
  have HL := Lib.hid (below_lit w (.cells zc 26))
  have HB := Lib.hid (Blk.new w 26 zc)
  have hNo := Lib.hid (@mem_no node v)
  have hYes := Lib.hid (fun a b c => @mem_yes node v a b c)
  have hOk := Lib.hid (fun a b c => @ok_three node v a b c)
  have hOt := Lib.hid (@ok_other node v)
  have hIn := Lib.hid (fun w => reg.rname_any node w (by unfold maxLen; omega))
  go_enter Tryd.func9, Tryd.ntmps9
  go_wp2_with fail
  generalize w.alloc (.cells zc 26) = w0 at *
  refine (nm.rparts_any v w0 hv).mono ?_
  rintro e w1 ⟨A, cap, rfl, -, hR, hb⟩
  replace HL := Lib.hid (HL.out.trans (hb.mono HL.out.size))
  replace HB := Lib.hid (HB.out.below hb HB.out.lt)
  clear hb
  have hps := nm.partsS_small v
  generalize hP : partsS v = L at *
  have HP := Lib.hid hP
  clear hP
  have HR := Lib.hid hR
  clear hR
  by_cases h3 : L.length = 3
  case neg =>
    have hR2 := Lib.hid (hNo.out (hOt.out h3))
    have h3' : ((L.length : Int) == 3) = false := by rw [beq_eq_false_iff_ne]; omega
    cases h1 : isName node.data.toList with
    | false =>
      go_wp2_with fail
      refine (hIn.out w1).mono ?_
      rintro e w2 ⟨rfl, rfl⟩
      rw [h1]
      have hbk := HB.out
      have f0 := hbk.frozen 0
      have f1 := hbk.frozen 1
      have f2 := hbk.frozen 2
      have f3 := hbk.frozen 3
      have z0 : w2.cell? ⟨w.heap.size, 0, none⟩ = some (.string ⟨#[]⟩) := by rw [hbk.cell]; rfl
      have z1 : w2.cell? ⟨w.heap.size, 1, none⟩ = some (.string ⟨#[]⟩) := by rw [hbk.cell]; rfl
      have z2 : w2.cell? ⟨w.heap.size, 2, none⟩ = some (.string ⟨#[]⟩) := by rw [hbk.cell]; rfl
      have z3 : w2.cell? ⟨w.heap.size, 3, none⟩ = some (.bool false) := by rw [hbk.cell]; rfl
      have hlf := Lib.hid (low4 HL.out (Nat.le_refl _) (.string ⟨#[]⟩) (.string ⟨#[]⟩) (.string ⟨#[]⟩) (.bool false))
      clear hbk
      go_wp2
      exact bodyPost_ret (v := .tuple #[.agg #[.string ⟨#[]⟩, .string ⟨#[]⟩, .string ⟨#[]⟩, .bool false], .bool false]) (by simp [results, Tryd.results9, go_sem, z0, z1, z2, z3] <;> rfl) rfl ⟨hR2.out.symm, hlf.out⟩
    | true =>
      go_wp2_with fail
      refine (hIn.out w1).mono ?_
      rintro e w2 ⟨rfl, rfl⟩
      rw [h1]
      have hbk := HB.out
      have f0 := hbk.frozen 0
      have f1 := hbk.frozen 1
      have f2 := hbk.frozen 2
      have f3 := hbk.frozen 3
      have z0 : w2.cell? ⟨w.heap.size, 0, none⟩ = some (.string ⟨#[]⟩) := by rw [hbk.cell]; rfl
      have z1 : w2.cell? ⟨w.heap.size, 1, none⟩ = some (.string ⟨#[]⟩) := by rw [hbk.cell]; rfl
      have z2 : w2.cell? ⟨w.heap.size, 2, none⟩ = some (.string ⟨#[]⟩) := by rw [hbk.cell]; rfl
      have z3 : w2.cell? ⟨w.heap.size, 3, none⟩ = some (.bool false) := by rw [hbk.cell]; rfl
      have hlf := Lib.hid (low4 HL.out (Nat.le_refl _) (.string ⟨#[]⟩) (.string ⟨#[]⟩) (.string ⟨#[]⟩) (.bool false))
      clear hbk
      go_wp2
      exact bodyPost_ret (v := .tuple #[.agg #[.string ⟨#[]⟩, .string ⟨#[]⟩, .string ⟨#[]⟩, .bool false], .bool false]) (by simp [results, Tryd.results9, go_sem, z0, z1, z2, z3] <;> rfl) rfl ⟨hR2.out.symm, hlf.out⟩
  obtain ⟨a, b, c, rfl⟩ : ∃ a b c, L = [a, b, c] := by
    match L, h3 with
    | [a, b, c], _ => exact ⟨a, b, c, rfl⟩
  have hok := hOk.out a b c rfl
  have hyes := Lib.hid (hYes.out a b c rfl)
  clear hOk hYes hOt h3
  have hza : a.size ≤ 1000001 := by have := hps a (by simp); omega
  have hzb : b.size ≤ 1000001 := by have := hps b (by simp); omega
  have hzc : c.size ≤ 1000001 := by have := hps c (by simp); omega
  clear hps
  have hIa := Lib.hid (fun w => reg.rname_any a w (by unfold maxLen; omega))
  have hIb := Lib.hid (fun w => reg.rname_any b w (by unfold maxLen; omega))
  obtain ⟨ad, rfl, -, hat⟩ := HR.out.2 (by simp)
  clear hat
  cases h1 : isName node.data.toList with
  | false =>
    have hR2 := Lib.hid (hNo.out (by rw [hok, h1]; rfl))
    clear hok hyes
    go_wp2_with fail
    refine (hIn.out w1).mono ?_
    rintro e w2 ⟨rfl, rfl⟩
    rw [h1]
    have hbk := HB.out
    have f0 := hbk.frozen 0
    have f1 := hbk.frozen 1
    have f2 := hbk.frozen 2
    have f3 := hbk.frozen 3
    have z0 : w2.cell? ⟨w.heap.size, 0, none⟩ = some (.string ⟨#[]⟩) := by rw [hbk.cell]; rfl
    have z1 : w2.cell? ⟨w.heap.size, 1, none⟩ = some (.string ⟨#[]⟩) := by rw [hbk.cell]; rfl
    have z2 : w2.cell? ⟨w.heap.size, 2, none⟩ = some (.string ⟨#[]⟩) := by rw [hbk.cell]; rfl
    have z3 : w2.cell? ⟨w.heap.size, 3, none⟩ = some (.bool false) := by rw [hbk.cell]; rfl
    have hlf := Lib.hid (low4 HL.out (Nat.le_refl _) (.string ⟨#[]⟩) (.string ⟨#[]⟩) (.string ⟨#[]⟩) (.bool false))
    clear hbk
    go_wp2
    exact bodyPost_ret (v := .tuple #[.agg #[.string ⟨#[]⟩, .string ⟨#[]⟩, .string ⟨#[]⟩, .bool false], .bool false]) (by simp [results, Tryd.results9, go_sem, z0, z1, z2, z3] <;> rfl) rfl ⟨hR2.out.symm, hlf.out⟩
  | true =>
  go_wp2_with fail
  refine (hIn.out w1).mono ?_
  rintro e w2 ⟨rfl, rfl⟩
  rw [h1]
  have hat : ∀ j u, ([a, b, c].flatMap tc)[j]? = some u → w2.cell? (ad.add j) = some u := fun j u hu => by
    obtain ⟨ad', e', -, h'⟩ := HR.out.2 (by simp)
    injection e' with e'; subst e'; exact h' j u hu
  have c0 : w2.cell? ad = some (.string a) := by have := hat 0 _ rfl; simpa [Addr.add] using this
  have c1 : w2.cell? ⟨ad.block, ad.off + 1, none⟩ = some (.string b) := by have := hat 1 _ rfl; simpa [Addr.add] using this
  have c2 : w2.cell? ⟨ad.block, ad.off + 2, none⟩ = some (.string c) := by have := hat 2 _ rfl; simpa [Addr.add] using this
  clear hat
  cases h2 : isName a.data.toList with
  | false =>
    have hR2 := Lib.hid (hNo.out (by rw [hok, h1, h2]; rfl))
    clear hok hyes
    go_wp2_with fail
    refine (hIa.out _).mono ?_
    rintro e w3 ⟨rfl, rfl⟩
    rw [h2]
    have hbk := HB.out
    have f0 := hbk.frozen 0
    have f1 := hbk.frozen 1
    have f2 := hbk.frozen 2
    have f3 := hbk.frozen 3
    have z0 : w3.cell? ⟨w.heap.size, 0, none⟩ = some (.string ⟨#[]⟩) := by rw [hbk.cell]; rfl
    have z1 : w3.cell? ⟨w.heap.size, 1, none⟩ = some (.string ⟨#[]⟩) := by rw [hbk.cell]; rfl
    have z2 : w3.cell? ⟨w.heap.size, 2, none⟩ = some (.string ⟨#[]⟩) := by rw [hbk.cell]; rfl
    have z3 : w3.cell? ⟨w.heap.size, 3, none⟩ = some (.bool false) := by rw [hbk.cell]; rfl
    have hlf := Lib.hid (low4 HL.out (Nat.le_refl _) (.string ⟨#[]⟩) (.string ⟨#[]⟩) (.string ⟨#[]⟩) (.bool false))
    clear hbk
    go_wp2
    exact bodyPost_ret (v := .tuple #[.agg #[.string ⟨#[]⟩, .string ⟨#[]⟩, .string ⟨#[]⟩, .bool false], .bool false]) (by simp [results, Tryd.results9, go_sem, z0, z1, z2, z3] <;> rfl) rfl ⟨hR2.out.symm, hlf.out⟩
  | true =>
  go_wp2_with fail
  refine (hIa.out _).mono ?_
  rintro e w3 ⟨rfl, rfl⟩
  rw [h2]
  cases h4 : isName b.data.toList with
  | false =>
    have hR2 := Lib.hid (hNo.out (by rw [hok, h1, h2, h4]; rfl))
    clear hok hyes
    go_wp2_with fail
    refine (hIb.out _).mono ?_
    rintro e w4 ⟨rfl, rfl⟩
    rw [h4]
    have hbk := HB.out
    have f0 := hbk.frozen 0
    have f1 := hbk.frozen 1
    have f2 := hbk.frozen 2
    have f3 := hbk.frozen 3
    have z0 : w4.cell? ⟨w.heap.size, 0, none⟩ = some (.string ⟨#[]⟩) := by rw [hbk.cell]; rfl
    have z1 : w4.cell? ⟨w.heap.size, 1, none⟩ = some (.string ⟨#[]⟩) := by rw [hbk.cell]; rfl
    have z2 : w4.cell? ⟨w.heap.size, 2, none⟩ = some (.string ⟨#[]⟩) := by rw [hbk.cell]; rfl
    have z3 : w4.cell? ⟨w.heap.size, 3, none⟩ = some (.bool false) := by rw [hbk.cell]; rfl
    have hlf := Lib.hid (low4 HL.out (Nat.le_refl _) (.string ⟨#[]⟩) (.string ⟨#[]⟩) (.string ⟨#[]⟩) (.bool false))
    clear hbk
    go_wp2
    exact bodyPost_ret (v := .tuple #[.agg #[.string ⟨#[]⟩, .string ⟨#[]⟩, .string ⟨#[]⟩, .bool false], .bool false]) (by simp [results, Tryd.results9, go_sem, z0, z1, z2, z3] <;> rfl) rfl ⟨hR2.out.symm, hlf.out⟩
  | true =>
  go_wp2_with fail
  refine (hIb.out _).mono ?_
  rintro e w4 ⟨rfl, rfl⟩
  rw [h4]
  have hna := name_ne h2
  have hap := apart HB.out c0 hna
  rw [h1, h2, h4] at hok
  simp only [Bool.true_and] at hok
  clear hna h1 h2 h4
  by_cases hu : c = sUp
  · subst hu
    have hR2 := Lib.hid (hyes.out (by rw [hok]; decide))
    clear hok hyes
    have hbk := HB.out
    have f0 := hbk.frozen 0
    have f1 := hbk.frozen 1
    have f2 := hbk.frozen 2
    have f3 := hbk.frozen 3
    have z0 : w4.cell? ⟨w.heap.size, 0, none⟩ = some (.string ⟨#[]⟩) := by rw [hbk.cell]; rfl
    have z1 : w4.cell? ⟨w.heap.size, 1, none⟩ = some (.string ⟨#[]⟩) := by rw [hbk.cell]; rfl
    have z2 : w4.cell? ⟨w.heap.size, 2, none⟩ = some (.string ⟨#[]⟩) := by rw [hbk.cell]; rfl
    have z3 : w4.cell? ⟨w.heap.size, 3, none⟩ = some (.bool false) := by rw [hbk.cell]; rfl
    have h8 := Lib.hid (set4 (x := .string node) (y := .string a) (z := .string b) (u := .bool true) hbk)
    have hlf := Lib.hid (low4 HL.out (Nat.le_refl _) (.string node) (.string a) (.string b) (.bool true))
    have hkp := And.intro (far4 c0 hap (.string node) (.string a) (.string b) (.bool true)) (And.intro (far4 (p := ⟨ad.block, ad.off + 1, none⟩) c1 hap (.string node) (.string a) (.string b) (.bool true)) (far4 (p := ⟨ad.block, ad.off + 2, none⟩) c2 hap (.string node) (.string a) (.string b) (.bool true)))
    have test : w4.drew.cell? ad = some (.string a) ∧ w4.drew.cell? ⟨ad.block, ad.off + 1, none⟩ = some (.string b) ∧ w4.drew.cell? ⟨ad.block, ad.off + 2, none⟩ = some (.string sUp) := ⟨c0, c1, c2⟩
    have g0 : w4.drew.frozen? ⟨w.heap.size, 0, none⟩ = false := f0
    have g1 : w4.drew.frozen? ⟨w.heap.size, 1, none⟩ = false := f1
    have g2 : w4.drew.frozen? ⟨w.heap.size, 2, none⟩ = false := f2
    have g3 : w4.drew.frozen? ⟨w.heap.size, 3, none⟩ = false := f3
    have y0 : w4.drew.cell? ⟨w.heap.size, 0, none⟩ = some (.string ⟨#[]⟩) := z0
    have y1 : w4.drew.cell? ⟨w.heap.size, 1, none⟩ = some (.string ⟨#[]⟩) := z1
    have y2 : w4.drew.cell? ⟨w.heap.size, 2, none⟩ = some (.string ⟨#[]⟩) := z2
    have y3 : w4.drew.cell? ⟨w.heap.size, 3, none⟩ = some (.bool false) := z3
    clear hbk
    go_wp2_with fail
    refine wp_region_held_drew (S := (fun w' => w'.cell? ad = some (.string a) ∧ w'.cell? ⟨ad.block, ad.off + 1, none⟩ = some (.string b) ∧ w'.cell? ⟨ad.block, ad.off + 2, none⟩ = some (.string sUp))) (by kernel_rfl) ?_ (fun hHeldp0 => ?_)
    · exact test
    refine wpAnyH_take (i := 0) (v := ?vp0) ops0 (by kernel_rfl) (by kernel_rfl) (by kernel_rfl) (fun _ _ _ h => h) (Or.inl ⟨by rfl, ?yp0⟩) hHeldp0 ?_
    case yp0 => (intro w hSw; (try dsimp only at hSw); go_simp; try (with_reducible rfl))
    try simp only [Act.put, List.setIfInBounds_toArray, List.set_cons_zero, List.set_cons_succ]
    refine wpAnyH_take (i := 1) (v := ?vp1) (opsS ops0) (by kernel_rfl) (by kernel_rfl) (by kernel_rfl) (fun _ _ _ h => h) (Or.inl ⟨by rfl, ?yp1⟩) hHeldp0 ?_
    case yp1 => (intro w hSw; (try dsimp only at hSw); go_simp; try (with_reducible rfl))
    try simp only [Act.put, List.setIfInBounds_toArray, List.set_cons_zero, List.set_cons_succ]
    refine wpAnyH_take (i := 2) (v := ?vp2) (opsS (opsS ops0)) (by kernel_rfl) (by kernel_rfl) (by kernel_rfl) (fun _ _ _ h => h) (Or.inl ⟨by rfl, ?yp2⟩) hHeldp0 ?_
    case yp2 => (intro w hSw; (try dsimp only at hSw); go_simp; try (with_reducible rfl))
    try simp only [Act.put, List.setIfInBounds_toArray, List.set_cons_zero, List.set_cons_succ]
    refine wpAnyH_take (i := 3) (v := ?vp3) (opsS (opsS (opsS ops0))) (by kernel_rfl) (by kernel_rfl) (by kernel_rfl) (fun _ _ _ h => h) (Or.inl ⟨by rfl, ?yp3⟩) hHeldp0 ?_
    case yp3 => (intro w hSw; (try dsimp only at hSw); go_simp; try (with_reducible rfl))
    try simp only [Act.put, List.setIfInBounds_toArray, List.set_cons_zero, List.set_cons_succ]
    refine wpAnyH_take (i := 4) (v := ?vp4) (opsS (opsS (opsS (opsS ops0)))) (by kernel_rfl) (by kernel_rfl) (by kernel_rfl) (fun _ _ _ h => h) (Or.inl ⟨by rfl, ?yp4⟩) hHeldp0 ?_
    case yp4 => (intro w hSw; (try dsimp only at hSw); go_simp; try (with_reducible rfl))
    try simp only [Act.put, List.setIfInBounds_toArray, List.set_cons_zero, List.set_cons_succ]
    refine wpAnyH_take (i := 5) (v := ?vp5) (opsS (opsS (opsS (opsS (opsS ops0))))) (by kernel_rfl) (by kernel_rfl) (by kernel_rfl) (fun _ _ _ h => h) (Or.inl ⟨by rfl, ?yp5⟩) hHeldp0 ?_
    case yp5 => (intro w hSw; (try dsimp only at hSw); go_simp; try (with_reducible rfl))
    try simp only [Act.put, List.setIfInBounds_toArray, List.set_cons_zero, List.set_cons_succ]
    refine wpAnyH_take (i := 6) (v := ?vp6) (opsS (opsS (opsS (opsS (opsS (opsS ops0)))))) (by kernel_rfl) (by kernel_rfl) (by kernel_rfl) (fun _ _ _ h => h) (Or.inl ⟨by rfl, ?yp6⟩) hHeldp0 ?_
    case yp6 => (intro w hSw; (try dsimp only at hSw); go_simp; try (with_reducible rfl))
    try simp only [Act.put, List.setIfInBounds_toArray, List.set_cons_zero, List.set_cons_succ]
    refine wpAnyH_take (i := 7) (v := ?vp7) (opsS (opsS (opsS (opsS (opsS (opsS (opsS ops0))))))) (by kernel_rfl) (by kernel_rfl) (by kernel_rfl) (fun _ _ _ h => h) (Or.inl ⟨by rfl, ?yp7⟩) hHeldp0 ?_
    case yp7 => (intro w hSw; (try dsimp only at hSw); go_simp; try (with_reducible rfl))
    try simp only [Act.put, List.setIfInBounds_toArray, List.set_cons_zero, List.set_cons_succ]
    refine wpAnyH_take (i := 8) (v := ?vp8) (opsS (opsS (opsS (opsS (opsS (opsS (opsS (opsS ops0)))))))) (by kernel_rfl) (by kernel_rfl) (by kernel_rfl) (fun _ _ _ h => h) (Or.inl ⟨by rfl, ?yp8⟩) hHeldp0 ?_
    case yp8 => (intro w hSw; (try dsimp only at hSw); go_simp; try (with_reducible rfl))
    try simp only [Act.put, List.setIfInBounds_toArray, List.set_cons_zero, List.set_cons_succ]
    refine wpAnyH_take (i := 9) (v := ?vp9) (opsS (opsS (opsS (opsS (opsS (opsS (opsS (opsS (opsS ops0))))))))) (by kernel_rfl) (by kernel_rfl) (by kernel_rfl) (fun _ _ _ h => h) (Or.inl ⟨by rfl, ?yp9⟩) hHeldp0 ?_
    case yp9 => (intro w hSw; (try dsimp only at hSw); go_simp; try (with_reducible rfl))
    try simp only [Act.put, List.setIfInBounds_toArray, List.set_cons_zero, List.set_cons_succ]
    refine wpAnyH_take (i := 10) (v := ?vp10) (opsS (opsS (opsS (opsS (opsS (opsS (opsS (opsS (opsS (opsS ops0)))))))))) (by kernel_rfl) (by kernel_rfl) (by kernel_rfl) (fun _ _ _ h => h) (Or.inl ⟨by rfl, ?yp10⟩) hHeldp0 ?_
    case yp10 => (intro w hSw; (try dsimp only at hSw); go_simp; try (with_reducible rfl))
    try simp only [Act.put, List.setIfInBounds_toArray, List.set_cons_zero, List.set_cons_succ]
    refine wpAnyH_take (i := 11) (v := ?vp11) (opsS (opsS (opsS (opsS (opsS (opsS (opsS (opsS (opsS (opsS (opsS ops0))))))))))) (by kernel_rfl) (by kernel_rfl) (by kernel_rfl) (fun _ _ _ h => h) (Or.inl ⟨by rfl, ?yp11⟩) hHeldp0 ?_
    case yp11 => (intro w hSw; (try dsimp only at hSw); go_simp; try (with_reducible rfl))
    try simp only [Act.put, List.setIfInBounds_toArray, List.set_cons_zero, List.set_cons_succ]
    refine wpAnyH_ready (rs := [12]) (by kernel_rfl) (by simp) ?_
    refine AllReadyH.cons (opsS (opsS (opsS (opsS (opsS (opsS (opsS (opsS (opsS (opsS (opsS (opsS ops0)))))))))))) (fun K hK => ?_) AllReadyH.nil
    go_simp
    skip
    try dsimp only
    refine hK.out _ _ ?_ (fun hHeldp1 => ?_)
    · (first | assumption | exact hkp)
    clear hK K hHeldp0
    try clear hb
    try simp only [Act.put, List.setIfInBounds_toArray, List.set_cons_zero, List.set_cons_succ]
    refine wpAnyH_take (i := 13) (v := ?vp13) (opsS (opsS (opsS (opsS (opsS (opsS (opsS (opsS (opsS (opsS (opsS (opsS (opsS ops0))))))))))))) (by kernel_rfl) (by kernel_rfl) (by kernel_rfl) (fun _ _ _ h => h) (Or.inl ⟨by rfl, ?yp13⟩) hHeldp1 ?_
    case yp13 => (intro w hSw; (try dsimp only at hSw); go_simp; try (with_reducible rfl))
    try simp only [Act.put, List.setIfInBounds_toArray, List.set_cons_zero, List.set_cons_succ]
    refine wpAnyH_done (by kernel_rfl) ?_ _
    clear hHeldp1 test hkp c0 c1 c2 f0 f1 f2 f3 g0 g1 g2 g3 z0 z1 z2 z3 y0 y1 y2 y3
    go_wp2
    exact bodyPost_ret (v := .tuple #[.agg #[.string node, .string a, .string b, .bool true], .bool true]) (by have r0 := h8.out.cell 0; have r1 := h8.out.cell 1; have r2 := h8.out.cell 2; have r3 := h8.out.cell 3; simp [results, Tryd.results9, go_sem, r0, r1, r2, r3]) rfl ⟨by rw [hR2.out]; rfl, hlf.out.drew⟩
  · by_cases hd : c = sDown
    · subst hd
      have hR2 := Lib.hid (hyes.out (by rw [hok]; decide))
      clear hok hyes
      have hbk := HB.out
      have f0 := hbk.frozen 0
      have f1 := hbk.frozen 1
      have f2 := hbk.frozen 2
      have f3 := hbk.frozen 3
      have z0 : w4.cell? ⟨w.heap.size, 0, none⟩ = some (.string ⟨#[]⟩) := by rw [hbk.cell]; rfl
      have z1 : w4.cell? ⟨w.heap.size, 1, none⟩ = some (.string ⟨#[]⟩) := by rw [hbk.cell]; rfl
      have z2 : w4.cell? ⟨w.heap.size, 2, none⟩ = some (.string ⟨#[]⟩) := by rw [hbk.cell]; rfl
      have z3 : w4.cell? ⟨w.heap.size, 3, none⟩ = some (.bool false) := by rw [hbk.cell]; rfl
      have h8 := Lib.hid (set4 (x := .string node) (y := .string a) (z := .string b) (u := .bool false) hbk)
      have hlf := Lib.hid (low4 HL.out (Nat.le_refl _) (.string node) (.string a) (.string b) (.bool false))
      have hkp := And.intro (far4 c0 hap (.string node) (.string a) (.string b) (.bool false)) (And.intro (far4 (p := ⟨ad.block, ad.off + 1, none⟩) c1 hap (.string node) (.string a) (.string b) (.bool false)) (far4 (p := ⟨ad.block, ad.off + 2, none⟩) c2 hap (.string node) (.string a) (.string b) (.bool false)))
      have test : w4.drew.cell? ad = some (.string a) ∧ w4.drew.cell? ⟨ad.block, ad.off + 1, none⟩ = some (.string b) ∧ w4.drew.cell? ⟨ad.block, ad.off + 2, none⟩ = some (.string sDown) := ⟨c0, c1, c2⟩
      have g0 : w4.drew.frozen? ⟨w.heap.size, 0, none⟩ = false := f0
      have g1 : w4.drew.frozen? ⟨w.heap.size, 1, none⟩ = false := f1
      have g2 : w4.drew.frozen? ⟨w.heap.size, 2, none⟩ = false := f2
      have g3 : w4.drew.frozen? ⟨w.heap.size, 3, none⟩ = false := f3
      have y0 : w4.drew.cell? ⟨w.heap.size, 0, none⟩ = some (.string ⟨#[]⟩) := z0
      have y1 : w4.drew.cell? ⟨w.heap.size, 1, none⟩ = some (.string ⟨#[]⟩) := z1
      have y2 : w4.drew.cell? ⟨w.heap.size, 2, none⟩ = some (.string ⟨#[]⟩) := z2
      have y3 : w4.drew.cell? ⟨w.heap.size, 3, none⟩ = some (.bool false) := z3
      clear hbk
      go_wp2_with fail
      refine wp_region_held_drew (S := (fun w' => w'.cell? ad = some (.string a) ∧ w'.cell? ⟨ad.block, ad.off + 1, none⟩ = some (.string b) ∧ w'.cell? ⟨ad.block, ad.off + 2, none⟩ = some (.string sDown))) (by kernel_rfl) ?_ (fun hHeldq0 => ?_)
      · exact test
      refine wpAnyH_take (i := 0) (v := ?vq0) ops0 (by kernel_rfl) (by kernel_rfl) (by kernel_rfl) (fun _ _ _ h => h) (Or.inl ⟨by rfl, ?yq0⟩) hHeldq0 ?_
      case yq0 => (intro w hSw; (try dsimp only at hSw); go_simp; try (with_reducible rfl))
      try simp only [Act.put, List.setIfInBounds_toArray, List.set_cons_zero, List.set_cons_succ]
      refine wpAnyH_take (i := 1) (v := ?vq1) (opsS ops0) (by kernel_rfl) (by kernel_rfl) (by kernel_rfl) (fun _ _ _ h => h) (Or.inl ⟨by rfl, ?yq1⟩) hHeldq0 ?_
      case yq1 => (intro w hSw; (try dsimp only at hSw); go_simp; try (with_reducible rfl))
      try simp only [Act.put, List.setIfInBounds_toArray, List.set_cons_zero, List.set_cons_succ]
      refine wpAnyH_take (i := 2) (v := ?vq2) (opsS (opsS ops0)) (by kernel_rfl) (by kernel_rfl) (by kernel_rfl) (fun _ _ _ h => h) (Or.inl ⟨by rfl, ?yq2⟩) hHeldq0 ?_
      case yq2 => (intro w hSw; (try dsimp only at hSw); go_simp; try (with_reducible rfl))
      try simp only [Act.put, List.setIfInBounds_toArray, List.set_cons_zero, List.set_cons_succ]
      refine wpAnyH_take (i := 3) (v := ?vq3) (opsS (opsS (opsS ops0))) (by kernel_rfl) (by kernel_rfl) (by kernel_rfl) (fun _ _ _ h => h) (Or.inl ⟨by rfl, ?yq3⟩) hHeldq0 ?_
      case yq3 => (intro w hSw; (try dsimp only at hSw); go_simp; try (with_reducible rfl))
      try simp only [Act.put, List.setIfInBounds_toArray, List.set_cons_zero, List.set_cons_succ]
      refine wpAnyH_take (i := 4) (v := ?vq4) (opsS (opsS (opsS (opsS ops0)))) (by kernel_rfl) (by kernel_rfl) (by kernel_rfl) (fun _ _ _ h => h) (Or.inl ⟨by rfl, ?yq4⟩) hHeldq0 ?_
      case yq4 => (intro w hSw; (try dsimp only at hSw); go_simp; try (with_reducible rfl))
      try simp only [Act.put, List.setIfInBounds_toArray, List.set_cons_zero, List.set_cons_succ]
      refine wpAnyH_take (i := 5) (v := ?vq5) (opsS (opsS (opsS (opsS (opsS ops0))))) (by kernel_rfl) (by kernel_rfl) (by kernel_rfl) (fun _ _ _ h => h) (Or.inl ⟨by rfl, ?yq5⟩) hHeldq0 ?_
      case yq5 => (intro w hSw; (try dsimp only at hSw); go_simp; try (with_reducible rfl))
      try simp only [Act.put, List.setIfInBounds_toArray, List.set_cons_zero, List.set_cons_succ]
      refine wpAnyH_take (i := 6) (v := ?vq6) (opsS (opsS (opsS (opsS (opsS (opsS ops0)))))) (by kernel_rfl) (by kernel_rfl) (by kernel_rfl) (fun _ _ _ h => h) (Or.inl ⟨by rfl, ?yq6⟩) hHeldq0 ?_
      case yq6 => (intro w hSw; (try dsimp only at hSw); go_simp; try (with_reducible rfl))
      try simp only [Act.put, List.setIfInBounds_toArray, List.set_cons_zero, List.set_cons_succ]
      refine wpAnyH_take (i := 7) (v := ?vq7) (opsS (opsS (opsS (opsS (opsS (opsS (opsS ops0))))))) (by kernel_rfl) (by kernel_rfl) (by kernel_rfl) (fun _ _ _ h => h) (Or.inl ⟨by rfl, ?yq7⟩) hHeldq0 ?_
      case yq7 => (intro w hSw; (try dsimp only at hSw); go_simp; try (with_reducible rfl))
      try simp only [Act.put, List.setIfInBounds_toArray, List.set_cons_zero, List.set_cons_succ]
      refine wpAnyH_take (i := 8) (v := ?vq8) (opsS (opsS (opsS (opsS (opsS (opsS (opsS (opsS ops0)))))))) (by kernel_rfl) (by kernel_rfl) (by kernel_rfl) (fun _ _ _ h => h) (Or.inl ⟨by rfl, ?yq8⟩) hHeldq0 ?_
      case yq8 => (intro w hSw; (try dsimp only at hSw); go_simp; try (with_reducible rfl))
      try simp only [Act.put, List.setIfInBounds_toArray, List.set_cons_zero, List.set_cons_succ]
      refine wpAnyH_take (i := 9) (v := ?vq9) (opsS (opsS (opsS (opsS (opsS (opsS (opsS (opsS (opsS ops0))))))))) (by kernel_rfl) (by kernel_rfl) (by kernel_rfl) (fun _ _ _ h => h) (Or.inl ⟨by rfl, ?yq9⟩) hHeldq0 ?_
      case yq9 => (intro w hSw; (try dsimp only at hSw); go_simp; try (with_reducible rfl))
      try simp only [Act.put, List.setIfInBounds_toArray, List.set_cons_zero, List.set_cons_succ]
      refine wpAnyH_take (i := 10) (v := ?vq10) (opsS (opsS (opsS (opsS (opsS (opsS (opsS (opsS (opsS (opsS ops0)))))))))) (by kernel_rfl) (by kernel_rfl) (by kernel_rfl) (fun _ _ _ h => h) (Or.inl ⟨by rfl, ?yq10⟩) hHeldq0 ?_
      case yq10 => (intro w hSw; (try dsimp only at hSw); go_simp; try (with_reducible rfl))
      try simp only [Act.put, List.setIfInBounds_toArray, List.set_cons_zero, List.set_cons_succ]
      refine wpAnyH_take (i := 11) (v := ?vq11) (opsS (opsS (opsS (opsS (opsS (opsS (opsS (opsS (opsS (opsS (opsS ops0))))))))))) (by kernel_rfl) (by kernel_rfl) (by kernel_rfl) (fun _ _ _ h => h) (Or.inl ⟨by rfl, ?yq11⟩) hHeldq0 ?_
      case yq11 => (intro w hSw; (try dsimp only at hSw); go_simp; try (with_reducible rfl))
      try simp only [Act.put, List.setIfInBounds_toArray, List.set_cons_zero, List.set_cons_succ]
      refine wpAnyH_ready (rs := [12]) (by kernel_rfl) (by simp) ?_
      refine AllReadyH.cons (opsS (opsS (opsS (opsS (opsS (opsS (opsS (opsS (opsS (opsS (opsS (opsS ops0)))))))))))) (fun K hK => ?_) AllReadyH.nil
      go_simp
      skip
      try dsimp only
      refine hK.out _ _ ?_ (fun hHeldq1 => ?_)
      · (first | assumption | exact hkp)
      clear hK K hHeldq0
      try clear hb
      try simp only [Act.put, List.setIfInBounds_toArray, List.set_cons_zero, List.set_cons_succ]
      refine wpAnyH_take (i := 13) (v := ?vq13) (opsS (opsS (opsS (opsS (opsS (opsS (opsS (opsS (opsS (opsS (opsS (opsS (opsS ops0))))))))))))) (by kernel_rfl) (by kernel_rfl) (by kernel_rfl) (fun _ _ _ h => h) (Or.inl ⟨by rfl, ?yq13⟩) hHeldq1 ?_
      case yq13 => (intro w hSw; (try dsimp only at hSw); go_simp; try (with_reducible rfl))
      try simp only [Act.put, List.setIfInBounds_toArray, List.set_cons_zero, List.set_cons_succ]
      refine wpAnyH_done (by kernel_rfl) ?_ _
      clear hHeldq1 test hkp c0 c1 c2 f0 f1 f2 f3 g0 g1 g2 g3 z0 z1 z2 z3 y0 y1 y2 y3
      go_wp2
      exact bodyPost_ret (v := .tuple #[.agg #[.string node, .string a, .string b, .bool false], .bool true]) (by have r0 := h8.out.cell 0; have r1 := h8.out.cell 1; have r2 := h8.out.cell 2; have r3 := h8.out.cell 3; simp [results, Tryd.results9, go_sem, r0, r1, r2, r3]) rfl ⟨by rw [hR2.out]; rfl, hlf.out.drew⟩
    · have hR2 := Lib.hid (hNo.out (by rw [hok]; simp [hu, hd]))
      have b0 := lit_ne (l := [117, 112]) hu
      have b1 := lit_ne (l := [100, 111, 119, 110]) hd
      clear hok hyes hu hd
      have hbk := HB.out
      have f0 := hbk.frozen 0
      have f1 := hbk.frozen 1
      have f2 := hbk.frozen 2
      have f3 := hbk.frozen 3
      have z0 : w4.cell? ⟨w.heap.size, 0, none⟩ = some (.string ⟨#[]⟩) := by rw [hbk.cell]; rfl
      have z1 : w4.cell? ⟨w.heap.size, 1, none⟩ = some (.string ⟨#[]⟩) := by rw [hbk.cell]; rfl
      have z2 : w4.cell? ⟨w.heap.size, 2, none⟩ = some (.string ⟨#[]⟩) := by rw [hbk.cell]; rfl
      have z3 : w4.cell? ⟨w.heap.size, 3, none⟩ = some (.bool false) := by rw [hbk.cell]; rfl
      have hlf := Lib.hid (low4 HL.out (Nat.le_refl _) (.string ⟨#[]⟩) (.string ⟨#[]⟩) (.string ⟨#[]⟩) (.bool false))
      clear hbk
      go_wp2
      exact bodyPost_ret (v := .tuple #[.agg #[.string ⟨#[]⟩, .string ⟨#[]⟩, .string ⟨#[]⟩, .bool false], .bool false]) (by simp [results, Tryd.results9, go_sem, z0, z1, z2, z3] <;> rfl) rfl ⟨hR2.out.symm, hlf.out⟩
end Go.Proofs.YtfkjoeibofnnoaaDoor.tp
