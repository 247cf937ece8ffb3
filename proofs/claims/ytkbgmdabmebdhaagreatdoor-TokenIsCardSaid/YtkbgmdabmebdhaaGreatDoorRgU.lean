import Derived.Test.YtkbgmdabmebdhaaGreatDoorRegU
import Derived.Test.YtkbgmdabmebdhaaGreatDoorKit
import Derived.IntWalk
import Derived.Deep.QuietTactic
import Derived.BigQuiet
import Derived.Shelf.Abstract
import Derived.Laws.EntriesVeiled
import Derived.Deep.RegionHeld3
import Derived.WalkMore
import Derived.Deep.LoopGhost
/- Entries of a registry: their cells, their keys, whether they may be, and a key's register. -/
namespace Go.Proofs.YtkbgmdabmebdhaaGreatDoor.rgy
open Go.ChangeShapes Go.WideShapes Go.ChangeAt Go.RowKit Go.Proofs.Aid Go.Proofs.YtkbgmdabmebdhaaGreatDoor.name Go.Proofs.YtkbgmdabmebdhaaGreatDoor.reg
structure En where
  key : ByteArray
  reg : Rg
  deriving DecidableEq
def En.cells (e : En) : List Value := [.string e.key, .int .i64 e.reg.n, .string e.reg.by_, .string e.reg.value]
@[reducible] def En.val (e : En) : Value := .agg #[.string e.key, .int .i64 e.reg.n, .string e.reg.by_, .string e.reg.value]
theorem En.len (e : En) : e.cells.length = 4 := rfl
def En.sz (e : En) : Prop := e.key.size ≤ maxLen ∧ e.reg.by_.size ≤ maxLen ∧ e.reg.value.size ≤ maxLen
theorem elemE {w : World} {B : Nat} {A : Option Addr} {rs : List En} (h : Reads w B 4 A rs.length (rs.flatMap En.cells)) {i : Nat} (hi : i < rs.length) :
    ∃ ad, A = some ad ∧ ad.block < B ∧ w.cell? (ad.add (i * 4)) = some (.string rs[i].key) ∧ w.cell? ⟨(ad.add (i * 4)).block, (ad.add (i * 4)).off + 1, none⟩ = some (.int .i64 rs[i].reg.n) ∧ w.cell? ⟨(ad.add (i * 4)).block, (ad.add (i * 4)).off + 2, none⟩ = some (.string rs[i].reg.by_) ∧ w.cell? ⟨(ad.add (i * 4)).block, (ad.add (i * 4)).off + 3, none⟩ = some (.string rs[i].reg.value) := by
  obtain ⟨ad, e, hb, hc⟩ := h.elem En.len hi
  have x1 : ∀ j, (⟨(ad.add (i * 4)).block, (ad.add (i * 4)).off + (j + 1), none⟩ : Addr) = ad.add (i * 4 + (j + 1)) := fun j => by rw [← add_of_add]; rfl
  refine ⟨ad, e, hb, by simpa using hc 0 _ rfl, ?_, ?_, ?_⟩
  · rw [x1]; exact hc 1 _ rfl
  · rw [x1]; exact hc 2 _ rfl
  · rw [x1]; exact hc 3 _ rfl
def isKey (s : ByteArray) : Bool := decide (1 ≤ s.size) && decide (s.size ≤ 128)
def lt (a b : ByteArray) : Bool := Op.bytesLess a.toList b.toList
def okAt (l : List En) (i : Nat) : Bool := isKey (l.getD i ⟨ByteArray.empty, Rg.zero⟩).key && decide (l.getD i ⟨ByteArray.empty, Rg.zero⟩).reg.may && (decide (i = 0) || lt (l.getD (i - 1) ⟨ByteArray.empty, Rg.zero⟩).key (l.getD i ⟨ByteArray.empty, Rg.zero⟩).key)
def may (l : List En) : Bool := decide (l.length ≤ 4096) && (List.range l.length).all (okAt l)
def chk (l : List En) : Int := if may l then 0 else 1
theorem chk_no {l : List En} (h : may l = false) : chk l = 1 := by unfold chk; rw [h]; rfl
theorem chk_ok {l : List En} (h : may l = true) : chk l = 0 := by unfold chk; rw [h]; rfl
theorem may_no {l : List En} {i : Nat} (h : i < l.length) (hk : okAt l i = false) : may l = false := by
  unfold may
  have : (List.range l.length).all (okAt l) = false := by
    rw [List.all_eq_false]; exact ⟨i, by simpa using h, by simp [hk]⟩
  rw [this, Bool.and_false]
theorem may_yes {l : List En} (h : l.length ≤ 4096) (hk : ∀ j, j < l.length → okAt l j = true) : may l = true := by
  unfold may
  rw [decide_eq_true h, Bool.true_and, List.all_eq_true]
  intro j hj; exact hk j (by simpa using hj)
theorem okAt_eq {l : List En} {i : Nat} (h : i < l.length) (h' : i - 1 < l.length) : okAt l i = (isKey l[i].key && decide l[i].reg.may && (decide (i = 0) || lt l[i - 1].key l[i].key)) := by
  unfold okAt; simp [h, h']
/-- An entry in a block of the call's own, and one cell of what lay before. -/
structure XP (w0 : World) (ty : TypeId) (k : ByteArray) (n : Int) (b v : ByteArray) (p : Addr) (u : Value) (w' : World) : Prop where
  blk : Blk w' w0.heap.size ty #[.string k, .int .i64 n, .string b, .string v]
  old : w0.cell? p = some u
  hp : p.block < w0.heap.size
  low : Below w0.heap.size w0 w'
section
variable {w0 w' w1 : World} {ty : TypeId} {k b v : ByteArray} {n : Int} {p : Addr} {u : Value}
theorem XP.of (h : XP w0 ty k n b v p u w') : w'.cell? ⟨w0.heap.size, 0, none⟩ = some (.string k) ∧ w'.cell? ⟨w0.heap.size, 1, none⟩ = some (.int .i64 n) ∧ w'.cell? ⟨w0.heap.size, 2, none⟩ = some (.string b) ∧ w'.cell? ⟨w0.heap.size, 3, none⟩ = some (.string v) ∧ w'.cell? p = some u ∧ Hid (XP w0 ty k n b v p u w') :=
  ⟨by rw [h.blk.cell]; rfl, by rw [h.blk.cell]; rfl, by rw [h.blk.cell]; rfl, by rw [h.blk.cell]; rfl, (h.low.cell h.hp).trans h.old, h⟩
theorem XP.drew (h : Hid (XP w0 ty k n b v p u w')) : w'.drew.cell? ⟨w0.heap.size, 0, none⟩ = some (.string k) ∧ w'.drew.cell? ⟨w0.heap.size, 1, none⟩ = some (.int .i64 n) ∧ w'.drew.cell? ⟨w0.heap.size, 2, none⟩ = some (.string b) ∧ w'.drew.cell? ⟨w0.heap.size, 3, none⟩ = some (.string v) ∧ w'.drew.cell? p = some u ∧ Hid (XP w0 ty k n b v p u w'.drew) :=
  XP.of ⟨h.blk, h.old, h.hp, h.low.drew⟩
theorem XP.step (h : Hid (XP w0 ty k n b v p u w')) (hb : Below w'.heap.size w' w1) : w1.cell? ⟨w0.heap.size, 0, none⟩ = some (.string k) ∧ w1.cell? ⟨w0.heap.size, 1, none⟩ = some (.int .i64 n) ∧ w1.cell? ⟨w0.heap.size, 2, none⟩ = some (.string b) ∧ w1.cell? ⟨w0.heap.size, 3, none⟩ = some (.string v) ∧ w1.cell? p = some u ∧ Hid (XP w0 ty k n b v p u w1) :=
  XP.of ⟨h.blk.below hb h.blk.lt, h.old, h.hp, h.low.trans (hb.mono h.low.size)⟩
theorem XP.new (w0 : World) (ty : TypeId) (k : ByteArray) (n : Int) (b v : ByteArray) (hc : w0.cell? p = some u) (hp : p.block < w0.heap.size) : XP w0 ty k n b v p u (w0.alloc (.cells #[.string k, .int .i64 n, .string b, .string v] ty)) :=
  ⟨Blk.new _ _ _, hc, hp, (Below.refl _ _).alloc (Nat.le_refl _) _⟩
end
end Go.Proofs.YtkbgmdabmebdhaaGreatDoor.rgy

/- Entries of a registry: a key's register, by the package and by the reference. -/
namespace Go.Proofs.YtkbgmdabmebdhaaGreatDoor.rgy
open Go.ChangeShapes Go.WideShapes Go.ChangeAt Go.RowKit Go.Proofs.Aid Go.Proofs.YtkbgmdabmebdhaaGreatDoor.name Go.Proofs.YtkbgmdabmebdhaaGreatDoor.reg
def look (l : List En) (s : ByteArray) : Option Rg := (l.find? fun e => decide (e.key = s)).map En.reg
def get (l : List En) (s : ByteArray) : Rg := (look l s).getD Rg.zero
theorem look_found {l : List En} {s : ByteArray} {k : Nat} (h : k < l.length) (hk : l[k].key = s) (hj : ∀ j (_ : j < l.length), j < k → l[j].key ≠ s) : look l s = some l[k].reg := by
  unfold look
  rw [show l.find? (fun e => decide (e.key = s)) = some l[k] from by
    rw [List.find?_eq_some_iff_getElem]
    exact ⟨by simpa using hk, k, h, rfl, fun j hjk => by simpa using hj j (by omega) hjk⟩]
  rfl
theorem look_none {l : List En} {s : ByteArray} (hj : ∀ j (_ : j < l.length), l[j].key ≠ s) : look l s = none := by
  unfold look
  rw [show l.find? (fun e => decide (e.key = s)) = none from by
    rw [List.find?_eq_none]
    intro x hx
    obtain ⟨j, h, rfl⟩ := List.getElem_of_mem hx
    simpa using hj j h]
  rfl
theorem get_found {l : List En} {s : ByteArray} {k : Nat} (h : k < l.length) (hk : l[k].key = s) (hj : ∀ j (_ : j < l.length), j < k → l[j].key ≠ s) : get l s = l[k].reg := by
  unfold get; rw [look_found h hk hj]; rfl
theorem get_none {l : List En} {s : ByteArray} (hj : ∀ j (_ : j < l.length), l[j].key ≠ s) : get l s = Rg.zero := by
  unfold get; rw [look_none hj]; rfl
theorem next_ne {l : List En} {s : ByteArray} {k : Nat} (h : k < l.length) (hI : ∀ j (_ : j < l.length), j < k → l[j].key ≠ s) (hx : l[k].key ≠ s) : ∀ j (_ : j < l.length), j < k + 1 → l[j].key ≠ s := fun j hj hjk => by
  by_cases e : j < k
  · exact hI j hj e
  · have : j = k := by omega
    subst this; exact hx
theorem bytes_eq {x s : ByteArray} (h : x = s) : (x.toList == s.toList) = true := by subst h; simp
theorem set3 {w : World} {g : Nat} {ty : TypeId} {a0 a1 a2 x y z : Value} (hb : Blk w g ty #[a0, a1, a2]) (o : Obj) : Blk ((((w.setCell ⟨g, 0, none⟩ x).setCell ⟨g, 1, none⟩ y).setCell ⟨g, 2, none⟩ z).alloc o) g ty #[x, y, z] :=
  (((hb.set_ 0 x).set_ 1 y).set_ 2 z).alloc o
set_option maxRecDepth 100000 in
set_option maxHeartbeats 4000000 in
theorem get_any (w : World) (A : Option Addr) (cap : Nat) (rs : List En) (s : ByteArray) (hl : rs.length ≤ 1000000) (h1 : Reads w w.heap.size 4 A rs.length (rs.flatMap En.cells)) :
    Calls Tryz.prog 58 #[.slice A rs.length cap, .string s] w fun e w' => e = .returned (get rs s).val ∧ Below w.heap.size w w' := by
  have H1 := Lib.hid h1
  clear h1
  have hb0 := Lib.hid (Blk.new w 35 #[.int .i64 0, .string ⟨#[]⟩, .string ⟨#[]⟩])
  have hl0 := Lib.hid (below_lit w (.cells #[.int .i64 0, .string ⟨#[]⟩, .string ⟨#[]⟩] 35))
  go_enter Tryz.func58, Tryz.ntmps58
  go_wp2_with fail
  generalize w.alloc (.cells #[.int .i64 0, .string ⟨#[]⟩, .string ⟨#[]⟩] 35) = w2 at *
  generalize hg : w.heap.size = g at *
  have HG := Lib.hid hg
  clear hg
  go_loopw [9] (fun iv wr => ∃ k : Nat, k ≤ rs.length ∧ iv = .int .i64 k ∧ Hid (∀ j (_ : j < rs.length), j < k → rs[j].key ≠ s) ∧ Hid (Blk wr g 35 #[.int .i64 0, .string ⟨#[]⟩, .string ⟨#[]⟩]) ∧ Hid (Below g w wr)) (fun iv _ => rs.length - (intOf iv).toNat)
  case atStart => exact ⟨0, by omega, rfl, fun _ _ h => by omega, hb0, hl0⟩
  case round =>
    clear hb0 hl0
    obtain ⟨k, hk, rfl, hI, hb, hlow⟩ := hrel
    have hgl := hb.out.lt
    by_cases hlt : k < rs.length
    · obtain ⟨ad, rfl, had, c0, c1, c2, c3⟩ := elemE (H1.out.below hlow.out) hlt
      have hfound := Lib.hid (fun h => get_found (s := s) hlt h (fun j hj hjk => hI.out j hj hjk))
      have hnext := Lib.hid (fun h => next_ne (s := s) hlt hI.out h)
      generalize rs[k] = xe at *
      obtain ⟨kk, n, b, v⟩ := xe
      simp only at c0 c1 c2 c3 hfound hnext
      have hba := hb.out.alloc (.cells #[.string kk, .int .i64 n, .string b, .string v] 37)
      have hla := Lib.hid (hlow.out.alloc (by omega) (.cells #[.string kk, .int .i64 n, .string b, .string v] 37))
      have f0 := hb.out.frozen 0
      have f1 := hb.out.frozen 1
      have f2 := hb.out.frozen 2
      by_cases he : kk = s
      · have hN := Lib.hid (hfound.out he)
        have he2 := bytes_eq he
        have d0 : wr.cell? ⟨g, 0, none⟩ = some (.int .i64 0) := by rw [hb.out.cell]; rfl
        have d1 : wr.cell? ⟨g, 1, none⟩ = some (.string ⟨#[]⟩) := by rw [hb.out.cell]; rfl
        have d2 : wr.cell? ⟨g, 2, none⟩ = some (.string ⟨#[]⟩) := by rw [hb.out.cell]; rfl
        have hne : ¬ (wr.heap.size = g) := by omega
        have hs3 := set3 (x := .int .i64 n) (y := .string b) (z := .string v) hb.out (.cells #[.string kk, .int .i64 n, .string b, .string v] 37)
        have r0 := hs3.cell 0
        have r1 := hs3.cell 1
        have r2 := hs3.cell 2
        have R := Lib.hid (And.intro r0 (And.intro r1 r2))
        have hlf := Lib.hid ((((hlow.out.setCell (p := ⟨g, 0, none⟩) (by simp) (.int .i64 n)).setCell (p := ⟨g, 1, none⟩) (by simp) (.string b)).setCell (p := ⟨g, 2, none⟩) (by simp) (.string v)).alloc (by simp; omega) (.cells #[.string kk, .int .i64 n, .string b, .string v] 37))
        clear r0 r1 r2 hs3
        clear he hfound hnext hb hba hI hla
        go_wp2
        exact bodyPost_ret (v := .agg #[.int .i64 n, .string b, .string v]) (by obtain ⟨r0, r1, r2⟩ := R.out; simp [results, Tryz.results58, go_sem, r0, r1, r2]) rfl ⟨by rw [hN.out], by rw [HG.out]; exact hlf.out⟩
      · have he2 := bytes_ne he
        have hI2 := Lib.hid (hnext.out he)
        have hba' := Lib.hid hba
        clear he hfound hnext hb hba hI f0 f1 f2
        go_wp2
        go_roundw
        case rel => exact ⟨k + 1, by omega, by go_num, hI2, hba', hla⟩
        case measure => simp [intOf]; omega
    · have hN := Lib.hid (get_none (s := s) (fun j h => hI.out j h (by omega)))
      have f0 := hb.out.frozen 0
      have f1 := hb.out.frozen 1
      have f2 := hb.out.frozen 2
      have d0 : wr.cell? ⟨g, 0, none⟩ = some (.int .i64 0) := by rw [hb.out.cell]; rfl
      have d1 : wr.cell? ⟨g, 1, none⟩ = some (.string ⟨#[]⟩) := by rw [hb.out.cell]; rfl
      have d2 : wr.cell? ⟨g, 2, none⟩ = some (.string ⟨#[]⟩) := by rw [hb.out.cell]; rfl
      have hlf := Lib.hid (((hlow.out.setCell (p := ⟨g, 0, none⟩) (by simp) (.int .i64 0)).setCell (p := ⟨g, 1, none⟩) (by simp) (.string ByteArray.empty)).setCell (p := ⟨g, 2, none⟩) (by simp) (.string ByteArray.empty))
      clear hb hI hlow
      go_wp2
      exact bodyPost_ret (v := .agg #[.int .i64 0, .string ByteArray.empty, .string ByteArray.empty]) (by simp [results, Tryz.results58, go_sem, d0, d1, d2] <;> rfl) rfl ⟨by rw [hN.out]; rfl, by rw [HG.out]; exact hlf.out⟩
end Go.Proofs.YtkbgmdabmebdhaaGreatDoor.rgy

/- Entries of a registry: by the reference, whether they may be; whether two lists are the same. -/
namespace Go.Proofs.YtkbgmdabmebdhaaGreatDoor.rgy
open Go.ChangeShapes Go.WideShapes Go.ChangeAt Go.RowKit Go.Proofs.Aid Go.Proofs.YtkbgmdabmebdhaaGreatDoor.name Go.Proofs.YtkbgmdabmebdhaaGreatDoor.reg
theorem set3' {w : World} {g : Nat} {ty : TypeId} {a0 a1 a2 x y z : Value} (hb : Blk w g ty #[a0, a1, a2]) : Blk (((w.setCell ⟨g, 0, none⟩ x).setCell ⟨g, 1, none⟩ y).setCell ⟨g, 2, none⟩ z) g ty #[x, y, z] :=
  ((hb.set_ 0 x).set_ 1 y).set_ 2 z
set_option maxRecDepth 100000 in
set_option maxHeartbeats 4000000 in
theorem rget_any (w : World) (A : Option Addr) (cap : Nat) (rs : List En) (s : ByteArray) (hl : rs.length ≤ 1000000) (h1 : Reads w w.heap.size 4 A rs.length (rs.flatMap En.cells)) :
    Calls Tryz.prog 44 #[.slice A rs.length cap, .string s] w fun e w' => e = .returned (get rs s).val ∧ Below w.heap.size w w' := by
  have H1 := Lib.hid h1
  clear h1
  have hb0 := Lib.hid (Blk.new w 35 #[.int .i64 0, .string ⟨#[]⟩, .string ⟨#[]⟩])
  have hl0 := Lib.hid (below_lit w (.cells #[.int .i64 0, .string ⟨#[]⟩, .string ⟨#[]⟩] 35))
  go_enter Tryz.func44, Tryz.ntmps44
  go_wp2_with fail
  generalize w.alloc (.cells #[.int .i64 0, .string ⟨#[]⟩, .string ⟨#[]⟩] 35) = w2 at *
  generalize hg : w.heap.size = g at *
  have HG := Lib.hid hg
  clear hg
  go_loopw [5] (fun iv wr => ∃ k : Nat, k ≤ rs.length ∧ iv = .int .i64 k ∧ Hid (∀ j (_ : j < rs.length), j < k → rs[j].key ≠ s) ∧ Hid (Blk wr g 35 #[.int .i64 0, .string ⟨#[]⟩, .string ⟨#[]⟩]) ∧ Hid (Below g w wr)) (fun iv _ => rs.length - (intOf iv).toNat)
  case atStart => exact ⟨0, by omega, rfl, fun _ _ h => by omega, hb0, hl0⟩
  case round =>
    clear hb0 hl0
    obtain ⟨k, hk, rfl, hI, hb, hlow⟩ := hrel
    have hgl := hb.out.lt
    by_cases hlt : k < rs.length
    · obtain ⟨ad, rfl, had, c0, c1, c2, c3⟩ := elemE (H1.out.below hlow.out) hlt
      have hfound := Lib.hid (fun h => get_found (s := s) hlt h (fun j hj hjk => hI.out j hj hjk))
      have hnext := Lib.hid (fun h => next_ne (s := s) hlt hI.out h)
      generalize rs[k] = xe at *
      obtain ⟨kk, n, b, v⟩ := xe
      simp only at c0 c1 c2 c3 hfound hnext
      have hbl := (ad.add (k * 4)).block
      have hne : ¬ ((ad.add (k * 4)).block = g) := by rw [block_of_add]; omega
      by_cases he : kk = s
      · have hN := Lib.hid (hfound.out he)
        have f0 := hb.out.frozen 0
        have f1 := hb.out.frozen 1
        have f2 := hb.out.frozen 2
        have he2 := bytes_eq he
        have d0 : wr.cell? ⟨g, 0, none⟩ = some (.int .i64 0) := by rw [hb.out.cell]; rfl
        have d1 : wr.cell? ⟨g, 1, none⟩ = some (.string ⟨#[]⟩) := by rw [hb.out.cell]; rfl
        have d2 : wr.cell? ⟨g, 2, none⟩ = some (.string ⟨#[]⟩) := by rw [hb.out.cell]; rfl
        have hs3 := set3' (x := .int .i64 n) (y := .string b) (z := .string v) hb.out
        have r0 := hs3.cell 0
        have r1 := hs3.cell 1
        have r2 := hs3.cell 2
        have R := Lib.hid (And.intro r0 (And.intro r1 r2))
        have hlf := Lib.hid (((hlow.out.setCell (p := ⟨g, 0, none⟩) (by simp) (.int .i64 n)).setCell (p := ⟨g, 1, none⟩) (by simp) (.string b)).setCell (p := ⟨g, 2, none⟩) (by simp) (.string v))
        clear r0 r1 r2 hs3
        clear he hfound hnext hb hI hlow
        go_wp2
        exact bodyPost_ret (v := .agg #[.int .i64 n, .string b, .string v]) (by obtain ⟨r0, r1, r2⟩ := R.out; simp [results, Tryz.results44, go_sem, r0, r1, r2]) rfl ⟨by rw [hN.out], by rw [HG.out]; exact hlf.out⟩
      · have he2 := bytes_ne he
        have hI2 := Lib.hid (hnext.out he)
        clear he hfound hnext hI
        go_wp2
        go_roundw
        case rel => exact ⟨k + 1, by omega, by go_num, hI2, hb, hlow⟩
        case measure => simp [intOf]; omega
    · have hN := Lib.hid (get_none (s := s) (fun j h => hI.out j h (by omega)))
      have f0 := hb.out.frozen 0
      have f1 := hb.out.frozen 1
      have f2 := hb.out.frozen 2
      have d0 : wr.cell? ⟨g, 0, none⟩ = some (.int .i64 0) := by rw [hb.out.cell]; rfl
      have d1 : wr.cell? ⟨g, 1, none⟩ = some (.string ⟨#[]⟩) := by rw [hb.out.cell]; rfl
      have d2 : wr.cell? ⟨g, 2, none⟩ = some (.string ⟨#[]⟩) := by rw [hb.out.cell]; rfl
      have hlf := Lib.hid (((hlow.out.setCell (p := ⟨g, 0, none⟩) (by simp) (.int .i64 0)).setCell (p := ⟨g, 1, none⟩) (by simp) (.string ByteArray.empty)).setCell (p := ⟨g, 2, none⟩) (by simp) (.string ByteArray.empty))
      clear hb hI hlow
      go_wp2
      exact bodyPost_ret (v := .agg #[.int .i64 0, .string ByteArray.empty, .string ByteArray.empty]) (by simp [results, Tryz.results44, go_sem, d0, d1, d2] <;> rfl) rfl ⟨by rw [hN.out]; rfl, by rw [HG.out]; exact hlf.out⟩
def isEntry (e : En) : Bool := isKey e.key && decide e.reg.may
/-- An entry, and one cell, of what lay before. -/
structure XO (w0 : World) (p q : Addr) (k : ByteArray) (n : Int) (b v : ByteArray) (u : Value) (w' : World) : Prop where
  c0 : w0.cell? p = some (.string k)
  c1 : w0.cell? ⟨p.block, p.off + 1, none⟩ = some (.int .i64 n)
  c2 : w0.cell? ⟨p.block, p.off + 2, none⟩ = some (.string b)
  c3 : w0.cell? ⟨p.block, p.off + 3, none⟩ = some (.string v)
  old : w0.cell? q = some u
  hp : p.block < w0.heap.size
  hq : q.block < w0.heap.size
  low : Below w0.heap.size w0 w'
section
variable {w0 w' w1 : World} {k b v : ByteArray} {n : Int} {p q : Addr} {u : Value}
theorem XO.of (h : XO w0 p q k n b v u w') : w'.cell? p = some (.string k) ∧ w'.cell? ⟨p.block, p.off + 1, none⟩ = some (.int .i64 n) ∧ w'.cell? ⟨p.block, p.off + 2, none⟩ = some (.string b) ∧ w'.cell? ⟨p.block, p.off + 3, none⟩ = some (.string v) ∧ w'.cell? q = some u ∧ Hid (XO w0 p q k n b v u w') :=
  ⟨(h.low.cell h.hp).trans h.c0, (h.low.cell (p := ⟨p.block, p.off + 1, none⟩) h.hp).trans h.c1, (h.low.cell (p := ⟨p.block, p.off + 2, none⟩) h.hp).trans h.c2, (h.low.cell (p := ⟨p.block, p.off + 3, none⟩) h.hp).trans h.c3, (h.low.cell h.hq).trans h.old, h⟩
theorem XO.drew (h : Hid (XO w0 p q k n b v u w')) : w'.drew.cell? p = some (.string k) ∧ w'.drew.cell? ⟨p.block, p.off + 1, none⟩ = some (.int .i64 n) ∧ w'.drew.cell? ⟨p.block, p.off + 2, none⟩ = some (.string b) ∧ w'.drew.cell? ⟨p.block, p.off + 3, none⟩ = some (.string v) ∧ w'.drew.cell? q = some u ∧ Hid (XO w0 p q k n b v u w'.drew) :=
  XO.of ⟨h.c0, h.c1, h.c2, h.c3, h.old, h.hp, h.hq, h.low.drew⟩
theorem XO.step (h : Hid (XO w0 p q k n b v u w')) (hb : Below w'.heap.size w' w1) : w1.cell? p = some (.string k) ∧ w1.cell? ⟨p.block, p.off + 1, none⟩ = some (.int .i64 n) ∧ w1.cell? ⟨p.block, p.off + 2, none⟩ = some (.string b) ∧ w1.cell? ⟨p.block, p.off + 3, none⟩ = some (.string v) ∧ w1.cell? q = some u ∧ Hid (XO w0 p q k n b v u w1) :=
  XO.of ⟨h.c0, h.c1, h.c2, h.c3, h.old, h.hp, h.hq, h.low.trans (hb.mono h.low.size)⟩
end
theorem okAt_eq2 {l : List En} {i : Nat} (h : i < l.length) (h' : i - 1 < l.length) : okAt l i = (isEntry l[i] && (decide (i = 0) || lt l[i - 1].key l[i].key)) := okAt_eq h h'
end Go.Proofs.YtkbgmdabmebdhaaGreatDoor.rgy

/- Entries of a registry: whether two lists are the same. -/
namespace Go.Proofs.YtkbgmdabmebdhaaGreatDoor.rgy
open Go.ChangeShapes Go.WideShapes Go.ChangeAt Go.RowKit Go.Proofs.Aid Go.Proofs.YtkbgmdabmebdhaaGreatDoor.name Go.Proofs.YtkbgmdabmebdhaaGreatDoor.reg
theorem data_eq {a b : ByteArray} (h : a.toList = b.toList) : a = b := by
  apply ByteArray.ext; apply Array.toList_inj.1; rw [← Lib.toList_data, ← Lib.toList_data]; exact h
theorem neqE_at {x y : En} (h : ¬ x = y) (w : World) : (binOp .neq 37 x.val y.val).run Tryz.prog w = .ok (.bool true) w := by
  obtain ⟨k, n, b, v⟩ := x
  obtain ⟨k2, m, c, u⟩ := y
  go_simp
  intro h0 h1 h2 h3
  refine h ?_
  rw [data_eq h0, h1, data_eq h2, data_eq h3]
theorem neqE_same (x : En) (w : World) : (binOp .neq 37 x.val x.val).run Tryz.prog w = .ok (.bool false) w := by
  obtain ⟨k, n, b, v⟩ := x
  go_simp
theorem same_no {xs ys : List En} {k : Nat} (h1 : k < xs.length) (h2 : k < ys.length) (h : ¬ xs[k] = ys[k]) : decide (xs = ys) = false := by
  rw [decide_eq_false_iff_not]; rintro rfl; exact h rfl
theorem same_yes {xs ys : List En} (hl : xs.length = ys.length) (h : ∀ j (h1 : j < xs.length) (h2 : j < ys.length), xs[j] = ys[j]) : decide (xs = ys) = true := by
  rw [decide_eq_true_eq]; exact List.ext_getElem hl fun j h1 h2 => h j h1 h2
end Go.Proofs.YtkbgmdabmebdhaaGreatDoor.rgy

/- Entries of a registry: those under a path, and news, by the package. -/
namespace Go.Proofs.YtkbgmdabmebdhaaGreatDoor.rgy
open Go.ChangeShapes Go.WideShapes Go.ChangeAt Go.RowKit Go.Proofs.Aid Go.Proofs.YtkbgmdabmebdhaaGreatDoor.name Go.Proofs.YtkbgmdabmebdhaaGreatDoor.reg
theorem infoE : (Tryz.prog.info? 37).map (fun i => (i.zero, i.size, i.bytes)) = some (some (.agg #[.string ⟨#[]⟩, .int .i64 0, .string ⟨#[]⟩, .string ⟨#[]⟩]), 4, 56) := by kernel_rfl
def keepE (p : En → Bool) (xs : List En) (k : Nat) : List En := (xs.take k).filter p
theorem keepE_yes {p : En → Bool} {xs : List En} {k : Nat} (h : k < xs.length) (hp : p xs[k] = true) : keepE p xs (k + 1) = keepE p xs k ++ [xs[k]] := by
  unfold keepE; rw [List.take_succ_eq_append_getElem h, List.filter_append]; simp [hp]
theorem keepE_no {p : En → Bool} {xs : List En} {k : Nat} (h : k < xs.length) (hp : p xs[k] = false) : keepE p xs (k + 1) = keepE p xs k := by
  unfold keepE; rw [List.take_succ_eq_append_getElem h, List.filter_append]; simp [hp]
theorem keepE_all (p : En → Bool) (xs : List En) : keepE p xs xs.length = xs.filter p := by unfold keepE; rw [List.take_length]
theorem keepE_len (p : En → Bool) (xs : List En) (k : Nat) : (keepE p xs k).length ≤ k := by
  unfold keepE; exact Nat.le_trans (List.length_filter_le _ _) (List.length_take_le _ _)
def Enters (F : FuncId) : Prop := ∀ (args : Array Value) (w : World), (callFunc F args).run Tryz.prog w = .ok (.enter F args) w
def PredE (B : Nat) (w0 : World) (F : FuncId) (p : Addr) (f : En → Bool) : Prop := ∀ (w : World) (x : En), x.sz → Below B w0 w → Calls Tryz.prog F #[x.val, .pointer (some p)] w fun e w' => e = .returned (.bool (f x)) ∧ Below w.heap.size w w'
/-- A row of entries of the call's own is returned. -/
def RowE (w : World) (xs : List En) (e : Ending) (w' : World) : Prop := ∃ v, e = .returned v ∧ Row w' w.heap.size 37 4 En.cells v xs ∧ Below w.heap.size w w'
theorem one_E (x : En) : ∀ u ∈ x.cells, u.oneCell' = true := by simp [En.cells, Value.oneCell']
end Go.Proofs.YtkbgmdabmebdhaaGreatDoor.rgy

/- Entries of a registry: those under a path, and news. -/
namespace Go.Proofs.YtkbgmdabmebdhaaGreatDoor.rgy
open Go.ChangeShapes Go.WideShapes Go.ChangeAt Go.RowKit Go.Proofs.Aid Go.Proofs.YtkbgmdabmebdhaaGreatDoor.name Go.Proofs.YtkbgmdabmebdhaaGreatDoor.reg
def underP (path : ByteArray) (e : En) : Bool := Lib.hasPrefix e.key.data.toList (path.data.toList ++ [47])
def newsP (b : List En) (e : En) : Bool := e.reg.newer (get b e.key)
end Go.Proofs.YtkbgmdabmebdhaaGreatDoor.rgy

/- Entries of a registry: those under a path, and news, by the reference; few of them. -/
namespace Go.Proofs.YtkbgmdabmebdhaaGreatDoor.rgy
open Go.ChangeShapes Go.WideShapes Go.ChangeAt Go.RowKit Go.Proofs.Aid Go.Proofs.YtkbgmdabmebdhaaGreatDoor.name Go.Proofs.YtkbgmdabmebdhaaGreatDoor.reg
def FewE (w : World) (n : Nat) (xs : List En) (e : Ending) (w' : World) : Prop := ∃ b, e = .returned (.bool b) ∧ Below w.heap.size w w' ∧ (b = true → xs.length ≤ n ∧ ∀ x ∈ xs, x.key.size ≤ 200 ∧ x.reg.few = true)
set_option maxRecDepth 100000 in
set_option maxHeartbeats 4000000 in
theorem rfew_any (w : World) (A : Option Addr) (ca : Nat) (xs : List En) (m : Nat) (hm : m ≤ 1000) (hl : xs.length ≤ maxLen) (h1 : Reads w w.heap.size 4 A xs.length (xs.flatMap En.cells)) (hs : ∀ r ∈ xs, r.sz) :
    Calls Tryz.prog 4 #[.slice A xs.length ca, .int .i64 m] w (FewE w m xs) := by
  have H1 := Lib.hid h1
  have HS := Lib.hid hs
  unfold maxLen at hl
  clear h1 hs
  go_enter Tryz.func4, Tryz.ntmps4
  go_wp2_with fail
  go_loopw [5] (fun iv wr => ∃ k : Nat, k ≤ xs.length ∧ k ≤ m ∧ iv = .int .i64 k ∧ Hid (∀ j (_ : j < xs.length), j < k → xs[j].key.size ≤ 200 ∧ xs[j].reg.few = true) ∧ Hid (Below w.heap.size w wr)) (fun iv _ => xs.length - (intOf iv).toNat)
  case atStart => exact ⟨0, by omega, by omega, rfl, fun _ _ h => by omega, Below.refl _ _⟩
  case round =>
    obtain ⟨k, hk, hkm, rfl, hI, hlow⟩ := hrel
    by_cases hlt : k < xs.length
    · by_cases hlm : k < m
      · obtain ⟨ad, rfl, had, c0, c1, c2, c3⟩ := elemE (H1.out.below hlow.out) hlt
        have hsz := HS.out _ (List.getElem_mem hlt)
        have hnx : Hid (xs[k].key.size ≤ 200 → xs[k].reg.few = true → ∀ j (_ : j < xs.length), j < k + 1 → xs[j].key.size ≤ 200 ∧ xs[j].reg.few = true) := fun h h2 j hj hjk => by
          by_cases e : j < k
          · exact hI.out j hj e
          · have : j = k := by omega
            subst this; exact ⟨h, h2⟩
        clear hI
        generalize xs[k] = xe at *
        obtain ⟨kk, n, b, v⟩ := xe
        obtain ⟨z0, z1, z2⟩ := hsz
        simp only at c0 c1 c2 c3 z0 z1 z2 hnx
        have Z1 := Lib.hid z1
        have Z2 := Lib.hid z2
        have hz := hlow.out.size
        unfold maxLen at z0
        clear z1 z2
        by_cases h200 : kk.size ≤ 200
        · cases hf : Rg.few ⟨n, b, v⟩ with
          | true =>
            have hN := Lib.hid (hnx.out h200 hf)
            have HF := Lib.hid hf
            clear hf hnx
            go_wp2_with fail
            refine (few_any ⟨n, b, v⟩ _ Z1.out Z2.out).mono ?_
            rw [HF.out]
            rintro e w1 ⟨rfl, hb⟩
            have HL := Lib.hid (hlow.out.trans (hb.mono hz))
            clear hb hlow
            go_wp2
            go_roundw
            case rel => exact ⟨k + 1, by omega, by omega, by go_num, hN, HL⟩
            case measure => simp [intOf]; omega
          | false =>
            have HF := Lib.hid hf
            clear hf hnx
            go_wp2_with fail
            refine (few_any ⟨n, b, v⟩ _ Z1.out Z2.out).mono ?_
            rw [HF.out]
            rintro e w1 ⟨rfl, hb⟩
            have HL := Lib.hid (hlow.out.trans (hb.mono hz))
            clear hb hlow
            go_wp2
            go_ret
            exact ⟨_, rfl, HL.out, fun h => by cases h⟩
        · go_wp2
          go_ret
          exact ⟨_, rfl, hlow.out, fun h => by cases h⟩
      · have hkm2 : k = m := by omega
        go_wp2
        go_ret
        exact ⟨_, rfl, hlow.out, fun h => by simp at h; omega⟩
    · have hkl : k = xs.length := by omega
      have hI2 : Hid (∀ x ∈ xs, x.key.size ≤ 200 ∧ x.reg.few = true) := fun x hx => by
        obtain ⟨j, hj, rfl⟩ := List.getElem_of_mem hx
        exact hI.out j hj (by omega)
      clear hI
      go_wp2
      go_ret
      exact ⟨_, rfl, hlow.out, fun h => ⟨by simp at h; omega, hI2.out⟩⟩
theorem pre_iff {α : Type} [BEq α] [LawfulBEq α] (p l : List α) (c : α) : (p ++ [c]).isPrefixOf l = true ↔ p.length < l.length ∧ l.take p.length = p ∧ l[p.length]? = some c := by
  rw [List.isPrefixOf_iff_prefix]
  constructor
  · rintro ⟨t, rfl⟩
    simp
  · rintro ⟨h, h1, h2⟩
    refine ⟨l.drop (p.length + 1), ?_⟩
    have e : l = l.take p.length ++ l.drop p.length := (List.take_append_drop _ _).symm
    rw [List.drop_eq_getElem_cons h] at e
    rw [List.getElem?_eq_getElem h] at h2
    injection h2 with h2
    rw [h1, h2] at e
    rw [List.append_assoc]; exact e.symm
theorem under_long {s kk : ByteArray} {r : Rg} (h : s.size < kk.size) : underP s ⟨kk, r⟩ = (((kk.extract 0 s.size).toList == s.toList) && ((kk[s.size].toNat : Int) == 47)) := by
  rw [Bool.eq_iff_iff]
  unfold underP Lib.hasPrefix
  rw [pre_iff, Bool.and_eq_true, beq_iff_eq, beq_iff_eq]
  have h' : s.data.toList.length < kk.data.toList.length := by simpa using h
  rw [List.getElem?_eq_getElem h', Lib.toList_data, Lib.toList_data]
  have e1 : (kk.extract 0 s.size).data.toList = kk.data.toList.take s.data.toList.length := by simp
  rw [e1]
  have e2 : kk.data.toList[s.data.toList.length] = kk[s.size] := by simp; rfl
  rw [e2]
  constructor
  · rintro ⟨_, h1, h2⟩
    injection h2 with h2
    exact ⟨h1, by rw [h2]; rfl⟩
  · rintro ⟨h1, h2⟩
    refine ⟨h', h1, ?_⟩
    congr 1
    apply UInt8.toNat_inj.1
    show _ = 47
    omega
theorem under_short {s kk : ByteArray} {r : Rg} (h : ¬ s.size < kk.size) : underP s ⟨kk, r⟩ = false := by
  rw [Bool.eq_false_iff]
  unfold underP Lib.hasPrefix
  rw [Ne, pre_iff]
  rintro ⟨h1, _⟩
  exact h (by simpa using h1)
end Go.Proofs.YtkbgmdabmebdhaaGreatDoor.rgy

/- Cells that are known, in a world in which nothing of what lay at first has turned. No condition. -/
namespace Go.Proofs.Aid
open Go.RowKit Go.WideShapes Go.ChangeShapes
structure Kn (M : Nat) (w0 : World) (cs : List (Addr × Value)) (w' : World) : Prop where
  all : ∀ q ∈ cs, w0.cell? q.1 = some q.2 ∧ q.1.block < M
  hM : M ≤ w0.heap.size
  low : Below M w0 w'
theorem Kn.at_ {M : Nat} {w0 w' : World} {cs : List (Addr × Value)} (h : Kn M w0 cs w') {p : Addr} {v : Value} (hm : (p, v) ∈ cs) : w'.cell? p = some v := (h.low.cell (h.all _ hm).2).trans (h.all _ hm).1
theorem Reads.dropL {α : Type} {f : α → List Value} {size : Nat} {w : World} {B : Nat} {A : Option Addr} {xs : List α} (hf : ∀ x, (f x).length = size) (h : Reads w B size A xs.length (xs.flatMap f)) {k cap : Nat} (hk : k ≤ xs.length) (hc : xs.length ≤ cap) :
    Reads w B size (if cap = k then A else A.map (·.add (k * size))) (xs.length - k) ((xs.drop k).flatMap f) := by
  have h1 := h.cut hk hc
  have e : (xs.flatMap f).drop (k * size) = (xs.drop k).flatMap f := by
    have e1 : xs.flatMap f = (xs.take k).flatMap f ++ (xs.drop k).flatMap f := by rw [← List.flatMap_append, List.take_append_drop]
    have e2 : ((xs.take k).flatMap f).length = k * size := by rw [flatLen hf, List.length_take, Nat.min_eq_left hk]
    rw [e1, ← e2, List.drop_left]
  rwa [e] at h1
section
variable {M : Nat} {w0 w' w1 : World} {p0 : Addr} {v0 : Value}
theorem Kn.new_1 (hM : M ≤ w0.heap.size) (h0 : w0.cell? p0 = some v0) (b0 : p0.block < M) : Kn M w0 [(p0, v0)] w0 := ⟨by intro q hq; cases List.mem_singleton.1 hq; exact ⟨h0, b0⟩, hM, Below.refl _ _⟩
theorem Kn.of_1 (h : Kn M w0 [(p0, v0)] w') : w'.cell? p0 = some v0 ∧ Hid (Kn M w0 [(p0, v0)] w') := ⟨h.at_ (by simp), h⟩
theorem Kn.drew_1 (h : Hid (Kn M w0 [(p0, v0)] w')) : w'.drew.cell? p0 = some v0 ∧ Hid (Kn M w0 [(p0, v0)] w'.drew) := Kn.of_1 ⟨h.all, h.hM, h.low.drew⟩
theorem Kn.step_1 (h : Hid (Kn M w0 [(p0, v0)] w')) (hb : Below w'.heap.size w' w1) : w1.cell? p0 = some v0 ∧ Hid (Kn M w0 [(p0, v0)] w1) := Kn.of_1 ⟨h.all, h.hM, h.low.trans (hb.mono (Nat.le_trans h.hM h.low.size))⟩
theorem Kn.far_1 (h : Hid (Kn M w0 [(p0, v0)] w')) (hb : Below M w0 w1) : w1.cell? p0 = some v0 ∧ Hid (Kn M w0 [(p0, v0)] w1) := Kn.of_1 ⟨h.all, h.hM, hb⟩
theorem Kn.alloc_1 (h : Hid (Kn M w0 [(p0, v0)] w')) (x : Obj) : (w'.alloc x).cell? p0 = some v0 ∧ Hid (Kn M w0 [(p0, v0)] (w'.alloc x)) := Kn.of_1 ⟨h.all, h.hM, h.low.alloc (Nat.le_trans h.hM h.low.size) x⟩
end
section
variable {M : Nat} {w0 w' w1 : World} {p0 p1 : Addr} {v0 v1 : Value}
theorem Kn.new_2 (hM : M ≤ w0.heap.size) (h0 : w0.cell? p0 = some v0) (b0 : p0.block < M) (h1 : w0.cell? p1 = some v1) (b1 : p1.block < M) : Kn M w0 [(p0, v0), (p1, v1)] w0 := ⟨by simp only [List.forall_mem_cons, List.not_mem_nil, false_implies, implies_true, and_true]; exact ⟨⟨h0, b0⟩, ⟨h1, b1⟩⟩, hM, Below.refl _ _⟩
theorem Kn.of_2 (h : Kn M w0 [(p0, v0), (p1, v1)] w') : w'.cell? p0 = some v0 ∧ w'.cell? p1 = some v1 ∧ Hid (Kn M w0 [(p0, v0), (p1, v1)] w') := ⟨h.at_ (by simp), h.at_ (by simp), h⟩
theorem Kn.drew_2 (h : Hid (Kn M w0 [(p0, v0), (p1, v1)] w')) : w'.drew.cell? p0 = some v0 ∧ w'.drew.cell? p1 = some v1 ∧ Hid (Kn M w0 [(p0, v0), (p1, v1)] w'.drew) := Kn.of_2 ⟨h.all, h.hM, h.low.drew⟩
theorem Kn.step_2 (h : Hid (Kn M w0 [(p0, v0), (p1, v1)] w')) (hb : Below w'.heap.size w' w1) : w1.cell? p0 = some v0 ∧ w1.cell? p1 = some v1 ∧ Hid (Kn M w0 [(p0, v0), (p1, v1)] w1) := Kn.of_2 ⟨h.all, h.hM, h.low.trans (hb.mono (Nat.le_trans h.hM h.low.size))⟩
theorem Kn.far_2 (h : Hid (Kn M w0 [(p0, v0), (p1, v1)] w')) (hb : Below M w0 w1) : w1.cell? p0 = some v0 ∧ w1.cell? p1 = some v1 ∧ Hid (Kn M w0 [(p0, v0), (p1, v1)] w1) := Kn.of_2 ⟨h.all, h.hM, hb⟩
theorem Kn.alloc_2 (h : Hid (Kn M w0 [(p0, v0), (p1, v1)] w')) (x : Obj) : (w'.alloc x).cell? p0 = some v0 ∧ (w'.alloc x).cell? p1 = some v1 ∧ Hid (Kn M w0 [(p0, v0), (p1, v1)] (w'.alloc x)) := Kn.of_2 ⟨h.all, h.hM, h.low.alloc (Nat.le_trans h.hM h.low.size) x⟩
end
section
variable {M : Nat} {w0 w' w1 : World} {p0 p1 p2 : Addr} {v0 v1 v2 : Value}
theorem Kn.new_3 (hM : M ≤ w0.heap.size) (h0 : w0.cell? p0 = some v0) (b0 : p0.block < M) (h1 : w0.cell? p1 = some v1) (b1 : p1.block < M) (h2 : w0.cell? p2 = some v2) (b2 : p2.block < M) : Kn M w0 [(p0, v0), (p1, v1), (p2, v2)] w0 := ⟨by simp only [List.forall_mem_cons, List.not_mem_nil, false_implies, implies_true, and_true]; exact ⟨⟨h0, b0⟩, ⟨h1, b1⟩, ⟨h2, b2⟩⟩, hM, Below.refl _ _⟩
theorem Kn.of_3 (h : Kn M w0 [(p0, v0), (p1, v1), (p2, v2)] w') : w'.cell? p0 = some v0 ∧ w'.cell? p1 = some v1 ∧ w'.cell? p2 = some v2 ∧ Hid (Kn M w0 [(p0, v0), (p1, v1), (p2, v2)] w') := ⟨h.at_ (by simp), h.at_ (by simp), h.at_ (by simp), h⟩
theorem Kn.drew_3 (h : Hid (Kn M w0 [(p0, v0), (p1, v1), (p2, v2)] w')) : w'.drew.cell? p0 = some v0 ∧ w'.drew.cell? p1 = some v1 ∧ w'.drew.cell? p2 = some v2 ∧ Hid (Kn M w0 [(p0, v0), (p1, v1), (p2, v2)] w'.drew) := Kn.of_3 ⟨h.all, h.hM, h.low.drew⟩
theorem Kn.step_3 (h : Hid (Kn M w0 [(p0, v0), (p1, v1), (p2, v2)] w')) (hb : Below w'.heap.size w' w1) : w1.cell? p0 = some v0 ∧ w1.cell? p1 = some v1 ∧ w1.cell? p2 = some v2 ∧ Hid (Kn M w0 [(p0, v0), (p1, v1), (p2, v2)] w1) := Kn.of_3 ⟨h.all, h.hM, h.low.trans (hb.mono (Nat.le_trans h.hM h.low.size))⟩
theorem Kn.far_3 (h : Hid (Kn M w0 [(p0, v0), (p1, v1), (p2, v2)] w')) (hb : Below M w0 w1) : w1.cell? p0 = some v0 ∧ w1.cell? p1 = some v1 ∧ w1.cell? p2 = some v2 ∧ Hid (Kn M w0 [(p0, v0), (p1, v1), (p2, v2)] w1) := Kn.of_3 ⟨h.all, h.hM, hb⟩
theorem Kn.alloc_3 (h : Hid (Kn M w0 [(p0, v0), (p1, v1), (p2, v2)] w')) (x : Obj) : (w'.alloc x).cell? p0 = some v0 ∧ (w'.alloc x).cell? p1 = some v1 ∧ (w'.alloc x).cell? p2 = some v2 ∧ Hid (Kn M w0 [(p0, v0), (p1, v1), (p2, v2)] (w'.alloc x)) := Kn.of_3 ⟨h.all, h.hM, h.low.alloc (Nat.le_trans h.hM h.low.size) x⟩
end
section
variable {M : Nat} {w0 w' w1 : World} {p0 p1 p2 p3 : Addr} {v0 v1 v2 v3 : Value}
theorem Kn.new_4 (hM : M ≤ w0.heap.size) (h0 : w0.cell? p0 = some v0) (b0 : p0.block < M) (h1 : w0.cell? p1 = some v1) (b1 : p1.block < M) (h2 : w0.cell? p2 = some v2) (b2 : p2.block < M) (h3 : w0.cell? p3 = some v3) (b3 : p3.block < M) : Kn M w0 [(p0, v0), (p1, v1), (p2, v2), (p3, v3)] w0 := ⟨by simp only [List.forall_mem_cons, List.not_mem_nil, false_implies, implies_true, and_true]; exact ⟨⟨h0, b0⟩, ⟨h1, b1⟩, ⟨h2, b2⟩, ⟨h3, b3⟩⟩, hM, Below.refl _ _⟩
theorem Kn.of_4 (h : Kn M w0 [(p0, v0), (p1, v1), (p2, v2), (p3, v3)] w') : w'.cell? p0 = some v0 ∧ w'.cell? p1 = some v1 ∧ w'.cell? p2 = some v2 ∧ w'.cell? p3 = some v3 ∧ Hid (Kn M w0 [(p0, v0), (p1, v1), (p2, v2), (p3, v3)] w') := ⟨h.at_ (by simp), h.at_ (by simp), h.at_ (by simp), h.at_ (by simp), h⟩
theorem Kn.drew_4 (h : Hid (Kn M w0 [(p0, v0), (p1, v1), (p2, v2), (p3, v3)] w')) : w'.drew.cell? p0 = some v0 ∧ w'.drew.cell? p1 = some v1 ∧ w'.drew.cell? p2 = some v2 ∧ w'.drew.cell? p3 = some v3 ∧ Hid (Kn M w0 [(p0, v0), (p1, v1), (p2, v2), (p3, v3)] w'.drew) := Kn.of_4 ⟨h.all, h.hM, h.low.drew⟩
theorem Kn.step_4 (h : Hid (Kn M w0 [(p0, v0), (p1, v1), (p2, v2), (p3, v3)] w')) (hb : Below w'.heap.size w' w1) : w1.cell? p0 = some v0 ∧ w1.cell? p1 = some v1 ∧ w1.cell? p2 = some v2 ∧ w1.cell? p3 = some v3 ∧ Hid (Kn M w0 [(p0, v0), (p1, v1), (p2, v2), (p3, v3)] w1) := Kn.of_4 ⟨h.all, h.hM, h.low.trans (hb.mono (Nat.le_trans h.hM h.low.size))⟩
theorem Kn.far_4 (h : Hid (Kn M w0 [(p0, v0), (p1, v1), (p2, v2), (p3, v3)] w')) (hb : Below M w0 w1) : w1.cell? p0 = some v0 ∧ w1.cell? p1 = some v1 ∧ w1.cell? p2 = some v2 ∧ w1.cell? p3 = some v3 ∧ Hid (Kn M w0 [(p0, v0), (p1, v1), (p2, v2), (p3, v3)] w1) := Kn.of_4 ⟨h.all, h.hM, hb⟩
theorem Kn.alloc_4 (h : Hid (Kn M w0 [(p0, v0), (p1, v1), (p2, v2), (p3, v3)] w')) (x : Obj) : (w'.alloc x).cell? p0 = some v0 ∧ (w'.alloc x).cell? p1 = some v1 ∧ (w'.alloc x).cell? p2 = some v2 ∧ (w'.alloc x).cell? p3 = some v3 ∧ Hid (Kn M w0 [(p0, v0), (p1, v1), (p2, v2), (p3, v3)] (w'.alloc x)) := Kn.of_4 ⟨h.all, h.hM, h.low.alloc (Nat.le_trans h.hM h.low.size) x⟩
end
section
variable {M : Nat} {w0 w' w1 : World} {p0 p1 p2 p3 p4 : Addr} {v0 v1 v2 v3 v4 : Value}
theorem Kn.new_5 (hM : M ≤ w0.heap.size) (h0 : w0.cell? p0 = some v0) (b0 : p0.block < M) (h1 : w0.cell? p1 = some v1) (b1 : p1.block < M) (h2 : w0.cell? p2 = some v2) (b2 : p2.block < M) (h3 : w0.cell? p3 = some v3) (b3 : p3.block < M) (h4 : w0.cell? p4 = some v4) (b4 : p4.block < M) : Kn M w0 [(p0, v0), (p1, v1), (p2, v2), (p3, v3), (p4, v4)] w0 := ⟨by simp only [List.forall_mem_cons, List.not_mem_nil, false_implies, implies_true, and_true]; exact ⟨⟨h0, b0⟩, ⟨h1, b1⟩, ⟨h2, b2⟩, ⟨h3, b3⟩, ⟨h4, b4⟩⟩, hM, Below.refl _ _⟩
theorem Kn.of_5 (h : Kn M w0 [(p0, v0), (p1, v1), (p2, v2), (p3, v3), (p4, v4)] w') : w'.cell? p0 = some v0 ∧ w'.cell? p1 = some v1 ∧ w'.cell? p2 = some v2 ∧ w'.cell? p3 = some v3 ∧ w'.cell? p4 = some v4 ∧ Hid (Kn M w0 [(p0, v0), (p1, v1), (p2, v2), (p3, v3), (p4, v4)] w') := ⟨h.at_ (by simp), h.at_ (by simp), h.at_ (by simp), h.at_ (by simp), h.at_ (by simp), h⟩
theorem Kn.drew_5 (h : Hid (Kn M w0 [(p0, v0), (p1, v1), (p2, v2), (p3, v3), (p4, v4)] w')) : w'.drew.cell? p0 = some v0 ∧ w'.drew.cell? p1 = some v1 ∧ w'.drew.cell? p2 = some v2 ∧ w'.drew.cell? p3 = some v3 ∧ w'.drew.cell? p4 = some v4 ∧ Hid (Kn M w0 [(p0, v0), (p1, v1), (p2, v2), (p3, v3), (p4, v4)] w'.drew) := Kn.of_5 ⟨h.all, h.hM, h.low.drew⟩
theorem Kn.step_5 (h : Hid (Kn M w0 [(p0, v0), (p1, v1), (p2, v2), (p3, v3), (p4, v4)] w')) (hb : Below w'.heap.size w' w1) : w1.cell? p0 = some v0 ∧ w1.cell? p1 = some v1 ∧ w1.cell? p2 = some v2 ∧ w1.cell? p3 = some v3 ∧ w1.cell? p4 = some v4 ∧ Hid (Kn M w0 [(p0, v0), (p1, v1), (p2, v2), (p3, v3), (p4, v4)] w1) := Kn.of_5 ⟨h.all, h.hM, h.low.trans (hb.mono (Nat.le_trans h.hM h.low.size))⟩
theorem Kn.far_5 (h : Hid (Kn M w0 [(p0, v0), (p1, v1), (p2, v2), (p3, v3), (p4, v4)] w')) (hb : Below M w0 w1) : w1.cell? p0 = some v0 ∧ w1.cell? p1 = some v1 ∧ w1.cell? p2 = some v2 ∧ w1.cell? p3 = some v3 ∧ w1.cell? p4 = some v4 ∧ Hid (Kn M w0 [(p0, v0), (p1, v1), (p2, v2), (p3, v3), (p4, v4)] w1) := Kn.of_5 ⟨h.all, h.hM, hb⟩
theorem Kn.alloc_5 (h : Hid (Kn M w0 [(p0, v0), (p1, v1), (p2, v2), (p3, v3), (p4, v4)] w')) (x : Obj) : (w'.alloc x).cell? p0 = some v0 ∧ (w'.alloc x).cell? p1 = some v1 ∧ (w'.alloc x).cell? p2 = some v2 ∧ (w'.alloc x).cell? p3 = some v3 ∧ (w'.alloc x).cell? p4 = some v4 ∧ Hid (Kn M w0 [(p0, v0), (p1, v1), (p2, v2), (p3, v3), (p4, v4)] (w'.alloc x)) := Kn.of_5 ⟨h.all, h.hM, h.low.alloc (Nat.le_trans h.hM h.low.size) x⟩
end
section
variable {M : Nat} {w0 w' w1 : World} {p0 p1 p2 p3 p4 p5 : Addr} {v0 v1 v2 v3 v4 v5 : Value}
theorem Kn.new_6 (hM : M ≤ w0.heap.size) (h0 : w0.cell? p0 = some v0) (b0 : p0.block < M) (h1 : w0.cell? p1 = some v1) (b1 : p1.block < M) (h2 : w0.cell? p2 = some v2) (b2 : p2.block < M) (h3 : w0.cell? p3 = some v3) (b3 : p3.block < M) (h4 : w0.cell? p4 = some v4) (b4 : p4.block < M) (h5 : w0.cell? p5 = some v5) (b5 : p5.block < M) : Kn M w0 [(p0, v0), (p1, v1), (p2, v2), (p3, v3), (p4, v4), (p5, v5)] w0 := ⟨by simp only [List.forall_mem_cons, List.not_mem_nil, false_implies, implies_true, and_true]; exact ⟨⟨h0, b0⟩, ⟨h1, b1⟩, ⟨h2, b2⟩, ⟨h3, b3⟩, ⟨h4, b4⟩, ⟨h5, b5⟩⟩, hM, Below.refl _ _⟩
theorem Kn.of_6 (h : Kn M w0 [(p0, v0), (p1, v1), (p2, v2), (p3, v3), (p4, v4), (p5, v5)] w') : w'.cell? p0 = some v0 ∧ w'.cell? p1 = some v1 ∧ w'.cell? p2 = some v2 ∧ w'.cell? p3 = some v3 ∧ w'.cell? p4 = some v4 ∧ w'.cell? p5 = some v5 ∧ Hid (Kn M w0 [(p0, v0), (p1, v1), (p2, v2), (p3, v3), (p4, v4), (p5, v5)] w') := ⟨h.at_ (by simp), h.at_ (by simp), h.at_ (by simp), h.at_ (by simp), h.at_ (by simp), h.at_ (by simp), h⟩
theorem Kn.drew_6 (h : Hid (Kn M w0 [(p0, v0), (p1, v1), (p2, v2), (p3, v3), (p4, v4), (p5, v5)] w')) : w'.drew.cell? p0 = some v0 ∧ w'.drew.cell? p1 = some v1 ∧ w'.drew.cell? p2 = some v2 ∧ w'.drew.cell? p3 = some v3 ∧ w'.drew.cell? p4 = some v4 ∧ w'.drew.cell? p5 = some v5 ∧ Hid (Kn M w0 [(p0, v0), (p1, v1), (p2, v2), (p3, v3), (p4, v4), (p5, v5)] w'.drew) := Kn.of_6 ⟨h.all, h.hM, h.low.drew⟩
theorem Kn.step_6 (h : Hid (Kn M w0 [(p0, v0), (p1, v1), (p2, v2), (p3, v3), (p4, v4), (p5, v5)] w')) (hb : Below w'.heap.size w' w1) : w1.cell? p0 = some v0 ∧ w1.cell? p1 = some v1 ∧ w1.cell? p2 = some v2 ∧ w1.cell? p3 = some v3 ∧ w1.cell? p4 = some v4 ∧ w1.cell? p5 = some v5 ∧ Hid (Kn M w0 [(p0, v0), (p1, v1), (p2, v2), (p3, v3), (p4, v4), (p5, v5)] w1) := Kn.of_6 ⟨h.all, h.hM, h.low.trans (hb.mono (Nat.le_trans h.hM h.low.size))⟩
theorem Kn.far_6 (h : Hid (Kn M w0 [(p0, v0), (p1, v1), (p2, v2), (p3, v3), (p4, v4), (p5, v5)] w')) (hb : Below M w0 w1) : w1.cell? p0 = some v0 ∧ w1.cell? p1 = some v1 ∧ w1.cell? p2 = some v2 ∧ w1.cell? p3 = some v3 ∧ w1.cell? p4 = some v4 ∧ w1.cell? p5 = some v5 ∧ Hid (Kn M w0 [(p0, v0), (p1, v1), (p2, v2), (p3, v3), (p4, v4), (p5, v5)] w1) := Kn.of_6 ⟨h.all, h.hM, hb⟩
theorem Kn.alloc_6 (h : Hid (Kn M w0 [(p0, v0), (p1, v1), (p2, v2), (p3, v3), (p4, v4), (p5, v5)] w')) (x : Obj) : (w'.alloc x).cell? p0 = some v0 ∧ (w'.alloc x).cell? p1 = some v1 ∧ (w'.alloc x).cell? p2 = some v2 ∧ (w'.alloc x).cell? p3 = some v3 ∧ (w'.alloc x).cell? p4 = some v4 ∧ (w'.alloc x).cell? p5 = some v5 ∧ Hid (Kn M w0 [(p0, v0), (p1, v1), (p2, v2), (p3, v3), (p4, v4), (p5, v5)] (w'.alloc x)) := Kn.of_6 ⟨h.all, h.hM, h.low.alloc (Nat.le_trans h.hM h.low.size) x⟩
end
section
variable {M : Nat} {w0 w' w1 : World} {p0 p1 p2 p3 p4 p5 p6 : Addr} {v0 v1 v2 v3 v4 v5 v6 : Value}
theorem Kn.new_7 (hM : M ≤ w0.heap.size) (h0 : w0.cell? p0 = some v0) (b0 : p0.block < M) (h1 : w0.cell? p1 = some v1) (b1 : p1.block < M) (h2 : w0.cell? p2 = some v2) (b2 : p2.block < M) (h3 : w0.cell? p3 = some v3) (b3 : p3.block < M) (h4 : w0.cell? p4 = some v4) (b4 : p4.block < M) (h5 : w0.cell? p5 = some v5) (b5 : p5.block < M) (h6 : w0.cell? p6 = some v6) (b6 : p6.block < M) : Kn M w0 [(p0, v0), (p1, v1), (p2, v2), (p3, v3), (p4, v4), (p5, v5), (p6, v6)] w0 := ⟨by simp only [List.forall_mem_cons, List.not_mem_nil, false_implies, implies_true, and_true]; exact ⟨⟨h0, b0⟩, ⟨h1, b1⟩, ⟨h2, b2⟩, ⟨h3, b3⟩, ⟨h4, b4⟩, ⟨h5, b5⟩, ⟨h6, b6⟩⟩, hM, Below.refl _ _⟩
theorem Kn.of_7 (h : Kn M w0 [(p0, v0), (p1, v1), (p2, v2), (p3, v3), (p4, v4), (p5, v5), (p6, v6)] w') : w'.cell? p0 = some v0 ∧ w'.cell? p1 = some v1 ∧ w'.cell? p2 = some v2 ∧ w'.cell? p3 = some v3 ∧ w'.cell? p4 = some v4 ∧ w'.cell? p5 = some v5 ∧ w'.cell? p6 = some v6 ∧ Hid (Kn M w0 [(p0, v0), (p1, v1), (p2, v2), (p3, v3), (p4, v4), (p5, v5), (p6, v6)] w') := ⟨h.at_ (by simp), h.at_ (by simp), h.at_ (by simp), h.at_ (by simp), h.at_ (by simp), h.at_ (by simp), h.at_ (by simp), h⟩
theorem Kn.drew_7 (h : Hid (Kn M w0 [(p0, v0), (p1, v1), (p2, v2), (p3, v3), (p4, v4), (p5, v5), (p6, v6)] w')) : w'.drew.cell? p0 = some v0 ∧ w'.drew.cell? p1 = some v1 ∧ w'.drew.cell? p2 = some v2 ∧ w'.drew.cell? p3 = some v3 ∧ w'.drew.cell? p4 = some v4 ∧ w'.drew.cell? p5 = some v5 ∧ w'.drew.cell? p6 = some v6 ∧ Hid (Kn M w0 [(p0, v0), (p1, v1), (p2, v2), (p3, v3), (p4, v4), (p5, v5), (p6, v6)] w'.drew) := Kn.of_7 ⟨h.all, h.hM, h.low.drew⟩
theorem Kn.step_7 (h : Hid (Kn M w0 [(p0, v0), (p1, v1), (p2, v2), (p3, v3), (p4, v4), (p5, v5), (p6, v6)] w')) (hb : Below w'.heap.size w' w1) : w1.cell? p0 = some v0 ∧ w1.cell? p1 = some v1 ∧ w1.cell? p2 = some v2 ∧ w1.cell? p3 = some v3 ∧ w1.cell? p4 = some v4 ∧ w1.cell? p5 = some v5 ∧ w1.cell? p6 = some v6 ∧ Hid (Kn M w0 [(p0, v0), (p1, v1), (p2, v2), (p3, v3), (p4, v4), (p5, v5), (p6, v6)] w1) := Kn.of_7 ⟨h.all, h.hM, h.low.trans (hb.mono (Nat.le_trans h.hM h.low.size))⟩
theorem Kn.far_7 (h : Hid (Kn M w0 [(p0, v0), (p1, v1), (p2, v2), (p3, v3), (p4, v4), (p5, v5), (p6, v6)] w')) (hb : Below M w0 w1) : w1.cell? p0 = some v0 ∧ w1.cell? p1 = some v1 ∧ w1.cell? p2 = some v2 ∧ w1.cell? p3 = some v3 ∧ w1.cell? p4 = some v4 ∧ w1.cell? p5 = some v5 ∧ w1.cell? p6 = some v6 ∧ Hid (Kn M w0 [(p0, v0), (p1, v1), (p2, v2), (p3, v3), (p4, v4), (p5, v5), (p6, v6)] w1) := Kn.of_7 ⟨h.all, h.hM, hb⟩
theorem Kn.alloc_7 (h : Hid (Kn M w0 [(p0, v0), (p1, v1), (p2, v2), (p3, v3), (p4, v4), (p5, v5), (p6, v6)] w')) (x : Obj) : (w'.alloc x).cell? p0 = some v0 ∧ (w'.alloc x).cell? p1 = some v1 ∧ (w'.alloc x).cell? p2 = some v2 ∧ (w'.alloc x).cell? p3 = some v3 ∧ (w'.alloc x).cell? p4 = some v4 ∧ (w'.alloc x).cell? p5 = some v5 ∧ (w'.alloc x).cell? p6 = some v6 ∧ Hid (Kn M w0 [(p0, v0), (p1, v1), (p2, v2), (p3, v3), (p4, v4), (p5, v5), (p6, v6)] (w'.alloc x)) := Kn.of_7 ⟨h.all, h.hM, h.low.alloc (Nat.le_trans h.hM h.low.size) x⟩
end
section
variable {M : Nat} {w0 w' w1 : World} {p0 p1 p2 p3 p4 p5 p6 p7 : Addr} {v0 v1 v2 v3 v4 v5 v6 v7 : Value}
theorem Kn.new_8 (hM : M ≤ w0.heap.size) (h0 : w0.cell? p0 = some v0) (b0 : p0.block < M) (h1 : w0.cell? p1 = some v1) (b1 : p1.block < M) (h2 : w0.cell? p2 = some v2) (b2 : p2.block < M) (h3 : w0.cell? p3 = some v3) (b3 : p3.block < M) (h4 : w0.cell? p4 = some v4) (b4 : p4.block < M) (h5 : w0.cell? p5 = some v5) (b5 : p5.block < M) (h6 : w0.cell? p6 = some v6) (b6 : p6.block < M) (h7 : w0.cell? p7 = some v7) (b7 : p7.block < M) : Kn M w0 [(p0, v0), (p1, v1), (p2, v2), (p3, v3), (p4, v4), (p5, v5), (p6, v6), (p7, v7)] w0 := ⟨by simp only [List.forall_mem_cons, List.not_mem_nil, false_implies, implies_true, and_true]; exact ⟨⟨h0, b0⟩, ⟨h1, b1⟩, ⟨h2, b2⟩, ⟨h3, b3⟩, ⟨h4, b4⟩, ⟨h5, b5⟩, ⟨h6, b6⟩, ⟨h7, b7⟩⟩, hM, Below.refl _ _⟩
theorem Kn.of_8 (h : Kn M w0 [(p0, v0), (p1, v1), (p2, v2), (p3, v3), (p4, v4), (p5, v5), (p6, v6), (p7, v7)] w') : w'.cell? p0 = some v0 ∧ w'.cell? p1 = some v1 ∧ w'.cell? p2 = some v2 ∧ w'.cell? p3 = some v3 ∧ w'.cell? p4 = some v4 ∧ w'.cell? p5 = some v5 ∧ w'.cell? p6 = some v6 ∧ w'.cell? p7 = some v7 ∧ Hid (Kn M w0 [(p0, v0), (p1, v1), (p2, v2), (p3, v3), (p4, v4), (p5, v5), (p6, v6), (p7, v7)] w') := ⟨h.at_ (by simp), h.at_ (by simp), h.at_ (by simp), h.at_ (by simp), h.at_ (by simp), h.at_ (by simp), h.at_ (by simp), h.at_ (by simp), h⟩
theorem Kn.drew_8 (h : Hid (Kn M w0 [(p0, v0), (p1, v1), (p2, v2), (p3, v3), (p4, v4), (p5, v5), (p6, v6), (p7, v7)] w')) : w'.drew.cell? p0 = some v0 ∧ w'.drew.cell? p1 = some v1 ∧ w'.drew.cell? p2 = some v2 ∧ w'.drew.cell? p3 = some v3 ∧ w'.drew.cell? p4 = some v4 ∧ w'.drew.cell? p5 = some v5 ∧ w'.drew.cell? p6 = some v6 ∧ w'.drew.cell? p7 = some v7 ∧ Hid (Kn M w0 [(p0, v0), (p1, v1), (p2, v2), (p3, v3), (p4, v4), (p5, v5), (p6, v6), (p7, v7)] w'.drew) := Kn.of_8 ⟨h.all, h.hM, h.low.drew⟩
theorem Kn.step_8 (h : Hid (Kn M w0 [(p0, v0), (p1, v1), (p2, v2), (p3, v3), (p4, v4), (p5, v5), (p6, v6), (p7, v7)] w')) (hb : Below w'.heap.size w' w1) : w1.cell? p0 = some v0 ∧ w1.cell? p1 = some v1 ∧ w1.cell? p2 = some v2 ∧ w1.cell? p3 = some v3 ∧ w1.cell? p4 = some v4 ∧ w1.cell? p5 = some v5 ∧ w1.cell? p6 = some v6 ∧ w1.cell? p7 = some v7 ∧ Hid (Kn M w0 [(p0, v0), (p1, v1), (p2, v2), (p3, v3), (p4, v4), (p5, v5), (p6, v6), (p7, v7)] w1) := Kn.of_8 ⟨h.all, h.hM, h.low.trans (hb.mono (Nat.le_trans h.hM h.low.size))⟩
theorem Kn.far_8 (h : Hid (Kn M w0 [(p0, v0), (p1, v1), (p2, v2), (p3, v3), (p4, v4), (p5, v5), (p6, v6), (p7, v7)] w')) (hb : Below M w0 w1) : w1.cell? p0 = some v0 ∧ w1.cell? p1 = some v1 ∧ w1.cell? p2 = some v2 ∧ w1.cell? p3 = some v3 ∧ w1.cell? p4 = some v4 ∧ w1.cell? p5 = some v5 ∧ w1.cell? p6 = some v6 ∧ w1.cell? p7 = some v7 ∧ Hid (Kn M w0 [(p0, v0), (p1, v1), (p2, v2), (p3, v3), (p4, v4), (p5, v5), (p6, v6), (p7, v7)] w1) := Kn.of_8 ⟨h.all, h.hM, hb⟩
theorem Kn.alloc_8 (h : Hid (Kn M w0 [(p0, v0), (p1, v1), (p2, v2), (p3, v3), (p4, v4), (p5, v5), (p6, v6), (p7, v7)] w')) (x : Obj) : (w'.alloc x).cell? p0 = some v0 ∧ (w'.alloc x).cell? p1 = some v1 ∧ (w'.alloc x).cell? p2 = some v2 ∧ (w'.alloc x).cell? p3 = some v3 ∧ (w'.alloc x).cell? p4 = some v4 ∧ (w'.alloc x).cell? p5 = some v5 ∧ (w'.alloc x).cell? p6 = some v6 ∧ (w'.alloc x).cell? p7 = some v7 ∧ Hid (Kn M w0 [(p0, v0), (p1, v1), (p2, v2), (p3, v3), (p4, v4), (p5, v5), (p6, v6), (p7, v7)] (w'.alloc x)) := Kn.of_8 ⟨h.all, h.hM, h.low.alloc (Nat.le_trans h.hM h.low.size) x⟩
end
section
variable {M : Nat} {w0 w' w1 : World} {p0 p1 p2 p3 p4 p5 p6 p7 p8 : Addr} {v0 v1 v2 v3 v4 v5 v6 v7 v8 : Value}
theorem Kn.new_9 (hM : M ≤ w0.heap.size) (h0 : w0.cell? p0 = some v0) (b0 : p0.block < M) (h1 : w0.cell? p1 = some v1) (b1 : p1.block < M) (h2 : w0.cell? p2 = some v2) (b2 : p2.block < M) (h3 : w0.cell? p3 = some v3) (b3 : p3.block < M) (h4 : w0.cell? p4 = some v4) (b4 : p4.block < M) (h5 : w0.cell? p5 = some v5) (b5 : p5.block < M) (h6 : w0.cell? p6 = some v6) (b6 : p6.block < M) (h7 : w0.cell? p7 = some v7) (b7 : p7.block < M) (h8 : w0.cell? p8 = some v8) (b8 : p8.block < M) : Kn M w0 [(p0, v0), (p1, v1), (p2, v2), (p3, v3), (p4, v4), (p5, v5), (p6, v6), (p7, v7), (p8, v8)] w0 := ⟨by simp only [List.forall_mem_cons, List.not_mem_nil, false_implies, implies_true, and_true]; exact ⟨⟨h0, b0⟩, ⟨h1, b1⟩, ⟨h2, b2⟩, ⟨h3, b3⟩, ⟨h4, b4⟩, ⟨h5, b5⟩, ⟨h6, b6⟩, ⟨h7, b7⟩, ⟨h8, b8⟩⟩, hM, Below.refl _ _⟩
theorem Kn.of_9 (h : Kn M w0 [(p0, v0), (p1, v1), (p2, v2), (p3, v3), (p4, v4), (p5, v5), (p6, v6), (p7, v7), (p8, v8)] w') : w'.cell? p0 = some v0 ∧ w'.cell? p1 = some v1 ∧ w'.cell? p2 = some v2 ∧ w'.cell? p3 = some v3 ∧ w'.cell? p4 = some v4 ∧ w'.cell? p5 = some v5 ∧ w'.cell? p6 = some v6 ∧ w'.cell? p7 = some v7 ∧ w'.cell? p8 = some v8 ∧ Hid (Kn M w0 [(p0, v0), (p1, v1), (p2, v2), (p3, v3), (p4, v4), (p5, v5), (p6, v6), (p7, v7), (p8, v8)] w') := ⟨h.at_ (by simp), h.at_ (by simp), h.at_ (by simp), h.at_ (by simp), h.at_ (by simp), h.at_ (by simp), h.at_ (by simp), h.at_ (by simp), h.at_ (by simp), h⟩
theorem Kn.drew_9 (h : Hid (Kn M w0 [(p0, v0), (p1, v1), (p2, v2), (p3, v3), (p4, v4), (p5, v5), (p6, v6), (p7, v7), (p8, v8)] w')) : w'.drew.cell? p0 = some v0 ∧ w'.drew.cell? p1 = some v1 ∧ w'.drew.cell? p2 = some v2 ∧ w'.drew.cell? p3 = some v3 ∧ w'.drew.cell? p4 = some v4 ∧ w'.drew.cell? p5 = some v5 ∧ w'.drew.cell? p6 = some v6 ∧ w'.drew.cell? p7 = some v7 ∧ w'.drew.cell? p8 = some v8 ∧ Hid (Kn M w0 [(p0, v0), (p1, v1), (p2, v2), (p3, v3), (p4, v4), (p5, v5), (p6, v6), (p7, v7), (p8, v8)] w'.drew) := Kn.of_9 ⟨h.all, h.hM, h.low.drew⟩
theorem Kn.step_9 (h : Hid (Kn M w0 [(p0, v0), (p1, v1), (p2, v2), (p3, v3), (p4, v4), (p5, v5), (p6, v6), (p7, v7), (p8, v8)] w')) (hb : Below w'.heap.size w' w1) : w1.cell? p0 = some v0 ∧ w1.cell? p1 = some v1 ∧ w1.cell? p2 = some v2 ∧ w1.cell? p3 = some v3 ∧ w1.cell? p4 = some v4 ∧ w1.cell? p5 = some v5 ∧ w1.cell? p6 = some v6 ∧ w1.cell? p7 = some v7 ∧ w1.cell? p8 = some v8 ∧ Hid (Kn M w0 [(p0, v0), (p1, v1), (p2, v2), (p3, v3), (p4, v4), (p5, v5), (p6, v6), (p7, v7), (p8, v8)] w1) := Kn.of_9 ⟨h.all, h.hM, h.low.trans (hb.mono (Nat.le_trans h.hM h.low.size))⟩
theorem Kn.far_9 (h : Hid (Kn M w0 [(p0, v0), (p1, v1), (p2, v2), (p3, v3), (p4, v4), (p5, v5), (p6, v6), (p7, v7), (p8, v8)] w')) (hb : Below M w0 w1) : w1.cell? p0 = some v0 ∧ w1.cell? p1 = some v1 ∧ w1.cell? p2 = some v2 ∧ w1.cell? p3 = some v3 ∧ w1.cell? p4 = some v4 ∧ w1.cell? p5 = some v5 ∧ w1.cell? p6 = some v6 ∧ w1.cell? p7 = some v7 ∧ w1.cell? p8 = some v8 ∧ Hid (Kn M w0 [(p0, v0), (p1, v1), (p2, v2), (p3, v3), (p4, v4), (p5, v5), (p6, v6), (p7, v7), (p8, v8)] w1) := Kn.of_9 ⟨h.all, h.hM, hb⟩
theorem Kn.alloc_9 (h : Hid (Kn M w0 [(p0, v0), (p1, v1), (p2, v2), (p3, v3), (p4, v4), (p5, v5), (p6, v6), (p7, v7), (p8, v8)] w')) (x : Obj) : (w'.alloc x).cell? p0 = some v0 ∧ (w'.alloc x).cell? p1 = some v1 ∧ (w'.alloc x).cell? p2 = some v2 ∧ (w'.alloc x).cell? p3 = some v3 ∧ (w'.alloc x).cell? p4 = some v4 ∧ (w'.alloc x).cell? p5 = some v5 ∧ (w'.alloc x).cell? p6 = some v6 ∧ (w'.alloc x).cell? p7 = some v7 ∧ (w'.alloc x).cell? p8 = some v8 ∧ Hid (Kn M w0 [(p0, v0), (p1, v1), (p2, v2), (p3, v3), (p4, v4), (p5, v5), (p6, v6), (p7, v7), (p8, v8)] (w'.alloc x)) := Kn.of_9 ⟨h.all, h.hM, h.low.alloc (Nat.le_trans h.hM h.low.size) x⟩
end
section
variable {M : Nat} {w0 w' w1 : World} {p0 p1 p2 p3 p4 p5 p6 p7 p8 p9 : Addr} {v0 v1 v2 v3 v4 v5 v6 v7 v8 v9 : Value}
theorem Kn.new_10 (hM : M ≤ w0.heap.size) (h0 : w0.cell? p0 = some v0) (b0 : p0.block < M) (h1 : w0.cell? p1 = some v1) (b1 : p1.block < M) (h2 : w0.cell? p2 = some v2) (b2 : p2.block < M) (h3 : w0.cell? p3 = some v3) (b3 : p3.block < M) (h4 : w0.cell? p4 = some v4) (b4 : p4.block < M) (h5 : w0.cell? p5 = some v5) (b5 : p5.block < M) (h6 : w0.cell? p6 = some v6) (b6 : p6.block < M) (h7 : w0.cell? p7 = some v7) (b7 : p7.block < M) (h8 : w0.cell? p8 = some v8) (b8 : p8.block < M) (h9 : w0.cell? p9 = some v9) (b9 : p9.block < M) : Kn M w0 [(p0, v0), (p1, v1), (p2, v2), (p3, v3), (p4, v4), (p5, v5), (p6, v6), (p7, v7), (p8, v8), (p9, v9)] w0 := ⟨by simp only [List.forall_mem_cons, List.not_mem_nil, false_implies, implies_true, and_true]; exact ⟨⟨h0, b0⟩, ⟨h1, b1⟩, ⟨h2, b2⟩, ⟨h3, b3⟩, ⟨h4, b4⟩, ⟨h5, b5⟩, ⟨h6, b6⟩, ⟨h7, b7⟩, ⟨h8, b8⟩, ⟨h9, b9⟩⟩, hM, Below.refl _ _⟩
theorem Kn.of_10 (h : Kn M w0 [(p0, v0), (p1, v1), (p2, v2), (p3, v3), (p4, v4), (p5, v5), (p6, v6), (p7, v7), (p8, v8), (p9, v9)] w') : w'.cell? p0 = some v0 ∧ w'.cell? p1 = some v1 ∧ w'.cell? p2 = some v2 ∧ w'.cell? p3 = some v3 ∧ w'.cell? p4 = some v4 ∧ w'.cell? p5 = some v5 ∧ w'.cell? p6 = some v6 ∧ w'.cell? p7 = some v7 ∧ w'.cell? p8 = some v8 ∧ w'.cell? p9 = some v9 ∧ Hid (Kn M w0 [(p0, v0), (p1, v1), (p2, v2), (p3, v3), (p4, v4), (p5, v5), (p6, v6), (p7, v7), (p8, v8), (p9, v9)] w') := ⟨h.at_ (by simp), h.at_ (by simp), h.at_ (by simp), h.at_ (by simp), h.at_ (by simp), h.at_ (by simp), h.at_ (by simp), h.at_ (by simp), h.at_ (by simp), h.at_ (by simp), h⟩
theorem Kn.drew_10 (h : Hid (Kn M w0 [(p0, v0), (p1, v1), (p2, v2), (p3, v3), (p4, v4), (p5, v5), (p6, v6), (p7, v7), (p8, v8), (p9, v9)] w')) : w'.drew.cell? p0 = some v0 ∧ w'.drew.cell? p1 = some v1 ∧ w'.drew.cell? p2 = some v2 ∧ w'.drew.cell? p3 = some v3 ∧ w'.drew.cell? p4 = some v4 ∧ w'.drew.cell? p5 = some v5 ∧ w'.drew.cell? p6 = some v6 ∧ w'.drew.cell? p7 = some v7 ∧ w'.drew.cell? p8 = some v8 ∧ w'.drew.cell? p9 = some v9 ∧ Hid (Kn M w0 [(p0, v0), (p1, v1), (p2, v2), (p3, v3), (p4, v4), (p5, v5), (p6, v6), (p7, v7), (p8, v8), (p9, v9)] w'.drew) := Kn.of_10 ⟨h.all, h.hM, h.low.drew⟩
theorem Kn.step_10 (h : Hid (Kn M w0 [(p0, v0), (p1, v1), (p2, v2), (p3, v3), (p4, v4), (p5, v5), (p6, v6), (p7, v7), (p8, v8), (p9, v9)] w')) (hb : Below w'.heap.size w' w1) : w1.cell? p0 = some v0 ∧ w1.cell? p1 = some v1 ∧ w1.cell? p2 = some v2 ∧ w1.cell? p3 = some v3 ∧ w1.cell? p4 = some v4 ∧ w1.cell? p5 = some v5 ∧ w1.cell? p6 = some v6 ∧ w1.cell? p7 = some v7 ∧ w1.cell? p8 = some v8 ∧ w1.cell? p9 = some v9 ∧ Hid (Kn M w0 [(p0, v0), (p1, v1), (p2, v2), (p3, v3), (p4, v4), (p5, v5), (p6, v6), (p7, v7), (p8, v8), (p9, v9)] w1) := Kn.of_10 ⟨h.all, h.hM, h.low.trans (hb.mono (Nat.le_trans h.hM h.low.size))⟩
theorem Kn.far_10 (h : Hid (Kn M w0 [(p0, v0), (p1, v1), (p2, v2), (p3, v3), (p4, v4), (p5, v5), (p6, v6), (p7, v7), (p8, v8), (p9, v9)] w')) (hb : Below M w0 w1) : w1.cell? p0 = some v0 ∧ w1.cell? p1 = some v1 ∧ w1.cell? p2 = some v2 ∧ w1.cell? p3 = some v3 ∧ w1.cell? p4 = some v4 ∧ w1.cell? p5 = some v5 ∧ w1.cell? p6 = some v6 ∧ w1.cell? p7 = some v7 ∧ w1.cell? p8 = some v8 ∧ w1.cell? p9 = some v9 ∧ Hid (Kn M w0 [(p0, v0), (p1, v1), (p2, v2), (p3, v3), (p4, v4), (p5, v5), (p6, v6), (p7, v7), (p8, v8), (p9, v9)] w1) := Kn.of_10 ⟨h.all, h.hM, hb⟩
theorem Kn.alloc_10 (h : Hid (Kn M w0 [(p0, v0), (p1, v1), (p2, v2), (p3, v3), (p4, v4), (p5, v5), (p6, v6), (p7, v7), (p8, v8), (p9, v9)] w')) (x : Obj) : (w'.alloc x).cell? p0 = some v0 ∧ (w'.alloc x).cell? p1 = some v1 ∧ (w'.alloc x).cell? p2 = some v2 ∧ (w'.alloc x).cell? p3 = some v3 ∧ (w'.alloc x).cell? p4 = some v4 ∧ (w'.alloc x).cell? p5 = some v5 ∧ (w'.alloc x).cell? p6 = some v6 ∧ (w'.alloc x).cell? p7 = some v7 ∧ (w'.alloc x).cell? p8 = some v8 ∧ (w'.alloc x).cell? p9 = some v9 ∧ Hid (Kn M w0 [(p0, v0), (p1, v1), (p2, v2), (p3, v3), (p4, v4), (p5, v5), (p6, v6), (p7, v7), (p8, v8), (p9, v9)] (w'.alloc x)) := Kn.of_10 ⟨h.all, h.hM, h.low.alloc (Nat.le_trans h.hM h.low.size) x⟩
end
section
variable {M : Nat} {w0 w' w1 : World} {p0 p1 p2 p3 p4 p5 p6 p7 p8 p9 p10 : Addr} {v0 v1 v2 v3 v4 v5 v6 v7 v8 v9 v10 : Value}
theorem Kn.new_11 (hM : M ≤ w0.heap.size) (h0 : w0.cell? p0 = some v0) (b0 : p0.block < M) (h1 : w0.cell? p1 = some v1) (b1 : p1.block < M) (h2 : w0.cell? p2 = some v2) (b2 : p2.block < M) (h3 : w0.cell? p3 = some v3) (b3 : p3.block < M) (h4 : w0.cell? p4 = some v4) (b4 : p4.block < M) (h5 : w0.cell? p5 = some v5) (b5 : p5.block < M) (h6 : w0.cell? p6 = some v6) (b6 : p6.block < M) (h7 : w0.cell? p7 = some v7) (b7 : p7.block < M) (h8 : w0.cell? p8 = some v8) (b8 : p8.block < M) (h9 : w0.cell? p9 = some v9) (b9 : p9.block < M) (h10 : w0.cell? p10 = some v10) (b10 : p10.block < M) : Kn M w0 [(p0, v0), (p1, v1), (p2, v2), (p3, v3), (p4, v4), (p5, v5), (p6, v6), (p7, v7), (p8, v8), (p9, v9), (p10, v10)] w0 := ⟨by simp only [List.forall_mem_cons, List.not_mem_nil, false_implies, implies_true, and_true]; exact ⟨⟨h0, b0⟩, ⟨h1, b1⟩, ⟨h2, b2⟩, ⟨h3, b3⟩, ⟨h4, b4⟩, ⟨h5, b5⟩, ⟨h6, b6⟩, ⟨h7, b7⟩, ⟨h8, b8⟩, ⟨h9, b9⟩, ⟨h10, b10⟩⟩, hM, Below.refl _ _⟩
theorem Kn.of_11 (h : Kn M w0 [(p0, v0), (p1, v1), (p2, v2), (p3, v3), (p4, v4), (p5, v5), (p6, v6), (p7, v7), (p8, v8), (p9, v9), (p10, v10)] w') : w'.cell? p0 = some v0 ∧ w'.cell? p1 = some v1 ∧ w'.cell? p2 = some v2 ∧ w'.cell? p3 = some v3 ∧ w'.cell? p4 = some v4 ∧ w'.cell? p5 = some v5 ∧ w'.cell? p6 = some v6 ∧ w'.cell? p7 = some v7 ∧ w'.cell? p8 = some v8 ∧ w'.cell? p9 = some v9 ∧ w'.cell? p10 = some v10 ∧ Hid (Kn M w0 [(p0, v0), (p1, v1), (p2, v2), (p3, v3), (p4, v4), (p5, v5), (p6, v6), (p7, v7), (p8, v8), (p9, v9), (p10, v10)] w') := ⟨h.at_ (by simp), h.at_ (by simp), h.at_ (by simp), h.at_ (by simp), h.at_ (by simp), h.at_ (by simp), h.at_ (by simp), h.at_ (by simp), h.at_ (by simp), h.at_ (by simp), h.at_ (by simp), h⟩
theorem Kn.drew_11 (h : Hid (Kn M w0 [(p0, v0), (p1, v1), (p2, v2), (p3, v3), (p4, v4), (p5, v5), (p6, v6), (p7, v7), (p8, v8), (p9, v9), (p10, v10)] w')) : w'.drew.cell? p0 = some v0 ∧ w'.drew.cell? p1 = some v1 ∧ w'.drew.cell? p2 = some v2 ∧ w'.drew.cell? p3 = some v3 ∧ w'.drew.cell? p4 = some v4 ∧ w'.drew.cell? p5 = some v5 ∧ w'.drew.cell? p6 = some v6 ∧ w'.drew.cell? p7 = some v7 ∧ w'.drew.cell? p8 = some v8 ∧ w'.drew.cell? p9 = some v9 ∧ w'.drew.cell? p10 = some v10 ∧ Hid (Kn M w0 [(p0, v0), (p1, v1), (p2, v2), (p3, v3), (p4, v4), (p5, v5), (p6, v6), (p7, v7), (p8, v8), (p9, v9), (p10, v10)] w'.drew) := Kn.of_11 ⟨h.all, h.hM, h.low.drew⟩
theorem Kn.step_11 (h : Hid (Kn M w0 [(p0, v0), (p1, v1), (p2, v2), (p3, v3), (p4, v4), (p5, v5), (p6, v6), (p7, v7), (p8, v8), (p9, v9), (p10, v10)] w')) (hb : Below w'.heap.size w' w1) : w1.cell? p0 = some v0 ∧ w1.cell? p1 = some v1 ∧ w1.cell? p2 = some v2 ∧ w1.cell? p3 = some v3 ∧ w1.cell? p4 = some v4 ∧ w1.cell? p5 = some v5 ∧ w1.cell? p6 = some v6 ∧ w1.cell? p7 = some v7 ∧ w1.cell? p8 = some v8 ∧ w1.cell? p9 = some v9 ∧ w1.cell? p10 = some v10 ∧ Hid (Kn M w0 [(p0, v0), (p1, v1), (p2, v2), (p3, v3), (p4, v4), (p5, v5), (p6, v6), (p7, v7), (p8, v8), (p9, v9), (p10, v10)] w1) := Kn.of_11 ⟨h.all, h.hM, h.low.trans (hb.mono (Nat.le_trans h.hM h.low.size))⟩
theorem Kn.far_11 (h : Hid (Kn M w0 [(p0, v0), (p1, v1), (p2, v2), (p3, v3), (p4, v4), (p5, v5), (p6, v6), (p7, v7), (p8, v8), (p9, v9), (p10, v10)] w')) (hb : Below M w0 w1) : w1.cell? p0 = some v0 ∧ w1.cell? p1 = some v1 ∧ w1.cell? p2 = some v2 ∧ w1.cell? p3 = some v3 ∧ w1.cell? p4 = some v4 ∧ w1.cell? p5 = some v5 ∧ w1.cell? p6 = some v6 ∧ w1.cell? p7 = some v7 ∧ w1.cell? p8 = some v8 ∧ w1.cell? p9 = some v9 ∧ w1.cell? p10 = some v10 ∧ Hid (Kn M w0 [(p0, v0), (p1, v1), (p2, v2), (p3, v3), (p4, v4), (p5, v5), (p6, v6), (p7, v7), (p8, v8), (p9, v9), (p10, v10)] w1) := Kn.of_11 ⟨h.all, h.hM, hb⟩
theorem Kn.alloc_11 (h : Hid (Kn M w0 [(p0, v0), (p1, v1), (p2, v2), (p3, v3), (p4, v4), (p5, v5), (p6, v6), (p7, v7), (p8, v8), (p9, v9), (p10, v10)] w')) (x : Obj) : (w'.alloc x).cell? p0 = some v0 ∧ (w'.alloc x).cell? p1 = some v1 ∧ (w'.alloc x).cell? p2 = some v2 ∧ (w'.alloc x).cell? p3 = some v3 ∧ (w'.alloc x).cell? p4 = some v4 ∧ (w'.alloc x).cell? p5 = some v5 ∧ (w'.alloc x).cell? p6 = some v6 ∧ (w'.alloc x).cell? p7 = some v7 ∧ (w'.alloc x).cell? p8 = some v8 ∧ (w'.alloc x).cell? p9 = some v9 ∧ (w'.alloc x).cell? p10 = some v10 ∧ Hid (Kn M w0 [(p0, v0), (p1, v1), (p2, v2), (p3, v3), (p4, v4), (p5, v5), (p6, v6), (p7, v7), (p8, v8), (p9, v9), (p10, v10)] (w'.alloc x)) := Kn.of_11 ⟨h.all, h.hM, h.low.alloc (Nat.le_trans h.hM h.low.size) x⟩
end
section
variable {M : Nat} {w0 w' w1 : World} {p0 p1 p2 p3 p4 p5 p6 p7 p8 p9 p10 p11 : Addr} {v0 v1 v2 v3 v4 v5 v6 v7 v8 v9 v10 v11 : Value}
theorem Kn.new_12 (hM : M ≤ w0.heap.size) (h0 : w0.cell? p0 = some v0) (b0 : p0.block < M) (h1 : w0.cell? p1 = some v1) (b1 : p1.block < M) (h2 : w0.cell? p2 = some v2) (b2 : p2.block < M) (h3 : w0.cell? p3 = some v3) (b3 : p3.block < M) (h4 : w0.cell? p4 = some v4) (b4 : p4.block < M) (h5 : w0.cell? p5 = some v5) (b5 : p5.block < M) (h6 : w0.cell? p6 = some v6) (b6 : p6.block < M) (h7 : w0.cell? p7 = some v7) (b7 : p7.block < M) (h8 : w0.cell? p8 = some v8) (b8 : p8.block < M) (h9 : w0.cell? p9 = some v9) (b9 : p9.block < M) (h10 : w0.cell? p10 = some v10) (b10 : p10.block < M) (h11 : w0.cell? p11 = some v11) (b11 : p11.block < M) : Kn M w0 [(p0, v0), (p1, v1), (p2, v2), (p3, v3), (p4, v4), (p5, v5), (p6, v6), (p7, v7), (p8, v8), (p9, v9), (p10, v10), (p11, v11)] w0 := ⟨by simp only [List.forall_mem_cons, List.not_mem_nil, false_implies, implies_true, and_true]; exact ⟨⟨h0, b0⟩, ⟨h1, b1⟩, ⟨h2, b2⟩, ⟨h3, b3⟩, ⟨h4, b4⟩, ⟨h5, b5⟩, ⟨h6, b6⟩, ⟨h7, b7⟩, ⟨h8, b8⟩, ⟨h9, b9⟩, ⟨h10, b10⟩, ⟨h11, b11⟩⟩, hM, Below.refl _ _⟩
theorem Kn.of_12 (h : Kn M w0 [(p0, v0), (p1, v1), (p2, v2), (p3, v3), (p4, v4), (p5, v5), (p6, v6), (p7, v7), (p8, v8), (p9, v9), (p10, v10), (p11, v11)] w') : w'.cell? p0 = some v0 ∧ w'.cell? p1 = some v1 ∧ w'.cell? p2 = some v2 ∧ w'.cell? p3 = some v3 ∧ w'.cell? p4 = some v4 ∧ w'.cell? p5 = some v5 ∧ w'.cell? p6 = some v6 ∧ w'.cell? p7 = some v7 ∧ w'.cell? p8 = some v8 ∧ w'.cell? p9 = some v9 ∧ w'.cell? p10 = some v10 ∧ w'.cell? p11 = some v11 ∧ Hid (Kn M w0 [(p0, v0), (p1, v1), (p2, v2), (p3, v3), (p4, v4), (p5, v5), (p6, v6), (p7, v7), (p8, v8), (p9, v9), (p10, v10), (p11, v11)] w') := ⟨h.at_ (by simp), h.at_ (by simp), h.at_ (by simp), h.at_ (by simp), h.at_ (by simp), h.at_ (by simp), h.at_ (by simp), h.at_ (by simp), h.at_ (by simp), h.at_ (by simp), h.at_ (by simp), h.at_ (by simp), h⟩
theorem Kn.drew_12 (h : Hid (Kn M w0 [(p0, v0), (p1, v1), (p2, v2), (p3, v3), (p4, v4), (p5, v5), (p6, v6), (p7, v7), (p8, v8), (p9, v9), (p10, v10), (p11, v11)] w')) : w'.drew.cell? p0 = some v0 ∧ w'.drew.cell? p1 = some v1 ∧ w'.drew.cell? p2 = some v2 ∧ w'.drew.cell? p3 = some v3 ∧ w'.drew.cell? p4 = some v4 ∧ w'.drew.cell? p5 = some v5 ∧ w'.drew.cell? p6 = some v6 ∧ w'.drew.cell? p7 = some v7 ∧ w'.drew.cell? p8 = some v8 ∧ w'.drew.cell? p9 = some v9 ∧ w'.drew.cell? p10 = some v10 ∧ w'.drew.cell? p11 = some v11 ∧ Hid (Kn M w0 [(p0, v0), (p1, v1), (p2, v2), (p3, v3), (p4, v4), (p5, v5), (p6, v6), (p7, v7), (p8, v8), (p9, v9), (p10, v10), (p11, v11)] w'.drew) := Kn.of_12 ⟨h.all, h.hM, h.low.drew⟩
theorem Kn.step_12 (h : Hid (Kn M w0 [(p0, v0), (p1, v1), (p2, v2), (p3, v3), (p4, v4), (p5, v5), (p6, v6), (p7, v7), (p8, v8), (p9, v9), (p10, v10), (p11, v11)] w')) (hb : Below w'.heap.size w' w1) : w1.cell? p0 = some v0 ∧ w1.cell? p1 = some v1 ∧ w1.cell? p2 = some v2 ∧ w1.cell? p3 = some v3 ∧ w1.cell? p4 = some v4 ∧ w1.cell? p5 = some v5 ∧ w1.cell? p6 = some v6 ∧ w1.cell? p7 = some v7 ∧ w1.cell? p8 = some v8 ∧ w1.cell? p9 = some v9 ∧ w1.cell? p10 = some v10 ∧ w1.cell? p11 = some v11 ∧ Hid (Kn M w0 [(p0, v0), (p1, v1), (p2, v2), (p3, v3), (p4, v4), (p5, v5), (p6, v6), (p7, v7), (p8, v8), (p9, v9), (p10, v10), (p11, v11)] w1) := Kn.of_12 ⟨h.all, h.hM, h.low.trans (hb.mono (Nat.le_trans h.hM h.low.size))⟩
theorem Kn.far_12 (h : Hid (Kn M w0 [(p0, v0), (p1, v1), (p2, v2), (p3, v3), (p4, v4), (p5, v5), (p6, v6), (p7, v7), (p8, v8), (p9, v9), (p10, v10), (p11, v11)] w')) (hb : Below M w0 w1) : w1.cell? p0 = some v0 ∧ w1.cell? p1 = some v1 ∧ w1.cell? p2 = some v2 ∧ w1.cell? p3 = some v3 ∧ w1.cell? p4 = some v4 ∧ w1.cell? p5 = some v5 ∧ w1.cell? p6 = some v6 ∧ w1.cell? p7 = some v7 ∧ w1.cell? p8 = some v8 ∧ w1.cell? p9 = some v9 ∧ w1.cell? p10 = some v10 ∧ w1.cell? p11 = some v11 ∧ Hid (Kn M w0 [(p0, v0), (p1, v1), (p2, v2), (p3, v3), (p4, v4), (p5, v5), (p6, v6), (p7, v7), (p8, v8), (p9, v9), (p10, v10), (p11, v11)] w1) := Kn.of_12 ⟨h.all, h.hM, hb⟩
theorem Kn.alloc_12 (h : Hid (Kn M w0 [(p0, v0), (p1, v1), (p2, v2), (p3, v3), (p4, v4), (p5, v5), (p6, v6), (p7, v7), (p8, v8), (p9, v9), (p10, v10), (p11, v11)] w')) (x : Obj) : (w'.alloc x).cell? p0 = some v0 ∧ (w'.alloc x).cell? p1 = some v1 ∧ (w'.alloc x).cell? p2 = some v2 ∧ (w'.alloc x).cell? p3 = some v3 ∧ (w'.alloc x).cell? p4 = some v4 ∧ (w'.alloc x).cell? p5 = some v5 ∧ (w'.alloc x).cell? p6 = some v6 ∧ (w'.alloc x).cell? p7 = some v7 ∧ (w'.alloc x).cell? p8 = some v8 ∧ (w'.alloc x).cell? p9 = some v9 ∧ (w'.alloc x).cell? p10 = some v10 ∧ (w'.alloc x).cell? p11 = some v11 ∧ Hid (Kn M w0 [(p0, v0), (p1, v1), (p2, v2), (p3, v3), (p4, v4), (p5, v5), (p6, v6), (p7, v7), (p8, v8), (p9, v9), (p10, v10), (p11, v11)] (w'.alloc x)) := Kn.of_12 ⟨h.all, h.hM, h.low.alloc (Nat.le_trans h.hM h.low.size) x⟩
end
theorem only_below {a w w' : World} {row : Option Nat} (h : a.grownBy w row) (hb : Below w.heap.size w w') : a.grownBy w' row :=
  ⟨hb.os.trans h.os, hb.tape.trans h.tape, hb.output.trans h.output, Nat.le_trans h.size hb.size, fun i hi hne => (hb.block i (Nat.lt_of_lt_of_le hi h.size)).trans (h.block i hi hne)⟩
theorem only_trans {a w w' : World} {row : Option Nat} (h : a.grownBy w row) (hb : w.grownBy w' row) : a.grownBy w' row :=
  ⟨hb.os.trans h.os, hb.tape.trans h.tape, hb.output.trans h.output, Nat.le_trans h.size hb.size, fun i hi hne => (hb.block i (Nat.lt_of_lt_of_le hi h.size) hne).trans (h.block i hi hne)⟩
/-- Cells that are known, in a world in which of what lay at first one row alone has turned. -/
structure Kg (r : Option Nat) (w0 : World) (cs : List (Addr × Value)) (w' : World) : Prop where
  all : ∀ q ∈ cs, w0.cell? q.1 = some q.2 ∧ q.1.block < w0.heap.size ∧ some q.1.block ≠ r
  low : w0.grownBy w' r
theorem Kg.at_ {r : Option Nat} {w0 w' : World} {cs : List (Addr × Value)} (h : Kg r w0 cs w') {p : Addr} {v : Value} (hm : (p, v) ∈ cs) : w'.cell? p = some v :=
  (World.cell?_of_block (h.low.block p.block (h.all _ hm).2.1 (h.all _ hm).2.2)).trans (h.all _ hm).1
section
variable {r : Option Nat} {w0 w' w1 : World} {p0 : Addr} {v0 : Value}
theorem Kg.new_1 (h0 : w0.cell? p0 = some v0) (b0 : p0.block < w0.heap.size ∧ some p0.block ≠ r) : Kg r w0 [(p0, v0)] w0 := ⟨by intro q hq; cases List.mem_singleton.1 hq; exact ⟨h0, b0⟩, only_of_below (Below.refl _ _) _⟩
theorem Kg.of_1 (h : Kg r w0 [(p0, v0)] w') : w'.cell? p0 = some v0 ∧ Hid (Kg r w0 [(p0, v0)] w') := ⟨h.at_ (by simp), h⟩
theorem Kg.drew_1 (h : Hid (Kg r w0 [(p0, v0)] w')) : w'.drew.cell? p0 = some v0 ∧ Hid (Kg r w0 [(p0, v0)] w'.drew) := Kg.of_1 ⟨h.all, only_drew h.low⟩
theorem Kg.step_1 (h : Hid (Kg r w0 [(p0, v0)] w')) (hb : Below w'.heap.size w' w1) : w1.cell? p0 = some v0 ∧ Hid (Kg r w0 [(p0, v0)] w1) := Kg.of_1 ⟨h.all, only_below h.low hb⟩
theorem Kg.far_1 (h : Hid (Kg r w0 [(p0, v0)] w')) (hb : w0.grownBy w1 r) : w1.cell? p0 = some v0 ∧ Hid (Kg r w0 [(p0, v0)] w1) := Kg.of_1 ⟨h.all, hb⟩
theorem Kg.alloc_1 (h : Hid (Kg r w0 [(p0, v0)] w')) (x : Obj) : (w'.alloc x).cell? p0 = some v0 ∧ Hid (Kg r w0 [(p0, v0)] (w'.alloc x)) := Kg.of_1 ⟨h.all, only_alloc h.low x⟩
end
section
variable {r : Option Nat} {w0 w' w1 : World} {p0 p1 : Addr} {v0 v1 : Value}
theorem Kg.new_2 (h0 : w0.cell? p0 = some v0) (b0 : p0.block < w0.heap.size ∧ some p0.block ≠ r) (h1 : w0.cell? p1 = some v1) (b1 : p1.block < w0.heap.size ∧ some p1.block ≠ r) : Kg r w0 [(p0, v0), (p1, v1)] w0 := ⟨by simp only [List.forall_mem_cons, List.not_mem_nil, false_implies, implies_true, and_true]; exact ⟨⟨h0, b0⟩, ⟨h1, b1⟩⟩, only_of_below (Below.refl _ _) _⟩
theorem Kg.of_2 (h : Kg r w0 [(p0, v0), (p1, v1)] w') : w'.cell? p0 = some v0 ∧ w'.cell? p1 = some v1 ∧ Hid (Kg r w0 [(p0, v0), (p1, v1)] w') := ⟨h.at_ (by simp), h.at_ (by simp), h⟩
theorem Kg.drew_2 (h : Hid (Kg r w0 [(p0, v0), (p1, v1)] w')) : w'.drew.cell? p0 = some v0 ∧ w'.drew.cell? p1 = some v1 ∧ Hid (Kg r w0 [(p0, v0), (p1, v1)] w'.drew) := Kg.of_2 ⟨h.all, only_drew h.low⟩
theorem Kg.step_2 (h : Hid (Kg r w0 [(p0, v0), (p1, v1)] w')) (hb : Below w'.heap.size w' w1) : w1.cell? p0 = some v0 ∧ w1.cell? p1 = some v1 ∧ Hid (Kg r w0 [(p0, v0), (p1, v1)] w1) := Kg.of_2 ⟨h.all, only_below h.low hb⟩
theorem Kg.far_2 (h : Hid (Kg r w0 [(p0, v0), (p1, v1)] w')) (hb : w0.grownBy w1 r) : w1.cell? p0 = some v0 ∧ w1.cell? p1 = some v1 ∧ Hid (Kg r w0 [(p0, v0), (p1, v1)] w1) := Kg.of_2 ⟨h.all, hb⟩
theorem Kg.alloc_2 (h : Hid (Kg r w0 [(p0, v0), (p1, v1)] w')) (x : Obj) : (w'.alloc x).cell? p0 = some v0 ∧ (w'.alloc x).cell? p1 = some v1 ∧ Hid (Kg r w0 [(p0, v0), (p1, v1)] (w'.alloc x)) := Kg.of_2 ⟨h.all, only_alloc h.low x⟩
end
section
variable {r : Option Nat} {w0 w' w1 : World} {p0 p1 p2 : Addr} {v0 v1 v2 : Value}
theorem Kg.new_3 (h0 : w0.cell? p0 = some v0) (b0 : p0.block < w0.heap.size ∧ some p0.block ≠ r) (h1 : w0.cell? p1 = some v1) (b1 : p1.block < w0.heap.size ∧ some p1.block ≠ r) (h2 : w0.cell? p2 = some v2) (b2 : p2.block < w0.heap.size ∧ some p2.block ≠ r) : Kg r w0 [(p0, v0), (p1, v1), (p2, v2)] w0 := ⟨by simp only [List.forall_mem_cons, List.not_mem_nil, false_implies, implies_true, and_true]; exact ⟨⟨h0, b0⟩, ⟨h1, b1⟩, ⟨h2, b2⟩⟩, only_of_below (Below.refl _ _) _⟩
theorem Kg.of_3 (h : Kg r w0 [(p0, v0), (p1, v1), (p2, v2)] w') : w'.cell? p0 = some v0 ∧ w'.cell? p1 = some v1 ∧ w'.cell? p2 = some v2 ∧ Hid (Kg r w0 [(p0, v0), (p1, v1), (p2, v2)] w') := ⟨h.at_ (by simp), h.at_ (by simp), h.at_ (by simp), h⟩
theorem Kg.drew_3 (h : Hid (Kg r w0 [(p0, v0), (p1, v1), (p2, v2)] w')) : w'.drew.cell? p0 = some v0 ∧ w'.drew.cell? p1 = some v1 ∧ w'.drew.cell? p2 = some v2 ∧ Hid (Kg r w0 [(p0, v0), (p1, v1), (p2, v2)] w'.drew) := Kg.of_3 ⟨h.all, only_drew h.low⟩
theorem Kg.step_3 (h : Hid (Kg r w0 [(p0, v0), (p1, v1), (p2, v2)] w')) (hb : Below w'.heap.size w' w1) : w1.cell? p0 = some v0 ∧ w1.cell? p1 = some v1 ∧ w1.cell? p2 = some v2 ∧ Hid (Kg r w0 [(p0, v0), (p1, v1), (p2, v2)] w1) := Kg.of_3 ⟨h.all, only_below h.low hb⟩
theorem Kg.far_3 (h : Hid (Kg r w0 [(p0, v0), (p1, v1), (p2, v2)] w')) (hb : w0.grownBy w1 r) : w1.cell? p0 = some v0 ∧ w1.cell? p1 = some v1 ∧ w1.cell? p2 = some v2 ∧ Hid (Kg r w0 [(p0, v0), (p1, v1), (p2, v2)] w1) := Kg.of_3 ⟨h.all, hb⟩
theorem Kg.alloc_3 (h : Hid (Kg r w0 [(p0, v0), (p1, v1), (p2, v2)] w')) (x : Obj) : (w'.alloc x).cell? p0 = some v0 ∧ (w'.alloc x).cell? p1 = some v1 ∧ (w'.alloc x).cell? p2 = some v2 ∧ Hid (Kg r w0 [(p0, v0), (p1, v1), (p2, v2)] (w'.alloc x)) := Kg.of_3 ⟨h.all, only_alloc h.low x⟩
end
section
variable {r : Option Nat} {w0 w' w1 : World} {p0 p1 p2 p3 : Addr} {v0 v1 v2 v3 : Value}
theorem Kg.new_4 (h0 : w0.cell? p0 = some v0) (b0 : p0.block < w0.heap.size ∧ some p0.block ≠ r) (h1 : w0.cell? p1 = some v1) (b1 : p1.block < w0.heap.size ∧ some p1.block ≠ r) (h2 : w0.cell? p2 = some v2) (b2 : p2.block < w0.heap.size ∧ some p2.block ≠ r) (h3 : w0.cell? p3 = some v3) (b3 : p3.block < w0.heap.size ∧ some p3.block ≠ r) : Kg r w0 [(p0, v0), (p1, v1), (p2, v2), (p3, v3)] w0 := ⟨by simp only [List.forall_mem_cons, List.not_mem_nil, false_implies, implies_true, and_true]; exact ⟨⟨h0, b0⟩, ⟨h1, b1⟩, ⟨h2, b2⟩, ⟨h3, b3⟩⟩, only_of_below (Below.refl _ _) _⟩
theorem Kg.of_4 (h : Kg r w0 [(p0, v0), (p1, v1), (p2, v2), (p3, v3)] w') : w'.cell? p0 = some v0 ∧ w'.cell? p1 = some v1 ∧ w'.cell? p2 = some v2 ∧ w'.cell? p3 = some v3 ∧ Hid (Kg r w0 [(p0, v0), (p1, v1), (p2, v2), (p3, v3)] w') := ⟨h.at_ (by simp), h.at_ (by simp), h.at_ (by simp), h.at_ (by simp), h⟩
theorem Kg.drew_4 (h : Hid (Kg r w0 [(p0, v0), (p1, v1), (p2, v2), (p3, v3)] w')) : w'.drew.cell? p0 = some v0 ∧ w'.drew.cell? p1 = some v1 ∧ w'.drew.cell? p2 = some v2 ∧ w'.drew.cell? p3 = some v3 ∧ Hid (Kg r w0 [(p0, v0), (p1, v1), (p2, v2), (p3, v3)] w'.drew) := Kg.of_4 ⟨h.all, only_drew h.low⟩
theorem Kg.step_4 (h : Hid (Kg r w0 [(p0, v0), (p1, v1), (p2, v2), (p3, v3)] w')) (hb : Below w'.heap.size w' w1) : w1.cell? p0 = some v0 ∧ w1.cell? p1 = some v1 ∧ w1.cell? p2 = some v2 ∧ w1.cell? p3 = some v3 ∧ Hid (Kg r w0 [(p0, v0), (p1, v1), (p2, v2), (p3, v3)] w1) := Kg.of_4 ⟨h.all, only_below h.low hb⟩
theorem Kg.far_4 (h : Hid (Kg r w0 [(p0, v0), (p1, v1), (p2, v2), (p3, v3)] w')) (hb : w0.grownBy w1 r) : w1.cell? p0 = some v0 ∧ w1.cell? p1 = some v1 ∧ w1.cell? p2 = some v2 ∧ w1.cell? p3 = some v3 ∧ Hid (Kg r w0 [(p0, v0), (p1, v1), (p2, v2), (p3, v3)] w1) := Kg.of_4 ⟨h.all, hb⟩
theorem Kg.alloc_4 (h : Hid (Kg r w0 [(p0, v0), (p1, v1), (p2, v2), (p3, v3)] w')) (x : Obj) : (w'.alloc x).cell? p0 = some v0 ∧ (w'.alloc x).cell? p1 = some v1 ∧ (w'.alloc x).cell? p2 = some v2 ∧ (w'.alloc x).cell? p3 = some v3 ∧ Hid (Kg r w0 [(p0, v0), (p1, v1), (p2, v2), (p3, v3)] (w'.alloc x)) := Kg.of_4 ⟨h.all, only_alloc h.low x⟩
end
section
variable {r : Option Nat} {w0 w' w1 : World} {p0 p1 p2 p3 p4 : Addr} {v0 v1 v2 v3 v4 : Value}
theorem Kg.new_5 (h0 : w0.cell? p0 = some v0) (b0 : p0.block < w0.heap.size ∧ some p0.block ≠ r) (h1 : w0.cell? p1 = some v1) (b1 : p1.block < w0.heap.size ∧ some p1.block ≠ r) (h2 : w0.cell? p2 = some v2) (b2 : p2.block < w0.heap.size ∧ some p2.block ≠ r) (h3 : w0.cell? p3 = some v3) (b3 : p3.block < w0.heap.size ∧ some p3.block ≠ r) (h4 : w0.cell? p4 = some v4) (b4 : p4.block < w0.heap.size ∧ some p4.block ≠ r) : Kg r w0 [(p0, v0), (p1, v1), (p2, v2), (p3, v3), (p4, v4)] w0 := ⟨by simp only [List.forall_mem_cons, List.not_mem_nil, false_implies, implies_true, and_true]; exact ⟨⟨h0, b0⟩, ⟨h1, b1⟩, ⟨h2, b2⟩, ⟨h3, b3⟩, ⟨h4, b4⟩⟩, only_of_below (Below.refl _ _) _⟩
theorem Kg.of_5 (h : Kg r w0 [(p0, v0), (p1, v1), (p2, v2), (p3, v3), (p4, v4)] w') : w'.cell? p0 = some v0 ∧ w'.cell? p1 = some v1 ∧ w'.cell? p2 = some v2 ∧ w'.cell? p3 = some v3 ∧ w'.cell? p4 = some v4 ∧ Hid (Kg r w0 [(p0, v0), (p1, v1), (p2, v2), (p3, v3), (p4, v4)] w') := ⟨h.at_ (by simp), h.at_ (by simp), h.at_ (by simp), h.at_ (by simp), h.at_ (by simp), h⟩
theorem Kg.drew_5 (h : Hid (Kg r w0 [(p0, v0), (p1, v1), (p2, v2), (p3, v3), (p4, v4)] w')) : w'.drew.cell? p0 = some v0 ∧ w'.drew.cell? p1 = some v1 ∧ w'.drew.cell? p2 = some v2 ∧ w'.drew.cell? p3 = some v3 ∧ w'.drew.cell? p4 = some v4 ∧ Hid (Kg r w0 [(p0, v0), (p1, v1), (p2, v2), (p3, v3), (p4, v4)] w'.drew) := Kg.of_5 ⟨h.all, only_drew h.low⟩
theorem Kg.step_5 (h : Hid (Kg r w0 [(p0, v0), (p1, v1), (p2, v2), (p3, v3), (p4, v4)] w')) (hb : Below w'.heap.size w' w1) : w1.cell? p0 = some v0 ∧ w1.cell? p1 = some v1 ∧ w1.cell? p2 = some v2 ∧ w1.cell? p3 = some v3 ∧ w1.cell? p4 = some v4 ∧ Hid (Kg r w0 [(p0, v0), (p1, v1), (p2, v2), (p3, v3), (p4, v4)] w1) := Kg.of_5 ⟨h.all, only_below h.low hb⟩
theorem Kg.far_5 (h : Hid (Kg r w0 [(p0, v0), (p1, v1), (p2, v2), (p3, v3), (p4, v4)] w')) (hb : w0.grownBy w1 r) : w1.cell? p0 = some v0 ∧ w1.cell? p1 = some v1 ∧ w1.cell? p2 = some v2 ∧ w1.cell? p3 = some v3 ∧ w1.cell? p4 = some v4 ∧ Hid (Kg r w0 [(p0, v0), (p1, v1), (p2, v2), (p3, v3), (p4, v4)] w1) := Kg.of_5 ⟨h.all, hb⟩
theorem Kg.alloc_5 (h : Hid (Kg r w0 [(p0, v0), (p1, v1), (p2, v2), (p3, v3), (p4, v4)] w')) (x : Obj) : (w'.alloc x).cell? p0 = some v0 ∧ (w'.alloc x).cell? p1 = some v1 ∧ (w'.alloc x).cell? p2 = some v2 ∧ (w'.alloc x).cell? p3 = some v3 ∧ (w'.alloc x).cell? p4 = some v4 ∧ Hid (Kg r w0 [(p0, v0), (p1, v1), (p2, v2), (p3, v3), (p4, v4)] (w'.alloc x)) := Kg.of_5 ⟨h.all, only_alloc h.low x⟩
end
section
variable {r : Option Nat} {w0 w' w1 : World} {p0 p1 p2 p3 p4 p5 : Addr} {v0 v1 v2 v3 v4 v5 : Value}
theorem Kg.new_6 (h0 : w0.cell? p0 = some v0) (b0 : p0.block < w0.heap.size ∧ some p0.block ≠ r) (h1 : w0.cell? p1 = some v1) (b1 : p1.block < w0.heap.size ∧ some p1.block ≠ r) (h2 : w0.cell? p2 = some v2) (b2 : p2.block < w0.heap.size ∧ some p2.block ≠ r) (h3 : w0.cell? p3 = some v3) (b3 : p3.block < w0.heap.size ∧ some p3.block ≠ r) (h4 : w0.cell? p4 = some v4) (b4 : p4.block < w0.heap.size ∧ some p4.block ≠ r) (h5 : w0.cell? p5 = some v5) (b5 : p5.block < w0.heap.size ∧ some p5.block ≠ r) : Kg r w0 [(p0, v0), (p1, v1), (p2, v2), (p3, v3), (p4, v4), (p5, v5)] w0 := ⟨by simp only [List.forall_mem_cons, List.not_mem_nil, false_implies, implies_true, and_true]; exact ⟨⟨h0, b0⟩, ⟨h1, b1⟩, ⟨h2, b2⟩, ⟨h3, b3⟩, ⟨h4, b4⟩, ⟨h5, b5⟩⟩, only_of_below (Below.refl _ _) _⟩
theorem Kg.of_6 (h : Kg r w0 [(p0, v0), (p1, v1), (p2, v2), (p3, v3), (p4, v4), (p5, v5)] w') : w'.cell? p0 = some v0 ∧ w'.cell? p1 = some v1 ∧ w'.cell? p2 = some v2 ∧ w'.cell? p3 = some v3 ∧ w'.cell? p4 = some v4 ∧ w'.cell? p5 = some v5 ∧ Hid (Kg r w0 [(p0, v0), (p1, v1), (p2, v2), (p3, v3), (p4, v4), (p5, v5)] w') := ⟨h.at_ (by simp), h.at_ (by simp), h.at_ (by simp), h.at_ (by simp), h.at_ (by simp), h.at_ (by simp), h⟩
theorem Kg.drew_6 (h : Hid (Kg r w0 [(p0, v0), (p1, v1), (p2, v2), (p3, v3), (p4, v4), (p5, v5)] w')) : w'.drew.cell? p0 = some v0 ∧ w'.drew.cell? p1 = some v1 ∧ w'.drew.cell? p2 = some v2 ∧ w'.drew.cell? p3 = some v3 ∧ w'.drew.cell? p4 = some v4 ∧ w'.drew.cell? p5 = some v5 ∧ Hid (Kg r w0 [(p0, v0), (p1, v1), (p2, v2), (p3, v3), (p4, v4), (p5, v5)] w'.drew) := Kg.of_6 ⟨h.all, only_drew h.low⟩
theorem Kg.step_6 (h : Hid (Kg r w0 [(p0, v0), (p1, v1), (p2, v2), (p3, v3), (p4, v4), (p5, v5)] w')) (hb : Below w'.heap.size w' w1) : w1.cell? p0 = some v0 ∧ w1.cell? p1 = some v1 ∧ w1.cell? p2 = some v2 ∧ w1.cell? p3 = some v3 ∧ w1.cell? p4 = some v4 ∧ w1.cell? p5 = some v5 ∧ Hid (Kg r w0 [(p0, v0), (p1, v1), (p2, v2), (p3, v3), (p4, v4), (p5, v5)] w1) := Kg.of_6 ⟨h.all, only_below h.low hb⟩
theorem Kg.far_6 (h : Hid (Kg r w0 [(p0, v0), (p1, v1), (p2, v2), (p3, v3), (p4, v4), (p5, v5)] w')) (hb : w0.grownBy w1 r) : w1.cell? p0 = some v0 ∧ w1.cell? p1 = some v1 ∧ w1.cell? p2 = some v2 ∧ w1.cell? p3 = some v3 ∧ w1.cell? p4 = some v4 ∧ w1.cell? p5 = some v5 ∧ Hid (Kg r w0 [(p0, v0), (p1, v1), (p2, v2), (p3, v3), (p4, v4), (p5, v5)] w1) := Kg.of_6 ⟨h.all, hb⟩
theorem Kg.alloc_6 (h : Hid (Kg r w0 [(p0, v0), (p1, v1), (p2, v2), (p3, v3), (p4, v4), (p5, v5)] w')) (x : Obj) : (w'.alloc x).cell? p0 = some v0 ∧ (w'.alloc x).cell? p1 = some v1 ∧ (w'.alloc x).cell? p2 = some v2 ∧ (w'.alloc x).cell? p3 = some v3 ∧ (w'.alloc x).cell? p4 = some v4 ∧ (w'.alloc x).cell? p5 = some v5 ∧ Hid (Kg r w0 [(p0, v0), (p1, v1), (p2, v2), (p3, v3), (p4, v4), (p5, v5)] (w'.alloc x)) := Kg.of_6 ⟨h.all, only_alloc h.low x⟩
end
section
variable {r : Option Nat} {w0 w' w1 : World} {p0 p1 p2 p3 p4 p5 p6 : Addr} {v0 v1 v2 v3 v4 v5 v6 : Value}
theorem Kg.new_7 (h0 : w0.cell? p0 = some v0) (b0 : p0.block < w0.heap.size ∧ some p0.block ≠ r) (h1 : w0.cell? p1 = some v1) (b1 : p1.block < w0.heap.size ∧ some p1.block ≠ r) (h2 : w0.cell? p2 = some v2) (b2 : p2.block < w0.heap.size ∧ some p2.block ≠ r) (h3 : w0.cell? p3 = some v3) (b3 : p3.block < w0.heap.size ∧ some p3.block ≠ r) (h4 : w0.cell? p4 = some v4) (b4 : p4.block < w0.heap.size ∧ some p4.block ≠ r) (h5 : w0.cell? p5 = some v5) (b5 : p5.block < w0.heap.size ∧ some p5.block ≠ r) (h6 : w0.cell? p6 = some v6) (b6 : p6.block < w0.heap.size ∧ some p6.block ≠ r) : Kg r w0 [(p0, v0), (p1, v1), (p2, v2), (p3, v3), (p4, v4), (p5, v5), (p6, v6)] w0 := ⟨by simp only [List.forall_mem_cons, List.not_mem_nil, false_implies, implies_true, and_true]; exact ⟨⟨h0, b0⟩, ⟨h1, b1⟩, ⟨h2, b2⟩, ⟨h3, b3⟩, ⟨h4, b4⟩, ⟨h5, b5⟩, ⟨h6, b6⟩⟩, only_of_below (Below.refl _ _) _⟩
theorem Kg.of_7 (h : Kg r w0 [(p0, v0), (p1, v1), (p2, v2), (p3, v3), (p4, v4), (p5, v5), (p6, v6)] w') : w'.cell? p0 = some v0 ∧ w'.cell? p1 = some v1 ∧ w'.cell? p2 = some v2 ∧ w'.cell? p3 = some v3 ∧ w'.cell? p4 = some v4 ∧ w'.cell? p5 = some v5 ∧ w'.cell? p6 = some v6 ∧ Hid (Kg r w0 [(p0, v0), (p1, v1), (p2, v2), (p3, v3), (p4, v4), (p5, v5), (p6, v6)] w') := ⟨h.at_ (by simp), h.at_ (by simp), h.at_ (by simp), h.at_ (by simp), h.at_ (by simp), h.at_ (by simp), h.at_ (by simp), h⟩
theorem Kg.drew_7 (h : Hid (Kg r w0 [(p0, v0), (p1, v1), (p2, v2), (p3, v3), (p4, v4), (p5, v5), (p6, v6)] w')) : w'.drew.cell? p0 = some v0 ∧ w'.drew.cell? p1 = some v1 ∧ w'.drew.cell? p2 = some v2 ∧ w'.drew.cell? p3 = some v3 ∧ w'.drew.cell? p4 = some v4 ∧ w'.drew.cell? p5 = some v5 ∧ w'.drew.cell? p6 = some v6 ∧ Hid (Kg r w0 [(p0, v0), (p1, v1), (p2, v2), (p3, v3), (p4, v4), (p5, v5), (p6, v6)] w'.drew) := Kg.of_7 ⟨h.all, only_drew h.low⟩
theorem Kg.step_7 (h : Hid (Kg r w0 [(p0, v0), (p1, v1), (p2, v2), (p3, v3), (p4, v4), (p5, v5), (p6, v6)] w')) (hb : Below w'.heap.size w' w1) : w1.cell? p0 = some v0 ∧ w1.cell? p1 = some v1 ∧ w1.cell? p2 = some v2 ∧ w1.cell? p3 = some v3 ∧ w1.cell? p4 = some v4 ∧ w1.cell? p5 = some v5 ∧ w1.cell? p6 = some v6 ∧ Hid (Kg r w0 [(p0, v0), (p1, v1), (p2, v2), (p3, v3), (p4, v4), (p5, v5), (p6, v6)] w1) := Kg.of_7 ⟨h.all, only_below h.low hb⟩
theorem Kg.far_7 (h : Hid (Kg r w0 [(p0, v0), (p1, v1), (p2, v2), (p3, v3), (p4, v4), (p5, v5), (p6, v6)] w')) (hb : w0.grownBy w1 r) : w1.cell? p0 = some v0 ∧ w1.cell? p1 = some v1 ∧ w1.cell? p2 = some v2 ∧ w1.cell? p3 = some v3 ∧ w1.cell? p4 = some v4 ∧ w1.cell? p5 = some v5 ∧ w1.cell? p6 = some v6 ∧ Hid (Kg r w0 [(p0, v0), (p1, v1), (p2, v2), (p3, v3), (p4, v4), (p5, v5), (p6, v6)] w1) := Kg.of_7 ⟨h.all, hb⟩
theorem Kg.alloc_7 (h : Hid (Kg r w0 [(p0, v0), (p1, v1), (p2, v2), (p3, v3), (p4, v4), (p5, v5), (p6, v6)] w')) (x : Obj) : (w'.alloc x).cell? p0 = some v0 ∧ (w'.alloc x).cell? p1 = some v1 ∧ (w'.alloc x).cell? p2 = some v2 ∧ (w'.alloc x).cell? p3 = some v3 ∧ (w'.alloc x).cell? p4 = some v4 ∧ (w'.alloc x).cell? p5 = some v5 ∧ (w'.alloc x).cell? p6 = some v6 ∧ Hid (Kg r w0 [(p0, v0), (p1, v1), (p2, v2), (p3, v3), (p4, v4), (p5, v5), (p6, v6)] (w'.alloc x)) := Kg.of_7 ⟨h.all, only_alloc h.low x⟩
end
section
variable {r : Option Nat} {w0 w' w1 : World} {p0 p1 p2 p3 p4 p5 p6 p7 : Addr} {v0 v1 v2 v3 v4 v5 v6 v7 : Value}
theorem Kg.new_8 (h0 : w0.cell? p0 = some v0) (b0 : p0.block < w0.heap.size ∧ some p0.block ≠ r) (h1 : w0.cell? p1 = some v1) (b1 : p1.block < w0.heap.size ∧ some p1.block ≠ r) (h2 : w0.cell? p2 = some v2) (b2 : p2.block < w0.heap.size ∧ some p2.block ≠ r) (h3 : w0.cell? p3 = some v3) (b3 : p3.block < w0.heap.size ∧ some p3.block ≠ r) (h4 : w0.cell? p4 = some v4) (b4 : p4.block < w0.heap.size ∧ some p4.block ≠ r) (h5 : w0.cell? p5 = some v5) (b5 : p5.block < w0.heap.size ∧ some p5.block ≠ r) (h6 : w0.cell? p6 = some v6) (b6 : p6.block < w0.heap.size ∧ some p6.block ≠ r) (h7 : w0.cell? p7 = some v7) (b7 : p7.block < w0.heap.size ∧ some p7.block ≠ r) : Kg r w0 [(p0, v0), (p1, v1), (p2, v2), (p3, v3), (p4, v4), (p5, v5), (p6, v6), (p7, v7)] w0 := ⟨by simp only [List.forall_mem_cons, List.not_mem_nil, false_implies, implies_true, and_true]; exact ⟨⟨h0, b0⟩, ⟨h1, b1⟩, ⟨h2, b2⟩, ⟨h3, b3⟩, ⟨h4, b4⟩, ⟨h5, b5⟩, ⟨h6, b6⟩, ⟨h7, b7⟩⟩, only_of_below (Below.refl _ _) _⟩
theorem Kg.of_8 (h : Kg r w0 [(p0, v0), (p1, v1), (p2, v2), (p3, v3), (p4, v4), (p5, v5), (p6, v6), (p7, v7)] w') : w'.cell? p0 = some v0 ∧ w'.cell? p1 = some v1 ∧ w'.cell? p2 = some v2 ∧ w'.cell? p3 = some v3 ∧ w'.cell? p4 = some v4 ∧ w'.cell? p5 = some v5 ∧ w'.cell? p6 = some v6 ∧ w'.cell? p7 = some v7 ∧ Hid (Kg r w0 [(p0, v0), (p1, v1), (p2, v2), (p3, v3), (p4, v4), (p5, v5), (p6, v6), (p7, v7)] w') := ⟨h.at_ (by simp), h.at_ (by simp), h.at_ (by simp), h.at_ (by simp), h.at_ (by simp), h.at_ (by simp), h.at_ (by simp), h.at_ (by simp), h⟩
theorem Kg.drew_8 (h : Hid (Kg r w0 [(p0, v0), (p1, v1), (p2, v2), (p3, v3), (p4, v4), (p5, v5), (p6, v6), (p7, v7)] w')) : w'.drew.cell? p0 = some v0 ∧ w'.drew.cell? p1 = some v1 ∧ w'.drew.cell? p2 = some v2 ∧ w'.drew.cell? p3 = some v3 ∧ w'.drew.cell? p4 = some v4 ∧ w'.drew.cell? p5 = some v5 ∧ w'.drew.cell? p6 = some v6 ∧ w'.drew.cell? p7 = some v7 ∧ Hid (Kg r w0 [(p0, v0), (p1, v1), (p2, v2), (p3, v3), (p4, v4), (p5, v5), (p6, v6), (p7, v7)] w'.drew) := Kg.of_8 ⟨h.all, only_drew h.low⟩
theorem Kg.step_8 (h : Hid (Kg r w0 [(p0, v0), (p1, v1), (p2, v2), (p3, v3), (p4, v4), (p5, v5), (p6, v6), (p7, v7)] w')) (hb : Below w'.heap.size w' w1) : w1.cell? p0 = some v0 ∧ w1.cell? p1 = some v1 ∧ w1.cell? p2 = some v2 ∧ w1.cell? p3 = some v3 ∧ w1.cell? p4 = some v4 ∧ w1.cell? p5 = some v5 ∧ w1.cell? p6 = some v6 ∧ w1.cell? p7 = some v7 ∧ Hid (Kg r w0 [(p0, v0), (p1, v1), (p2, v2), (p3, v3), (p4, v4), (p5, v5), (p6, v6), (p7, v7)] w1) := Kg.of_8 ⟨h.all, only_below h.low hb⟩
theorem Kg.far_8 (h : Hid (Kg r w0 [(p0, v0), (p1, v1), (p2, v2), (p3, v3), (p4, v4), (p5, v5), (p6, v6), (p7, v7)] w')) (hb : w0.grownBy w1 r) : w1.cell? p0 = some v0 ∧ w1.cell? p1 = some v1 ∧ w1.cell? p2 = some v2 ∧ w1.cell? p3 = some v3 ∧ w1.cell? p4 = some v4 ∧ w1.cell? p5 = some v5 ∧ w1.cell? p6 = some v6 ∧ w1.cell? p7 = some v7 ∧ Hid (Kg r w0 [(p0, v0), (p1, v1), (p2, v2), (p3, v3), (p4, v4), (p5, v5), (p6, v6), (p7, v7)] w1) := Kg.of_8 ⟨h.all, hb⟩
theorem Kg.alloc_8 (h : Hid (Kg r w0 [(p0, v0), (p1, v1), (p2, v2), (p3, v3), (p4, v4), (p5, v5), (p6, v6), (p7, v7)] w')) (x : Obj) : (w'.alloc x).cell? p0 = some v0 ∧ (w'.alloc x).cell? p1 = some v1 ∧ (w'.alloc x).cell? p2 = some v2 ∧ (w'.alloc x).cell? p3 = some v3 ∧ (w'.alloc x).cell? p4 = some v4 ∧ (w'.alloc x).cell? p5 = some v5 ∧ (w'.alloc x).cell? p6 = some v6 ∧ (w'.alloc x).cell? p7 = some v7 ∧ Hid (Kg r w0 [(p0, v0), (p1, v1), (p2, v2), (p3, v3), (p4, v4), (p5, v5), (p6, v6), (p7, v7)] (w'.alloc x)) := Kg.of_8 ⟨h.all, only_alloc h.low x⟩
end
section
variable {r : Option Nat} {w0 w' w1 : World} {p0 p1 p2 p3 p4 p5 p6 p7 p8 : Addr} {v0 v1 v2 v3 v4 v5 v6 v7 v8 : Value}
theorem Kg.new_9 (h0 : w0.cell? p0 = some v0) (b0 : p0.block < w0.heap.size ∧ some p0.block ≠ r) (h1 : w0.cell? p1 = some v1) (b1 : p1.block < w0.heap.size ∧ some p1.block ≠ r) (h2 : w0.cell? p2 = some v2) (b2 : p2.block < w0.heap.size ∧ some p2.block ≠ r) (h3 : w0.cell? p3 = some v3) (b3 : p3.block < w0.heap.size ∧ some p3.block ≠ r) (h4 : w0.cell? p4 = some v4) (b4 : p4.block < w0.heap.size ∧ some p4.block ≠ r) (h5 : w0.cell? p5 = some v5) (b5 : p5.block < w0.heap.size ∧ some p5.block ≠ r) (h6 : w0.cell? p6 = some v6) (b6 : p6.block < w0.heap.size ∧ some p6.block ≠ r) (h7 : w0.cell? p7 = some v7) (b7 : p7.block < w0.heap.size ∧ some p7.block ≠ r) (h8 : w0.cell? p8 = some v8) (b8 : p8.block < w0.heap.size ∧ some p8.block ≠ r) : Kg r w0 [(p0, v0), (p1, v1), (p2, v2), (p3, v3), (p4, v4), (p5, v5), (p6, v6), (p7, v7), (p8, v8)] w0 := ⟨by simp only [List.forall_mem_cons, List.not_mem_nil, false_implies, implies_true, and_true]; exact ⟨⟨h0, b0⟩, ⟨h1, b1⟩, ⟨h2, b2⟩, ⟨h3, b3⟩, ⟨h4, b4⟩, ⟨h5, b5⟩, ⟨h6, b6⟩, ⟨h7, b7⟩, ⟨h8, b8⟩⟩, only_of_below (Below.refl _ _) _⟩
theorem Kg.of_9 (h : Kg r w0 [(p0, v0), (p1, v1), (p2, v2), (p3, v3), (p4, v4), (p5, v5), (p6, v6), (p7, v7), (p8, v8)] w') : w'.cell? p0 = some v0 ∧ w'.cell? p1 = some v1 ∧ w'.cell? p2 = some v2 ∧ w'.cell? p3 = some v3 ∧ w'.cell? p4 = some v4 ∧ w'.cell? p5 = some v5 ∧ w'.cell? p6 = some v6 ∧ w'.cell? p7 = some v7 ∧ w'.cell? p8 = some v8 ∧ Hid (Kg r w0 [(p0, v0), (p1, v1), (p2, v2), (p3, v3), (p4, v4), (p5, v5), (p6, v6), (p7, v7), (p8, v8)] w') := ⟨h.at_ (by simp), h.at_ (by simp), h.at_ (by simp), h.at_ (by simp), h.at_ (by simp), h.at_ (by simp), h.at_ (by simp), h.at_ (by simp), h.at_ (by simp), h⟩
theorem Kg.drew_9 (h : Hid (Kg r w0 [(p0, v0), (p1, v1), (p2, v2), (p3, v3), (p4, v4), (p5, v5), (p6, v6), (p7, v7), (p8, v8)] w')) : w'.drew.cell? p0 = some v0 ∧ w'.drew.cell? p1 = some v1 ∧ w'.drew.cell? p2 = some v2 ∧ w'.drew.cell? p3 = some v3 ∧ w'.drew.cell? p4 = some v4 ∧ w'.drew.cell? p5 = some v5 ∧ w'.drew.cell? p6 = some v6 ∧ w'.drew.cell? p7 = some v7 ∧ w'.drew.cell? p8 = some v8 ∧ Hid (Kg r w0 [(p0, v0), (p1, v1), (p2, v2), (p3, v3), (p4, v4), (p5, v5), (p6, v6), (p7, v7), (p8, v8)] w'.drew) := Kg.of_9 ⟨h.all, only_drew h.low⟩
theorem Kg.step_9 (h : Hid (Kg r w0 [(p0, v0), (p1, v1), (p2, v2), (p3, v3), (p4, v4), (p5, v5), (p6, v6), (p7, v7), (p8, v8)] w')) (hb : Below w'.heap.size w' w1) : w1.cell? p0 = some v0 ∧ w1.cell? p1 = some v1 ∧ w1.cell? p2 = some v2 ∧ w1.cell? p3 = some v3 ∧ w1.cell? p4 = some v4 ∧ w1.cell? p5 = some v5 ∧ w1.cell? p6 = some v6 ∧ w1.cell? p7 = some v7 ∧ w1.cell? p8 = some v8 ∧ Hid (Kg r w0 [(p0, v0), (p1, v1), (p2, v2), (p3, v3), (p4, v4), (p5, v5), (p6, v6), (p7, v7), (p8, v8)] w1) := Kg.of_9 ⟨h.all, only_below h.low hb⟩
theorem Kg.far_9 (h : Hid (Kg r w0 [(p0, v0), (p1, v1), (p2, v2), (p3, v3), (p4, v4), (p5, v5), (p6, v6), (p7, v7), (p8, v8)] w')) (hb : w0.grownBy w1 r) : w1.cell? p0 = some v0 ∧ w1.cell? p1 = some v1 ∧ w1.cell? p2 = some v2 ∧ w1.cell? p3 = some v3 ∧ w1.cell? p4 = some v4 ∧ w1.cell? p5 = some v5 ∧ w1.cell? p6 = some v6 ∧ w1.cell? p7 = some v7 ∧ w1.cell? p8 = some v8 ∧ Hid (Kg r w0 [(p0, v0), (p1, v1), (p2, v2), (p3, v3), (p4, v4), (p5, v5), (p6, v6), (p7, v7), (p8, v8)] w1) := Kg.of_9 ⟨h.all, hb⟩
theorem Kg.alloc_9 (h : Hid (Kg r w0 [(p0, v0), (p1, v1), (p2, v2), (p3, v3), (p4, v4), (p5, v5), (p6, v6), (p7, v7), (p8, v8)] w')) (x : Obj) : (w'.alloc x).cell? p0 = some v0 ∧ (w'.alloc x).cell? p1 = some v1 ∧ (w'.alloc x).cell? p2 = some v2 ∧ (w'.alloc x).cell? p3 = some v3 ∧ (w'.alloc x).cell? p4 = some v4 ∧ (w'.alloc x).cell? p5 = some v5 ∧ (w'.alloc x).cell? p6 = some v6 ∧ (w'.alloc x).cell? p7 = some v7 ∧ (w'.alloc x).cell? p8 = some v8 ∧ Hid (Kg r w0 [(p0, v0), (p1, v1), (p2, v2), (p3, v3), (p4, v4), (p5, v5), (p6, v6), (p7, v7), (p8, v8)] (w'.alloc x)) := Kg.of_9 ⟨h.all, only_alloc h.low x⟩
end
section
variable {r : Option Nat} {w0 w' w1 : World} {p0 p1 p2 p3 p4 p5 p6 p7 p8 p9 : Addr} {v0 v1 v2 v3 v4 v5 v6 v7 v8 v9 : Value}
theorem Kg.new_10 (h0 : w0.cell? p0 = some v0) (b0 : p0.block < w0.heap.size ∧ some p0.block ≠ r) (h1 : w0.cell? p1 = some v1) (b1 : p1.block < w0.heap.size ∧ some p1.block ≠ r) (h2 : w0.cell? p2 = some v2) (b2 : p2.block < w0.heap.size ∧ some p2.block ≠ r) (h3 : w0.cell? p3 = some v3) (b3 : p3.block < w0.heap.size ∧ some p3.block ≠ r) (h4 : w0.cell? p4 = some v4) (b4 : p4.block < w0.heap.size ∧ some p4.block ≠ r) (h5 : w0.cell? p5 = some v5) (b5 : p5.block < w0.heap.size ∧ some p5.block ≠ r) (h6 : w0.cell? p6 = some v6) (b6 : p6.block < w0.heap.size ∧ some p6.block ≠ r) (h7 : w0.cell? p7 = some v7) (b7 : p7.block < w0.heap.size ∧ some p7.block ≠ r) (h8 : w0.cell? p8 = some v8) (b8 : p8.block < w0.heap.size ∧ some p8.block ≠ r) (h9 : w0.cell? p9 = some v9) (b9 : p9.block < w0.heap.size ∧ some p9.block ≠ r) : Kg r w0 [(p0, v0), (p1, v1), (p2, v2), (p3, v3), (p4, v4), (p5, v5), (p6, v6), (p7, v7), (p8, v8), (p9, v9)] w0 := ⟨by simp only [List.forall_mem_cons, List.not_mem_nil, false_implies, implies_true, and_true]; exact ⟨⟨h0, b0⟩, ⟨h1, b1⟩, ⟨h2, b2⟩, ⟨h3, b3⟩, ⟨h4, b4⟩, ⟨h5, b5⟩, ⟨h6, b6⟩, ⟨h7, b7⟩, ⟨h8, b8⟩, ⟨h9, b9⟩⟩, only_of_below (Below.refl _ _) _⟩
theorem Kg.of_10 (h : Kg r w0 [(p0, v0), (p1, v1), (p2, v2), (p3, v3), (p4, v4), (p5, v5), (p6, v6), (p7, v7), (p8, v8), (p9, v9)] w') : w'.cell? p0 = some v0 ∧ w'.cell? p1 = some v1 ∧ w'.cell? p2 = some v2 ∧ w'.cell? p3 = some v3 ∧ w'.cell? p4 = some v4 ∧ w'.cell? p5 = some v5 ∧ w'.cell? p6 = some v6 ∧ w'.cell? p7 = some v7 ∧ w'.cell? p8 = some v8 ∧ w'.cell? p9 = some v9 ∧ Hid (Kg r w0 [(p0, v0), (p1, v1), (p2, v2), (p3, v3), (p4, v4), (p5, v5), (p6, v6), (p7, v7), (p8, v8), (p9, v9)] w') := ⟨h.at_ (by simp), h.at_ (by simp), h.at_ (by simp), h.at_ (by simp), h.at_ (by simp), h.at_ (by simp), h.at_ (by simp), h.at_ (by simp), h.at_ (by simp), h.at_ (by simp), h⟩
theorem Kg.drew_10 (h : Hid (Kg r w0 [(p0, v0), (p1, v1), (p2, v2), (p3, v3), (p4, v4), (p5, v5), (p6, v6), (p7, v7), (p8, v8), (p9, v9)] w')) : w'.drew.cell? p0 = some v0 ∧ w'.drew.cell? p1 = some v1 ∧ w'.drew.cell? p2 = some v2 ∧ w'.drew.cell? p3 = some v3 ∧ w'.drew.cell? p4 = some v4 ∧ w'.drew.cell? p5 = some v5 ∧ w'.drew.cell? p6 = some v6 ∧ w'.drew.cell? p7 = some v7 ∧ w'.drew.cell? p8 = some v8 ∧ w'.drew.cell? p9 = some v9 ∧ Hid (Kg r w0 [(p0, v0), (p1, v1), (p2, v2), (p3, v3), (p4, v4), (p5, v5), (p6, v6), (p7, v7), (p8, v8), (p9, v9)] w'.drew) := Kg.of_10 ⟨h.all, only_drew h.low⟩
theorem Kg.step_10 (h : Hid (Kg r w0 [(p0, v0), (p1, v1), (p2, v2), (p3, v3), (p4, v4), (p5, v5), (p6, v6), (p7, v7), (p8, v8), (p9, v9)] w')) (hb : Below w'.heap.size w' w1) : w1.cell? p0 = some v0 ∧ w1.cell? p1 = some v1 ∧ w1.cell? p2 = some v2 ∧ w1.cell? p3 = some v3 ∧ w1.cell? p4 = some v4 ∧ w1.cell? p5 = some v5 ∧ w1.cell? p6 = some v6 ∧ w1.cell? p7 = some v7 ∧ w1.cell? p8 = some v8 ∧ w1.cell? p9 = some v9 ∧ Hid (Kg r w0 [(p0, v0), (p1, v1), (p2, v2), (p3, v3), (p4, v4), (p5, v5), (p6, v6), (p7, v7), (p8, v8), (p9, v9)] w1) := Kg.of_10 ⟨h.all, only_below h.low hb⟩
theorem Kg.far_10 (h : Hid (Kg r w0 [(p0, v0), (p1, v1), (p2, v2), (p3, v3), (p4, v4), (p5, v5), (p6, v6), (p7, v7), (p8, v8), (p9, v9)] w')) (hb : w0.grownBy w1 r) : w1.cell? p0 = some v0 ∧ w1.cell? p1 = some v1 ∧ w1.cell? p2 = some v2 ∧ w1.cell? p3 = some v3 ∧ w1.cell? p4 = some v4 ∧ w1.cell? p5 = some v5 ∧ w1.cell? p6 = some v6 ∧ w1.cell? p7 = some v7 ∧ w1.cell? p8 = some v8 ∧ w1.cell? p9 = some v9 ∧ Hid (Kg r w0 [(p0, v0), (p1, v1), (p2, v2), (p3, v3), (p4, v4), (p5, v5), (p6, v6), (p7, v7), (p8, v8), (p9, v9)] w1) := Kg.of_10 ⟨h.all, hb⟩
theorem Kg.alloc_10 (h : Hid (Kg r w0 [(p0, v0), (p1, v1), (p2, v2), (p3, v3), (p4, v4), (p5, v5), (p6, v6), (p7, v7), (p8, v8), (p9, v9)] w')) (x : Obj) : (w'.alloc x).cell? p0 = some v0 ∧ (w'.alloc x).cell? p1 = some v1 ∧ (w'.alloc x).cell? p2 = some v2 ∧ (w'.alloc x).cell? p3 = some v3 ∧ (w'.alloc x).cell? p4 = some v4 ∧ (w'.alloc x).cell? p5 = some v5 ∧ (w'.alloc x).cell? p6 = some v6 ∧ (w'.alloc x).cell? p7 = some v7 ∧ (w'.alloc x).cell? p8 = some v8 ∧ (w'.alloc x).cell? p9 = some v9 ∧ Hid (Kg r w0 [(p0, v0), (p1, v1), (p2, v2), (p3, v3), (p4, v4), (p5, v5), (p6, v6), (p7, v7), (p8, v8), (p9, v9)] (w'.alloc x)) := Kg.of_10 ⟨h.all, only_alloc h.low x⟩
end
section
variable {r : Option Nat} {w0 w' w1 : World} {p0 p1 p2 p3 p4 p5 p6 p7 p8 p9 p10 : Addr} {v0 v1 v2 v3 v4 v5 v6 v7 v8 v9 v10 : Value}
theorem Kg.new_11 (h0 : w0.cell? p0 = some v0) (b0 : p0.block < w0.heap.size ∧ some p0.block ≠ r) (h1 : w0.cell? p1 = some v1) (b1 : p1.block < w0.heap.size ∧ some p1.block ≠ r) (h2 : w0.cell? p2 = some v2) (b2 : p2.block < w0.heap.size ∧ some p2.block ≠ r) (h3 : w0.cell? p3 = some v3) (b3 : p3.block < w0.heap.size ∧ some p3.block ≠ r) (h4 : w0.cell? p4 = some v4) (b4 : p4.block < w0.heap.size ∧ some p4.block ≠ r) (h5 : w0.cell? p5 = some v5) (b5 : p5.block < w0.heap.size ∧ some p5.block ≠ r) (h6 : w0.cell? p6 = some v6) (b6 : p6.block < w0.heap.size ∧ some p6.block ≠ r) (h7 : w0.cell? p7 = some v7) (b7 : p7.block < w0.heap.size ∧ some p7.block ≠ r) (h8 : w0.cell? p8 = some v8) (b8 : p8.block < w0.heap.size ∧ some p8.block ≠ r) (h9 : w0.cell? p9 = some v9) (b9 : p9.block < w0.heap.size ∧ some p9.block ≠ r) (h10 : w0.cell? p10 = some v10) (b10 : p10.block < w0.heap.size ∧ some p10.block ≠ r) : Kg r w0 [(p0, v0), (p1, v1), (p2, v2), (p3, v3), (p4, v4), (p5, v5), (p6, v6), (p7, v7), (p8, v8), (p9, v9), (p10, v10)] w0 := ⟨by simp only [List.forall_mem_cons, List.not_mem_nil, false_implies, implies_true, and_true]; exact ⟨⟨h0, b0⟩, ⟨h1, b1⟩, ⟨h2, b2⟩, ⟨h3, b3⟩, ⟨h4, b4⟩, ⟨h5, b5⟩, ⟨h6, b6⟩, ⟨h7, b7⟩, ⟨h8, b8⟩, ⟨h9, b9⟩, ⟨h10, b10⟩⟩, only_of_below (Below.refl _ _) _⟩
theorem Kg.of_11 (h : Kg r w0 [(p0, v0), (p1, v1), (p2, v2), (p3, v3), (p4, v4), (p5, v5), (p6, v6), (p7, v7), (p8, v8), (p9, v9), (p10, v10)] w') : w'.cell? p0 = some v0 ∧ w'.cell? p1 = some v1 ∧ w'.cell? p2 = some v2 ∧ w'.cell? p3 = some v3 ∧ w'.cell? p4 = some v4 ∧ w'.cell? p5 = some v5 ∧ w'.cell? p6 = some v6 ∧ w'.cell? p7 = some v7 ∧ w'.cell? p8 = some v8 ∧ w'.cell? p9 = some v9 ∧ w'.cell? p10 = some v10 ∧ Hid (Kg r w0 [(p0, v0), (p1, v1), (p2, v2), (p3, v3), (p4, v4), (p5, v5), (p6, v6), (p7, v7), (p8, v8), (p9, v9), (p10, v10)] w') := ⟨h.at_ (by simp), h.at_ (by simp), h.at_ (by simp), h.at_ (by simp), h.at_ (by simp), h.at_ (by simp), h.at_ (by simp), h.at_ (by simp), h.at_ (by simp), h.at_ (by simp), h.at_ (by simp), h⟩
theorem Kg.drew_11 (h : Hid (Kg r w0 [(p0, v0), (p1, v1), (p2, v2), (p3, v3), (p4, v4), (p5, v5), (p6, v6), (p7, v7), (p8, v8), (p9, v9), (p10, v10)] w')) : w'.drew.cell? p0 = some v0 ∧ w'.drew.cell? p1 = some v1 ∧ w'.drew.cell? p2 = some v2 ∧ w'.drew.cell? p3 = some v3 ∧ w'.drew.cell? p4 = some v4 ∧ w'.drew.cell? p5 = some v5 ∧ w'.drew.cell? p6 = some v6 ∧ w'.drew.cell? p7 = some v7 ∧ w'.drew.cell? p8 = some v8 ∧ w'.drew.cell? p9 = some v9 ∧ w'.drew.cell? p10 = some v10 ∧ Hid (Kg r w0 [(p0, v0), (p1, v1), (p2, v2), (p3, v3), (p4, v4), (p5, v5), (p6, v6), (p7, v7), (p8, v8), (p9, v9), (p10, v10)] w'.drew) := Kg.of_11 ⟨h.all, only_drew h.low⟩
theorem Kg.step_11 (h : Hid (Kg r w0 [(p0, v0), (p1, v1), (p2, v2), (p3, v3), (p4, v4), (p5, v5), (p6, v6), (p7, v7), (p8, v8), (p9, v9), (p10, v10)] w')) (hb : Below w'.heap.size w' w1) : w1.cell? p0 = some v0 ∧ w1.cell? p1 = some v1 ∧ w1.cell? p2 = some v2 ∧ w1.cell? p3 = some v3 ∧ w1.cell? p4 = some v4 ∧ w1.cell? p5 = some v5 ∧ w1.cell? p6 = some v6 ∧ w1.cell? p7 = some v7 ∧ w1.cell? p8 = some v8 ∧ w1.cell? p9 = some v9 ∧ w1.cell? p10 = some v10 ∧ Hid (Kg r w0 [(p0, v0), (p1, v1), (p2, v2), (p3, v3), (p4, v4), (p5, v5), (p6, v6), (p7, v7), (p8, v8), (p9, v9), (p10, v10)] w1) := Kg.of_11 ⟨h.all, only_below h.low hb⟩
theorem Kg.far_11 (h : Hid (Kg r w0 [(p0, v0), (p1, v1), (p2, v2), (p3, v3), (p4, v4), (p5, v5), (p6, v6), (p7, v7), (p8, v8), (p9, v9), (p10, v10)] w')) (hb : w0.grownBy w1 r) : w1.cell? p0 = some v0 ∧ w1.cell? p1 = some v1 ∧ w1.cell? p2 = some v2 ∧ w1.cell? p3 = some v3 ∧ w1.cell? p4 = some v4 ∧ w1.cell? p5 = some v5 ∧ w1.cell? p6 = some v6 ∧ w1.cell? p7 = some v7 ∧ w1.cell? p8 = some v8 ∧ w1.cell? p9 = some v9 ∧ w1.cell? p10 = some v10 ∧ Hid (Kg r w0 [(p0, v0), (p1, v1), (p2, v2), (p3, v3), (p4, v4), (p5, v5), (p6, v6), (p7, v7), (p8, v8), (p9, v9), (p10, v10)] w1) := Kg.of_11 ⟨h.all, hb⟩
theorem Kg.alloc_11 (h : Hid (Kg r w0 [(p0, v0), (p1, v1), (p2, v2), (p3, v3), (p4, v4), (p5, v5), (p6, v6), (p7, v7), (p8, v8), (p9, v9), (p10, v10)] w')) (x : Obj) : (w'.alloc x).cell? p0 = some v0 ∧ (w'.alloc x).cell? p1 = some v1 ∧ (w'.alloc x).cell? p2 = some v2 ∧ (w'.alloc x).cell? p3 = some v3 ∧ (w'.alloc x).cell? p4 = some v4 ∧ (w'.alloc x).cell? p5 = some v5 ∧ (w'.alloc x).cell? p6 = some v6 ∧ (w'.alloc x).cell? p7 = some v7 ∧ (w'.alloc x).cell? p8 = some v8 ∧ (w'.alloc x).cell? p9 = some v9 ∧ (w'.alloc x).cell? p10 = some v10 ∧ Hid (Kg r w0 [(p0, v0), (p1, v1), (p2, v2), (p3, v3), (p4, v4), (p5, v5), (p6, v6), (p7, v7), (p8, v8), (p9, v9), (p10, v10)] (w'.alloc x)) := Kg.of_11 ⟨h.all, only_alloc h.low x⟩
end
section
variable {r : Option Nat} {w0 w' w1 : World} {p0 p1 p2 p3 p4 p5 p6 p7 p8 p9 p10 p11 : Addr} {v0 v1 v2 v3 v4 v5 v6 v7 v8 v9 v10 v11 : Value}
theorem Kg.new_12 (h0 : w0.cell? p0 = some v0) (b0 : p0.block < w0.heap.size ∧ some p0.block ≠ r) (h1 : w0.cell? p1 = some v1) (b1 : p1.block < w0.heap.size ∧ some p1.block ≠ r) (h2 : w0.cell? p2 = some v2) (b2 : p2.block < w0.heap.size ∧ some p2.block ≠ r) (h3 : w0.cell? p3 = some v3) (b3 : p3.block < w0.heap.size ∧ some p3.block ≠ r) (h4 : w0.cell? p4 = some v4) (b4 : p4.block < w0.heap.size ∧ some p4.block ≠ r) (h5 : w0.cell? p5 = some v5) (b5 : p5.block < w0.heap.size ∧ some p5.block ≠ r) (h6 : w0.cell? p6 = some v6) (b6 : p6.block < w0.heap.size ∧ some p6.block ≠ r) (h7 : w0.cell? p7 = some v7) (b7 : p7.block < w0.heap.size ∧ some p7.block ≠ r) (h8 : w0.cell? p8 = some v8) (b8 : p8.block < w0.heap.size ∧ some p8.block ≠ r) (h9 : w0.cell? p9 = some v9) (b9 : p9.block < w0.heap.size ∧ some p9.block ≠ r) (h10 : w0.cell? p10 = some v10) (b10 : p10.block < w0.heap.size ∧ some p10.block ≠ r) (h11 : w0.cell? p11 = some v11) (b11 : p11.block < w0.heap.size ∧ some p11.block ≠ r) : Kg r w0 [(p0, v0), (p1, v1), (p2, v2), (p3, v3), (p4, v4), (p5, v5), (p6, v6), (p7, v7), (p8, v8), (p9, v9), (p10, v10), (p11, v11)] w0 := ⟨by simp only [List.forall_mem_cons, List.not_mem_nil, false_implies, implies_true, and_true]; exact ⟨⟨h0, b0⟩, ⟨h1, b1⟩, ⟨h2, b2⟩, ⟨h3, b3⟩, ⟨h4, b4⟩, ⟨h5, b5⟩, ⟨h6, b6⟩, ⟨h7, b7⟩, ⟨h8, b8⟩, ⟨h9, b9⟩, ⟨h10, b10⟩, ⟨h11, b11⟩⟩, only_of_below (Below.refl _ _) _⟩
theorem Kg.of_12 (h : Kg r w0 [(p0, v0), (p1, v1), (p2, v2), (p3, v3), (p4, v4), (p5, v5), (p6, v6), (p7, v7), (p8, v8), (p9, v9), (p10, v10), (p11, v11)] w') : w'.cell? p0 = some v0 ∧ w'.cell? p1 = some v1 ∧ w'.cell? p2 = some v2 ∧ w'.cell? p3 = some v3 ∧ w'.cell? p4 = some v4 ∧ w'.cell? p5 = some v5 ∧ w'.cell? p6 = some v6 ∧ w'.cell? p7 = some v7 ∧ w'.cell? p8 = some v8 ∧ w'.cell? p9 = some v9 ∧ w'.cell? p10 = some v10 ∧ w'.cell? p11 = some v11 ∧ Hid (Kg r w0 [(p0, v0), (p1, v1), (p2, v2), (p3, v3), (p4, v4), (p5, v5), (p6, v6), (p7, v7), (p8, v8), (p9, v9), (p10, v10), (p11, v11)] w') := ⟨h.at_ (by simp), h.at_ (by simp), h.at_ (by simp), h.at_ (by simp), h.at_ (by simp), h.at_ (by simp), h.at_ (by simp), h.at_ (by simp), h.at_ (by simp), h.at_ (by simp), h.at_ (by simp), h.at_ (by simp), h⟩
theorem Kg.drew_12 (h : Hid (Kg r w0 [(p0, v0), (p1, v1), (p2, v2), (p3, v3), (p4, v4), (p5, v5), (p6, v6), (p7, v7), (p8, v8), (p9, v9), (p10, v10), (p11, v11)] w')) : w'.drew.cell? p0 = some v0 ∧ w'.drew.cell? p1 = some v1 ∧ w'.drew.cell? p2 = some v2 ∧ w'.drew.cell? p3 = some v3 ∧ w'.drew.cell? p4 = some v4 ∧ w'.drew.cell? p5 = some v5 ∧ w'.drew.cell? p6 = some v6 ∧ w'.drew.cell? p7 = some v7 ∧ w'.drew.cell? p8 = some v8 ∧ w'.drew.cell? p9 = some v9 ∧ w'.drew.cell? p10 = some v10 ∧ w'.drew.cell? p11 = some v11 ∧ Hid (Kg r w0 [(p0, v0), (p1, v1), (p2, v2), (p3, v3), (p4, v4), (p5, v5), (p6, v6), (p7, v7), (p8, v8), (p9, v9), (p10, v10), (p11, v11)] w'.drew) := Kg.of_12 ⟨h.all, only_drew h.low⟩
theorem Kg.step_12 (h : Hid (Kg r w0 [(p0, v0), (p1, v1), (p2, v2), (p3, v3), (p4, v4), (p5, v5), (p6, v6), (p7, v7), (p8, v8), (p9, v9), (p10, v10), (p11, v11)] w')) (hb : Below w'.heap.size w' w1) : w1.cell? p0 = some v0 ∧ w1.cell? p1 = some v1 ∧ w1.cell? p2 = some v2 ∧ w1.cell? p3 = some v3 ∧ w1.cell? p4 = some v4 ∧ w1.cell? p5 = some v5 ∧ w1.cell? p6 = some v6 ∧ w1.cell? p7 = some v7 ∧ w1.cell? p8 = some v8 ∧ w1.cell? p9 = some v9 ∧ w1.cell? p10 = some v10 ∧ w1.cell? p11 = some v11 ∧ Hid (Kg r w0 [(p0, v0), (p1, v1), (p2, v2), (p3, v3), (p4, v4), (p5, v5), (p6, v6), (p7, v7), (p8, v8), (p9, v9), (p10, v10), (p11, v11)] w1) := Kg.of_12 ⟨h.all, only_below h.low hb⟩
theorem Kg.far_12 (h : Hid (Kg r w0 [(p0, v0), (p1, v1), (p2, v2), (p3, v3), (p4, v4), (p5, v5), (p6, v6), (p7, v7), (p8, v8), (p9, v9), (p10, v10), (p11, v11)] w')) (hb : w0.grownBy w1 r) : w1.cell? p0 = some v0 ∧ w1.cell? p1 = some v1 ∧ w1.cell? p2 = some v2 ∧ w1.cell? p3 = some v3 ∧ w1.cell? p4 = some v4 ∧ w1.cell? p5 = some v5 ∧ w1.cell? p6 = some v6 ∧ w1.cell? p7 = some v7 ∧ w1.cell? p8 = some v8 ∧ w1.cell? p9 = some v9 ∧ w1.cell? p10 = some v10 ∧ w1.cell? p11 = some v11 ∧ Hid (Kg r w0 [(p0, v0), (p1, v1), (p2, v2), (p3, v3), (p4, v4), (p5, v5), (p6, v6), (p7, v7), (p8, v8), (p9, v9), (p10, v10), (p11, v11)] w1) := Kg.of_12 ⟨h.all, hb⟩
theorem Kg.alloc_12 (h : Hid (Kg r w0 [(p0, v0), (p1, v1), (p2, v2), (p3, v3), (p4, v4), (p5, v5), (p6, v6), (p7, v7), (p8, v8), (p9, v9), (p10, v10), (p11, v11)] w')) (x : Obj) : (w'.alloc x).cell? p0 = some v0 ∧ (w'.alloc x).cell? p1 = some v1 ∧ (w'.alloc x).cell? p2 = some v2 ∧ (w'.alloc x).cell? p3 = some v3 ∧ (w'.alloc x).cell? p4 = some v4 ∧ (w'.alloc x).cell? p5 = some v5 ∧ (w'.alloc x).cell? p6 = some v6 ∧ (w'.alloc x).cell? p7 = some v7 ∧ (w'.alloc x).cell? p8 = some v8 ∧ (w'.alloc x).cell? p9 = some v9 ∧ (w'.alloc x).cell? p10 = some v10 ∧ (w'.alloc x).cell? p11 = some v11 ∧ Hid (Kg r w0 [(p0, v0), (p1, v1), (p2, v2), (p3, v3), (p4, v4), (p5, v5), (p6, v6), (p7, v7), (p8, v8), (p9, v9), (p10, v10), (p11, v11)] (w'.alloc x)) := Kg.of_12 ⟨h.all, only_alloc h.low x⟩
end
end Go.Proofs.Aid

/- Entries of a registry with one more, by the reference. -/
namespace Go.Proofs.YtkbgmdabmebdhaaGreatDoor.rgy
open Go.ChangeShapes Go.WideShapes Go.ChangeAt Go.RowKit Go.Proofs.Aid Go.Proofs.YtkbgmdabmebdhaaGreatDoor.name Go.Proofs.YtkbgmdabmebdhaaGreatDoor.reg
def pos (l : List En) (s : ByteArray) : Nat := (l.takeWhile fun e => lt e.key s).length
def putAt (l : List En) (x : En) (k : Nat) : List En := l.take k ++ (if h : k < l.length then (if l[k].key = x.key then ⟨x.key, l[k].reg.join x.reg⟩ :: l.drop (k + 1) else x :: l.drop k) else [x])
def putE (l : List En) (x : En) : List En := putAt l x (pos l x.key)
theorem tw_len {α : Type} (p : α → Bool) : ∀ (l : List α) (k : Nat), k ≤ l.length → (∀ j (_ : j < l.length), j < k → p l[j] = true) → (∀ h : k < l.length, p l[k] = false) → (l.takeWhile p).length = k
  | [], k, hk, _, _ => by simp at hk; subst hk; rfl
  | x :: l, 0, _, _, h0 => by
    have := h0 (by simp)
    simp at this
    simp [this]
  | x :: l, k + 1, hk, h1, h2 => by
    have hx := h1 0 (by simp) (by omega)
    simp at hx
    rw [List.takeWhile_cons, if_pos hx, List.length_cons, tw_len p l k (by simpa using hk) (fun j hj hjk => h1 (j + 1) (by simpa using hj) (by omega)) (fun h => h2 (by simpa using h))]
theorem pos_eq {l : List En} {s : ByteArray} {k : Nat} (hk : k ≤ l.length) (h1 : ∀ j (_ : j < l.length), j < k → lt l[j].key s = true) (h2 : ∀ h : k < l.length, lt l[k].key s = false) : pos l s = k := tw_len _ l k hk h1 h2
theorem put_end {l : List En} {x : En} (hp : pos l x.key = l.length) : putE l x = l ++ [x] := by
  unfold putE putAt; rw [hp, List.take_length, dif_neg (by omega)]
theorem put_same {l : List En} {x : En} {k : Nat} (hp : pos l x.key = k) (h : k < l.length) (he : l[k].key = x.key) : putE l x = l.take k ++ [⟨x.key, l[k].reg.join x.reg⟩] ++ l.drop (k + 1) := by
  unfold putE putAt; rw [hp, dif_pos h, if_pos he]; simp
theorem put_new {l : List En} {x : En} {k : Nat} (hp : pos l x.key = k) (h : k < l.length) (he : ¬ l[k].key = x.key) : putE l x = l.take k ++ [x] ++ l.drop k := by
  unfold putE putAt; rw [hp, dif_pos h, if_neg he]; simp
end Go.Proofs.YtkbgmdabmebdhaaGreatDoor.rgy

/- Entries of a registry: Put, Join and Set of the reference. -/
namespace Go.Proofs.YtkbgmdabmebdhaaGreatDoor.rgy
open Go.ChangeShapes Go.WideShapes Go.ChangeAt Go.RowKit Go.Proofs.Aid Go.Proofs.YtkbgmdabmebdhaaGreatDoor.name Go.Proofs.YtkbgmdabmebdhaaGreatDoor.reg
def RowP (w : World) (xs : List En) (c : Int) (e : Ending) (w' : World) : Prop := ∃ v, e = .returned (.tuple #[v, .int .i64 c]) ∧ Row w' w.heap.size 37 4 En.cells v xs ∧ Below w.heap.size w w'
def putsE (a b : List En) : List En := b.foldl putE a
theorem putE_len (l : List En) (x : En) : (putE l x).length ≤ l.length + 1 := by
  unfold putE putAt
  generalize pos l x.key = k
  split
  · split
    · simp only [List.length_append, List.length_take, List.length_cons, List.length_drop]; omega
    · simp only [List.length_append, List.length_take, List.length_cons, List.length_drop]; omega
  · simp only [List.length_append, List.length_take, List.length_cons, List.length_nil]; omega
theorem putsE_len (a b : List En) : (putsE a b).length ≤ a.length + b.length := by
  unfold putsE
  induction b generalizing a with
  | nil => simp
  | cons x b ih =>
    rw [List.foldl_cons, List.length_cons]
    have := ih (putE a x)
    have := putE_len a x
    omega
theorem puts_next {a b : List En} {k : Nat} (h : k < b.length) : putsE a (b.take (k + 1)) = putE (putsE a (b.take k)) b[k] := by
  unfold putsE; rw [List.take_succ_eq_append_getElem h, List.foldl_append]; rfl
theorem putE_sz {l : List En} {x : En} (hl : ∀ r ∈ l, r.sz) (hx : x.sz) : ∀ r ∈ putE l x, r.sz := by
  have hj : ∀ a b : Rg, (a.join b = a ∨ a.join b = b) := fun a b => by unfold Rg.join; split <;> simp
  intro r hr
  unfold putE putAt at hr
  rw [List.mem_append] at hr
  rcases hr with hr | hr
  · exact hl r (List.mem_of_mem_take hr)
  · split at hr
    · rename_i h
      split at hr
      · rcases List.mem_cons.1 hr with rfl | hr
        · have h1 := hl _ (List.getElem_mem h)
          refine ⟨hx.1, ?_⟩
          rcases hj l[pos l x.key].reg x.reg with e | e <;> simp only [e]
          · exact h1.2
          · exact hx.2
        · exact hl r (List.mem_of_mem_drop hr)
      · rcases List.mem_cons.1 hr with rfl | hr
        · exact hx
        · exact hl r (List.mem_of_mem_drop hr)
    · rw [List.mem_singleton] at hr; subst hr; exact hx
end Go.Proofs.YtkbgmdabmebdhaaGreatDoor.rgy

/- Entries of a registry: Join of the package takes the first entry of a list. -/
namespace Go.Proofs.YtkbgmdabmebdhaaGreatDoor.rgy
open Go.ChangeShapes Go.WideShapes Go.ChangeAt Go.RowKit Go.Proofs.Aid Go.Proofs.YtkbgmdabmebdhaaGreatDoor.name Go.Proofs.YtkbgmdabmebdhaaGreatDoor.reg
def cutA (A : Option Addr) (c : Nat) : Option Addr := if c = 1 then A else A.map (·.add (1 * 4))
/-- The first entry is taken: the box has the rest. -/
def TakeE (w : World) (g : Nat) (A : Option Addr) (n c : Nat) (x : En) (e : Ending) (w' : World) : Prop :=
  e = .returned x.val ∧ Blk w' g 22 #[.slice (cutA A c) (n - 1) (c - 1)] ∧ w.grownBy w' (some g)
end Go.Proofs.YtkbgmdabmebdhaaGreatDoor.rgy

/- Entries of a registry: Join and Put of the package. -/
namespace Go.Proofs.YtkbgmdabmebdhaaGreatDoor.rgy
open Go.ChangeShapes Go.WideShapes Go.ChangeAt Go.RowKit Go.Proofs.Aid Go.Proofs.YtkbgmdabmebdhaaGreatDoor.name Go.Proofs.YtkbgmdabmebdhaaGreatDoor.reg
def merge : List En → List En → List En
  | [], q => q
  | x :: p, [] => x :: p
  | x :: p, y :: q => if lt x.key y.key then x :: merge p (y :: q) else if lt y.key x.key then y :: merge (x :: p) q else ⟨x.key, x.reg.join y.reg⟩ :: merge p q
termination_by p q => p.length + q.length
theorem merge_nil (q : List En) : merge [] q = q := by rw [merge]
theorem merge_right (p : List En) : merge p [] = p := by cases p <;> rw [merge]
theorem merge_lt {x y : En} {p q : List En} (h : lt x.key y.key = true) : merge (x :: p) (y :: q) = x :: merge p (y :: q) := by rw [merge, if_pos h]
theorem merge_gt {x y : En} {p q : List En} (h : lt x.key y.key = false) (h2 : lt y.key x.key = true) : merge (x :: p) (y :: q) = y :: merge (x :: p) q := by rw [merge, if_neg (by simp [h]), if_pos h2]
theorem merge_eq {x y : En} {p q : List En} (h : lt x.key y.key = false) (h2 : lt y.key x.key = false) : merge (x :: p) (y :: q) = ⟨x.key, x.reg.join y.reg⟩ :: merge p q := by rw [merge, if_neg (by simp [h]), if_neg (by simp [h2])]
def lenAt (w : World) (g : Nat) : Nat := match w.cell? ⟨g, 0, none⟩ with | some (.slice _ n _) => n | _ => 0
theorem lenAt_of {w : World} {g n c : Nat} {A : Option Addr} {t : TypeId} (h : Blk w g t #[.slice A n c]) : lenAt w g = n := by
  unfold lenAt; rw [h.cell]; rfl
/-- The box g has a slice of the entries p, which lie below B. -/
structure Rest (B : Nat) (g : Nat) (p : List En) (A : Option Addr) (c : Nat) (w : World) : Prop where
  blk : Blk w g 22 #[.slice A p.length c]
  cap : p.length ≤ c
  rd : Reads w B 4 A p.length (p.flatMap En.cells)
theorem Rest.next {B g : Nat} {x : En} {p : List En} {A : Option Addr} {c : Nat} {w w' : World} (h : Rest B g (x :: p) A c w) (hB : B ≤ g) (hb : Blk w' g 22 #[.slice (cutA A c) ((x :: p).length - 1) (c - 1)]) (hg : w.grownBy w' (some g)) (hBz : B ≤ w.heap.size) : Rest B g p (cutA A c) (c - 1) w' := by
  refine ⟨by simpa using hb, by have := h.cap; simp at this; omega, ?_⟩
  have h1 := Reads.dropL En.len h.rd (k := 1) (cap := c) (by simp) h.cap
  simp only [List.drop_one, List.tail_cons] at h1
  have h2 := h1.grown hg hBz (fun q hq => by injection hq with hq; omega)
  unfold cutA
  simpa using h2
theorem Rest.grown {B g : Nat} {p : List En} {A : Option Addr} {c : Nat} {w w' : World} {row : Option Nat} (h : Rest B g p A c w) (hg : w.grownBy w' row) (hBz : B ≤ w.heap.size) (hr : ∀ q, row = some q → B ≤ q ∧ q ≠ g) : Rest B g p A c w' :=
  ⟨h.blk.grown hg (fun e => (hr g e.symm).2 rfl), h.cap, h.rd.grown hg hBz (fun q hq => (hr q hq).1)⟩
theorem Rest.below {B g : Nat} {p : List En} {A : Option Addr} {c : Nat} {w w' : World} (h : Rest B g p A c w) (hb : Below w.heap.size w w') (hBz : B ≤ w.heap.size) : Rest B g p A c w' :=
  ⟨h.blk.below hb h.blk.lt, h.cap, h.rd.below (hb.mono hBz)⟩
end Go.Proofs.YtkbgmdabmebdhaaGreatDoor.rgy

/- Entries of a registry: Join, Put and Set of the package, Set of the reference. -/
namespace Go.Proofs.YtkbgmdabmebdhaaGreatDoor.rgy
open Go.ChangeShapes Go.WideShapes Go.ChangeAt Go.RowKit Go.Proofs.Aid Go.Proofs.YtkbgmdabmebdhaaGreatDoor.name Go.Proofs.YtkbgmdabmebdhaaGreatDoor.reg
theorem may_one (x : En) : may [x] = isEntry x := by
  unfold may okAt isEntry
  simp [List.range_succ]
end Go.Proofs.YtkbgmdabmebdhaaGreatDoor.rgy

/- Entries of a registry: Set. -/
namespace Go.Proofs.YtkbgmdabmebdhaaGreatDoor.rgy
open Go.ChangeShapes Go.WideShapes Go.ChangeAt Go.RowKit Go.Proofs.Aid Go.Proofs.YtkbgmdabmebdhaaGreatDoor.name Go.Proofs.YtkbgmdabmebdhaaGreatDoor.reg
def En.zero : En := ⟨ByteArray.empty, Rg.zero⟩
def setE (l : List En) (by_ key val : ByteArray) : En × Int :=
  if may l && isKey key then (if ((get l key).next by_ val).2 = 0 then (⟨key, ((get l key).next by_ val).1⟩, 0) else (En.zero, ((get l key).next by_ val).2)) else (En.zero, 1)
theorem get_sz {l : List En} {s : ByteArray} (h : ∀ r ∈ l, r.sz) : (get l s).by_.size ≤ maxLen ∧ (get l s).value.size ≤ maxLen := by
  unfold get look
  cases e : l.find? (fun e => decide (e.key = s)) with
  | none => exact ⟨Nat.zero_le _, Nat.zero_le _⟩
  | some x => exact (h x (List.mem_of_find?_eq_some e)).2
theorem set4 {w : World} {g : Nat} {ty : TypeId} {a0 a1 a2 a3 x y z u : Value} (hb : Blk w g ty #[a0, a1, a2, a3]) : Blk ((((w.setCell ⟨g, 0, none⟩ x).setCell ⟨g, 1, none⟩ y).setCell ⟨g, 2, none⟩ z).setCell ⟨g, 3, none⟩ u) g ty #[x, y, z, u] :=
  (((hb.set_ 0 x).set_ 1 y).set_ 2 z).set_ 3 u
theorem low4 {B : Nat} {W w : World} {g : Nat} (h : Below B W w) (hg : B ≤ g) (x y z u : Value) : Below B W ((((w.setCell ⟨g, 0, none⟩ x).setCell ⟨g, 1, none⟩ y).setCell ⟨g, 2, none⟩ z).setCell ⟨g, 3, none⟩ u) :=
  (((h.setCell (p := ⟨g, 0, none⟩) hg x).setCell (p := ⟨g, 1, none⟩) hg y).setCell (p := ⟨g, 2, none⟩) hg z).setCell (p := ⟨g, 3, none⟩) hg u
end Go.Proofs.YtkbgmdabmebdhaaGreatDoor.rgy

/- Plain facts: entries in the order of their keys are told by what each key has. -/
namespace Go.Proofs.YtkbgmdabmebdhaaGreatDoor.rgy
open Go.ChangeShapes Go.WideShapes Go.ChangeAt Go.RowKit Go.Proofs.Aid Go.Proofs.YtkbgmdabmebdhaaGreatDoor.name Go.Proofs.YtkbgmdabmebdhaaGreatDoor.reg
theorem less_cmp : ∀ (a b : List UInt8), Op.bytesLess a b = decide (Lib.compareBytes a b < 0)
  | [], [] => by simp [Op.bytesLess, Lib.compareBytes]
  | [], _ :: _ => by simp [Op.bytesLess, Lib.compareBytes]
  | _ :: _, [] => by simp [Op.bytesLess, Lib.compareBytes]
  | a :: l, b :: m => by
    have ih := less_cmp l m
    unfold Op.bytesLess Lib.compareBytes
    by_cases h1 : a < b
    · simp [h1]
    · by_cases h2 : b < a
      · have h3 : ¬ a = b := fun e => by subst e; exact h1 h2
        simp [h1, h2, h3]
      · have h3 : a = b := by
          apply UInt8.le_antisymm
          · exact UInt8.not_lt.mp h2
          · exact UInt8.not_lt.mp h1
        subst h3
        simp only [h1, if_false, decide_false, Bool.false_or, beq_self_eq_true, Bool.true_and]
        rw [← ih]
theorem lt_iff {a b : ByteArray} : lt a b = true ↔ Lib.compareBytes a.toList b.toList < 0 := by unfold lt; rw [less_cmp, decide_eq_true_eq]
theorem lt_irr (a : ByteArray) : lt a a = false := by rw [Bool.eq_false_iff, Ne, lt_iff, cb_self]; omega
theorem lt_tr {a b c : ByteArray} (h1 : lt a b = true) (h2 : lt b c = true) : lt a c = true := by
  rw [lt_iff] at *
  have h3 := cb_swap a.toList b.toList
  have h4 := cb_swap b.toList c.toList
  have h5 := cb_swap a.toList c.toList
  have h6 := cb_trans c.toList b.toList a.toList (by omega) (by omega)
  have h7 := h6.2
  by_cases e : Lib.compareBytes c.toList a.toList = 0
  · have := h7 e; omega
  · omega
theorem lt_tot {a b : ByteArray} (h1 : lt a b = false) (h2 : lt b a = false) : a = b := by
  rw [Bool.eq_false_iff, Ne, lt_iff] at h1 h2
  have h3 := cb_swap a.toList b.toList
  exact data_eq (cb_eq _ _ (by omega))
theorem lt_asy {a b : ByteArray} (h : lt a b = true) : lt b a = false := by
  cases e : lt b a with
  | false => rfl
  | true => have := lt_tr h e; rw [lt_irr] at this; cases this
theorem lt_ne {a b : ByteArray} (h : lt a b = true) : a ≠ b := fun e => by subst e; rw [lt_irr] at h; cases h
def srt (l : List En) : Prop := l.Pairwise fun x y => lt x.key y.key = true
theorem okAt_get {l : List En} {i : Nat} (h : i < l.length) : okAt l i = (isEntry l[i] && (decide (i = 0) || lt l[i - 1].key l[i].key)) := okAt_eq2 h (by omega)
theorem may_iff {l : List En} : may l = true ↔ l.length ≤ 4096 ∧ (∀ x ∈ l, isEntry x = true) ∧ srt l := by
  constructor
  · intro h
    unfold may at h
    rw [Bool.and_eq_true, decide_eq_true_eq, List.all_eq_true] at h
    obtain ⟨h1, h2⟩ := h
    have h3 : ∀ i (hi : i < l.length), isEntry l[i] = true ∧ (i = 0 ∨ lt l[i - 1].key l[i].key = true) := fun i hi => by
      have := h2 i (by simpa using hi)
      rw [okAt_get hi, Bool.and_eq_true, Bool.or_eq_true, decide_eq_true_eq] at this
      exact this
    refine ⟨h1, fun x hx => ?_, ?_⟩
    · obtain ⟨i, hi, rfl⟩ := List.getElem_of_mem hx
      exact (h3 i hi).1
    · unfold srt
      rw [List.pairwise_iff_getElem]
      intro i j hi hj hij
      obtain ⟨d, rfl⟩ : ∃ d, j = i + 1 + d := ⟨j - i - 1, by omega⟩
      clear hij
      induction d with
      | zero =>
        rcases (h3 (i + 1) hj).2 with h | h
        · omega
        · simpa using h
      | succ d ih =>
        have h4 := ih (by omega)
        rcases (h3 (i + 1 + (d + 1)) hj).2 with h | h
        · omega
        · exact lt_tr h4 (by simpa [show i + 1 + (d + 1) - 1 = i + 1 + d by omega] using h)
  · rintro ⟨h1, h2, h3⟩
    refine may_yes h1 fun i hi => ?_
    rw [okAt_get hi, h2 _ (List.getElem_mem hi), Bool.true_and, Bool.or_eq_true, decide_eq_true_eq]
    by_cases h0 : i = 0
    · exact .inl h0
    · refine .inr ?_
      unfold srt at h3
      rw [List.pairwise_iff_getElem] at h3
      exact h3 (i - 1) i (by omega) hi (by omega)
theorem look_cons (x : En) (l : List En) (k : ByteArray) : look (x :: l) k = if x.key = k then some x.reg else look l k := by
  unfold look; rw [List.find?_cons]
  by_cases h : x.key = k <;> simp [h]
theorem look_nil (k : ByteArray) : look [] k = none := rfl
theorem look_mem {l : List En} {k : ByteArray} {r : Rg} (h : look l k = some r) : ⟨k, r⟩ ∈ l := by
  induction l with
  | nil => cases h
  | cons x l ih =>
    rw [look_cons] at h
    by_cases e : x.key = k
    · rw [if_pos e] at h; injection h with h; subst h; subst e; exact List.mem_cons_self
    · rw [if_neg e] at h; exact List.mem_cons_of_mem _ (ih h)
theorem look_lt {l : List En} {k : ByteArray} (h : ∀ x ∈ l, lt k x.key = true) : look l k = none := by
  cases e : look l k with
  | none => rfl
  | some r => have := h _ (look_mem e); rw [lt_irr] at this; cases this
theorem srt_cons {x : En} {l : List En} : srt (x :: l) ↔ (∀ y ∈ l, lt x.key y.key = true) ∧ srt l := List.pairwise_cons
theorem look_low {x : En} {l : List En} {k : ByteArray} (h : srt (x :: l)) (hk : lt k x.key = true) : look (x :: l) k = none :=
  look_lt fun y hy => by
    rcases List.mem_cons.1 hy with rfl | hy
    · exact hk
    · exact lt_tr hk ((srt_cons.1 h).1 y hy)
theorem look_own {x : En} {l : List En} (h : srt (x :: l)) : look l x.key = none := look_lt (srt_cons.1 h).1
theorem mem_look {l : List En} {x : En} (h : srt l) (hx : x ∈ l) : look l x.key = some x.reg := by
  induction l with
  | nil => cases hx
  | cons y l ih =>
    rw [look_cons]
    rcases List.mem_cons.1 hx with rfl | hx
    · rw [if_pos rfl]
    · rw [if_neg (lt_ne ((srt_cons.1 h).1 x hx)), ih (srt_cons.1 h).2 hx]
theorem ext_look : ∀ {l m : List En}, srt l → srt m → (∀ k, look l k = look m k) → l = m
  | [], [], _, _, _ => rfl
  | [], y :: m, _, _, h => by have := h y.key; rw [look_cons, if_pos rfl, look_nil] at this; cases this
  | x :: l, [], _, _, h => by have := h x.key; rw [look_cons, if_pos rfl, look_nil] at this; cases this
  | x :: l, y :: m, hl, hm, h => by
    have hk : x.key = y.key := by
      apply lt_tot
      · cases e : lt x.key y.key with
        | false => rfl
        | true => have := h x.key; rw [look_cons, if_pos rfl, look_low hm e] at this; cases this
      · cases e : lt y.key x.key with
        | false => rfl
        | true => have := h y.key; rw [look_low hl e, look_cons, if_pos rfl] at this; cases this
    have hr : x.reg = y.reg := by
      have := h x.key
      rw [look_cons, if_pos rfl, look_cons, if_pos hk.symm] at this
      injection this
    have hxy : x = y := by cases x; cases y; simp only at hk hr; rw [hk, hr]
    subst hxy
    rw [ext_look (srt_cons.1 hl).2 (srt_cons.1 hm).2 fun k => by
      by_cases e : x.key = k
      · subst e; rw [look_own hl, look_own hm]
      · have := h k; rwa [look_cons, look_cons, if_neg e, if_neg e] at this]
def jo : Option Rg → Option Rg → Option Rg
  | none, y => y
  | some x, none => some x
  | some x, some y => some (x.join y)
theorem jo_none (x : Option Rg) : jo x none = x := by cases x <;> rfl
theorem merge_mem : ∀ (p q : List En) (z : En), z ∈ merge p q → (∃ x ∈ p, z.key = x.key ∧ (z.reg = x.reg ∨ ∃ y ∈ q, y.key = z.key ∧ z.reg = x.reg.join y.reg)) ∨ z ∈ q
  | [], q, z, h => by rw [merge_nil] at h; exact .inr h
  | x :: p, [], z, h => by rw [merge_right] at h; exact .inl ⟨z, h, rfl, .inl rfl⟩
  | x :: p, y :: q, z, h => by
    cases h1 : lt x.key y.key with
    | true =>
      rw [merge_lt h1] at h
      rcases List.mem_cons.1 h with rfl | h
      · exact .inl ⟨z, List.mem_cons_self, rfl, .inl rfl⟩
      · rcases merge_mem p (y :: q) z h with ⟨x', hx', e⟩ | h
        · exact .inl ⟨x', List.mem_cons_of_mem _ hx', e⟩
        · exact .inr h
    | false =>
      cases h2 : lt y.key x.key with
      | true =>
        rw [merge_gt h1 h2] at h
        rcases List.mem_cons.1 h with rfl | h
        · exact .inr List.mem_cons_self
        · rcases merge_mem (x :: p) q z h with ⟨x', hx', e, e2⟩ | h
          · refine .inl ⟨x', hx', e, ?_⟩
            rcases e2 with e2 | ⟨y', hy', e3⟩
            · exact .inl e2
            · exact .inr ⟨y', List.mem_cons_of_mem _ hy', e3⟩
          · exact .inr (List.mem_cons_of_mem _ h)
      | false =>
        have hk := lt_tot h1 h2
        rw [merge_eq h1 h2] at h
        rcases List.mem_cons.1 h with rfl | h
        · exact .inl ⟨x, List.mem_cons_self, rfl, .inr ⟨y, List.mem_cons_self, hk.symm, rfl⟩⟩
        · rcases merge_mem p q z h with ⟨x', hx', e, e2⟩ | h
          · refine .inl ⟨x', List.mem_cons_of_mem _ hx', e, ?_⟩
            rcases e2 with e2 | ⟨y', hy', e3⟩
            · exact .inl e2
            · exact .inr ⟨y', List.mem_cons_of_mem _ hy', e3⟩
          · exact .inr (List.mem_cons_of_mem _ h)
termination_by p q => p.length + q.length
theorem merge_low {k : ByteArray} {p q : List En} (hp : ∀ x ∈ p, lt k x.key = true) (hq : ∀ x ∈ q, lt k x.key = true) : ∀ z ∈ merge p q, lt k z.key = true := fun z hz => by
  rcases merge_mem p q z hz with ⟨x, hx, e, _⟩ | h
  · rw [e]; exact hp x hx
  · exact hq z h
theorem merge_srt : ∀ {p q : List En}, srt p → srt q → srt (merge p q)
  | [], q, _, hq => by rw [merge_nil]; exact hq
  | x :: p, [], hp, _ => by rw [merge_right]; exact hp
  | x :: p, y :: q, hp, hq => by
    have hp' := srt_cons.1 hp
    have hq' := srt_cons.1 hq
    cases h1 : lt x.key y.key with
    | true =>
      rw [merge_lt h1, srt_cons]
      exact ⟨merge_low hp'.1 (fun z hz => by rcases List.mem_cons.1 hz with rfl | hz; exact h1; exact lt_tr h1 (hq'.1 z hz)), merge_srt hp'.2 hq⟩
    | false =>
      cases h2 : lt y.key x.key with
      | true =>
        rw [merge_gt h1 h2, srt_cons]
        exact ⟨merge_low (fun z hz => by rcases List.mem_cons.1 hz with rfl | hz; exact h2; exact lt_tr h2 (hp'.1 z hz)) hq'.1, merge_srt hp hq'.2⟩
      | false =>
        have hk := lt_tot h1 h2
        rw [merge_eq h1 h2, srt_cons]
        exact ⟨merge_low hp'.1 (fun z hz => by rw [hk]; exact hq'.1 z hz), merge_srt hp'.2 hq'.2⟩
termination_by p q => p.length + q.length
theorem merge_look : ∀ {p q : List En} (k : ByteArray), srt p → srt q → look (merge p q) k = jo (look p k) (look q k)
  | [], q, k, _, _ => by rw [merge_nil]; rfl
  | x :: p, [], k, _, _ => by rw [merge_right, look_nil, jo_none]
  | x :: p, y :: q, k, hp, hq => by
    have hp' := srt_cons.1 hp
    have hq' := srt_cons.1 hq
    cases h1 : lt x.key y.key with
    | true =>
      rw [merge_lt h1, look_cons, merge_look k hp'.2 hq, look_cons x p]
      by_cases e : x.key = k
      · subst e; rw [if_pos rfl, if_pos rfl, look_low hq h1]; rfl
      · rw [if_neg e, if_neg e]
    | false =>
      cases h2 : lt y.key x.key with
      | true =>
        rw [merge_gt h1 h2, look_cons, merge_look k hp hq'.2, look_cons y q]
        by_cases e : y.key = k
        · subst e; rw [if_pos rfl, if_pos rfl, look_low hp h2]; rfl
        · rw [if_neg e, if_neg e]
      | false =>
        have hk := lt_tot h1 h2
        rw [merge_eq h1 h2, look_cons, merge_look k hp'.2 hq'.2, look_cons x p, look_cons y q]
        by_cases e : x.key = k
        · rw [if_pos e, if_pos e, if_pos (hk ▸ e)]; rfl
        · rw [if_neg e, if_neg e, if_neg (hk ▸ e)]
termination_by p q => p.length + q.length
theorem merge_len : ∀ (p q : List En), (merge p q).length ≤ p.length + q.length
  | [], q => by rw [merge_nil]; simp
  | x :: p, [] => by rw [merge_right]; simp
  | x :: p, y :: q => by
    cases h1 : lt x.key y.key with
    | true =>
      rw [merge_lt h1]
      have := merge_len p (y :: q)
      simp only [List.length_cons] at *; omega
    | false =>
      cases h2 : lt y.key x.key with
      | true =>
        rw [merge_gt h1 h2]
        have := merge_len (x :: p) q
        simp only [List.length_cons] at *; omega
      | false =>
        rw [merge_eq h1 h2]
        have := merge_len p q
        simp only [List.length_cons] at *; omega
termination_by p q => p.length + q.length
theorem join_or (a b : Rg) : a.join b = a ∨ a.join b = b := by unfold Rg.join; split <;> simp
theorem merge_prop {P : En → Prop} (hP : ∀ k r r', P ⟨k, r⟩ → P ⟨k, r'⟩ → P ⟨k, r.join r'⟩) {p q : List En} (hp : ∀ x ∈ p, P x) (hq : ∀ x ∈ q, P x) : ∀ z ∈ merge p q, P z := fun z hz => by
  rcases merge_mem p q z hz with ⟨x, hx, e, h⟩ | h
  · have hx' := hp x hx
    obtain ⟨zk, zr⟩ := z
    obtain ⟨xk, xr⟩ := x
    simp only at e h
    subst e
    rcases h with h | ⟨⟨yk, yr⟩, hy, e2, h⟩
    · rw [h]; exact hx'
    · simp only at e2 h
      subst e2
      rw [h]; exact hP _ _ _ hx' (hq _ hy)
  · exact hq z h
theorem merge_sz {p q : List En} (hp : ∀ x ∈ p, x.sz) (hq : ∀ x ∈ q, x.sz) : ∀ z ∈ merge p q, z.sz :=
  merge_prop (fun k r r' h h' => by rcases join_or r r' with e | e <;> simp only [e]; exact h; exact h') hp hq
theorem merge_entry {p q : List En} (hp : ∀ x ∈ p, isEntry x = true) (hq : ∀ x ∈ q, isEntry x = true) : ∀ z ∈ merge p q, isEntry z = true :=
  merge_prop (P := fun x => isEntry x = true) (fun k r r' h h' => by rcases join_or r r' with e | e <;> simp only [e]; exact h; exact h') hp hq
theorem merge_may {p q : List En} (hp : may p = true) (hq : may q = true) (hl : p.length + q.length ≤ 4096) : may (merge p q) = true := by
  rw [may_iff] at *
  exact ⟨by have := merge_len p q; omega, merge_entry hp.2.1 hq.2.1, merge_srt hp.2.2 hq.2.2⟩
theorem jo_swap (x y : Option Rg) : jo x y = jo y x := by
  cases x <;> cases y <;> simp [jo, join_swap]
theorem jo_assoc (x y z : Option Rg) : jo (jo x y) z = jo x (jo y z) := by
  cases x <;> cases y <;> cases z <;> simp [jo, join_assoc]
theorem jo_self (x : Option Rg) : jo x x = x := by cases x <;> simp [jo, join_self]
theorem merge_swap {p q : List En} (hp : srt p) (hq : srt q) : merge p q = merge q p :=
  ext_look (merge_srt hp hq) (merge_srt hq hp) fun k => by rw [merge_look k hp hq, merge_look k hq hp, jo_swap]
theorem merge_self {p : List En} (hp : srt p) : merge p p = p :=
  ext_look (merge_srt hp hp) hp fun k => by rw [merge_look k hp hp, jo_self]
theorem merge_assoc {p q r : List En} (hp : srt p) (hq : srt q) (hr : srt r) : merge (merge p q) r = merge p (merge q r) :=
  ext_look (merge_srt (merge_srt hp hq) hr) (merge_srt hp (merge_srt hq hr)) fun k => by
    rw [merge_look k (merge_srt hp hq) hr, merge_look k hp (merge_srt hq hr), merge_look k hp hq, merge_look k hq hr, jo_assoc]
theorem filter_srt {f : En → Bool} {l : List En} (h : srt l) : srt (l.filter f) := List.Pairwise.filter _ h
theorem filter_look {f : En → Bool} {l : List En} (h : srt l) (k : ByteArray) : look (l.filter f) k = match look l k with | some r => if f ⟨k, r⟩ then some r else none | none => none := by
  induction l with
  | nil => rfl
  | cons x l ih =>
    have h' := srt_cons.1 h
    have ih := ih h'.2
    rw [look_cons]
    by_cases e : x.key = k
    · subst e
      rw [if_pos rfl, List.filter_cons]
      by_cases hf : f x = true
      · have hf' : f ⟨x.key, x.reg⟩ = true := hf
        rw [if_pos hf, look_cons, if_pos rfl]; simp [hf']
      · have hf' : f ⟨x.key, x.reg⟩ = false := by simpa using hf
        rw [if_neg hf, ih, look_own h]; simp [hf']
    · rw [if_neg e, List.filter_cons]
      split
      · rw [look_cons, if_neg e, ih]
      · rw [ih]
theorem comp_zero {r : Rg} (h : r.may) : r.newer Rg.zero = true := by
  obtain ⟨n, b, v⟩ := r
  have h1 := h.1
  simp only at h1
  rw [show Rg.zero = ⟨0, ByteArray.empty, ByteArray.empty⟩ from rfl, newer_n (by omega), decide_eq_true_eq]
  omega
theorem entry_may {l : List En} (h : may l = true) {k : ByteArray} {r : Rg} (hr : look l k = some r) : r.may := by
  have := (may_iff.1 h).2.1 _ (look_mem hr)
  unfold isEntry at this
  rw [Bool.and_eq_true, decide_eq_true_eq] at this
  exact this.2
theorem news_join {a b : List En} (ha : may a = true) (hb : may b = true) : merge b (a.filter (newsP b)) = merge a b := by
  have sa := (may_iff.1 ha).2.2
  have sb := (may_iff.1 hb).2.2
  refine ext_look (merge_srt sb (filter_srt sa)) (merge_srt sa sb) fun k => ?_
  rw [merge_look k sb (filter_srt sa), merge_look k sa sb, filter_look sa k]
  cases hl : look a k with
  | none => simp [jo]; cases look b k <;> rfl
  | some r =>
    have hm := entry_may ha hl
    show jo (look b k) (if r.newer (get b k) = true then some r else none) = jo (some r) (look b k)
    unfold get
    cases hb2 : look b k with
    | none => rw [show (none : Option Rg).getD Rg.zero = Rg.zero from rfl, comp_zero hm]; rfl
    | some s =>
      rw [show (some s).getD Rg.zero = s from rfl]
      by_cases hn : r.newer s = true
      · rw [if_pos hn]; show some (s.join r) = some (r.join s); rw [join_swap]
      · rw [if_neg hn]
        show some s = some (r.join s)
        by_cases e : r = s
        · subst e; rw [join_self]
        · rcases newer_total e with h | h
          · exact absurd h hn
          · rw [join_right h]
theorem news_none {a b : List En} (ha : may a = true) (hb : may b = true) : a.filter (newsP (merge a b)) = [] := by
  have sa := (may_iff.1 ha).2.2
  have sb := (may_iff.1 hb).2.2
  rw [List.filter_eq_nil_iff]
  intro x hx
  have h1 : look a x.key = some x.reg := mem_look sa hx
  have h2 : look (merge a b) x.key = jo (some x.reg) (look b x.key) := by rw [merge_look _ sa sb, h1]
  unfold newsP get
  rw [h2]
  cases look b x.key with
  | none => show ¬ x.reg.newer x.reg = true; rw [newer_self]; simp
  | some s =>
    show ¬ x.reg.newer (x.reg.join s) = true
    by_cases e : x.reg = s
    · rw [← e, join_self, newer_self]; simp
    · rcases newer_total e with h | h
      · rw [join_left h, newer_self]; simp
      · rw [join_right h, newer_swap h]; simp
theorem putE_cons_lt {x y : En} {l : List En} (h : lt y.key x.key = true) : putE (y :: l) x = y :: putE l x := by
  unfold putE putAt pos
  rw [List.takeWhile_cons, if_pos h]
  simp only [List.length_cons, List.take_succ_cons, List.cons_append, List.getElem_cons_succ, List.drop_succ_cons]
  congr 1
  congr 1
  by_cases hl : (l.takeWhile fun e => lt e.key x.key).length < l.length
  · rw [dif_pos (by omega), dif_pos hl]
  · rw [dif_neg (by omega), dif_neg hl]
theorem putE_cons_eq {x y : En} {l : List En} (h : y.key = x.key) : putE (y :: l) x = ⟨x.key, y.reg.join x.reg⟩ :: l := by
  have h' : lt y.key x.key = false := by rw [h]; exact lt_irr _
  unfold putE putAt pos
  rw [List.takeWhile_cons, if_neg (by rw [h']; simp)]
  simp [h]
theorem putE_cons_gt {x y : En} {l : List En} (h : lt x.key y.key = true) : putE (y :: l) x = x :: y :: l := by
  have h' : lt y.key x.key = false := lt_asy h
  unfold putE putAt pos
  rw [List.takeWhile_cons, if_neg (by rw [h']; simp)]
  simp [(lt_ne h).symm]
theorem putE_nil (x : En) : putE [] x = [x] := rfl
/-- One more is put: so it is merged. -/
theorem putE_merge : ∀ {l : List En} (x : En), srt l → putE l x = merge l [x]
  | [], x, _ => by rw [putE_nil, merge_nil]
  | y :: l, x, h => by
    have h' := srt_cons.1 h
    cases h1 : lt y.key x.key with
    | true => rw [putE_cons_lt h1, merge_lt h1, putE_merge x h'.2]
    | false =>
      cases h2 : lt x.key y.key with
      | true => rw [putE_cons_gt h2, merge_gt h1 h2, merge_right]
      | false =>
        have hk := lt_tot h1 h2
        rw [putE_cons_eq hk, merge_eq h1 h2, merge_right, hk]
theorem putsE_merge : ∀ {b a : List En}, srt a → srt b → putsE a b = merge a b
  | [], a, _, _ => by rw [merge_right]; rfl
  | x :: b, a, ha, hb => by
    have hb' := srt_cons.1 hb
    have sx : srt [x] := by unfold srt; simp
    have sax := merge_srt ha sx
    show putsE (putE a x) b = _
    rw [putE_merge x ha, putsE_merge sax hb'.2, merge_assoc ha sx hb'.2]
    congr 1
    refine ext_look (merge_srt sx hb'.2) hb fun k => ?_
    rw [merge_look k sx hb'.2, look_cons, look_cons, look_nil]
    by_cases e : x.key = k
    · subst e; rw [if_pos rfl, if_pos rfl, look_own hb]; rfl
    · rw [if_neg e, if_neg e]; rfl
end Go.Proofs.YtkbgmdabmebdhaaGreatDoor.rgy

/- What must come of package registry, whatever the arguments are. -/
namespace Go.Proofs.YtkbgmdabmebdhaaGreatDoor.rgy
open Go.ChangeShapes Go.WideShapes Go.ChangeAt Go.RowKit Go.Proofs.Aid Go.Proofs.YtkbgmdabmebdhaaGreatDoor.name Go.Proofs.YtkbgmdabmebdhaaGreatDoor.reg
abbrev aX : En := ⟨⟨#[97, 47, 98]⟩, ⟨1, ⟨#[110, 49]⟩, ⟨#[118]⟩⟩⟩
abbrev aY : En := ⟨⟨#[97, 47, 98]⟩, ⟨2, ⟨#[110, 50]⟩, ⟨#[119]⟩⟩⟩
abbrev aC : En := ⟨⟨#[99]⟩, ⟨1, ⟨#[]⟩, ⟨#[]⟩⟩⟩
theorem aw1 : setE [] ⟨#[110, 49]⟩ ⟨#[97, 47, 98]⟩ ⟨#[118]⟩ = (aX, 0) := by kernel_rfl
theorem aw2 : (may [] && isEntry aX) = true := by kernel_rfl
theorem aw3 : setE [aX] ⟨#[110, 50]⟩ ⟨#[97, 47, 98]⟩ ⟨#[119]⟩ = (aY, 0) := by kernel_rfl
theorem aw4 : may [aX] = true := by kernel_rfl
theorem aw5 : may [aY, aC] = true := by kernel_rfl
theorem aw6 : putsE [aX] [aY, aC] = [aY, aC] := by kernel_rfl
theorem aw7 : merge [aX] [aY, aC] = [aY, aC] := by rw [← putsE_merge (may_iff.1 aw4).2.2 (may_iff.1 aw5).2.2, aw6]
theorem aw8 : get [aY, aC] ⟨#[97, 47, 98]⟩ = ⟨2, ⟨#[110, 50]⟩, ⟨#[119]⟩⟩ := by kernel_rfl
theorem aw9 : ([aY, aC].filter (underP ⟨#[97]⟩)) = [aY] := by kernel_rfl
theorem aw10 : ([aY, aC].filter (newsP [aX])) = [aY, aC] := by kernel_rfl
theorem aw11 : ([aX].filter (newsP [aY, aC])) = [] := by kernel_rfl
theorem szX : ∀ r ∈ [aX], r.sz := by simp [En.sz]; decide
theorem szM : ∀ r ∈ [aY, aC], r.sz := by simp [En.sz]; decide
end Go.Proofs.YtkbgmdabmebdhaaGreatDoor.rgy

/- RegistryIs: whether any entries may be, what any key has, and which lie under any path. -/
namespace Go.Proofs.YtkbgmdabmebdhaaGreatDoor.rgy
open Go.ChangeShapes Go.WideShapes Go.ChangeAt Go.RowKit Go.Proofs.Aid Go.Proofs.YtkbgmdabmebdhaaGreatDoor.name Go.Proofs.YtkbgmdabmebdhaaGreatDoor.reg
def toE (r : R37) : En := ⟨r.key_, ⟨r.regN, r.regBy, r.regValue⟩⟩
theorem ents {w : World} {v : Value} (h : V22 w v) : ∃ (A : Option Addr) (c : Nat) (xs : List En), v = .slice A xs.length c ∧ xs.length ≤ c ∧ c ≤ maxLen ∧ Reads w w.heap.size 4 A xs.length (xs.flatMap En.cells) ∧ ∀ r ∈ xs, r.sz := by
  obtain ⟨A, n, cap, rs, rfl, h1, h2, rfl, hr, hok⟩ := s22 h
  refine ⟨A, cap, rs.map toE, by rw [List.length_map], by rw [List.length_map]; exact h1, h2, ?_, ?_⟩
  · rw [List.length_map, List.flatMap_map]; exact hr
  · intro x hx
    obtain ⟨r, hr, rfl⟩ := List.mem_map.1 hx
    exact ⟨(hok r hr).1, (hok r hr).2.2.1, (hok r hr).2.2.2⟩
theorem eqlR_same (r : Rg) (w : World) : (binOp .eql 35 r.val r.val).run Tryz.prog w = .ok (.bool true) w := by
  obtain ⟨n, b, v⟩ := r
  go_simp
end Go.Proofs.YtkbgmdabmebdhaaGreatDoor.rgy
