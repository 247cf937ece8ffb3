/- Entries of a registry: a key's register, by the package and by the reference. -/
import Derived.Test.YtjbompimlopdiaaGreatDoorRgA
namespace Go.Proofs.YtjbompimlopdiaaGreatDoor.rgy
open Go.ChangeShapes Go.WideShapes Go.ChangeAt Go.RowKit Go.Proofs.Aid Go.Proofs.YtjbompimlopdiaaGreatDoor.name Go.Proofs.YtjbompimlopdiaaGreatDoor.reg
def look (l : List En) (s : ByteArray) : Option Rg := (l.find? fun e => decide (e.key = s)).map En.reg
def get (l : List En) (s : ByteArray) : Rg := (look l s).getD Rg.zero
theorem look_found {l : List En} {s : ByteArray} {k : Nat} (h : k < l.length) (hk : l[k].key = s) (hj : ∀ j (_ : j < l.length), j < k → l[j].key ≠ s) : look l s = some l[k].reg := by
  unfold look
  rw [show l.find? (fun e => decide (e.key = s)) = some l[k] from by
    rw [List.find?_eq_some_iff_getElem]
    exact ⟨by simpa using hk, k, h, rfl, fun j hjk => by simpa using hj j (by omega) hjk⟩]
  rfl
theorem look_none {l : List En} {s : ByteArray} (hj : ∀ j (_ : j < l.length), l[j].key ≠ s) : look l s = none := by
  unfold look
  rw [show l.find? (fun e => decide (e.key = s)) = none from by
    rw [List.find?_eq_none]
    intro x hx
    obtain ⟨j, h, rfl⟩ := List.getElem_of_mem hx
    simpa using hj j h]
  rfl
theorem get_found {l : List En} {s : ByteArray} {k : Nat} (h : k < l.length) (hk : l[k].key = s) (hj : ∀ j (_ : j < l.length), j < k → l[j].key ≠ s) : get l s = l[k].reg := by
  unfold get; rw [look_found h hk hj]; rfl
theorem get_none {l : List En} {s : ByteArray} (hj : ∀ j (_ : j < l.length), l[j].key ≠ s) : get l s = Rg.zero := by
  unfold get; rw [look_none hj]; rfl
theorem next_ne {l : List En} {s : ByteArray} {k : Nat} (h : k < l.length) (hI : ∀ j (_ : j < l.length), j < k → l[j].key ≠ s) (hx : l[k].key ≠ s) : ∀ j (_ : j < l.length), j < k + 1 → l[j].key ≠ s := fun j hj hjk => by
  by_cases e : j < k
  · exact hI j hj e
  · have : j = k := by omega
    subst this; exact hx
theorem bytes_eq {x s : ByteArray} (h : x = s) : (x.toList == s.toList) = true := by subst h; simp
theorem set3 {w : World} {g : Nat} {ty : TypeId} {a0 a1 a2 x y z : Value} (hb : Blk w g ty #[a0, a1, a2]) (o : Obj) : Blk ((((w.setCell ⟨g, 0, none⟩ x).setCell ⟨g, 1, none⟩ y).setCell ⟨g, 2, none⟩ z).alloc o) g ty #[x, y, z] :=
  (((hb.set_ 0 x).set_ 1 y).set_ 2 z).alloc o
set_option maxRecDepth 100000 in
set_option maxHeartbeats 4000000 in
theorem get_any (w : World) (A : Option Addr) (cap : Nat) (rs : List En) (s : ByteArray) (hl : rs.length ≤ 1000000) (h1 : Reads w w.heap.size 4 A rs.length (rs.flatMap En.cells)) :
    Calls Tryz.prog 46 #[.slice A rs.length cap, .string s] w fun e w' => e = .returned (get rs s).val ∧ Below w.heap.size w w' := by
  have H1 := Lib.hid h1
  clear h1
  have hb0 := Lib.hid (Blk.new w 36 #[.int .i64 0, .string ⟨#[]⟩, .string ⟨#[]⟩])
  have hl0 := Lib.hid (below_lit w (.cells #[.int .i64 0, .string ⟨#[]⟩, .string ⟨#[]⟩] 36))
  go_enter Tryz.func46, Tryz.ntmps46
  go_wp2_with fail
  generalize w.alloc (.cells #[.int .i64 0, .string ⟨#[]⟩, .string ⟨#[]⟩] 36) = w2 at *
  generalize hg : w.heap.size = g at *
  have HG := Lib.hid hg
  clear hg
  go_loopw [9] (fun iv wr => ∃ k : Nat, k ≤ rs.length ∧ iv = .int .i64 k ∧ Hid (∀ j (_ : j < rs.length), j < k → rs[j].key ≠ s) ∧ Hid (Blk wr g 36 #[.int .i64 0, .string ⟨#[]⟩, .string ⟨#[]⟩]) ∧ Hid (Below g w wr)) (fun iv _ => rs.length - (intOf iv).toNat)
  case atStart => exact ⟨0, by omega, rfl, fun _ _ h => by omega, hb0, hl0⟩
  case round =>
    clear hb0 hl0
    obtain ⟨k, hk, rfl, hI, hb, hlow⟩ := hrel
    have hgl := hb.out.lt
    by_cases hlt : k < rs.length
    · obtain ⟨ad, rfl, had, c0, c1, c2, c3⟩ := elemE (H1.out.below hlow.out) hlt
      have hfound := Lib.hid (fun h => get_found (s := s) hlt h (fun j hj hjk => hI.out j hj hjk))
      have hnext := Lib.hid (fun h => next_ne (s := s) hlt hI.out h)
      generalize rs[k] = xe at *
      obtain ⟨kk, n, b, v⟩ := xe
      simp only at c0 c1 c2 c3 hfound hnext
      have hba := hb.out.alloc (.cells #[.string kk, .int .i64 n, .string b, .string v] 38)
      have hla := Lib.hid (hlow.out.alloc (by omega) (.cells #[.string kk, .int .i64 n, .string b, .string v] 38))
      have f0 := hb.out.frozen 0
      have f1 := hb.out.frozen 1
      have f2 := hb.out.frozen 2
      by_cases he : kk = s
      · have hN := Lib.hid (hfound.out he)
        have he2 := bytes_eq he
        have d0 : wr.cell? ⟨g, 0, none⟩ = some (.int .i64 0) := by rw [hb.out.cell]; rfl
        have d1 : wr.cell? ⟨g, 1, none⟩ = some (.string ⟨#[]⟩) := by rw [hb.out.cell]; rfl
        have d2 : wr.cell? ⟨g, 2, none⟩ = some (.string ⟨#[]⟩) := by rw [hb.out.cell]; rfl
        have hne : ¬ (wr.heap.size = g) := by omega
        have hs3 := set3 (x := .int .i64 n) (y := .string b) (z := .string v) hb.out (.cells #[.string kk, .int .i64 n, .string b, .string v] 38)
        have r0 := hs3.cell 0
        have r1 := hs3.cell 1
        have r2 := hs3.cell 2
        have R := Lib.hid (And.intro r0 (And.intro r1 r2))
        have hlf := Lib.hid ((((hlow.out.setCell (p := ⟨g, 0, none⟩) (by simp) (.int .i64 n)).setCell (p := ⟨g, 1, none⟩) (by simp) (.string b)).setCell (p := ⟨g, 2, none⟩) (by simp) (.string v)).alloc (by simp; omega) (.cells #[.string kk, .int .i64 n, .string b, .string v] 38))
        clear r0 r1 r2 hs3
        clear he hfound hnext hb hba hI hla
        go_wp2
        exact bodyPost_ret (v := .agg #[.int .i64 n, .string b, .string v]) (by obtain ⟨r0, r1, r2⟩ := R.out; simp [results, Tryz.results46, go_sem, r0, r1, r2]) rfl ⟨by rw [hN.out], by rw [HG.out]; exact hlf.out⟩
      · have he2 := bytes_ne he
        have hI2 := Lib.hid (hnext.out he)
        have hba' := Lib.hid hba
        clear he hfound hnext hb hba hI f0 f1 f2
        go_wp2
        go_roundw
        case rel => exact ⟨k + 1, by omega, by go_num, hI2, hba', hla⟩
        case measure => simp [intOf]; omega
    · have hN := Lib.hid (get_none (s := s) (fun j h => hI.out j h (by omega)))
      have f0 := hb.out.frozen 0
      have f1 := hb.out.frozen 1
      have f2 := hb.out.frozen 2
      have d0 : wr.cell? ⟨g, 0, none⟩ = some (.int .i64 0) := by rw [hb.out.cell]; rfl
      have d1 : wr.cell? ⟨g, 1, none⟩ = some (.string ⟨#[]⟩) := by rw [hb.out.cell]; rfl
      have d2 : wr.cell? ⟨g, 2, none⟩ = some (.string ⟨#[]⟩) := by rw [hb.out.cell]; rfl
      have hlf := Lib.hid (((hlow.out.setCell (p := ⟨g, 0, none⟩) (by simp) (.int .i64 0)).setCell (p := ⟨g, 1, none⟩) (by simp) (.string ByteArray.empty)).setCell (p := ⟨g, 2, none⟩) (by simp) (.string ByteArray.empty))
      clear hb hI hlow
      go_wp2
      exact bodyPost_ret (v := .agg #[.int .i64 0, .string ByteArray.empty, .string ByteArray.empty]) (by simp [results, Tryz.results46, go_sem, d0, d1, d2] <;> rfl) rfl ⟨by rw [hN.out]; rfl, by rw [HG.out]; exact hlf.out⟩
end Go.Proofs.YtjbompimlopdiaaGreatDoor.rgy
