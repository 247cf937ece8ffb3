/- Awake, and the walk of DiskSure. -/
import Derived.Test.YtcmidhifhhmfkaaC
namespace Go.Proofs.Ytcmidhifhhmfkaa.disk
open Go.ChangeShapes Go.WideShapes Go.ChangeAt Go.RowKit Go.Proofs.Aid
theorem Ch.low {w w' W : World} {p : Nat} {q : Option Nat} (h : Ch w w' p q) (hb : Below W.heap.size W w) (hp : W.heap.size ≤ p) (hq : ∀ g, q = some g → W.heap.size ≤ g) : Below W.heap.size W w' :=
  h.below hb hb.size hp hq
/-- A disk that is a call's own: it and its row lie above B. -/
structure OD (W w : World) (p : Nat) (l : List UInt8) (k : Nat) : Prop where
  low : Below W.heap.size W w
  hp : W.heap.size ≤ p
  dk : ∃ v, DK w p v l k ∧ ∀ g, v.ownBlock = some g → W.heap.size ≤ g
theorem OD.new {W w : World} (h : Below W.heap.size W w) : OD W (w.alloc (.cells #[.slice none 0 0, .int .i64 0] 29)) w.heap.size [] 0 :=
  ⟨h.alloc h.size _, h.size, _, DK.new w, fun g q => by simp [Value.ownBlock] at q⟩
theorem OD.append {W w : World} {p : Nat} {l : List UInt8} {k : Nat} (h : OD W w p l k) (s : ByteArray) (hb : l.length + s.size ≤ 140737488355328) :
    Calls Try.prog 13 #[.pointer (some ⟨p, 0, none⟩), .string s] w fun e w' => e = .returned (.tuple #[]) ∧ OD W w' p (l ++ s.data.toList) k := by
  obtain ⟨v, hd, hq⟩ := h.dk
  refine (append_any hd s hb).mono ?_
  rintro e w' ⟨rfl, v', hd', hc, hf⟩
  refine ⟨rfl, hc.low h.low h.hp hq, h.hp, v', hd', fun g hg => ?_⟩
  rcases hf with e | e
  · exact hq g (by rw [← e]; exact hg)
  · rw [e] at hg; injection hg with hg; have := h.low.size; omega
theorem OD.sync {W w : World} {p : Nat} {l : List UInt8} {k : Nat} (h : OD W w p l k) :
    Calls Try.prog 14 #[.pointer (some ⟨p, 0, none⟩)] w fun e w' => e = .returned (.tuple #[]) ∧ OD W w' p l l.length := by
  obtain ⟨v, hd, hq⟩ := h.dk
  refine (sync_any hd).mono ?_
  rintro e w' ⟨rfl, hd', hc⟩
  exact ⟨rfl, hc.low h.low h.hp (by simp), h.hp, v, hd', hq⟩
theorem OD.crash {W w : World} {p : Nat} {l : List UInt8} {k : Nat} (h : OD W w p l k) (keep : Int) :
    Calls Try.prog 15 #[.pointer (some ⟨p, 0, none⟩), .int .i64 keep] w fun e w' => e = .returned (.tuple #[]) ∧ OD W w' p (l.take (crashK l.length k keep)) (crashK l.length k keep) := by
  obtain ⟨v, hd, hq⟩ := h.dk
  refine (crash_any hd keep).mono ?_
  rintro e w' ⟨rfl, v', hd', hc, hf⟩
  exact ⟨rfl, hc.low h.low h.hp (by simp), h.hp, v', hd', fun g hg => hq g (by rw [← hf]; exact hg)⟩
theorem OD.do_ {W w : World} {p : Nat} {l : List UInt8} {k : Nat} (h : OD W w p l k) (a : AC) (hs : l.length + a.s.size ≤ 140737488355328) :
    Calls Try.prog 8 #[.pointer (some ⟨p, 0, none⟩), a.val] w fun e w' => e = .returned (.tuple #[]) ∧ OD W w' p (a.do_ l k).1 (a.do_ l k).2 := by
  obtain ⟨v, hd, hq⟩ := h.dk
  refine (do_any hd a hs).mono ?_
  rintro e w' ⟨rfl, v', hd', hc, hf⟩
  refine ⟨rfl, hc.low h.low h.hp hq, h.hp, v', hd', fun g hg => ?_⟩
  rcases hf with e | ⟨g', e, h1⟩
  · exact hq g (by rw [← e]; exact hg)
  · rw [e] at hg; injection hg with hg; have := h.low.size; omega
theorem OD.bytes {W w : World} {p : Nat} {l : List UInt8} {k : Nat} (h : OD W w p l k) :
    Calls Try.prog 10 #[.pointer (some ⟨p, 0, none⟩)] w fun e w' => e = .returned (.string ⟨l.toArray⟩) ∧ w' = w := by
  obtain ⟨v, hd, hq⟩ := h.dk; exact bytes_any hd
theorem OD.sure {W w : World} {p : Nat} {l : List UInt8} {k : Nat} (h : OD W w p l k) :
    Calls Try.prog 11 #[.pointer (some ⟨p, 0, none⟩)] w fun e w' => e = .returned (.int .i64 k) ∧ w' = w := by
  obtain ⟨v, hd, hq⟩ := h.dk; exact sure_any hd
theorem OD.le {W w : World} {p : Nat} {l : List UInt8} {k : Nat} (h : OD W w p l k) : k ≤ l.length := by
  obtain ⟨v, hd, hq⟩ := h.dk; exact hd.le
/-- The clone lies above all that was: it is the clone's own. -/
theorem OD.clone {W w : World} {p : Nat} {l : List UInt8} {k : Nat} (h : OD W w p l k) (hl : l.length ≤ 140737488355328) :
    Calls Try.prog 12 #[.pointer (some ⟨p, 0, none⟩)] w fun e w' => ∃ g, e = .returned (.pointer (some ⟨g, 0, none⟩)) ∧ OD W w' p l k ∧ OD w w' g l k := by
  obtain ⟨v, hd, hq⟩ := h.dk
  refine (clone_any hd hl).mono ?_
  rintro e w' ⟨g, v2, rfl, hd', hb, hg, hq2⟩
  refine ⟨g, rfl, ⟨h.low.trans (hb.mono h.low.size), h.hp, v, ⟨hd.blk.below hb hd.blk.lt, hd.row.kept fun j hj => hb.block j (hd.row.lt hj), hd.le⟩, hq⟩, ⟨hb, hg, v2, hd', hq2⟩⟩
theorem DK.far {w w' : World} {p g : Nat} {v u : Value} {l m : List UInt8} {k j : Nat} (h : DK w g v l k) (hp : DK w p u m j) (hc : Ch w w' p none) (hne : g ≠ p) : DK w' g v l k :=
  ⟨(hc.block g h.blk.lt hne (by simp)).trans h.blk, h.row.kept fun q hq => hc.block q (h.row.lt hq) (fun e => h.row.ne hp.blk (by decide) (by rw [hq, e])) (by simp), h.le⟩
theorem OD.crash2 {W w0 w : World} {p g : Nat} {l m : List UInt8} {k j : Nat} (h : OD W w p l k) (c : OD w0 w g m j) (hp : p < w0.heap.size) (keep : Int) :
    Calls Try.prog 15 #[.pointer (some ⟨p, 0, none⟩), .int .i64 keep] w fun e w' => e = .returned (.tuple #[]) ∧ OD W w' p (l.take (crashK l.length k keep)) (crashK l.length k keep) ∧ ∃ v, DK w' g v m j := by
  obtain ⟨v, hd, hq⟩ := h.dk
  obtain ⟨v2, hd2, _⟩ := c.dk
  refine (crash_any hd keep).mono ?_
  rintro e w' ⟨rfl, v', hd', hc, hf⟩
  exact ⟨rfl, ⟨hc.low h.low h.hp (by simp), h.hp, v', hd', fun g hg => hq g (by rw [← hf]; exact hg)⟩, v2, hd2.far hd hc (by have := c.hp; omega)⟩
theorem OD.lt {W w : World} {p : Nat} {l : List UInt8} {k : Nat} (h : OD W w p l k) : p < w.heap.size := by
  obtain ⟨v, hd, hq⟩ := h.dk; exact hd.blk.lt
theorem awake_any (W : World) : Calls Try.prog 6 #[] W fun e w' => e = .returned (.bool true) ∧ Below W.heap.size W w' := by
  go_enter Try.func6, Try.ntmps6
  go_wp2_with fail
  refine (new_any _).mono ?_
  rintro e w1 ⟨rfl, hw⟩
  have h := OD.new (Below.refl W.heap.size W)
  rw [← hw] at h
  clear hw
  generalize hp : W.heap.size = p at h ⊢
  clear hp
  have h1 := Lib.hid h
  clear h
  go_wp2_with fail
  refine (h1.out.append _ (by decide)).mono ?_
  rintro e w2 ⟨rfl, h⟩
  have h2 := Lib.hid (show OD W w2 p [97, 98] 0 from h)
  clear h h1
  go_wp2_with fail
  refine (h2.out.sync).mono ?_
  rintro e w3 ⟨rfl, h⟩
  have h3 := Lib.hid (show OD W w3 p [97, 98] 2 from h)
  clear h h2
  go_wp2_with fail
  refine (h3.out.append _ (by decide)).mono ?_
  rintro e w4 ⟨rfl, h⟩
  have h4 := Lib.hid (show OD W w4 p [97, 98, 99, 100] 2 from h)
  clear h h3
  go_wp2_with fail
  refine (h4.out.clone (by decide)).mono ?_
  rintro e w5 ⟨g, rfl, h, c⟩
  have h5 := Lib.hid h
  have c5 := Lib.hid c
  have hlt := Lib.hid h4.out.lt
  clear h c h4
  go_wp2_with fail
  refine (h5.out.crash2 c5.out hlt.out 1).mono ?_
  rintro e w6 ⟨rfl, h, v, c⟩
  have h6 := Lib.hid (show OD W w6 p [97, 98, 99] 3 from h)
  have c6 := Lib.hid c
  clear h c h5 c5 hlt
  go_wp2_with fail
  refine (h6.out.bytes).mono ?_
  rintro e w7 ⟨rfl, rfl⟩
  go_wp2_with fail
  refine (h6.out.sure).mono ?_
  rintro e w8 ⟨rfl, rfl⟩
  go_wp2_with fail
  refine (bytes_any c6.out).mono ?_
  rintro e w9 ⟨rfl, rfl⟩
  go_wp2_with fail
  refine (sure_any c6.out).mono ?_
  rintro e w10 ⟨rfl, rfl⟩
  have hl := Lib.hid h6.out.low
  clear h6 c6
  go_wp2
  go_ret
  exact ⟨rfl, hl.out⟩
end Go.Proofs.Ytcmidhifhhmfkaa.disk
