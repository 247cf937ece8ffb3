/- Two disks and the reference's, side by side: what an act does to each. -/
import Derived.Test.YtcmidhifhhmfkaaG
namespace Go.Proofs.Ytcmidhifhhmfkaa.disk
open Go.ChangeShapes Go.WideShapes Go.ChangeAt Go.RowKit Go.Proofs.Aid
structure DD (W : World) (p z x : Nat) (l1 : List UInt8) (k1 : Nat) (l2 : List UInt8) (k2 : Nat) (l3 : List UInt8) (k3 : Nat) (w : World) : Prop where
  low : Below W.heap.size W w
  hp : W.heap.size ≤ p
  hz : W.heap.size ≤ z
  hx : W.heap.size ≤ x
  pz : p ≠ z
  ex : ∃ v u S T, DK w p v l1 k1 ∧ DK w z u l2 k2 ∧ Blk w x 32 #[.string S, .string T] ∧ RD S T l3 k3 ∧ (∀ g, v.ownBlock = some g → W.heap.size ≤ g) ∧ (∀ g, u.ownBlock = some g → W.heap.size ≤ g) ∧ ∀ g, v.ownBlock = some g → u.ownBlock ≠ some g
theorem Blk.ch {w w' : World} {p g : Nat} {q : Option Nat} {t : TypeId} {cs : Array Value} (h : Blk w g t cs) (hc : Ch w w' p q) (h1 : g ≠ p) (h2 : some g ≠ q) : Blk w' g t cs := (hc.block g h.lt h1 h2).trans h
theorem DK.ch {w w' : World} {p g : Nat} {q : Option Nat} {v : Value} {l : List UInt8} {k : Nat} (h : DK w g v l k) (hc : Ch w w' p q) (h1 : g ≠ p) (h2 : some g ≠ q) (h3 : v.ownBlock ≠ some p) (h4 : ∀ r, v.ownBlock = some r → some r ≠ q) : DK w' g v l k :=
  ⟨Blk.ch h.blk hc h1 h2, h.row.kept fun r hr => hc.block r (h.row.lt hr) (fun e => h3 (by rw [hr, e])) (h4 r hr), h.le⟩
theorem DD.do_d {W w : World} {p z x : Nat} {l1 l2 l3 : List UInt8} {k1 k2 k3 : Nat} (h : DD W p z x l1 k1 l2 k2 l3 k3 w) (a : AC) (hs : l1.length + a.s.size ≤ 140737488355328) :
    Calls Try.prog 8 #[.pointer (some ⟨p, 0, none⟩), a.val] w fun e w' => e = .returned (.tuple #[]) ∧ DD W p z x (a.do_ l1 k1).1 (a.do_ l1 k1).2 l2 k2 l3 k3 w' := by
  obtain ⟨v, u, S, T, hd, hz, hx, hr, ov, ou, ap⟩ := h.ex
  refine (do_any hd a hs).mono ?_
  rintro e w' ⟨rfl, v', hd', hc, hf⟩
  have hsz := h.low.size
  refine ⟨rfl, hc.low h.low h.hp ov, h.hp, h.hz, h.hx, h.pz, v', u, S, T, hd', ?_, ?_, hr, fun g hg => ?_, ou, fun g hg => ?_⟩
  · exact hz.ch hc (Ne.symm h.pz) (fun e => hd.row.ne hz.blk (by decide) e.symm) (hz.row.ne hd.blk (by decide)) (fun r hr e => ap r e.symm hr)
  · exact Blk.ch hx hc (fun e => by subst e; exact absurd rfl (hd.blk.ne_ hx (by decide))) (fun e => hd.row.ne hx (by decide) e.symm)
  · rcases hf with e | ⟨g', e, h1⟩
    · exact ov g (by rw [← e]; exact hg)
    · rw [e] at hg; injection hg with hg; omega
  · rcases hf with e | ⟨g', e, h1⟩
    · exact ap g (by rw [← e]; exact hg)
    · rw [e] at hg; injection hg with hg
      intro q; have := hz.row.lt q; omega
theorem DD.do_z {W w : World} {p z x : Nat} {l1 l2 l3 : List UInt8} {k1 k2 k3 : Nat} (h : DD W p z x l1 k1 l2 k2 l3 k3 w) (a : AC) (hs : l2.length + a.s.size ≤ 140737488355328) :
    Calls Try.prog 8 #[.pointer (some ⟨z, 0, none⟩), a.val] w fun e w' => e = .returned (.tuple #[]) ∧ DD W p z x l1 k1 (a.do_ l2 k2).1 (a.do_ l2 k2).2 l3 k3 w' := by
  obtain ⟨v, u, S, T, hd, hz, hx, hr, ov, ou, ap⟩ := h.ex
  refine (do_any hz a hs).mono ?_
  rintro e w' ⟨rfl, u', hz', hc, hf⟩
  have hsz := h.low.size
  refine ⟨rfl, hc.low h.low h.hz ou, h.hp, h.hz, h.hx, h.pz, v, u', S, T, ?_, hz', ?_, hr, ov, fun g hg => ?_, fun g hg => ?_⟩
  · exact hd.ch hc h.pz (fun e => hz.row.ne hd.blk (by decide) e.symm) (hd.row.ne hz.blk (by decide)) (fun r hr e => ap r hr e.symm)
  · exact Blk.ch hx hc (fun e => by subst e; exact absurd rfl (hz.blk.ne_ hx (by decide))) (fun e => hz.row.ne hx (by decide) e.symm)
  · rcases hf with e | ⟨g', e, h1⟩
    · exact ou g (by rw [← e]; exact hg)
    · rw [e] at hg; injection hg with hg; omega
  · rcases hf with e | ⟨g', e, h1⟩
    · rw [e]; exact ap g hg
    · rw [e]; intro q; injection q with q
      have := hd.row.lt hg; omega
theorem DD.do_x {W w : World} {p z x : Nat} {l1 l2 l3 : List UInt8} {k1 k2 k3 : Nat} (h : DD W p z x l1 k1 l2 k2 l3 k3 w) (a : AC) (hs : l3.length + a.s.size ≤ 140737488355328) :
    Calls Try.prog 9 #[.pointer (some ⟨x, 0, none⟩), a.val] w fun e w' => e = .returned (.tuple #[]) ∧ DD W p z x l1 k1 l2 k2 (a.do_ l3 k3).1 (a.do_ l3 k3).2 w' := by
  obtain ⟨v, u, S, T, hd, hz, hx, hr, ov, ou, ap⟩ := h.ex
  refine (rdo_any hx hr a hs).mono ?_
  rintro e w' ⟨rfl, hc, S', T', hb', hr'⟩
  refine ⟨rfl, hc.low h.low h.hx (by simp), h.hp, h.hz, h.hx, h.pz, v, u, S', T', ?_, ?_, hb', hr', ov, ou, ap⟩
  · exact hd.ch hc (fun e => by subst e; exact absurd rfl (hd.blk.ne_ hx (by decide))) (by simp) (hd.row.ne hx (by decide)) (by simp)
  · exact hz.ch hc (fun e => by subst e; exact absurd rfl (hz.blk.ne_ hx (by decide))) (by simp) (hz.row.ne hx (by decide)) (by simp)
end Go.Proofs.Ytcmidhifhhmfkaa.disk
