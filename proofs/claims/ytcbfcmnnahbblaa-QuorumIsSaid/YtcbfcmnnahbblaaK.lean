/- QuorumIs, over what is drawn. -/
import Derived.Test.YtcbfcmnnahbblaaJ
namespace Go.Proofs.Ytcbfcmnnahbblaa.quorum
open Go.ChangeShapes Go.WideShapes Go.ChangeAt Go.RowKit Go.Proofs.Aid Go.Proofs.Ytcbfcmnnahbblaa.texts
theorem texts25 {W : World} {v : Value} (h : Opn W 25 [v]) : ∃ (A : Option Addr) (c : Nat) (xs : List ByteArray), v = .slice A xs.length c ∧ Reads W W.heap.size 1 A xs.length (xs.flatMap tc) ∧ xs.length ≤ maxLen ∧ ∀ s ∈ xs, s.size ≤ maxLen := by
  obtain ⟨A, n, cap, os, rfl, a1, a2, rfl, hR, hok⟩ := s25 h
  have e1 : os.length = (os.map R9.v).length := by simp
  have t1 := texts_of hR
  rw [e1] at t1
  exact ⟨A, cap, os.map R9.v, by rw [← e1], t1, by rw [← e1]; omega, fun s hs => by obtain ⟨r, hr, rfl⟩ := List.mem_map.1 hs; exact hok r hr⟩
theorem is_all (W : World) (v0 : Value) (v1 : Value) (v2 : Value) (h0 : V23 W v0) (h1 : V24 W v1) (h2 : V26 W v2) :
    Calls Try.prog 3 #[v0, v1, v2] W fun e w' => e = .returned (.bool true) ∧ Below W.heap.size W w' := by
  obtain ⟨⟨pn, pr, pw, qr, qw, ps, pm, pb⟩, rfl, -⟩ := h0
  obtain ⟨A, n, cap, rs, rfl, a1, a2, rfl, hR, hok⟩ := s24 h1
  obtain ⟨⟨x, y, z⟩, rfl, hx, hy, hz⟩ := h2
  obtain ⟨X, cx, xs, ex, rx, lx, sx⟩ := texts25 hx
  obtain ⟨Y, cy, ys, ey, ry, ly, sy⟩ := texts25 hy
  obtain ⟨Z, cz, zs, ez, rz, lz, sz⟩ := texts25 hz
  simp only at ex ey ez
  subst ex ey ez
  exact is_walk W A X Y Z cap cx cy cz rs xs ys zs pn pr pw qr qw ps pm pb hR rx ry rz (by omega) lx ly lz hok sx sy sz
end Go.Proofs.Ytcbfcmnnahbblaa.quorum
