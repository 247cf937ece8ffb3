/- QuorumMeets, over what is drawn. -/
import Derived.Test.YtcbfcmnnahbblaaO
namespace Go.Proofs.Ytcbfcmnnahbblaa.quorum
open Go.ChangeShapes Go.WideShapes Go.ChangeAt Go.RowKit Go.Proofs.Aid Go.Proofs.Ytcbfcmnnahbblaa.texts
theorem meets_all (W : World) (v0 : Value) (v1 : Value) (v2 : Value) (h0 : V23 W v0) (h1 : V24 W v1) (h2 : V35 W v2) :
    Calls Try.prog 4 #[v0, v1, v2] W fun e w' => e = .returned (.bool true) ∧ Below W.heap.size W w' := by
  obtain ⟨⟨pn, pr, pw, qr, qw, ps, pm, pb⟩, rfl, -⟩ := h0
  obtain ⟨A, n, cap, rs, rfl, a1, a2, rfl, hR, hok⟩ := s24 h1
  obtain ⟨⟨n0, n1⟩, rfl, -⟩ := h2
  exact meets_walk W A cap rs n0 n1 pn pr pw qr qw ps pm pb hR (by omega) hok
end Go.Proofs.Ytcbfcmnnahbblaa.quorum
