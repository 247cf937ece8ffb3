/- The laws of octets, over what is drawn: OctetWrites, OctetReads, OctetBack, OctetNobody. -/
import Derived.Test.YtpdmchkmdkdfgaaOcB
import Derived.Test.YtpdmchkmdkdfgaaOcC
import Derived.Test.YtpdmchkmdkdfgaaOcD
import Derived.Test.YtpdmchkmdkdfgaaOcE
namespace Go.Proofs.Ytpdmchkmdkdfgaa.oc
open Go.ChangeShapes Go.WideShapes Go.ChangeAt Go.RowKit Go.Proofs.Aid
open Go.Proofs.Ytpdmchkmdkdfgaa.texts (tc)
theorem texts_in {W : World} {v : Value} (h : Opn W 22 [v]) : ∃ (A : Option Addr) (c : Nat) (xs : List ByteArray), v = .slice A xs.length c ∧ Reads W W.heap.size 1 A xs.length (xs.flatMap tc) ∧ xs.length ≤ maxLen ∧ ∀ s ∈ xs, s.size ≤ maxLen := by
  obtain ⟨A, n, cap, os, rfl, a1, a2, rfl, hR, hok⟩ := s22 h
  have e1 : os.length = (os.map R9.v).length := by simp
  have t1 := texts.texts_of hR
  rw [e1] at t1
  exact ⟨A, cap, os.map R9.v, by rw [← e1], t1, by rw [← e1]; omega, fun s hs => by obtain ⟨r, hr, rfl⟩ := List.mem_map.1 hs; exact hok r hr⟩
theorem bytes_in {W : World} {v : Value} (h : Opn W 27 [v]) : ∃ (A : Option Addr) (c : Nat) (xs : List Int), v = .slice A xs.length c ∧ Reads W W.heap.size 1 A xs.length (xs.flatMap uc) ∧ xs.length ≤ maxLen := by
  obtain ⟨A, n, cap, os, rfl, a1, a2, rfl, hR, hok⟩ := s27 h
  refine ⟨A, cap, os.map R5.v, by rw [List.length_map], ?_, by rw [List.length_map]; omega⟩
  rw [List.length_map, List.flatMap_map]
  exact hR
theorem i64_in {n : Int} (h : (Lit.int .i64 n).wf = true) : -9223372036854775808 ≤ n ∧ n ≤ 9223372036854775807 := by
  simpa [Lit.wf, IntKind.min, IntKind.max, IntKind.signed, IntKind.bits] using h
theorem writes_all (W : World) (v0 : Value) (v1 : Value) (v2 : Value) (h0 : V3 W v0) (h1 : V9 W v1) (h2 : V22 W v2) :
    Calls Try.prog 3 #[v0, v1, v2] W fun e w' => e = .returned (.bool true) ∧ Below W.heap.size W w' := by
  obtain ⟨⟨n⟩, rfl, -⟩ := h0
  obtain ⟨⟨s⟩, rfl, hs⟩ := h1
  obtain ⟨A, c, xs, rfl, hR, hl, hz⟩ := texts_in h2
  exact writes_walk W n s A c xs hs hl hR hz
theorem reads_all (W : World) (v0 : Value) (v1 : Value) (v2 : Value) (h0 : V9 W v0) (h1 : V27 W v1) (h2 : V3 W v2) :
    Calls Try.prog 4 #[v0, v1, v2] W fun e w' => e = .returned (.bool true) ∧ Below W.heap.size W w' := by
  obtain ⟨⟨s⟩, rfl, hs⟩ := h0
  obtain ⟨A, c, xs, rfl, hR, hl⟩ := bytes_in h1
  obtain ⟨⟨n⟩, rfl, -⟩ := h2
  exact reads_walk W s A c xs n hs hl hR
theorem back_all (W : World) (v0 : Value) (v1 : Value) (v2 : Value) (h0 : V50 W v0) (h1 : V9 W v1) (h2 : V22 W v2) :
    Calls Try.prog 5 #[v0, v1, v2] W fun e w' => e = .returned (.bool true) ∧ Below W.heap.size W w' := by
  obtain ⟨⟨n0, n1⟩, rfl, ho0, ho1⟩ := h0
  obtain ⟨⟨s⟩, rfl, hs⟩ := h1
  obtain ⟨A, c, xs, rfl, hR, hl, hz⟩ := texts_in h2
  exact back_walk W n0 n1 s A c xs (i64_in ho0) (i64_in ho1) hs hl hR hz
theorem nobody_all (W : World) (v0 : Value) (h0 : V3 W v0) :
    Calls Try.prog 6 #[v0] W fun e w' => e = .returned (.bool true) ∧ Below W.heap.size W w' := by
  obtain ⟨⟨n⟩, rfl, -⟩ := h0
  exact nobody_walk W n
end Go.Proofs.Ytpdmchkmdkdfgaa.oc
