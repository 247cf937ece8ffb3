/- The laws of frames, over what is drawn: FrameIs, FrameBack, FrameFinds. -/
import Derived.Test.YtgojeoebflpglaaFrE
namespace Go.Proofs.Ytgojeoebflpglaa.fr
open Go.ChangeShapes Go.WideShapes Go.ChangeAt Go.RowKit Go.Proofs.Aid
open Go.Proofs.Ytgojeoebflpglaa.texts (tc)
theorem texts_in {W : World} {v : Value} (h : Opn W 22 [v]) : ∃ (A : Option Addr) (c : Nat) (xs : List ByteArray), v = .slice A xs.length c ∧ Reads W W.heap.size 1 A xs.length (xs.flatMap tc) ∧ xs.length ≤ maxLen ∧ (∀ s ∈ xs, s.size ≤ maxLen) ∧ xs.length ≤ c := by
  obtain ⟨A, n, cap, os, rfl, a1, a2, rfl, hR, hok⟩ := s22 h
  have e1 : os.length = (os.map R9.v).length := by simp
  have t1 := texts.texts_of hR
  rw [e1] at t1
  exact ⟨A, cap, os.map R9.v, by rw [← e1], t1, by rw [← e1]; omega, fun s hs => by obtain ⟨r, hr, rfl⟩ := List.mem_map.1 hs; exact hok r hr, by rw [← e1]; exact a1⟩
theorem u16_in {n : Int} (h : (Lit.int .u16 n).wf = true) : 0 ≤ n ∧ n ≤ 65535 := by
  simpa [Lit.wf, IntKind.min, IntKind.max, IntKind.signed, IntKind.bits] using h
theorem u32_in {n : Int} (h : (Lit.int .u32 n).wf = true) : 0 ≤ n ∧ n ≤ 4294967295 := by
  simpa [Lit.wf, IntKind.min, IntKind.max, IntKind.signed, IntKind.bits] using h
theorem is_all (W : World) (v0 : Value) (v1 : Value) (h0 : V22 W v0) (h1 : V9 W v1) :
    Calls Try.prog 3 #[v0, v1] W fun e w' => e = .returned (.bool true) ∧ Below W.heap.size W w' := by
  obtain ⟨A, c, xs, rfl, hR, hl, hz, _⟩ := texts_in h0
  obtain ⟨⟨s⟩, rfl, hs⟩ := h1
  exact is_walk W A c xs s hs hl hR hz
theorem back_all (W : World) (v0 : Value) (v1 : Value) (h0 : V22 W v0) (h1 : V31 W v1) :
    Calls Try.prog 4 #[v0, v1] W fun e w' => e = .returned (.bool true) ∧ Below W.heap.size W w' := by
  obtain ⟨A, c, xs, rfl, hR, hl, hz, hc⟩ := texts_in h0
  obtain ⟨⟨t⟩, rfl, ht⟩ := h1
  exact back_walk W A c xs t (u16_in ht).1 (u16_in ht).2 hc hl hR hz
theorem finds_all (W : World) (v0 : Value) (v1 : Value) (v2 : Value) (h0 : V22 W v0) (h1 : V33 W v1) (h2 : V34 W v2) :
    Calls Try.prog 5 #[v0, v1, v2] W fun e w' => e = .returned (.bool true) ∧ Below W.heap.size W w' := by
  obtain ⟨A, c, xs, rfl, hR, hl, hz, hc⟩ := texts_in h0
  obtain ⟨⟨t0, t1⟩, rfl, ht0, ht1⟩ := h1
  obtain ⟨⟨u⟩, rfl, hu⟩ := h2
  exact finds_walk W A c xs t0 t1 u (u16_in ht0) (u16_in ht1) (u32_in hu).1 (u32_in hu).2 hc hl hR hz
end Go.Proofs.Ytgojeoebflpglaa.fr
