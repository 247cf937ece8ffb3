/- Entries of a registry: Join of the package takes the first entry of a list. -/
import Derived.Test.YtdnefcpmechjkaaRgI
namespace Go.Proofs.Ytdnefcpmechjkaa.rgy
open Go.ChangeShapes Go.WideShapes Go.ChangeAt Go.RowKit Go.Proofs.Aid Go.Proofs.Ytdnefcpmechjkaa.name Go.Proofs.Ytdnefcpmechjkaa.reg
def cutA (A : Option Addr) (c : Nat) : Option Addr := if c = 1 then A else A.map (·.add (1 * 4))
/-- The first entry is taken: the box has the rest. -/
def TakeE (w : World) (g : Nat) (A : Option Addr) (n c : Nat) (x : En) (e : Ending) (w' : World) : Prop :=
  e = .returned x.val ∧ Blk w' g 22 #[.slice (cutA A c) (n - 1) (c - 1)] ∧ w.grownBy w' (some g)
set_option maxHeartbeats 4000000 in
theorem take_any (w : World) (g : Nat) (A : Option Addr) (c : Nat) (p : List En) (x : En) (hl : p.length ≤ 100000) (hc : (x :: p).length ≤ c) (hb : Blk w g 22 #[.slice A (x :: p).length c]) (B : Nat) (hBg : B ≤ g) (h1 : Reads w B 4 A (x :: p).length ((x :: p).flatMap En.cells)) :
    Calls Try.prog 38 #[.pointer (some ⟨g, 0, none⟩)] w (TakeE w g A (x :: p).length c x) := by
  obtain ⟨ad, rfl, had, c0, c1, c2, c3⟩ := elemE h1 (i := 0) (by simp)
  simp only [List.getElem_cons_zero] at c0 c1 c2 c3
  obtain ⟨kk, n, b, v⟩ := x
  simp only at c0 c1 c2 c3
  have hgl := hb.lt
  have hal : ad.block < w.heap.size := by omega
  have hne : ¬ (ad.block = g) := by omega
  have d0 : w.cell? ⟨g, 0, none⟩ = some (.slice (some ad) (p.length + 1) c) := by rw [hb.cell]; rfl
  have f0 := hb.frozen 0
  have e0 : ad.add (0 * 4) = ad := by simp [Addr.add]
  rw [e0] at c0 c1 c2 c3
  rw [List.length_cons] at hc
  have HB := Lib.hid hb
  clear hb h1
  have hnew : ∀ S : Value, Blk (((w.setCell ⟨g, 0, none⟩ S).alloc (.cells #[.string kk, .int .i64 n, .string b, .string v] 35)).alloc (.cells #[.string kk, .int .i64 n, .string b, .string v] 35)) w.heap.size 35 #[.string kk, .int .i64 n, .string b, .string v] := fun S => by
    have h := (Blk.new (w.setCell ⟨g, 0, none⟩ S) 35 #[.string kk, .int .i64 n, .string b, .string v]).alloc (.cells #[.string kk, .int .i64 n, .string b, .string v] 35)
    rwa [show (w.setCell ⟨g, 0, none⟩ S).heap.size = w.heap.size by simp] at h
  have hgr : ∀ S : Value, w.grownBy (((w.setCell ⟨g, 0, none⟩ S).alloc (.cells #[.string kk, .int .i64 n, .string b, .string v] 35)).alloc (.cells #[.string kk, .int .i64 n, .string b, .string v] 35)) (some g) := fun S =>
    only_alloc (only_alloc (only_setCell (only_of_below (Below.refl _ _) _) (.inl rfl) S) _) _
  have hbk : ∀ S : Value, Blk (((w.setCell ⟨g, 0, none⟩ S).alloc (.cells #[.string kk, .int .i64 n, .string b, .string v] 35)).alloc (.cells #[.string kk, .int .i64 n, .string b, .string v] 35)) g 22 #[S] := fun S => ((HB.out.set_ 0 S).alloc _).alloc _
  have HN := Lib.hid hnew
  have HG := Lib.hid hgr
  have HK := Lib.hid hbk
  clear hnew hgr hbk
  by_cases hc1 : c = 1
  · subst hc1
    have hp0 : p.length = 0 := by omega
    obtain rfl : p = [] := List.eq_nil_of_length_eq_zero hp0
    simp only [List.length_nil, Nat.zero_add] at d0
    go_enter Try.func38, Try.ntmps38
    go_wp2
    refine bodyPost_ret (v := .agg #[.string kk, .int .i64 n, .string b, .string v]) ?_ rfl ⟨rfl, HK.out _, HG.out _⟩
    have h := HN.out (.slice (some ad) 0 0)
    have r0 := h.cell 0
    have r1 := h.cell 1
    have r2 := h.cell 2
    have r3 := h.cell 3
    simp [results, Try.results38, go_sem, r0, r1, r2, r3]
  · have hca : cutA (some ad) c = some ⟨ad.block, ad.off + 4, none⟩ := by
      unfold cutA; rw [if_neg hc1]; rfl
    go_enter Try.func38, Try.ntmps38
    go_wp2
    refine bodyPost_ret (v := .agg #[.string kk, .int .i64 n, .string b, .string v]) ?_ rfl ⟨rfl, by rw [hca]; exact HK.out _, HG.out _⟩
    have h := HN.out (.slice (some ⟨ad.block, ad.off + 4, none⟩) p.length (c - 1))
    have r0 := h.cell 0
    have r1 := h.cell 1
    have r2 := h.cell 2
    have r3 := h.cell 3
    simp [results, Try.results38, go_sem, r0, r1, r2, r3]
end Go.Proofs.Ytdnefcpmechjkaa.rgy
