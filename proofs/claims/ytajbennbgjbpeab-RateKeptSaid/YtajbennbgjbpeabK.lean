/- Plain facts: a bucket never lets more than may be. -/
import Derived.Test.YtajbennbgjbpeabE
namespace Go.Proofs.Ytajbennbgjbpeab.rate
theorem clamp_in {n m : Int} (h0 : 0 ≤ n) (h1 : n ≤ m) : clamp n m = n := by
  unfold clamp; rw [if_neg (by omega), if_neg (by omega)]
structure Good (r burst : Int) (n : Nat) (b : Bk) (now : Int) (ts : List Int) : Prop where
  now0 : 0 ≤ now
  now1 : now ≤ 15 * n
  len : ts.length ≤ n
  at_ : b.at_ = now
  l0 : 0 ≤ b.left
  l1 : b.left ≤ clamp burst 1048576
  ins : ∀ i (h : i < ts.length), 0 ≤ ts[i] ∧ ts[i] ≤ now ∧ ((ts.length : Int) - i) + b.left ≤ clamp burst 1048576 + clamp r 1048576 * (now - ts[i])
  pairs : ∀ i k (hk : k < ts.length) (hi : i ≤ k), (k : Int) - i + 1 ≤ mostI (ts[i]'(by omega)) ts[k] r burst
theorem Good.first (r burst : Int) : Good r burst 0 (fullI 0 burst) 0 [] := by
  have hb := clamp_b burst 1048576 (by decide)
  exact ⟨by omega, by omega, by simp, by unfold fullI; rfl, hb.1, by unfold fullI; simp only; omega, fun i h => by simp at h, fun i k hk => by simp at hk⟩
theorem gone_in {a b : Int} (h0 : 0 ≤ a) (h : a ≤ b) (h1 : b ≤ 1099511627776) : goneI a b = b - a := by
  unfold goneI; rw [clamp_in h0 (by omega), clamp_in (by omega) h1]; split <;> omega
theorem fill_in {r burst : Int} {n : Nat} {b : Bk} {now : Int} {ts : List Int} (h : Good r burst n b now ts) (hn : n ≤ 60) (g : Int) (g0 : 0 ≤ g) (g1 : g ≤ 15) :
    fillI b (now + g) r burst = ⟨min (b.left + clamp r 1048576 * g) (clamp burst 1048576), now + g⟩ := by
  have hb := clamp_b burst 1048576 (by decide)
  have h1 := h.now0; have h2 := h.now1; have h3 := h.l0; have h4 := h.l1
  unfold fillI
  rw [h.at_, gone_in h1 (by omega) (by omega), clamp_in (n := b.left) h3 (by omega), clamp_in (n := now) h1 (by omega), clamp_in (n := now + g) (by omega) (by omega), show now + g - now = g by omega, show max now (now + g) = now + g by omega]
theorem most_in {r burst a b : Int} (h0 : 0 ≤ a) (h : a ≤ b) (h1 : b ≤ 1099511627776) : mostI a b r burst = clamp burst 1048576 + clamp r 1048576 * (b - a) := by
  unfold mostI; rw [gone_in h0 h h1]
theorem Good.no {r burst : Int} {n : Nat} {b : Bk} {now : Int} {ts : List Int} (h : Good r burst n b now ts) (hn : n ≤ 60) (g : Int) (g0 : 0 ≤ g) (g1 : g ≤ 15)
    (c : Bk) (hc : takeI b (now + g) r burst = (c, false)) : Good r burst (n + 1) c (now + g) ts := by
  have hr := clamp_b r 1048576 (by decide)
  have hb := clamp_b burst 1048576 (by decide)
  have hm : 0 ≤ clamp r 1048576 * g := Int.mul_nonneg hr.1 g0
  unfold takeI at hc
  rw [fill_in h hn g g0 g1] at hc
  simp only at hc
  split at hc
  · rename_i hz
    injection hc with hc _; subst hc
    refine ⟨by have := h.now0; omega, by have := h.now1; omega, by have := h.len; omega, rfl, by simp only; omega, by simp only; omega, fun i hi => ?_, h.pairs⟩
    obtain ⟨x, y, z⟩ := h.ins i hi
    refine ⟨x, by omega, ?_⟩
    have e : clamp r 1048576 * (now + g - ts[i]) = clamp r 1048576 * (now - ts[i]) + clamp r 1048576 * g := by rw [← Int.mul_add]; congr 1; omega
    have := h.l0
    simp only
    rw [e]; omega
  · injection hc with _ hc; cases hc
theorem Good.yes {r burst : Int} {n : Nat} {b : Bk} {now : Int} {ts : List Int} (h : Good r burst n b now ts) (hn : n ≤ 60) (g : Int) (g0 : 0 ≤ g) (g1 : g ≤ 15)
    (c : Bk) (hc : takeI b (now + g) r burst = (c, true)) : Good r burst (n + 1) c (now + g) (ts ++ [now + g]) := by
  have hr := clamp_b r 1048576 (by decide)
  have hb := clamp_b burst 1048576 (by decide)
  have hm : 0 ≤ clamp r 1048576 * g := Int.mul_nonneg hr.1 g0
  unfold takeI at hc
  rw [fill_in h hn g g0 g1] at hc
  simp only at hc
  split at hc
  · injection hc with _ hc; cases hc
  · rename_i hz
    injection hc with hc _; subst hc
    have n0 := h.now0; have n1 := h.now1; have b0 := h.l0; have b1 := h.l1
    have hins : ∀ i (hi : i < (ts ++ [now + g]).length), 0 ≤ (ts ++ [now + g])[i] ∧ (ts ++ [now + g])[i] ≤ now + g ∧ (((ts ++ [now + g]).length : Int) - i) + (min (b.left + clamp r 1048576 * g) (clamp burst 1048576) - 1) ≤ clamp burst 1048576 + clamp r 1048576 * (now + g - (ts ++ [now + g])[i]) := by
      intro i hi
      by_cases hl : i < ts.length
      · rw [List.getElem_append_left hl]
        obtain ⟨x, y, z⟩ := h.ins i hl
        refine ⟨x, by omega, ?_⟩
        have e : clamp r 1048576 * (now + g - ts[i]) = clamp r 1048576 * (now - ts[i]) + clamp r 1048576 * g := by rw [← Int.mul_add]; congr 1; omega
        rw [e]; simp; omega
      · have hi' : i = ts.length := by simp at hi; omega
        subst hi'
        simp
        omega
    refine ⟨by omega, by omega, by have := h.len; simp; omega, rfl, by simp only; omega, by simp only; omega, hins, fun i k hk hi => ?_⟩
    by_cases hl : k < ts.length
    · rw [List.getElem_append_left hl, List.getElem_append_left (show i < ts.length by omega)]
      exact h.pairs i k hl hi
    · have hk' : k = ts.length := by simp at hk; omega
      subst hk'
      obtain ⟨x, y, z⟩ := hins i (by simp; omega)
      have e : (ts ++ [now + g])[ts.length] = now + g := by simp
      rw [e, most_in x y (by omega)]
      simp at z
      omega
end Go.Proofs.Ytajbennbgjbpeab.rate
