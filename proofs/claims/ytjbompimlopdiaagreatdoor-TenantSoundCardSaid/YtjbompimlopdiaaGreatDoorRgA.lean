/- Entries of a registry: their cells, their keys, whether they may be, and a key's register. -/
import Derived.Test.YtjbompimlopdiaaGreatDoorRegF
import Derived.Test.YtjbompimlopdiaaGreatDoorKit
import Derived.IntWalk
namespace Go.Proofs.YtjbompimlopdiaaGreatDoor.rgy
open Go.ChangeShapes Go.WideShapes Go.ChangeAt Go.RowKit Go.Proofs.Aid Go.Proofs.YtjbompimlopdiaaGreatDoor.name Go.Proofs.YtjbompimlopdiaaGreatDoor.reg
structure En where
  key : ByteArray
  reg : Rg
  deriving DecidableEq
def En.cells (e : En) : List Value := [.string e.key, .int .i64 e.reg.n, .string e.reg.by_, .string e.reg.value]
@[reducible] def En.val (e : En) : Value := .agg #[.string e.key, .int .i64 e.reg.n, .string e.reg.by_, .string e.reg.value]
theorem En.len (e : En) : e.cells.length = 4 := rfl
def En.sz (e : En) : Prop := e.key.size ≤ maxLen ∧ e.reg.by_.size ≤ maxLen ∧ e.reg.value.size ≤ maxLen
theorem elemE {w : World} {B : Nat} {A : Option Addr} {rs : List En} (h : Reads w B 4 A rs.length (rs.flatMap En.cells)) {i : Nat} (hi : i < rs.length) :
    ∃ ad, A = some ad ∧ ad.block < B ∧ w.cell? (ad.add (i * 4)) = some (.string rs[i].key) ∧ w.cell? ⟨(ad.add (i * 4)).block, (ad.add (i * 4)).off + 1, none⟩ = some (.int .i64 rs[i].reg.n) ∧ w.cell? ⟨(ad.add (i * 4)).block, (ad.add (i * 4)).off + 2, none⟩ = some (.string rs[i].reg.by_) ∧ w.cell? ⟨(ad.add (i * 4)).block, (ad.add (i * 4)).off + 3, none⟩ = some (.string rs[i].reg.value) := by
  obtain ⟨ad, e, hb, hc⟩ := h.elem En.len hi
  have x1 : ∀ j, (⟨(ad.add (i * 4)).block, (ad.add (i * 4)).off + (j + 1), none⟩ : Addr) = ad.add (i * 4 + (j + 1)) := fun j => by rw [← add_of_add]; rfl
  refine ⟨ad, e, hb, by simpa using hc 0 _ rfl, ?_, ?_, ?_⟩
  · rw [x1]; exact hc 1 _ rfl
  · rw [x1]; exact hc 2 _ rfl
  · rw [x1]; exact hc 3 _ rfl
def isKey (s : ByteArray) : Bool := decide (1 ≤ s.size) && decide (s.size ≤ 128)
theorem isKey_any (s : ByteArray) (w : World) (hs : s.size ≤ maxLen) : Calls Tryz.prog 59 #[.string s] w fun e w' => e = .returned (.bool (isKey s)) ∧ w' = w := by
  unfold maxLen at hs
  by_cases h0 : s.size = 0
  · obtain rfl := nil_of h0
    go_enter Tryz.func59, Tryz.ntmps59
    go_wp2
    go_ret
    exact ⟨rfl, rfl⟩
  · have hne := not_nil h0
    have hne2 : s.toList.isEmpty = false := by simpa using hne
    by_cases h1 : s.size ≤ 128
    all_goals
      have hk := Lib.hid (show isKey s = decide (s.size ≤ 128) by unfold isKey; rw [decide_eq_true (by omega), Bool.true_and])
      go_enter Tryz.func59, Tryz.ntmps59
      go_wp2
      go_ret
      exact ⟨reg.ret_bool (by rw [hk.out]; first | rfl | (simp; done) | (simp; omega)), rfl⟩
def lt (a b : ByteArray) : Bool := Op.bytesLess a.toList b.toList
def okAt (l : List En) (i : Nat) : Bool := isKey (l.getD i ⟨ByteArray.empty, Rg.zero⟩).key && decide (l.getD i ⟨ByteArray.empty, Rg.zero⟩).reg.may && (decide (i = 0) || lt (l.getD (i - 1) ⟨ByteArray.empty, Rg.zero⟩).key (l.getD i ⟨ByteArray.empty, Rg.zero⟩).key)
def may (l : List En) : Bool := decide (l.length ≤ 4096) && (List.range l.length).all (okAt l)
def chk (l : List En) : Int := if may l then 0 else 1
theorem chk_no {l : List En} (h : may l = false) : chk l = 1 := by unfold chk; rw [h]; rfl
theorem chk_ok {l : List En} (h : may l = true) : chk l = 0 := by unfold chk; rw [h]; rfl
theorem may_no {l : List En} {i : Nat} (h : i < l.length) (hk : okAt l i = false) : may l = false := by
  unfold may
  have : (List.range l.length).all (okAt l) = false := by
    rw [List.all_eq_false]; exact ⟨i, by simpa using h, by simp [hk]⟩
  rw [this, Bool.and_false]
theorem may_yes {l : List En} (h : l.length ≤ 4096) (hk : ∀ j, j < l.length → okAt l j = true) : may l = true := by
  unfold may
  rw [decide_eq_true h, Bool.true_and, List.all_eq_true]
  intro j hj; exact hk j (by simpa using hj)
theorem okAt_eq {l : List En} {i : Nat} (h : i < l.length) (h' : i - 1 < l.length) : okAt l i = (isKey l[i].key && decide l[i].reg.may && (decide (i = 0) || lt l[i - 1].key l[i].key)) := by
  unfold okAt; simp [h, h']
/-- An entry in a block of the call's own, and one cell of what lay before. -/
structure XP (w0 : World) (ty : TypeId) (k : ByteArray) (n : Int) (b v : ByteArray) (p : Addr) (u : Value) (w' : World) : Prop where
  blk : Blk w' w0.heap.size ty #[.string k, .int .i64 n, .string b, .string v]
  old : w0.cell? p = some u
  hp : p.block < w0.heap.size
  low : Below w0.heap.size w0 w'
section
variable {w0 w' w1 : World} {ty : TypeId} {k b v : ByteArray} {n : Int} {p : Addr} {u : Value}
theorem XP.of (h : XP w0 ty k n b v p u w') : w'.cell? ⟨w0.heap.size, 0, none⟩ = some (.string k) ∧ w'.cell? ⟨w0.heap.size, 1, none⟩ = some (.int .i64 n) ∧ w'.cell? ⟨w0.heap.size, 2, none⟩ = some (.string b) ∧ w'.cell? ⟨w0.heap.size, 3, none⟩ = some (.string v) ∧ w'.cell? p = some u ∧ Hid (XP w0 ty k n b v p u w') :=
  ⟨by rw [h.blk.cell]; rfl, by rw [h.blk.cell]; rfl, by rw [h.blk.cell]; rfl, by rw [h.blk.cell]; rfl, (h.low.cell h.hp).trans h.old, h⟩
theorem XP.drew (h : Hid (XP w0 ty k n b v p u w')) : w'.drew.cell? ⟨w0.heap.size, 0, none⟩ = some (.string k) ∧ w'.drew.cell? ⟨w0.heap.size, 1, none⟩ = some (.int .i64 n) ∧ w'.drew.cell? ⟨w0.heap.size, 2, none⟩ = some (.string b) ∧ w'.drew.cell? ⟨w0.heap.size, 3, none⟩ = some (.string v) ∧ w'.drew.cell? p = some u ∧ Hid (XP w0 ty k n b v p u w'.drew) :=
  XP.of ⟨h.blk, h.old, h.hp, h.low.drew⟩
theorem XP.step (h : Hid (XP w0 ty k n b v p u w')) (hb : Below w'.heap.size w' w1) : w1.cell? ⟨w0.heap.size, 0, none⟩ = some (.string k) ∧ w1.cell? ⟨w0.heap.size, 1, none⟩ = some (.int .i64 n) ∧ w1.cell? ⟨w0.heap.size, 2, none⟩ = some (.string b) ∧ w1.cell? ⟨w0.heap.size, 3, none⟩ = some (.string v) ∧ w1.cell? p = some u ∧ Hid (XP w0 ty k n b v p u w1) :=
  XP.of ⟨h.blk.below hb h.blk.lt, h.old, h.hp, h.low.trans (hb.mono h.low.size)⟩
theorem XP.new (w0 : World) (ty : TypeId) (k : ByteArray) (n : Int) (b v : ByteArray) (hc : w0.cell? p = some u) (hp : p.block < w0.heap.size) : XP w0 ty k n b v p u (w0.alloc (.cells #[.string k, .int .i64 n, .string b, .string v] ty)) :=
  ⟨Blk.new _ _ _, hc, hp, (Below.refl _ _).alloc (Nat.le_refl _) _⟩
end
set_option maxRecDepth 100000 in
set_option maxHeartbeats 4000000 in
theorem chk_any (w : World) (A : Option Addr) (cap : Nat) (rs : List En) (hl : rs.length ≤ 1000000) (h1 : Reads w w.heap.size 4 A rs.length (rs.flatMap En.cells)) (hs : ∀ r ∈ rs, r.sz) :
    Calls Tryz.prog 58 #[.slice A rs.length cap] w fun e w' => e = .returned (.int .i64 (chk rs)) ∧ Below w.heap.size w w' := by
  have H1 := Lib.hid h1
  have HS := Lib.hid hs
  clear h1 hs
  by_cases hlong : 4096 < rs.length
  · have hN := Lib.hid (chk_no (l := rs) (by unfold may; rw [decide_eq_false (by omega), Bool.false_and]))
    go_enter Tryz.func58, Tryz.ntmps58
    go_wp2
    go_ret
    exact ⟨ret_int (by rw [hN.out]), Below.refl _ _⟩
  go_enter Tryz.func58, Tryz.ntmps58
  go_wp2_with fail
  go_loopw [10] (fun iv wr => ∃ k : Nat, k ≤ rs.length ∧ iv = .int .i64 k ∧ Hid (∀ j, j < k → okAt rs j = true) ∧ Hid (Below w.heap.size w wr)) (fun iv _ => rs.length - (intOf iv).toNat)
  case atStart => exact ⟨0, by omega, rfl, fun _ h => by omega, Below.refl _ _⟩
  case round =>
    obtain ⟨k, hk, rfl, hI, hlow⟩ := hrel
    by_cases hlt : k < rs.length
    · obtain ⟨ad, rfl, had, c0, c1, c2, c3⟩ := elemE (H1.out.below hlow.out) hlt
      have hz := hlow.out.size
      have hnx : Hid (okAt rs k = true → ∀ j, j < k + 1 → okAt rs j = true) := fun h j hj => by
        by_cases e : j < k
        · exact hI.out j e
        · have : j = k := by omega
          subst this; exact h
      have hno : Hid (okAt rs k = false → chk rs = 1) := fun h => chk_no (may_no hlt h)
      have hsz := HS.out _ (List.getElem_mem hlt)
      have hoe := Lib.hid (okAt_eq hlt (show k - 1 < rs.length by omega))
      have hprev : Hid (0 < k → wr.cell? (ad.add ((k - 1) * 4)) = some (.string rs[k - 1].key)) := fun _ => by
        obtain ⟨ad', e, _, c, _⟩ := elemE (H1.out.below hlow.out) (show k - 1 < rs.length by omega)
        injection e with e; subst e; exact c
      clear hI
      generalize rs[k - 1] = pe at *
      generalize rs[k] = xe at *
      obtain ⟨kk, n, b, v⟩ := xe
      obtain ⟨z0, z1, z2⟩ := hsz
      simp only at c0 c1 c2 c3 z0 z1 z2 hoe
      have Z0 := Lib.hid z0
      have Z1 := Lib.hid z1
      have Z2 := Lib.hid z2
      have hz' : (ad.add (k * 4)).block < wr.heap.size := by rw [block_of_add]; omega
      have hxp := XP.new wr 38 kk n b v c0 hz'
      cases hik : isKey kk with
      | false =>
        have hN := Lib.hid (hno.out (by rw [hoe.out, hik]; rfl))
        have test := XP.drew hxp
        have hKK := Lib.hid hik
        clear hik z0 z1 z2 hno hnx hoe hprev hxp
        go_wp2_with fail
        refine wp_region_held_drew (S := (fun w' => w'.cell? ⟨wr.heap.size, 0, none⟩ = some (.string kk) ∧ w'.cell? ⟨wr.heap.size, 1, none⟩ = some (.int .i64 n) ∧ w'.cell? ⟨wr.heap.size, 2, none⟩ = some (.string b) ∧ w'.cell? ⟨wr.heap.size, 3, none⟩ = some (.string v) ∧ w'.cell? (ad.add (k * 4)) = some (.string kk) ∧ Hid (XP wr 38 kk n b v (ad.add (k * 4)) (.string kk) w'))) (by kernel_rfl) ?_ (fun hHelda0 => ?_)
        · exact test
        refine wpAnyH_take (i := 0) (v := ?va0) ops0 (by kernel_rfl) (by kernel_rfl) (by kernel_rfl) (fun _ _ _ h => h) (Or.inl ⟨by rfl, ?ya0⟩) hHelda0 ?_
        case ya0 => (intro w hSw; (try dsimp only at hSw); go_simp; try (with_reducible rfl))
        try simp only [Act.put, List.setIfInBounds_toArray, List.set_cons_zero, List.set_cons_succ]
        refine wpAnyH_take (i := 1) (v := ?va1) (opsS ops0) (by kernel_rfl) (by kernel_rfl) (by kernel_rfl) (fun _ _ _ h => h) (Or.inl ⟨by rfl, ?ya1⟩) hHelda0 ?_
        case ya1 => (intro w hSw; (try dsimp only at hSw); go_simp; try (with_reducible rfl))
        try simp only [Act.put, List.setIfInBounds_toArray, List.set_cons_zero, List.set_cons_succ]
        refine wpAnyH_ready (rs := [2]) (by kernel_rfl) (by simp) ?_
        refine AllReadyH.cons (opsS (opsS ops0)) (fun K hK => ?_) AllReadyH.nil
        go_simp
        refine (isKey_any _ _ Z0.out).mono ?_; rw [hKK.out]; rintro e w' ⟨rfl, rfl⟩
        try dsimp only
        refine hK.out _ _ ?_ (fun hHelda1 => ?_)
        · (first | assumption | exact XP.drew (by assumption) | (go_split_ands; exact XP.drew (by assumption)) | (go_split_ands; exact XP.step (by assumption) (by assumption)))
        clear hK K hHelda0
        try clear hb
        try simp only [Act.put, List.setIfInBounds_toArray, List.set_cons_zero, List.set_cons_succ]
        refine wpAnyH_take (i := 3) (v := ?va3) (opsS (opsS (opsS ops0))) (by kernel_rfl) (by kernel_rfl) (by kernel_rfl) (fun _ _ _ h => h) (Or.inl ⟨by rfl, ?ya3⟩) hHelda1 ?_
        case ya3 => (intro w hSw; (try dsimp only at hSw); go_simp; try (with_reducible rfl))
        try simp only [Act.put, List.setIfInBounds_toArray, List.set_cons_zero, List.set_cons_succ]
        refine wpAnyH_take (i := 4) (v := ?va4) (opsS (opsS (opsS (opsS ops0)))) (by kernel_rfl) (by kernel_rfl) (by kernel_rfl) (fun _ _ _ h => h) (Or.inl ⟨by rfl, ?ya4⟩) hHelda1 ?_
        case ya4 => (intro w hSw; (try dsimp only at hSw); go_simp; try (with_reducible rfl))
        try simp only [Act.put, List.setIfInBounds_toArray, List.set_cons_zero, List.set_cons_succ]
        refine wpAnyH_take (i := 5) (v := undef) (opsS (opsS (opsS (opsS (opsS ops0))))) (by kernel_rfl) (by kernel_rfl) (by kernel_rfl) (fun _ _ _ h => h) (Or.inr ⟨by rfl, rfl⟩) hHelda1 ?_
        try simp only [Act.put, List.setIfInBounds_toArray, List.set_cons_zero, List.set_cons_succ]
        refine wpAnyH_take (i := 6) (v := undef) (opsS (opsS (opsS (opsS (opsS (opsS ops0)))))) (by kernel_rfl) (by kernel_rfl) (by kernel_rfl) (fun _ _ _ h => h) (Or.inr ⟨by rfl, rfl⟩) hHelda1 ?_
        try simp only [Act.put, List.setIfInBounds_toArray, List.set_cons_zero, List.set_cons_succ]
        refine wpAnyH_take (i := 7) (v := undef) (opsS (opsS (opsS (opsS (opsS (opsS (opsS ops0))))))) (by kernel_rfl) (by kernel_rfl) (by kernel_rfl) (fun _ _ _ h => h) (Or.inr ⟨by rfl, rfl⟩) hHelda1 ?_
        try simp only [Act.put, List.setIfInBounds_toArray, List.set_cons_zero, List.set_cons_succ]
        refine wpAnyH_take (i := 8) (v := undef) (opsS (opsS (opsS (opsS (opsS (opsS (opsS (opsS ops0)))))))) (by kernel_rfl) (by kernel_rfl) (by kernel_rfl) (fun _ _ _ h => h) (Or.inr ⟨by rfl, rfl⟩) hHelda1 ?_
        try simp only [Act.put, List.setIfInBounds_toArray, List.set_cons_zero, List.set_cons_succ]
        refine wpAnyH_take (i := 9) (v := ?va9) (opsS (opsS (opsS (opsS (opsS (opsS (opsS (opsS (opsS ops0))))))))) (by kernel_rfl) (by kernel_rfl) (by kernel_rfl) (fun _ _ _ h => h) (Or.inl ⟨by rfl, ?ya9⟩) hHelda1 ?_
        case ya9 => (intro w hSw; (try dsimp only at hSw); go_simp; try (with_reducible rfl))
        try simp only [Act.put, List.setIfInBounds_toArray, List.set_cons_zero, List.set_cons_succ]
        refine wpAnyH_take (i := 10) (v := ?va10) (opsS (opsS (opsS (opsS (opsS (opsS (opsS (opsS (opsS (opsS ops0)))))))))) (by kernel_rfl) (by kernel_rfl) (by kernel_rfl) (fun _ _ _ h => h) (Or.inl ⟨by rfl, ?ya10⟩) hHelda1 ?_
        case ya10 => (intro w hSw; (try dsimp only at hSw); go_simp; try (with_reducible rfl))
        try simp only [Act.put, List.setIfInBounds_toArray, List.set_cons_zero, List.set_cons_succ]
        refine wpAnyH_take (i := 11) (v := undef) (opsS (opsS (opsS (opsS (opsS (opsS (opsS (opsS (opsS (opsS (opsS ops0))))))))))) (by kernel_rfl) (by kernel_rfl) (by kernel_rfl) (fun _ _ _ h => h) (Or.inr ⟨by rfl, rfl⟩) hHelda1 ?_
        try simp only [Act.put, List.setIfInBounds_toArray, List.set_cons_zero, List.set_cons_succ]
        refine wpAnyH_take (i := 12) (v := undef) (opsS (opsS (opsS (opsS (opsS (opsS (opsS (opsS (opsS (opsS (opsS (opsS ops0)))))))))))) (by kernel_rfl) (by kernel_rfl) (by kernel_rfl) (fun _ _ _ h => h) (Or.inr ⟨by rfl, rfl⟩) hHelda1 ?_
        try simp only [Act.put, List.setIfInBounds_toArray, List.set_cons_zero, List.set_cons_succ]
        refine wpAnyH_take (i := 13) (v := undef) (opsS (opsS (opsS (opsS (opsS (opsS (opsS (opsS (opsS (opsS (opsS (opsS (opsS ops0))))))))))))) (by kernel_rfl) (by kernel_rfl) (by kernel_rfl) (fun _ _ _ h => h) (Or.inr ⟨by rfl, rfl⟩) hHelda1 ?_
        try simp only [Act.put, List.setIfInBounds_toArray, List.set_cons_zero, List.set_cons_succ]
        refine wpAnyH_take (i := 14) (v := undef) (opsS (opsS (opsS (opsS (opsS (opsS (opsS (opsS (opsS (opsS (opsS (opsS (opsS (opsS ops0)))))))))))))) (by kernel_rfl) (by kernel_rfl) (by kernel_rfl) (fun _ _ _ h => h) (Or.inr ⟨by rfl, rfl⟩) hHelda1 ?_
        try simp only [Act.put, List.setIfInBounds_toArray, List.set_cons_zero, List.set_cons_succ]
        refine wpAnyH_take (i := 15) (v := undef) (opsS (opsS (opsS (opsS (opsS (opsS (opsS (opsS (opsS (opsS (opsS (opsS (opsS (opsS (opsS ops0))))))))))))))) (by kernel_rfl) (by kernel_rfl) (by kernel_rfl) (fun _ _ _ h => h) (Or.inr ⟨by rfl, rfl⟩) hHelda1 ?_
        try simp only [Act.put, List.setIfInBounds_toArray, List.set_cons_zero, List.set_cons_succ]
        refine wpAnyH_take (i := 16) (v := undef) (opsS (opsS (opsS (opsS (opsS (opsS (opsS (opsS (opsS (opsS (opsS (opsS (opsS (opsS (opsS (opsS ops0)))))))))))))))) (by kernel_rfl) (by kernel_rfl) (by kernel_rfl) (fun _ _ _ h => h) (Or.inr ⟨by rfl, rfl⟩) hHelda1 ?_
        try simp only [Act.put, List.setIfInBounds_toArray, List.set_cons_zero, List.set_cons_succ]
        refine wpAnyH_take (i := 17) (v := undef) (opsS (opsS (opsS (opsS (opsS (opsS (opsS (opsS (opsS (opsS (opsS (opsS (opsS (opsS (opsS (opsS (opsS ops0))))))))))))))))) (by kernel_rfl) (by kernel_rfl) (by kernel_rfl) (fun _ _ _ h => h) (Or.inr ⟨by rfl, rfl⟩) hHelda1 ?_
        try simp only [Act.put, List.setIfInBounds_toArray, List.set_cons_zero, List.set_cons_succ]
        refine wpAnyH_take (i := 18) (v := undef) (opsS (opsS (opsS (opsS (opsS (opsS (opsS (opsS (opsS (opsS (opsS (opsS (opsS (opsS (opsS (opsS (opsS (opsS ops0)))))))))))))))))) (by kernel_rfl) (by kernel_rfl) (by kernel_rfl) (fun _ _ _ h => h) (Or.inr ⟨by rfl, rfl⟩) hHelda1 ?_
        try simp only [Act.put, List.setIfInBounds_toArray, List.set_cons_zero, List.set_cons_succ]
        refine wpAnyH_take (i := 19) (v := undef) (opsS (opsS (opsS (opsS (opsS (opsS (opsS (opsS (opsS (opsS (opsS (opsS (opsS (opsS (opsS (opsS (opsS (opsS (opsS ops0))))))))))))))))))) (by kernel_rfl) (by kernel_rfl) (by kernel_rfl) (fun _ _ _ h => h) (Or.inr ⟨by rfl, rfl⟩) hHelda1 ?_
        try simp only [Act.put, List.setIfInBounds_toArray, List.set_cons_zero, List.set_cons_succ]
        refine wpAnyH_take (i := 20) (v := undef) (opsS (opsS (opsS (opsS (opsS (opsS (opsS (opsS (opsS (opsS (opsS (opsS (opsS (opsS (opsS (opsS (opsS (opsS (opsS (opsS ops0)))))))))))))))))))) (by kernel_rfl) (by kernel_rfl) (by kernel_rfl) (fun _ _ _ h => h) (Or.inr ⟨by rfl, rfl⟩) hHelda1 ?_
        try simp only [Act.put, List.setIfInBounds_toArray, List.set_cons_zero, List.set_cons_succ]
        refine wpAnyH_take (i := 21) (v := undef) (opsS (opsS (opsS (opsS (opsS (opsS (opsS (opsS (opsS (opsS (opsS (opsS (opsS (opsS (opsS (opsS (opsS (opsS (opsS (opsS (opsS ops0))))))))))))))))))))) (by kernel_rfl) (by kernel_rfl) (by kernel_rfl) (fun _ _ _ h => h) (Or.inr ⟨by rfl, rfl⟩) hHelda1 ?_
        try simp only [Act.put, List.setIfInBounds_toArray, List.set_cons_zero, List.set_cons_succ]
        refine wpAnyH_take (i := 22) (v := undef) (opsS (opsS (opsS (opsS (opsS (opsS (opsS (opsS (opsS (opsS (opsS (opsS (opsS (opsS (opsS (opsS (opsS (opsS (opsS (opsS (opsS (opsS ops0)))))))))))))))))))))) (by kernel_rfl) (by kernel_rfl) (by kernel_rfl) (fun _ _ _ h => h) (Or.inr ⟨by rfl, rfl⟩) hHelda1 ?_
        try simp only [Act.put, List.setIfInBounds_toArray, List.set_cons_zero, List.set_cons_succ]
        refine wpAnyH_take (i := 23) (v := undef) (opsS (opsS (opsS (opsS (opsS (opsS (opsS (opsS (opsS (opsS (opsS (opsS (opsS (opsS (opsS (opsS (opsS (opsS (opsS (opsS (opsS (opsS (opsS ops0))))))))))))))))))))))) (by kernel_rfl) (by kernel_rfl) (by kernel_rfl) (fun _ _ _ h => h) (Or.inr ⟨by rfl, rfl⟩) hHelda1 ?_
        try simp only [Act.put, List.setIfInBounds_toArray, List.set_cons_zero, List.set_cons_succ]
        refine wpAnyH_take (i := 24) (v := ?va24) (opsS (opsS (opsS (opsS (opsS (opsS (opsS (opsS (opsS (opsS (opsS (opsS (opsS (opsS (opsS (opsS (opsS (opsS (opsS (opsS (opsS (opsS (opsS (opsS ops0)))))))))))))))))))))))) (by kernel_rfl) (by kernel_rfl) (by kernel_rfl) (fun _ _ _ h => h) (Or.inl ⟨by rfl, ?ya24⟩) hHelda1 ?_
        case ya24 => (intro w hSw; (try dsimp only at hSw); go_simp; try (with_reducible rfl))
        try simp only [Act.put, List.setIfInBounds_toArray, List.set_cons_zero, List.set_cons_succ]
        refine wpAnyH_done (by kernel_rfl) ?_ _
        have HL := Lib.hid (hlow.out.trans (hHelda1.2.2.2.2.2.low.mono hz))
        clear hHelda1 test
        go_wp2
        go_ret
        exact ⟨reg.ret_int (by rw [hN.out]), HL.out⟩
      | true =>
        have hKK := Lib.hid hik
        by_cases hm : Rg.may ⟨n, b, v⟩
        · have hCC := Lib.hid (check_ok hm)
          by_cases hk0 : k = 0
          · have hN := Lib.hid (hnx.out (by rw [hoe.out, hik, decide_eq_true hm, decide_eq_true hk0]; rfl))
            have hgt : decide ((0 : Int) < k) = false := by simp; omega
            have hgt2 : decide (0 < k) = false := by simp; omega
            have test := XP.drew hxp
            clear hik hm z0 z1 z2 hno hnx hoe hprev hxp hk0
            go_wp2_with fail
            refine wp_region_held_drew (S := (fun w' => w'.cell? ⟨wr.heap.size, 0, none⟩ = some (.string kk) ∧ w'.cell? ⟨wr.heap.size, 1, none⟩ = some (.int .i64 n) ∧ w'.cell? ⟨wr.heap.size, 2, none⟩ = some (.string b) ∧ w'.cell? ⟨wr.heap.size, 3, none⟩ = some (.string v) ∧ w'.cell? (ad.add (k * 4)) = some (.string kk) ∧ Hid (XP wr 38 kk n b v (ad.add (k * 4)) (.string kk) w'))) (by kernel_rfl) ?_ (fun hHeldc0 => ?_)
            · exact test
            refine wpAnyH_take (i := 0) (v := ?vc0) ops0 (by kernel_rfl) (by kernel_rfl) (by kernel_rfl) (fun _ _ _ h => h) (Or.inl ⟨by rfl, ?yc0⟩) hHeldc0 ?_
            case yc0 => (intro w hSw; (try dsimp only at hSw); go_simp; try (with_reducible rfl))
            try simp only [Act.put, List.setIfInBounds_toArray, List.set_cons_zero, List.set_cons_succ]
            refine wpAnyH_take (i := 1) (v := ?vc1) (opsS ops0) (by kernel_rfl) (by kernel_rfl) (by kernel_rfl) (fun _ _ _ h => h) (Or.inl ⟨by rfl, ?yc1⟩) hHeldc0 ?_
            case yc1 => (intro w hSw; (try dsimp only at hSw); go_simp; try (with_reducible rfl))
            try simp only [Act.put, List.setIfInBounds_toArray, List.set_cons_zero, List.set_cons_succ]
            refine wpAnyH_ready (rs := [2]) (by kernel_rfl) (by simp) ?_
            refine AllReadyH.cons (opsS (opsS ops0)) (fun K hK => ?_) AllReadyH.nil
            go_simp
            refine (isKey_any _ _ Z0.out).mono ?_; rw [hKK.out]; rintro e w' ⟨rfl, rfl⟩
            try dsimp only
            refine hK.out _ _ ?_ (fun hHeldc1 => ?_)
            · (first | assumption | exact XP.drew (by assumption) | (go_split_ands; exact XP.drew (by assumption)) | (go_split_ands; exact XP.step (by assumption) (by assumption)))
            clear hK K hHeldc0
            try clear hb
            try simp only [Act.put, List.setIfInBounds_toArray, List.set_cons_zero, List.set_cons_succ]
            refine wpAnyH_take (i := 3) (v := ?vc3) (opsS (opsS (opsS ops0))) (by kernel_rfl) (by kernel_rfl) (by kernel_rfl) (fun _ _ _ h => h) (Or.inl ⟨by rfl, ?yc3⟩) hHeldc1 ?_
            case yc3 => (intro w hSw; (try dsimp only at hSw); go_simp; try (with_reducible rfl))
            try simp only [Act.put, List.setIfInBounds_toArray, List.set_cons_zero, List.set_cons_succ]
            refine wpAnyH_take (i := 4) (v := ?vc4) (opsS (opsS (opsS (opsS ops0)))) (by kernel_rfl) (by kernel_rfl) (by kernel_rfl) (fun _ _ _ h => h) (Or.inl ⟨by rfl, ?yc4⟩) hHeldc1 ?_
            case yc4 => (intro w hSw; (try dsimp only at hSw); go_simp; try (with_reducible rfl))
            try simp only [Act.put, List.setIfInBounds_toArray, List.set_cons_zero, List.set_cons_succ]
            refine wpAnyH_take (i := 5) (v := ?vc5) (opsS (opsS (opsS (opsS (opsS ops0))))) (by kernel_rfl) (by kernel_rfl) (by kernel_rfl) (fun _ _ _ h => h) (Or.inl ⟨by rfl, ?yc5⟩) hHeldc1 ?_
            case yc5 => (intro w hSw; (try dsimp only at hSw); go_simp; try (with_reducible rfl))
            try simp only [Act.put, List.setIfInBounds_toArray, List.set_cons_zero, List.set_cons_succ]
            refine wpAnyH_take (i := 6) (v := ?vc6) (opsS (opsS (opsS (opsS (opsS (opsS ops0)))))) (by kernel_rfl) (by kernel_rfl) (by kernel_rfl) (fun _ _ _ h => h) (Or.inl ⟨by rfl, ?yc6⟩) hHeldc1 ?_
            case yc6 => (intro w hSw; (try dsimp only at hSw); go_simp; try (with_reducible rfl))
            try simp only [Act.put, List.setIfInBounds_toArray, List.set_cons_zero, List.set_cons_succ]
            refine wpAnyH_ready (rs := [7]) (by kernel_rfl) (by simp) ?_
            refine AllReadyH.cons (opsS (opsS (opsS (opsS (opsS (opsS (opsS ops0))))))) (fun K hK => ?_) AllReadyH.nil
            go_simp
            refine (check_any ⟨n, b, v⟩ _ Z1.out Z2.out).mono ?_; rw [hCC.out]; rintro e w' ⟨rfl, hb⟩
            try dsimp only
            refine hK.out _ _ ?_ (fun hHeldc2 => ?_)
            · (first | assumption | exact XP.drew (by assumption) | (go_split_ands; exact XP.drew (by assumption)) | (go_split_ands; exact XP.step (by assumption) (by assumption)))
            clear hK K hHeldc1
            try clear hb
            try simp only [Act.put, List.setIfInBounds_toArray, List.set_cons_zero, List.set_cons_succ]
            refine wpAnyH_take (i := 8) (v := ?vc8) (opsS (opsS (opsS (opsS (opsS (opsS (opsS (opsS ops0)))))))) (by kernel_rfl) (by kernel_rfl) (by kernel_rfl) (fun _ _ _ h => h) (Or.inl ⟨by rfl, ?yc8⟩) hHeldc2 ?_
            case yc8 => (intro w hSw; (try dsimp only at hSw); go_simp; try (with_reducible rfl))
            try simp only [Act.put, List.setIfInBounds_toArray, List.set_cons_zero, List.set_cons_succ]
            refine wpAnyH_take (i := 9) (v := ?vc9) (opsS (opsS (opsS (opsS (opsS (opsS (opsS (opsS (opsS ops0))))))))) (by kernel_rfl) (by kernel_rfl) (by kernel_rfl) (fun _ _ _ h => h) (Or.inl ⟨by rfl, ?yc9⟩) hHeldc2 ?_
            case yc9 => (intro w hSw; (try dsimp only at hSw); go_simp; try (with_reducible rfl))
            try simp only [Act.put, List.setIfInBounds_toArray, List.set_cons_zero, List.set_cons_succ]
            refine wpAnyH_take (i := 10) (v := ?vc10) (opsS (opsS (opsS (opsS (opsS (opsS (opsS (opsS (opsS (opsS ops0)))))))))) (by kernel_rfl) (by kernel_rfl) (by kernel_rfl) (fun _ _ _ h => h) (Or.inl ⟨by rfl, ?yc10⟩) hHeldc2 ?_
            case yc10 => (intro w hSw; (try dsimp only at hSw); go_simp; try (with_reducible rfl))
            try simp only [Act.put, List.setIfInBounds_toArray, List.set_cons_zero, List.set_cons_succ]
            refine wpAnyH_take (i := 11) (v := ?vc11) (opsS (opsS (opsS (opsS (opsS (opsS (opsS (opsS (opsS (opsS (opsS ops0))))))))))) (by kernel_rfl) (by kernel_rfl) (by kernel_rfl) (fun _ _ _ h => h) (Or.inl ⟨by rfl, ?yc11⟩) hHeldc2 ?_
            case yc11 => (intro w hSw; (try dsimp only at hSw); go_simp; try (with_reducible rfl))
            try simp only [Act.put, List.setIfInBounds_toArray, List.set_cons_zero, List.set_cons_succ]
            refine wpAnyH_take (i := 12) (v := ?vc12) (opsS (opsS (opsS (opsS (opsS (opsS (opsS (opsS (opsS (opsS (opsS (opsS ops0)))))))))))) (by kernel_rfl) (by kernel_rfl) (by kernel_rfl) (fun _ _ _ h => h) (Or.inl ⟨by rfl, ?yc12⟩) hHeldc2 ?_
            case yc12 => (intro w hSw; (try dsimp only at hSw); go_simp; try (with_reducible rfl))
            try simp only [Act.put, List.setIfInBounds_toArray, List.set_cons_zero, List.set_cons_succ]
            refine wpAnyH_take (i := 13) (v := ?vc13) (opsS (opsS (opsS (opsS (opsS (opsS (opsS (opsS (opsS (opsS (opsS (opsS (opsS ops0))))))))))))) (by kernel_rfl) (by kernel_rfl) (by kernel_rfl) (fun _ _ _ h => h) (Or.inl ⟨by rfl, ?yc13⟩) hHeldc2 ?_
            case yc13 => (intro w hSw; (try dsimp only at hSw); go_simp; try (with_reducible rfl))
            try simp only [Act.put, List.setIfInBounds_toArray, List.set_cons_zero, List.set_cons_succ]
            refine wpAnyH_take (i := 14) (v := undef) (opsS (opsS (opsS (opsS (opsS (opsS (opsS (opsS (opsS (opsS (opsS (opsS (opsS (opsS ops0)))))))))))))) (by kernel_rfl) (by kernel_rfl) (by kernel_rfl) (fun _ _ _ h => h) (Or.inr ⟨by rfl, rfl⟩) hHeldc2 ?_
            try simp only [Act.put, List.setIfInBounds_toArray, List.set_cons_zero, List.set_cons_succ]
            refine wpAnyH_take (i := 15) (v := undef) (opsS (opsS (opsS (opsS (opsS (opsS (opsS (opsS (opsS (opsS (opsS (opsS (opsS (opsS (opsS ops0))))))))))))))) (by kernel_rfl) (by kernel_rfl) (by kernel_rfl) (fun _ _ _ h => h) (Or.inr ⟨by rfl, rfl⟩) hHeldc2 ?_
            try simp only [Act.put, List.setIfInBounds_toArray, List.set_cons_zero, List.set_cons_succ]
            refine wpAnyH_take (i := 16) (v := undef) (opsS (opsS (opsS (opsS (opsS (opsS (opsS (opsS (opsS (opsS (opsS (opsS (opsS (opsS (opsS (opsS ops0)))))))))))))))) (by kernel_rfl) (by kernel_rfl) (by kernel_rfl) (fun _ _ _ h => h) (Or.inr ⟨by rfl, rfl⟩) hHeldc2 ?_
            try simp only [Act.put, List.setIfInBounds_toArray, List.set_cons_zero, List.set_cons_succ]
            refine wpAnyH_take (i := 17) (v := undef) (opsS (opsS (opsS (opsS (opsS (opsS (opsS (opsS (opsS (opsS (opsS (opsS (opsS (opsS (opsS (opsS (opsS ops0))))))))))))))))) (by kernel_rfl) (by kernel_rfl) (by kernel_rfl) (fun _ _ _ h => h) (Or.inr ⟨by rfl, rfl⟩) hHeldc2 ?_
            try simp only [Act.put, List.setIfInBounds_toArray, List.set_cons_zero, List.set_cons_succ]
            refine wpAnyH_take (i := 18) (v := undef) (opsS (opsS (opsS (opsS (opsS (opsS (opsS (opsS (opsS (opsS (opsS (opsS (opsS (opsS (opsS (opsS (opsS (opsS ops0)))))))))))))))))) (by kernel_rfl) (by kernel_rfl) (by kernel_rfl) (fun _ _ _ h => h) (Or.inr ⟨by rfl, rfl⟩) hHeldc2 ?_
            try simp only [Act.put, List.setIfInBounds_toArray, List.set_cons_zero, List.set_cons_succ]
            refine wpAnyH_take (i := 19) (v := undef) (opsS (opsS (opsS (opsS (opsS (opsS (opsS (opsS (opsS (opsS (opsS (opsS (opsS (opsS (opsS (opsS (opsS (opsS (opsS ops0))))))))))))))))))) (by kernel_rfl) (by kernel_rfl) (by kernel_rfl) (fun _ _ _ h => h) (Or.inr ⟨by rfl, rfl⟩) hHeldc2 ?_
            try simp only [Act.put, List.setIfInBounds_toArray, List.set_cons_zero, List.set_cons_succ]
            refine wpAnyH_take (i := 20) (v := undef) (opsS (opsS (opsS (opsS (opsS (opsS (opsS (opsS (opsS (opsS (opsS (opsS (opsS (opsS (opsS (opsS (opsS (opsS (opsS (opsS ops0)))))))))))))))))))) (by kernel_rfl) (by kernel_rfl) (by kernel_rfl) (fun _ _ _ h => h) (Or.inr ⟨by rfl, rfl⟩) hHeldc2 ?_
            try simp only [Act.put, List.setIfInBounds_toArray, List.set_cons_zero, List.set_cons_succ]
            refine wpAnyH_take (i := 21) (v := undef) (opsS (opsS (opsS (opsS (opsS (opsS (opsS (opsS (opsS (opsS (opsS (opsS (opsS (opsS (opsS (opsS (opsS (opsS (opsS (opsS (opsS ops0))))))))))))))))))))) (by kernel_rfl) (by kernel_rfl) (by kernel_rfl) (fun _ _ _ h => h) (Or.inr ⟨by rfl, rfl⟩) hHeldc2 ?_
            try simp only [Act.put, List.setIfInBounds_toArray, List.set_cons_zero, List.set_cons_succ]
            refine wpAnyH_take (i := 22) (v := undef) (opsS (opsS (opsS (opsS (opsS (opsS (opsS (opsS (opsS (opsS (opsS (opsS (opsS (opsS (opsS (opsS (opsS (opsS (opsS (opsS (opsS (opsS ops0)))))))))))))))))))))) (by kernel_rfl) (by kernel_rfl) (by kernel_rfl) (fun _ _ _ h => h) (Or.inr ⟨by rfl, rfl⟩) hHeldc2 ?_
            try simp only [Act.put, List.setIfInBounds_toArray, List.set_cons_zero, List.set_cons_succ]
            refine wpAnyH_take (i := 23) (v := ?vc23) (opsS (opsS (opsS (opsS (opsS (opsS (opsS (opsS (opsS (opsS (opsS (opsS (opsS (opsS (opsS (opsS (opsS (opsS (opsS (opsS (opsS (opsS (opsS ops0))))))))))))))))))))))) (by kernel_rfl) (by kernel_rfl) (by kernel_rfl) (fun _ _ _ h => h) (Or.inl ⟨by rfl, ?yc23⟩) hHeldc2 ?_
            case yc23 => (intro w hSw; (try dsimp only at hSw); go_simp; try (with_reducible rfl))
            try simp only [Act.put, List.setIfInBounds_toArray, List.set_cons_zero, List.set_cons_succ]
            refine wpAnyH_take (i := 24) (v := ?vc24) (opsS (opsS (opsS (opsS (opsS (opsS (opsS (opsS (opsS (opsS (opsS (opsS (opsS (opsS (opsS (opsS (opsS (opsS (opsS (opsS (opsS (opsS (opsS (opsS ops0)))))))))))))))))))))))) (by kernel_rfl) (by kernel_rfl) (by kernel_rfl) (fun _ _ _ h => h) (Or.inl ⟨by rfl, ?yc24⟩) hHeldc2 ?_
            case yc24 => (intro w hSw; (try dsimp only at hSw); go_simp; try (with_reducible rfl))
            try simp only [Act.put, List.setIfInBounds_toArray, List.set_cons_zero, List.set_cons_succ]
            refine wpAnyH_done (by kernel_rfl) ?_ _
            have HL := Lib.hid (hlow.out.trans (hHeldc2.2.2.2.2.2.low.mono hz))
            clear hHeldc2 test hlow
            go_wp2
            go_roundw
            case rel => exact ⟨k + 1, by omega, by go_num, hN, HL⟩
            case measure => simp [intOf]; omega
          · have hp2 := hprev.out (by omega)
            have hzp : (ad.add ((k - 1) * 4)).block < wr.heap.size := by rw [block_of_add]; omega
            have hxp2 := XP.new wr 38 kk n b v hp2 hzp
            have hk1 : 1 ≤ k := by omega
            have hgt : decide ((0 : Int) < k) = true := by simp; omega
            have hgt2 : decide (0 < k) = true := by simp; omega
            have hi0 : (0 : Int) ≤ k - 1 := by omega
            have hi1 : (k : Int) - 1 < rs.length := by omega
            have hi2 : ((k : Int) - 1).toNat = k - 1 := by omega
            have hi3 : IntKind.i64.wrap ((k : Int) - 1) = (k : Int) - 1 := IntWalk.i64_in _ (by omega)
            have hi4 : (1 : Int) ≤ k := by omega
            cases hl : lt pe.key kk with
            | true =>
              have hN := Lib.hid (hnx.out (by rw [hoe.out, hik, decide_eq_true hm, hl]; simp))
              have hbl : Op.bytesLess pe.key.toList kk.toList = true := hl
              have test := XP.drew hxp2
              clear hik hm z0 z1 z2 hno hnx hoe hprev hxp hxp2 hl hk0
              go_wp2_with fail
              refine wp_region_held_drew (S := (fun w' => w'.cell? ⟨wr.heap.size, 0, none⟩ = some (.string kk) ∧ w'.cell? ⟨wr.heap.size, 1, none⟩ = some (.int .i64 n) ∧ w'.cell? ⟨wr.heap.size, 2, none⟩ = some (.string b) ∧ w'.cell? ⟨wr.heap.size, 3, none⟩ = some (.string v) ∧ w'.cell? (ad.add ((k - 1) * 4)) = some (.string pe.key) ∧ Hid (XP wr 38 kk n b v (ad.add ((k - 1) * 4)) (.string pe.key) w'))) (by kernel_rfl) ?_ (fun hHeldd0 => ?_)
              · exact test
              refine wpAnyH_take (i := 0) (v := ?vd0) ops0 (by kernel_rfl) (by kernel_rfl) (by kernel_rfl) (fun _ _ _ h => h) (Or.inl ⟨by rfl, ?yd0⟩) hHeldd0 ?_
              case yd0 => (intro w hSw; (try dsimp only at hSw); go_simp; try (with_reducible rfl))
              try simp only [Act.put, List.setIfInBounds_toArray, List.set_cons_zero, List.set_cons_succ]
              refine wpAnyH_take (i := 1) (v := ?vd1) (opsS ops0) (by kernel_rfl) (by kernel_rfl) (by kernel_rfl) (fun _ _ _ h => h) (Or.inl ⟨by rfl, ?yd1⟩) hHeldd0 ?_
              case yd1 => (intro w hSw; (try dsimp only at hSw); go_simp; try (with_reducible rfl))
              try simp only [Act.put, List.setIfInBounds_toArray, List.set_cons_zero, List.set_cons_succ]
              refine wpAnyH_ready (rs := [2]) (by kernel_rfl) (by simp) ?_
              refine AllReadyH.cons (opsS (opsS ops0)) (fun K hK => ?_) AllReadyH.nil
              go_simp
              refine (isKey_any _ _ Z0.out).mono ?_; rw [hKK.out]; rintro e w' ⟨rfl, rfl⟩
              try dsimp only
              refine hK.out _ _ ?_ (fun hHeldd1 => ?_)
              · (first | assumption | exact XP.drew (by assumption) | (go_split_ands; exact XP.drew (by assumption)) | (go_split_ands; exact XP.step (by assumption) (by assumption)))
              clear hK K hHeldd0
              try clear hb
              try simp only [Act.put, List.setIfInBounds_toArray, List.set_cons_zero, List.set_cons_succ]
              refine wpAnyH_take (i := 3) (v := ?vd3) (opsS (opsS (opsS ops0))) (by kernel_rfl) (by kernel_rfl) (by kernel_rfl) (fun _ _ _ h => h) (Or.inl ⟨by rfl, ?yd3⟩) hHeldd1 ?_
              case yd3 => (intro w hSw; (try dsimp only at hSw); go_simp; try (with_reducible rfl))
              try simp only [Act.put, List.setIfInBounds_toArray, List.set_cons_zero, List.set_cons_succ]
              refine wpAnyH_take (i := 4) (v := ?vd4) (opsS (opsS (opsS (opsS ops0)))) (by kernel_rfl) (by kernel_rfl) (by kernel_rfl) (fun _ _ _ h => h) (Or.inl ⟨by rfl, ?yd4⟩) hHeldd1 ?_
              case yd4 => (intro w hSw; (try dsimp only at hSw); go_simp; try (with_reducible rfl))
              try simp only [Act.put, List.setIfInBounds_toArray, List.set_cons_zero, List.set_cons_succ]
              refine wpAnyH_take (i := 5) (v := ?vd5) (opsS (opsS (opsS (opsS (opsS ops0))))) (by kernel_rfl) (by kernel_rfl) (by kernel_rfl) (fun _ _ _ h => h) (Or.inl ⟨by rfl, ?yd5⟩) hHeldd1 ?_
              case yd5 => (intro w hSw; (try dsimp only at hSw); go_simp; try (with_reducible rfl))
              try simp only [Act.put, List.setIfInBounds_toArray, List.set_cons_zero, List.set_cons_succ]
              refine wpAnyH_take (i := 6) (v := ?vd6) (opsS (opsS (opsS (opsS (opsS (opsS ops0)))))) (by kernel_rfl) (by kernel_rfl) (by kernel_rfl) (fun _ _ _ h => h) (Or.inl ⟨by rfl, ?yd6⟩) hHeldd1 ?_
              case yd6 => (intro w hSw; (try dsimp only at hSw); go_simp; try (with_reducible rfl))
              try simp only [Act.put, List.setIfInBounds_toArray, List.set_cons_zero, List.set_cons_succ]
              refine wpAnyH_ready (rs := [7]) (by kernel_rfl) (by simp) ?_
              refine AllReadyH.cons (opsS (opsS (opsS (opsS (opsS (opsS (opsS ops0))))))) (fun K hK => ?_) AllReadyH.nil
              go_simp
              refine (check_any ⟨n, b, v⟩ _ Z1.out Z2.out).mono ?_; rw [hCC.out]; rintro e w' ⟨rfl, hb⟩
              try dsimp only
              refine hK.out _ _ ?_ (fun hHeldd2 => ?_)
              · (first | assumption | exact XP.drew (by assumption) | (go_split_ands; exact XP.drew (by assumption)) | (go_split_ands; exact XP.step (by assumption) (by assumption)))
              clear hK K hHeldd1
              try clear hb
              try simp only [Act.put, List.setIfInBounds_toArray, List.set_cons_zero, List.set_cons_succ]
              refine wpAnyH_take (i := 8) (v := ?vd8) (opsS (opsS (opsS (opsS (opsS (opsS (opsS (opsS ops0)))))))) (by kernel_rfl) (by kernel_rfl) (by kernel_rfl) (fun _ _ _ h => h) (Or.inl ⟨by rfl, ?yd8⟩) hHeldd2 ?_
              case yd8 => (intro w hSw; (try dsimp only at hSw); go_simp; try (with_reducible rfl))
              try simp only [Act.put, List.setIfInBounds_toArray, List.set_cons_zero, List.set_cons_succ]
              refine wpAnyH_take (i := 9) (v := ?vd9) (opsS (opsS (opsS (opsS (opsS (opsS (opsS (opsS (opsS ops0))))))))) (by kernel_rfl) (by kernel_rfl) (by kernel_rfl) (fun _ _ _ h => h) (Or.inl ⟨by rfl, ?yd9⟩) hHeldd2 ?_
              case yd9 => (intro w hSw; (try dsimp only at hSw); go_simp; try (with_reducible rfl))
              try simp only [Act.put, List.setIfInBounds_toArray, List.set_cons_zero, List.set_cons_succ]
              refine wpAnyH_take (i := 10) (v := ?vd10) (opsS (opsS (opsS (opsS (opsS (opsS (opsS (opsS (opsS (opsS ops0)))))))))) (by kernel_rfl) (by kernel_rfl) (by kernel_rfl) (fun _ _ _ h => h) (Or.inl ⟨by rfl, ?yd10⟩) hHeldd2 ?_
              case yd10 => (intro w hSw; (try dsimp only at hSw); go_simp; try (with_reducible rfl))
              try simp only [Act.put, List.setIfInBounds_toArray, List.set_cons_zero, List.set_cons_succ]
              refine wpAnyH_take (i := 11) (v := ?vd11) (opsS (opsS (opsS (opsS (opsS (opsS (opsS (opsS (opsS (opsS (opsS ops0))))))))))) (by kernel_rfl) (by kernel_rfl) (by kernel_rfl) (fun _ _ _ h => h) (Or.inl ⟨by rfl, ?yd11⟩) hHeldd2 ?_
              case yd11 => (intro w hSw; (try dsimp only at hSw); go_simp; try (with_reducible rfl))
              try simp only [Act.put, List.setIfInBounds_toArray, List.set_cons_zero, List.set_cons_succ]
              refine wpAnyH_take (i := 12) (v := ?vd12) (opsS (opsS (opsS (opsS (opsS (opsS (opsS (opsS (opsS (opsS (opsS (opsS ops0)))))))))))) (by kernel_rfl) (by kernel_rfl) (by kernel_rfl) (fun _ _ _ h => h) (Or.inl ⟨by rfl, ?yd12⟩) hHeldd2 ?_
              case yd12 => (intro w hSw; (try dsimp only at hSw); go_simp; try (with_reducible rfl))
              try simp only [Act.put, List.setIfInBounds_toArray, List.set_cons_zero, List.set_cons_succ]
              refine wpAnyH_take (i := 13) (v := ?vd13) (opsS (opsS (opsS (opsS (opsS (opsS (opsS (opsS (opsS (opsS (opsS (opsS (opsS ops0))))))))))))) (by kernel_rfl) (by kernel_rfl) (by kernel_rfl) (fun _ _ _ h => h) (Or.inl ⟨by rfl, ?yd13⟩) hHeldd2 ?_
              case yd13 => (intro w hSw; (try dsimp only at hSw); go_simp; try (with_reducible rfl))
              try simp only [Act.put, List.setIfInBounds_toArray, List.set_cons_zero, List.set_cons_succ]
              refine wpAnyH_take (i := 14) (v := ?vd14) (opsS (opsS (opsS (opsS (opsS (opsS (opsS (opsS (opsS (opsS (opsS (opsS (opsS (opsS ops0)))))))))))))) (by kernel_rfl) (by kernel_rfl) (by kernel_rfl) (fun _ _ _ h => h) (Or.inl ⟨by rfl, ?yd14⟩) hHeldd2 ?_
              case yd14 => (intro w hSw; (try dsimp only at hSw); go_simp; try (with_reducible rfl))
              try simp only [Act.put, List.setIfInBounds_toArray, List.set_cons_zero, List.set_cons_succ]
              refine wpAnyH_take (i := 15) (v := ?vd15) (opsS (opsS (opsS (opsS (opsS (opsS (opsS (opsS (opsS (opsS (opsS (opsS (opsS (opsS (opsS ops0))))))))))))))) (by kernel_rfl) (by kernel_rfl) (by kernel_rfl) (fun _ _ _ h => h) (Or.inl ⟨by rfl, ?yd15⟩) hHeldd2 ?_
              case yd15 => (intro w hSw; (try dsimp only at hSw); go_simp; try (with_reducible rfl))
              try simp only [Act.put, List.setIfInBounds_toArray, List.set_cons_zero, List.set_cons_succ]
              refine wpAnyH_take (i := 16) (v := ?vd16) (opsS (opsS (opsS (opsS (opsS (opsS (opsS (opsS (opsS (opsS (opsS (opsS (opsS (opsS (opsS (opsS ops0)))))))))))))))) (by kernel_rfl) (by kernel_rfl) (by kernel_rfl) (fun _ _ _ h => h) (Or.inl ⟨by rfl, ?yd16⟩) hHeldd2 ?_
              case yd16 => (intro w hSw; (try dsimp only at hSw); go_simp; try (with_reducible rfl))
              try simp only [Act.put, List.setIfInBounds_toArray, List.set_cons_zero, List.set_cons_succ]
              refine wpAnyH_take (i := 17) (v := ?vd17) (opsS (opsS (opsS (opsS (opsS (opsS (opsS (opsS (opsS (opsS (opsS (opsS (opsS (opsS (opsS (opsS (opsS ops0))))))))))))))))) (by kernel_rfl) (by kernel_rfl) (by kernel_rfl) (fun _ _ _ h => h) (Or.inl ⟨by rfl, ?yd17⟩) hHeldd2 ?_
              case yd17 => (intro w hSw; (try dsimp only at hSw); go_simp; try (with_reducible rfl))
              try simp only [Act.put, List.setIfInBounds_toArray, List.set_cons_zero, List.set_cons_succ]
              refine wpAnyH_take (i := 18) (v := ?vd18) (opsS (opsS (opsS (opsS (opsS (opsS (opsS (opsS (opsS (opsS (opsS (opsS (opsS (opsS (opsS (opsS (opsS (opsS ops0)))))))))))))))))) (by kernel_rfl) (by kernel_rfl) (by kernel_rfl) (fun _ _ _ h => h) (Or.inl ⟨by rfl, ?yd18⟩) hHeldd2 ?_
              case yd18 => (intro w hSw; (try dsimp only at hSw); go_simp; try (with_reducible rfl))
              try simp only [Act.put, List.setIfInBounds_toArray, List.set_cons_zero, List.set_cons_succ]
              refine wpAnyH_take (i := 19) (v := ?vd19) (opsS (opsS (opsS (opsS (opsS (opsS (opsS (opsS (opsS (opsS (opsS (opsS (opsS (opsS (opsS (opsS (opsS (opsS (opsS ops0))))))))))))))))))) (by kernel_rfl) (by kernel_rfl) (by kernel_rfl) (fun _ _ _ h => h) (Or.inl ⟨by rfl, ?yd19⟩) hHeldd2 ?_
              case yd19 => (intro w hSw; (try dsimp only at hSw); go_simp; try (with_reducible rfl))
              try simp only [Act.put, List.setIfInBounds_toArray, List.set_cons_zero, List.set_cons_succ]
              refine wpAnyH_take (i := 20) (v := ?vd20) (opsS (opsS (opsS (opsS (opsS (opsS (opsS (opsS (opsS (opsS (opsS (opsS (opsS (opsS (opsS (opsS (opsS (opsS (opsS (opsS ops0)))))))))))))))))))) (by kernel_rfl) (by kernel_rfl) (by kernel_rfl) (fun _ _ _ h => h) (Or.inl ⟨by rfl, ?yd20⟩) hHeldd2 ?_
              case yd20 => (intro w hSw; (try dsimp only at hSw); go_simp; try (with_reducible rfl))
              try simp only [Act.put, List.setIfInBounds_toArray, List.set_cons_zero, List.set_cons_succ]
              refine wpAnyH_take (i := 21) (v := ?vd21) (opsS (opsS (opsS (opsS (opsS (opsS (opsS (opsS (opsS (opsS (opsS (opsS (opsS (opsS (opsS (opsS (opsS (opsS (opsS (opsS (opsS ops0))))))))))))))))))))) (by kernel_rfl) (by kernel_rfl) (by kernel_rfl) (fun _ _ _ h => h) (Or.inl ⟨by rfl, ?yd21⟩) hHeldd2 ?_
              case yd21 => (intro w hSw; (try dsimp only at hSw); go_simp; try (with_reducible rfl))
              try simp only [Act.put, List.setIfInBounds_toArray, List.set_cons_zero, List.set_cons_succ]
              refine wpAnyH_take (i := 22) (v := ?vd22) (opsS (opsS (opsS (opsS (opsS (opsS (opsS (opsS (opsS (opsS (opsS (opsS (opsS (opsS (opsS (opsS (opsS (opsS (opsS (opsS (opsS (opsS ops0)))))))))))))))))))))) (by kernel_rfl) (by kernel_rfl) (by kernel_rfl) (fun _ _ _ h => h) (Or.inl ⟨by rfl, ?yd22⟩) hHeldd2 ?_
              case yd22 => (intro w hSw; (try dsimp only at hSw); go_simp; try (with_reducible rfl))
              try simp only [Act.put, List.setIfInBounds_toArray, List.set_cons_zero, List.set_cons_succ]
              refine wpAnyH_take (i := 23) (v := ?vd23) (opsS (opsS (opsS (opsS (opsS (opsS (opsS (opsS (opsS (opsS (opsS (opsS (opsS (opsS (opsS (opsS (opsS (opsS (opsS (opsS (opsS (opsS (opsS ops0))))))))))))))))))))))) (by kernel_rfl) (by kernel_rfl) (by kernel_rfl) (fun _ _ _ h => h) (Or.inl ⟨by rfl, ?yd23⟩) hHeldd2 ?_
              case yd23 => (intro w hSw; (try dsimp only at hSw); go_simp; try (with_reducible rfl))
              try simp only [Act.put, List.setIfInBounds_toArray, List.set_cons_zero, List.set_cons_succ]
              refine wpAnyH_take (i := 24) (v := ?vd24) (opsS (opsS (opsS (opsS (opsS (opsS (opsS (opsS (opsS (opsS (opsS (opsS (opsS (opsS (opsS (opsS (opsS (opsS (opsS (opsS (opsS (opsS (opsS (opsS ops0)))))))))))))))))))))))) (by kernel_rfl) (by kernel_rfl) (by kernel_rfl) (fun _ _ _ h => h) (Or.inl ⟨by rfl, ?yd24⟩) hHeldd2 ?_
              case yd24 => (intro w hSw; (try dsimp only at hSw); go_simp; try (with_reducible rfl))
              try simp only [Act.put, List.setIfInBounds_toArray, List.set_cons_zero, List.set_cons_succ]
              refine wpAnyH_done (by kernel_rfl) ?_ _
              have HL := Lib.hid (hlow.out.trans (hHeldd2.2.2.2.2.2.low.mono hz))
              clear hHeldd2 test hlow
              go_wp2
              go_roundw
              case rel => exact ⟨k + 1, by omega, by go_num, hN, HL⟩
              case measure => simp [intOf]; omega
            | false =>
              have hN := Lib.hid (hno.out (by rw [hoe.out, hl]; simp [hk0]))
              have hbl : Op.bytesLess pe.key.toList kk.toList = false := hl
              have test := XP.drew hxp2
              clear hik hm z0 z1 z2 hno hnx hoe hprev hxp hxp2 hl hk0
              go_wp2_with fail
              refine wp_region_held_drew (S := (fun w' => w'.cell? ⟨wr.heap.size, 0, none⟩ = some (.string kk) ∧ w'.cell? ⟨wr.heap.size, 1, none⟩ = some (.int .i64 n) ∧ w'.cell? ⟨wr.heap.size, 2, none⟩ = some (.string b) ∧ w'.cell? ⟨wr.heap.size, 3, none⟩ = some (.string v) ∧ w'.cell? (ad.add ((k - 1) * 4)) = some (.string pe.key) ∧ Hid (XP wr 38 kk n b v (ad.add ((k - 1) * 4)) (.string pe.key) w'))) (by kernel_rfl) ?_ (fun hHelde0 => ?_)
              · exact test
              refine wpAnyH_take (i := 0) (v := ?ve0) ops0 (by kernel_rfl) (by kernel_rfl) (by kernel_rfl) (fun _ _ _ h => h) (Or.inl ⟨by rfl, ?ye0⟩) hHelde0 ?_
              case ye0 => (intro w hSw; (try dsimp only at hSw); go_simp; try (with_reducible rfl))
              try simp only [Act.put, List.setIfInBounds_toArray, List.set_cons_zero, List.set_cons_succ]
              refine wpAnyH_take (i := 1) (v := ?ve1) (opsS ops0) (by kernel_rfl) (by kernel_rfl) (by kernel_rfl) (fun _ _ _ h => h) (Or.inl ⟨by rfl, ?ye1⟩) hHelde0 ?_
              case ye1 => (intro w hSw; (try dsimp only at hSw); go_simp; try (with_reducible rfl))
              try simp only [Act.put, List.setIfInBounds_toArray, List.set_cons_zero, List.set_cons_succ]
              refine wpAnyH_ready (rs := [2]) (by kernel_rfl) (by simp) ?_
              refine AllReadyH.cons (opsS (opsS ops0)) (fun K hK => ?_) AllReadyH.nil
              go_simp
              refine (isKey_any _ _ Z0.out).mono ?_; rw [hKK.out]; rintro e w' ⟨rfl, rfl⟩
              try dsimp only
              refine hK.out _ _ ?_ (fun hHelde1 => ?_)
              · (first | assumption | exact XP.drew (by assumption) | (go_split_ands; exact XP.drew (by assumption)) | (go_split_ands; exact XP.step (by assumption) (by assumption)))
              clear hK K hHelde0
              try clear hb
              try simp only [Act.put, List.setIfInBounds_toArray, List.set_cons_zero, List.set_cons_succ]
              refine wpAnyH_take (i := 3) (v := ?ve3) (opsS (opsS (opsS ops0))) (by kernel_rfl) (by kernel_rfl) (by kernel_rfl) (fun _ _ _ h => h) (Or.inl ⟨by rfl, ?ye3⟩) hHelde1 ?_
              case ye3 => (intro w hSw; (try dsimp only at hSw); go_simp; try (with_reducible rfl))
              try simp only [Act.put, List.setIfInBounds_toArray, List.set_cons_zero, List.set_cons_succ]
              refine wpAnyH_take (i := 4) (v := ?ve4) (opsS (opsS (opsS (opsS ops0)))) (by kernel_rfl) (by kernel_rfl) (by kernel_rfl) (fun _ _ _ h => h) (Or.inl ⟨by rfl, ?ye4⟩) hHelde1 ?_
              case ye4 => (intro w hSw; (try dsimp only at hSw); go_simp; try (with_reducible rfl))
              try simp only [Act.put, List.setIfInBounds_toArray, List.set_cons_zero, List.set_cons_succ]
              refine wpAnyH_take (i := 5) (v := ?ve5) (opsS (opsS (opsS (opsS (opsS ops0))))) (by kernel_rfl) (by kernel_rfl) (by kernel_rfl) (fun _ _ _ h => h) (Or.inl ⟨by rfl, ?ye5⟩) hHelde1 ?_
              case ye5 => (intro w hSw; (try dsimp only at hSw); go_simp; try (with_reducible rfl))
              try simp only [Act.put, List.setIfInBounds_toArray, List.set_cons_zero, List.set_cons_succ]
              refine wpAnyH_take (i := 6) (v := ?ve6) (opsS (opsS (opsS (opsS (opsS (opsS ops0)))))) (by kernel_rfl) (by kernel_rfl) (by kernel_rfl) (fun _ _ _ h => h) (Or.inl ⟨by rfl, ?ye6⟩) hHelde1 ?_
              case ye6 => (intro w hSw; (try dsimp only at hSw); go_simp; try (with_reducible rfl))
              try simp only [Act.put, List.setIfInBounds_toArray, List.set_cons_zero, List.set_cons_succ]
              refine wpAnyH_ready (rs := [7]) (by kernel_rfl) (by simp) ?_
              refine AllReadyH.cons (opsS (opsS (opsS (opsS (opsS (opsS (opsS ops0))))))) (fun K hK => ?_) AllReadyH.nil
              go_simp
              refine (check_any ⟨n, b, v⟩ _ Z1.out Z2.out).mono ?_; rw [hCC.out]; rintro e w' ⟨rfl, hb⟩
              try dsimp only
              refine hK.out _ _ ?_ (fun hHelde2 => ?_)
              · (first | assumption | exact XP.drew (by assumption) | (go_split_ands; exact XP.drew (by assumption)) | (go_split_ands; exact XP.step (by assumption) (by assumption)))
              clear hK K hHelde1
              try clear hb
              try simp only [Act.put, List.setIfInBounds_toArray, List.set_cons_zero, List.set_cons_succ]
              refine wpAnyH_take (i := 8) (v := ?ve8) (opsS (opsS (opsS (opsS (opsS (opsS (opsS (opsS ops0)))))))) (by kernel_rfl) (by kernel_rfl) (by kernel_rfl) (fun _ _ _ h => h) (Or.inl ⟨by rfl, ?ye8⟩) hHelde2 ?_
              case ye8 => (intro w hSw; (try dsimp only at hSw); go_simp; try (with_reducible rfl))
              try simp only [Act.put, List.setIfInBounds_toArray, List.set_cons_zero, List.set_cons_succ]
              refine wpAnyH_take (i := 9) (v := ?ve9) (opsS (opsS (opsS (opsS (opsS (opsS (opsS (opsS (opsS ops0))))))))) (by kernel_rfl) (by kernel_rfl) (by kernel_rfl) (fun _ _ _ h => h) (Or.inl ⟨by rfl, ?ye9⟩) hHelde2 ?_
              case ye9 => (intro w hSw; (try dsimp only at hSw); go_simp; try (with_reducible rfl))
              try simp only [Act.put, List.setIfInBounds_toArray, List.set_cons_zero, List.set_cons_succ]
              refine wpAnyH_take (i := 10) (v := ?ve10) (opsS (opsS (opsS (opsS (opsS (opsS (opsS (opsS (opsS (opsS ops0)))))))))) (by kernel_rfl) (by kernel_rfl) (by kernel_rfl) (fun _ _ _ h => h) (Or.inl ⟨by rfl, ?ye10⟩) hHelde2 ?_
              case ye10 => (intro w hSw; (try dsimp only at hSw); go_simp; try (with_reducible rfl))
              try simp only [Act.put, List.setIfInBounds_toArray, List.set_cons_zero, List.set_cons_succ]
              refine wpAnyH_take (i := 11) (v := ?ve11) (opsS (opsS (opsS (opsS (opsS (opsS (opsS (opsS (opsS (opsS (opsS ops0))))))))))) (by kernel_rfl) (by kernel_rfl) (by kernel_rfl) (fun _ _ _ h => h) (Or.inl ⟨by rfl, ?ye11⟩) hHelde2 ?_
              case ye11 => (intro w hSw; (try dsimp only at hSw); go_simp; try (with_reducible rfl))
              try simp only [Act.put, List.setIfInBounds_toArray, List.set_cons_zero, List.set_cons_succ]
              refine wpAnyH_take (i := 12) (v := ?ve12) (opsS (opsS (opsS (opsS (opsS (opsS (opsS (opsS (opsS (opsS (opsS (opsS ops0)))))))))))) (by kernel_rfl) (by kernel_rfl) (by kernel_rfl) (fun _ _ _ h => h) (Or.inl ⟨by rfl, ?ye12⟩) hHelde2 ?_
              case ye12 => (intro w hSw; (try dsimp only at hSw); go_simp; try (with_reducible rfl))
              try simp only [Act.put, List.setIfInBounds_toArray, List.set_cons_zero, List.set_cons_succ]
              refine wpAnyH_take (i := 13) (v := ?ve13) (opsS (opsS (opsS (opsS (opsS (opsS (opsS (opsS (opsS (opsS (opsS (opsS (opsS ops0))))))))))))) (by kernel_rfl) (by kernel_rfl) (by kernel_rfl) (fun _ _ _ h => h) (Or.inl ⟨by rfl, ?ye13⟩) hHelde2 ?_
              case ye13 => (intro w hSw; (try dsimp only at hSw); go_simp; try (with_reducible rfl))
              try simp only [Act.put, List.setIfInBounds_toArray, List.set_cons_zero, List.set_cons_succ]
              refine wpAnyH_take (i := 14) (v := ?ve14) (opsS (opsS (opsS (opsS (opsS (opsS (opsS (opsS (opsS (opsS (opsS (opsS (opsS (opsS ops0)))))))))))))) (by kernel_rfl) (by kernel_rfl) (by kernel_rfl) (fun _ _ _ h => h) (Or.inl ⟨by rfl, ?ye14⟩) hHelde2 ?_
              case ye14 => (intro w hSw; (try dsimp only at hSw); go_simp; try (with_reducible rfl))
              try simp only [Act.put, List.setIfInBounds_toArray, List.set_cons_zero, List.set_cons_succ]
              refine wpAnyH_take (i := 15) (v := ?ve15) (opsS (opsS (opsS (opsS (opsS (opsS (opsS (opsS (opsS (opsS (opsS (opsS (opsS (opsS (opsS ops0))))))))))))))) (by kernel_rfl) (by kernel_rfl) (by kernel_rfl) (fun _ _ _ h => h) (Or.inl ⟨by rfl, ?ye15⟩) hHelde2 ?_
              case ye15 => (intro w hSw; (try dsimp only at hSw); go_simp; try (with_reducible rfl))
              try simp only [Act.put, List.setIfInBounds_toArray, List.set_cons_zero, List.set_cons_succ]
              refine wpAnyH_take (i := 16) (v := ?ve16) (opsS (opsS (opsS (opsS (opsS (opsS (opsS (opsS (opsS (opsS (opsS (opsS (opsS (opsS (opsS (opsS ops0)))))))))))))))) (by kernel_rfl) (by kernel_rfl) (by kernel_rfl) (fun _ _ _ h => h) (Or.inl ⟨by rfl, ?ye16⟩) hHelde2 ?_
              case ye16 => (intro w hSw; (try dsimp only at hSw); go_simp; try (with_reducible rfl))
              try simp only [Act.put, List.setIfInBounds_toArray, List.set_cons_zero, List.set_cons_succ]
              refine wpAnyH_take (i := 17) (v := ?ve17) (opsS (opsS (opsS (opsS (opsS (opsS (opsS (opsS (opsS (opsS (opsS (opsS (opsS (opsS (opsS (opsS (opsS ops0))))))))))))))))) (by kernel_rfl) (by kernel_rfl) (by kernel_rfl) (fun _ _ _ h => h) (Or.inl ⟨by rfl, ?ye17⟩) hHelde2 ?_
              case ye17 => (intro w hSw; (try dsimp only at hSw); go_simp; try (with_reducible rfl))
              try simp only [Act.put, List.setIfInBounds_toArray, List.set_cons_zero, List.set_cons_succ]
              refine wpAnyH_take (i := 18) (v := ?ve18) (opsS (opsS (opsS (opsS (opsS (opsS (opsS (opsS (opsS (opsS (opsS (opsS (opsS (opsS (opsS (opsS (opsS (opsS ops0)))))))))))))))))) (by kernel_rfl) (by kernel_rfl) (by kernel_rfl) (fun _ _ _ h => h) (Or.inl ⟨by rfl, ?ye18⟩) hHelde2 ?_
              case ye18 => (intro w hSw; (try dsimp only at hSw); go_simp; try (with_reducible rfl))
              try simp only [Act.put, List.setIfInBounds_toArray, List.set_cons_zero, List.set_cons_succ]
              refine wpAnyH_take (i := 19) (v := ?ve19) (opsS (opsS (opsS (opsS (opsS (opsS (opsS (opsS (opsS (opsS (opsS (opsS (opsS (opsS (opsS (opsS (opsS (opsS (opsS ops0))))))))))))))))))) (by kernel_rfl) (by kernel_rfl) (by kernel_rfl) (fun _ _ _ h => h) (Or.inl ⟨by rfl, ?ye19⟩) hHelde2 ?_
              case ye19 => (intro w hSw; (try dsimp only at hSw); go_simp; try (with_reducible rfl))
              try simp only [Act.put, List.setIfInBounds_toArray, List.set_cons_zero, List.set_cons_succ]
              refine wpAnyH_take (i := 20) (v := ?ve20) (opsS (opsS (opsS (opsS (opsS (opsS (opsS (opsS (opsS (opsS (opsS (opsS (opsS (opsS (opsS (opsS (opsS (opsS (opsS (opsS ops0)))))))))))))))))))) (by kernel_rfl) (by kernel_rfl) (by kernel_rfl) (fun _ _ _ h => h) (Or.inl ⟨by rfl, ?ye20⟩) hHelde2 ?_
              case ye20 => (intro w hSw; (try dsimp only at hSw); go_simp; try (with_reducible rfl))
              try simp only [Act.put, List.setIfInBounds_toArray, List.set_cons_zero, List.set_cons_succ]
              refine wpAnyH_take (i := 21) (v := ?ve21) (opsS (opsS (opsS (opsS (opsS (opsS (opsS (opsS (opsS (opsS (opsS (opsS (opsS (opsS (opsS (opsS (opsS (opsS (opsS (opsS (opsS ops0))))))))))))))))))))) (by kernel_rfl) (by kernel_rfl) (by kernel_rfl) (fun _ _ _ h => h) (Or.inl ⟨by rfl, ?ye21⟩) hHelde2 ?_
              case ye21 => (intro w hSw; (try dsimp only at hSw); go_simp; try (with_reducible rfl))
              try simp only [Act.put, List.setIfInBounds_toArray, List.set_cons_zero, List.set_cons_succ]
              refine wpAnyH_take (i := 22) (v := ?ve22) (opsS (opsS (opsS (opsS (opsS (opsS (opsS (opsS (opsS (opsS (opsS (opsS (opsS (opsS (opsS (opsS (opsS (opsS (opsS (opsS (opsS (opsS ops0)))))))))))))))))))))) (by kernel_rfl) (by kernel_rfl) (by kernel_rfl) (fun _ _ _ h => h) (Or.inl ⟨by rfl, ?ye22⟩) hHelde2 ?_
              case ye22 => (intro w hSw; (try dsimp only at hSw); go_simp; try (with_reducible rfl))
              try simp only [Act.put, List.setIfInBounds_toArray, List.set_cons_zero, List.set_cons_succ]
              refine wpAnyH_take (i := 23) (v := ?ve23) (opsS (opsS (opsS (opsS (opsS (opsS (opsS (opsS (opsS (opsS (opsS (opsS (opsS (opsS (opsS (opsS (opsS (opsS (opsS (opsS (opsS (opsS (opsS ops0))))))))))))))))))))))) (by kernel_rfl) (by kernel_rfl) (by kernel_rfl) (fun _ _ _ h => h) (Or.inl ⟨by rfl, ?ye23⟩) hHelde2 ?_
              case ye23 => (intro w hSw; (try dsimp only at hSw); go_simp; try (with_reducible rfl))
              try simp only [Act.put, List.setIfInBounds_toArray, List.set_cons_zero, List.set_cons_succ]
              refine wpAnyH_take (i := 24) (v := ?ve24) (opsS (opsS (opsS (opsS (opsS (opsS (opsS (opsS (opsS (opsS (opsS (opsS (opsS (opsS (opsS (opsS (opsS (opsS (opsS (opsS (opsS (opsS (opsS (opsS ops0)))))))))))))))))))))))) (by kernel_rfl) (by kernel_rfl) (by kernel_rfl) (fun _ _ _ h => h) (Or.inl ⟨by rfl, ?ye24⟩) hHelde2 ?_
              case ye24 => (intro w hSw; (try dsimp only at hSw); go_simp; try (with_reducible rfl))
              try simp only [Act.put, List.setIfInBounds_toArray, List.set_cons_zero, List.set_cons_succ]
              refine wpAnyH_done (by kernel_rfl) ?_ _
              have HL := Lib.hid (hlow.out.trans (hHelde2.2.2.2.2.2.low.mono hz))
              clear hHelde2 test hlow
              go_wp2
              go_ret
              exact ⟨reg.ret_int (by rw [hN.out]), HL.out⟩
        · have hCC := Lib.hid (check_bad hm)
          have hN := Lib.hid (hno.out (by rw [hoe.out, decide_eq_false hm]; simp))
          have test := XP.drew hxp
          clear hik hm z0 z1 z2 hno hnx hoe hprev hxp
          go_wp2_with fail
          refine wp_region_held_drew (S := (fun w' => w'.cell? ⟨wr.heap.size, 0, none⟩ = some (.string kk) ∧ w'.cell? ⟨wr.heap.size, 1, none⟩ = some (.int .i64 n) ∧ w'.cell? ⟨wr.heap.size, 2, none⟩ = some (.string b) ∧ w'.cell? ⟨wr.heap.size, 3, none⟩ = some (.string v) ∧ w'.cell? (ad.add (k * 4)) = some (.string kk) ∧ Hid (XP wr 38 kk n b v (ad.add (k * 4)) (.string kk) w'))) (by kernel_rfl) ?_ (fun hHeldb0 => ?_)
          · exact test
          refine wpAnyH_take (i := 0) (v := ?vb0) ops0 (by kernel_rfl) (by kernel_rfl) (by kernel_rfl) (fun _ _ _ h => h) (Or.inl ⟨by rfl, ?yb0⟩) hHeldb0 ?_
          case yb0 => (intro w hSw; (try dsimp only at hSw); go_simp; try (with_reducible rfl))
          try simp only [Act.put, List.setIfInBounds_toArray, List.set_cons_zero, List.set_cons_succ]
          refine wpAnyH_take (i := 1) (v := ?vb1) (opsS ops0) (by kernel_rfl) (by kernel_rfl) (by kernel_rfl) (fun _ _ _ h => h) (Or.inl ⟨by rfl, ?yb1⟩) hHeldb0 ?_
          case yb1 => (intro w hSw; (try dsimp only at hSw); go_simp; try (with_reducible rfl))
          try simp only [Act.put, List.setIfInBounds_toArray, List.set_cons_zero, List.set_cons_succ]
          refine wpAnyH_ready (rs := [2]) (by kernel_rfl) (by simp) ?_
          refine AllReadyH.cons (opsS (opsS ops0)) (fun K hK => ?_) AllReadyH.nil
          go_simp
          refine (isKey_any _ _ Z0.out).mono ?_; rw [hKK.out]; rintro e w' ⟨rfl, rfl⟩
          try dsimp only
          refine hK.out _ _ ?_ (fun hHeldb1 => ?_)
          · (first | assumption | exact XP.drew (by assumption) | (go_split_ands; exact XP.drew (by assumption)) | (go_split_ands; exact XP.step (by assumption) (by assumption)))
          clear hK K hHeldb0
          try clear hb
          try simp only [Act.put, List.setIfInBounds_toArray, List.set_cons_zero, List.set_cons_succ]
          refine wpAnyH_take (i := 3) (v := ?vb3) (opsS (opsS (opsS ops0))) (by kernel_rfl) (by kernel_rfl) (by kernel_rfl) (fun _ _ _ h => h) (Or.inl ⟨by rfl, ?yb3⟩) hHeldb1 ?_
          case yb3 => (intro w hSw; (try dsimp only at hSw); go_simp; try (with_reducible rfl))
          try simp only [Act.put, List.setIfInBounds_toArray, List.set_cons_zero, List.set_cons_succ]
          refine wpAnyH_take (i := 4) (v := ?vb4) (opsS (opsS (opsS (opsS ops0)))) (by kernel_rfl) (by kernel_rfl) (by kernel_rfl) (fun _ _ _ h => h) (Or.inl ⟨by rfl, ?yb4⟩) hHeldb1 ?_
          case yb4 => (intro w hSw; (try dsimp only at hSw); go_simp; try (with_reducible rfl))
          try simp only [Act.put, List.setIfInBounds_toArray, List.set_cons_zero, List.set_cons_succ]
          refine wpAnyH_take (i := 5) (v := ?vb5) (opsS (opsS (opsS (opsS (opsS ops0))))) (by kernel_rfl) (by kernel_rfl) (by kernel_rfl) (fun _ _ _ h => h) (Or.inl ⟨by rfl, ?yb5⟩) hHeldb1 ?_
          case yb5 => (intro w hSw; (try dsimp only at hSw); go_simp; try (with_reducible rfl))
          try simp only [Act.put, List.setIfInBounds_toArray, List.set_cons_zero, List.set_cons_succ]
          refine wpAnyH_take (i := 6) (v := ?vb6) (opsS (opsS (opsS (opsS (opsS (opsS ops0)))))) (by kernel_rfl) (by kernel_rfl) (by kernel_rfl) (fun _ _ _ h => h) (Or.inl ⟨by rfl, ?yb6⟩) hHeldb1 ?_
          case yb6 => (intro w hSw; (try dsimp only at hSw); go_simp; try (with_reducible rfl))
          try simp only [Act.put, List.setIfInBounds_toArray, List.set_cons_zero, List.set_cons_succ]
          refine wpAnyH_ready (rs := [7]) (by kernel_rfl) (by simp) ?_
          refine AllReadyH.cons (opsS (opsS (opsS (opsS (opsS (opsS (opsS ops0))))))) (fun K hK => ?_) AllReadyH.nil
          go_simp
          refine (check_any ⟨n, b, v⟩ _ Z1.out Z2.out).mono ?_; rw [hCC.out]; rintro e w' ⟨rfl, hb⟩
          try dsimp only
          refine hK.out _ _ ?_ (fun hHeldb2 => ?_)
          · (first | assumption | exact XP.drew (by assumption) | (go_split_ands; exact XP.drew (by assumption)) | (go_split_ands; exact XP.step (by assumption) (by assumption)))
          clear hK K hHeldb1
          try clear hb
          try simp only [Act.put, List.setIfInBounds_toArray, List.set_cons_zero, List.set_cons_succ]
          refine wpAnyH_take (i := 8) (v := ?vb8) (opsS (opsS (opsS (opsS (opsS (opsS (opsS (opsS ops0)))))))) (by kernel_rfl) (by kernel_rfl) (by kernel_rfl) (fun _ _ _ h => h) (Or.inl ⟨by rfl, ?yb8⟩) hHeldb2 ?_
          case yb8 => (intro w hSw; (try dsimp only at hSw); go_simp; try (with_reducible rfl))
          try simp only [Act.put, List.setIfInBounds_toArray, List.set_cons_zero, List.set_cons_succ]
          refine wpAnyH_take (i := 9) (v := ?vb9) (opsS (opsS (opsS (opsS (opsS (opsS (opsS (opsS (opsS ops0))))))))) (by kernel_rfl) (by kernel_rfl) (by kernel_rfl) (fun _ _ _ h => h) (Or.inl ⟨by rfl, ?yb9⟩) hHeldb2 ?_
          case yb9 => (intro w hSw; (try dsimp only at hSw); go_simp; try (with_reducible rfl))
          try simp only [Act.put, List.setIfInBounds_toArray, List.set_cons_zero, List.set_cons_succ]
          refine wpAnyH_take (i := 10) (v := ?vb10) (opsS (opsS (opsS (opsS (opsS (opsS (opsS (opsS (opsS (opsS ops0)))))))))) (by kernel_rfl) (by kernel_rfl) (by kernel_rfl) (fun _ _ _ h => h) (Or.inl ⟨by rfl, ?yb10⟩) hHeldb2 ?_
          case yb10 => (intro w hSw; (try dsimp only at hSw); go_simp; try (with_reducible rfl))
          try simp only [Act.put, List.setIfInBounds_toArray, List.set_cons_zero, List.set_cons_succ]
          refine wpAnyH_take (i := 11) (v := undef) (opsS (opsS (opsS (opsS (opsS (opsS (opsS (opsS (opsS (opsS (opsS ops0))))))))))) (by kernel_rfl) (by kernel_rfl) (by kernel_rfl) (fun _ _ _ h => h) (Or.inr ⟨by rfl, rfl⟩) hHeldb2 ?_
          try simp only [Act.put, List.setIfInBounds_toArray, List.set_cons_zero, List.set_cons_succ]
          refine wpAnyH_take (i := 12) (v := undef) (opsS (opsS (opsS (opsS (opsS (opsS (opsS (opsS (opsS (opsS (opsS (opsS ops0)))))))))))) (by kernel_rfl) (by kernel_rfl) (by kernel_rfl) (fun _ _ _ h => h) (Or.inr ⟨by rfl, rfl⟩) hHeldb2 ?_
          try simp only [Act.put, List.setIfInBounds_toArray, List.set_cons_zero, List.set_cons_succ]
          refine wpAnyH_take (i := 13) (v := undef) (opsS (opsS (opsS (opsS (opsS (opsS (opsS (opsS (opsS (opsS (opsS (opsS (opsS ops0))))))))))))) (by kernel_rfl) (by kernel_rfl) (by kernel_rfl) (fun _ _ _ h => h) (Or.inr ⟨by rfl, rfl⟩) hHeldb2 ?_
          try simp only [Act.put, List.setIfInBounds_toArray, List.set_cons_zero, List.set_cons_succ]
          refine wpAnyH_take (i := 14) (v := undef) (opsS (opsS (opsS (opsS (opsS (opsS (opsS (opsS (opsS (opsS (opsS (opsS (opsS (opsS ops0)))))))))))))) (by kernel_rfl) (by kernel_rfl) (by kernel_rfl) (fun _ _ _ h => h) (Or.inr ⟨by rfl, rfl⟩) hHeldb2 ?_
          try simp only [Act.put, List.setIfInBounds_toArray, List.set_cons_zero, List.set_cons_succ]
          refine wpAnyH_take (i := 15) (v := undef) (opsS (opsS (opsS (opsS (opsS (opsS (opsS (opsS (opsS (opsS (opsS (opsS (opsS (opsS (opsS ops0))))))))))))))) (by kernel_rfl) (by kernel_rfl) (by kernel_rfl) (fun _ _ _ h => h) (Or.inr ⟨by rfl, rfl⟩) hHeldb2 ?_
          try simp only [Act.put, List.setIfInBounds_toArray, List.set_cons_zero, List.set_cons_succ]
          refine wpAnyH_take (i := 16) (v := undef) (opsS (opsS (opsS (opsS (opsS (opsS (opsS (opsS (opsS (opsS (opsS (opsS (opsS (opsS (opsS (opsS ops0)))))))))))))))) (by kernel_rfl) (by kernel_rfl) (by kernel_rfl) (fun _ _ _ h => h) (Or.inr ⟨by rfl, rfl⟩) hHeldb2 ?_
          try simp only [Act.put, List.setIfInBounds_toArray, List.set_cons_zero, List.set_cons_succ]
          refine wpAnyH_take (i := 17) (v := undef) (opsS (opsS (opsS (opsS (opsS (opsS (opsS (opsS (opsS (opsS (opsS (opsS (opsS (opsS (opsS (opsS (opsS ops0))))))))))))))))) (by kernel_rfl) (by kernel_rfl) (by kernel_rfl) (fun _ _ _ h => h) (Or.inr ⟨by rfl, rfl⟩) hHeldb2 ?_
          try simp only [Act.put, List.setIfInBounds_toArray, List.set_cons_zero, List.set_cons_succ]
          refine wpAnyH_take (i := 18) (v := undef) (opsS (opsS (opsS (opsS (opsS (opsS (opsS (opsS (opsS (opsS (opsS (opsS (opsS (opsS (opsS (opsS (opsS (opsS ops0)))))))))))))))))) (by kernel_rfl) (by kernel_rfl) (by kernel_rfl) (fun _ _ _ h => h) (Or.inr ⟨by rfl, rfl⟩) hHeldb2 ?_
          try simp only [Act.put, List.setIfInBounds_toArray, List.set_cons_zero, List.set_cons_succ]
          refine wpAnyH_take (i := 19) (v := undef) (opsS (opsS (opsS (opsS (opsS (opsS (opsS (opsS (opsS (opsS (opsS (opsS (opsS (opsS (opsS (opsS (opsS (opsS (opsS ops0))))))))))))))))))) (by kernel_rfl) (by kernel_rfl) (by kernel_rfl) (fun _ _ _ h => h) (Or.inr ⟨by rfl, rfl⟩) hHeldb2 ?_
          try simp only [Act.put, List.setIfInBounds_toArray, List.set_cons_zero, List.set_cons_succ]
          refine wpAnyH_take (i := 20) (v := undef) (opsS (opsS (opsS (opsS (opsS (opsS (opsS (opsS (opsS (opsS (opsS (opsS (opsS (opsS (opsS (opsS (opsS (opsS (opsS (opsS ops0)))))))))))))))))))) (by kernel_rfl) (by kernel_rfl) (by kernel_rfl) (fun _ _ _ h => h) (Or.inr ⟨by rfl, rfl⟩) hHeldb2 ?_
          try simp only [Act.put, List.setIfInBounds_toArray, List.set_cons_zero, List.set_cons_succ]
          refine wpAnyH_take (i := 21) (v := undef) (opsS (opsS (opsS (opsS (opsS (opsS (opsS (opsS (opsS (opsS (opsS (opsS (opsS (opsS (opsS (opsS (opsS (opsS (opsS (opsS (opsS ops0))))))))))))))))))))) (by kernel_rfl) (by kernel_rfl) (by kernel_rfl) (fun _ _ _ h => h) (Or.inr ⟨by rfl, rfl⟩) hHeldb2 ?_
          try simp only [Act.put, List.setIfInBounds_toArray, List.set_cons_zero, List.set_cons_succ]
          refine wpAnyH_take (i := 22) (v := undef) (opsS (opsS (opsS (opsS (opsS (opsS (opsS (opsS (opsS (opsS (opsS (opsS (opsS (opsS (opsS (opsS (opsS (opsS (opsS (opsS (opsS (opsS ops0)))))))))))))))))))))) (by kernel_rfl) (by kernel_rfl) (by kernel_rfl) (fun _ _ _ h => h) (Or.inr ⟨by rfl, rfl⟩) hHeldb2 ?_
          try simp only [Act.put, List.setIfInBounds_toArray, List.set_cons_zero, List.set_cons_succ]
          refine wpAnyH_take (i := 23) (v := undef) (opsS (opsS (opsS (opsS (opsS (opsS (opsS (opsS (opsS (opsS (opsS (opsS (opsS (opsS (opsS (opsS (opsS (opsS (opsS (opsS (opsS (opsS (opsS ops0))))))))))))))))))))))) (by kernel_rfl) (by kernel_rfl) (by kernel_rfl) (fun _ _ _ h => h) (Or.inr ⟨by rfl, rfl⟩) hHeldb2 ?_
          try simp only [Act.put, List.setIfInBounds_toArray, List.set_cons_zero, List.set_cons_succ]
          refine wpAnyH_take (i := 24) (v := ?vb24) (opsS (opsS (opsS (opsS (opsS (opsS (opsS (opsS (opsS (opsS (opsS (opsS (opsS (opsS (opsS (opsS (opsS (opsS (opsS (opsS (opsS (opsS (opsS (opsS ops0)))))))))))))))))))))))) (by kernel_rfl) (by kernel_rfl) (by kernel_rfl) (fun _ _ _ h => h) (Or.inl ⟨by rfl, ?yb24⟩) hHeldb2 ?_
          case yb24 => (intro w hSw; (try dsimp only at hSw); go_simp; try (with_reducible rfl))
          try simp only [Act.put, List.setIfInBounds_toArray, List.set_cons_zero, List.set_cons_succ]
          refine wpAnyH_done (by kernel_rfl) ?_ _
          have HL := Lib.hid (hlow.out.trans (hHeldb2.2.2.2.2.2.low.mono hz))
          clear hHeldb2 test
          go_wp2
          go_ret
          exact ⟨reg.ret_int (by rw [hN.out]), HL.out⟩
    · have hN := Lib.hid (chk_ok (may_yes (by omega) (fun j hj => hI.out j (by omega))))
      go_wp2
      go_ret
      exact ⟨ret_int (by rw [hN.out]), hlow.out⟩
end Go.Proofs.YtjbompimlopdiaaGreatDoor.rgy
