/- The walk of RateKept. -/
import Derived.Test.YtajbennbgjbpeabK
import Derived.Laws.BitsAllLaws
import Derived.Maps.AppendAt
namespace Go.Proofs.Ytajbennbgjbpeab.rate
open Go.ChangeShapes Go.WideShapes Go.ChangeAt Go.RowKit Go.Proofs.Aid
theorem cells5 (rs : List R5) : rs.flatMap R5.cells = rs.map fun r => Value.int .u8 r.v := by
  induction rs with
  | nil => rfl
  | cons r rs ih => rw [List.flatMap_cons, ih]; rfl
theorem info3 : (Try.prog.info? 3).map (fun i => (i.zero, i.size, i.bytes)) = some (some (.int .i64 0), 1, 8) := by kernel_rfl
def TS (w : World) (base : Nat) (v : Value) (ts : List Int) : Prop := w.ownsRow base 3 1 v ts.length (ts.map (Value.int .i64))
structure Rel (W : World) (B : Nat) (r burst : Int) (k : Nat) (b : Bk) (t : Int) (ts : List Int) (now tv : Value) (wr : World) : Prop where
  good : Good r burst k b t ts
  now : now = .int .i64 t
  bk : Blk wr B 23 #[.int .i64 b.left, .int .i64 b.at_]
  own : TS wr (B + 1) tv ts
  low : Below W.heap.size W wr
  hB : W.heap.size ≤ B
theorem u8_low (x : Int) (h0 : 0 ≤ x) (h1 : x ≤ 255) : bits .and .u8 x 15 = x % 16 := by
  obtain ⟨m, rfl⟩ := Int.eq_ofNat_of_zero_le h0
  have := u8_and_nat m 15 (by omega) (by omega)
  rw [nat_mask4] at this
  rw [show (15 : Int) = ((15 : Nat) : Int) from rfl]
  exact this.trans (by omega)
theorem elem {W : World} {rs : List R5} (hok : ∀ x ∈ rs, x.ok W) {k : Nat} (hk : k < rs.length) {u : Value} (hu : (rs.flatMap R5.cells)[k]? = some u) : ∃ x : Int, 0 ≤ x ∧ x ≤ 255 ∧ u = .int .u8 x := by
  rw [cells5, List.getElem?_map, List.getElem?_eq_getElem hk] at hu
  simp at hu
  have h := hok rs[k] (List.getElem_mem hk)
  unfold R5.ok at h
  have h' : 0 ≤ rs[k].v ∧ rs[k].v ≤ 255 := by simpa [Lit.wf, IntKind.min, IntKind.max, IntKind.signed, IntKind.bits] using h
  exact ⟨_, h'.1, h'.2, hu.symm⟩
theorem ts_below {w w2 : World} {base : Nat} {v : Value} {ts : List Int} (h : TS w base v ts) (hb : Below w.heap.size w w2) : TS w2 base v ts := by
  cases e : v.ownBlock with
  | none => exact World.ownsRow.kept h (only_of_below hb none) (.inl e)
  | some g => exact World.ownsRow.kept h (only_of_below hb none) (.inr (by rw [e]; simp))
theorem clamp_max {l b : Int} (h : l ≤ clamp b 1048576) : if b < 0 then l ≤ 0 else l ≤ b := by
  unfold clamp at h; split at h
  · rename_i q; rw [if_pos q]; exact h
  · rename_i q; rw [if_neg q]; split at h <;> omega
theorem fin_no {W w2 : World} {B k : Nat} {r burst : Int} {cl t g bl ba : Int} {ts : List Int} {tv : Value} (hG : Good r burst (k + 1) ⟨cl, t + g⟩ (t + g) ts) (hbk : Blk w2 B 23 #[.int .i64 bl, .int .i64 ba])
    (hown : TS w2 (B + 1) tv ts) (hlow : Below W.heap.size W w2) (hB : W.heap.size ≤ B) :
    Rel W B r burst (k + 1) ⟨cl, t + g⟩ (t + g) ts (.int .i64 (t + g)) tv (((w2.setCell ⟨B, 0, none⟩ (.int .i64 cl)).setCell ⟨B, 1, none⟩ (.int .i64 (t + g))).alloc (.cells #[.int .i64 cl, .int .i64 (t + g)] 23)) := by
  have hz := hbk.lt
  refine ⟨hG, rfl, ?_, ?_, ?_, hB⟩
  · have := ((hbk.set_ 0 (.int .i64 cl)).set_ 1 (.int .i64 (t + g))).alloc (.cells #[.int .i64 cl, .int .i64 (t + g)] 23)
    simpa using this
  · exact World.ownsRow.alloc (ownsRow_setCell_below (ownsRow_setCell_below hown (by simp) _) (by simp) _) _
  · have h := (hlow.setCell (p := ⟨B, 0, none⟩) hB (.int .i64 cl)).setCell (p := ⟨B, 1, none⟩) hB (.int .i64 (t + g))
    exact h.alloc h.size _
theorem yes_facts {W w2 w3 : World} {B : Nat} {cl ct bl ba now : Int} {ts : List Int} {tv tv' : Value} (hbk : Blk w2 B 23 #[.int .i64 bl, .int .i64 ba]) (hown : TS w2 (B + 1) tv ts)
    (hlow : Below W.heap.size W w2) (hB : W.heap.size ≤ B) {D : Obj}
    (hown' : w3.ownsRow (B + 1) 3 1 tv' (ts.length + 1) (ts.map (Value.int .i64) ++ [.int .i64 now])) (hg : ((w2.alloc (.cells #[.int .i64 cl, .int .i64 ct] 23)).alloc D).grownBy w3 tv.ownBlock) :
    Blk w3 w2.heap.size 23 #[.int .i64 cl, .int .i64 ct] ∧ Blk w3 B 23 #[.int .i64 bl, .int .i64 ba] ∧ Below W.heap.size W w3 ∧ TS w3 (B + 1) tv' (ts ++ [now]) ∧ B < w2.heap.size := by
  have hz := hbk.lt
  have hc := (Blk.new w2 23 #[.int .i64 cl, .int .i64 ct]).alloc D
  have hne := own_blk_ne ((World.ownsRow.alloc (World.ownsRow.alloc hown (.cells #[.int .i64 cl, .int .i64 ct] 23)) D)) hc (by decide)
  have hb2 := (hbk.alloc (.cells #[.int .i64 cl, .int .i64 ct] 23)).alloc D
  have hne2 := own_blk_ne ((World.ownsRow.alloc (World.ownsRow.alloc hown (.cells #[.int .i64 cl, .int .i64 ct] 23)) D)) hb2 (by decide)
  refine ⟨hc.grown hg (Ne.symm hne), hb2.grown hg (Ne.symm hne2), ?_, ?_, hz⟩
  · have h := (hlow.alloc hlow.size (.cells #[.int .i64 cl, .int .i64 ct] 23))
    have h' := h.alloc h.size D
    refine h'.grown hg h'.size fun q hq => ?_
    rcases hown.2 with ⟨e, _⟩ | ⟨g, cap, cur, e, h1, _⟩
    · rw [e] at hq; cases hq
    · rw [e] at hq; injection hq with hq; simp at hq; omega
  · have : ts.map (Value.int .i64) ++ [.int .i64 now] = (ts ++ [now]).map (Value.int .i64) := by simp
    rw [this] at hown'
    unfold TS; rw [List.length_append]; exact hown'
theorem fin_yes {W w3 : World} {B k : Nat} {r burst : Int} {cl t g bl ba : Int} {ts : List Int} {tv : Value} (hG : Good r burst (k + 1) ⟨cl, t + g⟩ (t + g) ts) (hbk : Blk w3 B 23 #[.int .i64 bl, .int .i64 ba])
    (hown : TS w3 (B + 1) tv ts) (hlow : Below W.heap.size W w3) (hB : W.heap.size ≤ B) :
    Rel W B r burst (k + 1) ⟨cl, t + g⟩ (t + g) ts (.int .i64 (t + g)) tv ((w3.setCell ⟨B, 0, none⟩ (.int .i64 cl)).setCell ⟨B, 1, none⟩ (.int .i64 (t + g))) := by
  have hz := hbk.lt
  refine ⟨hG, rfl, ?_, ?_, ?_, hB⟩
  · have := ((hbk.set_ 0 (.int .i64 cl)).set_ 1 (.int .i64 (t + g)))
    simpa using this
  · exact (ownsRow_setCell_below (ownsRow_setCell_below hown (by simp) _) (by simp) _)
  · exact (hlow.setCell (p := ⟨B, 0, none⟩) hB (.int .i64 cl)).setCell (p := ⟨B, 1, none⟩) hB (.int .i64 (t + g))
theorem ops0 {x : Oper} {l : List Oper} : (x :: l).toArray[0]? = some x := rfl
theorem opsS {x y : Oper} {l : List Oper} {i : Nat} (h : l.toArray[i]? = some y) : (x :: l).toArray[i + 1]? = some y := by simpa using h
structure PQ (M : Nat) (w0 : World) (p q : Addr) (x y : Int) (w' : World) : Prop where
  c1 : w'.cell? p = some (.int .i64 x)
  c2 : w'.cell? q = some (.int .i64 y)
  hp : p.block < M
  hq : q.block < M
  hM : M ≤ w'.heap.size
  low : Below M w0 w'
theorem PQ.of {M : Nat} {w0 : World} {p q : Addr} {x y : Int} {w' : World} (h : PQ M w0 p q x y w') : w'.cell? p = some (.int .i64 x) ∧ w'.cell? q = some (.int .i64 y) ∧ Hid (PQ M w0 p q x y w') := ⟨h.c1, h.c2, h⟩
theorem PQ.drew {M : Nat} {w0 : World} {p q : Addr} {x y : Int} {w' : World} (h : Hid (PQ M w0 p q x y w')) : w'.drew.cell? p = some (.int .i64 x) ∧ w'.drew.cell? q = some (.int .i64 y) ∧ Hid (PQ M w0 p q x y w'.drew) :=
  PQ.of ⟨h.c1, h.c2, h.hp, h.hq, h.hM, h.low.drew⟩
theorem PQ.step {M : Nat} {w0 : World} {p q : Addr} {x y : Int} {W0 w' : World} (hb : Below W0.heap.size W0 w') (h : Hid (PQ M w0 p q x y W0)) : w'.cell? p = some (.int .i64 x) ∧ w'.cell? q = some (.int .i64 y) ∧ Hid (PQ M w0 p q x y w') := by
  have hM := h.hM
  have hs := hb.size
  exact PQ.of ⟨(hb.cell (by have := h.hp; omega)).trans h.c1, (hb.cell (by have := h.hq; omega)).trans h.c2, h.hp, h.hq, by omega, h.low.trans (hb.mono hM)⟩
theorem ts_reads {w : World} {base : Nat} {tv : Value} {ts : List Int} (h : TS w base tv ts) : ∃ A c, tv = .slice A ts.length c ∧ Reads w w.heap.size 1 A ts.length (ts.map (Value.int .i64)) := by
  unfold TS at h
  have h0 := h
  rcases h.2 with ⟨e, e0⟩ | ⟨g, cap, cur, e, _⟩
  · refine ⟨none, 0, by rw [e, e0], ?_⟩
    subst e; rw [e0]; rw [e0] at h0; exact Reads.of_own h0
  · subst e; exact ⟨_, _, rfl, Reads.of_own h0⟩
theorem ts_at {w w' : World} {M : Nat} {A : Option Addr} {ts : List Int} (h : Reads w M 1 A ts.length (ts.map (Value.int .i64))) (hb : Below M w w') {i : Nat} (hi : i < ts.length) : ∃ ad, A = some ad ∧ ad.block < M ∧ w'.cell? (ad.add i) = some (.int .i64 ts[i]) := by
  obtain ⟨ad, u, e1, e2, e3, e4⟩ := (h.below hb).at_ hi
  rw [List.getElem?_map, List.getElem?_eq_getElem hi] at e3
  simp at e3
  exact ⟨ad, e1, e2, e3 ▸ e4⟩
set_option maxHeartbeats 2000000 in
theorem kept_walk (W : World) (a : Option Addr) (n cap : Nat) (rs : List R5) (r burst : Int) (hn : n ≤ 60) (hl : rs.length = n) (hR : Reads W W.heap.size 1 a n (rs.flatMap R5.cells)) (hok : ∀ x ∈ rs, x.ok W) :
    Calls Try.prog 4 #[.slice a n cap, .int .i64 r, .int .i64 burst] W fun e w' => e = .returned (.bool true) ∧ Below W.heap.size W w' := by
  obtain ⟨i0, hi0, hz0, hz1, hz2⟩ := info_parts info3
  go_enter Try.func4, Try.ntmps4
  go_wp2_with fail
  refine (full_any _ _ _).mono ?_
  rintro e w1 ⟨rfl, hb⟩
  go_wp2_with fail
  have hG := Good.first r burst
  generalize fullI 0 burst = b0 at *
  obtain ⟨l0, t0⟩ := b0
  have hstart : Rel W w1.heap.size r burst 0 ⟨l0, t0⟩ 0 [] (.int .i64 0) (.slice none 0 0) (w1.alloc (.cells #[.int .i64 l0, .int .i64 t0] 23)) :=
    ⟨hG, rfl, Blk.new _ _ _, World.ownsRow_nil _ _ _ _, hb.alloc hb.size _, hb.size⟩
  clear hG hb
  show Code.wp _ _ _ _ (w1.alloc (.cells #[.int .i64 l0, .int .i64 t0] 23))
  generalize w1.alloc (.cells #[.int .i64 l0, .int .i64 t0] 23) = W1 at *
  generalize w1.heap.size = B at *
  go_loopw [8, 9, 10] (fun now tv iv wr => ∃ (k : Nat) (b : Bk) (t : Int) (ts : List Int), k ≤ n ∧ iv = .int .i64 k ∧ Rel W B r burst k b t ts now tv wr) (fun _ _ iv _ => n - (intOf iv).toNat)
  case atStart => exact ⟨0, _, _, _, by omega, rfl, hstart⟩
  case round =>
    obtain ⟨k, b, t, ts, hk, rfl, hrel⟩ := hrel
    obtain ⟨hG, rfl, hbk, hown, hlow, hB⟩ := hrel
    by_cases hlt : k < n
    · obtain ⟨ad, u, rfl, had, hu, hcell⟩ := (hR.below hlow).at_ hlt
      obtain ⟨x, hx0, hx1, rfl⟩ := elem hok (by omega : k < rs.length) hu
      have hx15 := Lib.hid (u8_low x hx0 hx1)
      have hu8 := hx15.out
      obtain ⟨bl, ba⟩ := b
      obtain ⟨q0, q1⟩ := Blk.two hbk
      have t0' := hG.now0
      have t1' := hG.now1
      have hk60 : k ≤ 60 := by omega
      have g0 : 0 ≤ x % 16 := by omega
      have g1 : x % 16 ≤ 15 := by omega
      go_wp2_with fail
      refine (take_any ⟨bl, ba⟩ _ _ _ _).mono ?_
      generalize hg : x % 16 = g at *
      clear hg hu8 hx15
      have hyes := hG.yes hk60 g g0 g1
      have hno := hG.no hk60 g g0 g1
      have HG := Lib.hid hG
      clear hG
      generalize takeI ⟨bl, ba⟩ (t + g) r burst = T at *
      obtain ⟨⟨cl, ct⟩, ok⟩ := T
      rintro e w2 ⟨rfl, hb⟩
      have hbk2 := hbk.below hb hbk.lt
      have hown2 : TS w2 (B + 1) u9 ts := ts_below hown hb
      have hlow2 := hlow.trans (hb.mono hlow.size)
      clear hbk hown hb hlow q0 q1 hcell
      have zB := hbk2.lt
      obtain ⟨q0, q1⟩ := Blk.two hbk2
      have f0 := hbk2.frozen 0
      have f1 := hbk2.frozen 1
      cases ok
      · have hN := hno ⟨cl, ct⟩ rfl
        clear hyes hno
        obtain rfl : ct = t + g := hN.at_
        have c0 := hN.l0
        have c1 := clamp_max hN.l1
        simp only at c0 c1
        have HN := Lib.hid hN
        clear hN
        have hfin := fin_no (g := g) HN.out hbk2 hown2 hlow2 hB
        have HF := Lib.hid hfin
        clear hfin
        by_cases hbn : burst < 0
        · have c2 : cl ≤ 0 := by rw [if_pos hbn] at c1; exact c1
          clear c1
          go_wp2
          go_roundw
          case rel => exact ⟨k + 1, _, _, _, by omega, by go_num, HF.out⟩
          case measure => simp [intOf]; omega
        · have c2 : cl ≤ burst := by rw [if_neg hbn] at c1; exact c1
          clear c1
          go_wp2
          go_roundw
          case rel => exact ⟨k + 1, _, _, _, by omega, by go_num, HF.out⟩
          case measure => simp [intOf]; omega
      · have hY := hyes ⟨cl, ct⟩ rfl
        clear hyes hno
        obtain rfl : ct = t + g := hY.at_
        have c0 := hY.l0
        have c1 := clamp_max hY.l1
        simp only at c0 c1
        have HY := Lib.hid hY
        clear hY
        have hlen := HY.out.len
        have hln : ts.length ≤ 60 := by simp at hlen; omega
        clear hlen
        go_wp2_with (at_builtin; refine wpList_append_own _ rfl _ _ 33 rfl (B + 1) 3 i0 (.int .i64 0) 1 8 Try.underlying33 hi0 hz0 hz1 hz2 rfl (by decide) _ _ _ rfl ((hown2.alloc _).alloc _) ⟨w2.heap.size + 1, 0, none⟩ 1 1 [.int .i64 (t + g)] rfl rfl ?c1 ?c2 ?c3 ?c4 ?c5 ?_)
        case c1 => simpa using cell_one_new (w2.alloc (.cells #[.int .i64 cl, .int .i64 (t + g)] 23)) (.int .i64 (t + g)) 3
        case c2 => intro x hx; simp at hx; subst hx; rfl
        case c3 => unfold maxLen; omega
        case c4 => omega
        case c5 => simp; omega
        intro tv3 w3 hown3 hgrow3 _
        obtain ⟨hC3, hB3, hlow3, hown4, hBC⟩ := yes_facts hbk2 hown2 hlow2 hB hown3 hgrow3
        generalize w2.heap.size = C at *
        clear hown3 hgrow3 hbk2 hown2 hlow2 q0 q1 f0 f1 zB
        have HF := Lib.hid (fin_yes (g := g) HY.out hB3 hown4 hlow3 hB)
        obtain ⟨q0, q1⟩ := Blk.two hC3
        have f0 := hB3.frozen 0
        have f1 := hB3.frozen 1
        have zB := hB3.lt
        obtain ⟨p0, p1⟩ := Blk.two hB3
        clear hB3 hC3 hown4 hlow3
        by_cases hbn : burst < 0
        · have c2 : cl ≤ 0 := by rw [if_pos hbn] at c1; exact c1
          clear c1
          go_wp2
          go_roundw
          case rel => exact ⟨k + 1, _, _, _, by omega, by go_num, HF.out⟩
          case measure => simp [intOf]; omega
        · have c2 : cl ≤ burst := by rw [if_neg hbn] at c1; exact c1
          clear c1
          go_wp2
          go_roundw
          case rel => exact ⟨k + 1, _, _, _, by omega, by go_num, HF.out⟩
          case measure => simp [intOf]; omega
    · have hkn : k = n := by omega
      have hln : ts.length ≤ 60 := by have := hG.len; omega
      have hpairs := Lib.hid hG.pairs
      clear hstart hG hbk
      obtain ⟨A, c, rfl, hRd⟩ := ts_reads hown
      have hM := hlow.size
      have hlow := Lib.hid hlow
      clear hown hR hok hl
      obtain ⟨w0, hw0⟩ : ∃ w0 : World, w0 = wr := ⟨_, rfl⟩
      have hMw : w0.heap.size ≤ wr.heap.size := by rw [hw0]; exact Nat.le_refl _
      have hb0 : Below w0.heap.size w0 wr := by rw [hw0]; exact Below.refl _ _
      rw [← hw0] at hRd hM hlow
      clear hw0
      generalize w0.heap.size = M at hM hRd hMw hb0
      have hb0 := Lib.hid (And.intro hb0 hMw)
      clear hMw
      go_wp2_with fail
      clear hk hlt hkn
      go_loopw [13, 14] (fun iv _ wq => ∃ i : Nat, i ≤ ts.length ∧ iv = .int .i64 i ∧ Hid (Below M w0 wq ∧ M ≤ wq.heap.size)) (fun iv _ _ => ts.length - (intOf iv).toNat)
      case atStart => exact ⟨0, by omega, rfl, hb0⟩
      case round =>
        obtain ⟨i, hi, rfl, hb1⟩ := hrel
        clear hb0
        by_cases hlt : i < ts.length
        · go_wp2_with fail
          go_loopw [14] (fun kv wq => ∃ k : Nat, i ≤ k ∧ k ≤ ts.length ∧ kv = .int .i64 k ∧ Hid (Below M w0 wq ∧ M ≤ wq.heap.size)) (fun kv _ => ts.length - (intOf kv).toNat)
          case atStart => exact ⟨i, by omega, by omega, rfl, hb1⟩
          case round =>
            obtain ⟨k, hik, hk, rfl, hb2⟩ := hrel
            clear hb1
            by_cases hlk : k < ts.length
            · have hpr := hpairs.out i k hlk hik
              obtain ⟨ad, e1, e2, e3⟩ := ts_at hRd hb2.out.1 hlt
              obtain ⟨ad', e1', _, e4⟩ := ts_at hRd hb2.out.1 hlk
              rw [e1] at e1'; injection e1' with e1'; subst e1'; subst e1
              generalize hx : ts[i] = x at *
              generalize hy : ts[k] = y at *
              have hpq : PQ M w0 (ad.add i) (ad.add k) x y wr := ⟨e3, e4, by rw [block_of_add]; exact e2, by rw [block_of_add]; exact e2, hb2.out.2, hb2.out.1⟩
              clear hb2 e3 e4
              have test := PQ.drew hpq
              have s1 : IntKind.i64.wrap ((k : Int) - i) = (k : Int) - i := IntWalk.i64_in _ (by omega)
              have s2 : IntKind.i64.wrap ((k : Int) - i + 1) = (k : Int) - i + 1 := IntWalk.i64_in _ (by omega)
              go_wp2_with fail
              refine wp_region_held_drew (S := (fun w' => w'.cell? (ad.add i) = some (.int .i64 x) ∧ w'.cell? (ad.add k) = some (.int .i64 y) ∧ Hid (PQ M w0 (ad.add i) (ad.add k) x y w'))) (by kernel_rfl) ?_ (fun hHeldp0 => ?_)
              · exact test
              refine wpAnyH_take (i := 0) (v := ?vp0) ops0 (by kernel_rfl) (by kernel_rfl) (by kernel_rfl) (fun _ _ _ h => h) (Or.inl ⟨by rfl, ?yp0⟩) hHeldp0 ?_
              case yp0 => (intro w hSw; (try dsimp only at hSw); go_simp; try (with_reducible rfl))
              try simp only [Act.put, List.setIfInBounds_toArray, List.set_cons_zero, List.set_cons_succ]
              refine wpAnyH_take (i := 1) (v := ?vp1) (opsS ops0) (by kernel_rfl) (by kernel_rfl) (by kernel_rfl) (fun _ _ _ h => h) (Or.inl ⟨by rfl, ?yp1⟩) hHeldp0 ?_
              case yp1 => (intro w hSw; (try dsimp only at hSw); go_simp; try (with_reducible rfl))
              try simp only [Act.put, List.setIfInBounds_toArray, List.set_cons_zero, List.set_cons_succ]
              refine wpAnyH_take (i := 2) (v := ?vp2) (opsS (opsS ops0)) (by kernel_rfl) (by kernel_rfl) (by kernel_rfl) (fun _ _ _ h => h) (Or.inl ⟨by rfl, ?yp2⟩) hHeldp0 ?_
              case yp2 => (intro w hSw; (try dsimp only at hSw); go_simp; try (with_reducible rfl))
              try simp only [Act.put, List.setIfInBounds_toArray, List.set_cons_zero, List.set_cons_succ]
              refine wpAnyH_take (i := 3) (v := ?vp3) (opsS (opsS (opsS ops0))) (by kernel_rfl) (by kernel_rfl) (by kernel_rfl) (fun _ _ _ h => h) (Or.inl ⟨by rfl, ?yp3⟩) hHeldp0 ?_
              case yp3 => (intro w hSw; (try dsimp only at hSw); go_simp; try (with_reducible rfl))
              try simp only [Act.put, List.setIfInBounds_toArray, List.set_cons_zero, List.set_cons_succ]
              refine wpAnyH_take (i := 4) (v := ?vp4) (opsS (opsS (opsS (opsS ops0)))) (by kernel_rfl) (by kernel_rfl) (by kernel_rfl) (fun _ _ _ h => h) (Or.inl ⟨by rfl, ?yp4⟩) hHeldp0 ?_
              case yp4 => (intro w hSw; (try dsimp only at hSw); go_simp; try (with_reducible rfl))
              try simp only [Act.put, List.setIfInBounds_toArray, List.set_cons_zero, List.set_cons_succ]
              refine wpAnyH_take (i := 5) (v := ?vp5) (opsS (opsS (opsS (opsS (opsS ops0))))) (by kernel_rfl) (by kernel_rfl) (by kernel_rfl) (fun _ _ _ h => h) (Or.inl ⟨by rfl, ?yp5⟩) hHeldp0 ?_
              case yp5 => (intro w hSw; (try dsimp only at hSw); go_simp; try (with_reducible rfl))
              try simp only [Act.put, List.setIfInBounds_toArray, List.set_cons_zero, List.set_cons_succ]
              refine wpAnyH_take (i := 6) (v := ?vp6) (opsS (opsS (opsS (opsS (opsS (opsS ops0)))))) (by kernel_rfl) (by kernel_rfl) (by kernel_rfl) (fun _ _ _ h => h) (Or.inl ⟨by rfl, ?yp6⟩) hHeldp0 ?_
              case yp6 => (intro w hSw; (try dsimp only at hSw); go_simp; try (with_reducible rfl))
              try simp only [Act.put, List.setIfInBounds_toArray, List.set_cons_zero, List.set_cons_succ]
              refine wpAnyH_take (i := 7) (v := ?vp7) (opsS (opsS (opsS (opsS (opsS (opsS (opsS ops0))))))) (by kernel_rfl) (by kernel_rfl) (by kernel_rfl) (fun _ _ _ h => h) (Or.inl ⟨by rfl, ?yp7⟩) hHeldp0 ?_
              case yp7 => (intro w hSw; (try dsimp only at hSw); go_simp; try (with_reducible rfl))
              try simp only [Act.put, List.setIfInBounds_toArray, List.set_cons_zero, List.set_cons_succ]
              refine wpAnyH_take (i := 8) (v := ?vp8) (opsS (opsS (opsS (opsS (opsS (opsS (opsS (opsS ops0)))))))) (by kernel_rfl) (by kernel_rfl) (by kernel_rfl) (fun _ _ _ h => h) (Or.inl ⟨by rfl, ?yp8⟩) hHeldp0 ?_
              case yp8 => (intro w hSw; (try dsimp only at hSw); go_simp; try (with_reducible rfl))
              try simp only [Act.put, List.setIfInBounds_toArray, List.set_cons_zero, List.set_cons_succ]
              refine wpAnyH_take (i := 9) (v := ?vp9) (opsS (opsS (opsS (opsS (opsS (opsS (opsS (opsS (opsS ops0))))))))) (by kernel_rfl) (by kernel_rfl) (by kernel_rfl) (fun _ _ _ h => h) (Or.inl ⟨by rfl, ?yp9⟩) hHeldp0 ?_
              case yp9 => (intro w hSw; (try dsimp only at hSw); go_simp; try (with_reducible rfl))
              try simp only [Act.put, List.setIfInBounds_toArray, List.set_cons_zero, List.set_cons_succ]
              refine wpAnyH_take (i := 10) (v := ?vp10) (opsS (opsS (opsS (opsS (opsS (opsS (opsS (opsS (opsS (opsS ops0)))))))))) (by kernel_rfl) (by kernel_rfl) (by kernel_rfl) (fun _ _ _ h => h) (Or.inl ⟨by rfl, ?yp10⟩) hHeldp0 ?_
              case yp10 => (intro w hSw; (try dsimp only at hSw); go_simp; try (with_reducible rfl))
              try simp only [Act.put, List.setIfInBounds_toArray, List.set_cons_zero, List.set_cons_succ]
              refine wpAnyH_take (i := 11) (v := ?vp11) (opsS (opsS (opsS (opsS (opsS (opsS (opsS (opsS (opsS (opsS (opsS ops0))))))))))) (by kernel_rfl) (by kernel_rfl) (by kernel_rfl) (fun _ _ _ h => h) (Or.inl ⟨by rfl, ?yp11⟩) hHeldp0 ?_
              case yp11 => (intro w hSw; (try dsimp only at hSw); go_simp; try (with_reducible rfl))
              try simp only [Act.put, List.setIfInBounds_toArray, List.set_cons_zero, List.set_cons_succ]
              refine wpAnyH_take (i := 12) (v := ?vp12) (opsS (opsS (opsS (opsS (opsS (opsS (opsS (opsS (opsS (opsS (opsS (opsS ops0)))))))))))) (by kernel_rfl) (by kernel_rfl) (by kernel_rfl) (fun _ _ _ h => h) (Or.inl ⟨by rfl, ?yp12⟩) hHeldp0 ?_
              case yp12 => (intro w hSw; (try dsimp only at hSw); go_simp; try (with_reducible rfl))
              try simp only [Act.put, List.setIfInBounds_toArray, List.set_cons_zero, List.set_cons_succ]
              refine wpAnyH_take (i := 13) (v := ?vp13) (opsS (opsS (opsS (opsS (opsS (opsS (opsS (opsS (opsS (opsS (opsS (opsS (opsS ops0))))))))))))) (by kernel_rfl) (by kernel_rfl) (by kernel_rfl) (fun _ _ _ h => h) (Or.inl ⟨by rfl, ?yp13⟩) hHeldp0 ?_
              case yp13 => (intro w hSw; (try dsimp only at hSw); go_simp; try (with_reducible rfl))
              try simp only [Act.put, List.setIfInBounds_toArray, List.set_cons_zero, List.set_cons_succ]
              refine wpAnyH_ready (rs := [14]) (by kernel_rfl) (by simp) ?_
              refine AllReadyH.cons (opsS (opsS (opsS (opsS (opsS (opsS (opsS (opsS (opsS (opsS (opsS (opsS (opsS (opsS ops0)))))))))))))) (fun K hK => ?_) AllReadyH.nil
              go_simp
              refine (most_any _ _ _ _ _).mono ?_; rintro e w' ⟨rfl, hb⟩
              dsimp only
              refine hK.out _ _ ?_ (fun hHeldp1 => ?_)
              · (first | assumption | exact PQ.drew (by assumption) | (go_split_ands; exact PQ.drew (by assumption)) | (go_split_ands; exact PQ.step (by assumption) (by assumption)))
              clear hK K hHeldp0
              try clear hb
              try simp only [Act.put, List.setIfInBounds_toArray, List.set_cons_zero, List.set_cons_succ]
              refine wpAnyH_take (i := 15) (v := ?vp15) (opsS (opsS (opsS (opsS (opsS (opsS (opsS (opsS (opsS (opsS (opsS (opsS (opsS (opsS (opsS ops0))))))))))))))) (by kernel_rfl) (by kernel_rfl) (by kernel_rfl) (fun _ _ _ h => h) (Or.inl ⟨by rfl, ?yp15⟩) hHeldp1 ?_
              case yp15 => (intro w hSw; (try dsimp only at hSw); go_simp; try (with_reducible rfl))
              try simp only [Act.put, List.setIfInBounds_toArray, List.set_cons_zero, List.set_cons_succ]
              refine wpAnyH_done (by kernel_rfl) ?_ _
              clear test hpq
              have hb3 : Hid (Below M w0 w' ∧ M ≤ w'.heap.size) := by have h := hHeldp1.2.2; exact ⟨h.low, h.hM⟩
              clear hHeldp1
              go_wp2
              go_roundw
              case rel => exact ⟨k + 1, by omega, by omega, by go_num, hb3⟩
              case measure => simp [intOf]; omega
            · go_wp2
              go_roundw
              case rel => exact ⟨i + 1, by omega, by go_num, hb2⟩
              case measure => simp [intOf]; omega
        · go_wp2_with fail
          refine (awake_any _).mono ?_; rintro e w' ⟨rfl, hb⟩
          have hlow := (hlow.out.trans (hb1.out.1.mono hM)).trans (hb.mono (by have := hb1.out.2; omega))
          go_wp2
          go_ret
          exact ⟨rfl, hlow⟩
set_option maxHeartbeats 1000000 in
theorem kept_all (W : World) (v0 : Value) (v1 : Value) (v2 : Value) (h0 : V32 W v0) (h1 : V3 W v1) (h2 : V3 W v2) :
    Calls Try.prog 4 #[v0, v1, v2] W fun e w' => e = .returned (.bool true) ∧ Below W.heap.size W w' := by
  obtain ⟨⟨r⟩, rfl, -⟩ := h1
  obtain ⟨⟨burst⟩, rfl, -⟩ := h2
  obtain ⟨a, n, cap, rs, rfl, hc, hc2, hl, hR, hok⟩ := s32 h0
  unfold maxLen at hc2
  by_cases hn : n ≤ 60
  · exact kept_walk W a n cap rs r burst hn hl hR hok
  · go_enter Try.func4, Try.ntmps4
    go_wp2_with fail
    refine (awake_any _).mono ?_; rintro e w' ⟨rfl, hb⟩
    go_wp2
    go_ret
    exact ⟨rfl, hb⟩
end Go.Proofs.Ytajbennbgjbpeab.rate
