/- What answers to a write come to, by the package. -/
import Derived.Test.YtcbfcmnnahbblaaB
namespace Go.Proofs.Ytcbfcmnnahbblaa.quorum
open Go.ChangeShapes Go.WideShapes Go.ChangeAt Go.RowKit Go.Proofs.Aid Go.Proofs.Ytcbfcmnnahbblaa.texts
theorem LL.lit {w : World} {ls : List (List ByteArray)} {vs : List Value} (hl : vs.length = ls.length) (h : ∀ i (h : i < ls.length), ∃ Ai ci, vs[i]? = some (.slice Ai ls[i].length ci) ∧ Reads w w.heap.size 1 Ai ls[i].length (ls[i].flatMap tc))
    (hle : ∀ l ∈ ls, l.length ≤ 1099511627776) : LL (w.alloc (.cells vs.toArray 25)) (some ⟨w.heap.size, 0, none⟩) ls vs := by
  have hb := below_lit w (.cells vs.toArray 25)
  have h1 := lit1 (f := fun v : Value => [v]) w 25 vs (fun _ => rfl)
  have e : vs.flatMap (fun v : Value => [v]) = vs := by rw [map_flat]; simp
  rw [e, hl] at h1
  exact ⟨h1, hl, fun i hi => by obtain ⟨Ai, ci, e, hr⟩ := h i hi; exact ⟨Ai, ci, e, hr.more_below hb⟩, hle⟩
theorem LL.one {w : World} {A : Option Addr} {c : Nat} {x : List ByteArray} (h : Reads w w.heap.size 1 A x.length (x.flatMap tc)) (hx : x.length ≤ 1000) : LL (w.alloc (.cells #[.slice A x.length c] 25)) (some ⟨w.heap.size, 0, none⟩) [x] [.slice A x.length c] :=
  LL.lit (vs := [.slice A x.length c]) rfl (fun i hi => by
    have : i = 0 := by simpa using hi
    subst this; exact ⟨A, c, rfl, h⟩) (fun l hl => by simp at hl; subst hl; omega)
theorem LL.two {w : World} {A B : Option Addr} {c d : Nat} {x y : List ByteArray} (h : Reads w w.heap.size 1 A x.length (x.flatMap tc)) (h2 : Reads w w.heap.size 1 B y.length (y.flatMap tc)) (hx : x.length ≤ 1000) (hy : y.length ≤ 1000) : LL (w.alloc (.cells #[.slice A x.length c, .slice B y.length d] 25)) (some ⟨w.heap.size, 0, none⟩) [x, y] [.slice A x.length c, .slice B y.length d] :=
  LL.lit (vs := [.slice A x.length c, .slice B y.length d]) rfl (fun i hi => by
    have : i = 0 ∨ i = 1 := by simp at hi; omega
    rcases this with rfl | rfl
    · exact ⟨A, c, rfl, h⟩
    · exact ⟨B, d, rfl, h2⟩) (fun l hl => by simp at hl; rcases hl with rfl | rfl <;> omega)
theorem LL.three {w : World} {A B C : Option Addr} {c d e : Nat} {x y z : List ByteArray} (h : Reads w w.heap.size 1 A x.length (x.flatMap tc)) (h2 : Reads w w.heap.size 1 B y.length (y.flatMap tc)) (h3 : Reads w w.heap.size 1 C z.length (z.flatMap tc)) (hx : x.length ≤ 1000) (hy : y.length ≤ 1000) (hz : z.length ≤ 1000) : LL (w.alloc (.cells #[.slice A x.length c, .slice B y.length d, .slice C z.length e] 25)) (some ⟨w.heap.size, 0, none⟩) [x, y, z] [.slice A x.length c, .slice B y.length d, .slice C z.length e] :=
  LL.lit (vs := [.slice A x.length c, .slice B y.length d, .slice C z.length e]) rfl (fun i hi => by
    have : i = 0 ∨ i = 1 ∨ i = 2 := by simp at hi; omega
    rcases this with rfl | rfl | rfl
    · exact ⟨A, c, rfl, h⟩
    · exact ⟨B, d, rfl, h2⟩
    · exact ⟨C, e, rfl, h3⟩) (fun l hl => by simp at hl; rcases hl with rfl | rfl | rfl <;> omega)
theorem amongN_any (w : World) (A : Option Addr) (cap n : Nat) (ls : List (List ByteArray)) (vs : List Value) (hn : ls.length = n) (hl : n ≤ 1000) (h1 : LL w A ls vs) :
    Calls Try.prog 16 #[.slice A n cap] w (FunPost w 24 (inAny ls)) := by subst hn; exact among_any w A cap ls vs hl h1
theorem inAny_one (x : List ByteArray) : inAny [x] = memB x := by funext s; simp [inAny]
theorem enough_any (a b x y : Int) (w : World) : Calls Try.prog 19 #[.agg #[.int .i64 a, .int .i64 b], .int .i64 x, .int .i64 y] w fun e w' => e = .returned (.bool (decide (x ≤ a) && decide (y ≤ b))) ∧ Below w.heap.size w w' := by
  have hb := Lib.hid (below_lit w (.cells #[.int .i64 a, .int .i64 b] 43))
  by_cases h1 : x ≤ a
  · have d1 : decide (x ≤ a) = true := by simpa using h1
    go_enter Try.func19, Try.ntmps19
    go_wp2
    go_ret
    exact ⟨ret_bool (by rw [d1]; rfl), hb.out⟩
  · have d1 : decide (x ≤ a) = false := by simpa using h1
    go_enter Try.func19, Try.ntmps19
    go_wp2
    go_ret
    exact ⟨ret_bool (by simp [d1]), hb.out⟩
theorem and_any (a b c d : Nat) (w : World) (ha : a ≤ 1000) (hb : b ≤ 1000) (hc : c ≤ 1000) (hd : d ≤ 1000) : Calls Try.prog 20 #[.agg #[.int .i64 a, .int .i64 b], .agg #[.int .i64 c, .int .i64 d]] w fun e w' => e = .returned (.agg #[.int .i64 ((a : Int) + c), .int .i64 ((b : Int) + d)]) ∧ Below w.heap.size w w' := by
  have h1 := Lib.hid ((below_lit2 w (.cells #[.int .i64 a, .int .i64 b] 43) (.cells #[.int .i64 c, .int .i64 d] 43)).alloc (by simp; omega) (.cells #[.int .i64 ((a : Int) + c), .int .i64 ((b : Int) + d)] 43))
  go_enter Try.func20, Try.ntmps20
  go_wp2
  refine bodyPost_ret (v := .agg #[.int .i64 ((a : Int) + c), .int .i64 ((b : Int) + d)]) ?_ rfl ⟨rfl, ?_⟩
  · simp [results, Try.results20, go_sem]
  · exact h1.out
set_option maxHeartbeats 2000000 in
theorem count7_any (w : World) (A B : Option Addr) (ca cb : Nat) (cs : List R38) (ns : List ByteArray) (hl : cs.length ≤ 1000) (hn : ns.length ≤ 1000) (h1 : Reads w w.heap.size 2 A cs.length (cs.flatMap R38.cells)) (h2 : Reads w w.heap.size 1 B ns.length (ns.flatMap tc)) :
    Calls Try.prog 7 #[.slice A cs.length ca, .slice B ns.length cb] w fun e w' => e = .returned (.tuple #[.int .i64 (nA (memB ns) cs), .int .i64 (nB (memB ns) cs)]) ∧ Below w.heap.size w w' := by
  have H1 := Lib.hid h1
  have H2 := Lib.hid h2
  have HL := Lib.hid (Below.refl w.heap.size w)
  clear h1 h2
  go_enter Try.func7, Try.ntmps7
  go_wp2_with fail
  have hll := Lib.hid (LL.one (c := cb) H2.out hn)
  have hb := below_lit w (.cells #[.slice B ns.length cb] 25)
  replace H1 := Lib.hid ((Hid.out H1).more_below hb)
  replace HL := Lib.hid ((Hid.out HL).trans (hb.mono (Hid.out HL).size))
  clear hb
  refine (amongN_any _ _ 1 1 [ns] _ rfl (by decide) hll.out).mono ?_
  rintro e w1 ⟨p, rfl, hP, hb⟩
  replace H1 := Lib.hid ((Hid.out H1).more_below hb)
  replace HL := Lib.hid ((Hid.out HL).trans (hb.mono (Hid.out HL).size))
  clear hb
  clear hll
  go_wp2_with fail
  refine (count_any _ A ca cs hl H1.out 24 enters24 p _ hP).mono ?_
  rw [inAny_one]
  rintro e w2 ⟨rfl, hb⟩
  replace H1 := Lib.hid ((Hid.out H1).more_below hb)
  replace HL := Lib.hid ((Hid.out HL).trans (hb.mono (Hid.out HL).size))
  clear hb
  clear hP
  generalize hA : nA (memB ns) cs = a at *
  generalize hB : nB (memB ns) cs = b at *
  have HA := Lib.hid hA
  have HB := Lib.hid hB
  clear hA hB
  have hb := below_lit w2 (.cells #[.int .i64 a, .int .i64 b] 43)
  replace HL := Lib.hid ((Hid.out HL).trans (hb.mono (Hid.out HL).size))
  clear hb
  have hlN := fun n => Lib.hid (below_drewN HL.out n)
  go_wp2_with fail
  go_quiet (fail)
  go_wp2
  go_ret2
  exact ⟨by rw [HA.out, HB.out]; rfl, (hlN _).out⟩
def wrI (w pw : Int) (a b c d : Nat) : Int := if (decide (w ≤ (a : Int)) && decide (pw ≤ (b : Int))) = true then 1 else if (decide (w ≤ (a : Int) + c) && decide (pw ≤ (b : Int) + d)) = true then 0 else 2
structure MW (W : World) (B p q a b c d : Nat) (pn pr pw qr qw : Int) (ps pm pb : Bool) (w' : World) : Prop where
  b0 : Blk w' (B) 23 #[.int .i64 pn, .int .i64 pr, .int .i64 pw, .int .i64 qr, .int .i64 qw, .bool ps, .bool pm, .bool pb]
  b1 : Blk w' (p) 43 #[.int .i64 a, .int .i64 b]
  b2 : Blk w' (q) 43 #[.int .i64 c, .int .i64 d]
  low : Below (B) W w'
theorem MW.of {W : World} {B p q a b c d : Nat} {pn pr pw qr qw : Int} {ps pm pb : Bool} {w' : World} (h : MW W B p q a b c d pn pr pw qr qw ps pm pb w') : w'.cell? ⟨B, 0, none⟩ = some (.int .i64 pn) ∧ w'.cell? ⟨B, 1, none⟩ = some (.int .i64 pr) ∧ w'.cell? ⟨B, 2, none⟩ = some (.int .i64 pw) ∧ w'.cell? ⟨B, 3, none⟩ = some (.int .i64 qr) ∧ w'.cell? ⟨B, 4, none⟩ = some (.int .i64 qw) ∧ w'.cell? ⟨B, 5, none⟩ = some (.bool ps) ∧ w'.cell? ⟨B, 6, none⟩ = some (.bool pm) ∧ w'.cell? ⟨B, 7, none⟩ = some (.bool pb) ∧ w'.cell? ⟨p, 0, none⟩ = some (.int .i64 a) ∧ w'.cell? ⟨p, 1, none⟩ = some (.int .i64 b) ∧ w'.cell? ⟨q, 0, none⟩ = some (.int .i64 c) ∧ w'.cell? ⟨q, 1, none⟩ = some (.int .i64 d) ∧ Hid (MW W B p q a b c d pn pr pw qr qw ps pm pb w') :=
  ⟨by rw [h.b0.cell]; rfl, by rw [h.b0.cell]; rfl, by rw [h.b0.cell]; rfl, by rw [h.b0.cell]; rfl, by rw [h.b0.cell]; rfl, by rw [h.b0.cell]; rfl, by rw [h.b0.cell]; rfl, by rw [h.b0.cell]; rfl, by rw [h.b1.cell]; rfl, by rw [h.b1.cell]; rfl, by rw [h.b2.cell]; rfl, by rw [h.b2.cell]; rfl, h⟩
theorem MW.step0 {W : World} {B p q a b c d : Nat} {pn pr pw qr qw : Int} {ps pm pb : Bool} {W0 w' : World} (hb : Below W0.heap.size W0 w') (h : MW W B p q a b c d pn pr pw qr qw ps pm pb W0) : MW W B p q a b c d pn pr pw qr qw ps pm pb w' :=
  ⟨h.b0.below hb h.b0.lt, h.b1.below hb h.b1.lt, h.b2.below hb h.b2.lt, h.low.trans (hb.mono (by have := h.b0.lt; have := h.low.size; omega))⟩
theorem MW.step {W : World} {B p q a b c d : Nat} {pn pr pw qr qw : Int} {ps pm pb : Bool} {W0 w' : World} (hb : Below W0.heap.size W0 w') (h : Hid (MW W B p q a b c d pn pr pw qr qw ps pm pb W0)) : w'.cell? ⟨B, 0, none⟩ = some (.int .i64 pn) ∧ w'.cell? ⟨B, 1, none⟩ = some (.int .i64 pr) ∧ w'.cell? ⟨B, 2, none⟩ = some (.int .i64 pw) ∧ w'.cell? ⟨B, 3, none⟩ = some (.int .i64 qr) ∧ w'.cell? ⟨B, 4, none⟩ = some (.int .i64 qw) ∧ w'.cell? ⟨B, 5, none⟩ = some (.bool ps) ∧ w'.cell? ⟨B, 6, none⟩ = some (.bool pm) ∧ w'.cell? ⟨B, 7, none⟩ = some (.bool pb) ∧ w'.cell? ⟨p, 0, none⟩ = some (.int .i64 a) ∧ w'.cell? ⟨p, 1, none⟩ = some (.int .i64 b) ∧ w'.cell? ⟨q, 0, none⟩ = some (.int .i64 c) ∧ w'.cell? ⟨q, 1, none⟩ = some (.int .i64 d) ∧ Hid (MW W B p q a b c d pn pr pw qr qw ps pm pb w') :=
  MW.of (MW.step0 hb h)
theorem MW.drew {W : World} {B p q a b c d : Nat} {pn pr pw qr qw : Int} {ps pm pb : Bool} {W0 : World} (h : Hid (MW W B p q a b c d pn pr pw qr qw ps pm pb W0)) : W0.drew.cell? ⟨B, 0, none⟩ = some (.int .i64 pn) ∧ W0.drew.cell? ⟨B, 1, none⟩ = some (.int .i64 pr) ∧ W0.drew.cell? ⟨B, 2, none⟩ = some (.int .i64 pw) ∧ W0.drew.cell? ⟨B, 3, none⟩ = some (.int .i64 qr) ∧ W0.drew.cell? ⟨B, 4, none⟩ = some (.int .i64 qw) ∧ W0.drew.cell? ⟨B, 5, none⟩ = some (.bool ps) ∧ W0.drew.cell? ⟨B, 6, none⟩ = some (.bool pm) ∧ W0.drew.cell? ⟨B, 7, none⟩ = some (.bool pb) ∧ W0.drew.cell? ⟨p, 0, none⟩ = some (.int .i64 a) ∧ W0.drew.cell? ⟨p, 1, none⟩ = some (.int .i64 b) ∧ W0.drew.cell? ⟨q, 0, none⟩ = some (.int .i64 c) ∧ W0.drew.cell? ⟨q, 1, none⟩ = some (.int .i64 d) ∧ Hid (MW W B p q a b c d pn pr pw qr qw ps pm pb W0.drew) :=
  MW.of ⟨h.b0, h.b1, h.b2, h.low.drew⟩
theorem MW.alloc {W : World} {B p q a b c d : Nat} {pn pr pw qr qw : Int} {ps pm pb : Bool} {W0 : World} (h : Hid (MW W B p q a b c d pn pr pw qr qw ps pm pb W0)) (x : Obj) : (W0.alloc x).cell? ⟨B, 0, none⟩ = some (.int .i64 pn) ∧ (W0.alloc x).cell? ⟨B, 1, none⟩ = some (.int .i64 pr) ∧ (W0.alloc x).cell? ⟨B, 2, none⟩ = some (.int .i64 pw) ∧ (W0.alloc x).cell? ⟨B, 3, none⟩ = some (.int .i64 qr) ∧ (W0.alloc x).cell? ⟨B, 4, none⟩ = some (.int .i64 qw) ∧ (W0.alloc x).cell? ⟨B, 5, none⟩ = some (.bool ps) ∧ (W0.alloc x).cell? ⟨B, 6, none⟩ = some (.bool pm) ∧ (W0.alloc x).cell? ⟨B, 7, none⟩ = some (.bool pb) ∧ (W0.alloc x).cell? ⟨p, 0, none⟩ = some (.int .i64 a) ∧ (W0.alloc x).cell? ⟨p, 1, none⟩ = some (.int .i64 b) ∧ (W0.alloc x).cell? ⟨q, 0, none⟩ = some (.int .i64 c) ∧ (W0.alloc x).cell? ⟨q, 1, none⟩ = some (.int .i64 d) ∧ Hid (MW W B p q a b c d pn pr pw qr qw ps pm pb (W0.alloc x)) :=
  MW.of ⟨h.b0.alloc x, h.b1.alloc x, h.b2.alloc x, h.low.alloc (by have := h.b0.lt; have := h.low.size; omega) x⟩
set_option maxRecDepth 100000 in
set_option maxHeartbeats 4000000 in
theorem write_any (w : World) (A Y N : Option Addr) (ca cy cn : Nat) (cs : List R38) (ys ns : List ByteArray) (pn pr pw qr qw : Int) (ps pm pb : Bool) (hl : cs.length ≤ 1000) (hy : ys.length ≤ 1000) (hn : ns.length ≤ 1000) (h1 : Reads w w.heap.size 2 A cs.length (cs.flatMap R38.cells)) (h2 : Reads w w.heap.size 1 Y ys.length (ys.flatMap tc)) (h3 : Reads w w.heap.size 1 N ns.length (ns.flatMap tc)) :
    Calls Try.prog 9 #[.agg #[.int .i64 pn, .int .i64 pr, .int .i64 pw, .int .i64 qr, .int .i64 qw, .bool ps, .bool pm, .bool pb], .slice A cs.length ca, .slice Y ys.length cy, .slice N ns.length cn] w fun e w' => e = .returned (.int .i64 (wrI pw qw (nA (memB ys) cs) (nB (memB ys) cs) (nA (fun s => !inAny [ys, ns] s) cs) (nB (fun s => !inAny [ys, ns] s) cs))) ∧ Below w.heap.size w w' := by
  have HBK := Lib.hid (Blk.new w 23 #[.int .i64 pn, .int .i64 pr, .int .i64 pw, .int .i64 qr, .int .i64 qw, .bool ps, .bool pm, .bool pb])
  have hb := below_lit w (.cells #[.int .i64 pn, .int .i64 pr, .int .i64 pw, .int .i64 qr, .int .i64 qw, .bool ps, .bool pm, .bool pb] 23)
  have H1 := Lib.hid (h1.more_below hb)
  have H2 := Lib.hid (h2.more_below hb)
  have H3 := Lib.hid (h3.more_below hb)
  have HL := Lib.hid hb
  clear h1 h2 h3 hb
  go_enter Try.func9, Try.ntmps9
  go_wp2_with fail
  have hll0 := LL.one (c := cy) H2.out hy
  rw [World.size_alloc] at hll0
  have hll := Lib.hid hll0
  clear hll0
  have hb := below_lit (w.alloc (.cells #[.int .i64 pn, .int .i64 pr, .int .i64 pw, .int .i64 qr, .int .i64 qw, .bool ps, .bool pm, .bool pb] 23)) (.cells #[.slice Y ys.length cy] 25)
  replace HBK := Lib.hid (Blk.below (Hid.out HBK) hb (Hid.out HBK).lt)
  replace H1 := Lib.hid ((Hid.out H1).more_below hb)
  replace H2 := Lib.hid ((Hid.out H2).more_below hb)
  replace H3 := Lib.hid ((Hid.out H3).more_below hb)
  replace HL := Lib.hid ((Hid.out HL).trans (hb.mono (Hid.out HL).size))
  clear hb
  refine (amongN_any _ _ 1 1 [ys] _ rfl (by decide) hll.out).mono ?_
  rintro e w2 ⟨p, rfl, hP, hb⟩
  replace HBK := Lib.hid (Blk.below (Hid.out HBK) hb (Hid.out HBK).lt)
  replace H1 := Lib.hid ((Hid.out H1).more_below hb)
  replace H2 := Lib.hid ((Hid.out H2).more_below hb)
  replace H3 := Lib.hid ((Hid.out H3).more_below hb)
  replace HL := Lib.hid ((Hid.out HL).trans (hb.mono (Hid.out HL).size))
  clear hb
  clear hll
  go_wp2_with fail
  refine (count_any _ A ca cs hl H1.out 24 enters24 p _ hP).mono ?_
  rw [inAny_one]
  rintro e w3 ⟨rfl, hb⟩
  replace HBK := Lib.hid (Blk.below (Hid.out HBK) hb (Hid.out HBK).lt)
  replace H1 := Lib.hid ((Hid.out H1).more_below hb)
  replace H2 := Lib.hid ((Hid.out H2).more_below hb)
  replace H3 := Lib.hid ((Hid.out H3).more_below hb)
  replace HL := Lib.hid ((Hid.out HL).trans (hb.mono (Hid.out HL).size))
  clear hb
  clear hP
  have hcA := cnt_le (memB ys) cs cs.length
  obtain ⟨hcA1, hcA2⟩ := hcA
  change nA (memB ys) cs ≤ _ at hcA1
  change nB (memB ys) cs ≤ _ at hcA2
  generalize hA : nA (memB ys) cs = a at *
  generalize hB : nB (memB ys) cs = b at *
  have HA := Lib.hid hA
  have HB := Lib.hid hB
  clear hA hB
  have HT := Lib.hid (Blk.new w3 43 #[.int .i64 a, .int .i64 b])
  have hb := below_lit w3 (.cells #[.int .i64 a, .int .i64 b] 43)
  have hz3 := HL.out.size
  have hBl := HBK.out.lt
  replace HBK := Lib.hid (Blk.below (Hid.out HBK) hb (Hid.out HBK).lt)
  replace H1 := Lib.hid ((Hid.out H1).more_below hb)
  replace H2 := Lib.hid ((Hid.out H2).more_below hb)
  replace H3 := Lib.hid ((Hid.out H3).more_below hb)
  replace HL := Lib.hid ((Hid.out HL).trans (hb.mono (Hid.out HL).size))
  clear hb
  go_wp2_with fail
  have hll0 := LL.two (c := cy) (d := cn) H2.out H3.out hy hn
  rw [World.size_alloc] at hll0
  have hll := Lib.hid hll0
  clear hll0
  have hb := below_lit (w3.alloc (.cells #[.int .i64 a, .int .i64 b] 43)) (.cells #[.slice Y ys.length cy, .slice N ns.length cn] 25)
  replace HBK := Lib.hid (Blk.below (Hid.out HBK) hb (Hid.out HBK).lt)
  replace HT := Lib.hid (Blk.below (Hid.out HT) hb (Hid.out HT).lt)
  replace H1 := Lib.hid ((Hid.out H1).more_below hb)
  replace HL := Lib.hid ((Hid.out HL).trans (hb.mono (Hid.out HL).size))
  clear hb
  refine (amongN_any _ _ 2 2 [ys, ns] _ rfl (by decide) hll.out).mono ?_
  rintro e w5 ⟨p5, rfl, hP, hb⟩
  replace HBK := Lib.hid (Blk.below (Hid.out HBK) hb (Hid.out HBK).lt)
  replace HT := Lib.hid (Blk.below (Hid.out HT) hb (Hid.out HT).lt)
  replace H1 := Lib.hid ((Hid.out H1).more_below hb)
  replace HL := Lib.hid ((Hid.out HL).trans (hb.mono (Hid.out HL).size))
  clear hb
  clear hll
  go_wp2_with fail
  refine (not_any _ 24 enters24 p5 _ hP).mono ?_
  rintro e w6 ⟨p6, rfl, hP6, hb⟩
  replace HBK := Lib.hid (Blk.below (Hid.out HBK) hb (Hid.out HBK).lt)
  replace HT := Lib.hid (Blk.below (Hid.out HT) hb (Hid.out HT).lt)
  replace H1 := Lib.hid ((Hid.out H1).more_below hb)
  replace HL := Lib.hid ((Hid.out HL).trans (hb.mono (Hid.out HL).size))
  clear hb
  clear hP
  go_wp2_with fail
  refine (count_any _ A ca cs hl H1.out 28 enters28 p6 _ hP6).mono ?_
  rintro e w7 ⟨rfl, hb⟩
  replace HBK := Lib.hid (Blk.below (Hid.out HBK) hb (Hid.out HBK).lt)
  replace HT := Lib.hid (Blk.below (Hid.out HT) hb (Hid.out HT).lt)
  replace HL := Lib.hid ((Hid.out HL).trans (hb.mono (Hid.out HL).size))
  clear hb
  clear hP6 H1
  have hcO := cnt_le (fun s => !inAny [ys, ns] s) cs cs.length
  obtain ⟨hcO1, hcO2⟩ := hcO
  change nA (fun s => !inAny [ys, ns] s) cs ≤ _ at hcO1
  change nB (fun s => !inAny [ys, ns] s) cs ≤ _ at hcO2
  generalize hC : nA (fun s => !inAny [ys, ns] s) cs = c at *
  generalize hD : nB (fun s => !inAny [ys, ns] s) cs = d at *
  have HC := Lib.hid hC
  have HD := Lib.hid hD
  clear hC hD
  have k2 : w7.cell? ⟨w.heap.size, 2, none⟩ = some (.int .i64 pw) := HBK.out.cell 2
  have k4 : w7.cell? ⟨w.heap.size, 4, none⟩ = some (.int .i64 qw) := HBK.out.cell 4
  have l0 : w7.cell? ⟨w3.heap.size, 0, none⟩ = some (.int .i64 a) := HT.out.cell 0
  have l1 : w7.cell? ⟨w3.heap.size, 1, none⟩ = some (.int .i64 b) := HT.out.cell 1
  have hlt1 := HBK.out.lt
  have hlt2 := HT.out.lt
  have HU := Lib.hid (Blk.new w7 43 #[.int .i64 c, .int .i64 d])
  have hb := below_lit w7 (.cells #[.int .i64 c, .int .i64 d] 43)
  replace HBK := Lib.hid (Blk.below (Hid.out HBK) hb (Hid.out HBK).lt)
  replace HT := Lib.hid (Blk.below (Hid.out HT) hb (Hid.out HT).lt)
  replace HL := Lib.hid ((Hid.out HL).trans (hb.mono (Hid.out HL).size))
  clear hb
  have hM : Hid (MW w w.heap.size w3.heap.size w7.heap.size a b c d pn pr pw qr qw ps pm pb (w7.alloc (.cells #[.int .i64 c, .int .i64 d] 43))) := ⟨HBK.out, HT.out, HU.out, HL.out⟩
  clear HBK HT HU HL hz3
  cases hE : (decide (pw ≤ (a : Int)) && decide (qw ≤ (b : Int))) with
  | true =>
    have HE := Lib.hid hE
    clear hE
    go_wp2_with fail
    refine (enough_any a b pw qw _).mono ?_
    rw [HE.out]
    rintro e w9 ⟨rfl, hb⟩
    have HF := Lib.hid (hM.out.low.trans (hb.mono hM.out.low.size))
    go_wp2
    go_ret
    exact ⟨ret_int (by rw [HA.out, HB.out, HC.out, HD.out]; unfold wrI; rw [HE.out]; rfl), HF.out⟩
  | false =>
    have HE := Lib.hid hE
    clear hE
    go_wp2_with fail
    refine (enough_any a b pw qw _).mono ?_
    rw [HE.out]
    rintro e w9 ⟨rfl, hb⟩
    have hM9 := MW.step hb hM
    clear hM hb k2 k4 l0 l1 hlt1 hlt2
    generalize w7.heap.size = q at *
    generalize w3.heap.size = p9 at *
    have test := MW.drew hM9.2.2.2.2.2.2.2.2.2.2.2.2
    clear hM9
    cases hG : (decide (pw ≤ (a : Int) + c) && decide (qw ≤ (b : Int) + d)) with
    | true =>
      have HG := Lib.hid hG
      clear hG
      go_wp2_with fail
      refine wp_region_held_drew (S := (fun w' => w'.cell? ⟨w.heap.size, 0, none⟩ = some (.int .i64 pn) ∧ w'.cell? ⟨w.heap.size, 1, none⟩ = some (.int .i64 pr) ∧ w'.cell? ⟨w.heap.size, 2, none⟩ = some (.int .i64 pw) ∧ w'.cell? ⟨w.heap.size, 3, none⟩ = some (.int .i64 qr) ∧ w'.cell? ⟨w.heap.size, 4, none⟩ = some (.int .i64 qw) ∧ w'.cell? ⟨w.heap.size, 5, none⟩ = some (.bool ps) ∧ w'.cell? ⟨w.heap.size, 6, none⟩ = some (.bool pm) ∧ w'.cell? ⟨w.heap.size, 7, none⟩ = some (.bool pb) ∧ w'.cell? ⟨p9, 0, none⟩ = some (.int .i64 a) ∧ w'.cell? ⟨p9, 1, none⟩ = some (.int .i64 b) ∧ w'.cell? ⟨q, 0, none⟩ = some (.int .i64 c) ∧ w'.cell? ⟨q, 1, none⟩ = some (.int .i64 d) ∧ Hid (MW (w) (w.heap.size) (p9) q a b c d pn pr pw qr qw ps pm pb w'))) (by kernel_rfl) ?_ (fun hHeldp0 => ?_)
      · exact test
      refine wpAnyH_take (i := 0) (v := ?vp0) ops0 (by kernel_rfl) (by kernel_rfl) (by kernel_rfl) (fun _ _ _ h => h) (Or.inl ⟨by rfl, ?yp0⟩) hHeldp0 ?_
      case yp0 => (intro w hSw; (try dsimp only at hSw); go_simp; try (with_reducible rfl))
      try simp only [Act.put, List.setIfInBounds_toArray, List.set_cons_zero, List.set_cons_succ]
      refine wpAnyH_take (i := 1) (v := ?vp1) (opsS ops0) (by kernel_rfl) (by kernel_rfl) (by kernel_rfl) (fun _ _ _ h => h) (Or.inl ⟨by rfl, ?yp1⟩) hHeldp0 ?_
      case yp1 => (intro w hSw; (try dsimp only at hSw); go_simp; try (with_reducible rfl))
      try simp only [Act.put, List.setIfInBounds_toArray, List.set_cons_zero, List.set_cons_succ]
      refine wpAnyH_take (i := 3) (v := ?vp3) (opsS (opsS (opsS ops0))) (by kernel_rfl) (by kernel_rfl) (by kernel_rfl) (fun _ _ _ h => h) (Or.inl ⟨by rfl, ?yp3⟩) hHeldp0 ?_
      case yp3 => (intro w hSw; (try dsimp only at hSw); go_simp; try (with_reducible rfl))
      try simp only [Act.put, List.setIfInBounds_toArray, List.set_cons_zero, List.set_cons_succ]
      refine wpAnyH_take (i := 4) (v := ?vp4) (opsS (opsS (opsS (opsS ops0)))) (by kernel_rfl) (by kernel_rfl) (by kernel_rfl) (fun _ _ _ h => h) (Or.inl ⟨by rfl, ?yp4⟩) hHeldp0 ?_
      case yp4 => (intro w hSw; (try dsimp only at hSw); go_simp; try (with_reducible rfl))
      try simp only [Act.put, List.setIfInBounds_toArray, List.set_cons_zero, List.set_cons_succ]
      refine wpAnyH_take (i := 5) (v := ?vp5) (opsS (opsS (opsS (opsS (opsS ops0))))) (by kernel_rfl) (by kernel_rfl) (by kernel_rfl) (fun _ _ _ h => h) (Or.inl ⟨by rfl, ?yp5⟩) hHeldp0 ?_
      case yp5 => (intro w hSw; (try dsimp only at hSw); go_simp; try (with_reducible rfl))
      try simp only [Act.put, List.setIfInBounds_toArray, List.set_cons_zero, List.set_cons_succ]
      refine wpAnyH_take (i := 6) (v := ?vp6) (opsS (opsS (opsS (opsS (opsS (opsS ops0)))))) (by kernel_rfl) (by kernel_rfl) (by kernel_rfl) (fun _ _ _ h => h) (Or.inl ⟨by rfl, ?yp6⟩) hHeldp0 ?_
      case yp6 => (intro w hSw; (try dsimp only at hSw); go_simp; try (with_reducible rfl))
      try simp only [Act.put, List.setIfInBounds_toArray, List.set_cons_zero, List.set_cons_succ]
      refine wpAnyH_ready (rs := [2]) (by kernel_rfl) (by simp) ?_
      refine AllReadyH.cons (opsS (opsS ops0)) (fun K hK => ?_) AllReadyH.nil
      go_simp
      refine (and_any a b c d _ (by omega) (by omega) (by omega) (by omega)).mono ?_; rintro e w' ⟨rfl, hb⟩
      try dsimp only
      refine hK.out _ _ ?_ (fun hHeldp1 => ?_)
      · (first | assumption | exact MW.drew (by assumption) | (go_split_ands; exact MW.drew (by assumption)) | (go_split_ands; exact MW.step (by assumption) (by assumption)) | (go_split_ands; exact MW.alloc (by assumption) _))
      clear hK K hHeldp0
      try clear hb
      try simp only [Act.put, List.setIfInBounds_toArray, List.set_cons_zero, List.set_cons_succ]
      refine wpAnyH_ready (rs := [7]) (by kernel_rfl) (by simp) ?_
      refine AllReadyH.cons (opsS (opsS (opsS (opsS (opsS (opsS (opsS ops0))))))) (fun K hK => ?_) AllReadyH.nil
      go_simp
      refine (enough_any _ _ pw qw _).mono ?_; rw [HG.out]; rintro e w' ⟨rfl, hb⟩
      try dsimp only
      refine hK.out _ _ ?_ (fun hHeldp2 => ?_)
      · (first | assumption | exact MW.drew (by assumption) | (go_split_ands; exact MW.drew (by assumption)) | (go_split_ands; exact MW.step (by assumption) (by assumption)) | (go_split_ands; exact MW.alloc (by assumption) _))
      clear hK K hHeldp1
      try clear hb
      try simp only [Act.put, List.setIfInBounds_toArray, List.set_cons_zero, List.set_cons_succ]
      refine wpAnyH_take (i := 8) (v := ?vp8) (opsS (opsS (opsS (opsS (opsS (opsS (opsS (opsS ops0)))))))) (by kernel_rfl) (by kernel_rfl) (by kernel_rfl) (fun _ _ _ h => h) (Or.inl ⟨by rfl, ?yp8⟩) hHeldp2 ?_
      case yp8 => (intro w hSw; (try dsimp only at hSw); go_simp; try (with_reducible rfl))
      try simp only [Act.put, List.setIfInBounds_toArray, List.set_cons_zero, List.set_cons_succ]
      refine wpAnyH_take (i := 9) (v := ?vp9) (opsS (opsS (opsS (opsS (opsS (opsS (opsS (opsS (opsS ops0))))))))) (by kernel_rfl) (by kernel_rfl) (by kernel_rfl) (fun _ _ _ h => h) (Or.inl ⟨by rfl, ?yp9⟩) hHeldp2 ?_
      case yp9 => (intro w hSw; (try dsimp only at hSw); go_simp; try (with_reducible rfl))
      try simp only [Act.put, List.setIfInBounds_toArray, List.set_cons_zero, List.set_cons_succ]
      refine wpAnyH_done (by kernel_rfl) ?_ _
      have hfin := hHeldp2.2.2.2.2.2.2.2.2.2.2.2.2.low
      have HF := Lib.hid hfin
      clear hHeldp2 test hfin
      go_wp2
      go_ret
      exact ⟨ret_int (by rw [HA.out, HB.out, HC.out, HD.out]; unfold wrI; rw [HE.out, HG.out]; rfl), HF.out⟩
    | false =>
      have HG := Lib.hid hG
      clear hG
      go_wp2_with fail
      refine wp_region_held_drew (S := (fun w' => w'.cell? ⟨w.heap.size, 0, none⟩ = some (.int .i64 pn) ∧ w'.cell? ⟨w.heap.size, 1, none⟩ = some (.int .i64 pr) ∧ w'.cell? ⟨w.heap.size, 2, none⟩ = some (.int .i64 pw) ∧ w'.cell? ⟨w.heap.size, 3, none⟩ = some (.int .i64 qr) ∧ w'.cell? ⟨w.heap.size, 4, none⟩ = some (.int .i64 qw) ∧ w'.cell? ⟨w.heap.size, 5, none⟩ = some (.bool ps) ∧ w'.cell? ⟨w.heap.size, 6, none⟩ = some (.bool pm) ∧ w'.cell? ⟨w.heap.size, 7, none⟩ = some (.bool pb) ∧ w'.cell? ⟨p9, 0, none⟩ = some (.int .i64 a) ∧ w'.cell? ⟨p9, 1, none⟩ = some (.int .i64 b) ∧ w'.cell? ⟨q, 0, none⟩ = some (.int .i64 c) ∧ w'.cell? ⟨q, 1, none⟩ = some (.int .i64 d) ∧ Hid (MW (w) (w.heap.size) (p9) q a b c d pn pr pw qr qw ps pm pb w'))) (by kernel_rfl) ?_ (fun hHeldq0 => ?_)
      · exact test
      refine wpAnyH_take (i := 0) (v := ?vq0) ops0 (by kernel_rfl) (by kernel_rfl) (by kernel_rfl) (fun _ _ _ h => h) (Or.inl ⟨by rfl, ?yq0⟩) hHeldq0 ?_
      case yq0 => (intro w hSw; (try dsimp only at hSw); go_simp; try (with_reducible rfl))
      try simp only [Act.put, List.setIfInBounds_toArray, List.set_cons_zero, List.set_cons_succ]
      refine wpAnyH_take (i := 1) (v := ?vq1) (opsS ops0) (by kernel_rfl) (by kernel_rfl) (by kernel_rfl) (fun _ _ _ h => h) (Or.inl ⟨by rfl, ?yq1⟩) hHeldq0 ?_
      case yq1 => (intro w hSw; (try dsimp only at hSw); go_simp; try (with_reducible rfl))
      try simp only [Act.put, List.setIfInBounds_toArray, List.set_cons_zero, List.set_cons_succ]
      refine wpAnyH_take (i := 3) (v := ?vq3) (opsS (opsS (opsS ops0))) (by kernel_rfl) (by kernel_rfl) (by kernel_rfl) (fun _ _ _ h => h) (Or.inl ⟨by rfl, ?yq3⟩) hHeldq0 ?_
      case yq3 => (intro w hSw; (try dsimp only at hSw); go_simp; try (with_reducible rfl))
      try simp only [Act.put, List.setIfInBounds_toArray, List.set_cons_zero, List.set_cons_succ]
      refine wpAnyH_take (i := 4) (v := ?vq4) (opsS (opsS (opsS (opsS ops0)))) (by kernel_rfl) (by kernel_rfl) (by kernel_rfl) (fun _ _ _ h => h) (Or.inl ⟨by rfl, ?yq4⟩) hHeldq0 ?_
      case yq4 => (intro w hSw; (try dsimp only at hSw); go_simp; try (with_reducible rfl))
      try simp only [Act.put, List.setIfInBounds_toArray, List.set_cons_zero, List.set_cons_succ]
      refine wpAnyH_take (i := 5) (v := ?vq5) (opsS (opsS (opsS (opsS (opsS ops0))))) (by kernel_rfl) (by kernel_rfl) (by kernel_rfl) (fun _ _ _ h => h) (Or.inl ⟨by rfl, ?yq5⟩) hHeldq0 ?_
      case yq5 => (intro w hSw; (try dsimp only at hSw); go_simp; try (with_reducible rfl))
      try simp only [Act.put, List.setIfInBounds_toArray, List.set_cons_zero, List.set_cons_succ]
      refine wpAnyH_take (i := 6) (v := ?vq6) (opsS (opsS (opsS (opsS (opsS (opsS ops0)))))) (by kernel_rfl) (by kernel_rfl) (by kernel_rfl) (fun _ _ _ h => h) (Or.inl ⟨by rfl, ?yq6⟩) hHeldq0 ?_
      case yq6 => (intro w hSw; (try dsimp only at hSw); go_simp; try (with_reducible rfl))
      try simp only [Act.put, List.setIfInBounds_toArray, List.set_cons_zero, List.set_cons_succ]
      refine wpAnyH_ready (rs := [2]) (by kernel_rfl) (by simp) ?_
      refine AllReadyH.cons (opsS (opsS ops0)) (fun K hK => ?_) AllReadyH.nil
      go_simp
      refine (and_any a b c d _ (by omega) (by omega) (by omega) (by omega)).mono ?_; rintro e w' ⟨rfl, hb⟩
      try dsimp only
      refine hK.out _ _ ?_ (fun hHeldq1 => ?_)
      · (first | assumption | exact MW.drew (by assumption) | (go_split_ands; exact MW.drew (by assumption)) | (go_split_ands; exact MW.step (by assumption) (by assumption)) | (go_split_ands; exact MW.alloc (by assumption) _))
      clear hK K hHeldq0
      try clear hb
      try simp only [Act.put, List.setIfInBounds_toArray, List.set_cons_zero, List.set_cons_succ]
      refine wpAnyH_ready (rs := [7]) (by kernel_rfl) (by simp) ?_
      refine AllReadyH.cons (opsS (opsS (opsS (opsS (opsS (opsS (opsS ops0))))))) (fun K hK => ?_) AllReadyH.nil
      go_simp
      refine (enough_any _ _ pw qw _).mono ?_; rw [HG.out]; rintro e w' ⟨rfl, hb⟩
      try dsimp only
      refine hK.out _ _ ?_ (fun hHeldq2 => ?_)
      · (first | assumption | exact MW.drew (by assumption) | (go_split_ands; exact MW.drew (by assumption)) | (go_split_ands; exact MW.step (by assumption) (by assumption)) | (go_split_ands; exact MW.alloc (by assumption) _))
      clear hK K hHeldq1
      try clear hb
      try simp only [Act.put, List.setIfInBounds_toArray, List.set_cons_zero, List.set_cons_succ]
      refine wpAnyH_take (i := 8) (v := ?vq8) (opsS (opsS (opsS (opsS (opsS (opsS (opsS (opsS ops0)))))))) (by kernel_rfl) (by kernel_rfl) (by kernel_rfl) (fun _ _ _ h => h) (Or.inl ⟨by rfl, ?yq8⟩) hHeldq2 ?_
      case yq8 => (intro w hSw; (try dsimp only at hSw); go_simp; try (with_reducible rfl))
      try simp only [Act.put, List.setIfInBounds_toArray, List.set_cons_zero, List.set_cons_succ]
      refine wpAnyH_take (i := 9) (v := ?vq9) (opsS (opsS (opsS (opsS (opsS (opsS (opsS (opsS (opsS ops0))))))))) (by kernel_rfl) (by kernel_rfl) (by kernel_rfl) (fun _ _ _ h => h) (Or.inl ⟨by rfl, ?yq9⟩) hHeldq2 ?_
      case yq9 => (intro w hSw; (try dsimp only at hSw); go_simp; try (with_reducible rfl))
      try simp only [Act.put, List.setIfInBounds_toArray, List.set_cons_zero, List.set_cons_succ]
      refine wpAnyH_done (by kernel_rfl) ?_ _
      have hfin := hHeldq2.2.2.2.2.2.2.2.2.2.2.2.2.low
      have HF := Lib.hid hfin
      clear hHeldq2 test hfin
      go_wp2
      go_ret
      exact ⟨ret_int (by rw [HA.out, HB.out, HC.out, HD.out]; unfold wrI; rw [HE.out, HG.out]; rfl), HF.out⟩
end Go.Proofs.Ytcbfcmnnahbblaa.quorum
