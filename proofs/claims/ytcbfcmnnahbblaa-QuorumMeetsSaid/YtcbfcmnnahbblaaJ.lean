/- The walk of QuorumIs. -/
import Derived.Test.YtcbfcmnnahbblaaI
namespace Go.Proofs.Ytcbfcmnnahbblaa.quorum
open Go.ChangeShapes Go.WideShapes Go.ChangeAt Go.RowKit Go.Proofs.Aid Go.Proofs.Ytcbfcmnnahbblaa.texts
def rvI (pr qr : Int) (pm pb : Bool) (cs : List R38) (fs ms ns : List ByteArray) : Int := rdI pr qr pb cs.length (nA (inAny (cond pm [fs, ms] [fs])) cs) (nB (inAny (cond pm [fs, ms] [fs])) cs) (nA (fun s => !inAny [fs, ms, ns] s) cs) (nB (fun s => !inAny [fs, ms, ns] s) cs) (nA (memB fs) cs) (nA (memB ms) cs)
theorem read_all (w : World) (A FF M N : Option Addr) (ca cf cm cn : Nat) (cs : List R38) (fs ms ns : List ByteArray) (pn pr pw qr qw : Int) (ps pm pb : Bool) (hl : cs.length ≤ 1000) (hf : fs.length ≤ 1000) (hm : ms.length ≤ 1000) (hn : ns.length ≤ 1000) (h1 : Reads w w.heap.size 2 A cs.length (cs.flatMap R38.cells)) (h2 : Reads w w.heap.size 1 FF fs.length (fs.flatMap tc)) (h3 : Reads w w.heap.size 1 M ms.length (ms.flatMap tc)) (h4 : Reads w w.heap.size 1 N ns.length (ns.flatMap tc)) :
    Calls Try.prog 11 #[.agg #[.int .i64 pn, .int .i64 pr, .int .i64 pw, .int .i64 qr, .int .i64 qw, .bool ps, .bool pm, .bool pb], .slice A cs.length ca, .slice FF fs.length cf, .slice M ms.length cm, .slice N ns.length cn] w fun e w' => e = .returned (.int .i64 (rvI pr qr pm pb cs fs ms ns)) ∧ Below w.heap.size w w' := by
  cases pm
  · exact read_no w A FF M N ca cf cm cn cs fs ms ns pn pr pw qr qw ps pb hl hf hm hn h1 h2 h3 h4
  · exact read_yes w A FF M N ca cf cm cn cs fs ms ns pn pr pw qr qw ps pb hl hf hm hn h1 h2 h3 h4
theorem rread_all (w : World) (A FF M N : Option Addr) (ca cf cm cn : Nat) (cs : List R38) (fs ms ns : List ByteArray) (pn pr pw qr qw : Int) (ps pm pb : Bool) (hl : cs.length ≤ 1000) (hf : fs.length ≤ 1000) (hm : ms.length ≤ 1000) (hn : ns.length ≤ 1000) (h1 : Reads w w.heap.size 2 A cs.length (cs.flatMap R38.cells)) (h2 : Reads w w.heap.size 1 FF fs.length (fs.flatMap tc)) (h3 : Reads w w.heap.size 1 M ms.length (ms.flatMap tc)) (h4 : Reads w w.heap.size 1 N ns.length (ns.flatMap tc)) :
    Calls Try.prog 12 #[.agg #[.int .i64 pn, .int .i64 pr, .int .i64 pw, .int .i64 qr, .int .i64 qw, .bool ps, .bool pm, .bool pb], .slice A cs.length ca, .slice FF fs.length cf, .slice M ms.length cm, .slice N ns.length cn] w fun e w' => e = .returned (.int .i64 (rvI pr qr pm pb cs fs ms ns)) ∧ Below w.heap.size w w' := by
  cases pm
  · exact rread_no w A FF M N ca cf cm cn cs fs ms ns pn pr pw qr qw ps pb hl hf hm hn h1 h2 h3 h4
  · exact rread_yes w A FF M N ca cf cm cn cs fs ms ns pn pr pw qr qw ps pb hl hf hm hn h1 h2 h3 h4
structure QW (W : World) (p l : Nat) (X Y Z : Option Addr) (nx ny nz cx cy cz : Nat) (pn pr pw qr qw : Int) (ps pm pb : Bool) (w' : World) : Prop where
  b0 : Blk w' (p) 23 #[.int .i64 pn, .int .i64 pr, .int .i64 pw, .int .i64 qr, .int .i64 qw, .bool ps, .bool pm, .bool pb]
  b1 : Blk w' (l) 26 #[.slice X nx cx, .slice Y ny cy, .slice Z nz cz]
  low : Below (p) W w'
theorem QW.of {W : World} {p l : Nat} {X Y Z : Option Addr} {nx ny nz cx cy cz : Nat} {pn pr pw qr qw : Int} {ps pm pb : Bool} {w' : World} (h : QW W p l X Y Z nx ny nz cx cy cz pn pr pw qr qw ps pm pb w') : w'.cell? ⟨p, 0, none⟩ = some (.int .i64 pn) ∧ w'.cell? ⟨p, 1, none⟩ = some (.int .i64 pr) ∧ w'.cell? ⟨p, 2, none⟩ = some (.int .i64 pw) ∧ w'.cell? ⟨p, 3, none⟩ = some (.int .i64 qr) ∧ w'.cell? ⟨p, 4, none⟩ = some (.int .i64 qw) ∧ w'.cell? ⟨p, 5, none⟩ = some (.bool ps) ∧ w'.cell? ⟨p, 6, none⟩ = some (.bool pm) ∧ w'.cell? ⟨p, 7, none⟩ = some (.bool pb) ∧ w'.cell? ⟨l, 0, none⟩ = some (.slice X nx cx) ∧ w'.cell? ⟨l, 1, none⟩ = some (.slice Y ny cy) ∧ w'.cell? ⟨l, 2, none⟩ = some (.slice Z nz cz) ∧ Hid (QW W p l X Y Z nx ny nz cx cy cz pn pr pw qr qw ps pm pb w') :=
  ⟨by rw [h.b0.cell]; rfl, by rw [h.b0.cell]; rfl, by rw [h.b0.cell]; rfl, by rw [h.b0.cell]; rfl, by rw [h.b0.cell]; rfl, by rw [h.b0.cell]; rfl, by rw [h.b0.cell]; rfl, by rw [h.b0.cell]; rfl, by rw [h.b1.cell]; rfl, by rw [h.b1.cell]; rfl, by rw [h.b1.cell]; rfl, h⟩
theorem QW.step0 {W : World} {p l : Nat} {X Y Z : Option Addr} {nx ny nz cx cy cz : Nat} {pn pr pw qr qw : Int} {ps pm pb : Bool} {W0 w' : World} (hb : Below W0.heap.size W0 w') (h : QW W p l X Y Z nx ny nz cx cy cz pn pr pw qr qw ps pm pb W0) : QW W p l X Y Z nx ny nz cx cy cz pn pr pw qr qw ps pm pb w' :=
  ⟨h.b0.below hb h.b0.lt, h.b1.below hb h.b1.lt, h.low.trans (hb.mono (by have := h.b0.lt; have := h.low.size; omega))⟩
theorem QW.step {W : World} {p l : Nat} {X Y Z : Option Addr} {nx ny nz cx cy cz : Nat} {pn pr pw qr qw : Int} {ps pm pb : Bool} {W0 w' : World} (hb : Below W0.heap.size W0 w') (h : Hid (QW W p l X Y Z nx ny nz cx cy cz pn pr pw qr qw ps pm pb W0)) : w'.cell? ⟨p, 0, none⟩ = some (.int .i64 pn) ∧ w'.cell? ⟨p, 1, none⟩ = some (.int .i64 pr) ∧ w'.cell? ⟨p, 2, none⟩ = some (.int .i64 pw) ∧ w'.cell? ⟨p, 3, none⟩ = some (.int .i64 qr) ∧ w'.cell? ⟨p, 4, none⟩ = some (.int .i64 qw) ∧ w'.cell? ⟨p, 5, none⟩ = some (.bool ps) ∧ w'.cell? ⟨p, 6, none⟩ = some (.bool pm) ∧ w'.cell? ⟨p, 7, none⟩ = some (.bool pb) ∧ w'.cell? ⟨l, 0, none⟩ = some (.slice X nx cx) ∧ w'.cell? ⟨l, 1, none⟩ = some (.slice Y ny cy) ∧ w'.cell? ⟨l, 2, none⟩ = some (.slice Z nz cz) ∧ Hid (QW W p l X Y Z nx ny nz cx cy cz pn pr pw qr qw ps pm pb w') :=
  QW.of (QW.step0 hb h)
theorem QW.drew {W : World} {p l : Nat} {X Y Z : Option Addr} {nx ny nz cx cy cz : Nat} {pn pr pw qr qw : Int} {ps pm pb : Bool} {W0 : World} (h : Hid (QW W p l X Y Z nx ny nz cx cy cz pn pr pw qr qw ps pm pb W0)) : W0.drew.cell? ⟨p, 0, none⟩ = some (.int .i64 pn) ∧ W0.drew.cell? ⟨p, 1, none⟩ = some (.int .i64 pr) ∧ W0.drew.cell? ⟨p, 2, none⟩ = some (.int .i64 pw) ∧ W0.drew.cell? ⟨p, 3, none⟩ = some (.int .i64 qr) ∧ W0.drew.cell? ⟨p, 4, none⟩ = some (.int .i64 qw) ∧ W0.drew.cell? ⟨p, 5, none⟩ = some (.bool ps) ∧ W0.drew.cell? ⟨p, 6, none⟩ = some (.bool pm) ∧ W0.drew.cell? ⟨p, 7, none⟩ = some (.bool pb) ∧ W0.drew.cell? ⟨l, 0, none⟩ = some (.slice X nx cx) ∧ W0.drew.cell? ⟨l, 1, none⟩ = some (.slice Y ny cy) ∧ W0.drew.cell? ⟨l, 2, none⟩ = some (.slice Z nz cz) ∧ Hid (QW W p l X Y Z nx ny nz cx cy cz pn pr pw qr qw ps pm pb W0.drew) :=
  QW.of ⟨h.b0, h.b1, h.low.drew⟩
theorem QW.alloc {W : World} {p l : Nat} {X Y Z : Option Addr} {nx ny nz cx cy cz : Nat} {pn pr pw qr qw : Int} {ps pm pb : Bool} {W0 : World} (h : Hid (QW W p l X Y Z nx ny nz cx cy cz pn pr pw qr qw ps pm pb W0)) (x : Obj) : (W0.alloc x).cell? ⟨p, 0, none⟩ = some (.int .i64 pn) ∧ (W0.alloc x).cell? ⟨p, 1, none⟩ = some (.int .i64 pr) ∧ (W0.alloc x).cell? ⟨p, 2, none⟩ = some (.int .i64 pw) ∧ (W0.alloc x).cell? ⟨p, 3, none⟩ = some (.int .i64 qr) ∧ (W0.alloc x).cell? ⟨p, 4, none⟩ = some (.int .i64 qw) ∧ (W0.alloc x).cell? ⟨p, 5, none⟩ = some (.bool ps) ∧ (W0.alloc x).cell? ⟨p, 6, none⟩ = some (.bool pm) ∧ (W0.alloc x).cell? ⟨p, 7, none⟩ = some (.bool pb) ∧ (W0.alloc x).cell? ⟨l, 0, none⟩ = some (.slice X nx cx) ∧ (W0.alloc x).cell? ⟨l, 1, none⟩ = some (.slice Y ny cy) ∧ (W0.alloc x).cell? ⟨l, 2, none⟩ = some (.slice Z nz cz) ∧ Hid (QW W p l X Y Z nx ny nz cx cy cz pn pr pw qr qw ps pm pb (W0.alloc x)) :=
  QW.of ⟨h.b0.alloc x, h.b1.alloc x, h.low.alloc (by have := h.b0.lt; have := h.low.size; omega) x⟩
theorem QW.rd {W : World} {p l : Nat} {X Y Z : Option Addr} {nx ny nz cx cy cz : Nat} {pn pr pw qr qw : Int} {ps pm pb : Bool} {w' : World} {s n : Nat} {A : Option Addr} {L : List Value} (h : Reads W p s A n L) (hq : Hid (QW W p l X Y Z nx ny nz cx cy cz pn pr pw qr qw ps pm pb w')) : Reads w' w'.heap.size s A n L :=
  Reads.more (h.below hq.out.low) (by have := hq.out.b0.lt; omega)
theorem start0 (W : World) (A X Y Z : Option Addr) (ca cx cy cz : Nat) (xs ys zs : List ByteArray) (pn pr pw qr qw : Int) (ps pm pb : Bool) (hX : Reads W W.heap.size 1 X xs.length (xs.flatMap tc)) (hY : Reads W W.heap.size 1 Y ys.length (ys.flatMap tc)) (hZ : Reads W W.heap.size 1 Z zs.length (zs.flatMap tc))
    (lx : xs.length ≤ maxLen) (ly : ys.length ≤ maxLen) (lz : zs.length ≤ maxLen) (sx : ∀ s ∈ xs, s.size ≤ maxLen) (sy : ∀ s ∈ ys, s.size ≤ maxLen) (sz : ∀ s ∈ zs, s.size ≤ maxLen) :
    QW W W.heap.size (W.heap.size + 1) X Y Z xs.length ys.length zs.length cx cy cz pn pr pw qr qw ps pm pb (((W.alloc (.cells #[.int .i64 pn, .int .i64 pr, .int .i64 pw, .int .i64 qr, .int .i64 qw, .bool ps, .bool pm, .bool pb] 23)).alloc (.cells #[.slice X xs.length cx, .slice Y ys.length cy, .slice Z zs.length cz] 26)).alloc (.cells #[.slice X xs.length cx, .slice Y ys.length cy, .slice Z zs.length cz] 25)) ∧ LM (((W.alloc (.cells #[.int .i64 pn, .int .i64 pr, .int .i64 pw, .int .i64 qr, .int .i64 qw, .bool ps, .bool pm, .bool pb] 23)).alloc (.cells #[.slice X xs.length cx, .slice Y ys.length cy, .slice Z zs.length cz] 26)).alloc (.cells #[.slice X xs.length cx, .slice Y ys.length cy, .slice Z zs.length cz] 25)) (some ⟨W.heap.size + 1 + 1, 0, none⟩) [xs, ys, zs] := by
  have B1 := Blk.new W 23 #[.int .i64 pn, .int .i64 pr, .int .i64 pw, .int .i64 qr, .int .i64 qw, .bool ps, .bool pm, .bool pb]
  have B2 := Blk.new (W.alloc (.cells #[.int .i64 pn, .int .i64 pr, .int .i64 pw, .int .i64 qr, .int .i64 qw, .bool ps, .bool pm, .bool pb] 23)) 26 #[.slice X xs.length cx, .slice Y ys.length cy, .slice Z zs.length cz]
  have B3 := Blk.new ((W.alloc (.cells #[.int .i64 pn, .int .i64 pr, .int .i64 pw, .int .i64 qr, .int .i64 qw, .bool ps, .bool pm, .bool pb] 23)).alloc (.cells #[.slice X xs.length cx, .slice Y ys.length cy, .slice Z zs.length cz] 26)) 25 #[.slice X xs.length cx, .slice Y ys.length cy, .slice Z zs.length cz]
  rw [World.size_alloc] at B2
  rw [show ((W.alloc (.cells #[.int .i64 pn, .int .i64 pr, .int .i64 pw, .int .i64 qr, .int .i64 qw, .bool ps, .bool pm, .bool pb] 23)).alloc (.cells #[.slice X xs.length cx, .slice Y ys.length cy, .slice Z zs.length cz] 26)).heap.size = W.heap.size + 1 + 1 by rw [World.size_alloc, World.size_alloc]] at B3
  have HL : Below W.heap.size W (((W.alloc (.cells #[.int .i64 pn, .int .i64 pr, .int .i64 pw, .int .i64 qr, .int .i64 qw, .bool ps, .bool pm, .bool pb] 23)).alloc (.cells #[.slice X xs.length cx, .slice Y ys.length cy, .slice Z zs.length cz] 26)).alloc (.cells #[.slice X xs.length cx, .slice Y ys.length cy, .slice Z zs.length cz] 25)) := ((below_lit W _).trans ((below_lit _ _).mono (by rw [World.size_alloc]; omega))).trans ((below_lit _ _).mono (by rw [World.size_alloc, World.size_alloc]; omega))
  refine ⟨⟨(B1.alloc _).alloc _, B2.alloc _, HL⟩, ⟨fun i hi => ?_⟩⟩
  have : i = 0 ∨ i = 1 ∨ i = 2 := by simp at hi; omega
  have ad : ∀ k, (⟨W.heap.size + 1 + 1, 0, none⟩ : Addr).add k = ⟨W.heap.size + 1 + 1, k, none⟩ := fun k => by rw [Addr.add_lit, Nat.zero_add]
  rcases this with rfl | rfl | rfl
  · exact ⟨_, X, cx, rfl, B3.cell 0, hX.more_below HL, lx, sx⟩
  · exact ⟨_, Y, cy, rfl, by rw [ad]; exact B3.cell 1, hY.more_below HL, ly, sy⟩
  · exact ⟨_, Z, cz, rfl, by rw [ad]; exact B3.cell 2, hZ.more_below HL, lz, sz⟩
set_option maxRecDepth 100000 in
set_option maxHeartbeats 8000000 in
theorem is_walk (W : World) (A X Y Z : Option Addr) (ca cx cy cz : Nat) (cs : List R38) (xs ys zs : List ByteArray) (pn pr pw qr qw : Int) (ps pm pb : Bool) (h1 : Reads W W.heap.size 2 A cs.length (cs.flatMap R38.cells)) (hX : Reads W W.heap.size 1 X xs.length (xs.flatMap tc)) (hY : Reads W W.heap.size 1 Y ys.length (ys.flatMap tc)) (hZ : Reads W W.heap.size 1 Z zs.length (zs.flatMap tc))
    (lc : cs.length ≤ maxLen) (lx : xs.length ≤ maxLen) (ly : ys.length ≤ maxLen) (lz : zs.length ≤ maxLen) (sc : ∀ c ∈ cs, c.node_.size ≤ maxLen) (sx : ∀ s ∈ xs, s.size ≤ maxLen) (sy : ∀ s ∈ ys, s.size ≤ maxLen) (sz : ∀ s ∈ zs, s.size ≤ maxLen) :
    Calls Try.prog 3 #[.agg #[.int .i64 pn, .int .i64 pr, .int .i64 pw, .int .i64 qr, .int .i64 qw, .bool ps, .bool pm, .bool pb], .slice A cs.length ca, .agg #[.slice X xs.length cx, .slice Y ys.length cy, .slice Z zs.length cz]] W fun e w' => e = .returned (.bool true) ∧ Below W.heap.size W w' := by
  obtain ⟨hq, hlm⟩ := start0 W A X Y Z ca cx cy cz xs ys zs pn pr pw qr qw ps pm pb hX hY hZ lx ly lz sx sy sz
  have HQ := Lib.hid hq
  have HLM := Lib.hid hlm
  have H1 := Lib.hid h1
  have HX := Lib.hid hX
  have HY := Lib.hid hY
  have HZ := Lib.hid hZ
  have LC := Lib.hid lc
  have SC := Lib.hid sc
  clear hq hlm h1 hX hY hZ lc lx ly lz sc sx sy sz
  go_enter Try.func3, Try.ntmps3
  go_wp2_with fail
  generalize (((W.alloc (.cells #[.int .i64 pn, .int .i64 pr, .int .i64 pw, .int .i64 qr, .int .i64 qw, .bool ps, .bool pm, .bool pb] 23)).alloc (.cells #[.slice X xs.length cx, .slice Y ys.length cy, .slice Z zs.length cz] 26)).alloc (.cells #[.slice X xs.length cx, .slice Y ys.length cy, .slice Z zs.length cz] 25)) = w0 at *
  generalize hg : W.heap.size = g at *
  have HG := Lib.hid hg
  clear hg
  generalize hgl : g + 1 = l at *
  clear hgl
  generalize hgn : l + 1 = nb at *
  clear hgn
  refine (few_any w0 A _ ca _ 3 cs [xs, ys, zs] rfl LC.out (by decide) (QW.rd H1.out HQ) SC.out HLM.out).mono ?_
  rintro e w1 ⟨b, rfl, rfl, hb⟩
  cases b
  · clear hb
    go_wp2_with fail
    refine (awake_any _).mono ?_
    rintro e w2 ⟨rfl, hlow⟩
    have HF := Lib.hid (HQ.out.low.trans (hlow.mono (by have := HQ.out.b0.lt; omega)))
    clear hlow
    go_wp2
    go_ret
    exact ⟨rfl, by rw [HG.out]; exact HF.out⟩
  · obtain ⟨hl, h3⟩ := hb rfl
    have hx : xs.length ≤ 20 := h3 0 (by simp)
    have hy : ys.length ≤ 20 := h3 1 (by simp)
    have hz : zs.length ≤ 20 := h3 2 (by simp)
    clear hb h3 HLM SC LC
    obtain ⟨-, -, -, -, -, -, -, -, k0, -, -, -⟩ := QW.of HQ.out
    obtain ⟨a, ha⟩ : ∃ a, nA (memB xs) cs = a := ⟨_, rfl⟩
    obtain ⟨b, hb⟩ : ∃ b, nB (memB xs) cs = b := ⟨_, rfl⟩
    obtain ⟨vw, hvw⟩ : ∃ v, wrI pw qw (nA (memB xs) cs) (nB (memB xs) cs) (nA (fun s => !inAny [xs, zs] s) cs) (nB (fun s => !inAny [xs, zs] s) cs) = v := ⟨_, rfl⟩
    obtain ⟨vr, hvr⟩ : ∃ v, rvI pr qr pm pb cs xs ys zs = v := ⟨_, rfl⟩
    have HA := Lib.hid ha
    have HB := Lib.hid hb
    have HVW := Lib.hid hvw
    have HVR := Lib.hid hvr
    clear ha hb hvw hvr
    go_wp2_with fail
    refine (count7_any _ A X ca cx cs xs (by omega) (by omega) (QW.rd H1.out HQ) (QW.rd HX.out HQ)).mono ?_
    rw [HA.out, HB.out]
    rintro e w2 ⟨rfl, hb⟩
    obtain ⟨-, -, -, -, -, -, -, -, k0, -, -, HQ⟩ := QW.step hb HQ
    clear hb
    go_wp2_with fail
    refine (rcount_any _ A X ca cx cs xs (by omega) (by omega) (QW.rd H1.out HQ) (QW.rd HX.out HQ)).mono ?_
    rw [HA.out, HB.out]
    rintro e w3 ⟨rfl, rfl⟩
    clear k0
    have test := QW.drew HQ
    have e1 : ((a : Int) == a) = true := by simp
    go_wp2_with fail
    clear HQ
    refine wp_region_held_drew (S := (fun w' => w'.cell? ⟨g, 0, none⟩ = some (.int .i64 pn) ∧ w'.cell? ⟨g, 1, none⟩ = some (.int .i64 pr) ∧ w'.cell? ⟨g, 2, none⟩ = some (.int .i64 pw) ∧ w'.cell? ⟨g, 3, none⟩ = some (.int .i64 qr) ∧ w'.cell? ⟨g, 4, none⟩ = some (.int .i64 qw) ∧ w'.cell? ⟨g, 5, none⟩ = some (.bool ps) ∧ w'.cell? ⟨g, 6, none⟩ = some (.bool pm) ∧ w'.cell? ⟨g, 7, none⟩ = some (.bool pb) ∧ w'.cell? ⟨l, 0, none⟩ = some (.slice X xs.length cx) ∧ w'.cell? ⟨l, 1, none⟩ = some (.slice Y ys.length cy) ∧ w'.cell? ⟨l, 2, none⟩ = some (.slice Z zs.length cz) ∧ Hid (QW W (g) l X Y Z (xs.length) (ys.length) (zs.length) cx cy cz pn pr pw qr qw ps pm pb w'))) (by kernel_rfl) ?_ (fun hHeldp0 => ?_)
    · exact test
    refine wpAnyH_take (i := 0) (v := ?vp0) ops0 (by kernel_rfl) (by kernel_rfl) (by kernel_rfl) (fun _ _ _ h => h) (Or.inl ⟨by rfl, ?yp0⟩) hHeldp0 ?_
    case yp0 => (intro w hSw; (try dsimp only at hSw); go_simp; try (with_reducible rfl))
    try simp only [Act.put, List.setIfInBounds_toArray, List.set_cons_zero, List.set_cons_succ]
    refine wpAnyH_take (i := 1) (v := ?vp1) (opsS ops0) (by kernel_rfl) (by kernel_rfl) (by kernel_rfl) (fun _ _ _ h => h) (Or.inl ⟨by rfl, ?yp1⟩) hHeldp0 ?_
    case yp1 => (intro w hSw; (try dsimp only at hSw); go_simp; try (with_reducible rfl))
    try simp only [Act.put, List.setIfInBounds_toArray, List.set_cons_zero, List.set_cons_succ]
    refine wpAnyH_take (i := 2) (v := ?vp2) (opsS (opsS ops0)) (by kernel_rfl) (by kernel_rfl) (by kernel_rfl) (fun _ _ _ h => h) (Or.inl ⟨by rfl, ?yp2⟩) hHeldp0 ?_
    case yp2 => (intro w hSw; (try dsimp only at hSw); go_simp; try (with_reducible rfl))
    try simp only [Act.put, List.setIfInBounds_toArray, List.set_cons_zero, List.set_cons_succ]
    refine wpAnyH_take (i := 3) (v := ?vp3) (opsS (opsS (opsS ops0))) (by kernel_rfl) (by kernel_rfl) (by kernel_rfl) (fun _ _ _ h => h) (Or.inl ⟨by rfl, ?yp3⟩) hHeldp0 ?_
    case yp3 => (intro w hSw; (try dsimp only at hSw); go_simp; try (with_reducible rfl))
    try simp only [Act.put, List.setIfInBounds_toArray, List.set_cons_zero, List.set_cons_succ]
    refine wpAnyH_take (i := 4) (v := ?vp4) (opsS (opsS (opsS (opsS ops0)))) (by kernel_rfl) (by kernel_rfl) (by kernel_rfl) (fun _ _ _ h => h) (Or.inl ⟨by rfl, ?yp4⟩) hHeldp0 ?_
    case yp4 => (intro w hSw; (try dsimp only at hSw); go_simp; try (with_reducible rfl))
    try simp only [Act.put, List.setIfInBounds_toArray, List.set_cons_zero, List.set_cons_succ]
    refine wpAnyH_take (i := 5) (v := ?vp5) (opsS (opsS (opsS (opsS (opsS ops0))))) (by kernel_rfl) (by kernel_rfl) (by kernel_rfl) (fun _ _ _ h => h) (Or.inl ⟨by rfl, ?yp5⟩) hHeldp0 ?_
    case yp5 => (intro w hSw; (try dsimp only at hSw); go_simp; try (with_reducible rfl))
    try simp only [Act.put, List.setIfInBounds_toArray, List.set_cons_zero, List.set_cons_succ]
    refine wpAnyH_take (i := 6) (v := ?vp6) (opsS (opsS (opsS (opsS (opsS (opsS ops0)))))) (by kernel_rfl) (by kernel_rfl) (by kernel_rfl) (fun _ _ _ h => h) (Or.inl ⟨by rfl, ?yp6⟩) hHeldp0 ?_
    case yp6 => (intro w hSw; (try dsimp only at hSw); go_simp; try (with_reducible rfl))
    try simp only [Act.put, List.setIfInBounds_toArray, List.set_cons_zero, List.set_cons_succ]
    refine wpAnyH_take (i := 7) (v := ?vp7) (opsS (opsS (opsS (opsS (opsS (opsS (opsS ops0))))))) (by kernel_rfl) (by kernel_rfl) (by kernel_rfl) (fun _ _ _ h => h) (Or.inl ⟨by rfl, ?yp7⟩) hHeldp0 ?_
    case yp7 => (intro w hSw; (try dsimp only at hSw); go_simp; try (with_reducible rfl))
    try simp only [Act.put, List.setIfInBounds_toArray, List.set_cons_zero, List.set_cons_succ]
    refine wpAnyH_take (i := 8) (v := ?vp8) (opsS (opsS (opsS (opsS (opsS (opsS (opsS (opsS ops0)))))))) (by kernel_rfl) (by kernel_rfl) (by kernel_rfl) (fun _ _ _ h => h) (Or.inl ⟨by rfl, ?yp8⟩) hHeldp0 ?_
    case yp8 => (intro w hSw; (try dsimp only at hSw); go_simp; try (with_reducible rfl))
    try simp only [Act.put, List.setIfInBounds_toArray, List.set_cons_zero, List.set_cons_succ]
    refine wpAnyH_take (i := 9) (v := ?vp9) (opsS (opsS (opsS (opsS (opsS (opsS (opsS (opsS (opsS ops0))))))))) (by kernel_rfl) (by kernel_rfl) (by kernel_rfl) (fun _ _ _ h => h) (Or.inl ⟨by rfl, ?yp9⟩) hHeldp0 ?_
    case yp9 => (intro w hSw; (try dsimp only at hSw); go_simp; try (with_reducible rfl))
    try simp only [Act.put, List.setIfInBounds_toArray, List.set_cons_zero, List.set_cons_succ]
    refine wpAnyH_take (i := 10) (v := ?vp10) (opsS (opsS (opsS (opsS (opsS (opsS (opsS (opsS (opsS (opsS ops0)))))))))) (by kernel_rfl) (by kernel_rfl) (by kernel_rfl) (fun _ _ _ h => h) (Or.inl ⟨by rfl, ?yp10⟩) hHeldp0 ?_
    case yp10 => (intro w hSw; (try dsimp only at hSw); go_simp; try (with_reducible rfl))
    try simp only [Act.put, List.setIfInBounds_toArray, List.set_cons_zero, List.set_cons_succ]
    refine wpAnyH_take (i := 11) (v := ?vp11) (opsS (opsS (opsS (opsS (opsS (opsS (opsS (opsS (opsS (opsS (opsS ops0))))))))))) (by kernel_rfl) (by kernel_rfl) (by kernel_rfl) (fun _ _ _ h => h) (Or.inl ⟨by rfl, ?yp11⟩) hHeldp0 ?_
    case yp11 => (intro w hSw; (try dsimp only at hSw); go_simp; try (with_reducible rfl))
    try simp only [Act.put, List.setIfInBounds_toArray, List.set_cons_zero, List.set_cons_succ]
    refine wpAnyH_take (i := 12) (v := ?vp12) (opsS (opsS (opsS (opsS (opsS (opsS (opsS (opsS (opsS (opsS (opsS (opsS ops0)))))))))))) (by kernel_rfl) (by kernel_rfl) (by kernel_rfl) (fun _ _ _ h => h) (Or.inl ⟨by rfl, ?yp12⟩) hHeldp0 ?_
    case yp12 => (intro w hSw; (try dsimp only at hSw); go_simp; try (with_reducible rfl))
    try simp only [Act.put, List.setIfInBounds_toArray, List.set_cons_zero, List.set_cons_succ]
    refine wpAnyH_take (i := 13) (v := ?vp13) (opsS (opsS (opsS (opsS (opsS (opsS (opsS (opsS (opsS (opsS (opsS (opsS (opsS ops0))))))))))))) (by kernel_rfl) (by kernel_rfl) (by kernel_rfl) (fun _ _ _ h => h) (Or.inl ⟨by rfl, ?yp13⟩) hHeldp0 ?_
    case yp13 => (intro w hSw; (try dsimp only at hSw); go_simp; try (with_reducible rfl))
    try simp only [Act.put, List.setIfInBounds_toArray, List.set_cons_zero, List.set_cons_succ]
    refine wpAnyH_take (i := 14) (v := ?vp14) (opsS (opsS (opsS (opsS (opsS (opsS (opsS (opsS (opsS (opsS (opsS (opsS (opsS (opsS ops0)))))))))))))) (by kernel_rfl) (by kernel_rfl) (by kernel_rfl) (fun _ _ _ h => h) (Or.inl ⟨by rfl, ?yp14⟩) hHeldp0 ?_
    case yp14 => (intro w hSw; (try dsimp only at hSw); go_simp; try (with_reducible rfl))
    try simp only [Act.put, List.setIfInBounds_toArray, List.set_cons_zero, List.set_cons_succ]
    refine wpAnyH_take (i := 16) (v := ?vp16) (opsS (opsS (opsS (opsS (opsS (opsS (opsS (opsS (opsS (opsS (opsS (opsS (opsS (opsS (opsS (opsS ops0)))))))))))))))) (by kernel_rfl) (by kernel_rfl) (by kernel_rfl) (fun _ _ _ h => h) (Or.inl ⟨by rfl, ?yp16⟩) hHeldp0 ?_
    case yp16 => (intro w hSw; (try dsimp only at hSw); go_simp; try (with_reducible rfl))
    try simp only [Act.put, List.setIfInBounds_toArray, List.set_cons_zero, List.set_cons_succ]
    refine wpAnyH_take (i := 17) (v := ?vp17) (opsS (opsS (opsS (opsS (opsS (opsS (opsS (opsS (opsS (opsS (opsS (opsS (opsS (opsS (opsS (opsS (opsS ops0))))))))))))))))) (by kernel_rfl) (by kernel_rfl) (by kernel_rfl) (fun _ _ _ h => h) (Or.inl ⟨by rfl, ?yp17⟩) hHeldp0 ?_
    case yp17 => (intro w hSw; (try dsimp only at hSw); go_simp; try (with_reducible rfl))
    try simp only [Act.put, List.setIfInBounds_toArray, List.set_cons_zero, List.set_cons_succ]
    refine wpAnyH_take (i := 18) (v := ?vp18) (opsS (opsS (opsS (opsS (opsS (opsS (opsS (opsS (opsS (opsS (opsS (opsS (opsS (opsS (opsS (opsS (opsS (opsS ops0)))))))))))))))))) (by kernel_rfl) (by kernel_rfl) (by kernel_rfl) (fun _ _ _ h => h) (Or.inl ⟨by rfl, ?yp18⟩) hHeldp0 ?_
    case yp18 => (intro w hSw; (try dsimp only at hSw); go_simp; try (with_reducible rfl))
    try simp only [Act.put, List.setIfInBounds_toArray, List.set_cons_zero, List.set_cons_succ]
    refine wpAnyH_take (i := 19) (v := ?vp19) (opsS (opsS (opsS (opsS (opsS (opsS (opsS (opsS (opsS (opsS (opsS (opsS (opsS (opsS (opsS (opsS (opsS (opsS (opsS ops0))))))))))))))))))) (by kernel_rfl) (by kernel_rfl) (by kernel_rfl) (fun _ _ _ h => h) (Or.inl ⟨by rfl, ?yp19⟩) hHeldp0 ?_
    case yp19 => (intro w hSw; (try dsimp only at hSw); go_simp; try (with_reducible rfl))
    try simp only [Act.put, List.setIfInBounds_toArray, List.set_cons_zero, List.set_cons_succ]
    refine wpAnyH_take (i := 20) (v := ?vp20) (opsS (opsS (opsS (opsS (opsS (opsS (opsS (opsS (opsS (opsS (opsS (opsS (opsS (opsS (opsS (opsS (opsS (opsS (opsS (opsS ops0)))))))))))))))))))) (by kernel_rfl) (by kernel_rfl) (by kernel_rfl) (fun _ _ _ h => h) (Or.inl ⟨by rfl, ?yp20⟩) hHeldp0 ?_
    case yp20 => (intro w hSw; (try dsimp only at hSw); go_simp; try (with_reducible rfl))
    try simp only [Act.put, List.setIfInBounds_toArray, List.set_cons_zero, List.set_cons_succ]
    refine wpAnyH_take (i := 21) (v := ?vp21) (opsS (opsS (opsS (opsS (opsS (opsS (opsS (opsS (opsS (opsS (opsS (opsS (opsS (opsS (opsS (opsS (opsS (opsS (opsS (opsS (opsS ops0))))))))))))))))))))) (by kernel_rfl) (by kernel_rfl) (by kernel_rfl) (fun _ _ _ h => h) (Or.inl ⟨by rfl, ?yp21⟩) hHeldp0 ?_
    case yp21 => (intro w hSw; (try dsimp only at hSw); go_simp; try (with_reducible rfl))
    try simp only [Act.put, List.setIfInBounds_toArray, List.set_cons_zero, List.set_cons_succ]
    refine wpAnyH_ready (rs := [15]) (by kernel_rfl) (by simp) ?_
    refine AllReadyH.cons (opsS (opsS (opsS (opsS (opsS (opsS (opsS (opsS (opsS (opsS (opsS (opsS (opsS (opsS (opsS ops0))))))))))))))) (fun K hK => ?_) AllReadyH.nil
    go_simp
    refine (write_any _ A X Z ca cx cz cs xs zs pn pr pw qr qw ps pm pb (by omega) (by omega) (by omega) (QW.rd H1.out (by first | assumption | (go_split_ands; assumption))) (QW.rd HX.out (by first | assumption | (go_split_ands; assumption))) (QW.rd HZ.out (by first | assumption | (go_split_ands; assumption)))).mono ?_; rw [HVW.out]; rintro e w' ⟨rfl, hb⟩
    try dsimp only
    refine hK.out _ _ ?_ (fun hHeldp1 => ?_)
    · (first | assumption | exact QW.drew (by assumption) | (go_split_ands; exact QW.drew (by assumption)) | (go_split_ands; exact QW.step (by assumption) (by assumption)) | (go_split_ands; exact QW.alloc (by assumption) _))
    clear hK K hHeldp0
    try clear hb
    try simp only [Act.put, List.setIfInBounds_toArray, List.set_cons_zero, List.set_cons_succ]
    refine wpAnyH_ready (rs := [22]) (by kernel_rfl) (by simp) ?_
    refine AllReadyH.cons (opsS (opsS (opsS (opsS (opsS (opsS (opsS (opsS (opsS (opsS (opsS (opsS (opsS (opsS (opsS (opsS (opsS (opsS (opsS (opsS (opsS (opsS ops0)))))))))))))))))))))) (fun K hK => ?_) AllReadyH.nil
    go_simp
    refine (rwrite_any _ A X Z ca cx cz cs xs zs pn pr pw qr qw ps pm pb (by omega) (by omega) (by omega) (QW.rd H1.out (by first | assumption | (go_split_ands; assumption))) (QW.rd HX.out (by first | assumption | (go_split_ands; assumption))) (QW.rd HZ.out (by first | assumption | (go_split_ands; assumption)))).mono ?_; rw [HVW.out]; rintro e w' ⟨rfl, hb⟩
    try dsimp only
    refine hK.out _ _ ?_ (fun hHeldp2 => ?_)
    · (first | assumption | exact QW.drew (by assumption) | (go_split_ands; exact QW.drew (by assumption)) | (go_split_ands; exact QW.step (by assumption) (by assumption)) | (go_split_ands; exact QW.alloc (by assumption) _))
    clear hK K hHeldp1
    try clear hb
    try simp only [Act.put, List.setIfInBounds_toArray, List.set_cons_zero, List.set_cons_succ]
    refine wpAnyH_take (i := 23) (v := ?vp23) (opsS (opsS (opsS (opsS (opsS (opsS (opsS (opsS (opsS (opsS (opsS (opsS (opsS (opsS (opsS (opsS (opsS (opsS (opsS (opsS (opsS (opsS (opsS ops0))))))))))))))))))))))) (by kernel_rfl) (by kernel_rfl) (by kernel_rfl) (fun _ _ _ h => h) (Or.inl ⟨by rfl, ?yp23⟩) hHeldp2 ?_
    case yp23 => (intro w hSw; (try dsimp only at hSw); go_simp; try (with_reducible rfl))
    try simp only [Act.put, List.setIfInBounds_toArray, List.set_cons_zero, List.set_cons_succ]
    refine wpAnyH_take (i := 24) (v := ?vp24) (opsS (opsS (opsS (opsS (opsS (opsS (opsS (opsS (opsS (opsS (opsS (opsS (opsS (opsS (opsS (opsS (opsS (opsS (opsS (opsS (opsS (opsS (opsS (opsS ops0)))))))))))))))))))))))) (by kernel_rfl) (by kernel_rfl) (by kernel_rfl) (fun _ _ _ h => h) (Or.inl ⟨by rfl, ?yp24⟩) hHeldp2 ?_
    case yp24 => (intro w hSw; (try dsimp only at hSw); go_simp; try (with_reducible rfl))
    try simp only [Act.put, List.setIfInBounds_toArray, List.set_cons_zero, List.set_cons_succ]
    refine wpAnyH_take (i := 25) (v := ?vp25) (opsS (opsS (opsS (opsS (opsS (opsS (opsS (opsS (opsS (opsS (opsS (opsS (opsS (opsS (opsS (opsS (opsS (opsS (opsS (opsS (opsS (opsS (opsS (opsS (opsS ops0))))))))))))))))))))))))) (by kernel_rfl) (by kernel_rfl) (by kernel_rfl) (fun _ _ _ h => h) (Or.inl ⟨by rfl, ?yp25⟩) hHeldp2 ?_
    case yp25 => (intro w hSw; (try dsimp only at hSw); go_simp; try (with_reducible rfl))
    try simp only [Act.put, List.setIfInBounds_toArray, List.set_cons_zero, List.set_cons_succ]
    refine wpAnyH_take (i := 26) (v := ?vp26) (opsS (opsS (opsS (opsS (opsS (opsS (opsS (opsS (opsS (opsS (opsS (opsS (opsS (opsS (opsS (opsS (opsS (opsS (opsS (opsS (opsS (opsS (opsS (opsS (opsS (opsS ops0)))))))))))))))))))))))))) (by kernel_rfl) (by kernel_rfl) (by kernel_rfl) (fun _ _ _ h => h) (Or.inl ⟨by rfl, ?yp26⟩) hHeldp2 ?_
    case yp26 => (intro w hSw; (try dsimp only at hSw); go_simp; try (with_reducible rfl))
    try simp only [Act.put, List.setIfInBounds_toArray, List.set_cons_zero, List.set_cons_succ]
    refine wpAnyH_take (i := 27) (v := ?vp27) (opsS (opsS (opsS (opsS (opsS (opsS (opsS (opsS (opsS (opsS (opsS (opsS (opsS (opsS (opsS (opsS (opsS (opsS (opsS (opsS (opsS (opsS (opsS (opsS (opsS (opsS (opsS ops0))))))))))))))))))))))))))) (by kernel_rfl) (by kernel_rfl) (by kernel_rfl) (fun _ _ _ h => h) (Or.inl ⟨by rfl, ?yp27⟩) hHeldp2 ?_
    case yp27 => (intro w hSw; (try dsimp only at hSw); go_simp; try (with_reducible rfl))
    try simp only [Act.put, List.setIfInBounds_toArray, List.set_cons_zero, List.set_cons_succ]
    refine wpAnyH_take (i := 28) (v := ?vp28) (opsS (opsS (opsS (opsS (opsS (opsS (opsS (opsS (opsS (opsS (opsS (opsS (opsS (opsS (opsS (opsS (opsS (opsS (opsS (opsS (opsS (opsS (opsS (opsS (opsS (opsS (opsS (opsS ops0)))))))))))))))))))))))))))) (by kernel_rfl) (by kernel_rfl) (by kernel_rfl) (fun _ _ _ h => h) (Or.inl ⟨by rfl, ?yp28⟩) hHeldp2 ?_
    case yp28 => (intro w hSw; (try dsimp only at hSw); go_simp; try (with_reducible rfl))
    try simp only [Act.put, List.setIfInBounds_toArray, List.set_cons_zero, List.set_cons_succ]
    refine wpAnyH_take (i := 29) (v := ?vp29) (opsS (opsS (opsS (opsS (opsS (opsS (opsS (opsS (opsS (opsS (opsS (opsS (opsS (opsS (opsS (opsS (opsS (opsS (opsS (opsS (opsS (opsS (opsS (opsS (opsS (opsS (opsS (opsS (opsS ops0))))))))))))))))))))))))))))) (by kernel_rfl) (by kernel_rfl) (by kernel_rfl) (fun _ _ _ h => h) (Or.inl ⟨by rfl, ?yp29⟩) hHeldp2 ?_
    case yp29 => (intro w hSw; (try dsimp only at hSw); go_simp; try (with_reducible rfl))
    try simp only [Act.put, List.setIfInBounds_toArray, List.set_cons_zero, List.set_cons_succ]
    refine wpAnyH_take (i := 30) (v := ?vp30) (opsS (opsS (opsS (opsS (opsS (opsS (opsS (opsS (opsS (opsS (opsS (opsS (opsS (opsS (opsS (opsS (opsS (opsS (opsS (opsS (opsS (opsS (opsS (opsS (opsS (opsS (opsS (opsS (opsS (opsS ops0)))))))))))))))))))))))))))))) (by kernel_rfl) (by kernel_rfl) (by kernel_rfl) (fun _ _ _ h => h) (Or.inl ⟨by rfl, ?yp30⟩) hHeldp2 ?_
    case yp30 => (intro w hSw; (try dsimp only at hSw); go_simp; try (with_reducible rfl))
    try simp only [Act.put, List.setIfInBounds_toArray, List.set_cons_zero, List.set_cons_succ]
    refine wpAnyH_take (i := 31) (v := ?vp31) (opsS (opsS (opsS (opsS (opsS (opsS (opsS (opsS (opsS (opsS (opsS (opsS (opsS (opsS (opsS (opsS (opsS (opsS (opsS (opsS (opsS (opsS (opsS (opsS (opsS (opsS (opsS (opsS (opsS (opsS (opsS ops0))))))))))))))))))))))))))))))) (by kernel_rfl) (by kernel_rfl) (by kernel_rfl) (fun _ _ _ h => h) (Or.inl ⟨by rfl, ?yp31⟩) hHeldp2 ?_
    case yp31 => (intro w hSw; (try dsimp only at hSw); go_simp; try (with_reducible rfl))
    try simp only [Act.put, List.setIfInBounds_toArray, List.set_cons_zero, List.set_cons_succ]
    refine wpAnyH_take (i := 32) (v := ?vp32) (opsS (opsS (opsS (opsS (opsS (opsS (opsS (opsS (opsS (opsS (opsS (opsS (opsS (opsS (opsS (opsS (opsS (opsS (opsS (opsS (opsS (opsS (opsS (opsS (opsS (opsS (opsS (opsS (opsS (opsS (opsS (opsS ops0)))))))))))))))))))))))))))))))) (by kernel_rfl) (by kernel_rfl) (by kernel_rfl) (fun _ _ _ h => h) (Or.inl ⟨by rfl, ?yp32⟩) hHeldp2 ?_
    case yp32 => (intro w hSw; (try dsimp only at hSw); go_simp; try (with_reducible rfl))
    try simp only [Act.put, List.setIfInBounds_toArray, List.set_cons_zero, List.set_cons_succ]
    refine wpAnyH_take (i := 33) (v := ?vp33) (opsS (opsS (opsS (opsS (opsS (opsS (opsS (opsS (opsS (opsS (opsS (opsS (opsS (opsS (opsS (opsS (opsS (opsS (opsS (opsS (opsS (opsS (opsS (opsS (opsS (opsS (opsS (opsS (opsS (opsS (opsS (opsS (opsS ops0))))))))))))))))))))))))))))))))) (by kernel_rfl) (by kernel_rfl) (by kernel_rfl) (fun _ _ _ h => h) (Or.inl ⟨by rfl, ?yp33⟩) hHeldp2 ?_
    case yp33 => (intro w hSw; (try dsimp only at hSw); go_simp; try (with_reducible rfl))
    try simp only [Act.put, List.setIfInBounds_toArray, List.set_cons_zero, List.set_cons_succ]
    refine wpAnyH_take (i := 35) (v := ?vp35) (opsS (opsS (opsS (opsS (opsS (opsS (opsS (opsS (opsS (opsS (opsS (opsS (opsS (opsS (opsS (opsS (opsS (opsS (opsS (opsS (opsS (opsS (opsS (opsS (opsS (opsS (opsS (opsS (opsS (opsS (opsS (opsS (opsS (opsS (opsS ops0))))))))))))))))))))))))))))))))))) (by kernel_rfl) (by kernel_rfl) (by kernel_rfl) (fun _ _ _ h => h) (Or.inl ⟨by rfl, ?yp35⟩) hHeldp2 ?_
    case yp35 => (intro w hSw; (try dsimp only at hSw); go_simp; try (with_reducible rfl))
    try simp only [Act.put, List.setIfInBounds_toArray, List.set_cons_zero, List.set_cons_succ]
    refine wpAnyH_take (i := 36) (v := ?vp36) (opsS (opsS (opsS (opsS (opsS (opsS (opsS (opsS (opsS (opsS (opsS (opsS (opsS (opsS (opsS (opsS (opsS (opsS (opsS (opsS (opsS (opsS (opsS (opsS (opsS (opsS (opsS (opsS (opsS (opsS (opsS (opsS (opsS (opsS (opsS (opsS ops0)))))))))))))))))))))))))))))))))))) (by kernel_rfl) (by kernel_rfl) (by kernel_rfl) (fun _ _ _ h => h) (Or.inl ⟨by rfl, ?yp36⟩) hHeldp2 ?_
    case yp36 => (intro w hSw; (try dsimp only at hSw); go_simp; try (with_reducible rfl))
    try simp only [Act.put, List.setIfInBounds_toArray, List.set_cons_zero, List.set_cons_succ]
    refine wpAnyH_take (i := 37) (v := ?vp37) (opsS (opsS (opsS (opsS (opsS (opsS (opsS (opsS (opsS (opsS (opsS (opsS (opsS (opsS (opsS (opsS (opsS (opsS (opsS (opsS (opsS (opsS (opsS (opsS (opsS (opsS (opsS (opsS (opsS (opsS (opsS (opsS (opsS (opsS (opsS (opsS (opsS ops0))))))))))))))))))))))))))))))))))))) (by kernel_rfl) (by kernel_rfl) (by kernel_rfl) (fun _ _ _ h => h) (Or.inl ⟨by rfl, ?yp37⟩) hHeldp2 ?_
    case yp37 => (intro w hSw; (try dsimp only at hSw); go_simp; try (with_reducible rfl))
    try simp only [Act.put, List.setIfInBounds_toArray, List.set_cons_zero, List.set_cons_succ]
    refine wpAnyH_take (i := 38) (v := ?vp38) (opsS (opsS (opsS (opsS (opsS (opsS (opsS (opsS (opsS (opsS (opsS (opsS (opsS (opsS (opsS (opsS (opsS (opsS (opsS (opsS (opsS (opsS (opsS (opsS (opsS (opsS (opsS (opsS (opsS (opsS (opsS (opsS (opsS (opsS (opsS (opsS (opsS (opsS ops0)))))))))))))))))))))))))))))))))))))) (by kernel_rfl) (by kernel_rfl) (by kernel_rfl) (fun _ _ _ h => h) (Or.inl ⟨by rfl, ?yp38⟩) hHeldp2 ?_
    case yp38 => (intro w hSw; (try dsimp only at hSw); go_simp; try (with_reducible rfl))
    try simp only [Act.put, List.setIfInBounds_toArray, List.set_cons_zero, List.set_cons_succ]
    refine wpAnyH_take (i := 39) (v := ?vp39) (opsS (opsS (opsS (opsS (opsS (opsS (opsS (opsS (opsS (opsS (opsS (opsS (opsS (opsS (opsS (opsS (opsS (opsS (opsS (opsS (opsS (opsS (opsS (opsS (opsS (opsS (opsS (opsS (opsS (opsS (opsS (opsS (opsS (opsS (opsS (opsS (opsS (opsS (opsS ops0))))))))))))))))))))))))))))))))))))))) (by kernel_rfl) (by kernel_rfl) (by kernel_rfl) (fun _ _ _ h => h) (Or.inl ⟨by rfl, ?yp39⟩) hHeldp2 ?_
    case yp39 => (intro w hSw; (try dsimp only at hSw); go_simp; try (with_reducible rfl))
    try simp only [Act.put, List.setIfInBounds_toArray, List.set_cons_zero, List.set_cons_succ]
    refine wpAnyH_take (i := 40) (v := ?vp40) (opsS (opsS (opsS (opsS (opsS (opsS (opsS (opsS (opsS (opsS (opsS (opsS (opsS (opsS (opsS (opsS (opsS (opsS (opsS (opsS (opsS (opsS (opsS (opsS (opsS (opsS (opsS (opsS (opsS (opsS (opsS (opsS (opsS (opsS (opsS (opsS (opsS (opsS (opsS (opsS ops0)))))))))))))))))))))))))))))))))))))))) (by kernel_rfl) (by kernel_rfl) (by kernel_rfl) (fun _ _ _ h => h) (Or.inl ⟨by rfl, ?yp40⟩) hHeldp2 ?_
    case yp40 => (intro w hSw; (try dsimp only at hSw); go_simp; try (with_reducible rfl))
    try simp only [Act.put, List.setIfInBounds_toArray, List.set_cons_zero, List.set_cons_succ]
    refine wpAnyH_take (i := 41) (v := ?vp41) (opsS (opsS (opsS (opsS (opsS (opsS (opsS (opsS (opsS (opsS (opsS (opsS (opsS (opsS (opsS (opsS (opsS (opsS (opsS (opsS (opsS (opsS (opsS (opsS (opsS (opsS (opsS (opsS (opsS (opsS (opsS (opsS (opsS (opsS (opsS (opsS (opsS (opsS (opsS (opsS (opsS ops0))))))))))))))))))))))))))))))))))))))))) (by kernel_rfl) (by kernel_rfl) (by kernel_rfl) (fun _ _ _ h => h) (Or.inl ⟨by rfl, ?yp41⟩) hHeldp2 ?_
    case yp41 => (intro w hSw; (try dsimp only at hSw); go_simp; try (with_reducible rfl))
    try simp only [Act.put, List.setIfInBounds_toArray, List.set_cons_zero, List.set_cons_succ]
    refine wpAnyH_take (i := 42) (v := ?vp42) (opsS (opsS (opsS (opsS (opsS (opsS (opsS (opsS (opsS (opsS (opsS (opsS (opsS (opsS (opsS (opsS (opsS (opsS (opsS (opsS (opsS (opsS (opsS (opsS (opsS (opsS (opsS (opsS (opsS (opsS (opsS (opsS (opsS (opsS (opsS (opsS (opsS (opsS (opsS (opsS (opsS (opsS ops0)))))))))))))))))))))))))))))))))))))))))) (by kernel_rfl) (by kernel_rfl) (by kernel_rfl) (fun _ _ _ h => h) (Or.inl ⟨by rfl, ?yp42⟩) hHeldp2 ?_
    case yp42 => (intro w hSw; (try dsimp only at hSw); go_simp; try (with_reducible rfl))
    try simp only [Act.put, List.setIfInBounds_toArray, List.set_cons_zero, List.set_cons_succ]
    refine wpAnyH_ready (rs := [34]) (by kernel_rfl) (by simp) ?_
    refine AllReadyH.cons (opsS (opsS (opsS (opsS (opsS (opsS (opsS (opsS (opsS (opsS (opsS (opsS (opsS (opsS (opsS (opsS (opsS (opsS (opsS (opsS (opsS (opsS (opsS (opsS (opsS (opsS (opsS (opsS (opsS (opsS (opsS (opsS (opsS (opsS ops0)))))))))))))))))))))))))))))))))) (fun K hK => ?_) AllReadyH.nil
    go_simp
    refine (read_all _ A X Y Z ca cx cy cz cs xs ys zs pn pr pw qr qw ps pm pb (by omega) (by omega) (by omega) (by omega) (QW.rd H1.out (by first | assumption | (go_split_ands; assumption))) (QW.rd HX.out (by first | assumption | (go_split_ands; assumption))) (QW.rd HY.out (by first | assumption | (go_split_ands; assumption))) (QW.rd HZ.out (by first | assumption | (go_split_ands; assumption)))).mono ?_; rw [HVR.out]; rintro e w' ⟨rfl, hb⟩
    try dsimp only
    refine hK.out _ _ ?_ (fun hHeldp3 => ?_)
    · (first | assumption | exact QW.drew (by assumption) | (go_split_ands; exact QW.drew (by assumption)) | (go_split_ands; exact QW.step (by assumption) (by assumption)) | (go_split_ands; exact QW.alloc (by assumption) _))
    clear hK K hHeldp2
    try clear hb
    try simp only [Act.put, List.setIfInBounds_toArray, List.set_cons_zero, List.set_cons_succ]
    refine wpAnyH_ready (rs := [43]) (by kernel_rfl) (by simp) ?_
    refine AllReadyH.cons (opsS (opsS (opsS (opsS (opsS (opsS (opsS (opsS (opsS (opsS (opsS (opsS (opsS (opsS (opsS (opsS (opsS (opsS (opsS (opsS (opsS (opsS (opsS (opsS (opsS (opsS (opsS (opsS (opsS (opsS (opsS (opsS (opsS (opsS (opsS (opsS (opsS (opsS (opsS (opsS (opsS (opsS (opsS ops0))))))))))))))))))))))))))))))))))))))))))) (fun K hK => ?_) AllReadyH.nil
    go_simp
    refine (rread_all _ A X Y Z ca cx cy cz cs xs ys zs pn pr pw qr qw ps pm pb (by omega) (by omega) (by omega) (by omega) (QW.rd H1.out (by first | assumption | (go_split_ands; assumption))) (QW.rd HX.out (by first | assumption | (go_split_ands; assumption))) (QW.rd HY.out (by first | assumption | (go_split_ands; assumption))) (QW.rd HZ.out (by first | assumption | (go_split_ands; assumption)))).mono ?_; rw [HVR.out]; rintro e w' ⟨rfl, hb⟩
    try dsimp only
    refine hK.out _ _ ?_ (fun hHeldp4 => ?_)
    · (first | assumption | exact QW.drew (by assumption) | (go_split_ands; exact QW.drew (by assumption)) | (go_split_ands; exact QW.step (by assumption) (by assumption)) | (go_split_ands; exact QW.alloc (by assumption) _))
    clear hK K hHeldp3
    try clear hb
    try simp only [Act.put, List.setIfInBounds_toArray, List.set_cons_zero, List.set_cons_succ]
    refine wpAnyH_take (i := 44) (v := ?vp44) (opsS (opsS (opsS (opsS (opsS (opsS (opsS (opsS (opsS (opsS (opsS (opsS (opsS (opsS (opsS (opsS (opsS (opsS (opsS (opsS (opsS (opsS (opsS (opsS (opsS (opsS (opsS (opsS (opsS (opsS (opsS (opsS (opsS (opsS (opsS (opsS (opsS (opsS (opsS (opsS (opsS (opsS (opsS (opsS ops0)))))))))))))))))))))))))))))))))))))))))))) (by kernel_rfl) (by kernel_rfl) (by kernel_rfl) (fun _ _ _ h => h) (Or.inl ⟨by rfl, ?yp44⟩) hHeldp4 ?_
    case yp44 => (intro w hSw; (try dsimp only at hSw); go_simp; try (with_reducible rfl))
    try simp only [Act.put, List.setIfInBounds_toArray, List.set_cons_zero, List.set_cons_succ]
    refine wpAnyH_take (i := 45) (v := ?vp45) (opsS (opsS (opsS (opsS (opsS (opsS (opsS (opsS (opsS (opsS (opsS (opsS (opsS (opsS (opsS (opsS (opsS (opsS (opsS (opsS (opsS (opsS (opsS (opsS (opsS (opsS (opsS (opsS (opsS (opsS (opsS (opsS (opsS (opsS (opsS (opsS (opsS (opsS (opsS (opsS (opsS (opsS (opsS (opsS (opsS ops0))))))))))))))))))))))))))))))))))))))))))))) (by kernel_rfl) (by kernel_rfl) (by kernel_rfl) (fun _ _ _ h => h) (Or.inl ⟨by rfl, ?yp45⟩) hHeldp4 ?_
    case yp45 => (intro w hSw; (try dsimp only at hSw); go_simp; try (with_reducible rfl))
    try simp only [Act.put, List.setIfInBounds_toArray, List.set_cons_zero, List.set_cons_succ]
    refine wpAnyH_take (i := 46) (v := ?vp46) (opsS (opsS (opsS (opsS (opsS (opsS (opsS (opsS (opsS (opsS (opsS (opsS (opsS (opsS (opsS (opsS (opsS (opsS (opsS (opsS (opsS (opsS (opsS (opsS (opsS (opsS (opsS (opsS (opsS (opsS (opsS (opsS (opsS (opsS (opsS (opsS (opsS (opsS (opsS (opsS (opsS (opsS (opsS (opsS (opsS (opsS ops0)))))))))))))))))))))))))))))))))))))))))))))) (by kernel_rfl) (by kernel_rfl) (by kernel_rfl) (fun _ _ _ h => h) (Or.inl ⟨by rfl, ?yp46⟩) hHeldp4 ?_
    case yp46 => (intro w hSw; (try dsimp only at hSw); go_simp; try (with_reducible rfl))
    try simp only [Act.put, List.setIfInBounds_toArray, List.set_cons_zero, List.set_cons_succ]
    refine wpAnyH_ready (rs := [47]) (by kernel_rfl) (by simp) ?_
    refine AllReadyH.cons (opsS (opsS (opsS (opsS (opsS (opsS (opsS (opsS (opsS (opsS (opsS (opsS (opsS (opsS (opsS (opsS (opsS (opsS (opsS (opsS (opsS (opsS (opsS (opsS (opsS (opsS (opsS (opsS (opsS (opsS (opsS (opsS (opsS (opsS (opsS (opsS (opsS (opsS (opsS (opsS (opsS (opsS (opsS (opsS (opsS (opsS (opsS ops0))))))))))))))))))))))))))))))))))))))))))))))) (fun K hK => ?_) AllReadyH.nil
    go_simp
    refine (awake_any _).mono ?_; rintro e w' ⟨rfl, hb⟩
    try dsimp only
    refine hK.out _ _ ?_ (fun hHeldp5 => ?_)
    · (first | assumption | exact QW.drew (by assumption) | (go_split_ands; exact QW.drew (by assumption)) | (go_split_ands; exact QW.step (by assumption) (by assumption)) | (go_split_ands; exact QW.alloc (by assumption) _))
    clear hK K hHeldp4
    try clear hb
    try simp only [Act.put, List.setIfInBounds_toArray, List.set_cons_zero, List.set_cons_succ]
    refine wpAnyH_take (i := 48) (v := ?vp48) (opsS (opsS (opsS (opsS (opsS (opsS (opsS (opsS (opsS (opsS (opsS (opsS (opsS (opsS (opsS (opsS (opsS (opsS (opsS (opsS (opsS (opsS (opsS (opsS (opsS (opsS (opsS (opsS (opsS (opsS (opsS (opsS (opsS (opsS (opsS (opsS (opsS (opsS (opsS (opsS (opsS (opsS (opsS (opsS (opsS (opsS (opsS (opsS ops0)))))))))))))))))))))))))))))))))))))))))))))))) (by kernel_rfl) (by kernel_rfl) (by kernel_rfl) (fun _ _ _ h => h) (Or.inl ⟨by rfl, ?yp48⟩) hHeldp5 ?_
    case yp48 => (intro w hSw; (try dsimp only at hSw); go_simp; try (with_reducible rfl))
    try simp only [Act.put, List.setIfInBounds_toArray, List.set_cons_zero, List.set_cons_succ]
    refine wpAnyH_take (i := 49) (v := ?vp49) (opsS (opsS (opsS (opsS (opsS (opsS (opsS (opsS (opsS (opsS (opsS (opsS (opsS (opsS (opsS (opsS (opsS (opsS (opsS (opsS (opsS (opsS (opsS (opsS (opsS (opsS (opsS (opsS (opsS (opsS (opsS (opsS (opsS (opsS (opsS (opsS (opsS (opsS (opsS (opsS (opsS (opsS (opsS (opsS (opsS (opsS (opsS (opsS (opsS ops0))))))))))))))))))))))))))))))))))))))))))))))))) (by kernel_rfl) (by kernel_rfl) (by kernel_rfl) (fun _ _ _ h => h) (Or.inl ⟨by rfl, ?yp49⟩) hHeldp5 ?_
    case yp49 => (intro w hSw; (try dsimp only at hSw); go_simp; try (with_reducible rfl))
    try simp only [Act.put, List.setIfInBounds_toArray, List.set_cons_zero, List.set_cons_succ]
    refine wpAnyH_done (by kernel_rfl) ?_ _
    have HF := Lib.hid hHeldp5.2.2.2.2.2.2.2.2.2.2.2.out.low
    clear hHeldp5 test
    go_wp2
    go_ret
    exact ⟨rfl, by rw [HG.out]; exact HF.out⟩
end Go.Proofs.Ytcbfcmnnahbblaa.quorum
