/-
  Both chains of a speaker side by side, the program's and the document's.
-/
import Derived.Test.YtgncdnejmobjbaaGreatDoorRenX
import Derived.Test.YtgncdnejmobjbaaGreatDoorRenG
namespace Go.Proofs.YtgncdnejmobjbaaGreatDoor
open Go.ChangeShapes Go.WideShapes Go.ChangeAt Go.RowKit
set_option maxRecDepth 20000

/-- A pair in its box. -/
def NBox (w : World) (B : Nat) (k : Int × Int) : Prop := w.heap[B]? = some (.cells #[.int .i64 k.1, .int .i64 k.2] 35 (0, 0))
theorem NBox.c0 {w : World} {B : Nat} {k : Int × Int} (h : NBox w B k) : w.cell? ⟨B, 0, none⟩ = some (.int .i64 k.1) := cell_of_row _ _ 0 _ _ _ h
theorem NBox.c1 {w : World} {B : Nat} {k : Int × Int} (h : NBox w B k) : w.cell? ⟨B, 1, none⟩ = some (.int .i64 k.2) := cell_of_row _ _ 1 _ _ _ h
theorem NBox.below {w w' : World} {B : Nat} {k : Int × Int} (h : NBox w B k) (hb : Below w.heap.size w w') : NBox w' B k := (hb.block B (Array.getElem?_eq_some_iff.1 h).1).trans h
/-- Bytes and boxes stay. -/
def Frame (w w' : World) : Prop := Keeps w w' ∧ ∀ B k, NBox w B k → NBox w' B k
theorem Frame.of_below {w w' : World} (hb : Below w.heap.size w w') : Frame w w' := ⟨Keeps.of_below hb, fun _ _ h => h.below hb⟩
theorem Frame.trans {w w' w'' : World} (h : Frame w w') (h' : Frame w' w'') : Frame w w'' := ⟨fun a c l hs => h'.1 a c l (h.1 a c l hs), fun B k hb => h'.2 B k (h.2 B k hb)⟩
theorem Frame.refl (w : World) : Frame w w := ⟨fun _ _ _ h => h, fun _ _ h => h⟩

theorem PNAll.types {w : World} {R : Nat} {s : Rn} {oa : Option Addr} {oc : Nat} {x : PN} (h : PNAll w R s oa oc x) : ∀ k, x.foot R k → ∃ cs t, w.heap[k]? = some (.cells cs t (0, 0)) ∧ ((k = x.q ∧ t = 24) ∨ t = 61 ∨ t = 90) := by
  cases h with
  | idle h ho h0 hx =>
    intro k hk
    have : k = R := by rcases hk with e | e | e; exact e; exact e.trans hx.1; exact e.trans hx.2
    subst this
    exact ⟨_, _, h, .inr (.inl rfl)⟩
  | begun h h0 =>
    rintro k (rfl | rfl | rfl)
    · exact ⟨_, _, h.at', .inr (.inl rfl)⟩
    · obtain ⟨cur, h1, _⟩ := h.peb.stack.row; exact ⟨_, _, h1, .inr (.inr rfl)⟩
    · obtain ⟨cur, h1, _⟩ := h.kept.row; exact ⟨_, _, h1, .inl ⟨rfl, rfl⟩⟩
theorem PNAll.other {w : World} {R : Nat} {s : Rn} {oa : Option Addr} {oc : Nat} {x : PN} (h : PNAll w R s oa oc x) {k : Nat} {cs : Array Value} {t : TypeId} (hk : w.heap[k]? = some (.cells cs t (0, 0))) (h1 : t = 24 → k ≠ x.q) (h2 : t ≠ 61) (h3 : t ≠ 90) : ¬ x.foot R k := by
  intro hf
  obtain ⟨cs', t', e, ht⟩ := h.types k hf
  rw [hk] at e
  simp only [Option.some.injEq, Obj.cells.injEq, and_true] at e
  obtain ⟨_, rfl⟩ := e
  rcases ht with ⟨a, b⟩ | b | b
  · exact h1 b a
  · exact h2 b
  · exact h3 b
theorem Full.off {w w' : World} {F : Nat → Prop} {g n : Nat} {key : List UInt8} (h : Full w g n key) (ha : Apart F w w') (hg : ¬ F g) (hp : ∀ k, F k → ∀ i y, w.cell? ⟨k, i, none⟩ ≠ some (.int .u8 y)) : Full w' g n key := by
  obtain ⟨s, h1, h2, h3⟩ := h
  exact ⟨s, h1, (ha.block g (Array.getElem?_eq_some_iff.1 h2).1 hg).trans h2, fun j p hj => (h3 j p hj).off ha hp⟩
theorem DNAll.off {w w' : World} {F : Nat → Prop} {D : Nat} {t : Rn} {da : Option Addr} {dc : Nat} {ka : Option Addr} {kc : Nat} (h : DNAll w D t da dc ka kc) (ha : Apart F w w') (hD : ¬ F D) (hg : 0 ≤ t.ep → ∀ g, ka = some ⟨g, 0, none⟩ → ¬ F g) (hp : ∀ k, F k → ∀ i y, w.cell? ⟨k, i, none⟩ ≠ some (.int .u8 y)) : DNAll w' D t da dc ka kc :=
  ⟨(ha.block D h.at'.lt hD).trans h.at', h.own.off ha hp, fun h0 => by
    obtain ⟨g, e, hf⟩ := h.keys h0
    exact ⟨g, e, hf.off ha (hg h0 g e) hp⟩⟩
theorem Gr.off {w w' : World} {F : Nat → Prop} {R : Nat} {s : Rn} {oa : Option Addr} {oc : Nat} {Q0 N0 C0 : Nat} {x : PN} (h : Gr w R s oa oc Q0 N0 C0 x) (ha : Apart F w w') (hF : ∀ k, x.foot R k → ¬ F k) (hp : ∀ k, F k → ∀ i y, w.cell? ⟨k, i, none⟩ ≠ some (.int .u8 y)) : Gr w' R s oa oc Q0 N0 C0 x :=
  ⟨h.peb.aside ha (hF R (.inl rfl)) (hF _ (.inr (.inl rfl))) hp, h.kept.keep (ha.block _ h.kept.lt (hF _ (.inr (.inr rfl)))), h.num, fun j p hj => (h.keys j p hj).off ha hp, h.own.off ha hp, h.ne, h.few⟩
theorem PNAll.off {w w' : World} {F : Nat → Prop} {R : Nat} {s : Rn} {oa : Option Addr} {oc : Nat} {x : PN} (h : PNAll w R s oa oc x) (ha : Apart F w w') (hF : ∀ k, x.foot R k → ¬ F k) (hp : ∀ k, F k → ∀ i y, w.cell? ⟨k, i, none⟩ ≠ some (.int .u8 y)) : PNAll w' R s oa oc x := by
  cases h with
  | idle h ho h0 hx => exact .idle ((ha.block R h.lt (hF R (.inl rfl))).trans h) (ho.off ha hp) h0 hx
  | begun h h0 => exact .begun (h.off ha hF hp) h0

/-- Both, seen from a world w0 that has neither: the program's holds s, the document's t. -/
structure NTwo (w0 w : World) (R D : Nat) (s t : Rn) (oa da : Option Addr) (oc dc : Nat) (x : PN) (ka : Option Addr) (kc : Nat) : Prop where
  p : PNAll w R s oa oc x
  d : DNAll w D t da dc ka kc
  ok : s.ok ∧ t.ok
  tab : FTab w ∧ KTab w
  bel : Below w0.heap.size w0 w
  low : w0.heap.size ≤ R ∧ w0.heap.size ≤ x.b ∧ w0.heap.size ≤ x.q ∧ w0.heap.size ≤ D
  sep : 0 ≤ t.ep → ∀ g, ka = some ⟨g, 0, none⟩ → g ≠ x.q
def NDuo (w0 w : World) (R D : Nat) (s t : Rn) : Prop := ∃ oa da oc dc x ka kc, NTwo w0 w R D s t oa da oc dc x ka kc
theorem NTwo.notD {w0 w : World} {R D : Nat} {s t : Rn} {oa da : Option Addr} {oc dc : Nat} {x : PN} {ka : Option Addr} {kc : Nat} (h : NTwo w0 w R D s t oa da oc dc x ka kc) : ¬ x.foot R D := h.p.other h.d.at' (fun e => absurd e (by decide)) (by decide) (by decide)
theorem NTwo.later {w0 w w' : World} {R D : Nat} {s s' t : Rn} {oa da : Option Addr} {oc dc : Nat} {x x' : PN} {ka : Option Addr} {kc : Nat} (h : NTwo w0 w R D s t oa da oc dc x ka kc) (hA : PNAll w' R s' oa oc x') (hok : s'.ok) (hl : Later R w w' x x') : NDuo w0 w' R D s' t ∧ Frame w w' := by
  have hz := h.bel.size
  obtain ⟨l1, l2, l3, l4⟩ := h.low
  have hpl : ∀ k, x.foot R k → ∀ i y, w.cell? ⟨k, i, none⟩ ≠ some (.int .u8 y) := fun k hk i y hc => by cases h.p.plain k hk i _ y hc
  refine ⟨⟨oa, da, oc, dc, x', ka, kc, hA, h.d.off hl.apart h.notD ?_ hpl, ⟨hok, h.ok.2⟩, ⟨h.tab.1.pn h.p hl.apart, h.tab.2.pn h.p hl.apart⟩, hl.apart.below h.bel ?_ hz, ⟨l1, ?_, ?_, l4⟩, ?_⟩, h.p.keeps hl.apart, ?_⟩
  · intro h0 g e
    obtain ⟨g', e', hf⟩ := h.d.keys h0
    rw [e] at e'
    simp only [Option.some.injEq, Addr.mk.injEq, and_true] at e'
    subst e'
    obtain ⟨_, _, h2, _⟩ := hf
    exact h.p.other h2 (fun _ => h.sep h0 g e) (by decide) (by decide)
  · rintro k (rfl | rfl | rfl)
    · exact l1
    · exact l2
    · exact l3
  · rcases hl.b with e | e
    · rw [e]; exact l2
    · omega
  · rcases hl.q with e | e
    · rw [e]; exact l3
    · omega
  · intro h0 g e
    rcases hl.q with e' | e'
    · rw [e']; exact h.sep h0 g e
    · obtain ⟨g', e2, hf⟩ := h.d.keys h0
      rw [e] at e2
      simp only [Option.some.injEq, Addr.mk.injEq, and_true] at e2
      subst e2
      obtain ⟨_, _, h2, _⟩ := hf
      have := (Array.getElem?_eq_some_iff.1 h2).1
      omega
  · intro B k hb
    exact (hl.apart.block B (Array.getElem?_eq_some_iff.1 hb).1 (h.p.other hb (fun e => absurd e (by decide)) (by decide) (by decide))).trans hb
theorem DNAt.plain {w : World} {D : Nat} {t : Rn} {da : Option Addr} {dc : Nat} {ka : Option Addr} {n kc : Nat} (h : DNAt w D t da dc (.slice ka n kc)) : ∀ k, k = D → ∀ i kd y, w.cell? ⟨k, i, none⟩ = some (.int kd y) → kd = .i64 := by
  rintro k rfl i kd y hc
  rw [cell_of_row _ _ _ _ _ _ h, List.getElem?_toArray] at hc
  have hm := List.mem_of_getElem? hc
  simp only [dnL, List.mem_cons, List.not_mem_nil, or_false, reduceCtorEq, false_or, Value.int.injEq] at hm
  rcases hm with h | h | h | h | h | h | h | h | h | h | h | h | h <;> exact h.1
theorem NTwo.dlater {w0 w w' : World} {R D : Nat} {s t t' : Rn} {oa da : Option Addr} {oc dc : Nat} {x : PN} {ka ka' : Option Addr} {kc kc' : Nat} (h : NTwo w0 w R D s t oa da oc dc x ka kc) (hA : DNAll w' D t' da dc ka' kc') (hok : t'.ok) (ha : Apart (fun k => k = D) w w') (hk : (t' = t ∧ ka' = ka) ∨ ∃ g, ka' = some ⟨g, 0, none⟩ ∧ w.heap.size ≤ g) : NDuo w0 w' R D s t' ∧ Frame w w' := by
  have hz := h.bel.size
  obtain ⟨l1, l2, l3, l4⟩ := h.low
  have hkd := h.d.at'.plain
  have hpl : ∀ k, k = D → ∀ i y, w.cell? ⟨k, i, none⟩ ≠ some (.int .u8 y) := fun k hk i y hc => by cases hkd k hk i _ y hc
  have hFT : ∀ {k i : Nat} {kd : IntKind} {y : Int}, w.cell? ⟨k, i, none⟩ = some (.int kd y) → kd ≠ .i64 → w'.cell? ⟨k, i, none⟩ = some (.int kd y) := fun hc hne => ha.cell hc fun hf => hne (hkd _ hf _ _ _ hc)
  refine ⟨⟨oa, da, oc, dc, x, ka', kc', h.p.off ha (fun k hk e => h.notD (by rw [← e]; exact hk)) hpl, hA, ⟨h.ok.1, hok⟩, ⟨fun j hj => hFT (h.tab.1 j hj) (by decide), fun j hj => hFT (h.tab.2 j hj) (by decide)⟩, ha.below h.bel (by rintro k rfl; exact l4) hz, ⟨l1, l2, l3, l4⟩, ?_⟩, fun a c l hs => hs.off ha hpl, ?_⟩
  · intro h0 g e
    rcases hk with ⟨rfl, rfl⟩ | ⟨g', e', hg⟩
    · exact h.sep h0 g e
    · rw [e] at e'
      simp only [Option.some.injEq, Addr.mk.injEq, and_true] at e'
      subst e'
      have hq : x.q < w.heap.size := by
        obtain ⟨_, _, h2, _⟩ := h.p.types x.q (.inr (.inr rfl))
        exact (Array.getElem?_eq_some_iff.1 h2).1
      omega
  · intro B k hb
    refine (ha.block B (Array.getElem?_eq_some_iff.1 hb).1 ?_).trans hb
    rintro rfl
    have hd := h.d.at'
    unfold NBox at hb
    unfold DNAt at hd
    rw [hb] at hd
    simp at hd
theorem NDuo.below {w0 w w' : World} {R D : Nat} {s t : Rn} (h : NDuo w0 w R D s t) (hb : Below w.heap.size w w') : NDuo w0 w' R D s t := by
  obtain ⟨oa, da, oc, dc, x, ka, kc, h⟩ := h
  exact ⟨oa, da, oc, dc, x, ka, kc, h.p.below hb, h.d.below hb, h.ok, ⟨h.tab.1.below hb, h.tab.2.below hb⟩, h.bel.trans (hb.mono h.bel.size), h.low, h.sep⟩
theorem NDuo.low {w0 w : World} {R D : Nat} {s t : Rn} (h : NDuo w0 w R D s t) : Below w0.heap.size w0 w ∧ FTab w ∧ KTab w := by
  obtain ⟨oa, da, oc, dc, x, ka, kc, h⟩ := h
  exact ⟨h.bel, h.tab⟩
theorem NDuo.dcells {w0 w : World} {R D : Nat} {s t : Rn} (h : NDuo w0 w R D s t) : w.cell? ⟨D, 12, none⟩ = some (.int .i64 t.ep) ∧ w.cell? ⟨D, 13, none⟩ = some (.int .i64 t.st) := by
  obtain ⟨oa, da, oc, dc, x, ka, kc, h⟩ := h
  exact ⟨h.d.at'.cell 12 rfl, h.d.at'.cell 13 rfl⟩

/-- What Known tells, begun or not. -/
def KnR (s : Rn) (now : Int) (z : Int × List UInt8 × Int) : Prop := (s.ep < 0 ∧ z = (0, [], 5)) ∨ (¬ s.ep < 0 ∧ ∃ p, KnIs s now p ∧ z = s.tell p)
theorem KnR.one {s : Rn} (ho : s.ok) {now : Int} {z z' : Int × List UInt8 × Int} (h : KnR s now z) (h' : KnR s now z') : z = z' := by
  rcases h with ⟨a, rfl⟩ | ⟨a, p, b, rfl⟩
  · rcases h' with ⟨_, rfl⟩ | ⟨a', _⟩
    · rfl
    · exact absurd a a'
  · rcases h' with ⟨a', _⟩ | ⟨_, q, b', rfl⟩
    · exact absurd a' a
    · rw [b.one ho.cfg b']
theorem NDuo.pmac {w0 w : World} {R D : Nat} {s t : Rn} (h : NDuo w0 w R D s t) (r : Int) : Calls Tryz.prog 9 #[.pointer (some ⟨R, 0, none⟩), .int .i64 r] w fun e w' => ∃ d cd, e = .returned (.tuple #[.slice d (s.mac r).2.1.length cd, .int .i64 (s.mac r).1, .int .i64 (s.mac r).2.2]) ∧ Sees w' d cd (s.mac r).2.1 ∧ NDuo w0 w' R D s t ∧ Frame w w' := by
  obtain ⟨oa, da, oc, dc, x, ka, kc, h⟩ := h
  refine (pmac_any w R s oa oc x h.p h.ok.1 r h.tab.1 h.tab.2).mono ?_
  rintro e w' ⟨d, cd, x', rfl, hs, hA, hl⟩
  exact ⟨d, cd, rfl, hs, h.later hA h.ok.1 hl⟩
theorem NDuo.dmac {w0 w : World} {R D : Nat} {s t : Rn} (h : NDuo w0 w R D s t) (r : Int) : Calls Tryz.prog 10 #[.pointer (some ⟨D, 0, none⟩), .int .i64 r] w fun e w' => ∃ d cd, e = .returned (.tuple #[.slice d (t.mac r).2.1.length cd, .int .i64 (t.mac r).1, .int .i64 (t.mac r).2.2]) ∧ Sees w' d cd (t.mac r).2.1 ∧ NDuo w0 w' R D s t ∧ Frame w w' := by
  have hh := h
  obtain ⟨oa, da, oc, dc, x, ka, kc, h⟩ := h
  refine (dmac_any w D t da dc ka kc h.d h.ok.2 r).mono ?_
  rintro e w' ⟨d, cd, rfl, hs, hb⟩
  exact ⟨d, cd, rfl, hs, hh.below hb, Frame.of_below hb⟩
theorem NDuo.ptold {w0 w : World} {R D : Nat} {s t : Rn} (h : NDuo w0 w R D s t) (r : Int) : Calls Tryz.prog 11 #[.pointer (some ⟨R, 0, none⟩), .int .i64 r] w fun e w' => ∃ d cd, e = .returned (.tuple #[.int .i64 (s.told r).1, .slice d (s.told r).2.1.length cd, .int .i64 (s.told r).2.2]) ∧ Sees w' d cd (s.told r).2.1 ∧ NDuo w0 w' R D s t ∧ Frame w w' := by
  obtain ⟨oa, da, oc, dc, x, ka, kc, h⟩ := h
  refine (ptold_any w R s oa oc x h.p h.ok.1 r h.tab.1 h.tab.2).mono ?_
  rintro e w' ⟨d, cd, x', rfl, hs, hA, hl⟩
  exact ⟨d, cd, rfl, hs, h.later hA h.ok.1 hl⟩
theorem NDuo.dtold {w0 w : World} {R D : Nat} {s t : Rn} (h : NDuo w0 w R D s t) (r : Int) : Calls Tryz.prog 12 #[.pointer (some ⟨D, 0, none⟩), .int .i64 r] w fun e w' => ∃ d cd, e = .returned (.tuple #[.int .i64 (t.told r).1, .slice d (t.told r).2.1.length cd, .int .i64 (t.told r).2.2]) ∧ Sees w' d cd (t.told r).2.1 ∧ NDuo w0 w' R D s t ∧ Frame w w' := by
  have hh := h
  obtain ⟨oa, da, oc, dc, x, ka, kc, h⟩ := h
  refine (dtold_any w D t da dc ka kc h.d h.ok.2 r).mono ?_
  rintro e w' ⟨d, cd, rfl, hs, hb⟩
  exact ⟨d, cd, rfl, hs, hh.below hb, Frame.of_below hb⟩
theorem NDuo.pknown {w0 w : World} {R D : Nat} {s t : Rn} (h : NDuo w0 w R D s t) (now : Int) : Calls Tryz.prog 13 #[.pointer (some ⟨R, 0, none⟩), .int .i64 now] w fun e w' => ∃ z d cd, KnR s now z ∧ e = .returned (.tuple #[.int .i64 z.1, .slice d z.2.1.length cd, .int .i64 z.2.2]) ∧ Sees w' d cd z.2.1 ∧ NDuo w0 w' R D s t ∧ Frame w w' := by
  obtain ⟨oa, da, oc, dc, x, ka, kc, h⟩ := h
  by_cases h0 : s.ep < 0
  · refine (pknown_no w R s oa oc x h.p h.ok.1 h0 now).mono ?_
    rintro e w' ⟨d, cd, x', rfl, hs, hA, hl⟩
    exact ⟨_, d, cd, .inl ⟨h0, rfl⟩, rfl, hs, h.later hA h.ok.1 hl⟩
  · refine (pknown_ok w R s oa oc x h.p h.ok.1 h0 now h.tab.1 h.tab.2).mono ?_
    rintro e w' ⟨p, hk, d, cd, x', rfl, hs, hA, hl⟩
    exact ⟨_, d, cd, .inr ⟨h0, p, hk, rfl⟩, rfl, hs, h.later hA h.ok.1 hl⟩
theorem NDuo.dknown {w0 w : World} {R D : Nat} {s t : Rn} (h : NDuo w0 w R D s t) (now : Int) : Calls Tryz.prog 14 #[.pointer (some ⟨D, 0, none⟩), .int .i64 now] w fun e w' => ∃ z d cd, KnR t now z ∧ e = .returned (.tuple #[.int .i64 z.1, .slice d z.2.1.length cd, .int .i64 z.2.2]) ∧ Sees w' d cd z.2.1 ∧ NDuo w0 w' R D s t ∧ Frame w w' := by
  have hh := h
  obtain ⟨oa, da, oc, dc, x, ka, kc, h⟩ := h
  by_cases h0 : t.ep < 0
  · refine (dknown_no w D t da dc ka kc h.d h0 now).mono ?_
    rintro e w' ⟨d, cd, rfl, hs, hb⟩
    exact ⟨_, d, cd, .inl ⟨h0, rfl⟩, rfl, hs, hh.below hb, Frame.of_below hb⟩
  · refine (dknown_ok w D t da dc ka kc h.d h.ok.2 h0 now).mono ?_
    rintro e w' ⟨p, hk, d, cd, rfl, hs, hb⟩
    exact ⟨_, d, cd, .inr ⟨h0, p, hk, rfl⟩, rfl, hs, hh.below hb, Frame.of_below hb⟩
theorem NDuo.pbegin {w0 w : World} {R D : Nat} {s t : Rn} (h : NDuo w0 w R D s t) (e f : Int) : Calls Tryz.prog 7 #[.pointer (some ⟨R, 0, none⟩), .int .i64 e, .int .i64 f] w fun ev w' => ev = .returned (.int .i64 (s.begE e f)) ∧ NDuo w0 w' R D (s.begV e f) t ∧ Frame w w' := by
  obtain ⟨oa, da, oc, dc, x, ka, kc, h⟩ := h
  refine (pbegin_any w R s oa oc x h.p h.ok.1 e f h.tab.1 h.tab.2).mono ?_
  rintro ev w' ⟨rfl, x', hA, ha, hq, hb⟩
  exact ⟨rfl, h.later hA (Rn.begV_ok h.ok.1 e f) ⟨ha.mono fun k hk => .inl hk, hq, hb⟩⟩
theorem NDuo.dbegin {w0 w : World} {R D : Nat} {s t : Rn} (h : NDuo w0 w R D s t) (e f : Int) : Calls Tryz.prog 8 #[.pointer (some ⟨D, 0, none⟩), .int .i64 e, .int .i64 f] w fun ev w' => ev = .returned (.int .i64 (t.begE e f)) ∧ NDuo w0 w' R D s (t.begV e f) ∧ Frame w w' := by
  obtain ⟨oa, da, oc, dc, x, ka, kc, h⟩ := h
  refine (dbegin_any w D t da dc ka kc h.d h.ok.2 e f).mono ?_
  rintro ev w' ⟨rfl, ka', kc', hA, ha, hk⟩
  refine ⟨rfl, h.dlater hA (Rn.begV_ok h.ok.2 e f) ha ?_⟩
  rcases hk with ⟨hne, rfl⟩ | hk
  · exact .inl ⟨if_neg hne, rfl⟩
  · exact .inr hk
theorem NDuo.pover {w0 w : World} {R D : Nat} {s t : Rn} (h : NDuo w0 w R D s t) (r : Int) : Calls Tryz.prog 15 #[.pointer (some ⟨R, 0, none⟩), .int .i64 r] w fun e w' => e = .returned (.bool (s.over r)) ∧ Below w.heap.size w w' := by
  obtain ⟨oa, da, oc, dc, x, ka, kc, h⟩ := h
  exact pover_any w R s oa oc x h.p h.ok.1 r
theorem NDuo.dover {w0 w : World} {R D : Nat} {s t : Rn} (h : NDuo w0 w R D s t) (r : Int) : Calls Tryz.prog 16 #[.pointer (some ⟨D, 0, none⟩), .int .i64 r] w fun e w' => e = .returned (.bool (t.over r)) ∧ Below w.heap.size w w' := by
  obtain ⟨oa, da, oc, dc, x, ka, kc, h⟩ := h
  exact dover_any w D t da dc ka kc h.d r
theorem NDuo.pepoch {w0 w : World} {R D : Nat} {s t : Rn} (h : NDuo w0 w R D s t) : Calls Tryz.prog 17 #[.pointer (some ⟨R, 0, none⟩)] w fun e w' => e = .returned (.int .i64 s.ep) ∧ w' = w := by
  obtain ⟨oa, da, oc, dc, x, ka, kc, h⟩ := h
  obtain ⟨c10, _, c12, _, _⟩ := h.p.cells h.ok.1
  exact nepoch_at w R oa oc s.ep c10 c12
theorem NDuo.pstart {w0 w : World} {R D : Nat} {s t : Rn} (h : NDuo w0 w R D s t) : Calls Tryz.prog 18 #[.pointer (some ⟨R, 0, none⟩)] w fun e w' => e = .returned (.int .i64 s.st) ∧ w' = w := by
  obtain ⟨oa, da, oc, dc, x, ka, kc, h⟩ := h
  obtain ⟨c10, _, _, c13, _⟩ := h.p.cells h.ok.1
  exact nstart_at w R oa oc s.st c10 c13
/-- Both are made of what comes in. -/
theorem NDuo.new {w w1 : World} {c : Cf} {own : List UInt8} {sl : Int} {R : Nat} (h : PSolo w w1 R (rnNew c own sl)) (a : Option Addr) (ca : Nat) (ha : Sees w1 a ca own) (hr : rnB c own sl = true) : Calls Tryz.prog 6 #[.agg (cfC c), .slice a own.length ca, .int .i64 sl] w1 fun e w' => ∃ D, e = .returned (.tuple #[.pointer (some ⟨D, 0, none⟩), .int .i64 0]) ∧ NDuo w w' R D (rnNew c own sl) (rnNew c own sl) := by
  obtain ⟨oa, oc, x, h1, h2, h3, h4, h5, h6, h7, h8⟩ := h
  refine (dnew_ok w1 c a ca own sl ha hr).mono ?_
  rintro e w' ⟨D, rfl, hD, hA, hb⟩
  have := h5.size
  exact ⟨D, rfl, oa, a, oc, ca, x, none, 0, h1.below hb, hA, ⟨h2, h2⟩, ⟨h3.below hb, h4.below hb⟩, h5.trans (hb.mono h5.size), ⟨h6, h7, h8, by omega⟩, fun _ g e => by cases e⟩
end Go.Proofs.YtgncdnejmobjbaaGreatDoor
