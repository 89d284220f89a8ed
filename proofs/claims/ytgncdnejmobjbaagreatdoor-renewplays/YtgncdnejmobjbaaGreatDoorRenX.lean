/-
  The program's chain of a speaker: one that no call made; Begin; one chain, act by act; awake.
-/
import Derived.Test.YtgncdnejmobjbaaGreatDoorRenW
import Derived.Test.YtgncdnejmobjbaaGreatDoorRenL
import Derived.Laws.AppendOwn
namespace Go.Proofs.YtgncdnejmobjbaaGreatDoor
open Go.ChangeShapes Go.WideShapes Go.ChangeAt Go.RowKit
set_option maxRecDepth 20000

theorem pbegin_no (w : World) (p : Value) (h : NoN w p) (e t : Int) : Calls Tryz.prog 7 #[p, .int .i64 e, .int .i64 t] w fun e w' => e = .returned (.int .i64 7) ∧ w' = w := by
  have hs := nmade_no w p h
  clear h
  go_enter Tryz.func7, Tryz.ntmps7
  go_wp2_with fail
  refine hs.mono ?_
  rintro e w1 ⟨rfl, rfl⟩
  go_wp2
  go_ret
  exact ⟨rfl, rfl⟩
theorem pmac_no (w : World) (p : Value) (h : NoN w p) (r : Int) : Calls Tryz.prog 9 #[p, .int .i64 r] w fun e w' => e = .returned (.tuple #[.slice none 0 0, .int .i64 0, .int .i64 7]) ∧ w' = w := by
  have hs := nbegun_no w p h
  clear h
  go_enter Tryz.func9, Tryz.ntmps9
  go_wp2_with fail
  refine hs.mono ?_
  rintro e w1 ⟨rfl, rfl⟩
  go_wp2
  go_ret3
  exact ⟨rfl, rfl⟩
theorem ptold_no (w : World) (p : Value) (h : NoN w p) (r : Int) : Calls Tryz.prog 11 #[p, .int .i64 r] w fun e w' => e = .returned (.tuple #[.int .i64 0, .slice none 0 0, .int .i64 7]) ∧ w' = w := by
  have hs := nbegun_no w p h
  clear h
  go_enter Tryz.func11, Tryz.ntmps11
  go_wp2_with fail
  refine hs.mono ?_
  rintro e w1 ⟨rfl, rfl⟩
  go_wp2
  go_ret3
  exact ⟨rfl, rfl⟩
theorem pknown_nil (w : World) (p : Value) (h : NoN w p) (r : Int) : Calls Tryz.prog 13 #[p, .int .i64 r] w fun e w' => e = .returned (.tuple #[.int .i64 0, .slice none 0 0, .int .i64 7]) ∧ w' = w := by
  have hs := nbegun_no w p h
  clear h
  go_enter Tryz.func13, Tryz.ntmps13
  go_wp2_with fail
  refine hs.mono ?_
  rintro e w1 ⟨rfl, rfl⟩
  go_wp2
  go_ret3
  exact ⟨rfl, rfl⟩

theorem PNAll.plain {w : World} {R : Nat} {s : Rn} {oa : Option Addr} {oc : Nat} {x : PN} (h : PNAll w R s oa oc x) : ∀ k, x.foot R k → ∀ i kd y, w.cell? ⟨k, i, none⟩ = some (.int kd y) → kd = .i64 := by
  cases h with
  | idle h ho h0 hx =>
    intro k hk i kd y hc
    have : k = R := by rcases hk with e | e | e; exact e; exact e.trans hx.1; exact e.trans hx.2
    subst this
    rw [cell_of_row _ _ _ _ _ _ h, List.getElem?_toArray] at hc
    have hm := List.mem_of_getElem? hc
    simp only [pnL, rnPre, List.mem_append, List.mem_cons, List.not_mem_nil, or_false, reduceCtorEq, false_or, Value.int.injEq] at hm
    rcases hm with h | h
    · rcases h with h | h | h | h | h | h | h | h | h | h | h | h | h <;> exact h.1
    · rcases h with h | h <;> exact h.1
  | begun h h0 =>
    rintro k (rfl | rfl | rfl) i kd y hc
    · exact Classical.byContradiction fun hn => h.peb.kind hc hn (.inl rfl)
    · exact Classical.byContradiction fun hn => h.peb.kind hc hn (.inr rfl)
    · exact h.kept.noByte _ _ _ hc
/-- Bytes stay. -/
def Keeps (w w' : World) : Prop := ∀ (a : Option Addr) (c : Nat) (l : List UInt8), Sees w a c l → Sees w' a c l
theorem Keeps.of_below {w w' : World} (hb : Below w.heap.size w w') : Keeps w w' := fun _ _ _ h => h.below hb
theorem PNAll.keeps {w w' : World} {R : Nat} {s : Rn} {oa : Option Addr} {oc : Nat} {x : PN} (h : PNAll w R s oa oc x) (ha : Apart (x.foot R) w w') : Keeps w w' :=
  fun _ _ _ hs => hs.off ha fun k hk i y hc => by cases h.plain k hk i _ y hc
theorem PNAll.cell {w w' : World} {R : Nat} {s : Rn} {oa : Option Addr} {oc : Nat} {x : PN} (h : PNAll w R s oa oc x) (ha : Apart (x.foot R) w w') {k i : Nat} {kd : IntKind} {y : Int} (hc : w.cell? ⟨k, i, none⟩ = some (.int kd y)) (hk : kd ≠ .i64) : w'.cell? ⟨k, i, none⟩ = some (.int kd y) :=
  ha.cell hc fun hf => hk (h.plain k hf i kd y hc)
theorem FTab.pn {w w' : World} {R : Nat} {s : Rn} {oa : Option Addr} {oc : Nat} {x : PN} (hF : FTab w) (h : PNAll w R s oa oc x) (ha : Apart (x.foot R) w w') : FTab w' := fun t ht => h.cell ha (hF t ht) (by decide)
theorem KTab.pn {w w' : World} {R : Nat} {s : Rn} {oa : Option Addr} {oc : Nat} {x : PN} (hF : KTab w) (h : PNAll w R s oa oc x) (ha : Apart (x.foot R) w w') : KTab w' := fun t ht => h.cell ha (hF t ht) (by decide)

set_option maxHeartbeats 1600000 in
theorem pbegin_any (w : World) (R : Nat) (s : Rn) (oa : Option Addr) (oc : Nat) (x : PN) (h : PNAll w R s oa oc x) (hok : s.ok) (e t : Int) (hF : FTab w) (hT : KTab w) :
    Calls Tryz.prog 7 #[.pointer (some ⟨R, 0, none⟩), .int .i64 e, .int .i64 t] w fun ev w' => ev = .returned (.int .i64 (s.begE e t)) ∧ PBegun w R (s.begV e t) oa oc x w' := by
  by_cases ha : 0 ≤ e ∧ e ≤ 65535 ∧ 0 ≤ t ∧ t < 1048576
  · obtain ⟨a1, a2, a3, a4⟩ := ha
    by_cases he : e ≤ s.ep
    · have hE : s.begE e t = 5 := by unfold Rn.begE; rw [if_pos ⟨a1, a2, a3, a4⟩, if_pos he]
      have hV : s.begV e t = s := if_neg (by rw [hE]; decide)
      rw [hE, hV]
      obtain ⟨c10, _, c12, _, _⟩ := h.cells hok
      have KM := nmade_yes w R oa oc c10
      have KS := seed_any w oa oc s.own e hF hT h.own
      have hP : seedP s.own e = (keyOf s.own epochN [e.toNat], 0) := if_pos ⟨hok.own, a1, a2⟩
      rw [hP, hok.own] at KS
      have HH : Hid (PNAll w R s oa oc x ∧ R < w.heap.size) := ⟨h, by obtain ⟨_, _, _, _, _, h'⟩ := h.at'; exact h'.lt⟩
      have n3 : ¬ t < 0 := by omega
      have n4 : ¬ 1048576 ≤ t := by omega
      clear h hok hF hT hP hE hV a1 a2 a3 a4
      go_enter Tryz.func7, Tryz.ntmps7
      go_wp2_with fail
      refine KM.mono ?_
      rintro ev w0 ⟨rfl, rfl⟩
      clear KM
      go_wp2_with fail
      refine KS.mono ?_
      rintro ev w1 ⟨d, c, rfl, _, hb1⟩
      have c12' : w1.cell? ⟨R, 12, none⟩ = some (.int .i64 s.ep) := by rw [hb1.cell (p := ⟨R, 12, none⟩) HH.out.2]; exact c12
      have HE : Hid (PBegun w0 R s oa oc x w1) := ⟨x, HH.out.1.below hb1, Apart.of_below hb1, .inl rfl, .inl rfl⟩
      clear KS hb1 c12 c10
      go_wp2
      go_ret
      exact ⟨rfl, HE.out⟩
    · have hE : s.begE e t = 0 := Rn.begE_zero.2 ⟨⟨a1, a2, a3, a4⟩, he⟩
      rw [hE, show s.begV e t = { s with ep := e, st := t } from if_pos hE]
      exact pbegin_ok w R s oa oc x h hok e t a1 a2 a3 a4 he hF hT
  · have hE : s.begE e t = 1 := if_neg ha
    have hV : s.begV e t = s := if_neg (by rw [hE]; decide)
    rw [hE, hV]
    obtain ⟨c10, _, c12, _, _⟩ := h.cells hok
    have KM := nmade_yes w R oa oc c10
    have KS := seed_any w oa oc s.own e hF hT h.own
    have HH : Hid (PNAll w R s oa oc x) := h
    by_cases a12 : 0 ≤ e ∧ e ≤ 65535
    · have hP : seedP s.own e = (keyOf s.own epochN [e.toNat], 0) := if_pos ⟨hok.own, a12.1, a12.2⟩
      rw [hP, hok.own] at KS
      clear h hok hF hT hP hE hV
      by_cases n3 : t < 0
      · clear ha a12
        go_enter Tryz.func7, Tryz.ntmps7
        go_wp2_with fail
        refine KM.mono ?_
        rintro ev w0 ⟨rfl, rfl⟩
        clear KM
        go_wp2_with fail
        refine KS.mono ?_
        rintro ev w1 ⟨d, c, rfl, _, hb1⟩
        have HE : Hid (PBegun w0 R s oa oc x w1) := ⟨x, HH.out.below hb1, Apart.of_below hb1, .inl rfl, .inl rfl⟩
        clear KS hb1 c12 c10
        go_wp2
        go_ret
        exact ⟨rfl, HE.out⟩
      · have n4 : 1048576 ≤ t := Int.not_lt.1 fun hh => ha ⟨a12.1, a12.2, by omega, hh⟩
        clear ha a12
        go_enter Tryz.func7, Tryz.ntmps7
        go_wp2_with fail
        refine KM.mono ?_
        rintro ev w0 ⟨rfl, rfl⟩
        clear KM
        go_wp2_with fail
        refine KS.mono ?_
        rintro ev w1 ⟨d, c, rfl, _, hb1⟩
        have HE : Hid (PBegun w0 R s oa oc x w1) := ⟨x, HH.out.below hb1, Apart.of_below hb1, .inl rfl, .inl rfl⟩
        clear KS hb1 c12 c10
        go_wp2
        go_ret
        exact ⟨rfl, HE.out⟩
    · have hP : seedP s.own e = ([], 1) := if_neg fun hh => a12 hh.2
      rw [hP, hok.own] at KS
      clear h hok hF hT hP hE hV ha a12
      go_enter Tryz.func7, Tryz.ntmps7
      go_wp2_with fail
      refine KM.mono ?_
      rintro ev w0 ⟨rfl, rfl⟩
      clear KM
      go_wp2_with fail
      refine KS.mono ?_
      rintro ev w1 ⟨d, c, rfl, _, hb1⟩
      have HE : Hid (PBegun w0 R s oa oc x w1) := ⟨x, HH.out.below hb1, Apart.of_below hb1, .inl rfl, .inl rfl⟩
      clear KS hb1 c12 c10
      go_wp2
      go_ret
      exact ⟨rfl, HE.out⟩

/-- One chain under way, seen from a world w0 that has not got it. -/
def PSolo (w0 w : World) (R : Nat) (s : Rn) : Prop := ∃ oa oc x, PNAll w R s oa oc x ∧ s.ok ∧ FTab w ∧ KTab w ∧ Below w0.heap.size w0 w ∧ w0.heap.size ≤ R ∧ w0.heap.size ≤ x.b ∧ w0.heap.size ≤ x.q
theorem PSolo.at' {w0 w : World} {R : Nat} {s : Rn} (h : PSolo w0 w R s) : s.ok ∧ FTab w ∧ KTab w ∧ Below w0.heap.size w0 w := by
  obtain ⟨_, _, _, _, h2, h3, h4, h5, _⟩ := h
  exact ⟨h2, h3, h4, h5⟩
theorem PSolo.below {w0 w w' : World} {R : Nat} {s : Rn} (h : PSolo w0 w R s) (hb : Below w.heap.size w w') : PSolo w0 w' R s := by
  obtain ⟨oa, oc, x, h1, h2, h3, h4, h5, h6⟩ := h
  exact ⟨oa, oc, x, h1.below hb, h2, h3.below hb, h4.below hb, h5.trans (hb.mono h5.size), h6⟩
theorem PSolo.later {w0 w w' : World} {R : Nat} {s s' : Rn} {oa : Option Addr} {oc : Nat} {x x' : PN} (h1 : PNAll w R s oa oc x) (h3 : FTab w) (h4 : KTab w) (h5 : Below w0.heap.size w0 w) (h6 : w0.heap.size ≤ R ∧ w0.heap.size ≤ x.b ∧ w0.heap.size ≤ x.q) (hA : PNAll w' R s' oa oc x') (hok : s'.ok) (hl : Later R w w' x x') : PSolo w0 w' R s' ∧ Keeps w w' := by
  have hz := h5.size
  refine ⟨⟨oa, oc, x', hA, hok, h3.pn h1 hl.apart, h4.pn h1 hl.apart, hl.apart.below h5 ?_ hz, h6.1, ?_, ?_⟩, h1.keeps hl.apart⟩
  · rintro k (rfl | rfl | rfl)
    · exact h6.1
    · exact h6.2.1
    · exact h6.2.2
  · rcases hl.b with e | e
    · rw [e]; exact h6.2.1
    · omega
  · rcases hl.q with e | e
    · rw [e]; exact h6.2.2
    · omega
theorem PSolo.new (w : World) (c : Cf) (a : Option Addr) (ca : Nat) (own : List UInt8) (sl : Int) (hF : FTab w) (hT : KTab w) (ha : Sees w a ca own) (h : rnB c own sl = true) : Calls Tryz.prog 5 #[.agg (cfC c), .slice a own.length ca, .int .i64 sl] w fun e w' => ∃ R, e = .returned (.tuple #[.pointer (some ⟨R, 0, none⟩), .int .i64 0]) ∧ PSolo w w' R (rnNew c own sl) := by
  refine (pnew_ok w c a ca own sl ha h).mono ?_
  rintro e w' ⟨R, oa, oc, x, rfl, hR, hA, hb⟩
  refine ⟨R, rfl, oa, oc, x, hA, rnNew_ok h, hF.below hb, hT.below hb, hb, hR, ?_⟩
  cases hA with
  | idle _ _ _ hx => rw [hx.1, hx.2]; exact ⟨hR, hR⟩
  | begun _ h0 => exact absurd h0 (by show ¬ (0 : Int) ≤ -1; omega)
theorem PSolo.begin {w0 w : World} {R : Nat} {s : Rn} (h : PSolo w0 w R s) (e t : Int) : Calls Tryz.prog 7 #[.pointer (some ⟨R, 0, none⟩), .int .i64 e, .int .i64 t] w fun ev w' => ev = .returned (.int .i64 (s.begE e t)) ∧ PSolo w0 w' R (s.begV e t) ∧ Keeps w w' := by
  obtain ⟨oa, oc, x, h1, h2, h3, h4, h5, h6⟩ := h
  refine (pbegin_any w R s oa oc x h1 h2 e t h3 h4).mono ?_
  rintro ev w' ⟨rfl, x', hA, ha, hq, hb⟩
  exact ⟨rfl, PSolo.later h1 h3 h4 h5 h6 hA (Rn.begV_ok h2 e t) ⟨ha.mono fun k hk => .inl hk, hq, hb⟩⟩
theorem PSolo.mac {w0 w : World} {R : Nat} {s : Rn} (h : PSolo w0 w R s) (r : Int) : Calls Tryz.prog 9 #[.pointer (some ⟨R, 0, none⟩), .int .i64 r] w fun e w' => ∃ d cd, e = .returned (.tuple #[.slice d (s.mac r).2.1.length cd, .int .i64 (s.mac r).1, .int .i64 (s.mac r).2.2]) ∧ Sees w' d cd (s.mac r).2.1 ∧ PSolo w0 w' R s ∧ Keeps w w' := by
  obtain ⟨oa, oc, x, h1, h2, h3, h4, h5, h6⟩ := h
  refine (pmac_any w R s oa oc x h1 h2 r h3 h4).mono ?_
  rintro e w' ⟨d, cd, x', rfl, hs, hA, hl⟩
  exact ⟨d, cd, rfl, hs, PSolo.later h1 h3 h4 h5 h6 hA h2 hl⟩
theorem PSolo.told {w0 w : World} {R : Nat} {s : Rn} (h : PSolo w0 w R s) (r : Int) : Calls Tryz.prog 11 #[.pointer (some ⟨R, 0, none⟩), .int .i64 r] w fun e w' => ∃ d cd, e = .returned (.tuple #[.int .i64 (s.told r).1, .slice d (s.told r).2.1.length cd, .int .i64 (s.told r).2.2]) ∧ Sees w' d cd (s.told r).2.1 ∧ PSolo w0 w' R s ∧ Keeps w w' := by
  obtain ⟨oa, oc, x, h1, h2, h3, h4, h5, h6⟩ := h
  refine (ptold_any w R s oa oc x h1 h2 r h3 h4).mono ?_
  rintro e w' ⟨d, cd, x', rfl, hs, hA, hl⟩
  exact ⟨d, cd, rfl, hs, PSolo.later h1 h3 h4 h5 h6 hA h2 hl⟩
theorem PSolo.known {w0 w : World} {R : Nat} {s : Rn} (h : PSolo w0 w R s) (h0 : ¬ s.ep < 0) (now : Int) : Calls Tryz.prog 13 #[.pointer (some ⟨R, 0, none⟩), .int .i64 now] w fun e w' => ∃ p d cd, KnIs s now p ∧ e = .returned (.tuple #[.int .i64 (s.tell p).1, .slice d (s.tell p).2.1.length cd, .int .i64 (s.tell p).2.2]) ∧ Sees w' d cd (s.tell p).2.1 ∧ PSolo w0 w' R s ∧ Keeps w w' := by
  obtain ⟨oa, oc, x, h1, h2, h3, h4, h5, h6⟩ := h
  refine (pknown_ok w R s oa oc x h1 h2 h0 now h3 h4).mono ?_
  rintro e w' ⟨p, hk, d, cd, x', rfl, hs, hA, hl⟩
  exact ⟨p, d, cd, hk, rfl, hs, PSolo.later h1 h3 h4 h5 h6 hA h2 hl⟩
theorem PSolo.epoch {w0 w : World} {R : Nat} {s : Rn} (h : PSolo w0 w R s) : Calls Tryz.prog 17 #[.pointer (some ⟨R, 0, none⟩)] w fun e w' => e = .returned (.int .i64 s.ep) ∧ w' = w := by
  obtain ⟨oa, oc, x, h1, h2, _⟩ := h
  obtain ⟨c10, _, c12, _, _⟩ := h1.cells h2
  exact nepoch_at w R oa oc s.ep c10 c12
theorem PSolo.start {w0 w : World} {R : Nat} {s : Rn} (h : PSolo w0 w R s) : Calls Tryz.prog 18 #[.pointer (some ⟨R, 0, none⟩)] w fun e w' => e = .returned (.int .i64 s.st) ∧ w' = w := by
  obtain ⟨oa, oc, x, h1, h2, _⟩ := h
  obtain ⟨c10, _, _, c13, _⟩ := h1.cells h2
  exact nstart_at w R oa oc s.st c10 c13
theorem PSolo.over {w0 w : World} {R : Nat} {s : Rn} (h : PSolo w0 w R s) (r : Int) : Calls Tryz.prog 15 #[.pointer (some ⟨R, 0, none⟩), .int .i64 r] w fun e w' => e = .returned (.bool (s.over r)) ∧ PSolo w0 w' R s ∧ Keeps w w' := by
  have hh := h
  obtain ⟨oa, oc, x, h1, h2, _⟩ := h
  refine (pover_any w R s oa oc x h1 h2 r).mono ?_
  rintro e w' ⟨rfl, hb⟩
  exact ⟨rfl, hh.below hb, Keeps.of_below hb⟩

theorem usual_ok (w : World) : Calls Tryz.prog 19 #[] w fun e w' => e = .returned (.agg (cfC rnC)) ∧ Below w.heap.size w w' := by
  have hb : ∀ W, (Instr.build 23 #[(0, .int .i64 3), (2, .int .i64 400), (3, .int .i64 1), (4, .int .i64 16), (5, .int .i64 400), (6, .int .i64 400), (7, .int .i64 1), (8, .int .i64 2), (9, .int .i64 8)]).run Tryz.prog W = .ok (.agg (cfC rnC)) W := fun W => by
    kernel_rfl
  have h0 : CfAt (w.alloc (.cells (cfC Cf.zero) 23)) w.heap.size Cf.zero := CfAt.new w _
  have HB : Hid ((Instr.build 23 #[(0, .int .i64 3), (2, .int .i64 400), (3, .int .i64 1), (4, .int .i64 16), (5, .int .i64 400), (6, .int .i64 400), (7, .int .i64 1), (8, .int .i64 2), (9, .int .i64 8)]).run Tryz.prog (w.alloc (.cells (cfC Cf.zero) 23)) = .ok (.agg (cfC rnC)) (w.alloc (.cells (cfC Cf.zero) 23))) := hb _
  have HS : Hid ((Instr.storeAt 23 (.pointer (some ⟨w.heap.size, 0, none⟩)) (.agg (cfC rnC))).run Tryz.prog (w.alloc (.cells (cfC Cf.zero) 23)) = .ok () ((w.alloc (.cells (cfC Cf.zero) 23)).setRow w.heap.size (cfC rnC))) := h0.stores rnC
  have HE : Hid (CfAt ((w.alloc (.cells (cfC Cf.zero) 23)).setRow w.heap.size (cfC rnC)) w.heap.size rnC ∧ Below w.heap.size w ((w.alloc (.cells (cfC Cf.zero) 23)).setRow w.heap.size (cfC rnC))) :=
    ⟨h0.stored rnC, below_setRow (Go.Joins.below_alloc1 _ _) (Nat.le_refl _) _⟩
  clear hb h0
  go_enter Tryz.func19, Tryz.ntmps19
  go_wp2_with (first | (refine wpList_build_run rfl 23 _ rfl [(0, .int .i64 3), (2, .int .i64 400), (3, .int .i64 1), (4, .int .i64 16), (5, .int .i64 400), (6, .int .i64 400), (7, .int .i64 1), (8, .int .i64 2), (9, .int .i64 8)] _ rfl HB.out ?_) | (refine wpList_store_run rfl 23 _ _ rfl _ _ rfl rfl HS.out ?_) | fail)
  refine bodyPost_ret (res_cf rfl rfl HE.out.1) rfl ?_
  exact ⟨rfl, HE.out.2⟩

/-- Sixteen noughts are made, wherever. -/
theorem made16 (w : World) : ∃ w', (Instr.makeSlice 24 (.int .i64 16) (.int .i64 16)).run Tryz.prog w = .ok (.slice (some ⟨w.heap.size, 0, none⟩) 16 16) w' ∧ Sees w' (some ⟨w.heap.size, 0, none⟩) 16 (List.replicate 16 0) ∧ Below w.heap.size w w' := by
  obtain ⟨i5, hi, hz0, hz1, hz2⟩ := info_parts Tryz.info5
  obtain ⟨w', hrun, hown, hgrow⟩ := run_make_full (P := Tryz.prog) w w.heap.size 24 5 i5 (.int .u8 0) 1 Tryz.underlying24 hi hz0 hz1 .i64 .i64 16 (by rw [hz2]; omega) (by unfold maxLen; omega) (Nat.le_refl _)
  have ho : w'.ownsRow w.heap.size 5 1 (.slice (some ⟨w.heap.size, 0, none⟩) 16 16) 16 ((List.replicate 16 (0 : UInt8)).map cellOf) := by rw [← made_bytes]; exact hown
  obtain ⟨d, cd, hv, hs⟩ := Sees.of_own ho
  simp only [Value.slice.injEq] at hv
  rw [← hv.1, ← hv.2.2] at hs
  exact ⟨w', hrun, hs, (Below.refl _ _).grown hgrow (Nat.le_refl _) (by intro k h; cases h)⟩
theorem op_make_run {P : Program} {w w' : World} {o : Oper} {a : Act} {K : Act → World → Prop} {Q : Exit → Act → World → Prop} (t : TypeId) (x y : Operand) (ho : o.op = .makeSlice t x y) (v u r : Value) (hx : a.eval x = v) (hy : a.eval y = u)
    (hrun : (Instr.makeSlice t v u).run P w = .ok r w') (h : K (a.put o.dst r) w') : Oper.wp P o a w K Q := by
  unfold Oper.wp execOp
  simp only [ho, hx, hy, Sem.run_bind, hrun, Result.andThen_ok, Sem.run_pure]
  exact h

theorem op_make16 {w : World} {o : Oper} {a : Act} {K : Act → World → Prop} {Q : Exit → Act → World → Prop} (x y : Operand) (ho : o.op = .makeSlice 24 x y) (hx : a.eval x = .int .i64 16) (hy : a.eval y = .int .i64 16)
    (h : ∀ w', Sees w' (some ⟨w.heap.size, 0, none⟩) 16 (List.replicate 16 0) → Below w.heap.size w w' → K (a.put o.dst (.slice (some ⟨w.heap.size, 0, none⟩) 16 16)) w') : Oper.wp Tryz.prog o a w K Q := by
  obtain ⟨w', hrun, h1, h2⟩ := made16 w
  exact op_make_run 24 x y ho _ _ _ hx hy hrun (h w' h1 h2)

set_option maxHeartbeats 1600000 in
theorem awake_ok (w : World) (hF : FTab w) (hT : KTab w) : Calls Tryz.prog 4 #[] w fun e w' => e = .returned (.bool true) ∧ Below w.heap.size w w' := by
  have KU := usual_ok
  have KN : Hid (∀ V p, Below w.heap.size w V → Sees V p 16 (List.replicate 16 0) → Calls Tryz.prog 5 #[.agg (cfC rnC), .slice p 16 16, .int .i64 1] V fun e w' => ∃ R, e = .returned (.tuple #[.pointer (some ⟨R, 0, none⟩), .int .i64 0]) ∧ PSolo w w' R (rnNew rnC (List.replicate 16 0) 1)) := fun V p hV hs => by
    refine (PSolo.new V rnC p 16 (List.replicate 16 0) 1 (hF.below hV) (hT.below hV) hs (by decide)).mono ?_
    rintro e w' ⟨R, rfl, oa, oc, x, h1, h2, h3, h4, h5, h6, h7, h8⟩
    have := hV.size
    exact ⟨R, rfl, oa, oc, x, h1, h2, h3, h4, hV.trans (h5.mono hV.size), by omega, by omega, by omega⟩
  clear hF hT
  go_enter Tryz.func4, Tryz.ntmps4
  go_wp2_with fail
  refine wp_region_noPanic ?_
  refine wp_region_held (S := fun V => Below w.heap.size w V) (by kernel_rfl) ?_
  have hS := (Below.refl w.heap.size w).drew
  refine any_two 0 1 rfl rfl (by kernel_rfl) (by rfl) (by rfl) (fun K hK => ?_) (fun K hK => ?_)
  · have hSS : _ := hS
    clear hS
    go_simp
    refine (KU _).mono ?_
    rintro ev wu ⟨rfl, hbu⟩
    (try replace hsm := Sees.below hsm hbu)
    refine hK.out _ _ (hSS.trans (hbu.mono hSS.size)) (fun hS => ?_)
    clear hK
    (try simp only [Act.put, List.setIfInBounds_toArray, List.set_cons_zero, List.set_cons_succ])
    refine any_one 1 rfl (by kernel_rfl) (by rfl) (fun K hK => ?_)
    have hSS : _ := hS
    clear hS
    refine op_make16 _ _ rfl rfl rfl ?_
    intro wm hsm hbm
    refine hK.out _ _ (hSS.trans (hbm.mono hSS.size)) (fun hS => ?_)
    clear hK
    (try simp only [Act.put, List.setIfInBounds_toArray, List.set_cons_zero, List.set_cons_succ])
    refine any_one 2 rfl (by kernel_rfl) (by rfl) (fun K hK => ?_)
    have hSS : _ := hS
    clear hS
    go_simp
    refine (KN.out _ _ hSS hsm).mono ?_
    rintro ev w3 ⟨R, rfl, hP⟩
    clear hSS hsm
    refine hK.out _ _ (hP.at'.2.2.2) (fun hS => ?_)
    clear hK
    (try simp only [Act.put, List.setIfInBounds_toArray, List.set_cons_zero, List.set_cons_succ])
    refine any_take 3 ?vawn1 rfl (by kernel_rfl) (by kernel_rfl) (by kernel_rfl) (fun _ _ _ h => h) (by rfl) ?hawn1 hS ?_
    case hawn1 => (intro w hSw; (try dsimp only at hSw); go_split_ands; go_simp; (try with_reducible rfl))
    (try simp only [Act.put, List.setIfInBounds_toArray, List.set_cons_zero, List.set_cons_succ])
    refine any_take 4 ?vawn2 rfl (by kernel_rfl) (by kernel_rfl) (by kernel_rfl) (fun _ _ _ h => h) (by rfl) ?hawn2 hS ?_
    case hawn2 => (intro w hSw; (try dsimp only at hSw); go_split_ands; go_simp; (try with_reducible rfl))
    (try simp only [Act.put, List.setIfInBounds_toArray, List.set_cons_zero, List.set_cons_succ])
    refine any_take 5 ?vawn3 rfl (by kernel_rfl) (by kernel_rfl) (by kernel_rfl) (fun _ _ _ h => h) (by rfl) ?hawn3 hS ?_
    case hawn3 => (intro w hSw; (try dsimp only at hSw); go_split_ands; go_simp; (try with_reducible rfl))
    (try simp only [Act.put, List.setIfInBounds_toArray, List.set_cons_zero, List.set_cons_succ])
    refine any_take 6 ?vawn4 rfl (by kernel_rfl) (by kernel_rfl) (by kernel_rfl) (fun _ _ _ h => h) (by rfl) ?hawn4 hS ?_
    case hawn4 => (intro w hSw; (try dsimp only at hSw); go_split_ands; go_simp; (try with_reducible rfl))
    (try simp only [Act.put, List.setIfInBounds_toArray, List.set_cons_zero, List.set_cons_succ])
    refine any_take 7 ?vawn5 rfl (by kernel_rfl) (by kernel_rfl) (by kernel_rfl) (fun _ _ _ h => h) (by rfl) ?hawn5 hS ?_
    case hawn5 => (intro w hSw; (try dsimp only at hSw); go_split_ands; go_simp; (try with_reducible rfl))
    (try simp only [Act.put, List.setIfInBounds_toArray, List.set_cons_zero, List.set_cons_succ])
    refine wpAnyH_done (by kernel_rfl) ?_ _
    refine NoPanic.normal ?_
    clear hS
    have k3 := hP.begin 1 4
    rw [show (rnNew rnC (List.replicate 16 0) 1).begE 1 4 = 0 from by decide, show (rnNew rnC (List.replicate 16 0) 1).begV 1 4 = ⟨rnC, List.replicate 16 0, 1, 1, 4⟩ from if_pos (by decide)] at k3
    clear hP
    go_wp2_with fail
    refine k3.mono ?_
    rintro ev w4 ⟨rfl, hP4, _⟩
    have k4 := hP4.epoch
    have k5 := hP4.start
    have HE : Hid (Below w.heap.size w w4) := hP4.at'.2.2.2
    dsimp only at k4 k5
    clear k3 hP4
    go_wp2_with fail
    refine k4.mono ?_
    rintro ev w5 ⟨rfl, rfl⟩
    clear k4
    go_wp2_with fail
    refine k5.mono ?_
    rintro ev w6 ⟨rfl, rfl⟩
    clear k5
    go_wp2
    go_ret
    exact ⟨rfl, HE.out⟩
  · have hSS : _ := hS
    clear hS
    refine op_make16 _ _ rfl rfl rfl ?_
    intro wm hsm hbm
    refine hK.out _ _ (hSS.trans (hbm.mono hSS.size)) (fun hS => ?_)
    clear hK
    (try simp only [Act.put, List.setIfInBounds_toArray, List.set_cons_zero, List.set_cons_succ])
    refine any_one 0 rfl (by kernel_rfl) (by rfl) (fun K hK => ?_)
    have hSS : _ := hS
    clear hS
    go_simp
    refine (KU _).mono ?_
    rintro ev wu ⟨rfl, hbu⟩
    (try replace hsm := Sees.below hsm hbu)
    refine hK.out _ _ (hSS.trans (hbu.mono hSS.size)) (fun hS => ?_)
    clear hK
    (try simp only [Act.put, List.setIfInBounds_toArray, List.set_cons_zero, List.set_cons_succ])
    refine any_one 2 rfl (by kernel_rfl) (by rfl) (fun K hK => ?_)
    have hSS : _ := hS
    clear hS
    go_simp
    refine (KN.out _ _ hSS hsm).mono ?_
    rintro ev w3 ⟨R, rfl, hP⟩
    clear hSS hsm
    refine hK.out _ _ (hP.at'.2.2.2) (fun hS => ?_)
    clear hK
    (try simp only [Act.put, List.setIfInBounds_toArray, List.set_cons_zero, List.set_cons_succ])
    refine any_take 3 ?vawn6 rfl (by kernel_rfl) (by kernel_rfl) (by kernel_rfl) (fun _ _ _ h => h) (by rfl) ?hawn6 hS ?_
    case hawn6 => (intro w hSw; (try dsimp only at hSw); go_split_ands; go_simp; (try with_reducible rfl))
    (try simp only [Act.put, List.setIfInBounds_toArray, List.set_cons_zero, List.set_cons_succ])
    refine any_take 4 ?vawn7 rfl (by kernel_rfl) (by kernel_rfl) (by kernel_rfl) (fun _ _ _ h => h) (by rfl) ?hawn7 hS ?_
    case hawn7 => (intro w hSw; (try dsimp only at hSw); go_split_ands; go_simp; (try with_reducible rfl))
    (try simp only [Act.put, List.setIfInBounds_toArray, List.set_cons_zero, List.set_cons_succ])
    refine any_take 5 ?vawn8 rfl (by kernel_rfl) (by kernel_rfl) (by kernel_rfl) (fun _ _ _ h => h) (by rfl) ?hawn8 hS ?_
    case hawn8 => (intro w hSw; (try dsimp only at hSw); go_split_ands; go_simp; (try with_reducible rfl))
    (try simp only [Act.put, List.setIfInBounds_toArray, List.set_cons_zero, List.set_cons_succ])
    refine any_take 6 ?vawn9 rfl (by kernel_rfl) (by kernel_rfl) (by kernel_rfl) (fun _ _ _ h => h) (by rfl) ?hawn9 hS ?_
    case hawn9 => (intro w hSw; (try dsimp only at hSw); go_split_ands; go_simp; (try with_reducible rfl))
    (try simp only [Act.put, List.setIfInBounds_toArray, List.set_cons_zero, List.set_cons_succ])
    refine any_take 7 ?vawn10 rfl (by kernel_rfl) (by kernel_rfl) (by kernel_rfl) (fun _ _ _ h => h) (by rfl) ?hawn10 hS ?_
    case hawn10 => (intro w hSw; (try dsimp only at hSw); go_split_ands; go_simp; (try with_reducible rfl))
    (try simp only [Act.put, List.setIfInBounds_toArray, List.set_cons_zero, List.set_cons_succ])
    refine wpAnyH_done (by kernel_rfl) ?_ _
    refine NoPanic.normal ?_
    clear hS
    have k3 := hP.begin 1 4
    rw [show (rnNew rnC (List.replicate 16 0) 1).begE 1 4 = 0 from by decide, show (rnNew rnC (List.replicate 16 0) 1).begV 1 4 = ⟨rnC, List.replicate 16 0, 1, 1, 4⟩ from if_pos (by decide)] at k3
    clear hP
    go_wp2_with fail
    refine k3.mono ?_
    rintro ev w4 ⟨rfl, hP4, _⟩
    have k4 := hP4.epoch
    have k5 := hP4.start
    have HE : Hid (Below w.heap.size w w4) := hP4.at'.2.2.2
    dsimp only at k4 k5
    clear k3 hP4
    go_wp2_with fail
    refine k4.mono ?_
    rintro ev w5 ⟨rfl, rfl⟩
    clear k4
    go_wp2_with fail
    refine k5.mono ?_
    rintro ev w6 ⟨rfl, rfl⟩
    clear k5
    go_wp2
    go_ret
    exact ⟨rfl, HE.out⟩
end Go.Proofs.YtgncdnejmobjbaaGreatDoor
