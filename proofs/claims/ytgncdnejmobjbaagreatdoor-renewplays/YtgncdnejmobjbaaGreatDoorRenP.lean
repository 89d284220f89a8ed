/-
  The program's chain of a speaker in memory: its pebble lies within it; the keys that were told.
-/
import Derived.Test.YtgncdnejmobjbaaGreatDoorRenM
import Derived.Test.YtgncdnejmobjbaaGreatDoorPebF
import Derived.Test.YtgncdnejmobjbaaGreatDoorDisC
import Derived.Deep.MidRow
namespace Go.Proofs.YtgncdnejmobjbaaGreatDoor
open Go.ChangeShapes Go.WideShapes Go.ChangeAt Go.RowKit
set_option maxRecDepth 20000

/-- The slice '.slice (some ⟨q, 0, none⟩) L.length cap' holds slices of 16 bytes, those of L. -/
def locC (L : List Loc) : List Value := L.map fun p => .slice p.1 16 p.2
theorem locC_one (L : List Loc) : ∀ u ∈ locC L, u.oneCell' = true := by
  intro u hu
  obtain ⟨p, _, rfl⟩ := List.mem_map.1 hu
  rfl
theorem locC_no (L : List Loc) : ∀ v ∈ locC L, ∀ k y, v = .int k y → k = .i64 := by
  intro v hv k y e
  obtain ⟨p, _, rfl⟩ := List.mem_map.1 hv
  cases e
structure KeptAt (w : World) (q cap : Nat) (L : List Loc) : Prop where
  fits : L.length ≤ cap
  room : cap ≤ maxLen
  row : ∃ cur : Array Value, w.heap[q]? = some (.cells cur 24 (0, 0)) ∧ cap ≤ cur.size ∧ cur.toList.take L.length = locC L ∧ NoByte cur
theorem KeptAt.lt {w : World} {q cap : Nat} {L : List Loc} (h : KeptAt w q cap L) : q < w.heap.size := by
  obtain ⟨cur, h1, _⟩ := h.row; exact (Array.getElem?_eq_some_iff.1 h1).1
theorem KeptAt.keep {w w' : World} {q cap : Nat} {L : List Loc} (h : KeptAt w q cap L) (hb : w'.heap[q]? = w.heap[q]?) : KeptAt w' q cap L :=
  ⟨h.fits, h.room, by obtain ⟨cur, h1, h2⟩ := h.row; exact ⟨cur, hb.trans h1, h2⟩⟩
theorem KeptAt.below {w w' : World} {q cap : Nat} {L : List Loc} (h : KeptAt w q cap L) (hb : Below w.heap.size w w') : KeptAt w' q cap L := h.keep (hb.block _ h.lt)
theorem KeptAt.tight {w : World} {q cap : Nat} {L : List Loc} (h : KeptAt w q cap L) : KeptAt w q L.length L :=
  ⟨Nat.le_refl _, Nat.le_trans h.fits h.room, by obtain ⟨cur, h1, h2, h3⟩ := h.row; exact ⟨cur, h1, Nat.le_trans h.fits h2, h3⟩⟩
theorem KeptAt.get {w : World} {q cap : Nat} {L : List Loc} (h : KeptAt w q cap L) {j : Nat} {p : Loc} (hp : L[j]? = some p) : w.cell? ⟨q, j, none⟩ = some (.slice p.1 16 p.2) := by
  obtain ⟨cur, h1, _, h3, _⟩ := h.row
  have hj : (locC L)[j]? = some (.slice p.1 16 p.2) := by simp [locC, hp]
  rw [← h3, List.getElem?_take] at hj
  split at hj
  · rw [cell_of_row w q j _ _ _ h1, ← Array.getElem?_toList]; exact hj
  · cases hj
theorem KeptAt.noByte {w : World} {q cap : Nat} {L : List Loc} (h : KeptAt w q cap L) (j : Nat) (k : IntKind) (y : Int) (hc : w.cell? ⟨q, j, none⟩ = some (.int k y)) : k = .i64 := by
  obtain ⟨cur, h1, _, _, h4⟩ := h.row
  rw [cell_of_row w q j _ _ _ h1] at hc
  exact h4 _ _ _ hc
/-- One more behind them. -/
theorem KeptAt.push {w : World} {q cap : Nat} {L : List Loc} (h : KeptAt w q cap L) (hL : L.length ≤ 1000) (p : Loc) (c : Nat) (h0 : w.cell? ⟨c, 0, none⟩ = some (.slice p.1 16 p.2)) :
    ∃ q' cap' w', (Builtin.append_ #[50, 50] 50 #[.slice (some ⟨q, 0, none⟩) L.length cap, .slice (some ⟨c, 0, none⟩) 1 1]).run Tryz.prog w = .ok (.slice (some ⟨q', 0, none⟩) (L.length + 1) cap') w' ∧ KeptAt w' q' cap' (L ++ [p]) ∧ Apart (fun k => k = q) w w' ∧ (q' = q ∨ w.heap.size ≤ q') ∧ (cap = L.length → w.heap.size ≤ q') := by
  obtain ⟨i, hi, hz0, hz1, hz2⟩ := info_parts Tryz.info24
  obtain ⟨cur, g1, g2, g3, g4⟩ := h.row
  have hnews : ∀ j u, (locC [p])[j]? = some u → w.cell? ((⟨c, 0, none⟩ : Addr).add j) = some u := by
    intro j u hj
    rw [Addr.add_lit, Nat.zero_add]
    match j, hj with
    | 0, hj => simp [locC] at hj; rw [h0, hj]
    | k + 1, hj => simp [locC] at hj
  have hu : Tryz.prog.underlying 50 = some (.slice 24) := by kernel_rfl
  have hr := h.room
  have hf := h.fits
  have hm : (1000 : Nat) < maxLen := by decide
  have hll : (locC L).length = L.length := by simp [locC]
  have hap : locC (L ++ [p]) = locC L ++ locC [p] := by simp [locC]
  have hl1 : (L ++ [p]).length = L.length + 1 := by simp
  by_cases hroom : L.length + 1 ≤ cap
  · have hrun := run_append_room (P := Tryz.prog) w 50 50 24 i hu hi q L.length cap cur g1 ⟨c, 0, none⟩ 1 1 (locC [p]) (by rw [hz1]; rfl) hnews (locC_one [p]) hroom (by rw [hz1]; simp [locC]; omega)
    rw [hz1, Nat.mul_one] at hrun
    refine ⟨q, cap, _, hrun, ⟨by rw [hl1]; exact hroom, h.room, _, setRow_heap w q cur _ 24 _ g1, ?_, ?_, ?_⟩, ⟨rfl, rfl, rfl, by simp, fun k _ hk => setRow_other w q k _ hk⟩, .inl rfl, fun e => by omega⟩
    · simp [locC]; omega
    · rw [g3, hl1, List.append_assoc, ← List.append_assoc, hap]
      have : (locC L ++ locC [p]).length = L.length + 1 := by rw [List.length_append, hll]; simp [locC]
      rw [← this]; exact List.take_left
    · refine noByte_of fun v hv => ?_
      simp only [List.mem_append] at hv
      rcases hv with (hv | hv) | hv
      · exact g4.mem v (List.mem_of_mem_take hv)
      · exact locC_no [p] v hv
      · exact g4.mem v (List.mem_of_mem_drop hv)
  · have hcap : cap = L.length := by omega
    subst hcap
    have holds : ∀ j v, (locC L)[j]? = some v → w.cell? ((⟨q, 0, none⟩ : Addr).add j) = some v := by
      intro j v hj
      rw [Addr.add_lit, Nat.zero_add]
      rw [← g3, List.getElem?_take] at hj
      split at hj
      · rw [cell_of_row w q j _ _ _ g1, ← Array.getElem?_toList]; exact hj
      · cases hj
    have hrun := run_append_grow (P := Tryz.prog) w 50 50 24 i _ hu hi hz0 ⟨q, 0, none⟩ L.length L.length (locC L) (by rw [hz1, hll, Nat.mul_one]) holds ⟨c, 0, none⟩ 1 1 (locC [p]) (by rw [hz1]; rfl) hnews (by omega) (by omega) (growslice_fits (by omega) (by rw [hz2]; omega))
    have hge := grownCap_ge w (L.length + 1) L.length 24
    have hcm : grownCap w (L.length + 1) L.length 24 ≤ maxLen := grownCap_le_maxLen w _ _ 24 (by omega)
    refine ⟨w.heap.size, _, _, hrun, ⟨by rw [hl1]; exact hge, hcm, _, heap_alloc_new w.drew _, ?_, ?_, ?_⟩, ⟨rfl, rfl, rfl, by simp, fun k hk _ => Below.heap_alloc w.drew _ k hk⟩, .inr (Nat.le_refl _), fun _ => Nat.le_refl _⟩
    · simp only [Array.size_append, List.size_toArray, size_zeroCells, hll]
      simp [locC, Value.cells]; omega
    · simp only [Array.toList_append]
      have : (locC L ++ locC [p]).length = (L ++ [p]).length := by rw [List.length_append, hll]; simp [locC]
      rw [← this, hap]; exact List.take_left
    · refine noByte_of fun v hv => ?_
      simp only [Array.toList_append, List.mem_append] at hv
      rcases hv with (hv | hv) | hv
      · exact locC_no L v hv
      · exact locC_no [p] v hv
      · intro k y
        simp only [Builtin.zeroCells, Value.cells] at hv
        simp at hv
        obtain ⟨a, ha, rfl⟩ := hv
        intro e; simp [Nat.mod_one] at e

/-- The cells of a speaker's chain ahead of its pebble. -/
def rnPre (s : Rn) (oa : Option Addr) (oc : Nat) : List Value :=
  [.int .i64 s.c.n, .int .i64 s.c.f, .int .i64 s.c.s, .int .i64 s.c.d, .int .i64 s.c.k, .int .i64 s.c.e, .int .i64 s.c.v, .int .i64 s.c.r, .int .i64 s.c.l, .int .i64 s.c.p,
    .slice oa s.own.length oc, .int .i64 s.sl, .int .i64 s.ep, .int .i64 s.st]
theorem rnPre_no (s : Rn) (oa : Option Addr) (oc : Nat) (K : Value) (hK : ∀ k y, K ≠ .int k y) : ∀ v ∈ rnPre s oa oc ++ [K], ∀ k y, v = .int k y → k = .i64 := by
  intro v hv k y e
  subst e
  simp [rnPre] at hv
  rcases hv with h | h | h | h | h | h | h | h | h | h | h | h | h | h
  all_goals first | exact h.1 | exact absurd h.symm (hK _ _)
/-- Where its pebble lies, the keys being the slice of n at q. -/
def rnNest (s : Rn) (oa : Option Addr) (oc : Nat) (q n kc : Nat) : Nest := ⟨rnPre s oa oc, [.slice (some ⟨q, 0, none⟩) n kc], 61, rnPre_no s oa oc _ (by intro k y h; cases h), by decide, by decide⟩
/-- Its cells. -/
def pnL (s : Rn) (oa : Option Addr) (oc : Nat) (v0 v1 v2 v3 K : Value) : List Value := rnPre s oa oc ++ [v0, v1, v2, v3, K]
theorem rnNest_cs (s : Rn) (oa : Option Addr) (oc : Nat) (q n kc : Nat) (v0 v1 v2 v3 : Value) : (rnNest s oa oc q n kc).cs v0 v1 v2 v3 = pnL s oa oc v0 v1 v2 v3 (.slice (some ⟨q, 0, none⟩) n kc) := rfl
def PNAt (w : World) (R : Nat) (s : Rn) (oa : Option Addr) (oc : Nat) (v0 v1 v2 v3 K : Value) : Prop := w.heap[R]? = some (.cells (pnL s oa oc v0 v1 v2 v3 K).toArray 61 (0, 0))
theorem PNAt.lt {w : World} {R : Nat} {s : Rn} {oa : Option Addr} {oc : Nat} {v0 v1 v2 v3 K : Value} (h : PNAt w R s oa oc v0 v1 v2 v3 K) : R < w.heap.size := (Array.getElem?_eq_some_iff.1 h).1
theorem PNAt.cell {w : World} {R : Nat} {s : Rn} {oa : Option Addr} {oc : Nat} {v0 v1 v2 v3 K : Value} (h : PNAt w R s oa oc v0 v1 v2 v3 K) (i : Nat) {u : Value} (hu : (pnL s oa oc v0 v1 v2 v3 K)[i]? = some u) : w.cell? ⟨R, i, none⟩ = some u := at_row h hu
theorem PNAt.fz {w : World} {R : Nat} {s : Rn} {oa : Option Addr} {oc : Nat} {v0 v1 v2 v3 K : Value} (h : PNAt w R s oa oc v0 v1 v2 v3 K) (i : Nat) : w.frozen? ⟨R, i, none⟩ = false := frozen_of_row _ _ i _ _ h
theorem PNAt.put {w : World} {R : Nat} {s t : Rn} {oa : Option Addr} {oc : Nat} {v0 v1 v2 v3 K u0 u1 u2 u3 J : Value} (h : PNAt w R s oa oc v0 v1 v2 v3 K) (i : Nat) (u : Value) (hl : (pnL s oa oc v0 v1 v2 v3 K).set i u = pnL t oa oc u0 u1 u2 u3 J) : PNAt (w.setCell ⟨R, i, none⟩ u) R t oa oc u0 u1 u2 u3 J := by
  show (w.setCell ⟨R, i, none⟩ u).heap[R]? = _
  rw [set_at _ h, hl]
theorem PNAt.loads {w : World} {R : Nat} {s : Rn} {oa : Option Addr} {oc : Nat} {v0 v1 v2 v3 K : Value} (h : PNAt w R s oa oc v0 v1 v2 v3 K) : (Instr.loadAt 23 (.pointer (some ⟨R, 0, none⟩))).run Tryz.prog w = .ok (.agg (cfC s.c)) w :=
  run_loadAt_mid w R 0 23 (cfL s.c) _ (fun j v hv => by
    rw [Nat.zero_add]
    refine h.cell j ?_
    have hj : j < 10 := (List.getElem?_eq_some_iff.1 hv).1
    show (cfL s.c ++ _)[j]? = some v
    rw [List.getElem?_append_left hj]; exact hv) Tryz.underlying23 rfl (by kernel_rfl)
/-- How its memory lies once it is begun. -/
structure PN where
  b : Nat
  cap : Nat
  cd : Option Addr
  cc : Nat
  told : Nat
  steps : Nat
  T : List Stone
  q : Nat
  kc : Nat
  L : List Loc
/-- Begun: Q0, N0, C0 what it says of the keys that are kept; x where they lie. -/
structure Gr (w : World) (R : Nat) (s : Rn) (oa : Option Addr) (oc : Nat) (Q0 N0 C0 : Nat) (x : PN) : Prop where
  peb : Peb (rnNest s oa oc Q0 N0 C0) 14 w R x.b x.cap (.slice x.cd 16 x.cc) s.last s.c.k.toNat x.told x.steps x.T
  kept : KeptAt w x.q x.kc x.L
  num : x.L.length = x.told + 1
  keys : ∀ j p, x.L[j]? = some p → Sees w p.1 p.2 (s.key j)
  own : Sees w oa oc s.own
  ne : x.q ≠ R
  few : x.steps ≤ x.told * 256
/-- Which blocks its acts may write. -/
def PN.foot (x : PN) (R : Nat) : Nat → Prop := fun k => k = R ∨ k = x.b ∨ k = x.q
theorem Gr.at' {w : World} {R : Nat} {s : Rn} {oa : Option Addr} {oc : Nat} {Q0 N0 C0 : Nat} {x : PN} (h : Gr w R s oa oc Q0 N0 C0 x) : PNAt w R s oa oc (.slice x.cd 16 x.cc) (.int .i64 (x.told : Int)) (.int .i64 (x.steps : Int)) (.slice (some ⟨x.b, 0, none⟩) x.T.length x.cap) (.slice (some ⟨Q0, 0, none⟩) N0 C0) := h.peb.obj
theorem Gr.below {w w' : World} {R : Nat} {s : Rn} {oa : Option Addr} {oc : Nat} {Q0 N0 C0 : Nat} {x : PN} (h : Gr w R s oa oc Q0 N0 C0 x) (hb : Below w.heap.size w w') : Gr w' R s oa oc Q0 N0 C0 x :=
  ⟨h.peb.keep hb, h.kept.below hb, h.num, fun j p hp => (h.keys j p hp).below hb, h.own.below hb, h.ne, h.few⟩
theorem Gr.qb {w : World} {R : Nat} {s : Rn} {oa : Option Addr} {oc : Nat} {Q0 N0 C0 : Nat} {x : PN} (h : Gr w R s oa oc Q0 N0 C0 x) : x.q ≠ x.b := by
  intro e
  obtain ⟨c1, h1, _⟩ := h.kept.row
  obtain ⟨c2, h2, _⟩ := h.peb.stack.row
  rw [e, h2] at h1
  simp at h1
/-- Bytes lie in none of its blocks. -/
theorem Gr.sees {w w' : World} {R : Nat} {s : Rn} {oa : Option Addr} {oc : Nat} {Q0 N0 C0 : Nat} {x : PN} (h : Gr w R s oa oc Q0 N0 C0 x) (ha : Apart (x.foot R) w w') {a : Option Addr} {ca : Nat} {l : List UInt8} (hs : Sees w a ca l) : Sees w' a ca l := by
  refine ha.sees hs ?_
  intro k off e hne hk
  rcases hk with hk | hk | hk
  · exact h.peb.apart hs k off e hne (.inl hk)
  · exact h.peb.apart hs k off e hne (.inr hk)
  · obtain ⟨k', off', ha', hc⟩ := hs.at' hne
    rw [e] at ha'
    simp only [Option.some.injEq, Addr.mk.injEq, and_true] at ha'
    obtain ⟨rfl, rfl⟩ := ha'
    obtain ⟨y, l', rfl⟩ := List.exists_cons_of_ne_nil hne
    have h0 := hc 0 y rfl
    rw [hk] at h0
    cases h.kept.noByte _ _ _ h0
theorem Gr.cell {w w' : World} {R : Nat} {s : Rn} {oa : Option Addr} {oc : Nat} {Q0 N0 C0 : Nat} {x : PN} (h : Gr w R s oa oc Q0 N0 C0 x) (ha : Apart (x.foot R) w w') {k i : Nat} {kd : IntKind} {y : Int} (hc : w.cell? ⟨k, i, none⟩ = some (.int kd y)) (hk : kd ≠ .i64) : w'.cell? ⟨k, i, none⟩ = some (.int kd y) := by
  refine ha.cell hc ?_
  rintro (h1 | h1 | h1)
  · exact h.peb.kind hc hk (.inl h1)
  · exact h.peb.kind hc hk (.inr h1)
  · replace h1 : k = x.q := h1
    subst h1; exact hk (h.kept.noByte _ _ _ hc)
theorem FTab.gr {w w' : World} {R : Nat} {s : Rn} {oa : Option Addr} {oc : Nat} {Q0 N0 C0 : Nat} {x : PN} (hF : FTab w) (h : Gr w R s oa oc Q0 N0 C0 x) (ha : Apart (x.foot R) w w') : FTab w' := fun t ht => h.cell ha (hF t ht) (by decide)
theorem KTab.gr {w w' : World} {R : Nat} {s : Rn} {oa : Option Addr} {oc : Nat} {Q0 N0 C0 : Nat} {x : PN} (hF : KTab w) (h : Gr w R s oa oc Q0 N0 C0 x) (ha : Apart (x.foot R) w w') : KTab w' := fun t ht => h.cell ha (hF t ht) (by decide)
/-- The program's chain of a speaker: not begun, or begun. -/
inductive PNAll (w : World) (R : Nat) (s : Rn) (oa : Option Addr) (oc : Nat) (x : PN) : Prop
  | idle (h : PNAt w R s oa oc (.slice none 0 0) (.int .i64 0) (.int .i64 0) (.slice none 0 0) (.slice none 0 0)) (ho : Sees w oa oc s.own) (h0 : s.ep = -1) (hx : x.b = R ∧ x.q = R)
  | begun (h : Gr w R s oa oc x.q x.L.length x.kc x) (h0 : 0 ≤ s.ep)
end Go.Proofs.YtgncdnejmobjbaaGreatDoor
