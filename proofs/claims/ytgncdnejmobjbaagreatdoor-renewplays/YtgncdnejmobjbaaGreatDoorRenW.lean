/-
  The program's Begin.
-/
import Derived.Test.YtgncdnejmobjbaaGreatDoorRenV
import Derived.Laws.AppendOwn
namespace Go.Proofs.YtgncdnejmobjbaaGreatDoor
open Go.ChangeShapes Go.WideShapes Go.ChangeAt Go.RowKit
set_option maxRecDepth 20000

theorem op_store_run {P : Program} {o : Oper} {a : Act} {w w' : World} {K : Act → World → Prop} {Q : Exit → Act → World → Prop} (ty : TypeId) (x y : Operand) (ho : o.op = .store ty x y)
    (v u : Value) (hx : a.eval x = v) (hy : a.eval y = u) (hrun : (Instr.storeAt ty v u).run P w = .ok () w') (h : K (a.put o.dst undef) w') : Oper.wp P o a w K Q := by
  unfold Oper.wp execOp
  simp only [ho, hx, hy, Sem.run_bind, hrun, Result.andThen_ok, Sem.run_pure]
  exact h
/-- A pebble is put in its place within the chain. -/
theorem PNAt.stores {w : World} {R : Nat} {s : Rn} {oa : Option Addr} {oc : Nat} {v0 v1 v2 v3 K : Value} (h : PNAt w R s oa oc v0 v1 v2 v3 K) (u0 u1 u2 u3 : Value) (hu : ∀ u ∈ [u0, u1, u2, u3], u.oneCell' = true) :
    ∃ w', (Instr.storeAt 59 (.pointer (some ⟨R, 14, none⟩)) (.agg #[u0, u1, u2, u3])).run Tryz.prog w = .ok () w' ∧ PNAt w' R s oa oc u0 u1 u2 u3 K ∧ Apart (fun k => k = R) w w' := by
  have ht : w.there R 14 (#[u0, u1, u2, u3] : Array Value).size := fun j hj => by
    refine ⟨?_, h.fz _⟩
    have hj : j < 4 := hj
    have hc : j = 0 ∨ j = 1 ∨ j = 2 ∨ j = 3 := by omega
    rcases hc with rfl | rfl | rfl | rfl
    · rw [h.cell 14 rfl]; rfl
    · rw [h.cell 15 rfl]; rfl
    · rw [h.cell 16 rfl]; rfl
    · rw [h.cell 17 rfl]; rfl
  refine ⟨_, run_storeAt_mid w R 14 59 #[u0, u1, u2, u3] ht (by kernel_rfl) (all_oneCell_toArray hu), ?_, ?_⟩
  · show PNAt ((((w.setCell ⟨R, 14, none⟩ u0).setCell ⟨R, 15, none⟩ u1).setCell ⟨R, 16, none⟩ u2).setCell ⟨R, 17, none⟩ u3) R s oa oc u0 u1 u2 u3 K
    have h1 : PNAt (w.setCell ⟨R, 14, none⟩ u0) R s oa oc u0 v1 v2 v3 K := h.put 14 _ rfl
    have h2 : PNAt _ R s oa oc u0 u1 v2 v3 K := h1.put 15 u1 rfl
    have h3 : PNAt _ R s oa oc u0 u1 u2 v3 K := h2.put 16 u2 rfl
    exact h3.put 17 u3 rfl
  · show Apart (fun k => k = R) w ((((w.setCell ⟨R, 14, none⟩ u0).setCell ⟨R, 15, none⟩ u1).setCell ⟨R, 16, none⟩ u2).setCell ⟨R, 17, none⟩ u3)
    exact ((((Apart.refl (fun k => k = R) w).setCell (b := R) (.inl rfl) 14 _).setCell (b := R) (.inl rfl) 15 _).setCell (b := R) (.inl rfl) 16 _).setCell (b := R) (.inl rfl) 17 _
/-- What Begin leaves. -/
def PBegun (w : World) (R : Nat) (s : Rn) (oa : Option Addr) (oc : Nat) (x : PN) (w' : World) : Prop := ∃ x', PNAll w' R s oa oc x' ∧ Apart (fun k => k = R) w w' ∧ (x'.q = x.q ∨ w.heap.size ≤ x'.q) ∧ (x'.b = x.b ∨ w.heap.size ≤ x'.b)
theorem begun_res {w v W : World} {R g b cap q : Nat} {s : Rn} {oa : Option Addr} {oc : Nat} {cd d5 : Option Addr} {cc c5 : Nat} {T : List Stone} (x : PN) (hR : R < w.heap.size) (he : 0 ≤ s.ep) (hp : Peb Nest.self 0 v g b cap (.slice cd 16 cc) s.last s.c.k.toNat 0 0 T) (hs : Sees v d5 c5 (s.key 0)) (ho : Sees v oa oc s.own)
    (hb : w.heap.size ≤ b) (hwv : Apart (fun k => k = R) w v) (hvW : Apart (fun k => k = R) v W) (hpl : ∀ i y, v.cell? ⟨R, i, none⟩ ≠ some (.int .u8 y)) (hat : PNAt W R s oa oc (.slice cd 16 cc) (.int .i64 0) (.int .i64 0) (.slice (some ⟨b, 0, none⟩) T.length cap) (.slice (some ⟨q, 0, none⟩) 1 1))
    (hq : W.heap[q]? = some (.cells #[.slice d5 16 c5] 24 (0, 0))) (hqv : v.heap.size ≤ q) : PBegun w R s oa oc x W := by
  have hpl' : ∀ k, k = R → ∀ i y, v.cell? ⟨k, i, none⟩ ≠ some (.int .u8 y) := by rintro k rfl; exact hpl
  have hwq := hwv.size
  refine ⟨⟨b, cap, cd, cc, 0, 0, T, q, 1, [(d5, c5)]⟩, .begun ⟨⟨hat, rfl, hp.nob, ?_, hp.stack.keep (hvW.block _ hp.stack.lt ?_), fun y hy => (hp.keys y hy).off hvW hpl', hp.good, hp.len, hp.most⟩, ⟨Nat.le_refl _, (show 1 ≤ maxLen by decide), _, hq, Nat.le_refl _, rfl, noByte_of (locC_no [(d5, c5)])⟩, rfl, ?_, ho.off hvW hpl', ?_, Nat.le_refl _⟩ he, hwv.trans hvW fun k hk => .inl hk, .inr ?_, .inr hb⟩
  · show b ≠ R; omega
  · show ¬ b = R; omega
  · intro j p hj
    match j, hj with
    | 0, hj => simp at hj; subst hj; exact hs.off hvW hpl'
    | k + 1, hj => simp at hj
  · show q ≠ R; omega
  · show w.heap.size ≤ q; omega
theorem begun_fin {w v : World} {R g b cap : Nat} {s : Rn} {oa : Option Addr} {oc : Nat} {cd d5 : Option Addr} {cc c5 : Nat} {T : List Stone} {v0 v1 v2 v3 K : Value} (x : PN) (hR : R < w.heap.size) (he : 0 ≤ s.ep) (hp : Peb Nest.self 0 v g b cap (.slice cd 16 cc) s.last s.c.k.toNat 0 0 T) (hs : Sees v d5 c5 (s.key 0)) (ho : Sees v oa oc s.own)
    (hb : w.heap.size ≤ b) (hwv : Apart (fun k => k = R) w v) (hpl : ∀ i y, v.cell? ⟨R, i, none⟩ ≠ some (.int .u8 y)) (hat : PNAt v R s oa oc v0 v1 v2 v3 K) :
    ∃ wA wB, (Instr.storeAt 59 (.pointer (some ⟨R, 14, none⟩)) (.agg #[.slice cd 16 cc, .int .i64 0, .int .i64 0, .slice (some ⟨b, 0, none⟩) T.length cap])).run Tryz.prog (v.alloc (.cells #[.slice d5 16 c5] 24)) = .ok () wA ∧ (Instr.storeAt 59 (.pointer (some ⟨R, 14, none⟩)) (.agg #[.slice cd 16 cc, .int .i64 0, .int .i64 0, .slice (some ⟨b, 0, none⟩) T.length cap])).run Tryz.prog v = .ok () wB ∧
      wA.cell? ⟨R, 18, none⟩ = some K ∧ wA.frozen? ⟨R, 18, none⟩ = false ∧ (wB.alloc (.cells #[.slice d5 16 c5] 24)).cell? ⟨R, 18, none⟩ = some K ∧ (wB.alloc (.cells #[.slice d5 16 c5] 24)).frozen? ⟨R, 18, none⟩ = false ∧ Apart (fun k => k = R) (v.alloc (.cells #[.slice d5 16 c5] 24)) wA ∧ Apart (fun k => k = R) v wB ∧
      PBegun w R s oa oc x (wA.setCell ⟨R, 18, none⟩ (.slice (some ⟨v.heap.size, 0, none⟩) 1 1)) ∧ PBegun w R s oa oc x ((wB.alloc (.cells #[.slice d5 16 c5] 24)).setCell ⟨R, 18, none⟩ (.slice (some ⟨wB.heap.size, 0, none⟩) 1 1)) := by
  have hone : ∀ u ∈ ([.slice cd 16 cc, .int .i64 0, .int .i64 0, .slice (some ⟨b, 0, none⟩) T.length cap] : List Value), u.oneCell' = true := by
    intro u hu
    simp only [List.mem_cons, List.not_mem_nil, or_false] at hu
    rcases hu with rfl | rfl | rfl | rfl <;> rfl
  have hbA : Below v.heap.size v (v.alloc (.cells #[.slice d5 16 c5] 24)) := (Below.refl _ _).alloc (Nat.le_refl _) _
  have hatA : PNAt (v.alloc (.cells #[.slice d5 16 c5] 24)) R s oa oc v0 v1 v2 v3 K := (hbA.block R hat.lt).trans hat
  have hrow : (v.alloc (.cells #[.slice d5 16 c5] 24)).heap[v.heap.size]? = some (.cells #[.slice d5 16 c5] 24) := heap_alloc_new _ _
  obtain ⟨wA, rA, pA, aA⟩ := hatA.stores _ _ _ _ hone
  obtain ⟨wB, rB, pB, aB⟩ := hat.stores _ _ _ _ hone
  have hbB : Below wB.heap.size wB (wB.alloc (.cells #[.slice d5 16 c5] 24)) := (Below.refl _ _).alloc (Nat.le_refl _) _
  have pB' : PNAt (wB.alloc (.cells #[.slice d5 16 c5] 24)) R s oa oc _ _ _ _ K := (hbB.block R pB.lt).trans pB
  have hrowB : (wB.alloc (.cells #[.slice d5 16 c5] 24)).heap[wB.heap.size]? = some (.cells #[.slice d5 16 c5] 24) := heap_alloc_new _ _
  have hRv : R < v.heap.size := hat.lt
  refine ⟨wA, wB, rA, rB, pA.cell 18 rfl, pA.fz 18, pB'.cell 18 rfl, pB'.fz 18, aA, aB, ?_, ?_⟩
  · refine begun_res x hR he hp hs ho hb hwv ?_ hpl (pA.put 18 _ rfl) ?_ (Nat.le_refl _)
    · exact ((Apart.of_below (F := fun k => k = R) hbA).trans aA fun k hk => .inl hk).setCell (b := R) (.inl rfl) 18 _
    · rw [heap_setCell_other _ _ _ _ (show v.heap.size ≠ R by omega), aA.block _ (by simp) (by omega)]; exact hrow
  · refine begun_res x hR he hp hs ho hb hwv ?_ hpl (pB'.put 18 _ rfl) ?_ aB.size
    · exact (aB.trans (Apart.of_below (F := fun k => k = R) hbB) fun k hk => .inl hk).setCell (b := R) (.inl rfl) 18 _
    · have := aB.size
      rw [heap_setCell_other _ _ _ _ (show wB.heap.size ≠ R by omega)]; exact hrowB

set_option maxHeartbeats 3200000 in
theorem pbegin_ok (w : World) (R : Nat) (s : Rn) (oa : Option Addr) (oc : Nat) (x : PN) (h : PNAll w R s oa oc x) (hok : s.ok) (e t : Int) (a1 : 0 ≤ e) (a2 : e ≤ 65535) (a3 : 0 ≤ t) (a4 : t < 1048576) (he : ¬ e ≤ s.ep) (hF : FTab w) (hT : KTab w) :
    Calls Tryz.prog 7 #[.pointer (some ⟨R, 0, none⟩), .int .i64 e, .int .i64 t] w fun ev w' => ev = .returned (.int .i64 0) ∧ PBegun w R { s with ep := e, st := t } oa oc x w' := by
  obtain ⟨s', hs'⟩ : ∃ s' : Rn, s' = { s with ep := e, st := t } := ⟨_, rfl⟩
  rw [← hs']
  obtain ⟨c10, _, c12, _, _⟩ := h.cells hok
  have KM := nmade_yes w R oa oc c10
  have hk := nkeys hok.cfg
  obtain ⟨v0, v1, v2, v3, K, hat⟩ := h.at'
  have KS := seed_any w oa oc s.own e hF hT h.own
  have hP : seedP s.own e = (keyOf s.own epochN [e.toNat], 0) := if_pos ⟨hok.own, a1, a2⟩
  rw [hP, hok.own] at KS
  obtain ⟨seed, hseed⟩ : ∃ seed, seed = keyOf s.own epochN [e.toNat] := ⟨_, rfl⟩
  rw [← hseed] at KS
  have hsl : seed.length = 16 := by rw [hseed]; exact keyOf_length _ _ _
  have hpl : ∀ i y, w.cell? ⟨R, i, none⟩ ≠ some (.int .u8 y) := by
    intro i y hc
    cases h with
    | idle h ho h0 hx =>
      rw [cell_of_row _ _ _ _ _ _ h, List.getElem?_toArray] at hc
      have := List.mem_of_getElem? hc
      simp [pnL, rnPre] at this
    | begun h h0 => cases h.peb.kind hc (by decide) (.inl rfl)
  obtain ⟨k, hkk⟩ : ∃ k : Nat, s.c.k = (k : Int) := ⟨s.c.k.toNat, by omega⟩
  have HSD : Hid (seed.length = 16 ∧ lastL seed = s'.last ∧ s'.c = s.c ∧ s'.ep = e ∧ s'.own = s.own ∧ 0 ≤ e ∧ 1 ≤ k ∧ k ≤ 256 ∧ s'.c.k.toNat = k) := ⟨hsl, by rw [hseed, hs']; rfl, by rw [hs'], by rw [hs'], by rw [hs'], a1, by omega, by omega, by rw [hs']; show s.c.k.toNat = k; omega⟩
  have HW : Hid (PNAll w R s oa oc x ∧ FTab w ∧ KTab w ∧ PNAt w R s oa oc v0 v1 v2 v3 K ∧ s'= { s with ep := e, st := t } ∧ R < w.heap.size ∧ s.c.k = (k : Int) ∧ (∀ i y, w.cell? ⟨R, i, none⟩ ≠ some (.int .u8 y))) := ⟨h, hF, hT, hat, hs', hat.lt, hkk, hpl⟩
  have n3 : ¬ t < 0 := by omega
  have n4 : ¬ 1048576 ≤ t := by omega
  clear h hok hk hat hF hT hP hseed hsl hs' hkk hpl a1 a2 a3 a4
  go_enter Tryz.func7, Tryz.ntmps7
  go_wp2_with fail
  refine KM.mono ?_
  rintro ev w0 ⟨rfl, rfl⟩
  clear KM
  go_wp2_with fail
  refine KS.mono ?_
  rintro ev w1 ⟨d, c, rfl, hs1, hb1⟩
  have HB1 : Hid (Below w0.heap.size w0 w1) := hb1
  have c4 : w1.cell? ⟨R, 4, none⟩ = some (.int .i64 (k : Int)) := by
    have : w0.cell? ⟨R, 4, none⟩ = some (.int .i64 (k : Int)) := by rw [HW.out.2.2.2.1.cell 4 rfl, HW.out.2.2.2.2.2.2.1]
    rw [hb1.cell (p := ⟨R, 4, none⟩) HW.out.2.2.2.2.2.1]; exact this
  have KN := new_ok w1 d c seed k (HW.out.2.1.below hb1) (HW.out.2.2.1.below hb1) hs1 HSD.out.1 HSD.out.2.2.2.2.2.2.1 HSD.out.2.2.2.2.2.2.2.1
  have c12' : w1.cell? ⟨R, 12, none⟩ = some (.int .i64 s.ep) := by rw [hb1.cell (p := ⟨R, 12, none⟩) HW.out.2.2.2.2.2.1]; exact c12
  rw [HSD.out.1]
  clear KS hs1 hb1 c10 c12
  go_wp2_with fail
  refine KN.mono ?_
  rintro ev w2 ⟨g, b, cap, cd, cc, T, rfl, hB⟩
  have HB : Hid (Born w1 w2 g b cap cd cc seed k T ∧ Below w0.heap.size w0 w2) := ⟨hB, HB1.out.trans (hB.bel.mono HB1.out.size)⟩
  obtain ⟨s1, hs1⟩ : ∃ s1 : Rn, s1 = { s with ep := e } := ⟨_, rfl⟩
  have p2 : PNAt w2 R s oa oc v0 v1 v2 v3 K := (HB.out.2.block R HW.out.2.2.2.2.2.1).trans HW.out.2.2.2.1
  obtain ⟨W3, hW3⟩ : ∃ W3, W3 = w2.setCell ⟨R, 12, none⟩ (.int .i64 e) := ⟨_, rfl⟩
  obtain ⟨W4, hW4⟩ : ∃ W4, W4 = W3.setCell ⟨R, 13, none⟩ (.int .i64 t) := ⟨_, rfl⟩
  have p3 : PNAt W3 R s1 oa oc v0 v1 v2 v3 K := by rw [hW3, hs1]; exact p2.put 12 _ rfl
  have p4 : PNAt W4 R s' oa oc v0 v1 v2 v3 K := by rw [hW4, HW.out.2.2.2.2.1]; rw [hs1] at p3; exact p3.put 13 _ rfl
  have a4 : Apart (fun k => k = R) w2 W4 := by rw [hW4, hW3]; exact ((Apart.refl (fun k => k = R) w2).setCell (b := R) (.inl rfl) 12 _).setCell (b := R) (.inl rfl) 13 _
  have HS12 : Hid ((Instr.storeAt 3 (.pointer (some ⟨R, 12, none⟩)) (.int .i64 e)).run Tryz.prog w2 = .ok () W3) := by rw [hW3]; exact nstore_int w2 _ _ e (p2.cell 12 rfl) (p2.fz 12)
  have HS13 : Hid ((Instr.storeAt 3 (.pointer (some ⟨R, 13, none⟩)) (.int .i64 t)).run Tryz.prog W3 = .ok () W4) := by rw [hW4]; exact nstore_int W3 _ _ t (p3.cell 13 rfl) (p3.fz 13)
  have hgR : g ≠ R := by have := HB.out.1.hg; have := HW.out.2.2.2.2.2.1; have := HB1.out.size; omega
  have hbR : b ≠ R := by have := HB.out.1.hb; have := HW.out.2.2.2.2.2.1; have := HB1.out.size; omega
  have hpl2 : ∀ k, k = R → ∀ i y, w2.cell? ⟨k, i, none⟩ ≠ some (.int .u8 y) := by
    rintro k rfl i y hc
    rw [HB.out.2.cell (p := ⟨k, i, none⟩) HW.out.2.2.2.2.2.1] at hc
    exact HW.out.2.2.2.2.2.2.2 i y hc
  have peb4 : Peb Nest.self 0 W4 g b cap (.slice cd 16 cc) (lastL seed) k 0 0 T := hB.peb.aside a4 hgR hbR hpl2
  have com4 : Sees W4 cd cc (backL k (lastL seed)) := hB.com.off a4 hpl2
  have own4 : Sees W4 oa oc s.own := (HW.out.1.own.below HB.out.2).off a4 hpl2
  have hpl4 : ∀ i y, W4.cell? ⟨R, i, none⟩ ≠ some (.int .u8 y) := by
    intro i y hc
    rw [cell_of_row _ _ _ _ _ _ p4, List.getElem?_toArray] at hc
    have h2 := hpl2 R rfl i y
    rw [cell_of_row _ _ _ _ _ _ p2, List.getElem?_toArray] at h2
    have h4 : pnL s' oa oc v0 v1 v2 v3 K = ((pnL s oa oc v0 v1 v2 v3 K).set 12 (.int .i64 e)).set 13 (.int .i64 t) := by rw [HW.out.2.2.2.2.1]; rfl
    rw [h4, List.getElem?_set] at hc
    split at hc
    · split at hc
      · cases hc
      · cases hc
    · rw [List.getElem?_set] at hc
      split at hc
      · split at hc
        · cases hc
        · cases hc
      · exact h2 hc
  have H4 : Hid (Peb Nest.self 0 W4 g b cap (.slice cd 16 cc) (lastL seed) k 0 0 T ∧ Sees W4 cd cc (backL k (lastL seed)) ∧ Sees W4 oa oc s.own ∧ PNAt W4 R s' oa oc v0 v1 v2 v3 K ∧ Apart (fun k => k = R) w0 W4 ∧ (∀ i y, W4.cell? ⟨R, i, none⟩ ≠ some (.int .u8 y)) ∧ g ≠ R ∧ w0.heap.size ≤ b) :=
    ⟨peb4, com4, own4, p4, (Apart.of_below (F := fun k => k = R) HB.out.2).trans a4 fun k hk => .inl hk, hpl4, hgR, by have := HB.out.1.hb; have := HB1.out.size; omega⟩
  clear KN hB hs1 hW3 hW4 p2 p3 p4 a4 hgR hbR hpl2 peb4 com4 own4 hpl4 c4 c12'
  go_wp2_with (first | (refine wpList_store_run rfl 3 _ _ rfl _ _ rfl rfl HS12.out ?_) | (refine wpList_store_run rfl 3 _ _ rfl _ _ rfl rfl HS13.out ?_) | fail)
  have HLP : Hid (∀ V, Apart (fun k => k = R) W4 V → (Instr.loadAt 59 (.pointer (some ⟨g, 0, none⟩))).run Tryz.prog V = .ok (.agg #[.slice cd 16 cc, .int .i64 0, .int .i64 0, .slice (some ⟨b, 0, none⟩) T.length cap]) V) := fun V hV => by
    have ho : V.heap[g]? = _ := (hV.block g H4.out.1.lt H4.out.2.2.2.2.2.2.1).trans H4.out.1.obj
    exact run_loadAt_mid V g 0 59 [.slice cd 16 cc, .int .i64 0, .int .i64 0, .slice (some ⟨b, 0, none⟩) T.length cap] _ (fun j u hj => by rw [Nat.zero_add]; exact at_row ho hj) Tryz.underlying59 rfl (by kernel_rfl)
  have KC := commit_ok W4.drew Nest.self 0 g b cap cd cc (lastL seed) (backL k (lastL seed)) k 0 0 T (H4.out.1.keep (Below.refl _ _).drew) (H4.out.2.1.below (Below.refl _ _).drew) (backL_len _ _ (lastL_len _))
  have hS0 : Apart (fun k => k = R) W4 W4.drew := Apart.of_below (Below.refl _ _).drew
  refine wp_region_noPanic ?_
  refine wp_region_held (S := fun V => Apart (fun k => k = R) W4 V) (by kernel_rfl) ?_
  have hS := hS0
  refine any_take 0 ?vrbn1 rfl (by kernel_rfl) (by kernel_rfl) (by kernel_rfl) (fun _ _ _ h => h) (by rfl) ?hrbn1 hS ?_
  case hrbn1 => (intro w hSw; (try dsimp only at hSw); go_split_ands; go_simp; (try with_reducible rfl))
  (try simp only [Act.put, List.setIfInBounds_toArray, List.set_cons_zero, List.set_cons_succ])
  refine any_take 1 ?vrbn2 rfl (by kernel_rfl) (by kernel_rfl) (by kernel_rfl) (fun _ _ _ h => h) (by rfl) ?hrbn2 hS ?_
  case hrbn2 => (intro w hSw; (try dsimp only at hSw); go_split_ands; go_simp; (try with_reducible rfl))
  (try simp only [Act.put, List.setIfInBounds_toArray, List.set_cons_zero, List.set_cons_succ])
  refine any_take 2 ?vrbn3 rfl (by kernel_rfl) (by kernel_rfl) (by kernel_rfl) (fun _ _ _ h => h) (by rfl) ?hrbn3 hS ?_
  case hrbn3 => (intro w hSw; (try dsimp only at hSw); go_split_ands; go_simp; (try with_reducible rfl))
  (try simp only [Act.put, List.setIfInBounds_toArray, List.set_cons_zero, List.set_cons_succ])
  refine any_take 3 ?vrbn4 rfl (by kernel_rfl) (by kernel_rfl) (by kernel_rfl) (fun _ _ _ h => h) (by rfl) ?hrbn4 hS ?_
  case hrbn4 => (intro w hSw; (try dsimp only at hSw); go_split_ands; go_simp; (try with_reducible rfl))
  (try simp only [Act.put, List.setIfInBounds_toArray, List.set_cons_zero, List.set_cons_succ])
  refine any_take 4 (Value.agg #[.slice cd 16 cc, .int .i64 0, .int .i64 0, .slice (some ⟨b, 0, none⟩) T.length cap]) rfl (by kernel_rfl) (by kernel_rfl) (by kernel_rfl) (fun _ _ _ h => h) (by rfl) (fun W hW => exec_load 59 (.tmp 62) rfl _ _ rfl (HLP.out W hW)) hS ?_
  (try simp only [Act.put, List.setIfInBounds_toArray, List.set_cons_zero, List.set_cons_succ])
  refine any_take 5 ?vrbn5 rfl (by kernel_rfl) (by kernel_rfl) (by kernel_rfl) (fun _ _ _ h => h) (by rfl) ?hrbn5 hS ?_
  case hrbn5 => (intro w hSw; (try dsimp only at hSw); go_split_ands; go_simp; (try with_reducible rfl))
  (try simp only [Act.put, List.setIfInBounds_toArray, List.set_cons_zero, List.set_cons_succ])
  refine any_one 6 rfl (by kernel_rfl) (by rfl) (fun K hK => ?_)
  have hSS : _ := hS
  clear hS
  go_simp
  refine KC.mono ?_
  rintro ev w5 ⟨d5, c5, rfl, hs5, hb5⟩
  have hS5 : Apart (fun k => k = R) W4 w5 := hSS.trans (Apart.of_below (F := fun _ => False) hb5) fun _ h => h.elim
  have hb45 : Below W4.heap.size W4 w5 := (Below.refl W4.heap.size W4).drew.trans hb5
  obtain ⟨wA, wB, hrA, hrB, cA, fA, cB, fB, aA, aB, resA, resB⟩ := begun_fin (w := w0) (v := w5) (d5 := d5) (c5 := c5) x HW.out.2.2.2.2.2.1 (by rw [HSD.out.2.2.2.1]; exact HSD.out.2.2.2.2.2.1) (by rw [← HSD.out.2.1, HSD.out.2.2.2.2.2.2.2.2]; exact H4.out.1.keep hb45) (by unfold Rn.key; rw [HSD.out.2.2.2.2.2.2.2.2, Nat.sub_zero, ← HSD.out.2.1]; exact hs5) (by rw [HSD.out.2.2.2.2.1]; exact H4.out.2.2.1.below hb45) H4.out.2.2.2.2.2.2.2 (H4.out.2.2.2.2.1.trans (Apart.of_below (F := fun _ => False) hb45) fun _ h => h.elim) (fun i y hc => by rw [hb45.cell (p := ⟨R, i, none⟩) H4.out.2.2.2.1.lt] at hc; exact H4.out.2.2.2.2.2.1 i y hc) ((hb45.block R H4.out.2.2.2.1.lt).trans H4.out.2.2.2.1)
  have HA : Hid ((Instr.storeAt 59 (.pointer (some ⟨R, 14, none⟩)) (.agg #[.slice cd 16 cc, .int .i64 0, .int .i64 0, .slice (some ⟨b, 0, none⟩) T.length cap])).run Tryz.prog (w5.alloc (.cells #[.slice d5 16 c5] 24)) = .ok () wA ∧ Apart (fun k => k = R) (w5.alloc (.cells #[.slice d5 16 c5] 24)) wA ∧ PBegun w0 R s' oa oc x (wA.setCell ⟨R, 18, none⟩ (.slice (some ⟨w5.heap.size, 0, none⟩) 1 1))) := ⟨hrA, aA, resA⟩
  have HBb : Hid ((Instr.storeAt 59 (.pointer (some ⟨R, 14, none⟩)) (.agg #[.slice cd 16 cc, .int .i64 0, .int .i64 0, .slice (some ⟨b, 0, none⟩) T.length cap])).run Tryz.prog w5 = .ok () wB ∧ Apart (fun k => k = R) w5 wB ∧ PBegun w0 R s' oa oc x ((wB.alloc (.cells #[.slice d5 16 c5] 24)).setCell ⟨R, 18, none⟩ (.slice (some ⟨wB.heap.size, 0, none⟩) 1 1))) := ⟨hrB, aB, resB⟩
  clear hSS KC hs5 hb5 hb45 hrA hrB aA aB resA resB hS0
  refine hK.out _ _ (hS5) (fun hS => ?_)
  clear hK
  (try simp only [Act.put, List.setIfInBounds_toArray, List.set_cons_zero, List.set_cons_succ])
  refine any_take 8 ?vrbn6 rfl (by kernel_rfl) (by kernel_rfl) (by kernel_rfl) (fun _ _ _ h => h) (by rfl) ?hrbn6 hS ?_
  case hrbn6 => (intro w hSw; (try dsimp only at hSw); go_split_ands; go_simp; (try with_reducible rfl))
  (try simp only [Act.put, List.setIfInBounds_toArray, List.set_cons_zero, List.set_cons_succ])
  refine any_take 9 ?vrbn7 rfl (by kernel_rfl) (by kernel_rfl) (by kernel_rfl) (fun _ _ _ h => h) (by rfl) ?hrbn7 hS ?_
  case hrbn7 => (intro w hSw; (try dsimp only at hSw); go_split_ands; go_simp; (try with_reducible rfl))
  (try simp only [Act.put, List.setIfInBounds_toArray, List.set_cons_zero, List.set_cons_succ])
  refine any_two 7 10 rfl rfl (by kernel_rfl) (by rfl) (by rfl) (fun K hK => ?_) (fun K hK => ?_)
  · have hSS : _ := hS
    clear hS
    go_simp
    refine hK.out _ _ (hSS.trans (Apart.of_below (F := fun _ => False) ((Below.refl _ _).alloc (Nat.le_refl _) _)) fun _ h => h.elim) (fun hS => ?_)
    clear hK
    (try simp only [Act.put, List.setIfInBounds_toArray, List.set_cons_zero, List.set_cons_succ])
    refine any_one 10 rfl (by kernel_rfl) (by rfl) (fun K hK => ?_)
    have hSS : _ := hS
    clear hS
    first | (refine op_store_run 59 _ _ rfl _ _ rfl rfl HA.out.1 ?_) | (refine op_store_run 59 _ _ rfl _ _ rfl rfl HBb.out.1 ?_)
    simp only [Act.put]
    refine hK.out _ _ (by first | exact hSS.trans HA.out.2.1 (fun k hk => .inl hk) | exact hSS.trans HBb.out.2.1 (fun k hk => .inl hk)) (fun hS => ?_)
    clear hK
    (try simp only [Act.put, List.setIfInBounds_toArray, List.set_cons_zero, List.set_cons_succ])
    refine any_take 11 ?vrbn8 rfl (by kernel_rfl) (by kernel_rfl) (by kernel_rfl) (fun _ _ _ h => h) (by rfl) ?hrbn8 hS ?_
    case hrbn8 => (intro w hSw; (try dsimp only at hSw); go_split_ands; go_simp; (try with_reducible rfl))
    (try simp only [Act.put, List.setIfInBounds_toArray, List.set_cons_zero, List.set_cons_succ])
    refine any_take 12 ?vrbn9 rfl (by kernel_rfl) (by kernel_rfl) (by kernel_rfl) (fun _ _ _ h => h) (by rfl) ?hrbn9 hS ?_
    case hrbn9 => (intro w hSw; (try dsimp only at hSw); go_split_ands; go_simp; (try with_reducible rfl))
    (try simp only [Act.put, List.setIfInBounds_toArray, List.set_cons_zero, List.set_cons_succ])
    refine any_one 13 rfl (by kernel_rfl) (by rfl) (fun K hK => ?_)
    have hSS : _ := hS
    clear hS
    go_simp
    refine hK.out _ _ (hSS.setCell (b := R) (.inl rfl) 18 _) (fun hS => ?_)
    clear hK
    (try simp only [Act.put, List.setIfInBounds_toArray, List.set_cons_zero, List.set_cons_succ])
    refine wpAnyH_done (by kernel_rfl) ?_ _
    refine NoPanic.normal ?_
    clear hS cA fA cB fB
    go_wp2
    go_ret
    first | exact ⟨rfl, HA.out.2.2⟩ | exact ⟨rfl, HBb.out.2.2⟩
  · have hSS : _ := hS
    clear hS
    first | (refine op_store_run 59 _ _ rfl _ _ rfl rfl HA.out.1 ?_) | (refine op_store_run 59 _ _ rfl _ _ rfl rfl HBb.out.1 ?_)
    simp only [Act.put]
    refine hK.out _ _ (by first | exact hSS.trans HA.out.2.1 (fun k hk => .inl hk) | exact hSS.trans HBb.out.2.1 (fun k hk => .inl hk)) (fun hS => ?_)
    clear hK
    (try simp only [Act.put, List.setIfInBounds_toArray, List.set_cons_zero, List.set_cons_succ])
    refine any_one 7 rfl (by kernel_rfl) (by rfl) (fun K hK => ?_)
    have hSS : _ := hS
    clear hS
    go_simp
    refine hK.out _ _ (hSS.trans (Apart.of_below (F := fun _ => False) ((Below.refl _ _).alloc (Nat.le_refl _) _)) fun _ h => h.elim) (fun hS => ?_)
    clear hK
    (try simp only [Act.put, List.setIfInBounds_toArray, List.set_cons_zero, List.set_cons_succ])
    refine any_take 11 ?vrbn10 rfl (by kernel_rfl) (by kernel_rfl) (by kernel_rfl) (fun _ _ _ h => h) (by rfl) ?hrbn10 hS ?_
    case hrbn10 => (intro w hSw; (try dsimp only at hSw); go_split_ands; go_simp; (try with_reducible rfl))
    (try simp only [Act.put, List.setIfInBounds_toArray, List.set_cons_zero, List.set_cons_succ])
    refine any_take 12 ?vrbn11 rfl (by kernel_rfl) (by kernel_rfl) (by kernel_rfl) (fun _ _ _ h => h) (by rfl) ?hrbn11 hS ?_
    case hrbn11 => (intro w hSw; (try dsimp only at hSw); go_split_ands; go_simp; (try with_reducible rfl))
    (try simp only [Act.put, List.setIfInBounds_toArray, List.set_cons_zero, List.set_cons_succ])
    refine any_one 13 rfl (by kernel_rfl) (by rfl) (fun K hK => ?_)
    have hSS : _ := hS
    clear hS
    go_simp
    refine hK.out _ _ (hSS.setCell (b := R) (.inl rfl) 18 _) (fun hS => ?_)
    clear hK
    (try simp only [Act.put, List.setIfInBounds_toArray, List.set_cons_zero, List.set_cons_succ])
    refine wpAnyH_done (by kernel_rfl) ?_ _
    refine NoPanic.normal ?_
    clear hS cA fA cB fB
    go_wp2
    go_ret
    first | exact ⟨rfl, HA.out.2.2⟩ | exact ⟨rfl, HBb.out.2.2⟩
end Go.Proofs.YtgncdnejmobjbaaGreatDoor
