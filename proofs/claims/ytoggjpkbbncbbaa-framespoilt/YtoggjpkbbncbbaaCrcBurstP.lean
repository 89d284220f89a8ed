/-
  The contract of Burst: a range over the bits of one number, left early.
-/
import Derived.Test.YtoggjpkbbncbbaaCrcEach
import Derived.Test.YtoggjpkbbncbbaaCrcCalls
import Derived.Test.YtoggjpkbbncbbaaRoundLaw
namespace Go.Proofs.Ytoggjpkbbncbbaa
open Go.ChangeShapes Go.WideShapes Go.ChangeAt Go.RowKit Go.Shelf
attribute [local go_sem] Oper.semAt_some

theorem wpListIn_make_full {F : Fence} {n : Nat} {P : Program} (w : World) {ops : Array Oper} {rest : List Oper} {o : Oper} {a : Act} {Q : Exit → Act → World → Prop}
    (hg : o.guard = none) (l c : Operand) (t : TypeId) (hop : o.op = Op.makeSlice t l c)
    (base : Nat) (e : TypeId) (i : TypeInfo) (z : Value) (size : Nat) (h1 : P.underlying t = some (.slice e)) (h2 : P.info? e = some i) (h3 : i.zero = some z) (h4 : i.size = size)
    (kl kc : IntKind) (L C : Int) (m : Nat) (hl : a.eval l = .int kl L) (hc : a.eval c = .int kc C) (hL : L = (m : Int)) (hC : C = (m : Int)) (b2 : i.bytes * m ≤ 281474976710656) (b3 : m ≤ maxLen) (b4 : base ≤ w.heap.size)
    (hK : ∀ w', w'.ownsRow base e size (.slice (some ⟨w.heap.size, 0, none⟩) m m) m (madeCells z.cells (m * size)).toList → w.grownBy w' none → wpListIn F n P ops Q rest (a.put o.dst (.slice (some ⟨w.heap.size, 0, none⟩) m m)) w') :
    wpListIn F n P ops Q (o :: rest) a w := by
  refine wpListIn_plain hg fun K hK' => ?_
  obtain ⟨w', hrun, r1, r2⟩ := run_make_full (P := P) w base t e i z size h1 h2 h3 h4 kl kc m b2 b3 b4
  subst hL
  subst hC
  unfold Oper.wpIn
  refine ⟨?_, ?_⟩
  · simp [Oper.about, hop]
  · rw [Oper.semAt_plain F _ _ (by rw [hop]; intro c hc'; cases hc')]
    simp [execOp, hop, hl, hc, hrun, Result.andThen]
    exact hK' _ _ (hK w' r1 r2)

/-- Between two rounds: the bits so far lie in the row; the place lies in its box; all other boxes stand. -/
def BI (w : World) (n k B o : Nat) (j : Nat) (V : World) : Prop :=
  Boxed V w.heap.size 3 (.int .i64 (n : Int)) ∧ Boxed V (w.heap.size + 1) 3 (.int .i64 ((k + j : Nat) : Int)) ∧
    (∃ cur, bitsOf cur = burstI n k B j ∧ cur.length = n ∧ V.ownsRow w.heap.size 5 1 (.slice (some ⟨w.heap.size + 1 + 1, 0, none⟩) n n) n (cur.map cellOf)) ∧
    Boxed V o 23 (.slice (some ⟨w.heap.size + 1 + 1, 0, none⟩) n n) ∧ Boxed V (o + 1) 43 (.int .u32 (B : Int)) ∧ Boxed V (o + 1 + 1) 81 (.slice (some ⟨o + 1, 0, none⟩) 1 1) ∧ Boxed V (o + 1 + 1 + 1) 3 (.int .i64 32) ∧ Below w.heap.size w V
/-- .. and where the place is beyond the end: all bits. -/
def BX (w : World) (n k B o : Nat) (V : World) : Prop :=
  (∃ cur, bitsOf cur = burstI n k B 32 ∧ cur.length = n ∧ V.ownsRow w.heap.size 5 1 (.slice (some ⟨w.heap.size + 1 + 1, 0, none⟩) n n) n (cur.map cellOf)) ∧
    Boxed V o 23 (.slice (some ⟨w.heap.size + 1 + 1, 0, none⟩) n n) ∧ Below w.heap.size w V
theorem BI.turned {w : World} {n k B o j D : Nat} {V V' : World} (h : BI w n k B o j V) (hD : w.heap.size ≤ D) (ht : Turned D V V') : BI w n k B o j V' := by
  obtain ⟨h1, h2, ⟨cur, c1, c2, c3⟩, h4, h5, h6, h7, h8⟩ := h
  exact ⟨ht.boxed h1, ht.boxed h2, ⟨cur, c1, c2, ht.owns c3⟩, ht.boxed h4, ht.boxed h5, ht.boxed h6, ht.boxed h7, ht.below h8 hD⟩
theorem BX.turned {w : World} {n k B o D : Nat} {V V' : World} (h : BX w n k B o V) (hD : w.heap.size ≤ D) (ht : Turned D V V') : BX w n k B o V' := by
  obtain ⟨⟨cur, c1, c2, c3⟩, h4, h8⟩ := h
  exact ⟨⟨cur, c1, c2, ht.owns c3⟩, ht.boxed h4, ht.below h8 hD⟩
theorem BI.below {w : World} {n k B o j : Nat} {V V' : World} (h : BI w n k B o j V) (hb : Below V.heap.size V V') : BI w n k B o j V' := by
  obtain ⟨h1, h2, ⟨cur, c1, c2, c3⟩, h4, h5, h6, h7, h8⟩ := h
  exact ⟨Boxed.below h1 hb, Boxed.below h2 hb, ⟨cur, c1, c2, own_keepB c3 hb⟩, Boxed.below h4 hb, Boxed.below h5 hb, Boxed.below h6 hb, Boxed.below h7 hb, h8.trans (hb.mono h8.size)⟩
theorem BX.below {w : World} {n k B o : Nat} {V V' : World} (h : BX w n k B o V) (hb : Below V.heap.size V V') : BX w n k B o V' := by
  obtain ⟨⟨cur, c1, c2, c3⟩, h4, h8⟩ := h
  exact ⟨⟨cur, c1, c2, own_keepB c3 hb⟩, Boxed.below h4 hb, h8.trans (hb.mono h8.size)⟩
theorem Boxed.row {V : World} {b t g q : Nat} {u : Value} (h : Boxed V b t u) (v : Value) (hne : b ≠ g) : Boxed (V.setCell ⟨g, q, none⟩ v) b t u := (Below.heap_setCell V ⟨g, q, none⟩ v b (fun e => hne (by rw [e]))).trans h
theorem BI.next {w : World} {n k B o j : Nat} {V : World} (h : BI w n k B o j V) (ho : w.heap.size + 1 + 1 < o) (cur : List UInt8) (own : V.ownsRow w.heap.size 5 1 (.slice (some ⟨w.heap.size + 1 + 1, 0, none⟩) n n) n (cur.map cellOf)) (hcl : cur.length = n) (q : Nat) (y : UInt8)
    (hs : bitsOf (cur.set q y) = burstI n k B (j + 1)) (p : Nat) (hp : p = k + j + 1) :
    KeepsOthers V ((V.setCell ⟨w.heap.size + 1 + 1, q, none⟩ (.int .u8 (y.toNat : Int))).drew.setCell ⟨w.heap.size + 1, 0, none⟩ (.int .i64 (p : Int))) ∧ BI w n k B o (j + 1) ((V.setCell ⟨w.heap.size + 1 + 1, q, none⟩ (.int .u8 (y.toNat : Int))).drew.setCell ⟨w.heap.size + 1, 0, none⟩ (.int .i64 (p : Int))) := by
  obtain ⟨h1, h2, _, h4, h5, h6, h7, h8⟩ := h
  obtain ⟨ho2, _⟩ := own.stored q (.int .u8 (y.toNat : Int))
  rw [set_cellU] at ho2
  have up : ∀ {b t : Nat} {u : Value}, Boxed V b t u → b ≠ w.heap.size + 1 + 1 → b ≠ w.heap.size + 1 → Boxed ((V.setCell ⟨w.heap.size + 1 + 1, q, none⟩ (.int .u8 (y.toNat : Int))).drew.setCell ⟨w.heap.size + 1, 0, none⟩ (.int .i64 (p : Int))) b t u := fun hb n1 n2 =>
    Boxed.other (W := (V.setCell ⟨w.heap.size + 1 + 1, q, none⟩ (.int .u8 (y.toNat : Int))).drew) (Boxed.row hb _ n1) n2 _
  have h2' : Boxed (V.setCell ⟨w.heap.size + 1 + 1, q, none⟩ (.int .u8 (y.toNat : Int))).drew (w.heap.size + 1) 3 (.int .i64 ((k + j : Nat) : Int)) := Boxed.row h2 _ (by omega)
  have b8 : Below w.heap.size w (V.setCell ⟨w.heap.size + 1 + 1, q, none⟩ (.int .u8 (y.toNat : Int))).drew := (h8.setCell (p := ⟨w.heap.size + 1 + 1, q, none⟩) (by show w.heap.size ≤ w.heap.size + 1 + 1; omega) _).drew
  refine ⟨((KeepsOthers.setCell _ _ _).trans (KeepsOthers.drew _)).trans (KeepsOthers.setCell _ _ _), up h1 (by omega) (by omega), ?_, ⟨cur.set q y, hs, by rw [List.length_set]; exact hcl, ?_⟩, up h4 (by omega) (by omega), up h5 (by omega) (by omega), up h6 (by omega) (by omega), up h7 (by omega) (by omega), b8.setCell (p := ⟨w.heap.size + 1, 0, none⟩) (by show w.heap.size ≤ w.heap.size + 1; omega) _⟩
  · rw [hp, show k + j + 1 = k + (j + 1) from by omega]; exact h2'.set _
  · exact (World.ownsRow.drew ho2).kept (grownBy_setCell' _ (w.heap.size + 1) _) (.inr (h2'.not_row (by decide) (World.ownsRow.drew ho2)).symm)

theorem own_put {V : World} {base e s n : Nat} {v : Value} {xs : List Value} (h : V.ownsRow base e s v n xs) {D : Nat} {q : Obj} (q' : Obj) (hD : V.heap[D]? = some q) (hc : q.isCells = false) : (V.putObj D q').ownsRow base e s v n xs := by
  refine ⟨h.1, ?_⟩
  rcases h.2 with h0 | ⟨g, cap, cur, rfl, hlow, hg, h4⟩
  · exact .inl h0
  · exact .inr ⟨g, cap, cur, rfl, hlow, by rw [World.putObj_heap_other (by rintro rfl; rw [hD] at hg; cases hg; cases hc)]; exact hg, h4⟩

theorem burst_end (n k B j : Nat) (h : 8 * n ≤ k + j) : ∀ m, burstI n k B (j + m) = burstI n k B j
  | 0 => rfl
  | m + 1 => by rw [← Nat.add_assoc, burstI_skip n k B (j + m) (by omega), burst_end n k B j h m]

set_option maxRecDepth 100000 in
set_option maxHeartbeats 4000000 in
set_option maxRecDepth 20000 in
theorem burst_at (w : World) (n k B : Nat) (hn : n ≤ 4096) (hB : B < 4294967296) :
    Calls Try.prog 19 #[.int .i64 (n : Int), .int .i64 (k : Int), .int .u32 (B : Int)] w fun e w' => ∃ g r, Hid (bitsOf r = burstI n k B 32) ∧ r.length = n ∧ e = .returned (.slice (some ⟨g, 0, none⟩) n n) ∧ w'.ownsRow w.heap.size 5 1 (.slice (some ⟨g, 0, none⟩) n n) n (r.map cellOf) ∧ Below w.heap.size w w' := by
  obtain ⟨i5, hi, hz0, hz1, hz2⟩ := info_parts Try.info5
  have d1 : decide ((n : Int) < 0) = false := by simp
  have d2 : decide ((4096 : Int) < (n : Int)) = false := by simp; omega
  have d3 : decide ((k : Int) < 0) = false := by simp
  refine (callsIn_wide (n := 9)).1 ?_
  refine callsIn_of_wp_marks Try.func19 rfl trivial ?_ rfl
  simp only [Try.ntmps19, List.size_toArray, List.length_cons, List.length_nil, Nat.reduceAdd, Nat.reduceSub, Array.replicate_succ, Array.replicate_zero, List.push_toArray, List.append_toArray, List.nil_append, List.cons_append]
  gi_wp2_with (gi_at_make; refine wpListIn_make_full _ rfl _ _ 23 rfl w.heap.size 5 i5 (.int .u8 0) 1 Try.underlying23 hi hz0 hz1 .i64 .i64 _ _ n rfl rfl rfl rfl ?b2 ?b3 ?b4 ?_)
  case b2 => rw [hz2]; omega
  case b3 => unfold maxLen; omega
  case b4 => simp; omega
  intro w1 hown hgrow
  have ho0 : w1.ownsRow w.heap.size 5 1 (.slice (some ⟨w.heap.size + 1 + 1, 0, none⟩) n n) n ((List.replicate n (0 : UInt8)).map cellOf) := by rw [← made_bytes]; simpa using hown
  have bx1 : Boxed w1 w.heap.size 3 (.int .i64 (n : Int)) := ((Boxed.new w 3 _).alloc _).kept hgrow (by simp)
  have bx2 : Boxed w1 (w.heap.size + 1) 3 (.int .i64 (k : Int)) := by
    have := Boxed.new (w.alloc (.cells #[.int .i64 (n : Int)] 3)) 3 (.int .i64 (k : Int))
    rw [World.size_alloc] at this
    exact this.kept hgrow (by simp)
  have hbel : Below w.heap.size w w1 := (((Below.refl _ w).alloc (Nat.le_refl _) _).alloc (by simp) _).grown hgrow (by simp; omega) (by intro k h; cases h)
  have hlt : w.heap.size + 1 + 1 < w1.heap.size := (ho0.lt (w.heap.size + 1 + 1) rfl).2
  clear hown hgrow hi hz0 hz1 hz2 i5
  have hmk := each32_made _ (some ⟨w1.heap.size + 1, 0, none⟩) 1 1 rfl ((w1.alloc (.cells #[.slice (some ⟨w.heap.size + 1 + 1, 0, none⟩) n n] 23)).alloc (.cells #[.int .u32 (B : Int)] 43))
  rw [World.size_alloc, World.size_alloc] at hmk
  have cK := (bx2.alloc (.cells #[.slice (some ⟨w.heap.size + 1 + 1, 0, none⟩) n n] 23)).cell
  gi_wp2
  clear cK
  refine ⟨trivial, (callsIn_wide.2 hmk).mono ?_⟩
  rintro e w' ⟨rfl, hw'⟩
  rw [hw']
  clear hmk hw' w'
  gi_wp2
  obtain ⟨o, hoo⟩ : ∃ o, o = w1.heap.size := ⟨_, rfl⟩
  obtain ⟨W0, hW0⟩ : ∃ W0, W0 = (((w1.alloc (.cells #[.slice (some ⟨w.heap.size + 1 + 1, 0, none⟩) n n] 23)).alloc (.cells #[.int .u32 (B : Int)] 43)).alloc (.cells #[.slice (some ⟨w1.heap.size + 1, 0, none⟩) 1 1] 81)).alloc (.cells #[.int .i64 32] 3) := ⟨_, rfl⟩
  have hsz : W0.heap.size = w1.heap.size + 4 := by rw [hW0]; simp
  have hB0 : Below w1.heap.size w1 W0 := by rw [hW0]; exact ((((Below.refl _ w1).alloc (Nat.le_refl _) _).alloc (by simp) _).alloc (by simp; omega) _).alloc (by simp; omega) _
  have hI0 : BI w n k B o 0 W0 := by
    refine ⟨Boxed.below bx1 hB0, Boxed.below bx2 hB0, ⟨List.replicate n 0, by rw [bits_noughts, burstI_zero], by simp, own_keepB ho0 hB0⟩, ?_, ?_, ?_, ?_, hbel.trans (hB0.mono hbel.size)⟩
    · rw [hW0, hoo]; exact (((Boxed.new w1 23 _).alloc _).alloc _).alloc _
    · have := Boxed.new (w1.alloc (.cells #[.slice (some ⟨w.heap.size + 1 + 1, 0, none⟩) n n] 23)) 43 (.int .u32 (B : Int))
      rw [World.size_alloc] at this
      rw [hW0, hoo]; exact (this.alloc _).alloc _
    · have := Boxed.new ((w1.alloc (.cells #[.slice (some ⟨w.heap.size + 1 + 1, 0, none⟩) n n] 23)).alloc (.cells #[.int .u32 (B : Int)] 43)) 81 (.slice (some ⟨w1.heap.size + 1, 0, none⟩) 1 1)
      rw [World.size_alloc, World.size_alloc] at this
      rw [hW0, hoo]; exact this.alloc _
    · have := Boxed.new (((w1.alloc (.cells #[.slice (some ⟨w.heap.size + 1 + 1, 0, none⟩) n n] 23)).alloc (.cells #[.int .u32 (B : Int)] 43)).alloc (.cells #[.slice (some ⟨w1.heap.size + 1, 0, none⟩) 1 1] 81)) 3 (.int .i64 32)
      rw [World.size_alloc, World.size_alloc, World.size_alloc] at this
      rw [hW0, hoo]; exact this
  rw [← hW0]
  rw [← hoo] at hlt hsz ⊢
  have HLT : Hid (w.heap.size + 1 + 1 < o) := hlt
  have HW0 : Hid (w.heap.size ≤ W0.heap.size) := by show w.heap.size ≤ W0.heap.size; omega
  clear hW0 hoo hsz hlt bx1 bx2 ho0 hbel hB0
  refine range_pre 67 #[.pointer (some ⟨o + 1 + 1, 0, none⟩), .pointer (some ⟨o + 1 + 1 + 1, 0, none⟩)] rfl (enters_of Try.func67 (by kernel_rfl) rfl)
    (fun x : Bool => #[.int .u32 (x.toNat : Int)]) (fun _ => rfl) (BI w n k B o) (fun j x V => BI w n k B o j V ∧ j < 32 ∧ x = B.testBit (31 - j)) (fun j _ => j + 1) (fun c _ V => c = .exit 0 ∧ BX w n k B o V)
    (fun j => j = 32) ?fI ?fP ?fX
    (fun x => { tmps := #[.int .i64 (n : Int), .int .i64 (k : Int), .int .u32 (B : Int), .pointer (some ⟨w.heap.size, 0, none⟩), .pointer (some ⟨w.heap.size + 1, 0, none⟩), undef, .slice none 0 0, .pointer (some ⟨o, 0, none⟩), .int .u32 (x.toNat : Int), .int .i64 (n : Int), .bool false, .bool false, .int .i64 (n : Int), .bool false, .bool false, .int .i64 (n : Int), .slice (some ⟨w.heap.size + 1 + 1, 0, none⟩) n n, .int .i64 (k : Int), .bool false, undef, .int .u32 (B : Int), .slice (some ⟨o + 1, 0, none⟩) 1 1, .func (.func 67) #[] #[.pointer (some ⟨o + 1 + 1, 0, none⟩), .pointer (some ⟨o + 1 + 1 + 1, 0, none⟩)], .int .u32 (x.toNat : Int), undef, undef, undef, undef, undef, undef, undef, undef, undef, undef, undef, undef, undef, undef, undef, undef, undef, undef, undef, undef], defers := [] })
    ?assign ?body ?iter ?kX ?done ?stop
  case fI => exact fun j V V' h ht => h.turned HW0.out ht
  case fP => exact fun j x V V' ⟨h1, h2⟩ ht => ⟨h1.turned HW0.out ht, h2⟩
  case fX => exact fun c j V V' ⟨h1, h2⟩ ht => ⟨h1, h2.turned HW0.out ht⟩
  case kX => exact fun c j V V' ⟨h1, h2⟩ hb => ⟨h1, h2.below hb⟩
  case assign =>
    intro lp x V K hK
    gi_wp2
    exact hK
  case body =>
    rintro lp j x V ⟨hBI, hj, hx⟩
    show Code.wpIn _ _ _ _ (roundEnds W0.heap.size (BI w n k B o) (fun c _ V => c = .exit 0 ∧ BX w n k B o V) (j + 1) V) _ _
    have HBI : Hid (BI w n k B o j V) := hBI
    obtain ⟨hb1, hb2, ⟨cur, hcur, hcl, own⟩, hb4, _, _, _, hb8⟩ := hBI
    have c1 := hb1.cell
    have c2 := hb2.cell
    have c4 := hb4.cell
    have f2 := hb2.frozen
    obtain ⟨p, hp⟩ : ∃ p, p = k + j := ⟨_, rfl⟩
    rw [← hp] at c2
    have e8 : IntKind.i64.wrap (8 * (n : Int)) = 8 * (n : Int) := by rw [IntKind.wrap_i64]; omega
    by_cases hin : p < 8 * n
    · obtain ⟨q, hq⟩ : ∃ q, q = p / 8 := ⟨_, rfl⟩
      obtain ⟨r, hr⟩ : ∃ r, r = p % 8 := ⟨_, rfl⟩
      obtain ⟨s, hs⟩ : ∃ s, s = 7 - r := ⟨_, rfl⟩
      have hqn : q < n := by omega
      obtain ⟨z, hz⟩ : ∃ z, cur[q]? = some z := ⟨cur[q]'(by omega), by simp [hcl, hqn]⟩
      have hs8 : s < 8 := by omega
      have hcx : V.cell? ⟨w.heap.size + 1 + 1, q, none⟩ = some (.int .u8 (z.toNat : Int)) := by rw [own.cellAt q (by omega), List.getElem?_map, hz]; rfl
      have hfx : V.frozen? ⟨w.heap.size + 1 + 1, q, none⟩ = false := own.frozenAt q
      have g0 : ¬ ((8 * (n : Int)) ≤ (p : Int)) := by omega
      have g0' : decide ((8 * (n : Int)) ≤ (p : Int)) = false := by simp; omega
      have q1 : (p : Int) / 8 = (q : Int) := by omega
      have q2 : (p : Int).tdiv 8 = (q : Int) := by rw [Int.tdiv_eq_ediv_of_nonneg (by omega)]; exact q1
      have r1 : (p : Int) % 8 = (r : Int) := by omega
      have r2 : (p : Int).tmod 8 = (r : Int) := by rw [Int.tmod_eq_emod_of_nonneg (by omega)]; exact r1
      have s1 : 7 - (r : Int) = (s : Int) := by omega
      have s2 : IntKind.i64.wrap (7 - (r : Int)) = (s : Int) := by rw [IntKind.wrap_i64]; omega
      have gq0 : (0 : Int) ≤ (q : Int) := Int.natCast_nonneg _
      have gq1 : (q : Int) < (n : Int) := by omega
      have gs0 : (0 : Int) ≤ (s : Int) := Int.natCast_nonneg _
      have p2 : IntKind.i64.wrap ((p : Int) + 1) = ((p + 1 : Nat) : Int) := by rw [IntKind.wrap_i64]; omega
      have wq : IntKind.i64.wrap (q : Int) = (q : Int) := by rw [IntKind.wrap_i64]; omega
      have ws : IntKind.i64.wrap (s : Int) = (s : Int) := by rw [IntKind.wrap_i64]; omega
      have u1 : IntKind.u8.wrap 1 = 1 := rfl
      have u0 : IntKind.u8.wrap 0 = 0 := rfl
      have hfm : Try.prog.follows .mixedOrders = true := by kernel_rfl
      have HEND : Hid (∀ y : UInt8, bitsOf (cur.set q y) = burstI n k B (j + 1) → KeepsOthers V ((V.setCell ⟨w.heap.size + 1 + 1, q, none⟩ (.int .u8 (y.toNat : Int))).drew.setCell ⟨w.heap.size + 1, 0, none⟩ (.int .i64 ((p + 1 : Nat) : Int))) ∧ BI w n k B o (j + 1) ((V.setCell ⟨w.heap.size + 1 + 1, q, none⟩ (.int .u8 (y.toNat : Int))).drew.setCell ⟨w.heap.size + 1, 0, none⟩ (.int .i64 ((p + 1 : Nat) : Int)))) := fun y hy =>
        HBI.out.next HLT.out cur own hcl q y hy (p + 1) (by omega)
      have SAFE : Hid (∀ u : Value, (V.drew.setCell ⟨w.heap.size + 1 + 1, q, none⟩ u).cell? ⟨o, 0, none⟩ = some (.slice (some ⟨w.heap.size + 1 + 1, 0, none⟩) n n) ∧ (V.drew.setCell ⟨w.heap.size + 1 + 1, q, none⟩ u).cell? ⟨w.heap.size + 1, 0, none⟩ = some (.int .i64 (p : Int))) := fun u => by
        have hlt := HLT.out
        have h1 := (Boxed.row (V := V.drew) (g := w.heap.size + 1 + 1) (q := q) hb4 u (by omega)).cell
        have h2 := (Boxed.row (V := V.drew) (g := w.heap.size + 1 + 1) (q := q) hb2 u (by omega)).cell
        rw [← hp] at h2
        exact ⟨h1, h2⟩
      have SAFF : Hid (∀ u : Value, (V.drew.setCell ⟨w.heap.size + 1 + 1, q, none⟩ u).frozen? ⟨w.heap.size + 1, 0, none⟩ = false) := fun u => (Boxed.row (V := V.drew) (g := w.heap.size + 1 + 1) (q := q) hb2 u (by omega)).frozen
      cases x with
      | true =>
        have hset := burstI_set n k B j hj (by omega) hx.symm
        rw [← hp, ← hcur] at hset
        have hsb := set_bit cur p z (by rw [← hq]; exact hz)
        rw [← hset, ← hq, ← hr, ← hs] at hsb
        obtain ⟨y, hy⟩ : ∃ y, y = z ||| UInt8.ofNat (2 ^ s) := ⟨_, rfl⟩
        obtain ⟨T, hT⟩ : ∃ T, T = 2 ^ s := ⟨_, rfl⟩
        have hT8 : T < 256 := by rw [hT]; exact Nat.pow_lt_pow_right (a := 2) (n := 8) (by omega) (by omega)
        have eT : (2 : Int) ^ s = (T : Int) := by rw [hT]; simp
        have ey : bits .or .u8 (z.toNat : Int) (T : Int) = (y.toNat : Int) := by
          have h1 := bor z (UInt8.ofNat (2 ^ s))
          rw [← hy, UInt8.toNat_ofNat', ← hT, Nat.mod_eq_of_lt hT8] at h1
          exact h1
        have wT : IntKind.u8.wrap (T : Int) = (T : Int) := by rw [IntKind.wrap_u8]; omega
        rw [← hy] at hsb
        have HE : Hid _ := HEND.out y hsb
        clear hset hsb hy hT HEND hcur hcl own hb1 hb2 hb4 hb8 hI0 hp hx hz hq hr hs
        gi_wp2
        refine region_round (S := fun w' => w'.cell? ⟨o, 0, none⟩ = some (.slice (some ⟨w.heap.size + 1 + 1, 0, none⟩) n n) ∧ w'.cell? ⟨w.heap.size + 1, 0, none⟩ = some (.int .i64 (p : Int))) (fun ⟨_, _, h⟩ => h) hfm (by kernel_rfl) ?_
        refine any_take 0 (.slice (some ⟨w.heap.size + 1 + 1, 0, none⟩) n n) rfl (by kernel_rfl) (by kernel_rfl) (by kernel_rfl) (fun _ _ _ h => h) (by rfl) (by rintro w ⟨S1, S2⟩; go_simp) ⟨c4, c2⟩ ?_
        (try simp only [Act.put, List.setIfInBounds_toArray, List.set_cons_zero, List.set_cons_succ])
        refine any_take 1 (.int .i64 (p : Int)) rfl (by kernel_rfl) (by kernel_rfl) (by kernel_rfl) (fun _ _ _ h => h) (by rfl) (by rintro w ⟨S1, S2⟩; go_simp) ⟨c4, c2⟩ ?_
        (try simp only [Act.put, List.setIfInBounds_toArray, List.set_cons_zero, List.set_cons_succ])
        refine any_take 2 (.int .i64 (q : Int)) rfl (by kernel_rfl) (by kernel_rfl) (by kernel_rfl) (fun _ _ _ h => h) (by rfl) (by rintro w ⟨S1, S2⟩; go_simp) ⟨c4, c2⟩ ?_
        (try simp only [Act.put, List.setIfInBounds_toArray, List.set_cons_zero, List.set_cons_succ])
        refine any_take 3 (.pointer (some ⟨w.heap.size + 1 + 1, q, none⟩)) rfl (by kernel_rfl) (by kernel_rfl) (by kernel_rfl) (fun _ _ _ h => h) (by rfl) (by rintro w ⟨S1, S2⟩; go_simp) ⟨c4, c2⟩ ?_
        (try simp only [Act.put, List.setIfInBounds_toArray, List.set_cons_zero, List.set_cons_succ])
        refine any_take 5 (.int .u32 1) rfl (by kernel_rfl) (by kernel_rfl) (by kernel_rfl) (fun _ _ _ h => h) (by rfl) (by rintro w ⟨S1, S2⟩; go_simp) ⟨c4, c2⟩ ?_
        (try simp only [Act.put, List.setIfInBounds_toArray, List.set_cons_zero, List.set_cons_succ])
        refine any_take 6 (.int .u8 1) rfl (by kernel_rfl) (by kernel_rfl) (by kernel_rfl) (fun _ _ _ h => h) (by rfl) (by rintro w ⟨S1, S2⟩; go_simp) ⟨c4, c2⟩ ?_
        (try simp only [Act.put, List.setIfInBounds_toArray, List.set_cons_zero, List.set_cons_succ])
        refine any_take 7 (.int .i64 (p : Int)) rfl (by kernel_rfl) (by kernel_rfl) (by kernel_rfl) (fun _ _ _ h => h) (by rfl) (by rintro w ⟨S1, S2⟩; go_simp) ⟨c4, c2⟩ ?_
        (try simp only [Act.put, List.setIfInBounds_toArray, List.set_cons_zero, List.set_cons_succ])
        refine any_take 8 (.int .i64 (r : Int)) rfl (by kernel_rfl) (by kernel_rfl) (by kernel_rfl) (fun _ _ _ h => h) (by rfl) (by rintro w ⟨S1, S2⟩; go_simp) ⟨c4, c2⟩ ?_
        (try simp only [Act.put, List.setIfInBounds_toArray, List.set_cons_zero, List.set_cons_succ])
        refine any_take 9 (.int .i64 (s : Int)) rfl (by kernel_rfl) (by kernel_rfl) (by kernel_rfl) (fun _ _ _ h => h) (by rfl) (by rintro w ⟨S1, S2⟩; go_simp) ⟨c4, c2⟩ ?_
        (try simp only [Act.put, List.setIfInBounds_toArray, List.set_cons_zero, List.set_cons_succ])
        refine any_take 10 (.int .u8 (T : Int)) rfl (by kernel_rfl) (by kernel_rfl) (by kernel_rfl) (fun _ _ _ h => h) (by rfl) (by rintro w ⟨S1, S2⟩; go_simp) ⟨c4, c2⟩ ?_
        (try simp only [Act.put, List.setIfInBounds_toArray, List.set_cons_zero, List.set_cons_succ])
        refine any_one 4 rfl (by kernel_rfl) (by rfl) (fun K hK => ?_)
        go_simp
        refine hK.out _ _ ⟨c4, c2⟩ (fun _ => ?_)
        clear hK K
        (try simp only [Act.put, List.setIfInBounds_toArray, List.set_cons_zero, List.set_cons_succ])
        refine any_take 11 (.int .u8 (y.toNat : Int)) rfl (by kernel_rfl) (by kernel_rfl) (by kernel_rfl) (fun _ _ _ h => h) (by rfl) (by rintro w ⟨S1, S2⟩; go_simp) ⟨c4, c2⟩ ?_
        (try simp only [Act.put, List.setIfInBounds_toArray, List.set_cons_zero, List.set_cons_succ])
        refine any_take 12 (.pointer (some ⟨w.heap.size + 1 + 1, q, none⟩)) rfl (by kernel_rfl) (by kernel_rfl) (by kernel_rfl) (fun _ _ _ h => h) (by rfl) (by rintro w ⟨S1, S2⟩; go_simp) ⟨c4, c2⟩ ?_
        (try simp only [Act.put, List.setIfInBounds_toArray, List.set_cons_zero, List.set_cons_succ])
        refine any_one 13 rfl (by kernel_rfl) (by rfl) (fun K hK => ?_)
        go_simp
        refine hK.out _ _ (SAFE.out _) (fun _ => ?_)
        clear hK K
        (try simp only [Act.put, List.setIfInBounds_toArray, List.set_cons_zero, List.set_cons_succ])
        refine wpAnyH_done (by kernel_rfl) ?_ _
        have c2' := (SAFE.out (.int .u8 (y.toNat : Int))).2
        have f2' := SAFF.out (.int .u8 (y.toNat : Int))
        gi_wp2
        exact ⟨HE.out.1.from _, HE.out.2⟩
      | false =>
        have hskip := burstI_skip n k B j (by rw [← hx]; simp)
        have hset : cur.set q z = cur := by
          apply List.ext_getElem?
          intro i
          by_cases h : q = i
          · subst h; rw [List.getElem?_set_self (by omega), hz]
          · rw [List.getElem?_set_ne h]
        have hsb : bitsOf (cur.set q z) = burstI n k B (j + 1) := by rw [hset, hskip, hcur]
        have ey : bits .or .u8 (z.toNat : Int) 0 = (z.toNat : Int) := by
          have h1 := bor z 0
          rw [show z ||| 0 = z from UInt8.or_zero] at h1
          exact h1
        have HE : Hid _ := HEND.out z hsb
        clear hset hsb hskip HEND hcur hcl own hb1 hb2 hb4 hb8 hI0 hp hx hz hq hr hs
        gi_wp2
        refine region_round (S := fun w' => w'.cell? ⟨o, 0, none⟩ = some (.slice (some ⟨w.heap.size + 1 + 1, 0, none⟩) n n) ∧ w'.cell? ⟨w.heap.size + 1, 0, none⟩ = some (.int .i64 (p : Int))) (fun ⟨_, _, h⟩ => h) hfm (by kernel_rfl) ?_
        refine any_take 0 (.slice (some ⟨w.heap.size + 1 + 1, 0, none⟩) n n) rfl (by kernel_rfl) (by kernel_rfl) (by kernel_rfl) (fun _ _ _ h => h) (by rfl) (by rintro w ⟨S1, S2⟩; go_simp) ⟨c4, c2⟩ ?_
        (try simp only [Act.put, List.setIfInBounds_toArray, List.set_cons_zero, List.set_cons_succ])
        refine any_take 1 (.int .i64 (p : Int)) rfl (by kernel_rfl) (by kernel_rfl) (by kernel_rfl) (fun _ _ _ h => h) (by rfl) (by rintro w ⟨S1, S2⟩; go_simp) ⟨c4, c2⟩ ?_
        (try simp only [Act.put, List.setIfInBounds_toArray, List.set_cons_zero, List.set_cons_succ])
        refine any_take 2 (.int .i64 (q : Int)) rfl (by kernel_rfl) (by kernel_rfl) (by kernel_rfl) (fun _ _ _ h => h) (by rfl) (by rintro w ⟨S1, S2⟩; go_simp) ⟨c4, c2⟩ ?_
        (try simp only [Act.put, List.setIfInBounds_toArray, List.set_cons_zero, List.set_cons_succ])
        refine any_take 3 (.pointer (some ⟨w.heap.size + 1 + 1, q, none⟩)) rfl (by kernel_rfl) (by kernel_rfl) (by kernel_rfl) (fun _ _ _ h => h) (by rfl) (by rintro w ⟨S1, S2⟩; go_simp) ⟨c4, c2⟩ ?_
        (try simp only [Act.put, List.setIfInBounds_toArray, List.set_cons_zero, List.set_cons_succ])
        refine any_take 5 (.int .u32 0) rfl (by kernel_rfl) (by kernel_rfl) (by kernel_rfl) (fun _ _ _ h => h) (by rfl) (by rintro w ⟨S1, S2⟩; go_simp) ⟨c4, c2⟩ ?_
        (try simp only [Act.put, List.setIfInBounds_toArray, List.set_cons_zero, List.set_cons_succ])
        refine any_take 6 (.int .u8 0) rfl (by kernel_rfl) (by kernel_rfl) (by kernel_rfl) (fun _ _ _ h => h) (by rfl) (by rintro w ⟨S1, S2⟩; go_simp) ⟨c4, c2⟩ ?_
        (try simp only [Act.put, List.setIfInBounds_toArray, List.set_cons_zero, List.set_cons_succ])
        refine any_take 7 (.int .i64 (p : Int)) rfl (by kernel_rfl) (by kernel_rfl) (by kernel_rfl) (fun _ _ _ h => h) (by rfl) (by rintro w ⟨S1, S2⟩; go_simp) ⟨c4, c2⟩ ?_
        (try simp only [Act.put, List.setIfInBounds_toArray, List.set_cons_zero, List.set_cons_succ])
        refine any_take 8 (.int .i64 (r : Int)) rfl (by kernel_rfl) (by kernel_rfl) (by kernel_rfl) (fun _ _ _ h => h) (by rfl) (by rintro w ⟨S1, S2⟩; go_simp) ⟨c4, c2⟩ ?_
        (try simp only [Act.put, List.setIfInBounds_toArray, List.set_cons_zero, List.set_cons_succ])
        refine any_take 9 (.int .i64 (s : Int)) rfl (by kernel_rfl) (by kernel_rfl) (by kernel_rfl) (fun _ _ _ h => h) (by rfl) (by rintro w ⟨S1, S2⟩; go_simp) ⟨c4, c2⟩ ?_
        (try simp only [Act.put, List.setIfInBounds_toArray, List.set_cons_zero, List.set_cons_succ])
        refine any_take 10 (.int .u8 0) rfl (by kernel_rfl) (by kernel_rfl) (by kernel_rfl) (fun _ _ _ h => h) (by rfl) (by rintro w ⟨S1, S2⟩; go_simp) ⟨c4, c2⟩ ?_
        (try simp only [Act.put, List.setIfInBounds_toArray, List.set_cons_zero, List.set_cons_succ])
        refine any_one 4 rfl (by kernel_rfl) (by rfl) (fun K hK => ?_)
        go_simp
        refine hK.out _ _ ⟨c4, c2⟩ (fun _ => ?_)
        clear hK K
        (try simp only [Act.put, List.setIfInBounds_toArray, List.set_cons_zero, List.set_cons_succ])
        refine any_take 11 (.int .u8 (z.toNat : Int)) rfl (by kernel_rfl) (by kernel_rfl) (by kernel_rfl) (fun _ _ _ h => h) (by rfl) (by rintro w ⟨S1, S2⟩; go_simp) ⟨c4, c2⟩ ?_
        (try simp only [Act.put, List.setIfInBounds_toArray, List.set_cons_zero, List.set_cons_succ])
        refine any_take 12 (.pointer (some ⟨w.heap.size + 1 + 1, q, none⟩)) rfl (by kernel_rfl) (by kernel_rfl) (by kernel_rfl) (fun _ _ _ h => h) (by rfl) (by rintro w ⟨S1, S2⟩; go_simp) ⟨c4, c2⟩ ?_
        (try simp only [Act.put, List.setIfInBounds_toArray, List.set_cons_zero, List.set_cons_succ])
        refine any_one 13 rfl (by kernel_rfl) (by rfl) (fun K hK => ?_)
        go_simp
        refine hK.out _ _ (SAFE.out _) (fun _ => ?_)
        clear hK K
        (try simp only [Act.put, List.setIfInBounds_toArray, List.set_cons_zero, List.set_cons_succ])
        refine wpAnyH_done (by kernel_rfl) ?_ _
        have c2' := (SAFE.out (.int .u8 (z.toNat : Int))).2
        have f2' := SAFF.out (.int .u8 (z.toNat : Int))
        gi_wp2
        exact ⟨HE.out.1.from _, HE.out.2⟩
    · have g0 : (8 * (n : Int)) ≤ (p : Int) := by omega
      have HX : Hid (KeepsFrom W0.heap.size V V ∧ BX w n k B o V) := ⟨KeepsFrom.refl _ _, ⟨cur, by rw [hcur, ← burst_end n k B j (by omega) (32 - j)]; congr 1; omega, hcl, own⟩, hb4, hb8⟩
      clear hcur hcl own hb1 hb2 hb4 hb8 hI0 hp hx
      gi_wp2
      exact ⟨HX.out.1, rfl, HX.out.2⟩
  case iter =>
    intro lp W1 hB1 hs1 hl Bk Bx kB hY kX hBk
    exact each32_in 8 lp _ _ (o + 1) B hB (BI w n k B o) (fun j V h => ⟨h.2.2.2.2.2.1.cell, h.2.2.2.2.2.2.1.cell, h.2.2.2.2.1.cell⟩) Bk Bx hY W1 hBk (hI0.below hB1)
  case done =>
    rintro D j V hD rfl ⟨_, _, ⟨cur, hcur, hcl, own⟩, hb4, _, _, _, hb8⟩ hK
    have c4 := hb4.cell
    have HK : Hid (V.heap[D]? = some (.deferred (some []))) := hK
    clear hb4 hI0 hK
    gi_wp2
    refine ⟨by simp, .inl ⟨_, _, rfl, run_takeDeferred HK.out, ?_⟩⟩
    refine ⟨_, results_tmp rfl _ _ _, w.heap.size + 1 + 1, cur, hcur, hcl, rfl, ?_, ?_⟩
    · exact own_put own _ HK.out rfl
    · exact hb8.trans (belowK_b (w := w) (Nat.le_refl _) V D _ _ (by have := HW0.out; omega) HK.out rfl rfl)
  case stop =>
    rintro D c j V hD ⟨rfl, ⟨cur, hcur, hcl, own⟩, hb4, hb8⟩ hK
    have c4 := hb4.cell
    have HK : Hid (V.heap[D]? = some (.deferred (some []))) := hK
    clear hb4 hI0 hK
    gi_wp2
    refine ⟨by simp, .inl ⟨_, _, rfl, run_takeDeferred HK.out, ?_⟩⟩
    refine ⟨_, results_tmp rfl _ _ _, w.heap.size + 1 + 1, cur, hcur, hcl, rfl, ?_, ?_⟩
    · exact own_put own _ HK.out rfl
    · exact hb8.trans (belowK_b (w := w) (Nat.le_refl _) V D _ _ (by have := HW0.out; omega) HK.out rfl rfl)

set_option maxHeartbeats 800000 in
set_option maxRecDepth 20000 in
theorem burst_neg (w : World) (n : Nat) (k : Int) (B : Nat) (hn : n ≤ 4096) (hk : k < 0) :
    Calls Try.prog 19 #[.int .i64 (n : Int), .int .i64 k, .int .u32 (B : Int)] w fun e w' => ∃ g, e = .returned (.slice (some ⟨g, 0, none⟩) n n) ∧ w'.ownsRow w.heap.size 5 1 (.slice (some ⟨g, 0, none⟩) n n) n ((List.replicate n (0 : UInt8)).map cellOf) ∧ Below w.heap.size w w' := by
  obtain ⟨i5, hi, hz0, hz1, hz2⟩ := info_parts Try.info5
  have d1 : decide ((n : Int) < 0) = false := by simp
  have d2 : decide ((4096 : Int) < (n : Int)) = false := by simp; omega
  have d3 : decide (k < 0) = true := by simp; omega
  go_enter Try.func19, Try.ntmps19
  go_wp2_with (at_make; refine wpList_make_full _ rfl _ _ 23 rfl w.heap.size 5 i5 (.int .u8 0) 1 Try.underlying23 hi hz0 hz1 .i64 .i64 _ _ n rfl rfl rfl rfl ?b2 ?b3 ?b4 ?_)
  case b2 => rw [hz2]; omega
  case b3 => unfold maxLen; omega
  case b4 => simp; omega
  intro w1 hown hgrow
  have ho0 : w1.ownsRow w.heap.size 5 1 (.slice (some ⟨w.heap.size + 1 + 1, 0, none⟩) n n) n ((List.replicate n (0 : UInt8)).map cellOf) := by rw [← made_bytes]; simpa using hown
  have bx2 : Boxed w1 (w.heap.size + 1) 3 (.int .i64 k) := by
    have := Boxed.new (w.alloc (.cells #[.int .i64 (n : Int)] 3)) 3 (.int .i64 k)
    rw [World.size_alloc] at this
    exact this.kept hgrow (by simp)
  have hbel : Below w.heap.size w w1 := (((Below.refl _ w).alloc (Nat.le_refl _) _).alloc (by simp) _).grown hgrow (by simp; omega) (by intro k h; cases h)
  have cK := (bx2.alloc (.cells #[.slice (some ⟨w.heap.size + 1 + 1, 0, none⟩) n n] 23)).cell
  have HE : Hid (_ ∧ _) := ⟨ho0.alloc (.cells #[.slice (some ⟨w.heap.size + 1 + 1, 0, none⟩) n n] 23), hbel.alloc hbel.size (.cells #[.slice (some ⟨w.heap.size + 1 + 1, 0, none⟩) n n] 23)⟩
  clear hown hgrow hi hz0 hz1 hz2 i5 bx2 ho0 hbel
  go_wp2
  go_ret
  exact ⟨_, rfl, HE.out.1, HE.out.2⟩

set_option maxHeartbeats 400000 in
set_option maxRecDepth 20000 in
theorem burst_no (w : World) (n k : Int) (B : Nat) (hn : n < 0 ∨ 4096 < n) : Calls Try.prog 19 #[.int .i64 n, .int .i64 k, .int .u32 (B : Int)] w fun e w' => e = .returned (.slice none 0 0) ∧ Below w.heap.size w w' := by
  have hb : Below w.heap.size w ((w.alloc (.cells #[.int .i64 n] 3)).alloc (.cells #[.int .i64 k] 3)) := ((Below.refl _ w).alloc (Nat.le_refl _) _).alloc (by simp) _
  have HB : Hid (Below w.heap.size w ((w.alloc (.cells #[.int .i64 n] 3)).alloc (.cells #[.int .i64 k] 3))) := hb
  clear hb
  by_cases h1 : n < 0
  · go_enter Try.func19, Try.ntmps19
    go_wp2
    go_ret
    exact ⟨rfl, HB.out⟩
  · have h2 : 4096 < n := by omega
    have d1 : decide (n < 0) = false := by simp; omega
    go_enter Try.func19, Try.ntmps19
    go_wp2
    go_ret
    exact ⟨rfl, HB.out⟩

theorem burst_ok : CburstOk := by
  intro w n k B hB
  by_cases hn : n < 0 ∨ 4096 < n
  · refine (burst_no w n k B hn).mono ?_
    rintro e w' ⟨rfl, hb⟩
    exact ⟨none, 0, [], by unfold burstIs; rw [if_pos hn]; exact rfl, rfl, Sees.nil' _, hb, World.ownsRow_nil _ _ _ _⟩
  · obtain ⟨m, rfl⟩ : ∃ m : Nat, n = (m : Int) := ⟨n.toNat, by omega⟩
    by_cases hk : k < 0
    · refine (burst_neg w m k B (by omega) hk).mono ?_
      rintro e w' ⟨g, rfl, own, hb⟩
      obtain ⟨d, cd, he, hs⟩ := Sees.of_own own
      have hl : (List.replicate m (0 : UInt8)).length = m := by simp
      rw [hl] at he
      cases he
      refine ⟨_, _, List.replicate m 0, ?_, by rw [hl], hs, hb, ?_⟩
      · have h2 : burstIs (m : Int) k B (List.replicate m 0) := by
          unfold burstIs burstZ
          rw [if_neg hn, if_pos hk]
          exact bits_noughts m
        exact h2
      · rw [hl]; exact own
    · obtain ⟨q, rfl⟩ : ∃ q : Nat, k = (q : Int) := ⟨k.toNat, by omega⟩
      refine (burst_at w m q B (by omega) hB).mono ?_
      rintro e w' ⟨g, r, hr, hl, rfl, own, hb⟩
      subst hl
      obtain ⟨d, cd, he, hs⟩ := Sees.of_own own
      cases he
      refine ⟨_, _, r, ?_, rfl, hs, hb, own⟩
      have h2 : burstIs (r.length : Int) (q : Int) B r := by
        unfold burstIs burstZ
        rw [if_neg hn, if_neg (by omega)]
        exact hr.out
      exact h2
end Go.Proofs.Ytoggjpkbbncbbaa
