/-
  The sum, over the bits that each hands over.
-/
import Derived.Test.YtgnllmcgebonpaaCrcEach
namespace Go.Proofs.Ytgnllmcgebonpaa
open Go.ChangeShapes Go.WideShapes Go.ChangeAt Go.RowKit Go.Shelf
attribute [local go_sem] Oper.semAt_some

/-- Between two rounds: the sum of the bits so far lies in its box; all other boxes stand. -/
def SI (w : World) (a : Option Addr) (ca : Nat) (l : List UInt8) (W P s0 : Nat) (k : Nat) (V : World) : Prop :=
  Boxed V w.heap.size 3 (.int .i64 (W : Int)) ∧ Boxed V (w.heap.size + 1) 48 (.int .u32 (P : Int)) ∧ Boxed V (w.heap.size + 1 + 1) 48 (.int .u32 ((runS W P s0 ((bitsOf l).take k) : Nat) : Int)) ∧
    Boxed V (w.heap.size + 1 + 1 + 1) 22 (.slice a l.length ca) ∧ Boxed V (w.heap.size + 1 + 1 + 1 + 1) 3 (.int .i64 8) ∧ Below w.heap.size w V
theorem SI.turned {w : World} {a : Option Addr} {ca : Nat} {l : List UInt8} {W P s0 k B : Nat} {V V' : World} (h : SI w a ca l W P s0 k V) (hB : w.heap.size ≤ B) (ht : Turned B V V') : SI w a ca l W P s0 k V' := by
  obtain ⟨h1, h2, h3, h4, h5, h6⟩ := h
  exact ⟨ht.boxed h1, ht.boxed h2, ht.boxed h3, ht.boxed h4, ht.boxed h5, ht.below h6 hB⟩
theorem SI.below {w : World} {a : Option Addr} {ca : Nat} {l : List UInt8} {W P s0 k : Nat} {V V' : World} (h : SI w a ca l W P s0 k V) (hb : Below V.heap.size V V') : SI w a ca l W P s0 k V' := by
  obtain ⟨h1, h2, h3, h4, h5, h6⟩ := h
  exact ⟨Boxed.below h1 hb, Boxed.below h2 hb, Boxed.below h3 hb, Boxed.below h4 hb, Boxed.below h5 hb, h6.trans (hb.mono h6.size)⟩
theorem SI.next {w : World} {a : Option Addr} {ca : Nat} {l : List UInt8} {W P s0 k : Nat} {V : World} (h : SI w a ca l W P s0 k V) (v : Nat) (hv : v = runS W P s0 ((bitsOf l).take (k + 1))) :
    SI w a ca l W P s0 (k + 1) (V.setCell ⟨w.heap.size + 1 + 1, 0, none⟩ (.int .u32 (v : Int))) := by
  obtain ⟨h1, h2, h3, h4, h5, h6⟩ := h
  rw [hv]
  exact ⟨h1.other (by omega) _, h2.other (by omega) _, h3.set _, h4.other (by omega) _, h5.other (by omega) _, h6.setCell (p := ⟨w.heap.size + 1 + 1, 0, none⟩) (by show w.heap.size ≤ w.heap.size + 1 + 1; omega) _⟩

set_option maxRecDepth 100000 in
set_option maxHeartbeats 4000000 in
set_option maxRecDepth 20000 in
theorem sum_ok (w : World) (a : Option Addr) (ca : Nat) (l : List UInt8) (W P s0 : Nat) (ha : Sees w a ca l) (hll : l.length ≤ 140737488355328) (hW8 : 8 ≤ W) (hW32 : W ≤ 32) (hP : P < 2 ^ W) (hs : s0 < 2 ^ W) :
    Calls Try.prog 68 #[.slice a l.length ca, .int .i64 (W : Int), .int .u32 (P : Int), .int .u32 (s0 : Int)] w fun e w' => e = .returned (.int .u32 ((crcL W P s0 l : Nat) : Int)) ∧ Below w.heap.size w w' := by
  have HA : Hid (Sees w a ca l) := ha
  have HP : Hid (P < 2 ^ W) := hP
  have HS0 : Hid (s0 < 2 ^ W) := hs
  clear ha hP hs
  refine (callsIn_wide (n := 9)).1 ?_
  refine callsIn_of_wp_marks Try.func68 rfl trivial ?_ rfl
  simp only [Try.ntmps68, List.size_toArray, List.length_cons, List.length_nil, Nat.reduceAdd, Nat.reduceSub, Array.replicate_succ, Array.replicate_zero, List.push_toArray, List.append_toArray, List.nil_append, List.cons_append]
  have hmk := each8_made _ a l.length ca rfl (((w.alloc (.cells #[.int .i64 (W : Int)] 3)).alloc (.cells #[.int .u32 (P : Int)] 48)).alloc (.cells #[.int .u32 (s0 : Int)] 48))
  rw [World.size_alloc, World.size_alloc, World.size_alloc] at hmk
  gi_wp2
  refine ⟨trivial, (callsIn_wide.2 hmk).mono ?_⟩
  rintro e w' ⟨rfl, hw'⟩
  rw [hw']
  clear hmk hw' w'
  gi_wp2
  obtain ⟨W0, hW0⟩ : ∃ W0, W0 = ((((w.alloc (.cells #[.int .i64 (W : Int)] 3)).alloc (.cells #[.int .u32 (P : Int)] 48)).alloc (.cells #[.int .u32 (s0 : Int)] 48)).alloc (.cells #[.slice a l.length ca] 22)).alloc (.cells #[.int .i64 8] 3) := ⟨_, rfl⟩
  have hsz : W0.heap.size = w.heap.size + 5 := by rw [hW0]; simp
  have hB0 : Below w.heap.size w W0 := by rw [hW0]; exact (((((Below.refl _ w).alloc (Nat.le_refl _) _).alloc (by simp) _).alloc (by simp; omega) _).alloc (by simp; omega) _).alloc (by simp; omega) _
  have hI0 : SI w a ca l W P s0 0 W0 := by
    refine ⟨?_, ?_, ?_, ?_, ?_, hB0⟩
    · rw [hW0]; exact ((((Boxed.new w 3 _).alloc _).alloc _).alloc _).alloc _
    · have := Boxed.new (w.alloc (.cells #[.int .i64 (W : Int)] 3)) 48 (.int .u32 (P : Int))
      rw [World.size_alloc] at this
      rw [hW0]; exact ((this.alloc _).alloc _).alloc _
    · have := Boxed.new ((w.alloc (.cells #[.int .i64 (W : Int)] 3)).alloc (.cells #[.int .u32 (P : Int)] 48)) 48 (.int .u32 (s0 : Int))
      rw [World.size_alloc, World.size_alloc] at this
      rw [hW0]; exact (this.alloc _).alloc _
    · have := Boxed.new (((w.alloc (.cells #[.int .i64 (W : Int)] 3)).alloc (.cells #[.int .u32 (P : Int)] 48)).alloc (.cells #[.int .u32 (s0 : Int)] 48)) 22 (.slice a l.length ca)
      rw [World.size_alloc, World.size_alloc, World.size_alloc] at this
      rw [hW0]; exact this.alloc _
    · have := Boxed.new ((((w.alloc (.cells #[.int .i64 (W : Int)] 3)).alloc (.cells #[.int .u32 (P : Int)] 48)).alloc (.cells #[.int .u32 (s0 : Int)] 48)).alloc (.cells #[.slice a l.length ca] 22)) 3 (.int .i64 8)
      rw [World.size_alloc, World.size_alloc, World.size_alloc, World.size_alloc] at this
      rw [hW0]; exact this
  rw [← hW0]
  clear hW0
  refine range_pre 71 #[.pointer (some ⟨w.heap.size + 1 + 1 + 1, 0, none⟩), .pointer (some ⟨w.heap.size + 1 + 1 + 1 + 1, 0, none⟩)] rfl (enters_of Try.func71 (by kernel_rfl) rfl)
    (fun x : Bool => #[.int .u32 (x.toNat : Int)]) (fun _ => rfl) (SI w a ca l W P s0) (fun k x V => SI w a ca l W P s0 k V ∧ (bitsOf l)[k]? = some x) (fun k _ => k + 1) (fun _ _ _ => False)
    (fun k => k = 8 * l.length) ?fI ?fP (fun _ _ _ _ h _ => h)
    (fun x => { tmps := #[.slice a l.length ca, .int .i64 (W : Int), .int .u32 (P : Int), .int .u32 (s0 : Int), undef, .pointer (some ⟨w.heap.size, 0, none⟩), .pointer (some ⟨w.heap.size + 1, 0, none⟩), undef, .int .u32 0, .pointer (some ⟨w.heap.size + 1 + 1, 0, none⟩), .int .u32 (x.toNat : Int), undef, undef, .int .u32 (s0 : Int), .slice a l.length ca, .func (.func 71) #[] #[.pointer (some ⟨w.heap.size + 1 + 1 + 1, 0, none⟩), .pointer (some ⟨w.heap.size + 1 + 1 + 1 + 1, 0, none⟩)], .int .u32 (x.toNat : Int), undef, undef, undef, undef, undef, undef, undef, undef, undef, undef, undef, undef, undef, undef], defers := [] })
    ?assign ?body ?iter (fun _ _ _ _ h _ => h) ?done (fun _ _ _ _ _ h _ => h.elim)
  case fI => exact fun k V V' h ht => h.turned (by omega) ht
  case fP => exact fun k x V V' ⟨h1, h2⟩ ht => ⟨h1.turned (by omega) ht, h2⟩
  case assign =>
    intro lp x V K hK
    gi_wp2
    exact hK
  case body =>
    rintro lp k x V ⟨hSI, hbit⟩
    have hst := runS_take W P s0 (bitsOf l) k x hbit
    obtain ⟨sv, hsv⟩ : ∃ sv, sv = runS W P s0 ((bitsOf l).take k) := ⟨_, rfl⟩
    have hlt : sv < 2 ^ W := by rw [hsv]; exact runS_lt W P HP.out _ s0 HS0.out
    have hc1 := hSI.1.cell
    have hc2 := hSI.2.1.cell
    have hc3 := hSI.2.2.1.cell
    have hf3 := hSI.2.2.1.frozen
    rw [← hsv] at hst hc3
    have hup := up32_ok V W sv (by omega) hW32 hlt
    obtain ⟨tb, htb⟩ : ∃ b, b = sv.testBit (W - 1) := ⟨_, rfl⟩
    obtain ⟨u, hu⟩ : ∃ u, u = sv * 2 % 2 ^ W := ⟨_, rfl⟩
    have hul : u < 2 ^ W := by rw [hu]; exact Nat.mod_lt _ (Nat.two_pow_pos W)
    have h32 : 2 ^ W ≤ 4294967296 := by have := Nat.pow_le_pow_right (n := 2) (i := W) (j := 32) (by omega) hW32; omega
    have hu32 : u < 4294967296 := by omega
    have hP32 : P < 4294967296 := by have := HP.out; omega
    rw [← htb, ← hu] at hup
    rw [stepS, ← htb, ← hu] at hst
    obtain ⟨tn, htn⟩ : ∃ n : Nat, n = tb.toNat := ⟨_, rfl⟩
    obtain ⟨xn, hxn⟩ : ∃ n : Nat, n = x.toNat := ⟨_, rfl⟩
    rw [← htn] at hup
    have HSI : Hid (SI w a ca l W P s0 k V) := hSI
    have HEND : Hid (∀ v : Nat, v = runS W P s0 ((bitsOf l).take (k + 1)) → KeepsFrom W0.heap.size V (V.setCell ⟨w.heap.size + 1 + 1, 0, none⟩ (.int .u32 (v : Int))) ∧ SI w a ca l W P s0 (k + 1) (V.setCell ⟨w.heap.size + 1 + 1, 0, none⟩ (.int .u32 (v : Int)))) := fun v hv => ⟨(KeepsOthers.setCell _ _ _).from _, HSI.out.next v hv⟩
    have hne : (tb != x) = decide (tn ≠ xn) := by rw [htn, hxn]; cases tb <;> cases x <;> rfl
    rw [hne] at hst
    show Code.wpIn _ _ _ _ (roundEnds W0.heap.size (SI w a ca l W P s0) (fun _ _ _ => False) (k + 1) V) _ _
    rw [← hxn]
    by_cases heq : tn = xn
    · have hst1 : u = runS W P s0 ((bitsOf l).take (k + 1)) := by rw [hst]; simp [heq]
      have HE := HEND.out u hst1
      have HE2 : Hid (KeepsFrom W0.heap.size V (V.setCell ⟨w.heap.size + 1 + 1, 0, none⟩ (.int .u32 (u : Int))) ∧ SI w a ca l W P s0 (k + 1) (V.setCell ⟨w.heap.size + 1 + 1, 0, none⟩ (.int .u32 (u : Int)))) := HE
      have dq : (tn : Int) = (xn : Int) := by omega
      clear hst hst1 HE HEND hSI hbit hsv htb hu htn hxn hne hul h32 hlt hI0
      gi_wp2
      refine ⟨trivial, ((callsIn_wide.2 hup).inRound lp).mono ?_⟩
      rintro e w5 ⟨rfl, rfl⟩
      clear hup
      gi_wp2
      exact HE2.out
    · obtain ⟨v, hv⟩ : ∃ v, v = u ^^^ P := ⟨_, rfl⟩
      have hst1 : v = runS W P s0 ((bitsOf l).take (k + 1)) := by rw [hst, hv]; simp [heq]
      have HE := HEND.out v hst1
      have ev : bits .xor .u32 (u : Int) (P : Int) = (v : Int) := by rw [hv]; exact u32_xor_nat u P (by omega) (by omega)
      have HE2 : Hid (KeepsFrom W0.heap.size V (V.setCell ⟨w.heap.size + 1 + 1, 0, none⟩ (.int .u32 (v : Int))) ∧ SI w a ca l W P s0 (k + 1) (V.setCell ⟨w.heap.size + 1 + 1, 0, none⟩ (.int .u32 (v : Int)))) := HE
      have dq : ¬ ((tn : Int) = (xn : Int)) := by omega
      clear hst hst1 HE HEND hSI hbit hsv htb hu htn hxn hne hul h32 hlt hI0 hv
      gi_wp2
      refine ⟨trivial, ((callsIn_wide.2 hup).inRound lp).mono ?_⟩
      rintro e w5 ⟨rfl, rfl⟩
      clear hup
      gi_wp2
      exact HE2.out
  case iter =>
    intro lp W1 hB1 hs1 hl Bk Bx kB hY kX hBk
    exact each8_in 8 lp _ _ a ca l hll (SI w a ca l W P s0) (fun k V h => ⟨h.2.2.2.1.cell, h.2.2.2.2.1.cell, HA.out.below h.2.2.2.2.2⟩) Bk Bx hY W1 hBk (hI0.below hB1)
  case done =>
    rintro D k V hD rfl hSI hK
    have hc3 := hSI.2.2.1.cell
    have hbel := hSI.2.2.2.2.2
    have hF : runS W P s0 ((bitsOf l).take (8 * l.length)) = crcL W P s0 l := by
      rw [← bitsOf_length l, List.take_length]; rfl
    rw [hF] at hc3
    have HK : Hid (V.heap[D]? = some (.deferred (some []))) := hK
    clear hSI hF hI0
    gi_wp2
    refine ⟨by simp, .inl ⟨_, _, rfl, run_takeDeferred HK.out, ?_⟩⟩
    refine ⟨_, results_tmp rfl _ _ _, rfl, ?_⟩
    exact hbel.trans (belowK_b (w := w) (Nat.le_refl _) V D _ _ (by omega) HK.out rfl rfl)
end Go.Proofs.Ytgnllmcgebonpaa
