/-
  The contracts of holds and of fullest.
-/
import Derived.Test.YteehkekmaikeiaaBufP
namespace Go.Proofs.Yteehkekmaikeiaa
open Go.ChangeShapes Go.WideShapes Go.ChangeAt Go.RowKit

/-- The closure of holds. -/
theorem same_ok (W : World) (a b : Option Addr) (ca cb : Nat) (l x : List UInt8) (e i : Int) (B : Nat) (ha : Sees W a ca l) (hx : Sees W b cb x) (hB : W.heap[B]? = some (.cells #[.slice b x.length cb] 22 (0, 0))) :
    Calls Try.prog 30 #[.agg #[.int .i64 e, .int .i64 i, .slice a l.length ca], .pointer (some ⟨B, 0, none⟩)] W fun e w' => e = .returned (.bool (l == x)) ∧ Below W.heap.size W w' := by
  obtain ⟨V, hV⟩ : ∃ V, V = W.alloc (.cells #[.int .i64 e, .int .i64 i, .slice a l.length ca] 57) := ⟨_, rfl⟩
  have hb : Below W.heap.size W V := by rw [hV]; exact (Below.refl _ _).alloc (Nat.le_refl _) _
  have K : Hid (Calls Try.prog 31 #[.slice a l.length ca, .slice b x.length cb] V fun e w' => e = .returned (.bool (l == x)) ∧ w' = V) := equal_ok V a b ca cb l x (ha.below hb) (hx.below hb)
  have c0 := cell_of_row _ _ 0 _ _ _ ((hb.block B (Array.getElem?_eq_some_iff.1 hB).1).trans hB)
  rw [hV] at c0
  have HV : Hid (V = W.alloc (.cells #[.int .i64 e, .int .i64 i, .slice a l.length ca] 57)) := hV
  have HB : Hid (Below W.heap.size W V) := hb
  clear ha hx hB hV hb
  go_enter Try.func30, Try.ntmps30
  go_wp2_with fail
  rw [← HV.out]
  refine K.out.mono ?_
  rintro e w' ⟨rfl, rfl⟩
  go_wp2
  go_ret
  exact ⟨rfl, HB.out⟩

def findL (ss : List Sl) (x : List UInt8) : Bool := ss.any fun y => y.1.b == x
theorem found {ss : List Sl} {x : List UInt8} {j : Nat} {y : Sl} (hy : ss[j]? = some y) (h : (y.1.b == x) = true) : findL ss x = true := List.any_eq_true.2 ⟨y, List.mem_of_getElem? hy, h⟩
theorem find_none {ss : List Sl} {x : List UInt8} (h : ∀ t y, t < ss.length → ss[t]? = some y → (y.1.b == x) = false) : findL ss x = false := by
  rw [findL, List.any_eq_false]
  intro y hy
  obtain ⟨t, ht⟩ := List.mem_iff_getElem?.1 hy
  rw [h t y (List.getElem?_eq_some_iff.1 ht).1 ht]
  simp

set_option maxHeartbeats 1600000 in
set_option maxRecDepth 20000 in
theorem index_ok (w : World) (v : Value) (ss : List Sl) (h : Row E57 w v ss) (hs : Seen w ss) (hl : ss.length ≤ 1000) (b : Option Addr) (cb : Nat) (x : List UInt8) (B : Nat) (hx : Sees w b cb x) (hB : w.heap[B]? = some (.cells #[.slice b x.length cb] 22 (0, 0))) :
    Calls Try.prog 35 #[v, .func (.func 30) #[] #[.pointer (some ⟨B, 0, none⟩)]] w fun e w' => ∃ z : Int, e = .returned (.int .i64 z) ∧ decide (0 ≤ z) = findL ss x ∧ Below w.heap.size w w' := by
  obtain ⟨a, cap, rfl, hcap, hmax, hnil, haq, _⟩ := h.shape
  have HH : Hid (∀ W, Below w.heap.size w W → Row E57 W (.slice a ss.length cap) ss ∧ Seen W ss ∧ Sees W b cb x ∧ W.heap[B]? = some (.cells #[.slice b x.length cb] 22 (0, 0))) := fun W hb => ⟨h.below hb, hs.below hb, hx.below hb, (hb.block B (Array.getElem?_eq_some_iff.1 hB).1).trans hB⟩
  have hcm : cap ≤ 9223372036854775807 := by unfold maxLen at hmax; omega
  obtain ⟨N, hN⟩ : ∃ N, N = ss.length := ⟨_, rfl⟩
  rw [← hN] at hl hcap HH ⊢
  have HN : Hid (N = ss.length) := hN
  clear h hs hx hB hnil haq hmax hN
  go_enter Try.func35, Try.ntmps35
  go_wp2
  go_loopw [8] (fun s8 wr => ∃ j : Nat, s8 = .int .i64 (j : Int) ∧ j ≤ N ∧ (∀ t y, t < j → ss[t]? = some y → (y.1.b == x) = false) ∧ Below w.heap.size w wr) (fun s8 _ => N - (intOf s8).toNat)
  case atStart => exact ⟨0, rfl, Nat.zero_le _, fun t y ht => by omega, Below.refl _ _⟩
  case round =>
    obtain ⟨j, rfl, hj, hno, hbel⟩ := hrel
    have HNO : Hid (∀ t y, t < j → ss[t]? = some y → (y.1.b == x) = false) := hno
    clear hno
    by_cases hlt : j < N
    · obtain ⟨y, hy⟩ : ∃ y, ss[j]? = some y := ⟨ss[j]'(by have := HN.out; omega), by rw [List.getElem?_eq_getElem]⟩
      obtain ⟨h1, h2, h3, h4⟩ := HH.out wr hbel
      obtain ⟨-, q, rfl, hcell⟩ := h1.get hy
      have x0 := hcell 0 _ rfl
      have x1 := hcell 1 _ rfl
      have x2 := hcell 2 _ rfl
      rw [show E57.n = 3 from rfl] at x0 x1 x2
      rw [Nat.add_zero] at x0
      have K : Hid (Calls Try.prog 30 #[.agg #[.int .i64 y.1.e, .int .i64 y.1.i, .slice y.2.1 y.1.b.length y.2.2], .pointer (some ⟨B, 0, none⟩)] wr fun e w' => e = .returned (.bool (y.1.b == x)) ∧ Below w.heap.size w w') := by
        refine (same_ok wr y.2.1 b y.2.2 cb y.1.b x y.1.e y.1.i B (h2 y (List.mem_of_getElem? hy)) h3 h4).mono ?_
        rintro e w' ⟨rfl, hb⟩
        exact ⟨rfl, hbel.trans (hb.mono hbel.size)⟩
      have g1 : (j : Int) < (N : Int) := by omega
      have g2 : (0 : Int) ≤ (j : Int) := Int.natCast_nonneg _
      have HJ : Hid (j < N ∧ ss[j]? = some y) := ⟨hlt, hy⟩
      have e1 : IntKind.i64.wrap ((j : Int) + 1) = ((j + 1 : Nat) : Int) := by rw [IntKind.wrap_i64]; omega
      clear h1 h2 h3 h4 hcell hy hlt hj hbel
      generalize y.1.e = ye at *
      generalize y.1.i = yi at *
      generalize y.2.1 = ya at *
      generalize y.2.2 = yc at *
      go_wp2_with fail
      refine K.out.mono ?_
      rintro e w2 ⟨rfl, hb2⟩
      have HB2 : Hid (Below w.heap.size w w2) := hb2
      clear K x0 x1 x2 hb2
      cases hq : (y.1.b == x)
      · go_wp2
        go_roundw
        case rel =>
          refine ⟨j + 1, by first | rfl | (congr 1; omega), by have := HJ.out.1; omega, fun t z ht hz => ?_, HB2.out⟩
          by_cases e : t = j
          · subst e
            have := HJ.out.2
            rw [this] at hz
            cases hz
            exact hq
          · exact HNO.out t z (by omega) hz
        case measure => have := HJ.out.1; simp [intOf]; omega
      · have HF : Hid (decide ((0 : Int) ≤ (j : Int)) = findL ss x) := by
          show decide ((0 : Int) ≤ (j : Int)) = _
          rw [found HJ.out.2 hq]; simp
        clear hq
        go_wp2
        go_ret
        exact ⟨_, rfl, HF.out, HB2.out⟩
    · have HF : Hid (decide ((0 : Int) ≤ (-1 : Int)) = findL ss x) := by
        show decide ((0 : Int) ≤ (-1 : Int)) = _
        rw [find_none fun t y ht hy => HNO.out t y (by have := HN.out; omega) hy]; rfl
      have HB2 : Hid (Below w.heap.size w wr) := hbel
      clear hbel HH
      go_wp2
      go_ret
      exact ⟨_, rfl, HF.out, HB2.out⟩

theorem contains_ok (w : World) (v : Value) (ss : List Sl) (h : Row E57 w v ss) (hs : Seen w ss) (hl : ss.length ≤ 1000) (b : Option Addr) (cb : Nat) (x : List UInt8) (B : Nat) (hx : Sees w b cb x) (hB : w.heap[B]? = some (.cells #[.slice b x.length cb] 22 (0, 0))) :
    Calls Try.prog 29 #[v, .func (.func 30) #[] #[.pointer (some ⟨B, 0, none⟩)]] w fun e w' => e = .returned (.bool (findL ss x)) ∧ Below w.heap.size w w' := by
  have K := index_ok w v ss h hs hl b cb x B hx hB
  clear h hs hx hB
  go_enter Try.func29, Try.ntmps29
  go_wp2_with fail
  refine K.mono ?_
  rintro e w' ⟨z, rfl, hz, hb⟩
  have HZ : Hid (decide (0 ≤ z) = findL ss x) := hz
  clear hz
  go_wp2
  go_ret
  exact ⟨by rw [← HZ.out]; rfl, hb⟩

theorem holds_ok (w : World) (g m : Nat) (v : Value) (s : Bs) (ss : List Sl) (n : Nat) (h : Pb w g m v s ss n) (b : Option Addr) (cb : Nat) (x : List UInt8) (hx : Sees w b cb x) :
    Calls Try.prog 22 #[.pointer (some ⟨g, 0, none⟩), .slice b x.length cb] w fun e w' => e = .returned (.bool (heldB s.L x)) ∧ Below w.heap.size w w' := by
  obtain ⟨W, hW⟩ : ∃ W, W = w.alloc (.cells #[.slice b x.length cb] 22) := ⟨_, rfl⟩
  have hb : Below w.heap.size w W := by rw [hW]; exact (Below.refl _ _).alloc (Nat.le_refl _) _
  have r1 : W.heap[w.heap.size]? = some (.cells #[.slice b x.length cb] 22 (0, 0)) := by rw [hW]; exact heap_alloc_new _ _
  have hlen : ss.length ≤ 1000 := by have := h.ok.len; have := h.ok.hi; have := congrArg List.length h.its; simp at this; omega
  have e : findL ss x = heldB s.L x := by rw [heldB, ← h.its, List.any_map]; rfl
  have K : Hid (Calls Try.prog 29 #[v, .func (.func 30) #[] #[.pointer (some ⟨w.heap.size, 0, none⟩)]] W fun e w' => e = .returned (.bool (heldB s.L x)) ∧ Below w.heap.size w w') := by
    refine (contains_ok W v ss (h.row.below hb) (h.seen.below hb) hlen b cb x _ (hx.below hb) r1).mono ?_
    rintro e' w' ⟨rfl, hb'⟩
    rw [← e]
    exact ⟨rfl, hb.trans (hb'.mono hb.size)⟩
  have c2 := (h.below hb).at'.c2
  have HW : Hid (W = w.alloc (.cells #[.slice b x.length cb] 22)) := hW
  obtain ⟨av, ac, rfl, _⟩ := h.row.shape
  rw [hW] at c2
  have hmf : ∀ (fn : Fn) (first cap : Array Value) (w : World), (Instr.makeFunc fn first cap).run Try.prog w = .ok (.func fn first cap) w := fun _ _ _ _ => rfl
  clear h hb hW r1 hx e
  go_enter Try.func22, Try.ntmps22
  go_wp2_with fail
  rw [← HW.out]
  refine K.out.mono ?_
  rintro e w' ⟨rfl, hb'⟩
  go_wp2
  go_ret
  exact ⟨rfl, hb'⟩
end Go.Proofs.Yteehkekmaikeiaa
