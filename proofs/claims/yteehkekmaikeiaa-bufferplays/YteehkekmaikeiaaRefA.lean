/-
  The document's buffer in memory; New, Count, without.
-/
import Derived.Test.YteehkekmaikeiaaBufS
namespace Go.Proofs.Yteehkekmaikeiaa
open Go.ChangeShapes Go.WideShapes Go.ChangeAt Go.RowKit

/-- Block r holds a buffer of the document. -/
def RA (w : World) (r most : Nat) (v : Value) (lost : Nat) : Prop := w.heap[r]? = some (.cells #[.int .i64 (most : Int), v, .int .i64 (lost : Int)] 42 (0, 0))
theorem RA.lt {w : World} {r most lost : Nat} {v : Value} (h : RA w r most v lost) : r < w.heap.size := (Array.getElem?_eq_some_iff.1 h).1
theorem RA.keep {w w' : World} {r most lost : Nat} {v : Value} (h : RA w r most v lost) (hb : w'.heap[r]? = w.heap[r]?) : RA w' r most v lost := hb.trans h
theorem RA.c0 {w : World} {r most lost : Nat} {v : Value} (h : RA w r most v lost) : w.cell? ⟨r, 0, none⟩ = some (.int .i64 (most : Int)) := cell_of_row w _ 0 _ _ _ h
theorem RA.c1 {w : World} {r most lost : Nat} {v : Value} (h : RA w r most v lost) : w.cell? ⟨r, 1, none⟩ = some v := cell_of_row w _ 1 _ _ _ h
theorem RA.c2 {w : World} {r most lost : Nat} {v : Value} (h : RA w r most v lost) : w.cell? ⟨r, 2, none⟩ = some (.int .i64 (lost : Int)) := cell_of_row w _ 2 _ _ _ h
theorem RA.fz {w : World} {r most lost : Nat} {v : Value} (h : RA w r most v lost) (i : Nat) : w.frozen? ⟨r, i, none⟩ = false := frozen_of_row _ _ i _ _ h
theorem RA.put1 {w : World} {r most lost : Nat} {v : Value} (h : RA w r most v lost) (x : Value) : RA (w.setCell ⟨r, 1, none⟩ x) r most x lost := by
  show (w.setCell ⟨r, 1, none⟩ _).heap[r]? = _
  rw [heap_setCell_same _ _ _ _ _ _ h]; rfl
theorem RA.put2 {w : World} {r most lost : Nat} {v : Value} (h : RA w r most v lost) (x : Nat) : RA (w.setCell ⟨r, 2, none⟩ (.int .i64 (x : Int))) r most v x := by
  show (w.setCell ⟨r, 2, none⟩ _).heap[r]? = _
  rw [heap_setCell_same _ _ _ _ _ _ h]; rfl
theorem RA.plain {w : World} {r most lost : Nat} {v : Value} (h : RA w r most v lost) (hv : ∀ k y, v = Value.int k y → k = .i64) : Plain w r := by
  refine NoByte.plain (cur := #[.int .i64 (most : Int), v, .int .i64 (lost : Int)]) (fun u hu k y => ?_) h
  simp only [List.mem_cons, List.not_mem_nil, or_false] at hu
  rcases hu with rfl | rfl | rfl
  · intro e; cases e; rfl
  · exact hv k y
  · intro e; cases e; rfl
structure Rb (w : World) (r : Nat) (v : Value) (s : Bs) (ss : List Sl) : Prop where
  at' : RA w r s.most v s.lost
  row : Row E59 w v ss
  its : ss.map Prod.fst = s.L
  seen : Seen w ss
  ok : s.ok
def ROwn (r : Nat) (v : Value) : Nat → Prop := fun k => k = r ∨ v.ownBlock = some k
theorem Rb.lt {w : World} {r : Nat} {v : Value} {s : Bs} {ss : List Sl} (h : Rb w r v s ss) {k : Nat} (hk : ROwn r v k) : k < w.heap.size := by
  rcases hk with rfl | hk
  · exact h.at'.lt
  · exact h.row.lt hk
theorem Rb.plain {w : World} {r : Nat} {v : Value} {s : Bs} {ss : List Sl} (h : Rb w r v s ss) {k : Nat} (hk : ROwn r v k) : Plain w k := by
  rcases hk with rfl | hk
  · exact h.at'.plain h.row.notint
  · exact h.row.plain hk
theorem Rb.apart {w w' : World} {F : Nat → Prop} {r : Nat} {v : Value} {s : Bs} {ss : List Sl} (h : Rb w r v s ss) (ha : Apart F w w') (hF : ∀ k, F k → ¬ ROwn r v k) (hp : ∀ k, F k → Plain w k) : Rb w' r v s ss :=
  have hb : ∀ k, ROwn r v k → w'.heap[k]? = w.heap[k]? := fun k hk => ha.block k (h.lt hk) (fun hf => hF k hf hk)
  ⟨h.at'.keep (hb r (.inl rfl)), h.row.keep fun k hk => hb k (.inr hk), h.its, h.seen.apart ha hp, h.ok⟩
theorem Rb.below {w w' : World} {r : Nat} {v : Value} {s : Bs} {ss : List Sl} (h : Rb w r v s ss) (hb : Below w.heap.size w w') : Rb w' r v s ss :=
  h.apart (F := fun _ => False) (Apart.of_below hb) (fun _ h => h.elim) (fun _ h => h.elim)
theorem Rb.vr {w : World} {r : Nat} {v : Value} {s : Bs} {ss : List Sl} (h : Rb w r v s ss) : v.ownBlock ≠ some r := by
  intro e
  obtain ⟨cur, h1, _⟩ := h.row.isRow e
  have h2 := h.at'
  unfold RA at h2
  rw [h1] at h2; cases h2
theorem Rb.len {w : World} {r : Nat} {v : Value} {s : Bs} {ss : List Sl} (h : Rb w r v s ss) : ss.length = s.L.length ∧ s.L.length ≤ 64 := by
  have h1 := congrArg List.length h.its
  have := h.ok.len
  have := h.ok.hi
  simp at h1
  omega
/-- What an act leaves. -/
def RLeft (w : World) (r : Nat) (v : Value) (s' : Bs) (w' : World) : Prop := ∃ v' ss', Rb w' r v' s' ss' ∧ Apart (fun k => k = r) w w' ∧ ∀ k, v'.ownBlock = some k → v.ownBlock = some k ∨ w.heap.size ≤ k
theorem RLeft.refl {w W : World} {r : Nat} {v : Value} {s : Bs} {ss : List Sl} (h : Rb w r v s ss) (hb : Below w.heap.size w W) : RLeft w r v s W :=
  ⟨v, ss, h.below hb, Apart.of_below hb, fun _ hk => .inl hk⟩

theorem rnew_no (w : World) (x : Int) (hx : ¬ (1 ≤ x ∧ x ≤ 64)) : Calls Try.prog 8 #[.int .i64 x] w fun e w' => e = .returned (.tuple #[.pointer none, .int .i64 1]) ∧ w' = w := by
  go_enter Try.func8, Try.ntmps8
  by_cases h1 : x < 1
  · clear hx
    go_wp2
    go_ret2
    exact ⟨rfl, rfl⟩
  · have h2 : 64 < x := by omega
    clear hx
    go_wp2
    go_ret2
    exact ⟨rfl, rfl⟩
theorem rnew_ok (w : World) (x : Nat) (h1 : 1 ≤ x) (h2 : x ≤ 64) : Calls Try.prog 8 #[.int .i64 (x : Int)] w fun e w' => e = .returned (.tuple #[.pointer (some ⟨w.heap.size, 0, none⟩), .int .i64 0]) ∧ Rb w' w.heap.size (.slice none 0 0) ⟨x, 0, []⟩ [] ∧ Below w.heap.size w w' := by
  have g1 : ¬ ((x : Int) < 1) := by omega
  have g2 : ¬ (64 < (x : Int)) := by omega
  obtain ⟨W, hW⟩ : ∃ W, W = w.alloc (.cells #[.int .i64 (x : Int), .slice none 0 0, .int .i64 0] 42) := ⟨_, rfl⟩
  have hb : Below w.heap.size w W := by rw [hW]; exact (Below.refl _ _).alloc (Nat.le_refl _) _
  have r1 : RA W w.heap.size x (.slice none 0 0) 0 := by rw [hW]; exact heap_alloc_new _ _
  have HE : Hid (Rb W w.heap.size (.slice none 0 0) ⟨x, 0, []⟩ [] ∧ Below w.heap.size w W) := ⟨⟨r1, Row.nil _ _, rfl, (fun y hy => by cases hy), ⟨h1, h2, by simp, fun y hy => by cases hy⟩⟩, hb⟩
  have HW : Hid (W = w.alloc (.cells #[.int .i64 (x : Int), .slice none 0 0, .int .i64 0] 42)) := hW
  clear hb r1 hW h1 h2
  go_enter Try.func8, Try.ntmps8
  go_wp2
  rw [← HW.out]
  go_ret2
  exact ⟨rfl, HE.out⟩

theorem cnt_snoc (L : List It) (x : It) (k : Key) : cnt (L ++ [x]) k = cnt L k + (if x.k = k then 1 else 0) := by rw [cnt_append, cnt_one]
theorem key_eq {x : It} {k : Key} : x.k = k ↔ x.e = k.1 ∧ x.i = k.2 := by
  constructor
  · intro h; subst h; exact ⟨rfl, rfl⟩
  · intro h; exact Prod.ext h.1 h.2

set_option maxHeartbeats 1600000 in
set_option maxRecDepth 20000 in
theorem rcount_ok (w : World) (r : Nat) (v : Value) (s : Bs) (ss : List Sl) (h : Rb w r v s ss) (k : Key) :
    Calls Try.prog 20 #[.pointer (some ⟨r, 0, none⟩), .int .i64 k.1, .int .i64 k.2] w fun e w' => e = .returned (.int .i64 (cnt s.L k : Int)) ∧ w' = w := by
  obtain ⟨a, cap, rfl, hcap, hmax, -⟩ := h.row.shape
  obtain ⟨hlen, h64⟩ := h.len
  have c1 := h.at'.c1
  have HR : Hid (Row E59 w (.slice a ss.length cap) ss ∧ ss.map Prod.fst = s.L) := ⟨h.row, h.its⟩
  obtain ⟨N, hN⟩ : ∃ N, N = ss.length := ⟨_, rfl⟩
  rw [← hN] at c1 hcap HR
  have HN : Hid (N = ss.length ∧ N = s.L.length) := ⟨hN, by omega⟩
  have hN64 : N ≤ 64 := by omega
  have hcm : cap ≤ 9223372036854775807 := by unfold maxLen at hmax; omega
  obtain ⟨k1, k2⟩ := k
  clear h hlen h64 hN hmax
  go_enter Try.func20, Try.ntmps20
  go_wp2
  go_loopw [7, 8] (fun s7 s8 wr => ∃ t : Nat, s8 = .int .i64 (t : Int) ∧ t ≤ N ∧ s7 = .int .i64 (cnt (s.L.take t) (k1, k2) : Int) ∧ w = wr) (fun _ s8 _ => N - (intOf s8).toNat)
  case atStart => exact ⟨0, rfl, Nat.zero_le _, rfl, rfl⟩
  case round =>
    obtain ⟨t, rfl, ht, rfl, rfl⟩ := hrel
    by_cases hlt : t < N
    · obtain ⟨x, hx⟩ : ∃ x, ss[t]? = some x := ⟨ss[t]'(by have := HN.out; omega), by rw [List.getElem?_eq_getElem]⟩
      have hx' : s.L[t]? = some x.1 := by rw [← HR.out.2, List.getElem?_map, hx]; rfl
      have hsn : cnt (s.L.take (t + 1)) (k1, k2) = cnt (s.L.take t) (k1, k2) + (if x.1.k = (k1, k2) then 1 else 0) := by rw [take_snoc _ _ _ hx', cnt_snoc]
      obtain ⟨-, q, rfl, hcell⟩ := HR.out.1.get hx
      have x0 := hcell 0 _ rfl
      have x1 := hcell 1 _ rfl
      rw [show E59.n = 3 from rfl] at x0 x1
      rw [Nat.add_zero] at x0
      have hle : cnt (s.L.take t) (k1, k2) ≤ 64 := Nat.le_trans (cnt_le _ _) (by rw [List.length_take]; omega)
      obtain ⟨c, hc⟩ : ∃ c, c = cnt (s.L.take t) (k1, k2) := ⟨_, rfl⟩
      rw [← hc] at hle hsn ⊢
      have g1 : (t : Int) < (N : Int) := by omega
      have g2 : (0 : Int) ≤ (t : Int) := Int.natCast_nonneg _
      have e1 : IntKind.i64.wrap ((t : Int) + 1) = ((t + 1 : Nat) : Int) := by rw [IntKind.wrap_i64]; omega
      have e2 : IntKind.i64.wrap ((c : Int) + 1) = ((c + 1 : Nat) : Int) := by rw [IntKind.wrap_i64]; omega
      have HJ : Hid (t < N) := hlt
      obtain ⟨xe, hxe⟩ : ∃ xe, xe = x.1.e := ⟨_, rfl⟩
      obtain ⟨xi, hxi⟩ : ∃ xi, xi = x.1.i := ⟨_, rfl⟩
      have hke : (x.1.k = (k1, k2)) ↔ (xe = k1 ∧ xi = k2) := by rw [key_eq, hxe, hxi]
      have x0' : w.cell? ⟨q, t * 3, none⟩ = some (.int .i64 xe) := by rw [hxe]; exact x0
      have x1' : w.cell? ⟨q, t * 3 + 1, none⟩ = some (.int .i64 xi) := by rw [hxi]; exact x1
      have HS : Hid (cnt (s.L.take (t + 1)) (k1, k2) = c + (if xe = k1 ∧ xi = k2 then 1 else 0)) := by
        show cnt (s.L.take (t + 1)) (k1, k2) = _
        rw [hsn]
        by_cases h9 : x.1.k = (k1, k2)
        · rw [if_pos h9, if_pos (hke.1 h9)]
        · rw [if_neg h9, if_neg (fun e => h9 (hke.2 e))]
      clear hx hx' hsn hcell x0 x1 hc hxe hxi hke ht hlt
      by_cases h1 : xe = k1
      · subst h1
        by_cases h2 : xi = k2
        · subst h2
          go_wp2
          go_roundw
          case rel => exact ⟨t + 1, by first | rfl | (congr 1; omega), by have := HJ.out; omega, by rw [HS.out, if_pos ⟨rfl, rfl⟩]; first | rfl | (congr 1; omega), trivial⟩
          case measure => have := HJ.out; simp [intOf]; omega
        · go_wp2
          go_roundw
          case rel => exact ⟨t + 1, by first | rfl | (congr 1; omega), by have := HJ.out; omega, by rw [HS.out, if_neg (fun e => h2 e.2)]; first | rfl | (congr 1; omega), trivial⟩
          case measure => have := HJ.out; simp [intOf]; omega
      · go_wp2
        go_roundw
        case rel => exact ⟨t + 1, by first | rfl | (congr 1; omega), by have := HJ.out; omega, by rw [HS.out, if_neg (fun e => h1 e.1)]; first | rfl | (congr 1; omega), trivial⟩
        case measure => have := HJ.out; simp [intOf]; omega
    · have HE : Hid (s.L.take t = s.L) := List.take_of_length_le (by have := HN.out; omega)
      rw [show s.L.take t = s.L from HE.out]
      have g1 : ¬ (t : Int) < (N : Int) := by omega
      clear ht hlt
      go_wp2
      go_ret
      exact ⟨rfl, rfl⟩
end Go.Proofs.Yteehkekmaikeiaa
