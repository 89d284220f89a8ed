/-
  The document's buffer in memory; New, Count, without.
  The document's without and Take.
  The document's Take and Drop.
-/
import Derived.Test.YtmffplhaclnehaaGreatDoorBufS
namespace Go.Proofs.YtmffplhaclnehaaGreatDoor
open Go.ChangeShapes Go.WideShapes Go.ChangeAt Go.RowKit
set_option maxRecDepth 20000

/-- Block r holds a buffer of the document. -/
def RA (w : World) (r most : Nat) (v : Value) (lost : Nat) : Prop := w.heap[r]? = some (.cells #[.int .i64 (most : Int), v, .int .i64 (lost : Int)] 53 (0, 0))
theorem RA.lt {w : World} {r most lost : Nat} {v : Value} (h : RA w r most v lost) : r < w.heap.size := (Array.getElem?_eq_some_iff.1 h).1
theorem RA.keep {w w' : World} {r most lost : Nat} {v : Value} (h : RA w r most v lost) (hb : w'.heap[r]? = w.heap[r]?) : RA w' r most v lost := hb.trans h
theorem RA.c0 {w : World} {r most lost : Nat} {v : Value} (h : RA w r most v lost) : w.cell? ⟨r, 0, none⟩ = some (.int .i64 (most : Int)) := cell_of_row w _ 0 _ _ _ h
theorem RA.c1 {w : World} {r most lost : Nat} {v : Value} (h : RA w r most v lost) : w.cell? ⟨r, 1, none⟩ = some v := cell_of_row w _ 1 _ _ _ h
theorem RA.c2 {w : World} {r most lost : Nat} {v : Value} (h : RA w r most v lost) : w.cell? ⟨r, 2, none⟩ = some (.int .i64 (lost : Int)) := cell_of_row w _ 2 _ _ _ h
theorem RA.fz {w : World} {r most lost : Nat} {v : Value} (h : RA w r most v lost) (i : Nat) : w.frozen? ⟨r, i, none⟩ = false := frozen_of_row _ _ i _ _ h
theorem RA.put1 {w : World} {r most lost : Nat} {v : Value} (h : RA w r most v lost) (x : Value) : RA (w.setCell ⟨r, 1, none⟩ x) r most x lost := by
  show (w.setCell ⟨r, 1, none⟩ _).heap[r]? = _
  rw [heap_setCell_same _ _ _ _ _ _ h]; rfl
theorem RA.put2 {w : World} {r most lost : Nat} {v : Value} (h : RA w r most v lost) (x : Nat) : RA (w.setCell ⟨r, 2, none⟩ (.int .i64 (x : Int))) r most v x := by
  show (w.setCell ⟨r, 2, none⟩ _).heap[r]? = _
  rw [heap_setCell_same _ _ _ _ _ _ h]; rfl
theorem RA.plain {w : World} {r most lost : Nat} {v : Value} (h : RA w r most v lost) (hv : ∀ k y, v = Value.int k y → (k == IntKind.u8) = false) : Plain w r := by
  refine NoByte.plain (cur := #[.int .i64 (most : Int), v, .int .i64 (lost : Int)]) (fun u hu k y => ?_) h
  simp only [List.mem_cons, List.not_mem_nil, or_false] at hu
  rcases hu with rfl | rfl | rfl
  · intro e; cases e; rfl
  · exact hv k y
  · intro e; cases e; rfl
structure BRb (w : World) (r : Nat) (v : Value) (s : Bs) (ss : List BSl) : Prop where
  at' : RA w r s.most v s.lost
  row : Row E59 w v ss
  its : ss.map Prod.fst = s.L
  seen : BSeen w ss
  ok : s.ok
def ROwn (r : Nat) (v : Value) : Nat → Prop := fun k => k = r ∨ v.ownBlock = some k
theorem BRb.lt {w : World} {r : Nat} {v : Value} {s : Bs} {ss : List BSl} (h : BRb w r v s ss) {k : Nat} (hk : ROwn r v k) : k < w.heap.size := by
  rcases hk with rfl | hk
  · exact h.at'.lt
  · exact h.row.lt hk
theorem BRb.plain {w : World} {r : Nat} {v : Value} {s : Bs} {ss : List BSl} (h : BRb w r v s ss) {k : Nat} (hk : ROwn r v k) : Plain w k := by
  rcases hk with rfl | hk
  · exact h.at'.plain h.row.notint
  · exact h.row.plain hk
theorem BRb.apart {w w' : World} {F : Nat → Prop} {r : Nat} {v : Value} {s : Bs} {ss : List BSl} (h : BRb w r v s ss) (ha : Apart F w w') (hF : ∀ k, F k → ¬ ROwn r v k) (hp : ∀ k, F k → Plain w k) : BRb w' r v s ss :=
  have hb : ∀ k, ROwn r v k → w'.heap[k]? = w.heap[k]? := fun k hk => ha.block k (h.lt hk) (fun hf => hF k hf hk)
  ⟨h.at'.keep (hb r (.inl rfl)), h.row.keep fun k hk => hb k (.inr hk), h.its, h.seen.apart ha hp, h.ok⟩
theorem BRb.below {w w' : World} {r : Nat} {v : Value} {s : Bs} {ss : List BSl} (h : BRb w r v s ss) (hb : Below w.heap.size w w') : BRb w' r v s ss :=
  h.apart (F := fun _ => False) (Apart.of_below hb) (fun _ h => h.elim) (fun _ h => h.elim)
theorem BRb.vr {w : World} {r : Nat} {v : Value} {s : Bs} {ss : List BSl} (h : BRb w r v s ss) : v.ownBlock ≠ some r := by
  intro e
  obtain ⟨cur, h1, _⟩ := h.row.isRow e
  have h2 := h.at'
  unfold RA at h2
  rw [h1] at h2; cases h2
theorem BRb.len {w : World} {r : Nat} {v : Value} {s : Bs} {ss : List BSl} (h : BRb w r v s ss) : ss.length = s.L.length ∧ s.L.length ≤ 64 := by
  have h1 := congrArg List.length h.its
  have := h.ok.len
  have := h.ok.hi
  simp at h1
  omega
/-- What an act leaves. -/
def RLeft (w : World) (r : Nat) (v : Value) (s' : Bs) (w' : World) : Prop := ∃ v' ss', BRb w' r v' s' ss' ∧ Apart (fun k => k = r) w w' ∧ ∀ k, v'.ownBlock = some k → v.ownBlock = some k ∨ w.heap.size ≤ k
theorem RLeft.refl {w W : World} {r : Nat} {v : Value} {s : Bs} {ss : List BSl} (h : BRb w r v s ss) (hb : Below w.heap.size w W) : RLeft w r v s W :=
  ⟨v, ss, h.below hb, Apart.of_below hb, fun _ hk => .inl hk⟩

theorem rnew_no (w : World) (x : Int) (hx : ¬ (1 ≤ x ∧ x ≤ 64)) : Calls Tryz.prog 32 #[.int .i64 x] w fun e w' => e = .returned (.tuple #[.pointer none, .int .i64 1]) ∧ w' = w := by
  go_enter Tryz.func32, Tryz.ntmps32
  by_cases h1 : x < 1
  · clear hx
    go_wp2
    go_ret2
    exact ⟨rfl, rfl⟩
  · have h2 : 64 < x := by omega
    clear hx
    go_wp2
    go_ret2
    exact ⟨rfl, rfl⟩
theorem rnew_ok (w : World) (x : Nat) (h1 : 1 ≤ x) (h2 : x ≤ 64) : Calls Tryz.prog 32 #[.int .i64 (x : Int)] w fun e w' => e = .returned (.tuple #[.pointer (some ⟨w.heap.size, 0, none⟩), .int .i64 0]) ∧ BRb w' w.heap.size (.slice none 0 0) ⟨x, 0, []⟩ [] ∧ Below w.heap.size w w' := by
  have g1 : ¬ ((x : Int) < 1) := by omega
  have g2 : ¬ (64 < (x : Int)) := by omega
  obtain ⟨W, hW⟩ : ∃ W, W = w.alloc (.cells #[.int .i64 (x : Int), .slice none 0 0, .int .i64 0] 53) := ⟨_, rfl⟩
  have hb : Below w.heap.size w W := by rw [hW]; exact (Below.refl _ _).alloc (Nat.le_refl _) _
  have r1 : RA W w.heap.size x (.slice none 0 0) 0 := by rw [hW]; exact heap_alloc_new _ _
  have HE : Hid (BRb W w.heap.size (.slice none 0 0) ⟨x, 0, []⟩ [] ∧ Below w.heap.size w W) := ⟨⟨r1, Row.nil _ _, rfl, (fun y hy => by cases hy), ⟨h1, h2, by simp, fun y hy => by cases hy⟩⟩, hb⟩
  have HW : Hid (W = w.alloc (.cells #[.int .i64 (x : Int), .slice none 0 0, .int .i64 0] 53)) := hW
  clear hb r1 hW h1 h2
  go_enter Tryz.func32, Tryz.ntmps32
  go_wp2
  rw [← HW.out]
  go_ret2
  exact ⟨rfl, HE.out⟩

theorem cnt_snoc (L : List It) (x : It) (k : Key) : cnt (L ++ [x]) k = cnt L k + (if x.k = k then 1 else 0) := by rw [cnt_append, cnt_one]
theorem key_eq {x : It} {k : Key} : x.k = k ↔ x.e = k.1 ∧ x.i = k.2 := by
  constructor
  · intro h; subst h; exact ⟨rfl, rfl⟩
  · intro h; exact Prod.ext h.1 h.2

set_option maxHeartbeats 1600000 in
set_option maxRecDepth 20000 in
theorem rcount_ok (w : World) (r : Nat) (v : Value) (s : Bs) (ss : List BSl) (h : BRb w r v s ss) (k : Key) :
    Calls Tryz.prog 83 #[.pointer (some ⟨r, 0, none⟩), .int .i64 k.1, .int .i64 k.2] w fun e w' => e = .returned (.int .i64 (cnt s.L k : Int)) ∧ w' = w := by
  obtain ⟨a, cap, rfl, hcap, hmax, -⟩ := h.row.shape
  obtain ⟨hlen, h64⟩ := h.len
  have c1 := h.at'.c1
  have HR : Hid (Row E59 w (.slice a ss.length cap) ss ∧ ss.map Prod.fst = s.L) := ⟨h.row, h.its⟩
  obtain ⟨N, hN⟩ : ∃ N, N = ss.length := ⟨_, rfl⟩
  rw [← hN] at c1 hcap HR
  have HN : Hid (N = ss.length ∧ N = s.L.length) := ⟨hN, by omega⟩
  have hN64 : N ≤ 64 := by omega
  have hcm : cap ≤ 9223372036854775807 := by unfold maxLen at hmax; omega
  obtain ⟨k1, k2⟩ := k
  clear h hlen h64 hN hmax
  go_enter Tryz.func83, Tryz.ntmps83
  go_wp2
  go_loopw [7, 8] (fun s7 s8 wr => ∃ t : Nat, s8 = .int .i64 (t : Int) ∧ t ≤ N ∧ s7 = .int .i64 (cnt (s.L.take t) (k1, k2) : Int) ∧ w = wr) (fun _ s8 _ => N - (intOf s8).toNat)
  case atStart => exact ⟨0, rfl, Nat.zero_le _, rfl, rfl⟩
  case round =>
    obtain ⟨t, rfl, ht, rfl, rfl⟩ := hrel
    by_cases hlt : t < N
    · obtain ⟨x, hx⟩ : ∃ x, ss[t]? = some x := ⟨ss[t]'(by have := HN.out; omega), by rw [List.getElem?_eq_getElem]⟩
      have hx' : s.L[t]? = some x.1 := by rw [← HR.out.2, List.getElem?_map, hx]; rfl
      have hsn : cnt (s.L.take (t + 1)) (k1, k2) = cnt (s.L.take t) (k1, k2) + (if x.1.k = (k1, k2) then 1 else 0) := by rw [take_snoc _ _ _ hx', cnt_snoc]
      obtain ⟨-, q, rfl, hcell⟩ := HR.out.1.get hx
      have x0 := hcell 0 _ rfl
      have x1 := hcell 1 _ rfl
      rw [show E59.n = 3 from rfl] at x0 x1
      rw [Nat.add_zero] at x0
      have hle : cnt (s.L.take t) (k1, k2) ≤ 64 := Nat.le_trans (cnt_le _ _) (by rw [List.length_take]; omega)
      obtain ⟨c, hc⟩ : ∃ c, c = cnt (s.L.take t) (k1, k2) := ⟨_, rfl⟩
      rw [← hc] at hle hsn ⊢
      have g1 : (t : Int) < (N : Int) := by omega
      have g2 : (0 : Int) ≤ (t : Int) := Int.natCast_nonneg _
      have e1 : IntKind.i64.wrap ((t : Int) + 1) = ((t + 1 : Nat) : Int) := by rw [IntKind.wrap_i64]; omega
      have e2 : IntKind.i64.wrap ((c : Int) + 1) = ((c + 1 : Nat) : Int) := by rw [IntKind.wrap_i64]; omega
      have HJ : Hid (t < N) := hlt
      obtain ⟨xe, hxe⟩ : ∃ xe, xe = x.1.e := ⟨_, rfl⟩
      obtain ⟨xi, hxi⟩ : ∃ xi, xi = x.1.i := ⟨_, rfl⟩
      have hke : (x.1.k = (k1, k2)) ↔ (xe = k1 ∧ xi = k2) := by rw [key_eq, hxe, hxi]
      have x0' : w.cell? ⟨q, t * 3, none⟩ = some (.int .i64 xe) := by rw [hxe]; exact x0
      have x1' : w.cell? ⟨q, t * 3 + 1, none⟩ = some (.int .i64 xi) := by rw [hxi]; exact x1
      have HS : Hid (cnt (s.L.take (t + 1)) (k1, k2) = c + (if xe = k1 ∧ xi = k2 then 1 else 0)) := by
        show cnt (s.L.take (t + 1)) (k1, k2) = _
        rw [hsn]
        by_cases h9 : x.1.k = (k1, k2)
        · rw [if_pos h9, if_pos (hke.1 h9)]
        · rw [if_neg h9, if_neg (fun e => h9 (hke.2 e))]
      clear hx hx' hsn hcell x0 x1 hc hxe hxi hke ht hlt
      by_cases h1 : xe = k1
      · subst h1
        by_cases h2 : xi = k2
        · subst h2
          go_wp2
          go_roundw
          case rel => exact ⟨t + 1, by first | rfl | (congr 1; omega), by have := HJ.out; omega, by rw [HS.out, if_pos ⟨rfl, rfl⟩]; first | rfl | (congr 1; omega), trivial⟩
          case measure => have := HJ.out; simp [intOf]; omega
        · go_wp2
          go_roundw
          case rel => exact ⟨t + 1, by first | rfl | (congr 1; omega), by have := HJ.out; omega, by rw [HS.out, if_neg (fun e => h2 e.2)]; first | rfl | (congr 1; omega), trivial⟩
          case measure => have := HJ.out; simp [intOf]; omega
      · go_wp2
        go_roundw
        case rel => exact ⟨t + 1, by first | rfl | (congr 1; omega), by have := HJ.out; omega, by rw [HS.out, if_neg (fun e => h1 e.1)]; first | rfl | (congr 1; omega), trivial⟩
        case measure => have := HJ.out; simp [intOf]; omega
    · have HE : Hid (s.L.take t = s.L) := List.take_of_length_le (by have := HN.out; omega)
      rw [show s.L.take t = s.L from HE.out]
      have g1 : ¬ (t : Int) < (N : Int) := by omega
      clear ht hlt
      go_wp2
      go_ret
      exact ⟨rfl, rfl⟩
end Go.Proofs.YtmffplhaclnehaaGreatDoor

namespace Go.Proofs.YtmffplhaclnehaaGreatDoor
open Go.ChangeShapes Go.WideShapes Go.ChangeAt Go.RowKit
set_option maxRecDepth 20000

theorem Row.cellsAt {α : Type} {E : Enc α} {w : World} {q len cap : Nat} {xs : List α} (h : Row E w (.slice (some ⟨q, 0, none⟩) len cap) xs) : ∀ (j : Nat) (u : Value), (E.cs xs)[j]? = some u → w.cell? ⟨q, j, none⟩ = some u := by
  intro j u hu
  obtain ⟨a, c, e, _, _, _, _, hc⟩ := h.shape
  cases e
  obtain ⟨q', e2, h2⟩ := hc j u hu
  cases e2
  exact h2
theorem Row.empty {α : Type} (E : Enc α) (w : World) : Row E (w.alloc (.cells #[] E.T)) (.slice (some ⟨w.heap.size, 0, none⟩) 0 0) [] :=
  .inr ⟨w.heap.size, 0, #[], rfl, heap_alloc_new w _, Nat.le_refl _, Nat.zero_le _, by simp, by simp [Enc.cs], fun u hu => by simp at hu⟩

set_option maxHeartbeats 1600000 in
set_option maxRecDepth 20000 in
theorem without_ok (w : World) (r : Nat) (v : Value) (s : Bs) (ss : List BSl) (h : BRb w r v s ss) (j : Nat) (hj : j < s.L.length) :
    Calls Tryz.prog 84 #[.pointer (some ⟨r, 0, none⟩), .int .i64 (j : Int)] w fun e w' => e = .returned (.tuple #[]) ∧ RLeft w r v { s with L := s.L.eraseIdx j } w' := by
  obtain ⟨hlen, h64⟩ := h.len
  obtain ⟨x, hx⟩ : ∃ x, ss[j]? = some x := ⟨ss[j]'(by omega), by rw [List.getElem?_eq_getElem]⟩
  obtain ⟨a, cap, rfl, hcap, hmax, -⟩ := h.row.shape
  obtain ⟨-, q, rfl, -⟩ := h.row.get hx
  have hcm : cap ≤ 9223372036854775807 := by unfold maxLen at hmax; omega
  -- the first append
  obtain ⟨W0, hW0⟩ : ∃ W0, W0 = w.alloc (.cells #[] 140) := ⟨_, rfl⟩
  have hb0 : Below w.heap.size w W0 := by rw [hW0]; exact (Below.refl _ _).alloc (Nat.le_refl _) _
  have h0 := h.below hb0
  have hE0 : Row E59 W0 (.slice (some ⟨w.heap.size, 0, none⟩) 0 0) [] := by rw [hW0]; exact Row.empty E59 w
  obtain ⟨v1, w1, hrun1, hrow1, hap1, hnew1⟩ := hE0.append (ss.take j) (by simp; omega) (some ⟨q, 0, none⟩) cap (fun _ => ⟨q, 0, rfl, fun t u hu => by
    rw [Nat.zero_add]
    refine h0.row.cellsAt t u ?_
    rw [← E59.cs_take ss j (by omega), List.getElem?_take] at hu
    split at hu
    · exact hu
    · cases hu⟩)
  rw [List.nil_append] at hrow1
  rw [List.length_take, Nat.min_eq_left (by omega)] at hrun1
  have hq : q < w.heap.size := h.row.lt rfl
  have hb1 : Below w.heap.size w w1 := hap1.below hb0 (fun k hk => by cases hk; exact Nat.le_refl _) hb0.size
  have h1 := h.below hb1
  -- the second
  obtain ⟨A, hA, hA2⟩ : ∃ A : Addr, (if cap = j + 1 then some (⟨q, 0, none⟩ : Addr) else some ⟨q, (j + 1) * 3, none⟩) = some A ∧ (j + 1 < ss.length → A = ⟨q, (j + 1) * 3, none⟩) := by
    by_cases h : cap = j + 1
    · exact ⟨⟨q, 0, none⟩, by simp [h], fun _ => by omega⟩
    · exact ⟨⟨q, (j + 1) * 3, none⟩, by simp [h], fun _ => rfl⟩
  obtain ⟨v2, w2, hrun2, hrow2, hap2, hnew2⟩ := hrow1.append (ss.drop (j + 1)) (by simp; omega) (some A) (cap - (j + 1)) (fun hne => by
    have hlt : j + 1 < ss.length := by
      rcases Nat.lt_or_ge (j + 1) ss.length with h | h
      · exact h
      · exact absurd (List.drop_of_length_le h) hne
    refine ⟨q, (j + 1) * 3, by rw [hA2 hlt], fun t u hu => ?_⟩
    refine h1.row.cellsAt _ u ?_
    rw [← E59.cs_drop ss (j + 1) (by omega), List.getElem?_drop] at hu
    exact hu)
  rw [List.length_drop] at hrun2
  have hown1 : ∀ k, v1.ownBlock = some k → w.heap.size ≤ k := fun k hk => by
    rcases hnew1 k hk with e | e
    · cases e; exact Nat.le_refl _
    · exact Nat.le_trans hb0.size e
  have hb2 : Below w.heap.size w w2 := hap2.below hb1 hown1 hb1.size
  have h2 := h.below hb2
  obtain ⟨a1, cp1, rfl, -⟩ := hrow1.shape
  obtain ⟨a2, cp2, rfl, -⟩ := hrow2.shape
  rw [List.length_take, Nat.min_eq_left (by omega)] at hrun1 hrun2
  have el : (ss.take j ++ ss.drop (j + 1)).length = ss.length - 1 := by simp; omega
  rw [el] at hrun2 hnew2
  have hag : Apart (fun k => k = r) w2 (w2.setCell ⟨r, 1, none⟩ (.slice a2 (ss.length - 1) cp2)) := (Apart.refl (fun k => k = r) w2).setCell (b := r) (.inl rfl) 1 _
  have hown2 : ∀ k, (Value.slice a2 (ss.length - 1) cp2).ownBlock = some k → w.heap.size ≤ k := fun k hk => by
    rcases hnew2 k hk with e | e
    · exact hown1 k ((own_same _ _ _ _ _).trans e)
    · exact Nat.le_trans hb1.size e
  have hr := h.at'.lt
  have HE : Hid (RLeft w r (.slice (some ⟨q, 0, none⟩) ss.length cap) { s with L := s.L.eraseIdx j } (w2.setCell ⟨r, 1, none⟩ (.slice a2 (ss.length - 1) cp2))) := by
    rw [el] at hrow2
    refine ⟨_, ss.take j ++ ss.drop (j + 1), ⟨h2.at'.put1 _, hrow2.apart hag fun k hk e => by have := hown2 k hk; omega, ?_, fun y hy => ?_, ?_⟩, (Apart.of_below (F := fun k => k = r) hb2).trans hag fun i hi => .inl hi, fun k hk => .inr (hown2 k hk)⟩
    · show _ = s.L.eraseIdx j
      rw [← h.its, List.eraseIdx_eq_take_drop_succ, List.map_append, List.map_take, List.map_drop]
    · refine Sees.apart (h2.seen y ?_) hag fun k hk => hk ▸ h2.plain (.inl rfl)
      rcases List.mem_append.1 hy with hy | hy
      · exact List.mem_of_mem_take hy
      · exact List.mem_of_mem_drop hy
    · refine ⟨h.ok.lo, h.ok.hi, ?_, fun y hy => h.ok.arg y (List.mem_of_mem_eraseIdx hy)⟩
      show (s.L.eraseIdx j).length ≤ s.most
      have := h.ok.len
      rw [List.length_eraseIdx]
      split <;> omega
  have HR1 : Hid ((Builtin.append_ #[51, 51] 51 #[.slice (some ⟨w.heap.size, 0, none⟩) 0 0, .slice (some ⟨q, 0, none⟩) j cap]).run Tryz.prog W0 = .ok (.slice a1 j cp1) w1) := hrun1
  have c10 := h0.at'.c1
  have c11 := h1.at'.c1
  have c12 := h2.at'.c1
  have f12 := h2.at'.fz 1
  obtain ⟨N, hN⟩ : ∃ N, N = ss.length := ⟨_, rfl⟩
  obtain ⟨J, hJ⟩ : ∃ J, J = j + 1 := ⟨_, rfl⟩
  rw [← hN] at c10 c11 c12 HE hrun2 hcap ⊢
  rw [← hJ] at hA hrun2
  have HR2 : Hid ((Builtin.append_ #[51, 51] 51 #[.slice a1 j cp1, .slice (some A) (N - J) (cap - J)]).run Tryz.prog w1 = .ok (.slice a2 (N - 1) cp2) w2) := hrun2
  have HW0 : Hid (W0 = w.alloc (.cells #[] 140)) := hW0
  rw [hW0] at c10
  have g1 : j ≤ cap := by omega
  have g2 : J ≤ cap := by omega
  have g3 : J ≤ N := by omega
  have e1 : IntKind.i64.wrap ((j : Int) + 1) = (J : Int) := by rw [IntKind.wrap_i64]; omega
  clear h h0 h1 h2 hb0 hb1 hb2 hE0 hrun1 hrun2 hrow1 hrow2 hap1 hap2 hnew1 hnew2 hown1 hown2 hag el hx hlen h64 hmax hA2 hW0 hN hJ hq hr hj hcap
  go_enter Tryz.func84, Tryz.ntmps84
  go_wp2_with (at_builtin; first | (rw [← HW0.out]; refine wpList_append_run rfl (.tmp 5) (.tmp 11) 51 rfl _ _ _ rfl rfl HR1.out ?_) | refine wpList_append_run rfl (.tmp 13) (.tmp 20) 51 rfl _ _ _ rfl rfl HR2.out ?_)
  go_end0
  exact ⟨rfl, HE.out⟩
end Go.Proofs.YtmffplhaclnehaaGreatDoor

namespace Go.Proofs.YtmffplhaclnehaaGreatDoor
open Go.ChangeShapes Go.WideShapes Go.ChangeAt Go.RowKit
set_option maxRecDepth 20000

/-- Two lists of its own beside a world that stays: bytes, and what waits. -/
structure Two (w : World) (vo : Value) (os : List Bl) (vl : Value) (ls : List BSl) (W : World) : Prop where
  bel : Below w.heap.size w W
  out : Row E22 W vo os
  row : Row E59 W vl ls
  newo : ∀ k, vo.ownBlock = some k → w.heap.size ≤ k
  newl : ∀ k, vl.ownBlock = some k → w.heap.size ≤ k
theorem Two.ne {w : World} {vo : Value} {os : List Bl} {vl : Value} {ls : List BSl} {W : World} (h : Two w vo os vl ls W) {k : Nat} (h1 : vo.ownBlock = some k) (h2 : vl.ownBlock = some k) : False := by
  obtain ⟨c1, e1, _⟩ := h.out.isRow h1
  obtain ⟨c2, e2, _⟩ := h.row.isRow h2
  rw [e1] at e2
  have : E22.T = E59.T := by injection e2 with e3; injection e3
  exact absurd this (by decide)
theorem Two.below {w : World} {vo : Value} {os : List Bl} {vl : Value} {ls : List BSl} {W W' : World} (h : Two w vo os vl ls W) (hb : Below W.heap.size W W') : Two w vo os vl ls W' :=
  ⟨h.bel.trans (hb.mono h.bel.size), h.out.below hb, h.row.below hb, h.newo, h.newl⟩
theorem Two.out1 {w : World} {vo vo' : Value} {os os' : List Bl} {vl : Value} {ls : List BSl} {W W' : World} (h : Two w vo os vl ls W) (hr : Row E22 W' vo' os') (ha : Apart (fun k => vo.ownBlock = some k) W W') (hn : ∀ k, vo'.ownBlock = some k → vo.ownBlock = some k ∨ W.heap.size ≤ k) : Two w vo' os' vl ls W' :=
  ⟨ha.below h.bel h.newo h.bel.size, hr, h.row.apart ha fun k hk e => h.ne e hk, fun k hk => by
    rcases hn k hk with e | e
    · exact h.newo k e
    · exact Nat.le_trans h.bel.size e, h.newl⟩
theorem Two.row1 {w : World} {vo : Value} {os : List Bl} {vl vl' : Value} {ls ls' : List BSl} {W W' : World} (h : Two w vo os vl ls W) (hr : Row E59 W' vl' ls') (ha : Apart (fun k => vl.ownBlock = some k) W W') (hn : ∀ k, vl'.ownBlock = some k → vl.ownBlock = some k ∨ W.heap.size ≤ k) : Two w vo os vl' ls' W' :=
  ⟨ha.below h.bel h.newl h.bel.size, h.out.apart ha fun k hk e => h.ne hk e, hr, h.newo, fun k hk => by
    rcases hn k hk with e | e
    · exact h.newl k e
    · exact Nat.le_trans h.bel.size e⟩
/-- Bytes more. -/
theorem Two.addo {w : World} {oa : Option Addr} {on oc : Nat} {os : List Bl} {vl : Value} {ls : List BSl} {W : World} (h : Two w (.slice oa on oc) os vl ls W) (hl : os.length ≤ 900) (x : BSl) :
    ∃ a' c' W1, (Builtin.append_ #[26, 26] 26 #[.slice oa on oc, .slice (some ⟨W.heap.size, 0, none⟩) 1 1]).run Tryz.prog (W.alloc (.cells #[.slice x.2.1 x.1.b.length x.2.2] 24)) = .ok (.slice a' (on + 1) c') W1 ∧ Two w (.slice a' (on + 1) c') (os ++ [blOf x]) vl ls W1 := by
  obtain ⟨V, hV⟩ : ∃ V, V = W.alloc (.cells #[.slice x.2.1 x.1.b.length x.2.2] 24) := ⟨_, rfl⟩
  have hb : Below W.heap.size W V := by rw [hV]; exact (Below.refl _ _).alloc (Nat.le_refl _) _
  have hr : V.heap[W.heap.size]? = some (.cells #[.slice x.2.1 x.1.b.length x.2.2] 24 (0, 0)) := by rw [hV]; exact heap_alloc_new _ _
  rw [← hV]
  have h1 := h.below hb
  obtain ⟨v', W1, hrun, hrow, hap, hnew⟩ := h1.out.append [blOf x] (by simp; omega) (some ⟨W.heap.size, 0, none⟩) 1 (fun _ => ⟨W.heap.size, 0, rfl, fun t u hu => by
    rw [show E22.cs [blOf x] = [.slice x.2.1 x.1.b.length x.2.2] from rfl] at hu
    rw [cell_of_row _ _ (0 + t) _ _ _ hr, Nat.zero_add, ← Array.getElem?_toList]; exact hu⟩)
  have h2 := h1.out1 hrow hap hnew
  obtain ⟨a', c', rfl, -⟩ := hrow.shape
  have el : (os ++ [blOf x]).length = on + 1 := by
    obtain ⟨_, _, e, _⟩ := h.out.shape
    cases e
    simp
  rw [el] at hrun h2
  exact ⟨a', c', W1, hrun, h2⟩
/-- One more that waits. -/
theorem Two.addl {w : World} {la : Option Addr} {ln lc : Nat} {os : List Bl} {vo : Value} {ls : List BSl} {W : World} (h : Two w vo os (.slice la ln lc) ls W) (hl : ls.length ≤ 900) (x : BSl) :
    ∃ a' c' W1, (Builtin.append_ #[51, 51] 51 #[.slice la ln lc, .slice (some ⟨W.heap.size, 0, none⟩) 1 1]).run Tryz.prog (W.alloc (.cells #[.int .i64 x.1.e, .int .i64 x.1.i, .slice x.2.1 x.1.b.length x.2.2] 140)) = .ok (.slice a' (ln + 1) c') W1 ∧ Two w vo os (.slice a' (ln + 1) c') (ls ++ [x]) W1 := by
  obtain ⟨V, hV⟩ : ∃ V, V = W.alloc (.cells #[.int .i64 x.1.e, .int .i64 x.1.i, .slice x.2.1 x.1.b.length x.2.2] 140) := ⟨_, rfl⟩
  have hb : Below W.heap.size W V := by rw [hV]; exact (Below.refl _ _).alloc (Nat.le_refl _) _
  have hr : V.heap[W.heap.size]? = some (.cells #[.int .i64 x.1.e, .int .i64 x.1.i, .slice x.2.1 x.1.b.length x.2.2] 140 (0, 0)) := by rw [hV]; exact heap_alloc_new _ _
  rw [← hV]
  have h1 := h.below hb
  obtain ⟨v', W1, hrun, hrow, hap, hnew⟩ := h1.row.append [x] (by simp; omega) (some ⟨W.heap.size, 0, none⟩) 1 (fun _ => ⟨W.heap.size, 0, rfl, fun t u hu => by
    rw [show E59.cs [x] = [.int .i64 x.1.e, .int .i64 x.1.i, .slice x.2.1 x.1.b.length x.2.2] from rfl] at hu
    rw [cell_of_row _ _ (0 + t) _ _ _ hr, Nat.zero_add, ← Array.getElem?_toList]; exact hu⟩)
  have h2 := h1.row1 hrow hap hnew
  obtain ⟨a', c', rfl, -⟩ := hrow.shape
  have el : (ls ++ [x]).length = ln + 1 := by
    obtain ⟨_, _, e, _⟩ := h.row.shape
    cases e
    simp
  rw [el] at hrun h2
  exact ⟨a', c', W1, hrun, h2⟩
/-- The list is put into the field. -/
theorem Two.done {w : World} {r : Nat} {v : Value} {s : Bs} {ss : List BSl} (h : BRb w r v s ss) {vo : Value} {os : List Bl} {vl : Value} {p : BSl → Bool} {q : It → Bool} (hpq : ∀ x : BSl, p x = q x.1) {W : World} (hT : Two w vo os vl (ss.filter p) W) (hos : ∀ y ∈ os, ∃ x ∈ ss, y = blOf x) :
    RLeft w r v { s with L := s.L.filter q } (W.setCell ⟨r, 1, none⟩ vl) ∧ BTold (W.setCell ⟨r, 1, none⟩ vl) w.heap.size vo (os.map Prod.fst) := by
  have h2 := h.below hT.bel
  have hag : Apart (fun k => k = r) W (W.setCell ⟨r, 1, none⟩ vl) := (Apart.refl (fun k => k = r) W).setCell (b := r) (.inl rfl) 1 _
  have hr := h.at'.lt
  have hpl : ∀ k, k = r → Plain W k := fun k hk => hk ▸ h2.plain (.inl rfl)
  refine ⟨⟨vl, ss.filter p, ⟨h2.at'.put1 _, hT.row.apart hag fun k hk e => by have := hT.newl k hk; omega, ?_, fun y hy => (h2.seen y (List.mem_filter.1 hy).1).apart hag hpl, h.ok.filter q⟩, (Apart.of_below (F := fun k => k = r) hT.bel).trans hag fun i hi => .inl hi, fun k hk => .inr (hT.newl k hk)⟩, os, hT.out.apart hag fun k hk e => by have := hT.newo k hk; omega, fun y hy => ?_, rfl, hT.newo⟩
  · show _ = s.L.filter q
    rw [← h.its, List.filter_map]
    congr 1
    exact List.filter_congr fun x _ => hpq x
  · obtain ⟨x, hx, rfl⟩ := hos y hy
    exact (h2.seen x hx).apart hag hpl

set_option maxHeartbeats 1600000 in
set_option maxRecDepth 20000 in
theorem brtake_ok (w : World) (r : Nat) (v : Value) (s : Bs) (ss : List BSl) (h : BRb w r v s ss) (k : Key) :
    Calls Tryz.prog 87 #[.pointer (some ⟨r, 0, none⟩), .int .i64 k.1, .int .i64 k.2] w fun e w' => ∃ vo, e = .returned vo ∧ RLeft w r v (takeV s k) w' ∧ BTold w' w.heap.size vo (btakeL s k) := by
  obtain ⟨a, cap, rfl, hcap, hmax, -⟩ := h.row.shape
  obtain ⟨hlen, h64⟩ := h.len
  have HB : Hid (∀ W, Below w.heap.size w W → BRb W r (.slice a ss.length cap) s ss) := fun W hb => h.below hb
  have HH : Hid (BRb w r (.slice a ss.length cap) s ss) := h
  obtain ⟨N, hN⟩ : ∃ N, N = ss.length := ⟨_, rfl⟩
  have HN : Hid (N = ss.length) := hN
  have hN64 : N ≤ 64 := by omega
  have hcm : cap ≤ 9223372036854775807 := by unfold maxLen at hmax; omega
  obtain ⟨k1, k2⟩ := k
  have c1 := h.at'.c1
  rw [← hN] at c1 hcap HB
  clear h hlen h64 hN hmax
  go_enter Tryz.func87, Tryz.ntmps87
  go_wp2
  clear c1
  go_loopw [7, 8, 9] (fun s7 s8 s9 wr => ∃ t : Nat, s9 = .int .i64 (t : Int) ∧ t ≤ N ∧ Two w s7 (((ss.take t).filter fun x => isK (k1, k2) x.1).map blOf) s8 ((ss.take t).filter fun x => !isK (k1, k2) x.1) wr) (fun _ _ s9 _ => N - (intOf s9).toNat)
  case atStart => exact ⟨0, rfl, Nat.zero_le _, Below.refl _ _, Row.nil _ _, Row.nil _ _, (fun k hk => by cases hk), (fun k hk => by cases hk)⟩
  case round =>
    obtain ⟨t, rfl, ht, hT⟩ := hrel
    obtain ⟨oa, oc, rfl, -⟩ := hT.out.shape
    obtain ⟨la, lc, rfl, -⟩ := hT.row.shape
    have hP := HB.out wr hT.bel
    have c1 := hP.at'.c1
    by_cases hlt : t < N
    · obtain ⟨x, hx⟩ : ∃ x, ss[t]? = some x := ⟨ss[t]'(by have := HN.out; omega), by rw [List.getElem?_eq_getElem]⟩
      obtain ⟨-, q, rfl, hcell⟩ := hP.row.get hx
      have x0 := hcell 0 _ rfl
      have x1 := hcell 1 _ rfl
      have x2 := hcell 2 _ rfl
      rw [show E59.n = 3 from rfl] at x0 x1 x2
      rw [Nat.add_zero] at x0
      have htk := take_snoc ss t x hx
      have g1 : (t : Int) < (N : Int) := by omega
      have g2 : (0 : Int) ≤ (t : Int) := Int.natCast_nonneg _
      have e1 : IntKind.i64.wrap ((t : Int) + 1) = ((t + 1 : Nat) : Int) := by rw [IntKind.wrap_i64]; omega
      have HJ : Hid (t < N) := hlt
      have hl1 : (((ss.take t).filter fun x => isK (k1, k2) x.1).map blOf).length ≤ 64 := by rw [List.length_map]; exact Nat.le_trans (List.length_filter_le _ _) (by rw [List.length_take]; omega)
      have hl2 : ((ss.take t).filter fun x => !isK (k1, k2) x.1).length ≤ 64 := Nat.le_trans (List.length_filter_le _ _) (by rw [List.length_take]; omega)
      obtain ⟨ao, co, Wo, hrun1, hT1⟩ := hT.addo (by omega) x
      obtain ⟨al, cl, Wl, hrun2, hT2⟩ := hT.addl (by omega) x
      obtain ⟨on, hon⟩ : ∃ on, on = (((ss.take t).filter fun x => isK (k1, k2) x.1).map blOf).length := ⟨_, rfl⟩
      obtain ⟨ln, hln⟩ : ∃ ln, ln = ((ss.take t).filter fun x => !isK (k1, k2) x.1).length := ⟨_, rfl⟩
      rw [← hon] at hrun1 hT1 hT2 ⊢
      rw [← hln] at hrun2 hT2 hT1 ⊢
      obtain ⟨xe, hxe⟩ : ∃ xe, xe = x.1.e := ⟨_, rfl⟩
      obtain ⟨xi, hxi⟩ : ∃ xi, xi = x.1.i := ⟨_, rfl⟩
      obtain ⟨xl, hxl⟩ : ∃ xl, xl = x.1.b.length := ⟨_, rfl⟩
      obtain ⟨xa, hxa⟩ : ∃ xa, xa = x.2.1 := ⟨_, rfl⟩
      obtain ⟨xc, hxc⟩ : ∃ xc, xc = x.2.2 := ⟨_, rfl⟩
      rw [← hxl, ← hxa, ← hxc] at hrun1 hrun2
      rw [← hxe, ← hxi] at hrun2
      have x0' : wr.cell? ⟨q, t * 3, none⟩ = some (.int .i64 xe) := by rw [hxe]; exact x0
      have x1' : wr.cell? ⟨q, t * 3 + 1, none⟩ = some (.int .i64 xi) := by rw [hxi]; exact x1
      have x2' : wr.cell? ⟨q, t * 3 + 2, none⟩ = some (.slice xa xl xc) := by rw [hxl, hxa, hxc]; exact x2
      have HR1 : Hid ((Builtin.append_ #[26, 26] 26 #[.slice oa on oc, .slice (some ⟨wr.heap.size, 0, none⟩) 1 1]).run Tryz.prog (wr.alloc (.cells #[.slice xa xl xc] 24)) = .ok (.slice ao (on + 1) co) Wo) := hrun1
      have HR2 : Hid ((Builtin.append_ #[51, 51] 51 #[.slice la ln lc, .slice (some ⟨wr.heap.size, 0, none⟩) 1 1]).run Tryz.prog (wr.alloc (.cells #[.int .i64 xe, .int .i64 xi, .slice xa xl xc] 140)) = .ok (.slice al (ln + 1) cl) Wl) := hrun2
      have HT1 : Hid (isK (k1, k2) x.1 = true → Two w (.slice ao (on + 1) co) (((ss.take (t + 1)).filter fun x => isK (k1, k2) x.1).map blOf) (.slice la ln lc) ((ss.take (t + 1)).filter fun x => !isK (k1, k2) x.1) Wo) := fun hk => by
        rw [htk, List.filter_append, List.filter_append, List.map_append]
        simpa [hk] using hT1
      have HT2 : Hid (isK (k1, k2) x.1 = false → Two w (.slice oa on oc) (((ss.take (t + 1)).filter fun x => isK (k1, k2) x.1).map blOf) (.slice al (ln + 1) cl) ((ss.take (t + 1)).filter fun x => !isK (k1, k2) x.1) Wl) := fun hk => by
        rw [htk, List.filter_append, List.filter_append, List.map_append]
        simpa [hk] using hT2
      have HKE : Hid ((xe = k1 ∧ xi = k2 → isK (k1, k2) x.1 = true) ∧ (¬ (xe = k1 ∧ xi = k2) → isK (k1, k2) x.1 = false)) := by
        rw [hxe, hxi]
        refine ⟨fun h => isK_iff.2 (key_eq.2 h), fun h => ?_⟩
        cases hb : isK (k1, k2) x.1
        · rfl
        · exact absurd (key_eq.1 (isK_iff.1 hb)) h
      clear hT hP hx hcell x0 x1 x2 htk hl1 hl2 hrun1 hrun2 hT1 hT2 hon hln hxe hxi hxl hxa hxc ht hlt
      by_cases h1 : xe = k1
      · subst h1
        by_cases h2 : xi = k2
        · subst h2
          have HE : Hid (Two w (.slice ao (on + 1) co) (((ss.take (t + 1)).filter fun x => isK (xe, xi) x.1).map blOf) (.slice la ln lc) ((ss.take (t + 1)).filter fun x => !isK (xe, xi) x.1) Wo) := HT1.out (HKE.out.1 ⟨rfl, rfl⟩)
          go_wp2_with (at_builtin; refine wpList_append_run rfl (.tmp 41) (.tmp 50) 26 rfl _ _ _ rfl rfl HR1.out ?_)
          go_roundw
          case rel => exact ⟨t + 1, by first | rfl | (congr 1; omega), by have := HJ.out; omega, HE.out⟩
          case measure => have := HJ.out; simp [intOf]; omega
        · have HE := HT2.out (HKE.out.2 (fun e => h2 e.2))
          have HE2 : Hid (Two w (.slice oa on oc) (((ss.take (t + 1)).filter fun x => isK (xe, k2) x.1).map blOf) (.slice al (ln + 1) cl) ((ss.take (t + 1)).filter fun x => !isK (xe, k2) x.1) Wl) := HE
          clear HE
          go_wp2_with (at_builtin; refine wpList_append_run rfl (.tmp 52) (.tmp 60) 51 rfl _ _ _ rfl rfl HR2.out ?_)
          go_roundw
          case rel => exact ⟨t + 1, by first | rfl | (congr 1; omega), by have := HJ.out; omega, HE2.out⟩
          case measure => have := HJ.out; simp [intOf]; omega
      · have HE := HT2.out (HKE.out.2 (fun e => h1 e.1))
        have HE2 : Hid (Two w (.slice oa on oc) (((ss.take (t + 1)).filter fun x => isK (k1, k2) x.1).map blOf) (.slice al (ln + 1) cl) ((ss.take (t + 1)).filter fun x => !isK (k1, k2) x.1) Wl) := HE
        clear HE
        go_wp2_with (at_builtin; refine wpList_append_run rfl (.tmp 52) (.tmp 60) 51 rfl _ _ _ rfl rfl HR2.out ?_)
        go_roundw
        case rel => exact ⟨t + 1, by first | rfl | (congr 1; omega), by have := HJ.out; omega, HE2.out⟩
        case measure => have := HJ.out; simp [intOf]; omega
    · have hall : ss.take t = ss := List.take_of_length_le (by have := HN.out; omega)
      rw [hall] at hT ⊢
      have f1 := hP.at'.fz 1
      have hd := Two.done (q := fun x => !isK (k1, k2) x) HH.out (fun x => rfl) hT (fun y hy => by
        obtain ⟨x, hx, rfl⟩ := List.mem_map.1 hy
        exact ⟨x, (List.mem_filter.1 hx).1, rfl⟩)
      have eL : (((ss.filter fun x => isK (k1, k2) x.1).map blOf).map Prod.fst) = btakeL s (k1, k2) := by
        rw [btakeL, ← HH.out.its, List.filter_map, List.map_map, List.map_map]
        rfl
      rw [eL] at hd
      obtain ⟨on, hon⟩ : ∃ on, on = ((ss.filter fun x => isK (k1, k2) x.1).map blOf).length := ⟨_, rfl⟩
      obtain ⟨ln, hln⟩ : ∃ ln, ln = (ss.filter fun x => !isK (k1, k2) x.1).length := ⟨_, rfl⟩
      rw [← hon, ← hln] at hd ⊢
      have HD : Hid (RLeft w r (.slice a ss.length cap) (takeV s (k1, k2)) (wr.setCell ⟨r, 1, none⟩ (.slice la ln lc)) ∧ BTold (wr.setCell ⟨r, 1, none⟩ (.slice la ln lc)) w.heap.size (.slice oa on oc) (btakeL s (k1, k2))) := hd
      have g1 : ¬ (t : Int) < (N : Int) := by omega
      clear hT hP hall hd eL hon hln ht hlt
      go_wp2
      go_ret
      exact ⟨_, rfl, HD.out⟩
end Go.Proofs.YtmffplhaclnehaaGreatDoor
