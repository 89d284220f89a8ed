/-
  The contract of the document's Write.
-/
import Derived.Test.YtgnllmcgebonpaaFlashRefR
import Derived.Deep.Cut
import Derived.IntWalk
namespace Go.Proofs.Ytgnllmcgebonpaa
open Go.ChangeShapes Go.WideShapes Go.ChangeAt Go.RowKit

/-- Three appends, one behind the other. -/
theorem rput_run (w : World) (b : List UInt8) (A c : Nat) (x : Option Addr) (cx : Nat) (l : List UInt8) (hx : Sees w x cx l) (hA : A + c ≤ b.length) (hc : c ≤ l.length) (hs : b.length ≤ 4096)
    (X1 : Option Addr) (C1 : Nat) (s1 : Sees w X1 C1 (b.take A)) (X3 : Option Addr) (C3 : Nat) (s3 : Sees w X3 C3 (b.drop (A + c))) :
    ∃ d1 e1 w4 d2 e2 w5 d3 e3 w6,
      (Builtin.append_ #[22, 22] 22 #[.slice (some ⟨w.heap.size, 0, none⟩) 0 0, .slice X1 A C1]).run Try.prog (w.alloc (.cells #[] 5)) = .ok (.slice d1 A e1) w4 ∧
      (Builtin.append_ #[22, 22] 22 #[.slice d1 A e1, .slice x c cx]).run Try.prog w4 = .ok (.slice d2 (A + c) e2) w5 ∧
      (Builtin.append_ #[22, 22] 22 #[.slice d2 (A + c) e2, .slice X3 (b.length - (A + c)) C3]).run Try.prog w5 = .ok (.slice d3 b.length e3) w6 ∧
      w6.ownsRow w.heap.size 5 1 (.slice d3 b.length e3) b.length ((putAt b A c l).map cellOf) ∧ Below w.heap.size w w5 ∧ Below w.heap.size w w6 := by
  have l1 : (b.take A).length = A := by rw [List.length_take]; omega
  have l2 : (l.take c).length = c := by rw [List.length_take]; omega
  have l3 : (b.drop (A + c)).length = b.length - (A + c) := List.length_drop
  obtain ⟨v1, w4, hr1, ho1, hb4⟩ := append_fresh w X1 C1 (b.take A) s1 (by omega)
  obtain ⟨d1, e1, rfl, _⟩ := Sees.of_own ho1
  obtain ⟨v2, w5, hr2, ho2, hb5⟩ := append_own_any w4 w.heap.size _ (b.take A) ho1 x cx (l.take c) ((hx.below hb4).take c) (by omega) hb4.size
  have hB5 := hb5 _ _ hb4 (Nat.le_refl _)
  obtain ⟨d2, e2, rfl, _⟩ := Sees.of_own ho2
  obtain ⟨v3, w6, hr3, ho3, hb6⟩ := append_own_any w5 w.heap.size _ (b.take A ++ l.take c) ho2 X3 C3 (b.drop (A + c)) (s3.below hB5) (by rw [List.length_append]; omega) hB5.size
  have hB6 := hb6 _ _ hB5 (Nat.le_refl _)
  have lp : (b.take A ++ l.take c ++ b.drop (A + c)).length = b.length := putAt_len b A c l hA hc
  obtain ⟨d3, e3, rfl, _⟩ := Sees.of_own ho3
  have l12 : (b.take A ++ l.take c).length = A + c := by rw [List.length_append, l1, l2]
  rw [l1] at hr1 hr2
  rw [l2] at hr2
  rw [l12] at hr2 hr3
  rw [l3, lp] at hr3
  rw [lp] at ho3
  exact ⟨d1, e1, w4, d2, e2, w5, d3, e3, w6, hr1, hr2, hr3, ho3, hB5, hB6⟩

/-- What the store of them leaves. -/
theorem rput_left (w w3 w6 : World) (r : Nat) (t : RS) (v : Value) (G : Nat → Prop) (h : RA w3 r t v) (hG : G r) (ap : Apart G w w3) (d3 : Option Addr) (e3 : Nat) (B : List UInt8) (hB : B.length = t.b.length)
    (ho : w6.ownsRow w3.heap.size 5 1 (.slice d3 t.b.length e3) t.b.length (B.map cellOf)) (hb : Below w3.heap.size w3 w6) :
    Left RF w G r { t with b := B } (w6.setCell ⟨r, 0, none⟩ (.slice d3 t.b.length e3)) := by
  have hr3 : r < w3.heap.size := (Array.getElem?_eq_some_iff.1 h.row).1
  have hr6 := (hb.block r hr3).trans h.row
  have hown : ∀ k, (Value.slice d3 t.b.length e3).ownBlock = some k → w3.heap.size ≤ k ∧ k < w6.heap.size := by
    intro k hk
    rcases ho.2 with ⟨h0, _⟩ | ⟨q, cap, cur, h0, hlow, hq, _⟩
    · rw [h0] at hk; simp [Value.ownBlock] at hk
    · rw [h0] at hk
      obtain rfl : q = k := by simpa [Value.ownBlock] using hk
      exact ⟨hlow, (Array.getElem?_eq_some_iff.1 hq).1⟩
  have ap6 : Apart G w w6 := ⟨hb.os.trans ap.os, hb.tape.trans ap.tape, hb.output.trans ap.output, Nat.le_trans ap.size hb.size, fun k hk hn => (hb.block k (Nat.lt_of_lt_of_le hk ap.size)).trans (ap.block k hk hn)⟩
  refine ⟨fun k => k = r ∨ (Value.slice d3 t.b.length e3).ownBlock = some k, ⟨.slice d3 t.b.length e3, ⟨?_, ?_, by rw [hB]; exact h.small, h.s1, h.s2, h.t1, h.t2⟩, .inl rfl, fun k hk => .inr hk, ?_⟩, ap6.setCell (.inl hG) 0 _, ?_⟩
  · rw [heap_setCell_same _ _ _ _ _ _ hr6]; rfl
  · have ho' : w6.ownsRow 0 5 1 (.slice d3 t.b.length e3) B.length (B.map cellOf) := by
      rw [hB]
      refine ⟨ho.1, ?_⟩
      rcases ho.2 with h0 | ⟨q, cap, cur, h0, hlow, h7⟩
      · exact .inl h0
      · exact .inr ⟨q, cap, cur, h0, Nat.zero_le _, h7⟩
    exact own_keep ho' (fun k hk => heap_setCell_other _ _ _ _ (by rintro rfl; have := (hown k hk).1; omega))
  · rintro k (rfl | hk)
    · have := hb.size; simp; omega
    · simpa using (hown k hk).2
  · rintro k (rfl | hk)
    · exact .inl hG
    · exact .inr (Nat.le_trans ap.size (hown k hk).1)

def rwriteE (t : RS) (a : Int) (l : List UInt8) : Nat := if chk t.dead t.b.length a l.length ≠ 0 then chk t.dead t.b.length a l.length else if t.skip = 0 then 5 else 0
def rcut (t : RS) (L : Nat) : Nat := if t.skip = 0 then min L t.torn.toNat else L
def rwriteT (t : RS) (a : Int) (l : List UInt8) : RS :=
  if chk t.dead t.b.length a l.length ≠ 0 then t else { t with b := putAt t.b a.toNat (rcut t l.length) l, skip := max (t.skip - 1) (-1), dead := decide (t.skip = 0), n := t.n + 1 }

set_option maxHeartbeats 1600000 in
set_option maxRecDepth 20000 in
theorem rwrite_refused (w : World) (r : Nat) (t : RS) (G : Nat → Prop) (h : RF w r t G) (a : Int) (x : Option Addr) (cx : Nat) (l : List UInt8) (hll : l.length ≤ 9223372036854775807) (E : Nat) (hE : E = chk t.dead t.b.length a l.length) (hc : E ≠ 0) :
    Calls Try.prog 10 #[.pointer (some ⟨r, 0, none⟩), .int .i64 a, .slice x l.length cx] w fun e w' => e = .returned (.int .i64 (E : Int)) ∧ w' = w := by
  obtain ⟨v, h, _, _, _⟩ := h
  have c0 := h.c0
  have c3 := h.c3
  have hsm := h.small
  cases hd : t.dead
  · have hE2 : E = 1 ∧ (a < 0 ∨ (l.length : Int) < 0 ∨ (t.b.length : Int) - a < l.length) := by
      unfold chk at hE
      rw [hd, if_neg (by simp)] at hE
      split at hE
      · rename_i hh; exact ⟨hE, hh⟩
      · exact absurd hE hc
    obtain ⟨rfl, hbad⟩ := hE2
    rw [hd] at c3
    obtain ⟨av, cv, rfl, _⟩ := h.sees
    clear h hE hc
    by_cases h0 : a < 0
    · have d0 : decide (a < 0) = true := by simp [h0]
      clear hbad
      go_enter Try.func10, Try.ntmps10
      go_wp2
      go_ret
      exact ⟨rfl, rfl⟩
    have d0 : decide (a < 0) = false := by simp; omega
    by_cases h2 : (t.b.length : Int) < a
    · have d2 : decide ((t.b.length : Int) < a) = true := by simp [h2]
      clear hbad
      go_enter Try.func10, Try.ntmps10
      go_wp2
      go_ret
      exact ⟨rfl, rfl⟩
    have d2 : decide ((t.b.length : Int) < a) = false := by simp; omega
    have d3 : decide ((t.b.length : Int) - a < (l.length : Int)) = true := by simp; omega
    clear hbad
    go_enter Try.func10, Try.ntmps10
    go_wp2
    go_ret
    exact ⟨rfl, rfl⟩
  · obtain rfl : E = 5 := by unfold chk at hE; rw [hd] at hE; exact hE
    rw [hd] at c3
    clear h hE hc
    go_enter Try.func10, Try.ntmps10
    go_wp2
    go_ret
    exact ⟨rfl, rfl⟩
end Go.Proofs.Ytgnllmcgebonpaa
