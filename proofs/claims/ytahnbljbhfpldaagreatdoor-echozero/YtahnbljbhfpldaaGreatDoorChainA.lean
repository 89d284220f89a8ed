/-
  The chain over plain lists; the contracts of isKey, isPlace, isChain, last, down, and of the iterator that goes down a chain.
  The contract of chain.reach: a range over the iterator, left by a label.
-/
import Derived.Test.YtahnbljbhfpldaaGreatDoorKdfB
import Derived.WalkMore
namespace Go.Proofs.YtahnbljbhfpldaaGreatDoor
open Go.ChangeShapes Go.WideShapes Go.ChangeAt Go.RowKit
set_option maxRecDepth 20000

def stepL (k : List UInt8) : List UInt8 := keyOf k chainN []
def backL : Nat → List UInt8 → List UInt8
  | 0, k => k
  | n + 1, k => stepL (backL n k)
theorem backL_len (n : Nat) (k : List UInt8) (h : k.length = 16) : (backL n k).length = 16 := by
  cases n with
  | zero => exact h
  | succ n => exact keyOf_length _ _ _
theorem backL_add (m n : Nat) (k : List UInt8) : backL (m + n) k = backL m (backL n k) := by
  induction m with
  | zero => rw [Nat.zero_add]; rfl
  | succ m ih => rw [Nat.succ_add]; show stepL _ = stepL _; rw [ih]
theorem stepP_eq (k : List UInt8) (h : k.length = 16) : stepP k = (stepL k, 0) := by
  unfold stepP stepL; rw [if_pos h, keyP_ok _ _ _ labels.2.2.1 (by simp) (by omega)]
def seedN : List UInt8 := [115, 101, 101, 100]
def epochN : List UInt8 := [101, 112, 111, 99, 104]
theorem seed_labels : labelL seedN = true ∧ labelL epochN = true := by decide +kernel
def lastL (seed : List UInt8) : List UInt8 := keyOf seed seedN []
theorem lastL_len (seed : List UInt8) : (lastL seed).length = 16 := keyOf_length _ _ _

/-- Where bytes lie, and their room. -/
abbrev Loc := Option Addr × Nat
/-- The keys that were told, from the first one down, still lie there. -/
def Told (W : World) (key : List UInt8) (s : List Loc) : Prop := ∀ i p, s[i]? = some p → Sees W p.1 p.2 (backL i key)
theorem Told.nil (W : World) (key : List UInt8) : Told W key [] := fun i p h => by simp at h
theorem Told.below {W W' : World} {key : List UInt8} {s : List Loc} (h : Told W key s) (hb : Below W.heap.size W W') : Told W' key s := fun i p hi => (h i p hi).below hb
theorem Told.turned {B : Nat} {W W' : World} {key : List UInt8} {s : List Loc} (h : Told W key s) (ht : Turned B W W') : Told W' key s := fun i p hi => ht.sees (h i p hi)
theorem Told.push {W : World} {key : List UInt8} {s : List Loc} (h : Told W key s) (p : Loc) (hp : Sees W p.1 p.2 (backL s.length key)) : Told W key (s ++ [p]) := by
  intro i q hi
  by_cases hlt : i < s.length
  · rw [List.getElem?_append_left hlt] at hi; exact h i q hi
  · rw [List.getElem?_append_right (by omega)] at hi
    by_cases he : i = s.length
    · subst he; simp at hi; subst hi; exact hp
    · have : i - s.length = (i - s.length - 1) + 1 := by omega
      rw [this] at hi; simp at hi

end Go.Proofs.YtahnbljbhfpldaaGreatDoor

namespace Go.Proofs.YtahnbljbhfpldaaGreatDoor
open Go.ChangeShapes Go.WideShapes Go.ChangeAt Go.RowKit Go.Shelf
attribute [local go_sem] Oper.semAt_some

end Go.Proofs.YtahnbljbhfpldaaGreatDoor

namespace Go.Proofs.YtahnbljbhfpldaaGreatDoor
open Go.ChangeShapes Go.WideShapes Go.ChangeAt Go.RowKit Go.Shelf
set_option maxRecDepth 20000
attribute [local go_sem] Oper.semAt_some

/-- Bytes abide a store into a block that holds no byte. -/
theorem Sees.slot {W : World} {a : Option Addr} {cap : Nat} {bs : List UInt8} (h : Sees W a cap bs) {g : Nat} {cur : Array Value} {e : TypeId} {fr : Nat × Nat} (hg : W.heap[g]? = some (.cells cur e fr)) (hv : ∀ (j : Nat) (y : Int), cur[j]? ≠ some (.int .u8 y)) (q : Nat) (u : Value) : Sees (W.setCell ⟨g, q, none⟩ u) a cap bs :=
  ⟨h.fits, h.room, h.bare, fun hne => by
    obtain ⟨b, off, ha, hc⟩ := h.at' hne
    refine ⟨b, off, ha, fun i x hx => ?_⟩
    have h1 := hc i x hx
    have hne2 : b ≠ g := by
      rintro rfl
      rw [cell_of_row W b (off + i) cur e fr hg] at h1
      exact hv _ _ h1
    rw [World.cell?_of_block (w := W) (a := ⟨b, off + i, none⟩) (Below.heap_setCell W ⟨g, q, none⟩ u b (fun e => hne2 (by rw [e]))), h1]⟩
theorem Told.slot {W : World} {key : List UInt8} {s : List Loc} (h : Told W key s) {g : Nat} {cur : Array Value} {e : TypeId} {fr : Nat × Nat} (hg : W.heap[g]? = some (.cells cur e fr)) (hv : ∀ (j : Nat) (y : Int), cur[j]? ≠ some (.int .u8 y)) (q : Nat) (u : Value) : Told (W.setCell ⟨g, q, none⟩ u) key s :=
  fun i p hi => (h i p hi).slot hg hv q u
theorem box_slice (a : Option Addr) (n c : Nat) : ∀ (j : Nat) (y : Int), (#[Value.slice a n c])[j]? ≠ some (.int .u8 y) := by
  intro j y h
  match j, h with
  | 0, h => simp at h
  | k + 1, h => simp at h

/-- Between two rounds of reach: the place is not reached yet. -/
def RI (w : World) (T F : Nat) (a : Option Addr) (ca : Nat) (key : List UInt8) (s : List Loc) (W : World) : Prop :=
  Boxed W w.heap.size 3 (.int .i64 (T : Int)) ∧ Boxed W (w.heap.size + 1) 24 (.slice none 0 0) ∧ Boxed W (w.heap.size + 1 + 1) 3 (.int .i64 (F : Int)) ∧ Boxed W (w.heap.size + 1 + 1 + 1) 24 (.slice a 16 ca) ∧ Told W key s ∧ s.length + T ≤ F ∧ Below w.heap.size w W
/-- .. and once it was. -/
def RX (w : World) (T F : Nat) (key : List UInt8) (W : World) : Prop := ∃ d cd, Boxed W (w.heap.size + 1) 24 (.slice d 16 cd) ∧ Sees W d cd (backL (F - T) key) ∧ Below w.heap.size w W
theorem RI.turned {w : World} {T F : Nat} {a : Option Addr} {ca : Nat} {key : List UInt8} {s : List Loc} {W W' : World} {B : Nat} (h : RI w T F a ca key s W) (hB : w.heap.size ≤ B) (ht : Turned B W W') : RI w T F a ca key s W' := by
  obtain ⟨h1, h2, h3, h4, h5, h6, h7⟩ := h
  exact ⟨ht.boxed h1, ht.boxed h2, ht.boxed h3, ht.boxed h4, h5.turned ht, h6, ht.below h7 hB⟩
theorem RI.below {w : World} {T F : Nat} {a : Option Addr} {ca : Nat} {key : List UInt8} {s : List Loc} {W W' : World} (h : RI w T F a ca key s W) (hb : Below W.heap.size W W') : RI w T F a ca key s W' := by
  obtain ⟨h1, h2, h3, h4, h5, h6, h7⟩ := h
  exact ⟨Boxed.below h1 hb, Boxed.below h2 hb, Boxed.below h3 hb, Boxed.below h4 hb, h5.below hb, h6, h7.trans (hb.mono h7.size)⟩
theorem RX.turned {w : World} {T F : Nat} {key : List UInt8} {W W' : World} {B : Nat} (h : RX w T F key W) (hB : w.heap.size ≤ B) (ht : Turned B W W') : RX w T F key W' := by
  obtain ⟨d, cd, h1, h2, h3⟩ := h
  exact ⟨d, cd, ht.boxed h1, ht.sees h2, ht.below h3 hB⟩
theorem RX.below {w : World} {T F : Nat} {key : List UInt8} {W W' : World} (h : RX w T F key W) (hb : Below W.heap.size W W') : RX w T F key W' := by
  obtain ⟨d, cd, h1, h2, h3⟩ := h
  exact ⟨d, cd, Boxed.below h1 hb, h2.below hb, h3.trans (hb.mono h3.size)⟩

end Go.Proofs.YtahnbljbhfpldaaGreatDoor
