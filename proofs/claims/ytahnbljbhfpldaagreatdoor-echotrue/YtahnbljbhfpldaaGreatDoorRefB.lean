/-
  The contracts of the document's begin and Of.

  The contracts of the document's pad, Of, Short and Check of layer 3.
  The contracts of the document's Expand, label, Key, Pair, Own, Step and Mac of layer 4.
-/
import Derived.Test.YtahnbljbhfpldaaGreatDoorShaE
import Derived.Test.YtahnbljbhfpldaaGreatDoorGround
import Derived.Test.YtahnbljbhfpldaaGreatDoorShaA
import Derived.Test.YtahnbljbhfpldaaGreatDoorShaB
import Derived.Laws.AppendOwnNone
import Derived.Deep.RegionHeld3
import Derived.BigRegion
import Derived.Test.YtahnbljbhfpldaaGreatDoorPure
import Derived.Lib.ConvBytes
namespace Go.Proofs.YtahnbljbhfpldaaGreatDoor
open Go.ChangeShapes Go.WideShapes Go.ChangeAt Go.RowKit
set_option maxRecDepth 20000
def Says (w w' : World) (e : Ending) (p : List UInt8 × Nat) : Prop := ∃ d cd r, Hid (r = p.1) ∧ e = .returned (.tuple #[.slice d r.length cd, .int .i64 (p.2 : Int)]) ∧ Sees w' d cd r ∧ Below w.heap.size w w'
theorem Says.nothing {w w' : World} (k : Nat) (hb : Below w.heap.size w w') : Says w w' (.returned (.tuple #[.slice none 0 0, .int .i64 (k : Int)])) ([], k) := ⟨none, 0, [], rfl, rfl, Sees.nil' _, hb⟩
def expandP (key info : List UInt8) (n : Int) : List UInt8 × Nat := if n < 0 ∨ 8160 < n then ([], 1) else if 1000 < info.length ∨ 1048576 < key.length then ([], 2) else (expandL key info n.toNat, 0)
theorem Sees.grown' {w w' : World} {row : Option Nat} {a : Option Addr} {cap : Nat} {l : List UInt8} (h : Sees w a cap l) (hg : w.grownBy w' row) (hav : ∀ b' off, a = some ⟨b', off, none⟩ → l ≠ [] → row ≠ some b') : Sees w' a cap l :=
  ⟨h.fits, h.room, h.bare, fun hne => by
    obtain ⟨b, off, ha, hc⟩ := h.at' hne
    refine ⟨b, off, ha, fun i x hx => ?_⟩
    have h1 := hc i x hx
    rw [hg.cell_far _ (World.block_lt_of_cell? w _ h1) (Ne.symm (hav b off ha hne)), h1]⟩
def okC (c : UInt8) : Bool := decide (97 ≤ c.toNat ∧ c.toNat ≤ 122)
theorem label_take (s : List UInt8) (k : Nat) (c : UInt8) (h : s[k]? = some c) : (s.take (k + 1)).all okC = ((s.take k).all okC && okC c) := by
  rw [List.take_add_one, h]; simp
def keyP (from_ name : List UInt8) (l : List Nat) : List UInt8 × Nat := if labelL name = false ∨ 16 < l.length then ([], 1) else if 1000 < from_.length then ([], 2) else (keyOf from_ name l, 0)
theorem labelL_len {s : List UInt8} (h : labelL s = true) : s.length ≤ 64 := by unfold labelL at h; simp at h; omega
def nodeP (i : Int) : Bool := decide (0 ≤ i) && decide (i < 8)
def pairN : List UInt8 := [112, 97, 105, 114]
def ownN : List UInt8 := [111, 119, 110]
def chainN : List UInt8 := [99, 104, 97, 105, 110]
def macN : List UInt8 := [109, 97, 99]
def pairP (key : List UInt8) (i j : Int) : List UInt8 × Nat := if nodeP i = true ∧ nodeP j = true ∧ i ≠ j then keyP key pairN [(min i j).toNat, (max i j).toNat] else ([], 1)
def macP (key : List UInt8) : List UInt8 × Nat := if key.length = 16 then keyP key macN [] else ([], 1)
theorem Longs.none' (w : World) : Longs w none 0 [] := ⟨by simp, by simp, by simp, fun h => absurd rfl h⟩
end Go.Proofs.YtahnbljbhfpldaaGreatDoor
