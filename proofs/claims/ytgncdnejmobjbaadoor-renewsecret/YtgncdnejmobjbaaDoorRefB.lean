/-
  The contracts of the document's begin and Of.

  The contracts of the document's pad, Of, Short and Check of layer 3.
  The contracts of the document's Expand, label, Key, Pair, Own, Step and Mac of layer 4.
-/
import Derived.Test.YtgncdnejmobjbaaDoorRefA
import Derived.Test.YtgncdnejmobjbaaDoorPure
import Derived.Test.YtgncdnejmobjbaaDoorShaB
import Derived.Lib.ConvBytes
import Derived.Test.YtgncdnejmobjbaaDoorGround
namespace Go.Proofs.YtgncdnejmobjbaaDoor
open Go.ChangeShapes Go.WideShapes Go.ChangeAt Go.RowKit
set_option maxRecDepth 20000

end Go.Proofs.YtgncdnejmobjbaaDoor

namespace Go.Proofs.YtgncdnejmobjbaaDoor
open Go.ChangeShapes Go.WideShapes Go.ChangeAt Go.RowKit

theorem hmacL_def (key b : List UInt8) : hmacL key b = shaL (outK key ++ shaL (inK key ++ b)) := rfl
theorem own_len (l : List UInt8) (h : l.length = 64) {w : World} {B : Nat} {v : Value} (ho : w.ownsRow B 5 1 v 64 (l.map cellOf)) : w.ownsRow B 5 1 v l.length (l.map cellOf) := by rw [h]; exact ho

end Go.Proofs.YtgncdnejmobjbaaDoor

namespace Go.Proofs.YtgncdnejmobjbaaDoor
open Go.ChangeShapes Go.WideShapes Go.ChangeAt Go.RowKit
set_option maxRecDepth 20000

/-- Bytes and a number are answered; the bytes lie in memory that stays, and nothing older has changed. -/
def Says (w w' : World) (e : Ending) (p : List UInt8 × Nat) : Prop := ∃ d cd r, Hid (r = p.1) ∧ e = .returned (.tuple #[.slice d r.length cd, .int .i64 (p.2 : Int)]) ∧ Sees w' d cd r ∧ Below w.heap.size w w'

theorem Says.nothing {w w' : World} (k : Nat) (hb : Below w.heap.size w w') : Says w w' (.returned (.tuple #[.slice none 0 0, .int .i64 (k : Int)])) ([], k) := ⟨none, 0, [], rfl, rfl, Sees.nil' _, hb⟩

def expandP (key info : List UInt8) (n : Int) : List UInt8 × Nat := if n < 0 ∨ 8160 < n then ([], 1) else if 1000 < info.length ∨ 1048576 < key.length then ([], 2) else (expandL key info n.toNat, 0)

theorem Sees.grown' {w w' : World} {row : Option Nat} {a : Option Addr} {cap : Nat} {l : List UInt8} (h : Sees w a cap l) (hg : w.grownBy w' row) (hav : ∀ b' off, a = some ⟨b', off, none⟩ → l ≠ [] → row ≠ some b') : Sees w' a cap l :=
  ⟨h.fits, h.room, h.bare, fun hne => by
    obtain ⟨b, off, ha, hc⟩ := h.at' hne
    refine ⟨b, off, ha, fun i x hx => ?_⟩
    have h1 := hc i x hx
    rw [hg.cell_far _ (World.block_lt_of_cell? w _ h1) (Ne.symm (hav b off ha hne)), h1]⟩

theorem at_string (s : List UInt8) (k : Nat) (c : UInt8) (h : s[k]? = some c) (W : World) : (Instr.index 9 (.string ⟨s.toArray⟩) (.int .i64 (k : Int))).run Tryd.prog W = .ok (.int .u8 (c.toNat : Int)) W := by
  have hk := (List.getElem?_eq_some_iff.1 h).1
  rw [run_index_string W 9 _ .i64 _ Tryd.underlying9, dif_pos ⟨by omega, by simp [ByteArray.size]; exact hk⟩]
  have : s[k] = c := (List.getElem?_eq_some_iff.1 h).2
  rw [← this]
  simp
  rfl

def okC (c : UInt8) : Bool := decide (97 ≤ c.toNat ∧ c.toNat ≤ 122)
theorem label_take (s : List UInt8) (k : Nat) (c : UInt8) (h : s[k]? = some c) : (s.take (k + 1)).all okC = ((s.take k).all okC && okC c) := by
  rw [List.take_add_one, h]; simp

/-- '[]byte(name)' with a nought behind it. -/
theorem name_zero (w : World) (name : List UInt8) (hn : name.length ≤ 1000) :
    ∃ c w1 d cd w3, (Go.convert 9 22 (.string ⟨name.toArray⟩)).run Tryd.prog w = .ok (.slice (some ⟨w.heap.size, 0, none⟩) name.length c) w1 ∧
      (Builtin.append_ #[22, 22] 22 #[.slice (some ⟨w.heap.size, 0, none⟩) name.length c, .slice (some ⟨w1.heap.size, 0, none⟩) 1 1]).run Tryd.prog (w1.alloc (.cells #[.int .u8 0] 5)) = .ok (.slice d (name.length + 1) cd) w3 ∧
      Sees w3 d cd (name ++ [0]) ∧ Below w.heap.size w w3 := by
  obtain ⟨i5, hi, hz0, hz1, hz2⟩ := info_parts Tryd.info5
  have hcv := Lib.run_convert_string_bytes (P := Tryd.prog) w 9 22 5 (⟨name.toArray⟩ : ByteArray) Tryd.underlying9 Tryd.underlying22 Tryd.underlying5
  have hsz : (⟨name.toArray⟩ : ByteArray).size = name.length := by simp [ByteArray.size]
  rw [hsz] at hcv
  obtain ⟨c, hc⟩ : ∃ c, c = grownCap w name.length 0 5 := ⟨_, rfl⟩
  rw [← hc] at hcv
  have hnc : name.length ≤ c := by rw [hc]; exact grownCap_ge w name.length 0 5
  have hcm : c ≤ maxLen := by rw [hc]; exact grownCap_le_maxLen w name.length 0 5 (by unfold maxLen; omega)
  obtain ⟨w1, hw1⟩ : ∃ w1, w1 = Lib.bytesWorld w 5 (⟨name.toArray⟩ : ByteArray) := ⟨_, rfl⟩
  have hs1 : w1.heap.size = w.heap.size + 1 := by rw [hw1]; exact Lib.bytesWorld_size w 5 _
  have hb1 : Below w.heap.size w w1 := by
    rw [hw1]
    exact ⟨rfl, rfl, rfl, by rw [Lib.bytesWorld_size]; omega, fun k hk => Lib.bytesWorld_at_old w 5 _ k hk⟩
  have hnew := Lib.bytesWorld_at_new w 5 (⟨name.toArray⟩ : ByteArray)
  rw [← hw1] at hcv hnew
  have hcells : (Lib.bytesCells w 5 (⟨name.toArray⟩ : ByteArray)).size = c := by
    simp [Lib.bytesCells, hsz, ← hc]; omega
  have hcell : ∀ (i : Nat) (x : UInt8), name[i]? = some x → w1.cell? ⟨w.heap.size, i, none⟩ = some (.int .u8 (x.toNat : Int)) := fun i x hx => by
    have hi' := (List.getElem?_eq_some_iff.1 hx).1
    rw [hw1, Lib.bytesWorld_cell w 5 _ i (by rw [hsz]; exact hi')]
    simp [hx]
  obtain ⟨w2, hw2⟩ : ∃ w2, w2 = w1.alloc (.cells #[.int .u8 0] 5) := ⟨_, rfl⟩
  have hb2 : Below w1.heap.size w1 w2 := by rw [hw2]; exact (Below.refl _ _).alloc (Nat.le_refl _) _
  have hnews : ∀ j u, ([.int .u8 0] : List Value)[j]? = some u → w2.cell? ((⟨w1.heap.size, 0, none⟩ : Addr).add j) = some u := by rw [hw2]; exact World.news_of_block (heap_alloc_new w1 _)
  have hcell2 : ∀ (i : Nat) (x : UInt8), name[i]? = some x → w2.cell? ⟨w.heap.size, i, none⟩ = some (.int .u8 (x.toNat : Int)) := fun i x hx => by
    rw [hb2.cell (p := ⟨w.heap.size, i, none⟩) (by show w.heap.size < w1.heap.size; omega)]; exact hcell i x hx
  have hnew2 : w2.heap[w.heap.size]? = some (.cells (Lib.bytesCells w 5 (⟨name.toArray⟩ : ByteArray)) 5 ((Lib.bytesCells w 5 (⟨name.toArray⟩ : ByteArray)).size, (Lib.bytesCells w 5 (⟨name.toArray⟩ : ByteArray)).size + 1)) := by
    rw [hb2.block _ (by omega)]; exact hnew
  have hbel2 : Below w.heap.size w w2 := hb1.trans (hb2.mono hb1.size)
  by_cases hr : name.length + 1 ≤ c
  · have hrun := run_append_room_cells (P := Tryd.prog) w2 22 22 5 i5 Tryd.underlying22 hi w.heap.size 0 name.length c ⟨w1.heap.size, 0, none⟩ 1 1 [.int .u8 0] (by rw [hz1]; rfl) hnews (by simp [Value.oneCell']) hr
      (fun j hj => by
        simp at hj; subst hj
        rw [hz1, cell_of_row _ _ _ _ _ _ hnew2]
        simp [hcells]; omega)
      (fun j hj => by
        simp at hj; subst hj
        rw [hz1]
        simp [World.frozen?, hnew2, hcells]; omega)
    rw [hz1] at hrun
    have hset : w2.setCells w.heap.size (0 + name.length * 1) [.int .u8 0] = w2.setCell ⟨w.heap.size, name.length, none⟩ (.int .u8 0) := by simp [World.setCells]
    rw [hset] at hrun
    have hlast : (w2.cell? ⟨w.heap.size, name.length, none⟩).isSome = true := by
      rw [cell_of_row _ _ _ _ _ _ hnew2]; simp [hcells]; omega
    refine ⟨c, w1, _, c, _, hcv, by rw [← hw2]; exact hrun, ⟨by simp; omega, hcm, by simp, fun _ => ⟨w.heap.size, 0, rfl, fun i x hx => ?_⟩⟩, hbel2.setCell (p := ⟨w.heap.size, name.length, none⟩) (Nat.le_refl _) _⟩
    rw [Nat.zero_add]
    by_cases hi2 : i < name.length
    · rw [List.getElem?_append_left hi2] at hx
      rw [World.cell?_setCell_other _ _ _ _ (by intro h; simp at h <;> omega)]
      exact hcell2 i x hx
    · have hie : i = name.length := by
        have := (List.getElem?_eq_some_iff.1 hx).1
        simp at this; omega
      subst hie
      rw [List.getElem?_append_right (Nat.le_refl _), Nat.sub_self] at hx
      have hx0 : x = 0 := by simpa using hx.symm
      rw [hx0, World.cell?_setCell_same' _ _ _ hlast]
      rfl
  · obtain ⟨v, w3, hrun, ho, hg⟩ := run_append_arg_grows (P := Tryd.prog) w2 22 22 5 i5 (.int .u8 0) 1 1 Tryd.underlying22 hi hz0 hz1 hz2 rfl (by omega) ⟨w.heap.size, 0, none⟩ name.length c (name.map cellOf) (by simp)
      (fun j u hu => by
        rw [List.getElem?_map] at hu
        obtain ⟨x, hx, rfl⟩ := Option.map_eq_some_iff.1 hu
        rw [Addr.add_lit, Nat.zero_add]; exact hcell2 j x hx)
      ⟨w1.heap.size, 0, none⟩ 1 1 [.int .u8 0] (by simp) hnews (by omega) (by unfold maxLen; omega) (by omega)
    have ho2 : w3.ownsRow w2.heap.size 5 1 v (name ++ [0]).length ((name ++ [0]).map cellOf) := by simpa [cellOf] using ho
    obtain ⟨d, cd, rfl, hs⟩ := Sees.of_own ho2
    exact ⟨c, w1, d, cd, w3, hcv, by rw [← hw2]; simpa using hrun, hs, hbel2.grown hg hbel2.size (by intro k h; cases h)⟩

def keyP (from_ name : List UInt8) (l : List Nat) : List UInt8 × Nat := if labelL name = false ∨ 16 < l.length then ([], 1) else if 1000 < from_.length then ([], 2) else (keyOf from_ name l, 0)

theorem labelL_len {s : List UInt8} (h : labelL s = true) : s.length ≤ 64 := by unfold labelL at h; simp at h; omega

theorem longs_take (l : List Nat) (k x : Nat) (h : l[k]? = some x) : longsL (l.take (k + 1)) = longsL (l.take k) ++ w4s [x / 4294967296, x % 4294967296] := by
  rw [List.take_add_one, h]; exact longsL_snoc _ _

def nodeP (i : Int) : Bool := decide (0 ≤ i) && decide (i < 8)
def pairN : List UInt8 := [112, 97, 105, 114]
def ownN : List UInt8 := [111, 119, 110]
def chainN : List UInt8 := [99, 104, 97, 105, 110]
def macN : List UInt8 := [109, 97, 99]
def pairP (key : List UInt8) (i j : Int) : List UInt8 × Nat := if nodeP i = true ∧ nodeP j = true ∧ i ≠ j then keyP key pairN [(min i j).toNat, (max i j).toNat] else ([], 1)
def ownP (key : List UInt8) (i : Int) : List UInt8 × Nat := if nodeP i = true then keyP key ownN [i.toNat] else ([], 1)
def stepP (key : List UInt8) : List UInt8 × Nat := if key.length = 16 then keyP key chainN [] else ([], 1)
def macP (key : List UInt8) : List UInt8 × Nat := if key.length = 16 then keyP key macN [] else ([], 1)

theorem Says.on {w w1 w' : World} {e : Ending} {p : List UInt8 × Nat} (h : Says w1 w' e p) (hb : Below w.heap.size w w1) : Says w w' e p := by
  obtain ⟨d, cd, r, h1, h2, h3, h4⟩ := h
  exact ⟨d, cd, r, h1, h2, h3, hb.trans (h4.mono hb.size)⟩

theorem Longs.none' (w : World) : Longs w none 0 [] := ⟨by simp, by simp, by simp, fun h => absurd rfl h⟩

end Go.Proofs.YtgncdnejmobjbaaDoor
