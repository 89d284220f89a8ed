/-
  Appending to a slice of the call's own; the walk of ShaCuts.

  The contracts of the document's Load, Long, Put and PutLong.

  The contracts of the document's turn, mix and Table.
  The contract of the document's Block.
-/
import Derived.Test.YtgncdnejmobjbaaDoorShaE
import Derived.Test.YtgncdnejmobjbaaDoorGround
import Derived.Test.YtgncdnejmobjbaaDoorShaA
import Derived.Test.YtgncdnejmobjbaaDoorShaB
import Derived.Laws.AppendOwnNone
import Derived.Deep.RegionHeld3
import Derived.BigRegion
namespace Go.Proofs.YtgncdnejmobjbaaDoor
open Go.ChangeShapes Go.WideShapes Go.ChangeAt Go.RowKit
set_option maxRecDepth 20000

end Go.Proofs.YtgncdnejmobjbaaDoor

namespace Go.Proofs.YtgncdnejmobjbaaDoor
open Go.ChangeShapes Go.WideShapes Go.ChangeAt Go.RowKit

theorem be_take_lt (l : List UInt8) (k T M : Nat) (hk : k ≤ T) (hM : 256 ^ T = M) : be (l.take k) < M := by
  have h1 := be_lt (l.take k)
  have h2 : (l.take k).length ≤ k := List.length_take_le _ _
  have h3 : 256 ^ (l.take k).length ≤ 256 ^ T := Nat.pow_le_pow_right (by omega) (by omega)
  omega

theorem cells_w4' (x : Nat) : (w4 x).map cellOf = [.int .u8 (IntKind.u8.wrap ((x : Int) / 16777216)), .int .u8 (IntKind.u8.wrap ((x : Int) / 65536)), .int .u8 (IntKind.u8.wrap ((x : Int) / 256)), .int .u8 (IntKind.u8.wrap (x : Int))] := by
  simp only [w4, List.map_cons, List.map_nil, cellOf, UInt8.toNat_ofNat', IntKind.wrap_u8']
  simp

end Go.Proofs.YtgncdnejmobjbaaDoor

namespace Go.Proofs.YtgncdnejmobjbaaDoor
open Go.ChangeShapes Go.WideShapes Go.ChangeAt Go.RowKit

end Go.Proofs.YtgncdnejmobjbaaDoor

namespace Go.Proofs.YtgncdnejmobjbaaDoor
open Go.ChangeShapes Go.WideShapes Go.ChangeAt Go.RowKit
set_option maxRecDepth 20000

/-- Two rows of the call's own: the rounds' words, and words; G is the first's block. -/
structure Rb (w wr : World) (G : Nat) (cs : List Nat) : Prop where
  low : w.heap.size ≤ G
  kt : wr.heap[G]? = some (.cells (kTab.map wcell).toArray 133 (0, 0))
  row : wr.heap[G + 1]? = some (.cells (cs.map wcell).toArray 133 (0, 0))
  bel : Below w.heap.size w wr

theorem Rb.store {w wr : World} {G : Nat} {cs : List Nat} (h : Rb w wr G cs) (k x : Nat) : Rb w (wr.setCell ⟨G + 1, k, none⟩ (.int .u32 (x : Int))) G (cs.set k x) :=
  ⟨h.low, by rw [heap_setCell_other _ _ _ _ (by simp)]; exact h.kt, setCell_words h.row k x, h.bel.setCell (p := ⟨G + 1, k, none⟩) (by have := h.low; show _ ≤ G + 1; omega) _⟩
theorem Rb.drewN {w wr : World} {G : Nat} {cs : List Nat} (h : Rb w wr G cs) (n : Nat) : Rb w (wr.drewN n) G cs := ⟨h.low, h.kt, h.row, below_drewN h.bel n⟩
theorem Rb.on {w wr w2 : World} {G : Nat} {cs : List Nat} (h : Rb w wr G cs) (hb : Below wr.heap.size wr w2) : Rb w w2 G cs := by
  have h1 : G + 1 < wr.heap.size := (Array.getElem?_eq_some_iff.1 h.row).1
  exact ⟨h.low, by rw [hb.block _ (by omega)]; exact h.kt, by rw [hb.block _ h1]; exact h.row, h.bel.trans (hb.mono h.bel.size)⟩
theorem Tryd.info108 : (Tryd.prog.info? 108).map (fun i => (i.zero, i.size, i.bytes)) = some (some (.int .u32 0), 1, 4) := by kernel_rfl
theorem words_oneCell (l : List Nat) : ∀ u ∈ l.map wcell, u.oneCell' = true := by intro u hu; obtain ⟨x, _, rfl⟩ := List.mem_map.1 hu; rfl
theorem Words.news {w : World} {a : Option Addr} {cap : Nat} {l : List Nat} (h : Words w a cap l) : ∀ ad, a = some ad → ∀ j u, (l.map wcell)[j]? = some u → w.cell? (ad.add j) = some u := by
  intro ad had j u hu
  rw [List.getElem?_map] at hu
  obtain ⟨x, hx, rfl⟩ := Option.map_eq_some_iff.1 hu
  obtain ⟨b, off, ha, hc⟩ := h.get hx
  rw [had] at ha
  obtain rfl := Option.some.inj ha
  rw [Addr.add_lit, hc]; rfl
/-- 'append([]uint32{}, l...)'. -/
theorem clone_words (w : World) (ad : Addr) (ca : Nat) (l : List Nat) (ha : Words w (some ad) ca l) (h0 : 0 < l.length) (hl : l.length ≤ 100) :
    ∃ g cap w', (Builtin.append_ #[116, 116] 116 #[.slice (some ⟨w.heap.size, 0, none⟩) 0 0, .slice (some ad) l.length ca]).run Tryd.prog (w.alloc (.cells #[] 108)) = .ok (.slice (some ⟨g, 0, none⟩) l.length cap) w' ∧
      Below w.heap.size w w' ∧ w.heap.size ≤ g ∧ l.length ≤ cap ∧ cap ≤ maxLen ∧ ∀ k x : Nat, l[k]? = some x → w'.cell? ⟨g, k, none⟩ = some (.int .u32 (x : Int)) := by
  obtain ⟨i38, hi, hz0, hz1, hz2⟩ := info_parts Tryd.info108
  have hown0 : (w.alloc (.cells #[] 108)).ownsRow w.heap.size 108 1 (.slice (some ⟨w.heap.size, 0, none⟩) 0 0) 0 [] := World.ownsRow_made w #[] 0 (Nat.le_refl _) (by simp) (by simp)
  have hb0 : Below w.heap.size w (w.alloc (.cells #[] 108)) := (Below.refl _ _).alloc (Nat.le_refl _) _
  obtain ⟨v, w', hrun, ho, hg, _⟩ := run_append_own (P := Tryd.prog) (w.alloc (.cells #[] 108)) w.heap.size 116 116 108 i38 (.int .u32 0) 1 4 Tryd.underlying116 hi hz0 hz1 hz2 rfl (by omega) _ 0 [] hown0 ad l.length ca (l.map wcell) (by simp) ((ha.below hb0).news ad rfl) (words_oneCell l) (by unfold maxLen; omega) (by omega) (by simp)
  rw [Nat.zero_add, List.nil_append] at ho
  rcases ho.2 with ⟨_, hz⟩ | ⟨g, cap, cur, rfl, hlow, hgg, hnc, hcm, _, _⟩
  · omega
  · refine ⟨g, cap, w', by simpa using hrun, hb0.grown hg (by simp) (by intro k h; cases h; exact Nat.le_refl _), hlow, hnc, hcm, fun k x hx => ?_⟩
    have := ho.cells (g := g) rfl k (wcell x) (by simp [hx])
    rw [Addr.add_lit, Nat.zero_add] at this
    exact this
theorem Words.of_row' {w : World} {g : Nat} {l : List Nat} {t : TypeId} {fr : Nat × Nat} (h : w.heap[g]? = some (.cells (l.map wcell).toArray t fr)) (hl : l.length ≤ 100) (hs : ∀ x ∈ l, x < 4294967296) : Words w (some ⟨g, 0, none⟩) l.length l :=
  ⟨Nat.le_refl _, by unfold maxLen; omega, hs, fun _ => ⟨g, 0, rfl, fun i x hx => by rw [Nat.zero_add]; exact cell_words h hx⟩⟩
theorem rnds_len (C : List Nat) (s : S8) (t : Nat) : (rnds C s t).list.length = 8 := rfl

theorem Rb.size {w wr : World} {G : Nat} {cs : List Nat} (h : Rb w wr G cs) : G + 1 < wr.heap.size := (Array.getElem?_eq_some_iff.1 h.row).1

end Go.Proofs.YtgncdnejmobjbaaDoor
