/-
  The contracts of word.Put and word.PutLong.
-/
import Derived.Test.YtgnllmcgebonpaaBytes
import Derived.Test.YtgnllmcgebonpaaMath
import Derived.Test.YtgnllmcgebonpaaBase
import Derived.Deep.QuietTactic
import Derived.BigQuiet
import Derived.Deep.RegionHeld3
import Derived.Deep.AppendLies
import Derived.Deep.Onto
namespace Go.Proofs.Ytgnllmcgebonpaa
open Go.ChangeShapes Go.WideShapes Go.ChangeAt Go.RowKit


/-- The slice '.slice a l.length cap' reads as words. -/
structure Words (w : World) (a : Option Addr) (cap : Nat) (l : List Nat) : Prop where
  fits : l.length ≤ cap
  room : cap ≤ maxLen
  small : ∀ x ∈ l, x < 4294967296
  at' : l ≠ [] → ∃ b off, a = some ⟨b, off, none⟩ ∧ ∀ (i x : Nat), l[i]? = some x → w.cell? ⟨b, off + i, none⟩ = some (.int .u32 (x : Int))

theorem Words.get {w : World} {a : Option Addr} {cap : Nat} {l : List Nat} (h : Words w a cap l) {k x : Nat} (hx : l[k]? = some x) :
    ∃ b off, a = some ⟨b, off, none⟩ ∧ w.cell? ⟨b, off + k, none⟩ = some (.int .u32 (x : Int)) := by
  obtain ⟨b, off, ha, hc⟩ := h.at' (by rintro rfl; simp at hx)
  exact ⟨b, off, ha, hc k x hx⟩

theorem Words.below {w w' : World} {a : Option Addr} {cap : Nat} {l : List Nat} (h : Words w a cap l) (hb : Below w.heap.size w w') : Words w' a cap l :=
  ⟨h.fits, h.room, h.small, fun hne => by
    obtain ⟨b, off, ha, hc⟩ := h.at' hne
    refine ⟨b, off, ha, fun i x hx => ?_⟩
    have h1 := hc i x hx
    rw [hb.cell (p := ⟨b, off + i, none⟩) (World.block_lt_of_cell? w _ h1), h1]⟩

theorem Words.lit (w : World) (t : TypeId) (l : List Nat) (hl : l.length ≤ 100) (hs : ∀ x ∈ l, x < 4294967296) :
    Words (w.alloc (.cells (l.map fun x : Nat => Value.int .u32 (x : Int)).toArray t)) (some ⟨w.heap.size, 0, none⟩) l.length l :=
  ⟨Nat.le_refl _, by unfold maxLen; omega, hs, fun _ => ⟨w.heap.size, 0, rfl, fun i x hx => by
    have h := World.news_of_block (w := w.alloc (.cells (l.map fun x : Nat => Value.int .u32 (x : Int)).toArray t)) (cs := (l.map fun x : Nat => Value.int .u32 (x : Int)).toArray) (t := t) (fr := (0, 0)) (heap_alloc_new w _) i (.int .u32 (x : Int)) (by simp [hx])
    rw [Addr.add_lit] at h
    exact h⟩⟩

/-- The four cells of a word, as the program reckons them. -/
theorem cells_w4 (x : Nat) (h : x < 4294967296) : (w4 x).map cellOf = [.int .u8 ((x : Int) / 16777216), .int .u8 ((x : Int) / 65536 % 256), .int .u8 ((x : Int) / 256 % 256), .int .u8 ((x : Int) % 256)] := by
  have h1 : (x : Int) / 16777216 = ((x / 16777216 % 256 : Nat) : Int) := by omega
  simp only [w4, List.map_cons, List.map_nil, cellOf, UInt8.toNat_ofNat', h1]
  simp

set_option maxHeartbeats 800000 in
set_option maxRecDepth 20000 in
theorem put_own (w : World) (a c : Option Addr) (ca cc : Nat) (bs : List UInt8) (l : List Nat) (ha : Sees w a ca bs) (hc : Words w c cc l) (hr : bs.length ≤ 140737488353000) (hl : l.length ≤ 100) :
    Calls Try.prog 53 #[.slice a bs.length ca, .slice c l.length cc] w fun e w' => ∃ d cd r, Hid (r = bs ++ w4s l) ∧ e = .returned (.slice d r.length cd) ∧ Sees w' d cd r ∧ Below w.heap.size w w' ∧ w'.ownsRow w.heap.size 5 1 (.slice d r.length cd) r.length (r.map cellOf) := by
  obtain ⟨i5, hi, hz0, hz1, hz2⟩ := info_parts Try.info5
  go_enter Try.func53, Try.ntmps53
  go_wp2_with (at_make; refine wpList_make_own _ rfl _ _ 22 rfl w.heap.size 5 i5 (.int .u8 0) 1 Try.underlying22 hi hz0 hz1 .i64 .i64 _ (bs.length + 4 * l.length) rfl rfl ?bc ?b2 ?b3 ?b4 ?_)
  case bc => omega
  case b2 => rw [hz2]; omega
  case b3 => unfold maxLen; omega
  case b4 => exact Nat.le_refl _
  intro w1 hown hgrow
  have hbel : Below w.heap.size w w1 := (Below.refl _ _).grown hgrow (Nat.le_refl _) (by intro k h; cases h)
  clear hgrow
  have ha1 := ha.below hbel
  go_wp2_with (at_builtin; refine wpList_append_fits_any _ rfl _ _ 22 rfl w.heap.size 5 i5 1 Try.underlying22 hi hz1 w.heap.size 0 (bs.length + 4 * l.length) [] rfl hown a bs.length ca (bs.map cellOf) rfl ?d1 ?d2 ?d3 ?d4 ?d5 ?_)
  case d1 => simp
  case d2 => intro h; have := ha.bare h; have := ha.fits; omega
  case d3 => exact ha1.news
  case d4 => exact bytes_oneCell bs
  case d5 => omega
  intro w2 hown2 hgrow2
  have hbel2 : Below w.heap.size w w2 := hbel.grown hgrow2 hbel.size (by intro k h; cases h; exact Nat.le_refl _)
  clear hgrow2 hown ha1
  go_wp2
  go_loopw [5, 20] (fun v i wr => ∃ k : Nat, k ≤ l.length ∧ i = .int .i64 k ∧ v = .slice (some ⟨w.heap.size, 0, none⟩) (bs.length + 4 * k) (bs.length + 4 * l.length) ∧
      wr.ownsRow w.heap.size 5 1 (.slice (some ⟨w.heap.size, 0, none⟩) (bs.length + 4 * k) (bs.length + 4 * l.length)) (bs.length + 4 * k) ((bs ++ w4s (l.take k)).map cellOf) ∧ Below w.heap.size w wr)
    (fun _ i _ => l.length - (intOf i).toNat)
  case atStart => exact ⟨0, Nat.zero_le _, rfl, rfl, by simpa [w4s] using hown2, hbel2⟩
  case round =>
    obtain ⟨k, hk, rfl, rfl, ho, hbl⟩ := hrel
    clear hown2 hbel2
    by_cases hlt : k < l.length
    · obtain ⟨x, hx⟩ : ∃ x, l[k]? = some x := ⟨l[k], by simp [hlt]⟩
      obtain ⟨b1, o1, rfl, hc1⟩ := (hc.below hbl).get hx
      have hxs := hc.small x (List.mem_of_getElem? hx)
      have HS : Hid ((bs ++ w4s (l.take (k + 1))).map cellOf = (bs ++ w4s (l.take k)).map cellOf ++ (w4 x).map cellOf) := by
        rw [take_snoc l k x hx, w4s_snoc, ← List.append_assoc, List.map_append]
        exact rfl
      have hsz := hbl.size
      clear hx
      go_wp2_with (at_builtin; refine wpList_append_fits _ rfl _ _ 22 rfl w.heap.size 5 i5 1 Try.underlying22 hi hz1 w.heap.size (bs.length + 4 * k) (bs.length + 4 * l.length) _ rfl (ho.alloc _) ⟨wr.heap.size, 0, none⟩ 4 4 ((w4 x).map cellOf) rfl ?f1 ?f2 ?f3 ?f4 ?_)
      case f1 => rfl
      case f2 => rw [cells_w4 x hxs]; exact World.news_of_block (heap_alloc_new wr _)
      case f3 => exact bytes_oneCell _
      case f4 => omega
      intro w3 ho3 hg3
      have hbl3 : Below w.heap.size w w3 := (hbl.alloc hsz _).grown hg3 (by simp; omega) (by intro k h; cases h; exact Nat.le_refl _)
      have ho4 : w3.ownsRow w.heap.size 5 1 (.slice (some ⟨w.heap.size, 0, none⟩) (bs.length + 4 * k + 4) (bs.length + 4 * l.length)) (bs.length + 4 * k + 4) ((bs ++ w4s (l.take (k + 1))).map cellOf) := by
        rw [HS.out]; simpa using ho3
      clear hg3 ho ho3
      go_wp2
      go_roundw
      case rel => exact ⟨k + 1, by omega, by go_num, by rw [Nat.mul_add, Nat.add_assoc], by rw [Nat.mul_add, ← Nat.add_assoc]; exact ho4, hbl3⟩
      case measure => simp [intOf]; omega
    · obtain rfl : k = l.length := by omega
      rw [List.take_length] at ho
      obtain ⟨r, hr'⟩ : ∃ r, r = bs ++ w4s l := ⟨_, rfl⟩
      rw [← hr'] at ho
      have HR : Hid (r = bs ++ w4s l) := hr'
      clear hr'
      obtain ⟨d, cd, hv, hs⟩ := Sees.of_own ho
      have hn : bs.length + 4 * l.length = r.length := by have := ho.1; simp at this; omega
      rw [hv, hn] at ho
      rw [hv]
      clear hn
      go_wp2
      go_ret
      exact ⟨d, cd, r, HR, rfl, hs, hbl, ho⟩

theorem put_any (w : World) (a c : Option Addr) (ca cc : Nat) (bs : List UInt8) (l : List Nat) (ha : Sees w a ca bs) (hc : Words w c cc l) (hr : bs.length ≤ 140737488353000) (hl : l.length ≤ 100) :
    Calls Try.prog 53 #[.slice a bs.length ca, .slice c l.length cc] w fun e w' => ∃ d cd r, Hid (r = bs ++ w4s l) ∧ e = .returned (.slice d r.length cd) ∧ Sees w' d cd r ∧ Below w.heap.size w w' :=
  (put_own w a c ca cc bs l ha hc hr hl).mono fun _ _ ⟨d, cd, r, h1, h2, h3, h4, _⟩ => ⟨d, cd, r, h1, h2, h3, h4⟩

end Go.Proofs.Ytgnllmcgebonpaa
