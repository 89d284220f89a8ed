/-
  The contracts of word.Load, word.Long and of the document's.

  The contracts of word.Put and word.PutLong.

  The contracts of the document's Load, Long, Put and PutLong.
-/
import Derived.Test.YtjmbioedpghopaaRows
import Derived.Test.YtjmbioedpghopaaPure
import Derived.Test.YtjmbioedpghopaaGround
import Derived.Deep.QuietTactic
import Derived.BigQuiet
import Derived.Deep.RegionHeld3
import Derived.Deep.AppendLies
import Derived.Deep.Onto
import Derived.Laws.AppendOwnNone
namespace Go.Proofs.Ytjmbioedpghopaa
open Go.ChangeShapes Go.WideShapes Go.ChangeAt Go.RowKit

theorem or8 (x c : Nat) (hc : c < 256) : x * 256 ||| c = x * 256 + c := by
  have := Nat.shiftLeft_add_eq_or_of_lt (i := 8) (b := c) (by omega) x
  rw [Nat.shiftLeft_eq, show (2 : Nat) ^ 8 = 256 from rfl] at this
  exact this.symm

theorem or_u32 (x : Nat) (c : UInt8) (hx : x < 16777216) : bits .or .u32 ((x : Int) * 256) (c.toNat : Int) = ((x * 256 + c.toNat : Nat) : Int) := by
  have hc := c.toNat_lt
  rw [show (x : Int) * 256 = ((x * 256 : Nat) : Int) from by omega, u32_or_nat _ _ (by omega) (by omega), or8 x _ (by omega)]

theorem or_u64 (x : Nat) (c : UInt8) (hx : x < 72057594037927936) : bits .or .u64 ((x : Int) * 256) (c.toNat : Int) = ((x * 256 + c.toNat : Nat) : Int) := by
  have hc := c.toNat_lt
  rw [show (x : Int) * 256 = ((x * 256 : Nat) : Int) from by omega, u64_or_nat _ _ (by omega) (by omega), or8 x _ (by omega)]

set_option maxHeartbeats 400000 in
set_option maxRecDepth 20000 in
theorem load32_yes (w : World) (a : Option Addr) (cap : Nat) (bs : List UInt8) (p : Nat) (h : Sees w a cap bs) (hp : p + 4 ≤ bs.length) :
    Calls Try.prog 73 #[.slice a bs.length cap, .int .i64 p, .int .i64 4] w fun e w' => e = .returned (.tuple #[.int .u32 (be ((bs.drop p).take 4) : Nat), .int .i64 0]) ∧ w' = w := by
  have hfit := h.fits
  have hroom := h.room
  unfold maxLen at hroom
  obtain ⟨b, off, rfl, hcell⟩ := h.at' (by rintro rfl; simp at hp)
  have Hc : Hid (∀ i x, bs[i]? = some x → w.cell? ⟨b, off + i, none⟩ = some (.int .u8 x.toNat)) := hcell
  have d1 : decide ((p : Int) < 0) = false := by simp
  have d2 : decide ((bs.length : Int) - 4 < (p : Int)) = false := by simp; omega
  clear h hcell
  go_enter Try.func73, Try.ntmps73
  go_wp2
  go_loop [8, 28] (fun x i => ∃ k : Nat, k ≤ 4 ∧ i = .int .i64 k ∧ x = .int .u32 (be ((bs.drop p).take k) : Nat)) (fun _ i => 4 - (intOf i).toNat)
  case atStart => exact ⟨0, by omega, rfl, rfl⟩
  case round =>
    obtain ⟨k, hk, rfl, rfl⟩ := hrel
    by_cases hlt : k < 4
    · obtain ⟨c, hc⟩ : ∃ c, bs[p + k]? = some c := ⟨bs[p + k]'(by omega), by simp [show p + k < bs.length by omega]⟩
      have hcl : w.cell? ⟨b, off + p + k, none⟩ = some (.int .u8 c.toNat) := by rw [Nat.add_assoc]; exact Hc.out _ c hc
      have hdk : (bs.drop p)[k]? = some c := by rw [List.getElem?_drop]; exact hc
      obtain ⟨x, hx⟩ : ∃ x, x = be ((bs.drop p).take k) := ⟨_, rfl⟩
      have hxl : x < 16777216 := by
        have h1 := be_lt ((bs.drop p).take k)
        have h2 : ((bs.drop p).take k).length ≤ k := List.length_take_le _ _
        have h3 : 256 ^ ((bs.drop p).take k).length ≤ 256 ^ 3 := Nat.pow_le_pow_right (by omega) (by omega)
        rw [hx]; have h4 : (256 : Nat) ^ 3 = 16777216 := by decide
        omega
      have e1 := or_u32 x c hxl
      have HS : Hid (be ((bs.drop p).take (k + 1)) = x * 256 + c.toNat) := by
        rw [take_snoc _ k c hdk, be_snoc, hx]; exact rfl
      have hcb := c.toNat_lt
      rw [← hx]
      clear hc hdk hx
      go_wp2
      go_round
      case rel => exact ⟨k + 1, by omega, by go_num, by rw [HS.out]; go_num⟩
      case measure => simp [intOf]; omega
    · obtain rfl : k = 4 := by omega
      go_wp2
      go_ret2
      exact ⟨rfl, rfl⟩

set_option maxHeartbeats 400000 in
set_option maxRecDepth 20000 in
theorem Load32_yes (w : World) (a : Option Addr) (cap : Nat) (bs : List UInt8) (p : Nat) (h : Sees w a cap bs) (hp : p + 4 ≤ bs.length) :
    Calls Try.prog 59 #[.slice a bs.length cap, .int .i64 p] w fun e w' => e = .returned (.tuple #[.int .u32 (be ((bs.drop p).take 4) : Nat), .int .i64 0]) ∧ w' = w := by
  go_enter Try.func59, Try.ntmps59
  go_wp2_with fail
  refine (load32_yes w a cap bs p h hp).mono ?_
  rintro e w' ⟨rfl, rfl⟩
  go_wp2
  go_ret2
  exact ⟨rfl, rfl⟩

end Go.Proofs.Ytjmbioedpghopaa

namespace Go.Proofs.Ytjmbioedpghopaa
open Go.ChangeShapes Go.WideShapes Go.ChangeAt Go.RowKit


/-- The slice '.slice a l.length cap' reads as words. -/
structure Words (w : World) (a : Option Addr) (cap : Nat) (l : List Nat) : Prop where
  fits : l.length ≤ cap
  room : cap ≤ maxLen
  small : ∀ x ∈ l, x < 4294967296
  at' : l ≠ [] → ∃ b off, a = some ⟨b, off, none⟩ ∧ ∀ (i x : Nat), l[i]? = some x → w.cell? ⟨b, off + i, none⟩ = some (.int .u32 (x : Int))

theorem Words.get {w : World} {a : Option Addr} {cap : Nat} {l : List Nat} (h : Words w a cap l) {k x : Nat} (hx : l[k]? = some x) :
    ∃ b off, a = some ⟨b, off, none⟩ ∧ w.cell? ⟨b, off + k, none⟩ = some (.int .u32 (x : Int)) := by
  obtain ⟨b, off, ha, hc⟩ := h.at' (by rintro rfl; simp at hx)
  exact ⟨b, off, ha, hc k x hx⟩

theorem Words.below {w w' : World} {a : Option Addr} {cap : Nat} {l : List Nat} (h : Words w a cap l) (hb : Below w.heap.size w w') : Words w' a cap l :=
  ⟨h.fits, h.room, h.small, fun hne => by
    obtain ⟨b, off, ha, hc⟩ := h.at' hne
    refine ⟨b, off, ha, fun i x hx => ?_⟩
    have h1 := hc i x hx
    rw [hb.cell (p := ⟨b, off + i, none⟩) (World.block_lt_of_cell? w _ h1), h1]⟩

theorem Words.lit (w : World) (t : TypeId) (l : List Nat) (hl : l.length ≤ 100) (hs : ∀ x ∈ l, x < 4294967296) :
    Words (w.alloc (.cells (l.map fun x : Nat => Value.int .u32 (x : Int)).toArray t)) (some ⟨w.heap.size, 0, none⟩) l.length l :=
  ⟨Nat.le_refl _, by unfold maxLen; omega, hs, fun _ => ⟨w.heap.size, 0, rfl, fun i x hx => by
    have h := World.news_of_block (w := w.alloc (.cells (l.map fun x : Nat => Value.int .u32 (x : Int)).toArray t)) (cs := (l.map fun x : Nat => Value.int .u32 (x : Int)).toArray) (t := t) (fr := (0, 0)) (heap_alloc_new w _) i (.int .u32 (x : Int)) (by simp [hx])
    rw [Addr.add_lit] at h
    exact h⟩⟩

/-- The four cells of a word, as the program reckons them. -/
theorem cells_w4 (x : Nat) (h : x < 4294967296) : (w4 x).map cellOf = [.int .u8 ((x : Int) / 16777216), .int .u8 ((x : Int) / 65536 % 256), .int .u8 ((x : Int) / 256 % 256), .int .u8 ((x : Int) % 256)] := by
  have h1 : (x : Int) / 16777216 = ((x / 16777216 % 256 : Nat) : Int) := by omega
  simp only [w4, List.map_cons, List.map_nil, cellOf, UInt8.toNat_ofNat', h1]
  simp

set_option maxHeartbeats 800000 in
set_option maxRecDepth 20000 in
theorem put_own (w : World) (a c : Option Addr) (ca cc : Nat) (bs : List UInt8) (l : List Nat) (ha : Sees w a ca bs) (hc : Words w c cc l) (hr : bs.length ≤ 140737488353000) (hl : l.length ≤ 100) :
    Calls Try.prog 53 #[.slice a bs.length ca, .slice c l.length cc] w fun e w' => ∃ d cd r, Hid (r = bs ++ w4s l) ∧ e = .returned (.slice d r.length cd) ∧ Sees w' d cd r ∧ Below w.heap.size w w' ∧ w'.ownsRow w.heap.size 5 1 (.slice d r.length cd) r.length (r.map cellOf) := by
  obtain ⟨i5, hi, hz0, hz1, hz2⟩ := info_parts Try.info5
  go_enter Try.func53, Try.ntmps53
  go_wp2_with (at_make; refine wpList_make_own _ rfl _ _ 22 rfl w.heap.size 5 i5 (.int .u8 0) 1 Try.underlying22 hi hz0 hz1 .i64 .i64 _ (bs.length + 4 * l.length) rfl rfl ?bc ?b2 ?b3 ?b4 ?_)
  case bc => omega
  case b2 => rw [hz2]; omega
  case b3 => unfold maxLen; omega
  case b4 => exact Nat.le_refl _
  intro w1 hown hgrow
  have hbel : Below w.heap.size w w1 := (Below.refl _ _).grown hgrow (Nat.le_refl _) (by intro k h; cases h)
  clear hgrow
  have ha1 := ha.below hbel
  go_wp2_with (at_builtin; refine wpList_append_fits_any _ rfl _ _ 22 rfl w.heap.size 5 i5 1 Try.underlying22 hi hz1 w.heap.size 0 (bs.length + 4 * l.length) [] rfl hown a bs.length ca (bs.map cellOf) rfl ?d1 ?d2 ?d3 ?d4 ?d5 ?_)
  case d1 => simp
  case d2 => intro h; have := ha.bare h; have := ha.fits; omega
  case d3 => exact ha1.news
  case d4 => exact bytes_oneCell bs
  case d5 => omega
  intro w2 hown2 hgrow2
  have hbel2 : Below w.heap.size w w2 := hbel.grown hgrow2 hbel.size (by intro k h; cases h; exact Nat.le_refl _)
  clear hgrow2 hown ha1
  go_wp2
  go_loopw [5, 20] (fun v i wr => ∃ k : Nat, k ≤ l.length ∧ i = .int .i64 k ∧ v = .slice (some ⟨w.heap.size, 0, none⟩) (bs.length + 4 * k) (bs.length + 4 * l.length) ∧
      wr.ownsRow w.heap.size 5 1 (.slice (some ⟨w.heap.size, 0, none⟩) (bs.length + 4 * k) (bs.length + 4 * l.length)) (bs.length + 4 * k) ((bs ++ w4s (l.take k)).map cellOf) ∧ Below w.heap.size w wr)
    (fun _ i _ => l.length - (intOf i).toNat)
  case atStart => exact ⟨0, Nat.zero_le _, rfl, rfl, by simpa [w4s] using hown2, hbel2⟩
  case round =>
    obtain ⟨k, hk, rfl, rfl, ho, hbl⟩ := hrel
    clear hown2 hbel2
    by_cases hlt : k < l.length
    · obtain ⟨x, hx⟩ : ∃ x, l[k]? = some x := ⟨l[k], by simp [hlt]⟩
      obtain ⟨b1, o1, rfl, hc1⟩ := (hc.below hbl).get hx
      have hxs := hc.small x (List.mem_of_getElem? hx)
      have HS : Hid ((bs ++ w4s (l.take (k + 1))).map cellOf = (bs ++ w4s (l.take k)).map cellOf ++ (w4 x).map cellOf) := by
        rw [take_snoc l k x hx, w4s_snoc, ← List.append_assoc, List.map_append]
        exact rfl
      have hsz := hbl.size
      clear hx
      go_wp2_with (at_builtin; refine wpList_append_fits _ rfl _ _ 22 rfl w.heap.size 5 i5 1 Try.underlying22 hi hz1 w.heap.size (bs.length + 4 * k) (bs.length + 4 * l.length) _ rfl (ho.alloc _) ⟨wr.heap.size, 0, none⟩ 4 4 ((w4 x).map cellOf) rfl ?f1 ?f2 ?f3 ?f4 ?_)
      case f1 => rfl
      case f2 => rw [cells_w4 x hxs]; exact World.news_of_block (heap_alloc_new wr _)
      case f3 => exact bytes_oneCell _
      case f4 => omega
      intro w3 ho3 hg3
      have hbl3 : Below w.heap.size w w3 := (hbl.alloc hsz _).grown hg3 (by simp; omega) (by intro k h; cases h; exact Nat.le_refl _)
      have ho4 : w3.ownsRow w.heap.size 5 1 (.slice (some ⟨w.heap.size, 0, none⟩) (bs.length + 4 * k + 4) (bs.length + 4 * l.length)) (bs.length + 4 * k + 4) ((bs ++ w4s (l.take (k + 1))).map cellOf) := by
        rw [HS.out]; simpa using ho3
      clear hg3 ho ho3
      go_wp2
      go_roundw
      case rel => exact ⟨k + 1, by omega, by go_num, by rw [Nat.mul_add, Nat.add_assoc], by rw [Nat.mul_add, ← Nat.add_assoc]; exact ho4, hbl3⟩
      case measure => simp [intOf]; omega
    · obtain rfl : k = l.length := by omega
      rw [List.take_length] at ho
      obtain ⟨r, hr'⟩ : ∃ r, r = bs ++ w4s l := ⟨_, rfl⟩
      rw [← hr'] at ho
      have HR : Hid (r = bs ++ w4s l) := hr'
      clear hr'
      obtain ⟨d, cd, hv, hs⟩ := Sees.of_own ho
      have hn : bs.length + 4 * l.length = r.length := by have := ho.1; simp at this; omega
      rw [hv, hn] at ho
      rw [hv]
      clear hn
      go_wp2
      go_ret
      exact ⟨d, cd, r, HR, rfl, hs, hbl, ho⟩

theorem put_any (w : World) (a c : Option Addr) (ca cc : Nat) (bs : List UInt8) (l : List Nat) (ha : Sees w a ca bs) (hc : Words w c cc l) (hr : bs.length ≤ 140737488353000) (hl : l.length ≤ 100) :
    Calls Try.prog 53 #[.slice a bs.length ca, .slice c l.length cc] w fun e w' => ∃ d cd r, Hid (r = bs ++ w4s l) ∧ e = .returned (.slice d r.length cd) ∧ Sees w' d cd r ∧ Below w.heap.size w w' :=
  (put_own w a c ca cc bs l ha hc hr hl).mono fun _ _ ⟨d, cd, r, h1, h2, h3, h4, _⟩ => ⟨d, cd, r, h1, h2, h3, h4⟩

end Go.Proofs.Ytjmbioedpghopaa

namespace Go.Proofs.Ytjmbioedpghopaa
open Go.ChangeShapes Go.WideShapes Go.ChangeAt Go.RowKit

theorem be_take_lt (l : List UInt8) (k T M : Nat) (hk : k ≤ T) (hM : 256 ^ T = M) : be (l.take k) < M := by
  have h1 := be_lt (l.take k)
  have h2 : (l.take k).length ≤ k := List.length_take_le _ _
  have h3 : 256 ^ (l.take k).length ≤ 256 ^ T := Nat.pow_le_pow_right (by omega) (by omega)
  omega

set_option maxHeartbeats 400000 in
set_option maxRecDepth 20000 in
theorem refload_yes (w : World) (a : Option Addr) (cap S : Nat) (bs : List UInt8) (p : Nat) (h : Sees w a cap bs) (hS0 : 0 < S) (hS : S ≤ 8) (hp : p + S ≤ bs.length) :
    Calls Try.prog 50 #[.slice a bs.length cap, .int .i64 p, .int .i64 S] w fun e w' => e = .returned (.tuple #[.int .u64 (be ((bs.drop p).take S) : Nat), .int .i64 0]) ∧ w' = w := by
  have hfit := h.fits
  have hroom := h.room
  unfold maxLen at hroom
  obtain ⟨b, off, rfl, hcell⟩ := h.at' (by rintro rfl; simp at hp; omega)
  have Hc : Hid (∀ i x, bs[i]? = some x → w.cell? ⟨b, off + i, none⟩ = some (.int .u8 x.toNat)) := hcell
  have d1 : decide ((p : Int) < 0) = false := by simp
  have d2 : decide ((bs.length : Int) - S < (p : Int)) = false := by simp; omega
  clear h hcell
  go_enter Try.func50, Try.ntmps50
  go_wp2
  go_loop [8, 9] (fun x i => ∃ k : Nat, k ≤ S ∧ i = .int .i64 k ∧ x = .int .u64 (be ((bs.drop p).take k) : Nat)) (fun _ i => S - (intOf i).toNat)
  case atStart => exact ⟨0, by omega, rfl, rfl⟩
  case round =>
    obtain ⟨k, hk, rfl, rfl⟩ := hrel
    by_cases hlt : k < S
    · obtain ⟨c, hc⟩ : ∃ c, bs[p + k]? = some c := ⟨bs[p + k]'(by omega), by simp [show p + k < bs.length by omega]⟩
      have hcl : w.cell? ⟨b, off + (p + k), none⟩ = some (.int .u8 c.toNat) := Hc.out _ c hc
      have hdk : (bs.drop p)[k]? = some c := by rw [List.getElem?_drop]; exact hc
      obtain ⟨x, hx⟩ : ∃ x, x = be ((bs.drop p).take k) := ⟨_, rfl⟩
      have hxl : x < 72057594037927936 := by rw [hx]; exact be_take_lt _ k 7 _ (by omega) (by decide)
      have e1 := or_u64 x c hxl
      have HS : Hid (be ((bs.drop p).take (k + 1)) = x * 256 + c.toNat) := by
        rw [take_snoc _ k c hdk, be_snoc, hx]; exact rfl
      have hcb := c.toNat_lt
      rw [← hx]
      clear hc hdk hx
      go_wp2
      go_round
      case rel => exact ⟨k + 1, by omega, by go_num, by rw [HS.out]; go_num⟩
      case measure => simp [intOf]; omega
    · obtain rfl : k = S := by omega
      go_wp2
      go_ret2
      exact ⟨rfl, rfl⟩

set_option maxHeartbeats 400000 in
set_option maxRecDepth 20000 in
theorem RefLoad_yes (w : World) (a : Option Addr) (cap : Nat) (bs : List UInt8) (p : Nat) (h : Sees w a cap bs) (hp : p + 4 ≤ bs.length) :
    Calls Try.prog 34 #[.slice a bs.length cap, .int .i64 p] w fun e w' => e = .returned (.tuple #[.int .u32 (be ((bs.drop p).take 4) : Nat), .int .i64 0]) ∧ w' = w := by
  have hb : be ((bs.drop p).take 4) < 4294967296 := be_take_lt _ 4 4 _ (by omega) (by decide)
  go_enter Try.func34, Try.ntmps34
  go_wp2_with fail
  refine (refload_yes w a cap 4 bs p h (by omega) (by omega) hp).mono ?_
  rintro e w' ⟨rfl, rfl⟩
  go_wp2
  go_ret2
  exact ⟨rfl, rfl⟩

theorem cells_w4' (x : Nat) : (w4 x).map cellOf = [.int .u8 (IntKind.u8.wrap ((x : Int) / 16777216)), .int .u8 (IntKind.u8.wrap ((x : Int) / 65536)), .int .u8 (IntKind.u8.wrap ((x : Int) / 256)), .int .u8 (IntKind.u8.wrap (x : Int))] := by
  simp only [w4, List.map_cons, List.map_nil, cellOf, UInt8.toNat_ofNat', IntKind.wrap_u8']
  simp

set_option maxHeartbeats 1600000 in
/-- The loop of the document's Put, from whatever slice the call owns. -/
theorem refput_own (w : World) (a c : Option Addr) (ca cc : Nat) (bs : List UInt8) (l : List Nat) (ha : Sees w a ca bs) (hc : Words w c cc l) (hr : bs.length ≤ 140737488353000) (hl : l.length ≤ 100) :
    Calls Try.prog 55 #[.slice a bs.length ca, .slice c l.length cc] w fun e w' => ∃ d cd r, Hid (r = bs ++ w4s l) ∧ e = .returned (.slice d r.length cd) ∧ Sees w' d cd r ∧ Below w.heap.size w w' ∧ w'.ownsRow w.heap.size 5 1 (.slice d r.length cd) r.length (r.map cellOf) := by
  obtain ⟨i5, hi, hz0, hz1, hz2⟩ := info_parts Try.info5
  have hown0 : (w.alloc (.cells #[] 5)).ownsRow w.heap.size 5 1 (.slice (some ⟨w.heap.size, 0, none⟩) 0 0) 0 [] := World.ownsRow_made w #[] 0 (Nat.le_refl _) (by simp) (by simp)
  have hb0 : Below w.heap.size w (w.alloc (.cells #[] 5)) := (Below.refl _ _).alloc (Nat.le_refl _) _
  have first : ∃ v : Value, ∃ w1 : World, w1.ownsRow w.heap.size 5 1 v bs.length (bs.map cellOf) ∧ Below w.heap.size w w1 ∧
      (Builtin.append_ #[22, 22] 22 #[.slice (some ⟨w.heap.size, 0, none⟩) 0 0, .slice a bs.length ca]).run Try.prog (w.alloc (.cells #[] 5)) = .ok v w1 := by
    cases a with
    | none =>
      have h0 := ha.bare rfl
      have h1 := ha.fits
      have : bs = [] := List.eq_nil_of_length_eq_zero (by omega)
      subst this; subst h0
      exact ⟨_, _, hown0, hb0, run_append_owned_none (P := Try.prog) (w.alloc (.cells #[] 5)) w.heap.size 22 22 5 i5 1 Try.underlying22 hi _ 0 [] hown0⟩
    | some ad =>
      obtain ⟨v, w1, hrun, ho, hg, _⟩ := run_append_own (P := Try.prog) (w.alloc (.cells #[] 5)) w.heap.size 22 22 5 i5 (.int .u8 0) 1 1 Try.underlying22 hi hz0 hz1 hz2 rfl (by omega) _ 0 [] hown0 ad bs.length ca (bs.map cellOf) (by simp) ((ha.below hb0).news ad rfl) (bytes_oneCell bs) (by unfold maxLen; omega) (by omega) (by simp)
      refine ⟨v, w1, by simpa using ho, hb0.grown hg (by simp) (by intro k h; cases h; exact Nat.le_refl _), hrun⟩
  obtain ⟨v0, w1, ho1, hb1, hrun⟩ := first
  have HR : Hid ((Builtin.append_ #[22, 22] 22 #[.slice (some ⟨w.heap.size, 0, none⟩) 0 0, .slice a bs.length ca]).run Try.prog (w.alloc (.cells #[] 5)) = .ok v0 w1) := hrun
  clear hrun
  go_enter Try.func55, Try.ntmps55
  go_wp2_with (at_builtin; refine wpList_append_run rfl _ _ 22 rfl _ _ _ rfl rfl HR.out ?_)
  clear hown0 HR hb0
  go_loopw [5, 6] (fun v i wr => ∃ k : Nat, k ≤ l.length ∧ i = .int .i64 k ∧ wr.ownsRow w.heap.size 5 1 v (bs.length + 4 * k) ((bs ++ w4s (l.take k)).map cellOf) ∧ Below w.heap.size w wr)
    (fun _ i _ => l.length - (intOf i).toNat)
  case atStart => exact ⟨0, Nat.zero_le _, rfl, by simpa [w4s] using ho1, hb1⟩
  case round =>
    obtain ⟨k, hk, rfl, ho, hbl⟩ := hrel
    clear ho1 hb1
    by_cases hlt : k < l.length
    · obtain ⟨x, hx⟩ : ∃ x, l[k]? = some x := ⟨l[k], by simp [hlt]⟩
      obtain ⟨b1, o1, rfl, hc1⟩ := (hc.below hbl).get hx
      have hxs := hc.small x (List.mem_of_getElem? hx)
      have l1 : b1 < w.heap.size := by obtain ⟨b, o, h, hcc⟩ := hc.get hx; cases h; exact World.block_lt_of_cell? w _ hcc
      have n1 : u5.ownBlock ≠ some b1 := fun h => by have := (ho.lt _ h).1; omega
      have HS : Hid ((bs ++ w4s (l.take (k + 1))).map cellOf = (bs ++ w4s (l.take k)).map cellOf ++ (w4 x).map cellOf) := by
        rw [take_snoc l k x hx, w4s_snoc, ← List.append_assoc, List.map_append]
        exact rfl
      have hsz := hbl.size
      have g0 : (0 : Int) ≤ (k : Int) := Int.natCast_nonneg _
      have g1 : (k : Int) < (l.length : Int) := by omega
      have hcw : Hid ((w4 x).map cellOf = [.int .u8 (IntKind.u8.wrap ((x : Int) / 16777216)), .int .u8 (IntKind.u8.wrap ((x : Int) / 65536)), .int .u8 (IntKind.u8.wrap ((x : Int) / 256)), .int .u8 (IntKind.u8.wrap (x : Int))]) := cells_w4' x
      clear hx
      go_wp2
      go_region_held3 (fun w' => w'.cell? ⟨b1, o1 + k, none⟩ = some (.int .u32 (x : Int)))
        (first
          | go_keep
          | (rw [hgrow.cell_far _ (by simp; omega) (Ne.symm n1)]; assumption))
        ((refine step_append_lies _ (by rfl) _ _ _ (by rfl) w.heap.size 5 i5 (.int .u8 0) 1 1 Try.underlying22 hi hz0 hz1 hz2 rfl (by omega) u5 (bs.length + 4 * k) _ (by rfl) ((ho.alloc _).drew)
            ⟨wr.heap.size, 0, none⟩ 4 4 [.int .u8 (IntKind.u8.wrap ((x : Int) / 16777216)), .int .u8 (IntKind.u8.wrap ((x : Int) / 65536)), .int .u8 (IntKind.u8.wrap ((x : Int) / 256)), .int .u8 (IntKind.u8.wrap (x : Int))] (by rfl) (by rfl) (World.news_of_block (cs := #[.int .u8 (IntKind.u8.wrap ((x : Int) / 16777216)), .int .u8 (IntKind.u8.wrap ((x : Int) / 65536)), .int .u8 (IntKind.u8.wrap ((x : Int) / 256)), .int .u8 (IntKind.u8.wrap (x : Int))]) (t := 5) (fr := (0, 0)) (heap_alloc_new wr _)) (by simp [Value.oneCell'])
            (by omega) (by unfold maxLen; omega) (by omega) (by simp; omega) (wr.heap.size + 1) (by simp) ?_; intro gg cap w3 hown1 hgrow hat hlt'))
      have hbl' : Below w.heap.size w w3 := ((hbl.alloc hsz _).drew).grown hgrow (by simp; omega) (fun q h => (ho.lt _ h).1)
      go_wp2
      go_roundw
      case rel =>
        refine ⟨k + 1, by omega, by go_num, ?_, hbl'⟩
        rw [HS.out, hcw.out, Nat.mul_add, ← Nat.add_assoc]
        exact hown1
      case measure => simp [intOf]; omega
    · obtain rfl : k = l.length := by omega
      rw [List.take_length] at ho
      obtain ⟨r, hr'⟩ : ∃ r, r = bs ++ w4s l := ⟨_, rfl⟩
      rw [← hr'] at ho
      have HR : Hid (r = bs ++ w4s l) := hr'
      clear hr'
      obtain ⟨d, cd, hv, hs⟩ := Sees.of_own ho
      have hn : bs.length + 4 * l.length = r.length := by have := ho.1; simp at this; omega
      rw [hv, hn] at ho
      rw [hv]
      clear hn
      go_wp2
      go_ret
      exact ⟨d, cd, r, HR, rfl, hs, hbl, ho⟩

theorem refput_any (w : World) (a c : Option Addr) (ca cc : Nat) (bs : List UInt8) (l : List Nat) (ha : Sees w a ca bs) (hc : Words w c cc l) (hr : bs.length ≤ 140737488353000) (hl : l.length ≤ 100) :
    Calls Try.prog 55 #[.slice a bs.length ca, .slice c l.length cc] w fun e w' => ∃ d cd r, Hid (r = bs ++ w4s l) ∧ e = .returned (.slice d r.length cd) ∧ Sees w' d cd r ∧ Below w.heap.size w w' :=
  (refput_own w a c ca cc bs l ha hc hr hl).mono fun _ _ ⟨d, cd, r, h1, h2, h3, h4, _⟩ => ⟨d, cd, r, h1, h2, h3, h4⟩

end Go.Proofs.Ytjmbioedpghopaa
