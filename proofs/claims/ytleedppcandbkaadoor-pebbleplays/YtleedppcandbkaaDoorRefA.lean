/-
  Appending to a slice of the call's own; the walk of ShaCuts.

  The contracts of the document's Load, Long, Put and PutLong.

  The contracts of the document's turn, mix and Table.
-/
import Derived.Test.YtleedppcandbkaaDoorShaE
import Derived.Test.YtleedppcandbkaaDoorGround
import Derived.Test.YtleedppcandbkaaDoorShaA
import Derived.Test.YtleedppcandbkaaDoorShaB
import Derived.Laws.AppendOwnNone
namespace Go.Proofs.YtleedppcandbkaaDoor
open Go.ChangeShapes Go.WideShapes Go.ChangeAt Go.RowKit

end Go.Proofs.YtleedppcandbkaaDoor

namespace Go.Proofs.YtleedppcandbkaaDoor
open Go.ChangeShapes Go.WideShapes Go.ChangeAt Go.RowKit

theorem be_take_lt (l : List UInt8) (k T M : Nat) (hk : k ≤ T) (hM : 256 ^ T = M) : be (l.take k) < M := by
  have h1 := be_lt (l.take k)
  have h2 : (l.take k).length ≤ k := List.length_take_le _ _
  have h3 : 256 ^ (l.take k).length ≤ 256 ^ T := Nat.pow_le_pow_right (by omega) (by omega)
  omega

set_option maxHeartbeats 400000 in
set_option maxRecDepth 20000 in
theorem refload_yes (w : World) (a : Option Addr) (cap S : Nat) (bs : List UInt8) (p : Nat) (h : Sees w a cap bs) (hS0 : 0 < S) (hS : S ≤ 8) (hp : p + S ≤ bs.length) :
    Calls Tryd.prog 71 #[.slice a bs.length cap, .int .i64 p, .int .i64 S] w fun e w' => e = .returned (.tuple #[.int .u64 (be ((bs.drop p).take S) : Nat), .int .i64 0]) ∧ w' = w := by
  have hfit := h.fits
  have hroom := h.room
  unfold maxLen at hroom
  obtain ⟨b, off, rfl, hcell⟩ := h.at' (by rintro rfl; simp at hp; omega)
  have Hc : Hid (∀ i x, bs[i]? = some x → w.cell? ⟨b, off + i, none⟩ = some (.int .u8 x.toNat)) := hcell
  have d1 : decide ((p : Int) < 0) = false := by simp
  have d2 : decide ((bs.length : Int) - S < (p : Int)) = false := by simp; omega
  clear h hcell
  go_enter Tryd.func71, Tryd.ntmps71
  go_wp2
  go_loop [8, 9] (fun x i => ∃ k : Nat, k ≤ S ∧ i = .int .i64 k ∧ x = .int .u64 (be ((bs.drop p).take k) : Nat)) (fun _ i => S - (intOf i).toNat)
  case atStart => exact ⟨0, by omega, rfl, rfl⟩
  case round =>
    obtain ⟨k, hk, rfl, rfl⟩ := hrel
    by_cases hlt : k < S
    · obtain ⟨c, hc⟩ : ∃ c, bs[p + k]? = some c := ⟨bs[p + k]'(by omega), by simp [show p + k < bs.length by omega]⟩
      have hcl : w.cell? ⟨b, off + (p + k), none⟩ = some (.int .u8 c.toNat) := Hc.out _ c hc
      have hdk : (bs.drop p)[k]? = some c := by rw [List.getElem?_drop]; exact hc
      obtain ⟨x, hx⟩ : ∃ x, x = be ((bs.drop p).take k) := ⟨_, rfl⟩
      have hxl : x < 72057594037927936 := by rw [hx]; exact be_take_lt _ k 7 _ (by omega) (by decide)
      have e1 := or_u64 x c hxl
      have HS : Hid (be ((bs.drop p).take (k + 1)) = x * 256 + c.toNat) := by
        rw [take_snoc _ k c hdk, be_snoc, hx]; exact rfl
      have hcb := c.toNat_lt
      rw [← hx]
      clear hc hdk hx
      go_wp2
      go_round
      case rel => exact ⟨k + 1, by omega, by go_num, by rw [HS.out]; go_num⟩
      case measure => simp [intOf]; omega
    · obtain rfl : k = S := by omega
      go_wp2
      go_ret2
      exact ⟨rfl, rfl⟩

set_option maxHeartbeats 400000 in
set_option maxRecDepth 20000 in
theorem RefLoad_yes (w : World) (a : Option Addr) (cap : Nat) (bs : List UInt8) (p : Nat) (h : Sees w a cap bs) (hp : p + 4 ≤ bs.length) :
    Calls Tryd.prog 63 #[.slice a bs.length cap, .int .i64 p] w fun e w' => e = .returned (.tuple #[.int .u32 (be ((bs.drop p).take 4) : Nat), .int .i64 0]) ∧ w' = w := by
  have hb : be ((bs.drop p).take 4) < 4294967296 := be_take_lt _ 4 4 _ (by omega) (by decide)
  go_enter Tryd.func63, Tryd.ntmps63
  go_wp2_with fail
  refine (refload_yes w a cap 4 bs p h (by omega) (by omega) hp).mono ?_
  rintro e w' ⟨rfl, rfl⟩
  go_wp2
  go_ret2
  exact ⟨rfl, rfl⟩

theorem cells_w4' (x : Nat) : (w4 x).map cellOf = [.int .u8 (IntKind.u8.wrap ((x : Int) / 16777216)), .int .u8 (IntKind.u8.wrap ((x : Int) / 65536)), .int .u8 (IntKind.u8.wrap ((x : Int) / 256)), .int .u8 (IntKind.u8.wrap (x : Int))] := by
  simp only [w4, List.map_cons, List.map_nil, cellOf, UInt8.toNat_ofNat', IntKind.wrap_u8']
  simp

set_option maxHeartbeats 1600000 in
/-- The loop of the document's Put, from whatever slice the call owns. -/
theorem refput_own (w : World) (a c : Option Addr) (ca cc : Nat) (bs : List UInt8) (l : List Nat) (ha : Sees w a ca bs) (hc : Words w c cc l) (hr : bs.length ≤ 140737488353000) (hl : l.length ≤ 100) :
    Calls Tryd.prog 39 #[.slice a bs.length ca, .slice c l.length cc] w fun e w' => ∃ d cd r, Hid (r = bs ++ w4s l) ∧ e = .returned (.slice d r.length cd) ∧ Sees w' d cd r ∧ Below w.heap.size w w' ∧ w'.ownsRow w.heap.size 5 1 (.slice d r.length cd) r.length (r.map cellOf) := by
  obtain ⟨i5, hi, hz0, hz1, hz2⟩ := info_parts Tryd.info5
  have hown0 : (w.alloc (.cells #[] 5)).ownsRow w.heap.size 5 1 (.slice (some ⟨w.heap.size, 0, none⟩) 0 0) 0 [] := World.ownsRow_made w #[] 0 (Nat.le_refl _) (by simp) (by simp)
  have hb0 : Below w.heap.size w (w.alloc (.cells #[] 5)) := (Below.refl _ _).alloc (Nat.le_refl _) _
  have first : ∃ v : Value, ∃ w1 : World, w1.ownsRow w.heap.size 5 1 v bs.length (bs.map cellOf) ∧ Below w.heap.size w w1 ∧
      (Builtin.append_ #[22, 22] 22 #[.slice (some ⟨w.heap.size, 0, none⟩) 0 0, .slice a bs.length ca]).run Tryd.prog (w.alloc (.cells #[] 5)) = .ok v w1 := by
    cases a with
    | none =>
      have h0 := ha.bare rfl
      have h1 := ha.fits
      have : bs = [] := List.eq_nil_of_length_eq_zero (by omega)
      subst this; subst h0
      exact ⟨_, _, hown0, hb0, run_append_owned_none (P := Tryd.prog) (w.alloc (.cells #[] 5)) w.heap.size 22 22 5 i5 1 Tryd.underlying22 hi _ 0 [] hown0⟩
    | some ad =>
      obtain ⟨v, w1, hrun, ho, hg, _⟩ := run_append_own (P := Tryd.prog) (w.alloc (.cells #[] 5)) w.heap.size 22 22 5 i5 (.int .u8 0) 1 1 Tryd.underlying22 hi hz0 hz1 hz2 rfl (by omega) _ 0 [] hown0 ad bs.length ca (bs.map cellOf) (by simp) ((ha.below hb0).news ad rfl) (bytes_oneCell bs) (by unfold maxLen; omega) (by omega) (by simp)
      refine ⟨v, w1, by simpa using ho, hb0.grown hg (by simp) (by intro k h; cases h; exact Nat.le_refl _), hrun⟩
  obtain ⟨v0, w1, ho1, hb1, hrun⟩ := first
  have HR : Hid ((Builtin.append_ #[22, 22] 22 #[.slice (some ⟨w.heap.size, 0, none⟩) 0 0, .slice a bs.length ca]).run Tryd.prog (w.alloc (.cells #[] 5)) = .ok v0 w1) := hrun
  clear hrun
  go_enter Tryd.func39, Tryd.ntmps39
  go_wp2_with (at_builtin; refine wpList_append_run rfl _ _ 22 rfl _ _ _ rfl rfl HR.out ?_)
  clear hown0 HR hb0
  go_loopw [5, 6] (fun v i wr => ∃ k : Nat, k ≤ l.length ∧ i = .int .i64 k ∧ wr.ownsRow w.heap.size 5 1 v (bs.length + 4 * k) ((bs ++ w4s (l.take k)).map cellOf) ∧ Below w.heap.size w wr)
    (fun _ i _ => l.length - (intOf i).toNat)
  case atStart => exact ⟨0, Nat.zero_le _, rfl, by simpa [w4s] using ho1, hb1⟩
  case round =>
    obtain ⟨k, hk, rfl, ho, hbl⟩ := hrel
    clear ho1 hb1
    by_cases hlt : k < l.length
    · obtain ⟨x, hx⟩ : ∃ x, l[k]? = some x := ⟨l[k], by simp [hlt]⟩
      obtain ⟨b1, o1, rfl, hc1⟩ := (hc.below hbl).get hx
      have hxs := hc.small x (List.mem_of_getElem? hx)
      have l1 : b1 < w.heap.size := by obtain ⟨b, o, h, hcc⟩ := hc.get hx; cases h; exact World.block_lt_of_cell? w _ hcc
      have n1 : u5.ownBlock ≠ some b1 := fun h => by have := (ho.lt _ h).1; omega
      have HS : Hid ((bs ++ w4s (l.take (k + 1))).map cellOf = (bs ++ w4s (l.take k)).map cellOf ++ (w4 x).map cellOf) := by
        rw [take_snoc l k x hx, w4s_snoc, ← List.append_assoc, List.map_append]
        exact rfl
      have hsz := hbl.size
      have g0 : (0 : Int) ≤ (k : Int) := Int.natCast_nonneg _
      have g1 : (k : Int) < (l.length : Int) := by omega
      have hcw : Hid ((w4 x).map cellOf = [.int .u8 (IntKind.u8.wrap ((x : Int) / 16777216)), .int .u8 (IntKind.u8.wrap ((x : Int) / 65536)), .int .u8 (IntKind.u8.wrap ((x : Int) / 256)), .int .u8 (IntKind.u8.wrap (x : Int))]) := cells_w4' x
      clear hx
      go_wp2
      go_region_held3 (fun w' => w'.cell? ⟨b1, o1 + k, none⟩ = some (.int .u32 (x : Int)))
        (first
          | go_keep
          | (rw [hgrow.cell_far _ (by simp; omega) (Ne.symm n1)]; assumption))
        ((refine step_append_lies _ (by rfl) _ _ _ (by rfl) w.heap.size 5 i5 (.int .u8 0) 1 1 Tryd.underlying22 hi hz0 hz1 hz2 rfl (by omega) u5 (bs.length + 4 * k) _ (by rfl) ((ho.alloc _).drew)
            ⟨wr.heap.size, 0, none⟩ 4 4 [.int .u8 (IntKind.u8.wrap ((x : Int) / 16777216)), .int .u8 (IntKind.u8.wrap ((x : Int) / 65536)), .int .u8 (IntKind.u8.wrap ((x : Int) / 256)), .int .u8 (IntKind.u8.wrap (x : Int))] (by rfl) (by rfl) (World.news_of_block (cs := #[.int .u8 (IntKind.u8.wrap ((x : Int) / 16777216)), .int .u8 (IntKind.u8.wrap ((x : Int) / 65536)), .int .u8 (IntKind.u8.wrap ((x : Int) / 256)), .int .u8 (IntKind.u8.wrap (x : Int))]) (t := 5) (fr := (0, 0)) (heap_alloc_new wr _)) (by simp [Value.oneCell'])
            (by omega) (by unfold maxLen; omega) (by omega) (by simp; omega) (wr.heap.size + 1) (by simp) ?_; intro gg cap w3 hown1 hgrow hat hlt'))
      have hbl' : Below w.heap.size w w3 := ((hbl.alloc hsz _).drew).grown hgrow (by simp; omega) (fun q h => (ho.lt _ h).1)
      go_wp2
      go_roundw
      case rel =>
        refine ⟨k + 1, by omega, by go_num, ?_, hbl'⟩
        rw [HS.out, hcw.out, Nat.mul_add, ← Nat.add_assoc]
        exact hown1
      case measure => simp [intOf]; omega
    · obtain rfl : k = l.length := by omega
      rw [List.take_length] at ho
      obtain ⟨r, hr'⟩ : ∃ r, r = bs ++ w4s l := ⟨_, rfl⟩
      rw [← hr'] at ho
      have HR : Hid (r = bs ++ w4s l) := hr'
      clear hr'
      obtain ⟨d, cd, hv, hs⟩ := Sees.of_own ho
      have hn : bs.length + 4 * l.length = r.length := by have := ho.1; simp at this; omega
      rw [hv, hn] at ho
      rw [hv]
      clear hn
      go_wp2
      go_ret
      exact ⟨d, cd, r, HR, rfl, hs, hbl, ho⟩

theorem refput_any (w : World) (a c : Option Addr) (ca cc : Nat) (bs : List UInt8) (l : List Nat) (ha : Sees w a ca bs) (hc : Words w c cc l) (hr : bs.length ≤ 140737488353000) (hl : l.length ≤ 100) :
    Calls Tryd.prog 39 #[.slice a bs.length ca, .slice c l.length cc] w fun e w' => ∃ d cd r, Hid (r = bs ++ w4s l) ∧ e = .returned (.slice d r.length cd) ∧ Sees w' d cd r ∧ Below w.heap.size w w' :=
  (refput_own w a c ca cc bs l ha hc hr hl).mono fun _ _ ⟨d, cd, r, h1, h2, h3, h4, _⟩ => ⟨d, cd, r, h1, h2, h3, h4⟩

set_option maxHeartbeats 400000 in
set_option maxRecDepth 20000 in
theorem refputlong_any (w : World) (a : Option Addr) (ca : Nat) (bs : List UInt8) (n : Nat) (ha : Sees w a ca bs) (hr : bs.length ≤ 140737488353000) (hn : n < 18446744073709551616) :
    Calls Tryd.prog 34 #[.slice a bs.length ca, .int .u64 n] w fun e w' => ∃ d cd r, Hid (r = bs ++ w4s [n / 4294967296, n % 4294967296]) ∧ e = .returned (.slice d r.length cd) ∧ Sees w' d cd r ∧ Below w.heap.size w w' := by
  have hW := Words.lit w 68 [n / 4294967296, n % 4294967296] (by simp) (by simp; omega)
  have hb : Below w.heap.size w (w.alloc (.cells #[.int .u32 ((n / 4294967296 : Nat) : Int), .int .u32 ((n % 4294967296 : Nat) : Int)] 68)) := (Below.refl _ _).alloc (Nat.le_refl _) _
  have ha1 := ha.below hb
  have hn2 : n / 4294967296 < 4294967296 := by omega
  go_enter Tryd.func34, Tryd.ntmps34
  go_wp2_with fail
  refine (refput_any _ a _ ca 2 bs [n / 4294967296, n % 4294967296] ha1 hW hr (by simp)).mono ?_
  rintro e w' ⟨d, cd, r, HR, rfl, hs, hbl⟩
  go_wp2
  go_ret
  exact ⟨d, cd, r, HR, rfl, hs, hb.trans (hbl.mono (by simp))⟩
end Go.Proofs.YtleedppcandbkaaDoor

namespace Go.Proofs.YtleedppcandbkaaDoor
open Go.ChangeShapes Go.WideShapes Go.ChangeAt Go.RowKit

set_option maxHeartbeats 400000 in
set_option maxRecDepth 20000 in
theorem rturn_any (x k : Nat) (hx : x < 4294967296) (hk : k < 32) (w : World) :
    Calls Tryd.prog 72 #[.int .u32 x, .int .i64 k] w fun e w' => e = .returned (.int .u32 (rotr x k : Nat)) ∧ ∃ m, w' = w.drewN m := by
  have h1 : IntKind.i64.wrap ((32 : Int) - (k : Int)) = ((32 - k : Nat) : Int) := by rw [IntKind.wrap_i64]; omega
  have h2 := rot_int x k hx
  obtain ⟨y, hy⟩ : ∃ y, y = rotr x k := ⟨_, rfl⟩
  rw [← hy] at h2 ⊢
  clear hy
  have g0 : (0 : Int) ≤ (k : Int) := Int.natCast_nonneg _
  have g1 : (k : Int) ≤ 32 := by omega
  go_enter Tryd.func72, Tryd.ntmps72
  go_wp2
  go_quiet (fail)
  go_wp2
  go_ret
  exact ⟨rfl, _, rfl⟩

set_option maxHeartbeats 400000 in
set_option maxRecDepth 20000 in
theorem rmix_turn (x i j k : Nat) (hx : x < 4294967296) (hi : i < 32) (hj : j < 32) (hk : k < 32) (w : World) :
    Calls Tryd.prog 64 #[.int .u32 x, .int .i64 i, .int .i64 j, .int .i64 k] w fun e w' => e = .returned (.int .u32 (rot3 x i j k : Nat)) ∧ ∃ m, w' = w.drewN m := by
  obtain ⟨y, hy⟩ : ∃ y, y = rotr x i ^^^ rotr x j := ⟨_, rfl⟩
  obtain ⟨z, hz⟩ : ∃ z, z = rot3 x i j k := ⟨_, rfl⟩
  have e1 : bits .xor .u32 (rotr x i : Int) (rotr x j : Int) = (y : Int) := by rw [hy]; exact bx32 _ _ (rotr_lt x i hx hi) (rotr_lt x j hx hj)
  have e2 : bits .xor .u32 (y : Int) (rotr x k : Int) = (z : Int) := by rw [hy, hz]; exact bx32 _ _ (xor_lt32 (rotr_lt x i hx hi) (rotr_lt x j hx hj)) (rotr_lt x k hx hk)
  have HZ : Hid (z = rot3 x i j k) := hz
  have hd : decide ((k : Int) < 0) = false := by simp
  clear hy hz
  go_enter Tryd.func64, Tryd.ntmps64
  go_wp2_with fail
  refine (rturn_any x i hx hi _).mono ?_
  rintro e w1 ⟨rfl, m1, rfl⟩
  go_wp2_with fail
  refine (rturn_any x j hx hj _).mono ?_
  rintro e w1 ⟨rfl, m2, rfl⟩
  go_wp2_with fail
  refine (rturn_any x k hx hk _).mono ?_
  rintro e w1 ⟨rfl, m3, rfl⟩
  go_wp2
  go_ret
  exact ⟨by rw [HZ.out]; rfl, _, rfl⟩

set_option maxHeartbeats 400000 in
set_option maxRecDepth 20000 in
theorem rmix_shift (x i j k : Nat) (c : Int) (hx : x < 4294967296) (hi : i < 32) (hj : j < 32) (hc : c = -(k : Int)) (hk0 : 0 < k) (hk : k < 32) (w : World) :
    Calls Tryd.prog 64 #[.int .u32 x, .int .i64 i, .int .i64 j, .int .i64 c] w fun e w' => e = .returned (.int .u32 ((rotr x i ^^^ rotr x j ^^^ (x >>> k) : Nat) : Int)) ∧ ∃ m, w' = w.drewN m := by
  obtain ⟨y, hy⟩ : ∃ y, y = rotr x i ^^^ rotr x j := ⟨_, rfl⟩
  obtain ⟨z, hz⟩ : ∃ z, z = rotr x i ^^^ rotr x j ^^^ (x >>> k) := ⟨_, rfl⟩
  have e1 : bits .xor .u32 (rotr x i : Int) (rotr x j : Int) = (y : Int) := by rw [hy]; exact bx32 _ _ (rotr_lt x i hx hi) (rotr_lt x j hx hj)
  have h1 : (x : Int) / 2 ^ k = ((x >>> k : Nat) : Int) := by rw [Nat.shiftRight_eq_div_pow]; simp
  have e2 : bits .xor .u32 (y : Int) ((x : Int) / 2 ^ k) = (z : Int) := by rw [hy, hz, h1]; exact bx32 _ _ (xor_lt32 (rotr_lt x i hx hi) (rotr_lt x j hx hj)) (shr_lt32 hx)
  rw [← hz]
  have hneg : IntKind.i64.wrap (-c) = (k : Int) := by rw [IntKind.wrap_i64]; omega
  have hlt : c < 0 := by omega
  have hnk : -c = (k : Int) := by omega
  have hb : -9223372036854775808 < c := by omega
  clear hy hz h1 hc
  go_enter Tryd.func64, Tryd.ntmps64
  go_wp2_with fail
  refine (rturn_any x i hx hi _).mono ?_
  rintro e w1 ⟨rfl, m1, rfl⟩
  go_wp2_with fail
  refine (rturn_any x j hx hj _).mono ?_
  rintro e w1 ⟨rfl, m2, rfl⟩
  go_wp2
  go_ret
  exact ⟨rfl, _, rfl⟩

set_option maxHeartbeats 1600000 in
set_option maxRecDepth 20000 in
theorem table_any (w : World) : Calls Tryd.prog 62 #[] w fun e w' => e = .returned (.agg (kTab.map wcell).toArray) ∧ Below w.heap.size w w' := by
  obtain ⟨C, hC⟩ : ∃ C, C = (kTab.map wcell).toArray := ⟨_, rfl⟩
  have hst := storeAt_row (P := Tryd.prog) (w.alloc (.cells ((List.replicate 64 0).map wcell).toArray 91)) w.heap.size 91 91 _ C (heap_alloc_new w _) (by rw [hC]; kernel_rfl) (by rw [hC]; rfl) (by rw [hC]; exact words_one _)
  have hres : ((w.alloc (.cells ((List.replicate 64 0).map wcell).toArray 91)).setRow w.heap.size C).heap[w.heap.size]? = some (.cells C 91 (0, 0)) := setRow_heap _ _ _ C 91 _ (heap_alloc_new w _)
  have hbel : Below w.heap.size w ((w.alloc (.cells ((List.replicate 64 0).map wcell).toArray 91)).setRow w.heap.size C) := below_setRow ((Below.refl _ _).alloc (Nat.le_refl _) _) (Nat.le_refl _) C
  have HST : Hid ((Instr.storeAt 91 (.pointer (some ⟨w.heap.size, 0, none⟩)) (.agg (kTab.map wcell).toArray)).run Tryd.prog (w.alloc (.cells ((List.replicate 64 0).map wcell).toArray 91)) = .ok () ((w.alloc (.cells ((List.replicate 64 0).map wcell).toArray 91)).setRow w.heap.size C)) := by rw [← hC]; exact hst
  have HC : Hid (C = (kTab.map wcell).toArray) := hC
  clear hst hC
  go_enter Tryd.func62, Tryd.ntmps62
  go_wp2_with (refine wpList_store_run rfl 91 _ _ rfl _ _ rfl rfl HST.out ?_)
  (try simp only [Exit.inBlock, Exit.then])
  refine bodyPost_ret (results_cell_row rfl _ _ w.heap.size 91 C (0, 0) _ rfl hres Tryd.underlying91 rfl (by rw [HC.out]; kernel_rfl)) rfl ?_
  exact ⟨by rw [HC.out], hbel⟩
end Go.Proofs.YtleedppcandbkaaDoor
