/-
  The document's writer: its Done.
-/
import Derived.Test.YtoggjpkbbncbbaaBitsRefW
import Derived.BigRegion
namespace Go.Proofs.Ytoggjpkbbncbbaa
open Go.ChangeShapes Go.WideShapes Go.ChangeAt Go.RowKit

theorem set_cellU (l : List UInt8) (i : Nat) (x : UInt8) : (l.map cellOf).set i (.int .u8 (x.toNat : Int)) = (l.set i x).map cellOf := by rw [List.map_set]; rfl
theorem packN_nil (m : Nat) : packN [] m = List.replicate m 0 := by
  apply List.ext_getElem?
  intro i
  by_cases h : i < m
  · rw [packN_at _ _ _ h, List.getElem?_replicate, if_pos h]; rfl
  · rw [List.getElem?_eq_none (by rw [packN_length]; omega), List.getElem?_eq_none (by simp; omega)]

set_option maxHeartbeats 3200000 in
set_option maxRecDepth 20000 in
theorem rdone_any (w : World) (g : Nat) (bs : List Bool) (G : Nat → Prop) (h : RW w g bs G) (hk : bs.length ≤ 8192) :
    Calls Try.prog 28 #[.pointer (some ⟨g, 0, none⟩)] w fun e w' => ∃ d cd r, Hid (r = packL bs) ∧ e = .returned (.slice d r.length cd) ∧ Sees w' d cd r ∧ Below w.heap.size w w' := by
  obtain ⟨i5, hi, hz0, hz1, hz2⟩ := info_parts Try.info5
  obtain ⟨v, h1, h2, h3, _, h5⟩ := h
  have hgl := h5 g h3
  obtain ⟨d, cd, rfl⟩ : ∃ d cd, v = .slice d bs.length cd := by
    rcases h2.2 with ⟨rfl, h0⟩ | ⟨q, cap, cur, rfl, _⟩
    · exact ⟨none, 0, by rw [h0]⟩
    · exact ⟨_, _, rfl⟩
  have c0 : w.cell? ⟨g, 0, none⟩ = some (.slice d bs.length cd) := cell_of_row _ _ 0 _ _ _ h1
  have HO : Hid (w.ownsRow 0 4 1 (.slice d bs.length cd) bs.length (bs.map .bool)) := h2
  obtain ⟨N, hN⟩ : ∃ N, N = (bs.length + 7) / 8 := ⟨_, rfl⟩
  have HN : Hid (N = (bs.length + 7) / 8) := hN
  have q1 : ((bs.length : Int) + 7) / 8 = (N : Int) := by omega
  have q2 : ((bs.length : Int) + 7).tdiv 8 = (N : Int) := by rw [Int.tdiv_eq_ediv_of_nonneg (by omega)]; exact q1
  have hN2 : N ≤ 1024 := by omega
  clear h1 h2 h5 hN h3
  go_enter Try.func28, Try.ntmps28
  go_wp2_with (at_make; refine wpList_make_full _ rfl _ _ 23 rfl w.heap.size 5 i5 (.int .u8 0) 1 Try.underlying23 hi hz0 hz1 .i64 .i64 _ _ N rfl rfl rfl rfl ?b2 ?b3 ?b4 ?_)
  case b2 => rw [hz2]; omega
  case b3 => unfold maxLen; omega
  case b4 => exact Nat.le_refl _
  intro w1 hown hgrow
  have hbel : Below w.heap.size w w1 := (Below.refl _ _).grown hgrow (Nat.le_refl _) (by intro k h; cases h)
  have ho0 : w1.ownsRow w.heap.size 5 1 (.slice (some ⟨w.heap.size, 0, none⟩) N N) N ((packN (bs.take 0) N).map cellOf) := by rw [List.take_zero, packN_nil, ← made_bytes]; simpa using hown
  clear hgrow hown
  go_wp2
  go_loopw [4] (fun i wr => ∃ k : Nat, k ≤ bs.length ∧ i = .int .i64 k ∧ wr.ownsRow w.heap.size 5 1 (.slice (some ⟨w.heap.size, 0, none⟩) N N) N ((packN (bs.take k) N).map cellOf) ∧ Below w.heap.size w wr) (fun i _ => bs.length - (intOf i).toNat)
  case atStart => exact ⟨0, Nat.zero_le _, rfl, ho0, hbel⟩
  case round =>
    obtain ⟨p, hp, rfl, ho, hbl⟩ := hrel
    clear ho0 hbel q1 q2
    have c1 : wr.cell? ⟨g, 0, none⟩ = some (.slice d bs.length cd) := by rw [hbl.cell (p := ⟨g, 0, none⟩) hgl]; exact c0
    by_cases hlt : p < bs.length
    · obtain ⟨t, ht⟩ : ∃ t, t = bs[p] := ⟨_, rfl⟩
      obtain ⟨qb, rfl, hcb⟩ : ∃ qb, d = some ⟨qb, 0, none⟩ ∧ wr.cell? ⟨qb, p, none⟩ = some (.bool t) := by
        have h2 := HO.out
        rcases h2.2 with ⟨_, h0⟩ | ⟨q, cap, cur, he, _⟩
        · omega
        · simp only [Value.slice.injEq] at he
          obtain ⟨rfl, _, rfl⟩ := he
          have h6 := h2.cells (g := q) rfl p (.bool t) (by simp [hlt, ht])
          rw [Addr.add_lit] at h6
          simp only [Nat.zero_add] at h6
          exact ⟨q, rfl, by rw [hbl.cell (p := ⟨q, p, none⟩) (World.block_lt_of_cell? w _ h6)]; exact h6⟩
      obtain ⟨q, hq⟩ : ∃ q, q = p / 8 := ⟨_, rfl⟩
      obtain ⟨r, hr⟩ : ∃ r, r = p % 8 := ⟨_, rfl⟩
      obtain ⟨s, hs⟩ : ∃ s, s = 7 - r := ⟨_, rfl⟩
      have hqN : q < N := by have := HN.out; omega
      obtain ⟨x, hx⟩ : ∃ x, (packN (bs.take p) N)[q]? = some x := ⟨_, packN_at _ _ _ hqN⟩
      have hor := packN_or bs N p hlt (by rw [← hq]; exact hqN) x (by rw [← hq]; exact hx)
      rw [← hq, ← hr, ← hs, ← ht] at hor
      cases t with
      | false =>
        have hset : (packN (bs.take p) N).set q x = packN (bs.take p) N := by
          apply List.ext_getElem?
          intro i
          rw [List.getElem?_set]
          by_cases hi : q = i
          · subst hi; rw [if_pos rfl, if_pos (by rw [packN_length]; exact hqN), hx]
          · rw [if_neg hi]
        rw [if_neg (by simp), hset] at hor
        rw [hor] at ho
        clear hor hset hx hq hr hs ht
        go_wp2
        go_roundw
        case rel => exact ⟨p + 1, by omega, by go_num, ho, hbl⟩
        case measure => simp [intOf]; omega
      | true =>
        rw [if_pos rfl] at hor
        have hs8 : s < 8 := by omega
        obtain ⟨y, hy⟩ : ∃ y, y = x ||| UInt8.ofNat (2 ^ s) := ⟨_, rfl⟩
        obtain ⟨T, hT⟩ : ∃ T, T = 2 ^ s := ⟨_, rfl⟩
        have hT8 : T < 256 := by rw [hT]; exact Nat.pow_lt_pow_right (a := 2) (n := 8) (by omega) (by omega)
        have eT : (2 : Int) ^ s = (T : Int) := by rw [hT]; simp
        have ey : bits .or .u8 (x.toNat : Int) (T : Int) = (y.toNat : Int) := by
          have h1 := bor x (UInt8.ofNat (2 ^ s))
          rw [← hy, UInt8.toNat_ofNat', ← hT, Nat.mod_eq_of_lt hT8] at h1
          exact h1
        have wT : IntKind.u8.wrap (T : Int) = (T : Int) := by rw [IntKind.wrap_u8]; omega
        rw [← hy] at hor
        have hcx : wr.cell? ⟨w.heap.size, q, none⟩ = some (.int .u8 (x.toNat : Int)) := by rw [ho.cellAt q (by omega), List.getElem?_map, hx]; rfl
        have hfx : wr.frozen? ⟨w.heap.size, q, none⟩ = false := ho.frozenAt q
        obtain ⟨ho2, _⟩ := ho.stored q (.int .u8 (y.toNat : Int))
        rw [set_cellU, hor] at ho2
        have HO2 : Hid ((wr.setCell ⟨w.heap.size, q, none⟩ (.int .u8 (y.toNat : Int))).drew.ownsRow w.heap.size 5 1 (.slice (some ⟨w.heap.size, 0, none⟩) N N) N ((packN (bs.take (p + 1)) N).map cellOf)) := ho2.drew
        have HBL : Hid (Below w.heap.size w (wr.setCell ⟨w.heap.size, q, none⟩ (.int .u8 (y.toNat : Int))).drew) := (hbl.setCell (p := ⟨w.heap.size, q, none⟩) (Nat.le_refl _) _).drew
        have q1 : (p : Int) / 8 = (q : Int) := by omega
        have q2 : (p : Int).tdiv 8 = (q : Int) := by rw [Int.tdiv_eq_ediv_of_nonneg (by omega)]; exact q1
        have r1 : (p : Int) % 8 = (r : Int) := by omega
        have r2 : (p : Int).tmod 8 = (r : Int) := by rw [Int.tmod_eq_emod_of_nonneg (by omega)]; exact r1
        have s1 : 7 - (r : Int) = (s : Int) := by omega
        have s2 : IntKind.i64.wrap (7 - (r : Int)) = (s : Int) := by rw [IntKind.wrap_i64]; omega
        have gq0 : (0 : Int) ≤ (q : Int) := Int.natCast_nonneg _
        have gq1 : (q : Int) < (N : Int) := by omega
        have gs0 : (0 : Int) ≤ (s : Int) := Int.natCast_nonneg _
        clear hor ho ho2 hbl hx hy hT hq hr hs ht
        go_wp2
        go_region
        go_wp2
        go_roundw
        case rel => exact ⟨p + 1, by omega, by go_num, HO2.out, HBL.out⟩
        case measure => simp [intOf]; omega
    · obtain rfl : p = bs.length := by omega
      rw [List.take_length] at ho
      have hpk : packN bs N = packL bs := by rw [HN.out]; rfl
      rw [hpk] at ho
      have hpl : (packL bs).length = N := by rw [packL_length, HN.out]
      obtain ⟨r, hr⟩ : ∃ r, r = packL bs := ⟨_, rfl⟩
      rw [← hr] at ho hpl
      obtain ⟨c, cc, hv, hs⟩ := Sees.of_own ho
      simp only [Value.slice.injEq] at hv
      rw [← hv.1, ← hv.2.2] at hs
      have HR : Hid (r = packL bs) := hr
      have HPL : Hid (r.length = N) := hpl
      clear hv ho hpk hr hpl
      go_wp2
      go_ret
      exact ⟨_, _, r, HR, by rw [HPL.out]; rfl, hs, hbl⟩
end Go.Proofs.Ytoggjpkbbncbbaa
