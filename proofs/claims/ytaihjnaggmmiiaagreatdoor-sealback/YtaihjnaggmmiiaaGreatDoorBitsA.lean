/-
  The document's writer: its Put.

  The document's writer: its Done.
-/
import Derived.Test.YtaihjnaggmmiiaaGreatDoorRows
import Derived.Test.YtaihjnaggmmiiaaGreatDoorGround
import Derived.Test.YtaihjnaggmmiiaaGreatDoorPureF
import Derived.Deep.QuietTactic
import Derived.BigQuiet
import Derived.BigRegion
namespace Go.Proofs.YtaihjnaggmmiiaaGreatDoor
open Go.ChangeShapes Go.WideShapes Go.ChangeAt Go.RowKit

/-- The document's writer at block g: its bits; the blocks that it lies in. -/
def RW (w : World) (g : Nat) (bs : List Bool) (G : Nat → Prop) : Prop :=
  ∃ v, w.heap[g]? = some (.cells #[v] 109 (0, 0)) ∧ w.ownsRow 0 4 1 v bs.length (bs.map .bool) ∧ G g ∧ (∀ k, v.ownBlock = some k → G k) ∧ ∀ k, G k → k < w.heap.size

theorem rw_kept : Kept RW where
  lt := fun ⟨_, _, _, _, _, h⟩ => h
  keep := fun {w w' b s F} ⟨v, h1, h2, h3, h4, h5⟩ hk => by
    refine ⟨v, (hk b h3).trans h1, ?_, h3, h4, fun k hF => ?_⟩
    · refine ⟨h2.1, ?_⟩
      rcases h2.2 with h0 | ⟨g, cap, cur, rfl, hlow, hg, h7⟩
      · exact .inl h0
      · exact .inr ⟨g, cap, cur, rfl, hlow, (hk g (h4 g rfl)).trans hg, h7⟩
    · have h8 : w'.heap[k]? = some (w.heap[k]'(h5 k hF)) := by rw [hk k hF]; simp [h5 k hF]
      exact (Array.getElem?_eq_some_iff.1 h8).1

theorem Tryz.info4 : (Tryz.prog.info? 4).map (fun i => (i.zero, i.size, i.bytes)) = some (some (.bool false), 1, 1) := by kernel_rfl
theorem and_one (n : Nat) (h : n < 18446744073709551616) : bits .and .u64 (n : Int) 1 = ((n % 2 : Nat) : Int) := by
  have := u64_and_nat n 1 h (by omega)
  rw [Nat.and_one_is_mod] at this
  exact this

/-- One bit more: what the append and the store leave. -/
theorem rw_more (w w0 : World) (g : Nat) (bs : List Bool) (G : Nat → Prop) (b : Bool) (v : Value) (h1 : w.heap[g]? = some (.cells #[v] 109 (0, 0))) (h2 : w.ownsRow 0 4 1 v bs.length (bs.map .bool)) (h3 : G g) (h4 : ∀ k, v.ownBlock = some k → G k) (h5 : ∀ k, G k → k < w.heap.size) (hl : bs.length ≤ 10000)
    (hw0 : w0 = (w.drew).alloc (.cells #[.bool b] 4)) :
    ∃ d cd w1, (Builtin.append_ #[107, 107] 107 #[v, .slice (some ⟨w.heap.size, 0, none⟩) 1 1]).run Tryz.prog w0 = .ok (.slice d (bs.length + 1) cd) w1 ∧ w1.cell? ⟨g, 0, none⟩ = some v ∧ w1.frozen? ⟨g, 0, none⟩ = false ∧
      Left RW w G g (bs ++ [b]) (w1.setCell ⟨g, 0, none⟩ (.slice d (bs.length + 1) cd)) := by
  obtain ⟨i4, hi, hz0, hz1, hz2⟩ := info_parts Tryz.info4
  have hb0 : Below w.heap.size w w0 := by rw [hw0]; exact ((Below.refl _ _).drew).alloc (Nat.le_refl _) _
  have hg : g < w.heap.size := h5 g h3
  have ho0 : w0.ownsRow 0 4 1 v bs.length (bs.map .bool) := by
    refine ⟨h2.1, ?_⟩
    rcases h2.2 with h0 | ⟨q, cap, cur, rfl, hlow, hq, h7⟩
    · exact .inl h0
    · exact .inr ⟨q, cap, cur, rfl, hlow, by rw [hb0.block q (Array.getElem?_eq_some_iff.1 hq).1]; exact hq, h7⟩
  have hcell : ∀ j u, ([.bool b] : List Value)[j]? = some u → w0.cell? ((⟨w.heap.size, 0, none⟩ : Addr).add j) = some u := by
    rw [hw0]; exact World.news_of_block (w := (w.drew).alloc (.cells #[.bool b] 4)) (cs := #[.bool b]) (t := 4) (fr := (0, 0)) (heap_alloc_new w.drew _)
  have hs0 : w0.heap.size = w.heap.size + 1 := by rw [hw0]; simp
  obtain ⟨v', w1, hrun, ho1, hgr, _, hown⟩ := run_append_own_at (P := Tryz.prog) w0 0 107 107 4 i4 (.bool false) 1 1 Tryz.underlying107 hi hz0 hz1 hz2 rfl (by omega) v bs.length (bs.map .bool) ho0 ⟨w.heap.size, 0, none⟩ 1 1 [.bool b] rfl hcell (by simp [Value.oneCell']) (by unfold maxLen; omega) (by omega) (by omega)
  obtain ⟨q, cap, rfl⟩ : ∃ q cap, v' = .slice (some ⟨q, 0, none⟩) (bs.length + 1) cap := by
    rcases ho1.2 with ⟨_, h0⟩ | ⟨q, cap, cur, rfl, _⟩
    · omega
    · exact ⟨q, cap, rfl⟩
  have hgv : v.ownBlock ≠ some g := by
    intro e
    rcases h2.2 with ⟨rfl, _⟩ | ⟨q, cap, cur, rfl, _, hq, _⟩
    · simp [Value.ownBlock] at e
    · obtain rfl : q = g := by simpa [Value.ownBlock] using e
      rw [h1] at hq; simp at hq
  have hg1 : w1.heap[g]? = some (.cells #[v] 109 (0, 0)) := by rw [hgr.block g (by omega) (fun e => hgv e.symm), hb0.block g hg]; exact h1
  have hap : Apart G w w1 := (Apart.of_below hb0).grown hgr (fun k hk => .inl (h4 k hk))
  have hqn : q ≠ g := by
    rintro rfl
    rcases ho1.2 with ⟨_, h0⟩ | ⟨q', cap', cur', he, _, hq', _⟩
    · omega
    · simp only [Value.slice.injEq, Option.some.injEq, Addr.mk.injEq] at he
      rw [← he.1.1, hg1] at hq'; simp at hq'
  refine ⟨some ⟨q, 0, none⟩, cap, w1, hrun, cell_of_row _ _ 0 _ _ _ hg1, frozen_of_row _ _ 0 _ _ hg1, fun k => k = g ∨ (k = q ∧ k < w1.heap.size) , ⟨.slice (some ⟨q, 0, none⟩) (bs.length + 1) cap, ?_, ?_, .inl rfl, ?_, ?_⟩, hap.setCell (.inl h3) 0 _, ?_⟩
  · rw [heap_setCell_same _ _ _ _ _ _ hg1]; rfl
  · have h6 : w1.ownsRow 0 4 1 (.slice (some ⟨q, 0, none⟩) (bs.length + 1) cap) (bs ++ [b]).length ((bs ++ [b]).map .bool) := by simpa using ho1
    refine ⟨h6.1, ?_⟩
    rcases h6.2 with ⟨h0, _⟩ | ⟨q', cap', cur, he, hlow, hq', h7⟩
    · cases h0
    · refine .inr ⟨q', cap', cur, he, hlow, ?_, h7⟩
      simp only [Value.slice.injEq, Option.some.injEq, Addr.mk.injEq] at he
      rw [heap_setCell_other _ _ _ _ (by rw [← he.1.1]; exact hqn)]; exact hq'
  · intro k hk
    obtain rfl : q = k := by simpa [Value.ownBlock] using hk
    rcases ho1.2 with ⟨h0, _⟩ | ⟨q', cap', cur, he, hlow, hq', h7⟩
    · cases h0
    · simp only [Value.slice.injEq, Option.some.injEq, Addr.mk.injEq] at he
      exact .inr ⟨rfl, by rw [he.1.1]; exact (Array.getElem?_eq_some_iff.1 hq').1⟩
  · rintro k (rfl | ⟨_, hk⟩)
    · simpa using (show k < w1.heap.size from (Array.getElem?_eq_some_iff.1 hg1).1)
    · simpa using hk
  · rintro k (rfl | ⟨rfl, _⟩)
    · exact .inl h3
    · rcases hown with h | h
      · exact .inl (h4 k (by rw [← h]; rfl))
      · have h9 : k = w0.heap.size := by simpa [Value.ownBlock] using h
        exact .inr (by omega)

set_option maxHeartbeats 3200000 in
set_option maxRecDepth 20000 in
theorem rput_ok (w : World) (g : Nat) (bs : List Bool) (G : Nat → Prop) (h : RW w g bs G) (n W : Nat) (hW : W ≤ 64) (hn : n < 2 ^ W) (hl : bs.length + W ≤ 8192) :
    Calls Tryz.prog 69 #[.pointer (some ⟨g, 0, none⟩), .int .u64 (n : Int), .int .i64 (W : Int)] w fun e w' => e = .returned (.int .i64 0) ∧ Left RW w G g (bs ++ bitsN n W) w' := by
  have hn64 : n < 18446744073709551616 := Nat.lt_of_lt_of_le hn (Nat.pow_le_pow_right (n := 2) (i := W) (j := 64) (by omega) hW)
  have HN : Hid (n < 18446744073709551616) := hn64
  have d0 : (n : Int) / 2 ^ W = 0 := by
    have : ((n / 2 ^ W : Nat) : Int) = 0 := by rw [Nat.div_eq_of_lt hn]; rfl
    simpa using this
  have hbl : Hid (bs.length + W ≤ 8192) := hl
  obtain ⟨v, h1, h2, h3, h4, h5⟩ := h
  have hH : Hid (RW w g bs G) := ⟨v, h1, h2, h3, h4, h5⟩
  obtain ⟨d, cd, rfl⟩ : ∃ d cd, v = .slice d bs.length cd := by
    rcases h2.2 with ⟨rfl, h0⟩ | ⟨q, cap, cur, rfl, _⟩
    · exact ⟨none, 0, by rw [h0]⟩
    · exact ⟨_, _, rfl⟩
  have c0 : w.cell? ⟨g, 0, none⟩ = some (.slice d bs.length cd) := cell_of_row _ _ 0 _ _ _ h1
  have dl : decide ((8192 : Int) < (bs.length : Int) + (W : Int)) = false := by simp; omega
  have hLw : Left RW w G g (bs ++ (bitsN n W).take 0) w := ⟨G, by rw [List.take_zero, List.append_nil]; exact hH.out, Apart.refl _ _, fun _ h => .inl h⟩
  have dW0 : decide ((W : Int) < 0) = false := by simp
  have dW64 : decide ((64 : Int) < (W : Int)) = false := by simp; omega
  clear h1 h2 h3 h4 h5 hn hn64
  go_enter Tryz.func69, Tryz.ntmps69
  go_wp2
  all_goals
    go_loopw [7] (fun i wr => ∃ k : Nat, k ≤ W ∧ i = .int .i64 ((W : Int) - 1 - (k : Int)) ∧ Left RW w G g (bs ++ (bitsN n W).take k) wr) (fun i _ => (intOf i + 1).toNat)
    case atStart => exact ⟨0, Nat.zero_le _, by simp, hLw⟩
    case round =>
      obtain ⟨k, hk, rfl, G1, ⟨v1, q1, q2, q3, q4, q5⟩, hap, hG1⟩ := hrel
      clear hLw c0
      by_cases hlt : k < W
      · obtain ⟨j, hj⟩ : ∃ j, j = W - 1 - k := ⟨_, rfl⟩
        have hji : (W : Int) - 1 - (k : Int) = (j : Int) := by omega
        have HJ : Hid (j = W - 1 - k) := hj
        have hj64 : j < 64 := by omega
        have hmin : min j 64 = j := by omega
        have hln : (bs ++ (bitsN n W).take k).length ≤ 10000 := by
          have := hbl.out; rw [List.length_append, List.length_take, bitsN_length]; omega
        obtain ⟨B, hB⟩ : ∃ B, B = bs ++ (bitsN n W).take k := ⟨_, rfl⟩
        rw [← hB] at q2 hln
        obtain ⟨d1, cd1, w1, hrun, e1, e2, G2, e3, e4, e5⟩ := rw_more wr _ g B G1 (n.testBit j) v1 q1 q2 q3 q4 q5 hln rfl
        have hend : Left RW w G g (bs ++ (bitsN n W).take (k + 1)) (w1.setCell ⟨g, 0, none⟩ (.slice d1 (B.length + 1) cd1)) := by
          refine ⟨G2, ?_, hap.trans e4 hG1, fun i hi => ?_⟩
          · rw [bitsN_take n W k hlt, ← List.append_assoc, ← hB, ← hj]; exact e3
          · rcases e5 i hi with h | h
            · exact hG1 i h
            · have := hap.size; exact .inr (by omega)
        have HR : Hid ((Builtin.append_ #[107, 107] 107 #[v1, .slice (some ⟨wr.heap.size, 0, none⟩) 1 1]).run Tryz.prog ((wr.drew).alloc (.cells #[.bool (n.testBit j)] 4)) = .ok (.slice d1 (B.length + 1) cd1) w1) := hrun
        have HE : Hid (Left RW w G g (bs ++ (bitsN n W).take (k + 1)) (w1.setCell ⟨g, 0, none⟩ (.slice d1 (B.length + 1) cd1))) := hend
        have c1 : wr.cell? ⟨g, 0, none⟩ = some v1 := cell_of_row _ _ 0 _ _ _ q1
        obtain ⟨m, hm⟩ : ∃ m, m = n / 2 ^ j % 2 := ⟨_, rfl⟩
        have hand : bits .and .u64 ((n : Int) / 2 ^ j) 1 = (m : Int) := by
          have h1 := and_one (n / 2 ^ j) (Nat.lt_of_le_of_lt (Nat.div_le_self _ _) HN.out)
          rw [← hm] at h1
          simpa using h1
        have heq : ((m : Int) == 1) = n.testBit j := by
          rw [hm, Nat.testBit_eq_decide_div_mod_eq]
          by_cases h : n / 2 ^ j % 2 = 1
          · simp [h]
          · have : n / 2 ^ j % 2 = 0 := by have := Nat.mod_lt (n / 2 ^ j) (show 0 < 2 by omega); omega
            simp [this]
        obtain ⟨tb, htb⟩ : ∃ tb, tb = n.testBit j := ⟨_, rfl⟩
        rw [← htb] at heq HR
        have c2 : ((wr.alloc (.cells #[.bool tb] 4)).drew).cell? ⟨g, 0, none⟩ = some v1 := by
          have hb : Below wr.heap.size wr ((wr.alloc (.cells #[.bool tb] 4)).drew) := ((Below.refl _ _).alloc (Nat.le_refl _) _).drew
          rw [hb.cell (p := ⟨g, 0, none⟩) (World.block_lt_of_cell? wr _ c1)]; exact c1
        rw [hji]
        clear hrun hend e3 e4 e5 q1 q2 q3 q4 q5 hap hG1 hB hm htb hln hj hji
        go_wp2
        go_region_law (refine step_append_run rfl (.tmp 42) (.tmp 48) 107 rfl _ _ _ rfl rfl HR.out ?_)
        all_goals
          go_wp2
          go_roundw
          case rel => exact ⟨k + 1, by omega, by have := HJ.out; first | go_num | (congr 1; omega), HE.out⟩
          case measure => simp [intOf]
      · obtain rfl : k = W := by omega
        have hneg : (k : Int) - 1 - (k : Int) = -1 := by omega
        rw [hneg]
        have hT : (bitsN n k).take k = bitsN n k := by rw [List.take_of_length_le]; rw [bitsN_length]; exact Nat.le_refl _
        have HE : Hid (Left RW w G g (bs ++ bitsN n k) wr) := ⟨G1, by rw [← hT]; exact ⟨v1, q1, q2, q3, q4, q5⟩, hap, hG1⟩
        clear q1 q2 q3 q4 q5 hap hG1 hT hneg
        go_wp2
        go_ret
        exact ⟨rfl, HE.out⟩

/-- What Put answers, k bits being there. -/
def putP (k n : Nat) (W : Int) : Nat := if W < 0 ∨ 64 < W ∨ ¬ n < 2 ^ W.toNat then 1 else if 8192 < k + W.toNat then 2 else 0
def putB (bs : List Bool) (n : Nat) (W : Int) : List Bool := if putP bs.length n W = 0 then bs ++ bitsN n W.toNat else bs

set_option maxHeartbeats 1600000 in
set_option maxRecDepth 20000 in
theorem rput_any (w : World) (g : Nat) (bs : List Bool) (G : Nat → Prop) (h : RW w g bs G) (n : Nat) (hn : n < 18446744073709551616) (W : Int) (hk : bs.length ≤ 8192) :
    Calls Tryz.prog 69 #[.pointer (some ⟨g, 0, none⟩), .int .u64 (n : Int), .int .i64 W] w fun e w' => e = .returned (.int .i64 (putP bs.length n W : Nat)) ∧ Left RW w G g (putB bs n W) w' := by
  have hsame : Left RW w G g bs w := ⟨G, h, Apart.refl _ _, fun _ h => .inl h⟩
  by_cases h0 : W < 0
  · have e1 : putP bs.length n W = 1 := by unfold putP; rw [if_pos (.inl h0)]
    have e2 : putB bs n W = bs := by unfold putB; rw [e1]; rfl
    rw [e1, e2]
    have d0 : decide (W < 0) = true := by simp [h0]
    clear h hk e1 e2
    go_enter Tryz.func69, Tryz.ntmps69
    go_wp2
    go_ret
    exact ⟨rfl, hsame⟩
  by_cases h64 : 64 < W
  · have e1 : putP bs.length n W = 1 := by unfold putP; rw [if_pos (.inr (.inl h64))]
    have e2 : putB bs n W = bs := by unfold putB; rw [e1]; rfl
    rw [e1, e2]
    have d0 : decide (W < 0) = false := by simp; omega
    have d1 : decide (64 < W) = true := by simp [h64]
    clear h hk e1 e2
    go_enter Tryz.func69, Tryz.ntmps69
    go_wp2
    go_ret
    exact ⟨rfl, hsame⟩
  obtain ⟨V, rfl⟩ : ∃ V : Nat, W = (V : Int) := ⟨W.toNat, by omega⟩
  have hV : V ≤ 64 := by omega
  by_cases hb : n < 2 ^ V
  · by_cases hl : 8192 < bs.length + V
    · have e1 : putP bs.length n V = 2 := by unfold putP; rw [if_neg (by simp; omega), if_pos (by simpa using hl)]
      have e2 : putB bs n V = bs := by unfold putB; rw [e1]; rfl
      rw [e1, e2]
      have d0 : (n : Int) / 2 ^ V = 0 := by
        have : ((n / 2 ^ V : Nat) : Int) = 0 := by rw [Nat.div_eq_of_lt hb]; rfl
        simpa using this
      obtain ⟨v, h1, h2, _⟩ := h
      obtain ⟨d, cd, rfl⟩ : ∃ d cd, v = .slice d bs.length cd := by
        rcases h2.2 with ⟨rfl, h0⟩ | ⟨q, cap, cur, rfl, _⟩
        · exact ⟨none, 0, by rw [h0]⟩
        · exact ⟨_, _, rfl⟩
      have c0 : w.cell? ⟨g, 0, none⟩ = some (.slice d bs.length cd) := cell_of_row _ _ 0 _ _ _ h1
      have dl : decide ((8192 : Int) < (bs.length : Int) + (V : Int)) = true := by simp; omega
      have dW0 : decide ((V : Int) < 0) = false := by simp
      have dW64 : decide ((64 : Int) < (V : Int)) = false := by simp; omega
      clear h1 h2 hb e1 e2
      go_enter Tryz.func69, Tryz.ntmps69
      go_wp2
      all_goals
        go_ret
        exact ⟨rfl, hsame⟩
    · have e1 : putP bs.length n V = 0 := by unfold putP; rw [if_neg (by simp; omega), if_neg (by simp; omega)]
      have e2 : putB bs n V = bs ++ bitsN n V := by unfold putB; rw [if_pos e1]; rfl
      rw [e1, e2]
      exact rput_ok w g bs G h n V hV hb (by omega)
  · have e1 : putP bs.length n V = 1 := by unfold putP; rw [if_pos (.inr (.inr (by simpa using hb)))]
    have e2 : putB bs n V = bs := by unfold putB; rw [e1]; rfl
    rw [e1, e2]
    have hV2 : V < 64 := by
      rcases Nat.lt_or_ge V 64 with h | h
      · exact h
      · exfalso; apply hb
        exact Nat.lt_of_lt_of_le hn (Nat.pow_le_pow_right (n := 2) (i := 64) (j := V) (by omega) h)
    have d0 : ((n : Int) / 2 ^ V != 0) = true := by
      have h5 : 0 < n / 2 ^ V := Nat.div_pos (by omega) (Nat.two_pow_pos V)
      have h6 : (n : Int) / 2 ^ V = ((n / 2 ^ V : Nat) : Int) := by simp
      rw [h6]; simp; omega
    have dW0 : decide ((V : Int) < 0) = false := by simp
    have dW64 : decide ((64 : Int) < (V : Int)) = false := by simp; omega
    have dV : decide ((V : Int) < 64) = true := by simp; omega
    obtain ⟨Z, hZ⟩ : ∃ Z, Z = (n : Int) / 2 ^ V := ⟨_, rfl⟩
    have HZ : Hid (Z = (n : Int) / 2 ^ V) := hZ
    clear h hb e1 e2 hZ HZ
    go_enter Tryz.func69, Tryz.ntmps69
    go_wp2
    go_ret
    exact ⟨rfl, hsame⟩

/-- What Bytes answers. -/
def bytesP (k m : Nat) : Nat := if 1024 < m ∨ 8192 < k + 8 * m then 2 else 0
def bytesB (bs : List Bool) (l : List UInt8) : List Bool := if bytesP bs.length l.length = 0 then bs ++ bitsOf l else bs

theorem bitsOf_take (l : List UInt8) (k : Nat) (x : UInt8) (h : l[k]? = some x) : bitsOf (l.take (k + 1)) = bitsOf (l.take k) ++ bitsU x := by
  rw [take_snoc l k x h, bitsOf_app]; simp [bitsOf]

set_option maxHeartbeats 1600000 in
set_option maxRecDepth 20000 in
theorem rbytes_any (w : World) (g : Nat) (bs : List Bool) (G : Nat → Prop) (h : RW w g bs G) (x : Option Addr) (cx : Nat) (l : List UInt8) (hx : Sees w x cx l) (hxn : ∀ b off, x = some ⟨b, off, none⟩ → l ≠ [] → ¬ G b) (hk : bs.length ≤ 8192) :
    Calls Tryz.prog 46 #[.pointer (some ⟨g, 0, none⟩), .slice x l.length cx] w fun e w' => e = .returned (.int .i64 (bytesP bs.length l.length : Nat)) ∧ Left RW w G g (bytesB bs l) w' := by
  have hlm : l.length ≤ 9223372036854775807 := by have := hx.fits; have := hx.room; unfold maxLen at this; omega
  have hsame : Left RW w G g bs w := ⟨G, h, Apart.refl _ _, fun _ h => .inl h⟩
  have HH := h
  obtain ⟨v, h1, h2, _⟩ := h
  obtain ⟨d, cd, rfl⟩ : ∃ d cd, v = .slice d bs.length cd := by
    rcases h2.2 with ⟨rfl, h0⟩ | ⟨q, cap, cur, rfl, _⟩
    · exact ⟨none, 0, by rw [h0]⟩
    · exact ⟨_, _, rfl⟩
  have c0 : w.cell? ⟨g, 0, none⟩ = some (.slice d bs.length cd) := cell_of_row _ _ 0 _ _ _ h1
  by_cases hbad : 1024 < l.length ∨ 8192 < bs.length + 8 * l.length
  · have e1 : bytesP bs.length l.length = 2 := by unfold bytesP; rw [if_pos hbad]
    have e2 : bytesB bs l = bs := by unfold bytesB; rw [e1]; rfl
    rw [e1, e2]
    clear h1 h2 e1 e2 HH hxn hx
    by_cases hA : 1024 < l.length
    · have dA : decide ((1024 : Int) < (l.length : Int)) = true := by simp; omega
      clear hbad
      go_enter Tryz.func46, Tryz.ntmps46
      go_wp2
      go_ret
      exact ⟨rfl, hsame⟩
    · have dA : decide ((1024 : Int) < (l.length : Int)) = false := by simp; omega
      have dB : decide ((8192 : Int) < (bs.length : Int) + 8 * (l.length : Int)) = true := by simp; omega
      clear hbad
      go_enter Tryz.func46, Tryz.ntmps46
      go_wp2
      go_ret
      exact ⟨rfl, hsame⟩
  · have e1 : bytesP bs.length l.length = 0 := by unfold bytesP; rw [if_neg hbad]
    have e2 : bytesB bs l = bs ++ bitsOf l := by unfold bytesB; rw [if_pos e1]
    rw [e1, e2]
    have hl1 : l.length ≤ 1024 := by omega
    have hl2 : bs.length + 8 * l.length ≤ 8192 := by omega
    have dA : decide ((1024 : Int) < (l.length : Int)) = false := by simp; omega
    have dB : decide ((8192 : Int) < (bs.length : Int) + 8 * (l.length : Int)) = false := by simp; omega
    have HX : Hid (Sees w x cx l) := hx
    have HXN : Hid (∀ b off, x = some ⟨b, off, none⟩ → l ≠ [] → ¬ G b) := hxn
    have hst : Left RW w G g (bs ++ bitsOf (l.take 0)) w := ⟨G, by rw [List.take_zero, bitsOf, List.append_nil]; exact HH, Apart.refl _ _, fun _ h => .inl h⟩
    clear h1 h2 e1 e2 HH hxn hx hbad hsame
    go_enter Tryz.func46, Tryz.ntmps46
    go_wp2
    go_loopw [5] (fun i wr => ∃ k : Nat, k ≤ l.length ∧ i = .int .i64 k ∧ Left RW w G g (bs ++ bitsOf (l.take k)) wr) (fun i _ => l.length - (intOf i).toNat)
    case atStart => exact ⟨0, Nat.zero_le _, rfl, hst⟩
    case round =>
      obtain ⟨k, hk', rfl, G1, hR, hap, hG1⟩ := hrel
      clear hst c0
      by_cases hlt : k < l.length
      · obtain ⟨y, hy⟩ : ∃ y, l[k]? = some y := ⟨l[k], by simp [hlt]⟩
        have hs2 := hap.sees HX.out HXN.out
        obtain ⟨b1, o1, rfl, hc1⟩ := hs2.get hy
        have hB : (bs ++ bitsOf (l.take k)).length + 8 ≤ 8192 := by
          rw [List.length_append, bitsOf_length, List.length_take]; omega
        obtain ⟨B2, hB2⟩ : ∃ B2, B2 = bs ++ bitsOf (l.take (k + 1)) := ⟨_, rfl⟩
        have hput : Calls Tryz.prog 69 #[.pointer (some ⟨g, 0, none⟩), .int .u64 (y.toNat : Int), .int .i64 8] wr fun e w' => e = .returned (.int .i64 0) ∧ Left RW wr G1 g B2 w' := by
          rw [hB2, bitsOf_take l k y hy, ← List.append_assoc, ← bitsN_byte]
          exact rput_ok wr g _ G1 hR y.toNat 8 (by omega) (by have := toNat_lt256 y; omega) hB
        have HB2 : Hid (B2 = bs ++ bitsOf (l.take (k + 1))) := hB2
        have wy : IntKind.u64.wrap (y.toNat : Int) = (y.toNat : Int) := by have := toNat_lt256 y; rw [IntKind.wrap_u64]; omega
        clear hR hs2 hy hB2 hB
        go_wp2_with fail
        refine hput.mono ?_
        rintro e w2 ⟨rfl, G2, hR2, hap2, hG2⟩
        have HE : Hid (Left RW w G g (bs ++ bitsOf (l.take (k + 1))) w2) := ⟨G2, by rw [← HB2.out]; exact hR2, hap.trans hap2 hG1, fun i hi => by
          rcases hG2 i hi with h | h
          · exact hG1 i h
          · have := hap.size; exact .inr (by omega)⟩
        clear hput hR2 hap2 hG2
        go_wp2
        go_roundw
        case rel => exact ⟨k + 1, by omega, by go_num, HE.out⟩
        case measure => simp [intOf]; omega
      · obtain rfl : k = l.length := by omega
        have HE : Hid (Left RW w G g (bs ++ bitsOf l) wr) := ⟨G1, by rw [List.take_length] at hR; exact hR, hap, hG1⟩
        clear hR hap hG1
        go_wp2
        go_ret
        exact ⟨rfl, HE.out⟩
end Go.Proofs.YtaihjnaggmmiiaaGreatDoor

namespace Go.Proofs.YtaihjnaggmmiiaaGreatDoor
open Go.ChangeShapes Go.WideShapes Go.ChangeAt Go.RowKit

theorem set_cellU (l : List UInt8) (i : Nat) (x : UInt8) : (l.map cellOf).set i (.int .u8 (x.toNat : Int)) = (l.set i x).map cellOf := by rw [List.map_set]; rfl
theorem packN_nil (m : Nat) : packN [] m = List.replicate m 0 := by
  apply List.ext_getElem?
  intro i
  by_cases h : i < m
  · rw [packN_at _ _ _ h, List.getElem?_replicate, if_pos h]; rfl
  · rw [List.getElem?_eq_none (by rw [packN_length]; omega), List.getElem?_eq_none (by simp; omega)]

set_option maxHeartbeats 3200000 in
set_option maxRecDepth 20000 in
theorem rdone_any (w : World) (g : Nat) (bs : List Bool) (G : Nat → Prop) (h : RW w g bs G) (hk : bs.length ≤ 8192) :
    Calls Tryz.prog 44 #[.pointer (some ⟨g, 0, none⟩)] w fun e w' => ∃ d cd r, Hid (r = packL bs) ∧ e = .returned (.slice d r.length cd) ∧ Sees w' d cd r ∧ Below w.heap.size w w' := by
  obtain ⟨i5, hi, hz0, hz1, hz2⟩ := info_parts Tryz.info5
  obtain ⟨v, h1, h2, h3, _, h5⟩ := h
  have hgl := h5 g h3
  obtain ⟨d, cd, rfl⟩ : ∃ d cd, v = .slice d bs.length cd := by
    rcases h2.2 with ⟨rfl, h0⟩ | ⟨q, cap, cur, rfl, _⟩
    · exact ⟨none, 0, by rw [h0]⟩
    · exact ⟨_, _, rfl⟩
  have c0 : w.cell? ⟨g, 0, none⟩ = some (.slice d bs.length cd) := cell_of_row _ _ 0 _ _ _ h1
  have HO : Hid (w.ownsRow 0 4 1 (.slice d bs.length cd) bs.length (bs.map .bool)) := h2
  obtain ⟨N, hN⟩ : ∃ N, N = (bs.length + 7) / 8 := ⟨_, rfl⟩
  have HN : Hid (N = (bs.length + 7) / 8) := hN
  have q1 : ((bs.length : Int) + 7) / 8 = (N : Int) := by omega
  have q2 : ((bs.length : Int) + 7).tdiv 8 = (N : Int) := by rw [Int.tdiv_eq_ediv_of_nonneg (by omega)]; exact q1
  have hN2 : N ≤ 1024 := by omega
  clear h1 h2 h5 hN h3
  go_enter Tryz.func44, Tryz.ntmps44
  go_wp2_with (at_make; refine wpList_make_full _ rfl _ _ 23 rfl w.heap.size 5 i5 (.int .u8 0) 1 Tryz.underlying23 hi hz0 hz1 .i64 .i64 _ _ N rfl rfl rfl rfl ?b2 ?b3 ?b4 ?_)
  case b2 => rw [hz2]; omega
  case b3 => unfold maxLen; omega
  case b4 => exact Nat.le_refl _
  intro w1 hown hgrow
  have hbel : Below w.heap.size w w1 := (Below.refl _ _).grown hgrow (Nat.le_refl _) (by intro k h; cases h)
  have ho0 : w1.ownsRow w.heap.size 5 1 (.slice (some ⟨w.heap.size, 0, none⟩) N N) N ((packN (bs.take 0) N).map cellOf) := by rw [List.take_zero, packN_nil, ← made_bytes]; simpa using hown
  clear hgrow hown
  go_wp2
  go_loopw [4] (fun i wr => ∃ k : Nat, k ≤ bs.length ∧ i = .int .i64 k ∧ wr.ownsRow w.heap.size 5 1 (.slice (some ⟨w.heap.size, 0, none⟩) N N) N ((packN (bs.take k) N).map cellOf) ∧ Below w.heap.size w wr) (fun i _ => bs.length - (intOf i).toNat)
  case atStart => exact ⟨0, Nat.zero_le _, rfl, ho0, hbel⟩
  case round =>
    obtain ⟨p, hp, rfl, ho, hbl⟩ := hrel
    clear ho0 hbel q1 q2
    have c1 : wr.cell? ⟨g, 0, none⟩ = some (.slice d bs.length cd) := by rw [hbl.cell (p := ⟨g, 0, none⟩) hgl]; exact c0
    by_cases hlt : p < bs.length
    · obtain ⟨t, ht⟩ : ∃ t, t = bs[p] := ⟨_, rfl⟩
      obtain ⟨qb, rfl, hcb⟩ : ∃ qb, d = some ⟨qb, 0, none⟩ ∧ wr.cell? ⟨qb, p, none⟩ = some (.bool t) := by
        have h2 := HO.out
        rcases h2.2 with ⟨_, h0⟩ | ⟨q, cap, cur, he, _⟩
        · omega
        · simp only [Value.slice.injEq] at he
          obtain ⟨rfl, _, rfl⟩ := he
          have h6 := h2.cells (g := q) rfl p (.bool t) (by simp [hlt, ht])
          rw [Addr.add_lit] at h6
          simp only [Nat.zero_add] at h6
          exact ⟨q, rfl, by rw [hbl.cell (p := ⟨q, p, none⟩) (World.block_lt_of_cell? w _ h6)]; exact h6⟩
      obtain ⟨q, hq⟩ : ∃ q, q = p / 8 := ⟨_, rfl⟩
      obtain ⟨r, hr⟩ : ∃ r, r = p % 8 := ⟨_, rfl⟩
      obtain ⟨s, hs⟩ : ∃ s, s = 7 - r := ⟨_, rfl⟩
      have hqN : q < N := by have := HN.out; omega
      obtain ⟨x, hx⟩ : ∃ x, (packN (bs.take p) N)[q]? = some x := ⟨_, packN_at _ _ _ hqN⟩
      have hor := packN_or bs N p hlt (by rw [← hq]; exact hqN) x (by rw [← hq]; exact hx)
      rw [← hq, ← hr, ← hs, ← ht] at hor
      cases t with
      | false =>
        have hset : (packN (bs.take p) N).set q x = packN (bs.take p) N := by
          apply List.ext_getElem?
          intro i
          rw [List.getElem?_set]
          by_cases hi : q = i
          · subst hi; rw [if_pos rfl, if_pos (by rw [packN_length]; exact hqN), hx]
          · rw [if_neg hi]
        rw [if_neg (by simp), hset] at hor
        rw [hor] at ho
        clear hor hset hx hq hr hs ht
        go_wp2
        go_roundw
        case rel => exact ⟨p + 1, by omega, by go_num, ho, hbl⟩
        case measure => simp [intOf]; omega
      | true =>
        rw [if_pos rfl] at hor
        have hs8 : s < 8 := by omega
        obtain ⟨y, hy⟩ : ∃ y, y = x ||| UInt8.ofNat (2 ^ s) := ⟨_, rfl⟩
        obtain ⟨T, hT⟩ : ∃ T, T = 2 ^ s := ⟨_, rfl⟩
        have hT8 : T < 256 := by rw [hT]; exact Nat.pow_lt_pow_right (a := 2) (n := 8) (by omega) (by omega)
        have eT : (2 : Int) ^ s = (T : Int) := by rw [hT]; simp
        have ey : bits .or .u8 (x.toNat : Int) (T : Int) = (y.toNat : Int) := by
          have h1 := bor x (UInt8.ofNat (2 ^ s))
          rw [← hy, UInt8.toNat_ofNat', ← hT, Nat.mod_eq_of_lt hT8] at h1
          exact h1
        have wT : IntKind.u8.wrap (T : Int) = (T : Int) := by rw [IntKind.wrap_u8]; omega
        rw [← hy] at hor
        have hcx : wr.cell? ⟨w.heap.size, q, none⟩ = some (.int .u8 (x.toNat : Int)) := by rw [ho.cellAt q (by omega), List.getElem?_map, hx]; rfl
        have hfx : wr.frozen? ⟨w.heap.size, q, none⟩ = false := ho.frozenAt q
        obtain ⟨ho2, _⟩ := ho.stored q (.int .u8 (y.toNat : Int))
        rw [set_cellU, hor] at ho2
        have HO2 : Hid ((wr.setCell ⟨w.heap.size, q, none⟩ (.int .u8 (y.toNat : Int))).drew.ownsRow w.heap.size 5 1 (.slice (some ⟨w.heap.size, 0, none⟩) N N) N ((packN (bs.take (p + 1)) N).map cellOf)) := ho2.drew
        have HBL : Hid (Below w.heap.size w (wr.setCell ⟨w.heap.size, q, none⟩ (.int .u8 (y.toNat : Int))).drew) := (hbl.setCell (p := ⟨w.heap.size, q, none⟩) (Nat.le_refl _) _).drew
        have q1 : (p : Int) / 8 = (q : Int) := by omega
        have q2 : (p : Int).tdiv 8 = (q : Int) := by rw [Int.tdiv_eq_ediv_of_nonneg (by omega)]; exact q1
        have r1 : (p : Int) % 8 = (r : Int) := by omega
        have r2 : (p : Int).tmod 8 = (r : Int) := by rw [Int.tmod_eq_emod_of_nonneg (by omega)]; exact r1
        have s1 : 7 - (r : Int) = (s : Int) := by omega
        have s2 : IntKind.i64.wrap (7 - (r : Int)) = (s : Int) := by rw [IntKind.wrap_i64]; omega
        have gq0 : (0 : Int) ≤ (q : Int) := Int.natCast_nonneg _
        have gq1 : (q : Int) < (N : Int) := by omega
        have gs0 : (0 : Int) ≤ (s : Int) := Int.natCast_nonneg _
        clear hor ho ho2 hbl hx hy hT hq hr hs ht
        go_wp2
        go_region
        go_wp2
        go_roundw
        case rel => exact ⟨p + 1, by omega, by go_num, HO2.out, HBL.out⟩
        case measure => simp [intOf]; omega
    · obtain rfl : p = bs.length := by omega
      rw [List.take_length] at ho
      have hpk : packN bs N = packL bs := by rw [HN.out]; rfl
      rw [hpk] at ho
      have hpl : (packL bs).length = N := by rw [packL_length, HN.out]
      obtain ⟨r, hr⟩ : ∃ r, r = packL bs := ⟨_, rfl⟩
      rw [← hr] at ho hpl
      obtain ⟨c, cc, hv, hs⟩ := Sees.of_own ho
      simp only [Value.slice.injEq] at hv
      rw [← hv.1, ← hv.2.2] at hs
      have HR : Hid (r = packL bs) := hr
      have HPL : Hid (r.length = N) := hpl
      clear hv ho hpk hr hpl
      go_wp2
      go_ret
      exact ⟨_, _, r, HR, by rw [HPL.out]; rfl, hs, hbl⟩
end Go.Proofs.YtaihjnaggmmiiaaGreatDoor
