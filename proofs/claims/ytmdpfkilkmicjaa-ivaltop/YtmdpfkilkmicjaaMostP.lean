/-
  The contract of Most.
-/
import Derived.Test.YtmdpfkilkmicjaaEndsB
import Derived.Test.YtmdpfkilkmicjaaFullest
import Derived.Test.YtmdpfkilkmicjaaMostRefB
namespace Go.Proofs.Ytmdpfkilkmicjaa
open Go.ChangeShapes Go.WideShapes Go.ChangeAt Go.RowKit

/-- What lies in memory between two rounds: the result's box, and what has been found. -/
def FoundM (w : World) (g : Nat) (lo hi : Int) (W : World) : Prop := Below w.heap.size w W ∧ Pair W w.heap.size 0 0 ∧ Pair W g lo hi
theorem FoundM.below {w W W' : World} {g : Nat} {lo hi : Int} (h : FoundM w g lo hi W) (hb : Below W.heap.size W W') : FoundM w g lo hi W' := ⟨h.1.trans (hb.mono h.1.size), h.2.1.below hb, h.2.2.below hb⟩
theorem FoundM.alloc {w W : World} {g : Nat} {lo hi : Int} (h : FoundM w g lo hi W) (o : Obj) : FoundM w g lo hi (W.alloc o) := h.below (Go.Joins.below_alloc1 _ _)
theorem FoundM.set {w W : World} {g : Nat} {lo hi : Int} (h : FoundM w g lo hi W) (hg : w.heap.size < g) (lo' hi' : Int) : FoundM w g lo' hi' ((W.setCell ⟨g, 0, none⟩ (.int .i64 lo')).setCell ⟨g, 1, none⟩ (.int .i64 hi')) :=
  ⟨below_pair h.1 (by omega) _ _, (h.2.1.other (by omega) _).other (by omega) _, h.2.2.set _ _⟩

set_option maxHeartbeats 6400000 in
set_option maxRecDepth 20000 in
theorem mostp_ok (w : World) (a : Option Addr) (ca : Nat) (L : List (Int × Int)) (hs : Ivals w a ca L) (hl : L.length ≤ 200) :
    Calls Try.prog 28 #[.slice a L.length ca] w fun e w' => ∃ lo hi n, e = .returned (.tuple #[.agg #[.int .i64 lo, .int .i64 hi], .int .i64 n]) ∧ MostIs L lo hi n ∧ Below w.heap.size w w' := by
  have HS : Hid (∀ W, Below w.heap.size w W → Ivals W a ca L) := fun W hb => hs.below hb
  have K1 := ends_ok (w.alloc (.cells #[.int .i64 0, .int .i64 0] 23)) a ca L (hs.below (Go.Joins.below_alloc1 _ _)) hl
  have HF : Hid (∀ W p cp, Ivals W p cp (sortE (endsL L)) → Calls Try.prog 34 #[.slice p (sortE (endsL L)).length cp] W fun e w' => ∃ h m q, e = .returned (.tuple #[.int .i64 q, .int .i64 m]) ∧ Full (sortE (endsL L)) h m q ∧ Below W.heap.size W w') := fun W p cp hI => by
    refine fullest_ok W p cp _ hI (fun e he => ?_) ?_
    · rcases endsL_mem ((sortE_perm _).mem_iff.1 he) with h | h
      · exact .inl h.1
      · exact .inr h
    · rw [(sortE_perm _).length_eq]
      have := endsL_length L
      omega
  have HM : Hid (∀ h m q, Full (sortE (endsL L)) h m q → (∀ v, cntN L v ≤ m) ∧ ((m = 0 ∧ q = 0) ∨ (0 < m ∧ cntN L q = m ∧ (∃ x ∈ L, rightB x.1 x.2 = true ∧ x.1 = q) ∧ ∀ v, cntN L v = m → q ≤ v))) := fun h m q F => full_most (sortE_perm _) (sortE_order _) F
  have HH : Hid (∀ W x y n, Calls Try.prog 21 #[.agg #[.int .i64 x, .int .i64 y], .int .i64 n] W fun e w' => e = .returned (.bool (holdsB x y n)) ∧ Below W.heap.size W w') := fun W x y n => holds_ok W x y n
  have HX : Hid (∀ W p q x y, Calls Try.prog 31 #[.agg #[.int .i64 p, .int .i64 q], .agg #[.int .i64 x, .int .i64 y]] W fun e w' => e = .returned (.agg #[.int .i64 (mxN p x), .int .i64 (mnN q y)]) ∧ Below W.heap.size W w') := fun W p q x y => meet_below W p q x y
  clear hs
  generalize sortE (endsL L) = S at *
  go_enter Try.func28, Try.ntmps28
  go_wp2_with fail
  refine K1.mono ?_
  rintro e w1 ⟨p, cp, rfl, hI, hb⟩
  obtain ⟨P0, bel⟩ := boxes1 hb
  have K2 := HF.out w1 p cp hI
  have HP1 : Hid (Pair w1 w.heap.size 0 0) := P0
  clear K1 HF hI P0 hb
  go_wp2_with fail
  refine K2.mono ?_
  rintro e w2 ⟨h, m, q, rfl, hF, hb⟩
  have HP2 : Hid (Pair w2 w.heap.size 0 0) := HP1.out.below hb
  have bel2 := bel.trans (hb.mono bel.size)
  have hcs := HM.out h m q hF
  clear HM K2 hF HP1 bel hb
  obtain ⟨hall, hcs⟩ := hcs
  have HAll : Hid (∀ v, cntN L v ≤ m) := hall
  clear hall
  rcases hcs with ⟨rfl, rfl⟩ | ⟨hm, h2, h3, h4⟩
  · obtain ⟨f0, f1, f2, f3⟩ := HP2.out.facts
    go_wp2
    refine bodyPost_ret (res_pair_tmp rfl rfl (HP2.out.set _ _)) rfl ?_
    exact ⟨0, 0, 0, rfl, ⟨HAll.out, .inl ⟨rfl, rfl, rfl⟩⟩, below_pair bel2 (Nat.le_refl _) _ _⟩
  · have HMost : Hid (MostIs L q (hiL q L) m) := ⟨HAll.out, .inr ⟨hm, h2, rfl, h3, h4⟩⟩
    have n1 : (m == 0) = false := by simp; omega
    have HF0 : Hid (FoundM w w2.heap.size q 1099511627776 (w2.alloc (.cells #[.int .i64 q, .int .i64 1099511627776] 23))) := ⟨bel2.alloc bel2.size _, HP2.out.alloc _, Pair.new _ _ _⟩
    have hgg : w.heap.size < w2.heap.size := HP2.out.lt
    clear h2 h3 h4 HAll bel2 HP2
    go_wp2
    go_loopw [22] (fun u wr => ∃ j : Nat, j ≤ L.length ∧ u = .int .i64 (j : Int) ∧ FoundM w w2.heap.size q (hiL q (L.take j)) wr) (fun u _ => L.length - (intOf u).toNat)
    case atStart => exact ⟨0, Nat.zero_le _, rfl, HF0.out⟩
    case round =>
      obtain ⟨j, hj, rfl, hFM⟩ := hrel
      have HFM : Hid (FoundM w w2.heap.size q (hiL q (L.take j)) wr) := hFM
      clear hFM HF0
      by_cases hlt : j < L.length
      · obtain ⟨x, hx⟩ : ∃ x, L[j]? = some x := ⟨L[j], by simp [hlt]⟩
        have hnx := hiL_snoc q L j x hx
        obtain ⟨b1, o1, ha, hc1, hc2⟩ := (HS.out _ HFM.out.1).get hx
        subst ha
        obtain ⟨x1, x2⟩ := x
        simp only [] at hnx hc1 hc2
        have HY : Hid (∀ W, Calls Try.prog 21 #[.agg #[.int .i64 x1, .int .i64 x2], .int .i64 q] W fun e w' => e = .returned (.bool (holdsB x1 x2 q)) ∧ Below W.heap.size W w') := fun W => HH.out W x1 x2 q
        obtain ⟨A, hA⟩ : ∃ A, A = hiL q (L.take j) := ⟨_, rfl⟩
        obtain ⟨A2, hA2⟩ : ∃ A, A = hiL q (L.take (j + 1)) := ⟨_, rfl⟩
        rw [← hA, ← hA2] at hnx
        rw [← hA] at HFM
        have HA2 : Hid (A2 = hiL q (L.take (j + 1))) := hA2
        have g1 : (j : Int) < (L.length : Int) := by omega
        have g3 : (0 : Int) ≤ (j : Int) := Int.natCast_nonneg _
        have HJ : Hid (j < L.length) := hlt
        cases hh : holdsB x1 x2 q
        · rw [hh] at HY hnx
          rw [if_neg (by simp)] at hnx
          clear hx hA hA2 hlt hh
          go_wp2_with fail
          refine (HY.out _).mono ?_
          rintro e w3 ⟨rfl, hb⟩
          have HG : Hid (FoundM w w2.heap.size q A w3) := (HFM.out.alloc _).below hb
          clear HY hb hc1 hc2 HFM
          go_wp2
          go_roundw
          case rel => exact ⟨j + 1, HJ.out, by first | go_num | (congr 1; omega), by rw [← HA2.out, hnx]; exact HG.out⟩
          case measure => have := HJ.out; simp [intOf]; omega
        · have HZ : Hid (∀ W, Calls Try.prog 31 #[.agg #[.int .i64 q, .int .i64 A], .agg #[.int .i64 x1, .int .i64 x2]] W fun e w' => e = .returned (.agg #[.int .i64 q, .int .i64 A2]) ∧ Below W.heap.size W w') := fun W => by
            have h0 := of_decide_eq_true hh
            have h5 := HX.out W q A x1 x2
            rw [show mxN q x1 = q by unfold mxN; rw [if_neg (by omega)]] at h5
            rw [hnx, hh, if_pos rfl]
            exact h5
          rw [hh] at HY
          clear hx hA hA2 hlt hh hnx
          go_wp2_with fail
          refine (HY.out _).mono ?_
          rintro e w3 ⟨rfl, hb⟩
          have HG : Hid (FoundM w w2.heap.size q A w3) := (HFM.out.alloc _).below hb
          obtain ⟨f0, f1, f2, f3⟩ := HG.out.2.2.facts
          obtain ⟨k0, k1, k2, k3⟩ := ((Pair.new wr x1 x2).below hb).facts
          clear HY hb hc1 hc2 HFM
          go_wp2_with fail
          refine (HZ.out _).mono ?_
          rintro e w4 ⟨rfl, hb⟩
          have HG2 : Hid (FoundM w w2.heap.size q A w4) := HG.out.below hb
          clear HZ hb f0 f1 f2 f3 k0 k1 k2 k3
          obtain ⟨f0, f1, f2, f3⟩ := HG2.out.2.2.facts
          have HG3 : Hid (FoundM w w2.heap.size q A2 ((w4.setCell ⟨w2.heap.size, 0, none⟩ (.int .i64 q)).setCell ⟨w2.heap.size, 1, none⟩ (.int .i64 A2))) := HG2.out.set hgg q A2
          go_wp2
          go_roundw
          case rel => exact ⟨j + 1, HJ.out, by first | go_num | (congr 1; omega), by rw [← HA2.out]; exact HG3.out⟩
          case measure => have := HJ.out; simp [intOf]; omega
      · have hjl : j = L.length := by omega
        rw [show L.take j = L by rw [hjl]; exact List.take_of_length_le (Nat.le_refl _)] at HFM
        obtain ⟨f0, f1, f2, f3⟩ := HFM.out.2.2.facts
        obtain ⟨k0, k1, k2, k3⟩ := HFM.out.2.1.facts
        obtain ⟨A, hA⟩ : ∃ A, A = hiL q L := ⟨_, rfl⟩
        rw [← hA] at HFM HMost f1
        clear hA
        go_wp2
        refine bodyPost_ret (res_pair_tmp rfl rfl (HFM.out.2.1.set _ _)) rfl ?_
        exact ⟨q, A, m, rfl, HMost.out, below_pair HFM.out.1 (Nat.le_refl _) _ _⟩
end Go.Proofs.Ytmdpfkilkmicjaa
