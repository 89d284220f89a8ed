/-
  The walk of IvalMost, out of the contracts.
-/
import Derived.Test.YtmdpfkilkmicjaaMostP
import Derived.Test.YtmdpfkilkmicjaaIvalMakesW
namespace Go.Proofs.Ytmdpfkilkmicjaa
open Go.ChangeShapes Go.WideShapes Go.ChangeAt Go.RowKit

set_option maxHeartbeats 3200000 in
set_option maxRecDepth 20000 in
theorem most_walk (a : Option Addr) (ca : Nat) (L : List (Int × Int)) (w : World) (hs : Ivals w a ca L) : Calls Try.prog 5 #[.slice a L.length ca] w fun e w' => e = .returned (.bool true) ∧ Below w.heap.size w w' := by
  have H9 : Hid (∀ W, Calls Try.prog 25 #[] W fun e w' => e = .returned (.bool true) ∧ Below W.heap.size W w') := awake_ok
  have hlen := hs.len
  by_cases hl : 100 < L.length
  · have g1 : (100 : Int) < (L.length : Int) := by omega
    clear hs
    go_enter Try.func5, Try.ntmps5
    go_wp2_with fail
    refine (H9.out _).mono ?_
    rintro e w1 ⟨rfl, hb⟩
    go_wp2
    go_ret
    exact ⟨rfl, hb⟩
  · have g1 : ¬ (100 : Int) < (L.length : Int) := by omega
    have K1 := mostp_ok w a ca L hs (by omega)
    have HR : Hid (∀ W, Below w.heap.size w W → Calls Try.prog 29 #[.slice a L.length ca] W fun e w' => ∃ lo hi n, e = .returned (.tuple #[.agg #[.int .i64 lo, .int .i64 hi], .int .i64 n]) ∧ Tried L L lo hi n ∧ Below W.heap.size W w') := fun W hb => refmost2_ok W a ca L (hs.below hb)
    clear hs
    go_enter Try.func5, Try.ntmps5
    go_wp2_with fail
    refine K1.mono ?_
    rintro e w1 ⟨lo, hi, n, rfl, hM, hb⟩
    have bel1 := hb.alloc hb.size (.cells #[.int .i64 lo, .int .i64 hi] 23)
    have HP : Hid (Pair (w1.alloc (.cells #[.int .i64 lo, .int .i64 hi] 23)) w1.heap.size lo hi) := Pair.new w1 lo hi
    have HM : Hid (MostIs L lo hi n) := hM
    have K2 := HR.out _ bel1
    clear K1 hb hM HR
    go_wp2_with fail
    refine K2.mono ?_
    rintro e w2 ⟨lo', hi', n', rfl, hT, hb⟩
    obtain ⟨rfl, rfl, rfl⟩ := most_same HM.out hT
    have HQ : Hid (Pair w2 w1.heap.size lo hi) := HP.out.below hb
    obtain ⟨x0, x1, x2, x3⟩ := HQ.out.facts
    have bel2 := bel1.trans (hb.mono bel1.size)
    have bel3 := bel2.alloc bel2.size (.cells #[.int .i64 lo, .int .i64 hi] 23)
    have n3 : w1.heap.size < w2.heap.size := HQ.out.lt
    have n1 : ¬ w1.heap.size = w2.heap.size := by omega
    have hE := eqSame lo hi
    clear K2 hb bel1 bel2 HP HM hT
    go_wp2_with fail
    refine (H9.out _).mono ?_
    rintro e w3 ⟨rfl, hb⟩
    go_wp2
    go_ret
    exact ⟨by first | rfl | simp, bel3.trans (hb.mono bel3.size)⟩
end Go.Proofs.Ytmdpfkilkmicjaa
