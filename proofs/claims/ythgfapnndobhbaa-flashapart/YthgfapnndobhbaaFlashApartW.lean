/-
  The walk of FlashApart.
-/
import Derived.Test.YthgfapnndobhbaaFlashNew
import Derived.Test.YthgfapnndobhbaaFlashCopy
import Derived.Test.YthgfapnndobhbaaFlashWrite
namespace Go.Proofs.Ythgfapnndobhbaa
open Go.ChangeShapes Go.WideShapes Go.ChangeAt Go.RowKit

/-- Is any byte other than FF? -/
def anyNot (b : List UInt8) : Bool := b.any (· != 255)
theorem anyNot_snoc (b : List UInt8) (x : UInt8) : anyNot (b ++ [x]) = (anyNot b || x != 255) := by simp [anyNot]

/-- Bytes put upon a new flash: the same, if all are FF. -/
theorem put_same (A N : Nat) (b : List UInt8) (h : A + b.length ≤ N) : (putAt (List.replicate N 255) A b.length b = List.replicate N 255) ↔ anyNot b = false := by
  have e : putAt (List.replicate N 255) A b.length b = List.replicate A 255 ++ b ++ List.replicate (N - (A + b.length)) 255 := by
    unfold putAt
    rw [List.take_replicate, List.drop_replicate, List.take_of_length_le (Nat.le_refl _), Nat.min_eq_left (by omega)]
  rw [e]
  constructor
  · intro h1
    have h2 : ∀ x ∈ b, x = (255 : UInt8) := fun x hx => by
      have : x ∈ List.replicate N (255 : UInt8) := by rw [← h1]; simp [hx]
      exact List.eq_of_mem_replicate this
    simp only [anyNot, List.any_eq_false, bne_iff_ne, ne_eq, Decidable.not_not]
    exact h2
  · intro h1
    have h2 : b = List.replicate b.length 255 := by
      apply List.eq_replicate_of_mem
      simpa [anyNot] using h1
    rw [h2]
    simp only [List.length_replicate, List.replicate_append_replicate]
    congr 1; omega
theorem u8_cmp (y : UInt8) : ((y.toNat : Int) == 255) = (y == 255) := by
  by_cases h : y = 255
  · subst h; rfl
  · have h9 : ¬ ((y.toNat : Int) = 255) := by
      intro e
      have e2 : y.toNat = (255 : UInt8).toNat := by have : (255 : UInt8).toNat = 255 := rfl
                                                    omega
      exact h (UInt8.toNat_inj.1 e2)
    rw [show ((y.toNat : Int) == 255) = false from beq_eq_false_iff_ne.2 h9, show (y == 255) = false from beq_eq_false_iff_ne.2 h]

set_option maxHeartbeats 3200000 in
set_option maxRecDepth 20000 in
theorem apart_walk (a : Option Addr) (ca : Nat) (b : List UInt8) (at' : Int) (w : World) (hs : Sees w a ca b) (hm : ca ≤ 140737488351232) (hat : (Lit.int .i64 at').wf = true) :
    Calls Try.prog 5 #[.slice a b.length ca, .int .i64 at'] w fun e w' => e = .returned (.bool true) ∧ Below w.heap.size w w' := by
  have hnew := new_ok w 50 (by omega)
  have HS : Hid (Sees w a ca b) := hs
  have hbl : b.length ≤ 140737488351232 := by have := hs.fits; omega
  have hab : ∀ bb off, a = some ⟨bb, off, none⟩ → b ≠ [] → bb < w.heap.size := fun bb off he hne => by
    obtain ⟨b2, o2, he2, hc2⟩ := hs.at' hne
    rw [he] at he2
    obtain ⟨rfl, rfl⟩ : bb = b2 ∧ off = o2 := by simpa using he2
    obtain ⟨y, hy⟩ : ∃ y, b[0]? = some y := by cases b with | nil => exact absurd rfl hne | cons y _ => exact ⟨y, rfl⟩
    exact World.block_lt_of_cell? w _ (hc2 0 y hy)
  have HAB : Hid (∀ bb off, a = some ⟨bb, off, none⟩ → b ≠ [] → bb < w.heap.size) := hab
  clear hs hm hab
  go_enter Try.func5, Try.ntmps5
  go_wp2_with fail
  refine hnew.mono ?_
  rintro e w1 ⟨g, F, rfl, h1, hF, hb1⟩
  clear hnew
  have hcp := copy_ok w1 g _ F h1
  have HB1 : Hid (Below w.heap.size w w1) := hb1
  have H1 : Hid (PF w1 g (newS 50) F ∧ ∀ k, F k → w.heap.size ≤ k) := ⟨h1, hF⟩
  clear h1 hF hb1
  go_wp2_with fail
  refine hcp.mono ?_
  rintro e w2 ⟨g2, F2, rfl, h2, hF2, hb2⟩
  clear hcp
  have hwr := write_ok w2 g2 _ F2 h2 (by simp [newS]) at' hat a ca b ((HS.out.below HB1.out).below hb2) (fun bb off he hne hf => by
    have h3 := hF2 bb hf; have h4 := HAB.out bb off he hne; have := HB1.out.size; omega)
  obtain ⟨E, hE⟩ : ∃ E, E = writeE (newS 50) at' b := ⟨_, rfl⟩
  obtain ⟨S, hS⟩ : ∃ S, S = writeS (newS 50) at' b := ⟨_, rfl⟩
  rw [← hE, ← hS] at hwr
  have HE : Hid (E = writeE (newS 50) at' b) := hE
  have HSS : Hid (S = writeS (newS 50) at' b) := hS
  have H2 : Hid (PF w2 g (newS 50) F ∧ (∀ k, F2 k → w1.heap.size ≤ k) ∧ Below w1.heap.size w1 w2) := ⟨pf_kept.below H1.out.1 hb2, hF2, hb2⟩
  clear h2 hF2 hb2 hE hS
  go_wp2_with fail
  refine hwr.mono ?_
  rintro e w3 ⟨rfl, F3, h3, ap3, hF3⟩
  clear hwr
  have hsz12 := H2.out.2.2.size
  have hsz01 := HB1.out.size
  have hg3 : PF w3 g (newS 50) F := pf_kept.keep H2.out.1 (fun k hk => ap3.block k (pf_kept.lt H2.out.1 k hk) (fun hf => by
    have := H2.out.2.1 k hf; have := pf_kept.lt H1.out.1 k hk; omega))
  have hb3 : Below w.heap.size w w3 := ap3.below (HB1.out.trans (H2.out.2.2.mono hsz01)) (fun k hk => by have := H2.out.2.1 k hk; omega) (by omega)
  have hrx := read_ok w3 g _ F hg3 0 50 (by decide)
  have H3 : Hid (PF w3 g2 S F3 ∧ Below w.heap.size w w3) := ⟨h3, hb3⟩
  clear h3 ap3 hF3 hg3 hb3 hsz12 hsz01
  go_wp2_with fail
  refine hrx.mono ?_
  rintro e w4 ⟨dx, cx, rx, Ex, hrx', hEx, rfl, hsx, hb4⟩
  clear hrx
  have hry := read_ok w4 g2 S F3 (pf_kept.below H3.out.1 hb4) 0 50 (by decide)
  have HX : Hid (rx = readL (newS 50) 0 50) := hrx'
  have H4 : Hid (Below w.heap.size w w4) := H3.out.2.trans (hb4.mono H3.out.2.size)
  have HSX : Hid (Sees w4 dx cx rx) := hsx
  clear hrx' hsx hb4
  go_wp2_with fail
  refine hry.mono ?_
  rintro e w5 ⟨dy, cy, ry, Ey, hry', hEy, rfl, hsy, hb5⟩
  clear hry
  have hlx : rx.length = 50 := by rw [HX.out]; rfl
  have hsx5 := HSX.out.below hb5
  have HB5 : Hid (Below w.heap.size w w5) := H4.out.trans (hb5.mono H4.out.size)
  have HSA : Hid (Sees w5 a ca b) := HS.out.below HB5.out
  have HSX5 : Hid (Sees w5 dx cx rx) := hsx5
  have hrx0 : ∀ (i : Nat) (x : UInt8), rx[i]? = some x → x = 255 := fun i x hx => by
    have hm := List.mem_of_getElem? hx
    have : rx = List.replicate 50 255 := by rw [HX.out]; rfl
    rw [this] at hm
    exact List.eq_of_mem_replicate hm
  have HRX : Hid (∀ (i : Nat) (x : UInt8), rx[i]? = some x → x = 255) := hrx0
  have HAW := awake_ok w5
  by_cases h0 : E = 0
  · have hok : ∃ A : Nat, A + b.length ≤ 50 ∧ S.dead = false ∧ S.b = putAt (List.replicate 50 255) A b.length b := by
      have hE := HE.out
      have hS := HSS.out
      rw [h0] at hE
      unfold writeE at hE
      unfold writeS at hS
      by_cases hc : checkE (newS 50) at' b.length = 0
      · obtain ⟨_, k1, _, k2⟩ := check_zero hc
        rw [if_neg (by simp [hc])] at hS
        refine ⟨at'.toNat, ?_, by rw [hS]; rfl, by rw [hS]; rfl⟩
        have : ((newS 50).b.length : Int) = 50 := rfl
        rw [this] at k2
        omega
      · rw [if_pos hc] at hE; omega
    obtain ⟨A, hA, hSd, hSb⟩ := hok
    have hSl : S.b.length = 50 := by rw [hSb, putAt_len _ _ _ _ (by simpa using hA) (Nat.le_refl _)]; simp
    have hry2 : ry = S.b := by
      rw [hry'.out]; unfold readL
      have : checkE S 0 50 = 0 := by unfold checkE; rw [hSd, hSl]; rfl
      rw [if_neg (by simp [this])]
      show (S.b.drop 0).take 50 = S.b
      rw [List.drop_zero, List.take_of_length_le (by omega)]
    obtain ⟨sm, hsm⟩ : ∃ sm, sm = decide (rx = ry) := ⟨_, rfl⟩
    have HSM : Hid (sm = !anyNot b) := by
      show sm = !anyNot b
      have h1 := put_same A 50 b hA
      have h2 : rx = List.replicate 50 255 := by rw [HX.out]; rfl
      rw [hsm, hry2, hSb, h2]
      generalize List.replicate 50 (255 : UInt8) = R at h1
      cases hn : anyNot b
      · rw [hn] at h1; simp [h1.2 rfl]
      · have h3 : ¬ (R = putAt R A b.length b) := fun h => by have := h1.1 h.symm; rw [hn] at this; cases this
        simp [h3]
    have cvx := hsx5.convert (P := Try.prog) 22 5 9 Try.underlying22 Try.underlying5 Try.underlying9
    rw [hlx] at cvx
    have cvy := hsy.convert (P := Try.prog) 22 5 9 Try.underlying22 Try.underlying5 Try.underlying9
    have heq : (rx == ry) = sm := by rw [hsm]; by_cases h : rx = ry <;> simp [h]
    subst h0
    clear hry' hEy hsy hb5 hsx5 hrx0 hA hSd hSb hSl hry2 hsm
    go_wp2
    go_loopw [14] (fun i wr => ∃ k : Nat, k ≤ 50 ∧ i = .int .i64 (k : Int) ∧ wr = w5) (fun i _ => 50 - (intOf i).toNat)
    case atStart => exact ⟨0, by omega, rfl, rfl⟩
    case round =>
      obtain ⟨k, hk, rfl, rfl⟩ := hrel
      by_cases hlt : k < 50
      · obtain ⟨x, hx⟩ : ∃ x, rx[k]? = some x := ⟨rx[k]'(by omega), by simp [hlx, hlt]⟩
        obtain ⟨bx, ox, rfl, cx0⟩ := HSX5.out.get hx
        have h255 := HRX.out k x hx
        subst h255
        have cx1 : wr.cell? ⟨bx, ox + k, none⟩ = some (.int .u8 255) := cx0
        clear hx cx0
        go_wp2
        go_roundw
        case rel => exact ⟨k + 1, by omega, by go_num, by first | rfl | trivial⟩
        case measure => simp [intOf]; omega
      · obtain rfl : k = 50 := by omega
        go_wp2
        go_loopw [15, 16] (fun c i wr2 => ∃ k : Nat, k ≤ b.length ∧ c = .bool (anyNot (b.take k)) ∧ i = .int .i64 (k : Int) ∧ wr2 = wr) (fun _ i _ => b.length - (intOf i).toNat)
        case atStart => exact ⟨0, by omega, rfl, rfl, rfl⟩
        case round =>
          obtain ⟨k, hk, rfl, rfl, rfl⟩ := hrel
          by_cases hlt : k < b.length
          · obtain ⟨y, hy⟩ : ∃ y, b[k]? = some y := ⟨b[k], by simp [hlt]⟩
            obtain ⟨bb, bo, rfl, cb0⟩ := HSA.out.get hy
            have hnx : anyNot (b.take (k + 1)) = (anyNot (b.take k) || (y != 255)) := by rw [take_snoc b k y hy, anyNot_snoc]
            have HNX : Hid (anyNot (b.take (k + 1)) = (anyNot (b.take k) || (y != 255))) := hnx
            have hcmp := u8_cmp y
            clear hnx hy
            cases hcur : anyNot (b.take k)
            · go_wp2
              go_roundw
              case rel => exact ⟨k + 1, by omega, by rw [HNX.out, hcur]; first | rfl | (simp [bne, hcmp]; done) | (simp [bne, u8_cmp]), by go_num, by first | rfl | trivial⟩
              case measure => simp [intOf]; omega
            · go_wp2
              go_roundw
              case rel => exact ⟨k + 1, by omega, by rw [HNX.out, hcur]; first | rfl | (simp [bne, hcmp]; done) | (simp [bne, u8_cmp]), by go_num, by first | rfl | trivial⟩
              case measure => simp [intOf]; omega
          · obtain rfl : k = b.length := by omega
            rw [List.take_length]
            obtain ⟨ch, hch⟩ : ∃ ch, ch = anyNot b := ⟨_, rfl⟩
            have hsm := HSM.out
            rw [← hch] at hsm ⊢
            clear HSM hch
            subst hsm
            cases ch
            · go_wp2_with fail
              refine HAW.mono ?_
              rintro e w6 ⟨rfl, hb6⟩
              have HB6 : Hid (Below w.heap.size w w6) := HB5.out.trans (hb6.mono HB5.out.size)
              clear hb6 HAW
              go_wp2
              go_ret
              exact ⟨rfl, HB6.out⟩
            · go_wp2_with fail
              refine HAW.mono ?_
              rintro e w6 ⟨rfl, hb6⟩
              have HB6 : Hid (Below w.heap.size w w6) := HB5.out.trans (hb6.mono HB5.out.size)
              clear hb6 HAW
              go_wp2
              go_ret
              exact ⟨rfl, HB6.out⟩
  · have d0 : ((E : Int) == 0) = false := by simp; omega
    clear hry' hEy hsy hb5 hsx5 hrx0
    go_wp2
    go_loopw [14] (fun i wr => ∃ k : Nat, k ≤ 50 ∧ i = .int .i64 (k : Int) ∧ wr = w5) (fun i _ => 50 - (intOf i).toNat)
    case atStart => exact ⟨0, by omega, rfl, rfl⟩
    case round =>
      obtain ⟨k, hk, rfl, rfl⟩ := hrel
      by_cases hlt : k < 50
      · obtain ⟨x, hx⟩ : ∃ x, rx[k]? = some x := ⟨rx[k]'(by omega), by simp [hlx, hlt]⟩
        obtain ⟨bx, ox, rfl, cx0⟩ := HSX5.out.get hx
        have h255 := HRX.out k x hx
        subst h255
        have cx1 : wr.cell? ⟨bx, ox + k, none⟩ = some (.int .u8 255) := cx0
        clear hx cx0
        go_wp2
        go_roundw
        case rel => exact ⟨k + 1, by omega, by go_num, by first | rfl | trivial⟩
        case measure => simp [intOf]; omega
      · obtain rfl : k = 50 := by omega
        go_wp2
        go_loopw [15, 16] (fun c i wr2 => ∃ k : Nat, k ≤ b.length ∧ c = .bool (anyNot (b.take k)) ∧ i = .int .i64 (k : Int) ∧ wr2 = wr) (fun _ i _ => b.length - (intOf i).toNat)
        case atStart => exact ⟨0, by omega, rfl, rfl, rfl⟩
        case round =>
          obtain ⟨k, hk, rfl, rfl, rfl⟩ := hrel
          by_cases hlt : k < b.length
          · obtain ⟨y, hy⟩ : ∃ y, b[k]? = some y := ⟨b[k], by simp [hlt]⟩
            obtain ⟨bb, bo, rfl, cb0⟩ := HSA.out.get hy
            have hnx : anyNot (b.take (k + 1)) = (anyNot (b.take k) || (y != 255)) := by rw [take_snoc b k y hy, anyNot_snoc]
            have HNX : Hid (anyNot (b.take (k + 1)) = (anyNot (b.take k) || (y != 255))) := hnx
            have hcmp := u8_cmp y
            clear hnx hy
            cases hcur : anyNot (b.take k)
            · go_wp2
              go_roundw
              case rel => exact ⟨k + 1, by omega, by rw [HNX.out, hcur]; first | rfl | (simp [bne, hcmp]; done) | (simp [bne, u8_cmp]), by go_num, by first | rfl | trivial⟩
              case measure => simp [intOf]; omega
            · go_wp2
              go_roundw
              case rel => exact ⟨k + 1, by omega, by rw [HNX.out, hcur]; first | rfl | (simp [bne, hcmp]; done) | (simp [bne, u8_cmp]), by go_num, by first | rfl | trivial⟩
              case measure => simp [intOf]; omega
          · obtain rfl : k = b.length := by omega
            rw [List.take_length]
            go_wp2_with fail
            refine HAW.mono ?_
            rintro e w6 ⟨rfl, hb6⟩
            have HB6 : Hid (Below w.heap.size w w6) := HB5.out.trans (hb6.mono HB5.out.size)
            clear hb6 HAW
            go_wp2
            go_ret
            exact ⟨rfl, HB6.out⟩
end Go.Proofs.Ythgfapnndobhbaa
