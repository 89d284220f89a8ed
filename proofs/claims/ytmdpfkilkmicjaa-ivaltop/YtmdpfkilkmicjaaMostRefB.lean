/-
  The contract of the document's Most.
-/
import Derived.Test.YtmdpfkilkmicjaaMostRef
namespace Go.Proofs.Ytmdpfkilkmicjaa
open Go.ChangeShapes Go.WideShapes Go.ChangeAt Go.RowKit

theorem hiL_snoc (n : Int) (L : List (Int × Int)) (j : Nat) (x : Int × Int) (hx : L[j]? = some x) : hiL n (L.take (j + 1)) = if holdsB x.1 x.2 n = true then mnN (hiL n (L.take j)) x.2 else hiL n (L.take j) := by
  unfold hiL
  rw [List.take_add_one, hx, Option.toList_some, List.foldl_append]
  rfl
theorem Pair.other {w : World} {g g' i : Nat} {a b : Int} (h : Pair w g a b) (hg : g ≠ g') (v : Value) : Pair (w.setCell ⟨g', i, none⟩ v) g a b := by
  show (w.setCell ⟨g', i, none⟩ v).heap[g]? = _
  rw [Below.heap_setCell _ _ _ _ hg]; exact h

/-- What lies in memory between two rounds. -/
def RefM (w : World) (lo hi : Int) (W : World) : Prop := Below w.heap.size w W ∧ Pair W w.heap.size 0 0 ∧ Pair W (w.heap.size + 1) lo hi
theorem RefM.below {w W W' : World} {lo hi : Int} (h : RefM w lo hi W) (hb : Below W.heap.size W W') : RefM w lo hi W' := ⟨h.1.trans (hb.mono h.1.size), h.2.1.below hb, h.2.2.below hb⟩
theorem RefM.set {w W : World} {lo hi : Int} (h : RefM w lo hi W) (lo' hi' : Int) : RefM w lo' hi' ((W.setCell ⟨w.heap.size + 1, 0, none⟩ (.int .i64 lo')).setCell ⟨w.heap.size + 1, 1, none⟩ (.int .i64 hi')) :=
  ⟨below_pair h.1 (by omega) _ _, (h.2.1.other (by omega) _).other (by omega) _, h.2.2.set _ _⟩

set_option maxHeartbeats 6400000 in
set_option maxRecDepth 20000 in
theorem refmost2_ok (w : World) (a : Option Addr) (ca : Nat) (L : List (Int × Int)) (hs : Ivals w a ca L) :
    Calls Try.prog 29 #[.slice a L.length ca] w fun e w' => ∃ lo hi n, e = .returned (.tuple #[.agg #[.int .i64 lo, .int .i64 hi], .int .i64 n]) ∧ Tried L L lo hi n ∧ Below w.heap.size w w' := by
  have hlen := hs.len
  have HS : Hid (∀ W, Below w.heap.size w W → Ivals W a ca L) := fun W hb => hs.below hb
  have HR : Hid (∀ W x y, Calls Try.prog 20 #[.agg #[.int .i64 x, .int .i64 y]] W fun e w' => e = .returned (.bool (rightB x y)) ∧ Below W.heap.size W w') := fun W x y => refright_ok W x y
  have HH : Hid (∀ W x y n, Calls Try.prog 22 #[.agg #[.int .i64 x, .int .i64 y], .int .i64 n] W fun e w' => e = .returned (.bool (holdsB x y n)) ∧ Below W.heap.size W w') := fun W x y n => refholds_ok W x y n
  have HC : Hid (∀ W n, Below w.heap.size w W → Calls Try.prog 36 #[.slice a L.length ca, .int .i64 n] W fun e w' => e = .returned (.int .i64 (cntN L n)) ∧ Below W.heap.size W w') := fun W n hb => count_ok W a ca L n (hs.below hb)
  have HM : Hid (RefM w 0 0 ((w.alloc (.cells #[.int .i64 0, .int .i64 0] 23)).alloc (.cells #[.int .i64 0, .int .i64 0] 23))) := by
    refine ⟨Go.Joins.below_alloc2 _ _ _, (Pair.new w 0 0).alloc _, ?_⟩
    have := Pair.new (w.alloc (.cells #[.int .i64 0, .int .i64 0] 23)) 0 0
    simpa using this
  clear hs
  go_enter Try.func29, Try.ntmps29
  go_wp2
  go_loopw [5, 6] (fun u v wr => ∃ (j : Nat) (lo hi m : Int), j ≤ L.length ∧ u = .int .i64 m ∧ v = .int .i64 (j : Int) ∧ Tried L (L.take j) lo hi m ∧ RefM w lo hi wr) (fun _ v _ => L.length - (intOf v).toNat)
  case atStart => exact ⟨0, 0, 0, 0, Nat.zero_le _, rfl, rfl, Tried.nil L, HM.out⟩
  case round =>
    obtain ⟨j, lo, hi, m, hj, rfl, rfl, hT, hM⟩ := hrel
    have HT : Hid (Tried L (L.take j) lo hi m) := hT
    have HN : Hid (RefM w lo hi wr) := hM
    clear hT hM
    by_cases hlt : j < L.length
    · obtain ⟨x, hx⟩ : ∃ x, L[j]? = some x := ⟨L[j], by simp [hlt]⟩
      have hxL : x ∈ L := List.mem_of_getElem? hx
      obtain ⟨b1, o1, ha, hc1, hc2⟩ := (HS.out _ HN.out.1).get hx
      have htk : L.take (j + 1) = L.take j ++ [x] := by rw [List.take_add_one, hx]; rfl
      have hcb0 := cntN_nonneg L x.1
      have hcb1 := cntN_le L x.1
      subst ha
      have HX : Hid (∀ W, Calls Try.prog 20 #[.agg #[.int .i64 x.1, .int .i64 x.2]] W fun e w' => e = .returned (.bool (rightB x.1 x.2)) ∧ Below W.heap.size W w') := fun W => HR.out W _ _
      have g1 : (j : Int) < (L.length : Int) := by omega
      have g3 : (0 : Int) ≤ (j : Int) := Int.natCast_nonneg _
      have HJ : Hid (j < L.length) := hlt
      obtain ⟨x1, x2⟩ := x
      simp only [] at HX hc1 hc2 hcb0 hcb1
      cases hr : rightB x1 x2
      · rw [hr] at HX
        have HK : Hid (Tried L (L.take (j + 1)) lo hi m) := by
          show Tried L _ lo hi m
          rw [htk]; exact HT.out.wrong hr
        clear hx htk hlt hr hxL HT HM HS HR HH HC
        go_wp2_with fail
        refine (HX.out _).mono ?_
        rintro e w1 ⟨rfl, hb⟩
        have HN3 : Hid (RefM w lo hi w1) := HN.out.below hb
        clear HX hb hc1 hc2 HN
        go_wp2
        go_roundw
        case rel => exact ⟨j + 1, lo, hi, m, HJ.out, rfl, by first | go_num | (congr 1; omega), HK.out, HN3.out⟩
        case measure => have := HJ.out; simp [intOf]; omega
      · rw [hr] at HX
        obtain ⟨k, hk⟩ : ∃ k, k = cntN L x1 := ⟨_, rfl⟩
        have HCx : Hid (∀ W, Below w.heap.size w W → Calls Try.prog 36 #[.slice (some ⟨b1, o1, none⟩) L.length ca, .int .i64 x1] W fun e w' => e = .returned (.int .i64 k) ∧ Below W.heap.size W w') := fun W hb => by rw [hk]; exact HC.out W x1 hb
        have hcs : (k < m ∨ (¬ k < m ∧ k = m ∧ lo ≤ x1)) ∨ ((¬ k < m ∧ k = m ∧ ¬ lo ≤ x1) ∨ (¬ k < m ∧ ¬ k = m)) := by omega
        have HG : Hid (∀ W, Below w.heap.size w W → W.cell? ⟨b1, o1 + j * 2, none⟩ = some (.int .i64 x1)) := fun W hb => by
          obtain ⟨b, o, h1, h2, _⟩ := (HS.out W hb).get hx
          cases h1; exact h2
        rcases hcs with hcs | hcs
        · have HK : Hid (Tried L (L.take (j + 1)) lo hi m) := by
            show Tried L _ lo hi m
            rw [htk]; exact HT.out.keep hxL hr (by show cntN L x1 < m ∨ (cntN L x1 = m ∧ lo ≤ x1); rw [← hk]; omega)
          clear hx htk hlt hr hxL HT HM HR HH HC HS hk hcb0 hcb1
          rcases hcs with q1 | ⟨q1, rfl, q3⟩
          all_goals
            go_wp2_with fail
            refine (HX.out _).mono ?_
            rintro e w1 ⟨rfl, hb⟩
            have HN2 : Hid (RefM w lo hi w1) := HN.out.below hb
            have hc3 := HG.out w1 HN2.out.1
            have hbl := HN2.out.1
            clear HX hb hc1 hc2 HN
            go_wp2_with fail
            refine (HCx.out _ hbl).mono ?_
            rintro e w2 ⟨rfl, hb⟩
            have HN3 : Hid (RefM w lo hi w2) := HN2.out.below hb
            obtain ⟨k0, k1, k2, k3⟩ := HN3.out.2.2.facts
            clear HCx hb hc3 hbl HN2
            go_wp2
            go_roundw
            case rel => exact ⟨j + 1, lo, hi, _, HJ.out, rfl, by first | go_num | (congr 1; omega), HK.out, HN3.out⟩
            case measure => have := HJ.out; simp [intOf]; omega
        · have HK : Hid (Tried L (L.take (j + 1)) x1 (hiL x1 L) k) := by
            show Tried L _ _ _ k
            rw [htk, hk]; exact HT.out.take hxL hr (by show ¬ (cntN L x1 < m ∨ (cntN L x1 = m ∧ lo ≤ x1)); rw [← hk]; omega)
          have HHx : Hid (∀ W p q, Calls Try.prog 22 #[.agg #[.int .i64 p, .int .i64 q], .int .i64 x1] W fun e w' => e = .returned (.bool (holdsB p q x1)) ∧ Below W.heap.size W w') := fun W p q => HH.out W p q x1
          clear hx htk hlt hr hxL HT HM HR HH HC hk hcb0 hcb1
          rcases hcs with ⟨q1, rfl, q3⟩ | ⟨q1, q2⟩
          all_goals
            go_wp2_with fail
            refine (HX.out _).mono ?_
            rintro e w1 ⟨rfl, hb⟩
            have HN2 : Hid (RefM w lo hi w1) := HN.out.below hb
            have hc3 := HG.out w1 HN2.out.1
            have hbl := HN2.out.1
            clear HX hb hc1 hc2 HN HG
            go_wp2_with fail
            refine (HCx.out _ hbl).mono ?_
            rintro e w2 ⟨rfl, hb⟩
            have HN3 : Hid (RefM w lo hi w2) := HN2.out.below hb
            obtain ⟨k0, k1, k2, k3⟩ := HN3.out.2.2.facts
            clear HCx hb hc3 hbl HN2
            go_wp2
            go_loopw [9, 10] (fun u v wq => ∃ i : Nat, i ≤ L.length ∧ u = .int .i64 (hiL x1 (L.take i)) ∧ v = .int .i64 (i : Int) ∧ RefM w lo hi wq) (fun _ v _ => L.length - (intOf v).toNat)
            case atStart => exact ⟨0, Nat.zero_le _, rfl, rfl, HN3.out⟩
            case round =>
              obtain ⟨i, hi2, rfl, rfl, hM⟩ := hrel
              have HN4 := hM
              have HN5 : Hid (RefM w lo hi wr) := hM
              clear hM HN4 HN3 k0 k1 k2 k3
              by_cases hli : i < L.length
              · obtain ⟨y, hy⟩ : ∃ y, L[i]? = some y := ⟨L[i], by simp [hli]⟩
                have hnx := hiL_snoc x1 L i y hy
                obtain ⟨b2, o2, hb2, hd1, hd2⟩ := (HS.out _ HN5.out.1).get hy
                cases hb2
                obtain ⟨y1, y2⟩ := y
                simp only [] at hnx hd1 hd2
                have HY : Hid (∀ W, Calls Try.prog 22 #[.agg #[.int .i64 y1, .int .i64 y2], .int .i64 x1] W fun e w' => e = .returned (.bool (holdsB y1 y2 x1)) ∧ Below W.heap.size W w') := fun W => HHx.out W y1 y2
                have HGy : Hid (∀ W, Below w.heap.size w W → W.cell? ⟨b1, o1 + i * 2 + 1, none⟩ = some (.int .i64 y2)) := fun W hb => by
                  obtain ⟨b, o, h1, _, h3⟩ := (HS.out W hb).get hy
                  cases h1; exact h3
                obtain ⟨A, hA⟩ : ∃ A, A = hiL x1 (L.take i) := ⟨_, rfl⟩
                obtain ⟨A2, hA2⟩ : ∃ A, A = hiL x1 (L.take (i + 1)) := ⟨_, rfl⟩
                rw [← hA, ← hA2] at hnx
                rw [← hA]
                have HA2 : Hid (A2 = hiL x1 (L.take (i + 1))) := hA2
                have g4 : (i : Int) < (L.length : Int) := by omega
                have g5 : (0 : Int) ≤ (i : Int) := Int.natCast_nonneg _
                have HI : Hid (i < L.length) := hli
                cases hh : holdsB y1 y2 x1
                · rw [hh] at HY hnx
                  rw [if_neg (by simp)] at hnx
                  clear hy hA hA2 hli hh
                  go_wp2_with fail
                  refine (HY.out _).mono ?_
                  rintro e w3 ⟨rfl, hb⟩
                  have HN6 : Hid (RefM w lo hi w3) := HN5.out.below hb
                  clear HY hb hd1 hd2 HN5
                  go_wp2
                  go_roundw
                  case rel => exact ⟨i + 1, HI.out, by rw [← HA2.out, hnx], by first | go_num | (congr 1; omega), HN6.out⟩
                  case measure => have := HI.out; simp [intOf]; omega
                · rw [hh] at HY hnx
                  rw [if_pos rfl, mnN] at hnx
                  have c3 : (if y2 < A then y2 else A) = A2 := hnx.symm
                  clear hy hA hA2 hli hh hnx
                  go_wp2_with fail
                  refine (HY.out _).mono ?_
                  rintro e w3 ⟨rfl, hb⟩
                  have HN6 : Hid (RefM w lo hi w3) := HN5.out.below hb
                  have hd3 := HGy.out w3 HN6.out.1
                  clear HY hb hd1 hd2 HN5
                  go_wp2
                  go_roundw
                  case rel => exact ⟨i + 1, HI.out, by rw [HA2.out], by first | go_num | (congr 1; omega), HN6.out⟩
                  case measure => have := HI.out; simp [intOf]; omega
              · have hil : i = L.length := by omega
                have e1 : L.take i = L := by rw [hil]; exact List.take_of_length_le (Nat.le_refl _)
                rw [e1]
                obtain ⟨k0, k1, k2, k3⟩ := HN5.out.2.2.facts
                obtain ⟨A, hA⟩ : ∃ A, A = hiL x1 L := ⟨_, rfl⟩
                rw [← hA] at HK ⊢
                have HN6 : Hid (RefM w x1 A ((wr.setCell ⟨w.heap.size + 1, 0, none⟩ (.int .i64 x1)).setCell ⟨w.heap.size + 1, 1, none⟩ (.int .i64 A))) := HN5.out.set x1 A
                clear hA e1 HN5 HHx HS
                go_wp2
                go_roundw
                case rel => exact ⟨j + 1, x1, A, _, HJ.out, rfl, by first | go_num | (congr 1; omega), HK.out, HN6.out⟩
                case measure => have := HJ.out; simp [intOf]; omega
    · have hjl : j = L.length := by omega
      have HZ : Hid (Tried L L lo hi m) := by
        have := HT.out
        rw [show L.take j = L by rw [hjl]; exact List.take_of_length_le (Nat.le_refl _)] at this
        exact this
      obtain ⟨f0, f1, f2, f3⟩ := HN.out.2.1.facts
      obtain ⟨k0, k1, k2, k3⟩ := HN.out.2.2.facts
      clear HT
      go_wp2
      refine bodyPost_ret (res_pair_tmp rfl rfl (HN.out.2.1.set _ _)) rfl ?_
      exact ⟨lo, hi, m, rfl, HZ.out, below_pair HN.out.1 (by omega) _ _⟩
end Go.Proofs.Ytmdpfkilkmicjaa
