/-
  The contract of the document's Trim.
-/
import Derived.Test.YtfifcfdlmpgohaaFtmA
import Derived.Deep.Cut
import Derived.OrdersHeld
import Derived.WalkMore
import Derived.OwnWalk
namespace Go.Proofs.Ytfifcfdlmpgohaa
open Go.ChangeShapes Go.WideShapes Go.ChangeAt Go.RowKit
set_option maxRecDepth 20000

theorem trE_bad {l : List Int} {j : Nat} {x : Int} (h : l[j]? = some x) (hx : isT x = false) (f : Int) : trE l f = 1 := by
  unfold trE
  have : l.all isT = false := by
    cases hh : l.all isT
    · rfl
    · rw [List.all_eq_true] at hh
      rw [hh x (List.mem_of_getElem? h)] at hx; cases hx
  rw [if_pos (Or.inr this)]
theorem trV_bad {l : List Int} {f : Int} (h : trE l f ≠ 0) : trV l f = [] := by unfold trV; rw [if_neg h]
theorem all_snoc {l : List Int} {j : Nat} {x : Int} (h : l[j]? = some x) (ha : (l.take j).all isT = true) (hx : isT x = true) : (l.take (j + 1)).all isT = true := by
  rw [List.take_add_one, h, List.all_append, ha]; simp [hx]
theorem perm_snoc {l s : List Int} {j : Nat} {x : Int} (h : l[j]? = some x) (hp : s.Perm (l.take j)) (m : Nat) : (s.take m ++ x :: s.drop m).Perm (l.take (j + 1)) := by
  rw [List.take_add_one, h]
  exact (perm_put s x m).trans (hp.append (List.Perm.refl _))

/-- What Trim answers. -/
def TrP (w : World) (l : List Int) (f : Int) (e : Ending) (w' : World) : Prop := ∃ x c', e = .returned (.tuple #[.slice x (trV l f).length c', .int .i64 (trE l f)]) ∧ LsO w' x (trV l f) ∧ Below w.heap.size w w'
theorem TrP.bad {w w' : World} {l : List Int} {f z : Int} (he : trE l f = z) (hz : z ≠ 0) (hb : Below w.heap.size w w') : TrP w l f (.returned (.tuple #[.slice none 0 0, .int .i64 z])) w' := by
  have hv : trV l f = [] := trV_bad (by rw [he]; exact hz)
  exact ⟨none, 0, by rw [he, hv]; rfl, by rw [hv]; exact LsO.nil _ _, hb⟩

set_option maxHeartbeats 16000000 in
theorem dtrim_ok (w : World) (a : Option Addr) (c : Nat) (l : List Int) (f : Int) (hl : l.length ≤ 900) (hs : LsO w a l) :
    Calls Try.prog 9 #[.slice a l.length c, .int .i64 f] w (TrP w l f) := by
  by_cases hf : f < 0
  · have he : trE l f = 1 := by unfold trE; rw [if_pos (Or.inl hf)]
    have HE : Hid (trE l f = 1) := he
    clear he hs hl
    go_enter Try.func9, Try.ntmps9
    go_wp2
    go_ret2
    exact TrP.bad HE.out (by decide) (Below.refl _ _)
  · have HL : Hid (LsO w a l ∧ l.length ≤ 900) := ⟨hs, hl⟩
    clear hs
    go_enter Try.func9, Try.ntmps9
    go_wp2
    go_loopw [6, 7, 8, 9] (fun u i _ _ wr => ∃ (j : Nat) (s : List Int) (q : Option Addr) (k : Nat), j ≤ l.length ∧ u = .slice q s.length k ∧ i = .int .i64 (j : Int) ∧ Row EL wr (.slice q s.length k) s ∧ Srt s ∧ s.Perm (l.take j) ∧ (l.take j).all isT = true ∧ (∀ p, (Value.slice q s.length k).ownBlock = some p → w.heap.size ≤ p) ∧ Below w.heap.size w wr) (fun _ i _ _ _ => l.length - (intOf i).toNat)
    case atStart => exact ⟨0, [], none, 0, Nat.zero_le _, rfl, rfl, Row.nil _ _, List.Pairwise.nil, List.Perm.refl _, rfl, (fun p hp => by cases hp), Below.refl _ _⟩
    case round =>
      obtain ⟨j, s, q, k, hj, rfl, rfl, hr, hss, hpm, hal, ho, hb⟩ := hrel
      have hsl : s.length = j := by rw [hpm.length_eq, List.length_take]; omega
      have gj : (0 : Int) ≤ (j : Int) := Int.natCast_nonneg _
      by_cases hlt : (j : Int) < (l.length : Int)
      · obtain ⟨x, hx⟩ : ∃ x, l[j]? = some x := ⟨_, List.getElem?_eq_getElem (by omega)⟩
        obtain ⟨b, o, rfl, cx⟩ := HL.out.1 j x hx
        have hcx : Hid (∀ W, Below w.heap.size w W → W.cell? ⟨b, o + j, none⟩ = some (.int .i64 x)) := fun W hW => by rw [hW.cell (World.block_lt_of_cell? w _ cx)]; exact cx
        have cx2 := hcx.out wr hb
        clear cx
        by_cases hx1 : isT x = true
        · have hx2 := hx1
          simp only [isT, MT, decide_eq_true_eq] at hx2
          obtain ⟨hx3, hx4⟩ := hx2
          have hx5 : ¬ x < -1099511627776 := by omega
          have hx6 : ¬ 1099511627776 < x := by omega
          clear hx3 hx4
          have HI : Hid (Row EL wr (.slice q s.length k) s ∧ Srt s ∧ s.Perm (l.take j) ∧ (l.take j).all isT = true ∧ (∀ p, (Value.slice q s.length k).ownBlock = some p → w.heap.size ≤ p) ∧ Below w.heap.size w wr) := ⟨hr, hss, hpm, hal, ho, hb⟩
          have HJ : Hid (j < l.length ∧ l.length ≤ 900 ∧ s.length = j ∧ l[j]? = some x ∧ isT x = true) := ⟨by omega, hl, hsl, hx, hx1⟩
          have e9 : IntKind.i64.wrap ((j : Int) + 1) = ((j + 1 : Nat) : Int) := by rw [wrap_in (by omega) (by omega)]; omega
          clear hr hss hpm hal ho hb hx hx1 hj hsl
          go_wp2
          clear cx2
          generalize wr = W1 at *
          go_loopw [8] (fun u wr => ∃ m : Nat, m ≤ s.length ∧ u = .int .i64 (m : Int) ∧ (∀ t, m ≤ t → ∀ y, s[t]? = some y → x ≤ y) ∧ Below W1.heap.size W1 wr) (fun u _ => (intOf u).toNat)
          case atStart => exact ⟨s.length, Nat.le_refl _, rfl, (fun t ht y hy => by have := (List.getElem?_eq_some_iff.1 hy).1; omega), Below.refl _ _⟩
          case round =>
            obtain ⟨m, hm, rfl, hgt, hb2⟩ := hrel
            have gm : (0 : Int) ≤ (m : Int) := Int.natCast_nonneg _
            have cx2 : wr.drew.cell? ⟨b, o + j, none⟩ = some (.int .i64 x) := hcx.out wr.drew (HI.out.2.2.2.2.2.trans (hb2.drew.mono HI.out.2.2.2.2.2.size))
            rcases Nat.eq_zero_or_pos m with hm0 | hm0
            · have HM : Hid (m ≤ s.length ∧ (∀ t, t < m → ∀ y, s[t]? = some y → y ≤ x) ∧ (∀ t, m ≤ t → ∀ y, s[t]? = some y → x ≤ y) ∧ Below W1.heap.size W1 wr.drew) := ⟨hm, (fun t ht => absurd ht (by omega)), hgt, hb2.drew⟩
              have hmn : ¬ (0 : Int) < (m : Int) := by omega
              clear hm hgt hb2 hm0
              go_upto_region 10 with fail
              refine wp_region_noPanic ?_
              refine wp_region_held (S := fun V => V.cell? ⟨b, o + j, none⟩ = some (.int .i64 x)) (by kernel_rfl) ?_
              have hS := cx2
              refine any_take 0 ?vran1 rfl (by kernel_rfl) (by kernel_rfl) (by kernel_rfl) (fun _ _ _ h => h) (by rfl) ?hran1 hS ?_
              case hran1 => (intro w hSw; (try dsimp only at hSw); go_split_ands; go_simp; (try with_reducible rfl))
              (try simp only [Act.put, List.setIfInBounds_toArray, List.set_cons_zero, List.set_cons_succ])
              refine any_take 1 (Value.bool false) rfl (by kernel_rfl) (by kernel_rfl) (by kernel_rfl) (fun _ _ _ h => h) (by rfl) (by intro w hSw; (try dsimp only at hSw); go_split_ands; go_simp; (try omega)) hS ?_
              (try simp only [Act.put, List.setIfInBounds_toArray, List.set_cons_zero, List.set_cons_succ])
              refine any_take 2 ?vran2 rfl (by kernel_rfl) (by kernel_rfl) (by kernel_rfl) (fun _ _ _ h => h) (by rfl) ?hran2 hS ?_
              case hran2 => (intro w hSw; (try dsimp only at hSw); go_split_ands; go_simp; (try with_reducible rfl))
              (try simp only [Act.put, List.setIfInBounds_toArray, List.set_cons_zero, List.set_cons_succ])
              refine any_skip 3 rfl (by kernel_rfl) (by kernel_rfl) (by kernel_rfl) (fun _ _ _ h => h) (by rfl) hS ?_
              (try simp only [Act.put, List.setIfInBounds_toArray, List.set_cons_zero, List.set_cons_succ])
              refine any_skip 4 rfl (by kernel_rfl) (by kernel_rfl) (by kernel_rfl) (fun _ _ _ h => h) (by rfl) hS ?_
              (try simp only [Act.put, List.setIfInBounds_toArray, List.set_cons_zero, List.set_cons_succ])
              refine any_skip 5 rfl (by kernel_rfl) (by kernel_rfl) (by kernel_rfl) (fun _ _ _ h => h) (by rfl) hS ?_
              (try simp only [Act.put, List.setIfInBounds_toArray, List.set_cons_zero, List.set_cons_succ])
              refine any_skip 6 rfl (by kernel_rfl) (by kernel_rfl) (by kernel_rfl) (fun _ _ _ h => h) (by rfl) hS ?_
              (try simp only [Act.put, List.setIfInBounds_toArray, List.set_cons_zero, List.set_cons_succ])
              refine any_skip 7 rfl (by kernel_rfl) (by kernel_rfl) (by kernel_rfl) (fun _ _ _ h => h) (by rfl) hS ?_
              (try simp only [Act.put, List.setIfInBounds_toArray, List.set_cons_zero, List.set_cons_succ])
              refine any_skip 8 rfl (by kernel_rfl) (by kernel_rfl) (by kernel_rfl) (fun _ _ _ h => h) (by rfl) hS ?_
              (try simp only [Act.put, List.setIfInBounds_toArray, List.set_cons_zero, List.set_cons_succ])
              refine any_skip 9 rfl (by kernel_rfl) (by kernel_rfl) (by kernel_rfl) (fun _ _ _ h => h) (by rfl) hS ?_
              (try simp only [Act.put, List.setIfInBounds_toArray, List.set_cons_zero, List.set_cons_succ])
              refine any_skip 10 rfl (by kernel_rfl) (by kernel_rfl) (by kernel_rfl) (fun _ _ _ h => h) (by rfl) hS ?_
              (try simp only [Act.put, List.setIfInBounds_toArray, List.set_cons_zero, List.set_cons_succ])
              refine any_skip 11 rfl (by kernel_rfl) (by kernel_rfl) (by kernel_rfl) (fun _ _ _ h => h) (by rfl) hS ?_
              (try simp only [Act.put, List.setIfInBounds_toArray, List.set_cons_zero, List.set_cons_succ])
              refine any_skip 12 rfl (by kernel_rfl) (by kernel_rfl) (by kernel_rfl) (fun _ _ _ h => h) (by rfl) hS ?_
              (try simp only [Act.put, List.setIfInBounds_toArray, List.set_cons_zero, List.set_cons_succ])
              refine any_take 13 ?vran3 rfl (by kernel_rfl) (by kernel_rfl) (by kernel_rfl) (fun _ _ _ h => h) (by rfl) ?hran3 hS ?_
              case hran3 => (intro w hSw; (try dsimp only at hSw); go_split_ands; go_simp; (try with_reducible rfl))
              (try simp only [Act.put, List.setIfInBounds_toArray, List.set_cons_zero, List.set_cons_succ])
              refine wpAnyH_done (by kernel_rfl) ?_ _
              refine NoPanic.normal ?_
              clear hS cx2
              change Exit.then _ _ Exit.normal _ wr.drew
              have hb3 : Below w.heap.size w wr.drew := HI.out.2.2.2.2.2.trans (HM.out.2.2.2.mono HI.out.2.2.2.2.2.size)
              have HR : Hid (Row EL wr.drew (.slice q s.length k) s ∧ Below w.heap.size w wr.drew) := ⟨HI.out.1.below HM.out.2.2.2, hb3⟩
              clear hb3
              generalize wr.drew = W2 at *
              clear wr
              obtain ⟨⟨L1, a1, c1, hL1, hl1, hs1⟩, ⟨L2, a2, c2, hL2, hl2, hs2⟩⟩ := HR.out.1.cut m HM.out.1
              have n1 : L1.length ≤ s.length := by rw [hL1, List.length_take]; omega
              have n2 : L1.length + L2.length = s.length := by have := HM.out.1; rw [hL1, hL2, List.length_take, List.length_drop]; omega
              have hb4 := Go.Joins.below_alloc1 W2 (.cells #[] 2)
              obtain ⟨a3, c3, W4, run1, r1, b1, o1, _⟩ := row_tailL (w := W2) (Row.empty W2) (ts := L1) (by have := HJ.out; simp; omega) hb4 (fun p hp => by cases hp; exact Nat.le_refl _) a1 c1 (hl1.below hb4)
              rw [List.nil_append] at run1 r1 o1
              obtain ⟨L3, hL3⟩ : ∃ L, L = L1 ++ [x] := ⟨_, rfl⟩
              have n3 : L3.length = L1.length + 1 := by rw [hL3]; simp
              obtain ⟨a4, c4, W5, run2, r2, b2, o2, _⟩ := row_moreL (w := W2) r1 (by have := HJ.out; omega) b1 o1 x
              rw [← hL3] at run2 r2 o2
              obtain ⟨L4, hL4⟩ : ∃ L, L = L3 ++ L2 := ⟨_, rfl⟩
              obtain ⟨a5, c5, W6, run3, r3, b3, o3, _⟩ := row_tailL (w := W2) r2 (ts := L2) (by have := HJ.out; omega) b2 o2 a2 c2 (hl2.below b2)
              rw [← hL4] at run3 r3 o3
              have cx4 : W4.cell? ⟨b, o + j, none⟩ = some (.int .i64 x) := hcx.out W4 (HR.out.2.trans (b1.mono HR.out.2.size))
              have hL5 : L4 = s.take m ++ x :: s.drop m := by rw [hL4, hL3, hL1, hL2, List.append_assoc]; rfl
              have HE : Hid (Row EL W6 (.slice a5 L4.length c5) L4 ∧ Srt L4 ∧ L4.Perm (l.take (j + 1)) ∧ (l.take (j + 1)).all isT = true ∧ (∀ p, (Value.slice a5 L4.length c5).ownBlock = some p → w.heap.size ≤ p) ∧ Below w.heap.size w W6) := by
                refine ⟨r3, ?_, ?_, all_snoc HJ.out.2.2.2.1 HI.out.2.2.2.1 HJ.out.2.2.2.2, fun p hp => Nat.le_trans HR.out.2.size (o3 p hp), HR.out.2.trans (b3.mono HR.out.2.size)⟩
                · rw [hL5]; exact srt_put HI.out.2.1 HM.out.2.1 HM.out.2.2.1
                · rw [hL5]; exact perm_snoc HJ.out.2.2.2.1 HI.out.2.2.1 m
              have R1 : Hid ((Builtin.append_ #[22, 22] 22 #[.slice (some ⟨W2.heap.size, 0, none⟩) 0 0, .slice a1 L1.length c1]).run Try.prog (W2.alloc (.cells #[] 2)) = .ok (.slice a3 L1.length c3) W4) := run1
              have R2 : Hid ((Builtin.append_ #[22, 22] 22 #[.slice a3 L1.length c3, .slice (some ⟨W4.heap.size, 0, none⟩) 1 1]).run Try.prog (W4.alloc (.cells #[.int .i64 x] 2)) = .ok (.slice a4 L3.length c4) W5) := run2
              have R3 : Hid ((Builtin.append_ #[22, 22] 22 #[.slice a4 L3.length c4, .slice a2 L2.length c2]).run Try.prog W5 = .ok (.slice a5 L4.length c5) W6) := run3
              have S1 : Hid (∀ V, (Instr.sliceAt 22 (.slice q s.length k) none (some (.int .i64 (m : Int))) none).run Try.prog V = .ok (.slice a1 L1.length c1) V) := hs1
              have S2 : Hid (∀ V, (Instr.sliceAt 22 (.slice q s.length k) (some (.int .i64 (m : Int))) none none).run Try.prog V = .ok (.slice a2 L2.length c2) V) := hs2
              clear hL1 hl1 hs1 hL2 hl2 hs2 n1 n2 n3 hb4 run1 r1 b1 o1 hL3 run2 r2 b2 o2 hL4 run3 r3 b3 o3 hL5 HI HM HR hcx
              go_upto_region 12 with fail
              --P1
              go_upto_region 13 with (first | (refine wpList_mk_run rfl 22 0 _ rfl [] _ rfl (mk_empty _) ?_) | (refine wpList_slop_run rfl 22 _ _ _ _ rfl _ _ _ _ _ rfl rfl rfl rfl (S1.out _) ?_) | (at_builtin; refine wpList_append_run rfl _ _ 22 rfl _ _ _ rfl rfl R1.out ?_) | fail)
              --P2
              go_upto_region 14 with (first | (at_builtin; refine wpList_append_run rfl _ _ 22 rfl _ _ _ rfl rfl R2.out ?_) | fail)
              --P3
              go_wp2_with (first | (refine wpList_slop_run rfl 22 _ _ _ _ rfl _ _ _ _ _ rfl rfl rfl rfl (S2.out _) ?_) | (at_builtin; refine wpList_append_run rfl _ _ 22 rfl _ _ _ rfl rfl R3.out ?_) | fail)
              --P4
              go_roundw
              case rel => exact ⟨j + 1, L4, a5, c5, HJ.out.1, rfl, rfl, HE.out.1, HE.out.2.1, HE.out.2.2.1, HE.out.2.2.2.1, HE.out.2.2.2.2.1, HE.out.2.2.2.2.2⟩
              case measure => have := HJ.out; simp [intOf]; omega
            · obtain ⟨n, hn⟩ : ∃ t, m = t + 1 := ⟨m - 1, by omega⟩
              obtain ⟨y, hy⟩ : ∃ y, s[n]? = some y := ⟨_, List.getElem?_eq_getElem (by omega)⟩
              obtain ⟨qb, qo, rfl, cy⟩ := HI.out.1.lsO n y hy
              have cy2 : wr.drew.cell? ⟨qb, qo + n, none⟩ = some (.int .i64 y) := by rw [hb2.drew.cell (p := ⟨qb, qo + n, none⟩) (World.block_lt_of_cell? _ _ cy)]; exact cy
              have e8 : IntKind.i64.wrap ((m : Int) - 1) = (n : Int) := by have := HJ.out; rw [wrap_in (by omega) (by omega)]; omega
              have hmi : (n : Int) < (s.length : Int) := by omega
              have hmp : (0 : Int) < (m : Int) := by omega
              have gm2 : (0 : Int) ≤ (n : Int) := Int.natCast_nonneg _
              have hS0 : wr.drew.cell? ⟨b, o + j, none⟩ = some (.int .i64 x) ∧ wr.drew.cell? ⟨qb, qo + n, none⟩ = some (.int .i64 y) := ⟨cx2, cy2⟩
              clear cy cx2 cy2
              by_cases hc : x < y
              · have HM : Hid (n ≤ s.length ∧ n < m ∧ (∀ t, n ≤ t → ∀ y, s[t]? = some y → x ≤ y) ∧ Below W1.heap.size W1 wr.drew) := ⟨by omega, by omega, (fun t ht z hz => by
                  rcases Nat.lt_or_ge n t with h | h
                  · exact hgt t (by omega) z hz
                  · have : t = n := by omega
                    subst this; rw [hy] at hz; cases hz; omega), hb2.drew⟩
                clear hm hgt hb2 hy hn hm0
                go_upto_region 10 with fail
                refine wp_region_noPanic ?_
                refine wp_region_held (S := fun V => V.cell? ⟨b, o + j, none⟩ = some (.int .i64 x) ∧ V.cell? ⟨qb, qo + n, none⟩ = some (.int .i64 y)) (by kernel_rfl) ?_
                have hS := hS0
                refine any_take 0 ?vrbn1 rfl (by kernel_rfl) (by kernel_rfl) (by kernel_rfl) (fun _ _ _ h => h) (by rfl) ?hrbn1 hS ?_
                case hrbn1 => (intro w hSw; (try dsimp only at hSw); go_split_ands; go_simp; (try with_reducible rfl))
                (try simp only [Act.put, List.setIfInBounds_toArray, List.set_cons_zero, List.set_cons_succ])
                refine any_take 1 (Value.bool true) rfl (by kernel_rfl) (by kernel_rfl) (by kernel_rfl) (fun _ _ _ h => h) (by rfl) (by intro w hSw; (try dsimp only at hSw); go_split_ands; go_simp; (try omega)) hS ?_
                (try simp only [Act.put, List.setIfInBounds_toArray, List.set_cons_zero, List.set_cons_succ])
                refine any_take 2 ?vrbn2 rfl (by kernel_rfl) (by kernel_rfl) (by kernel_rfl) (fun _ _ _ h => h) (by rfl) ?hrbn2 hS ?_
                case hrbn2 => (intro w hSw; (try dsimp only at hSw); go_split_ands; go_simp; (try with_reducible rfl))
                (try simp only [Act.put, List.setIfInBounds_toArray, List.set_cons_zero, List.set_cons_succ])
                refine any_take 3 ?vrbn3 rfl (by kernel_rfl) (by kernel_rfl) (by kernel_rfl) (fun _ _ _ h => h) (by rfl) ?hrbn3 hS ?_
                case hrbn3 => (intro w hSw; (try dsimp only at hSw); go_split_ands; go_simp; (try with_reducible rfl))
                (try simp only [Act.put, List.setIfInBounds_toArray, List.set_cons_zero, List.set_cons_succ])
                refine any_take 4 ?vrbn4 rfl (by kernel_rfl) (by kernel_rfl) (by kernel_rfl) (fun _ _ _ h => h) (by rfl) ?hrbn4 hS ?_
                case hrbn4 => (intro w hSw; (try dsimp only at hSw); go_split_ands; go_simp; (try with_reducible rfl))
                (try simp only [Act.put, List.setIfInBounds_toArray, List.set_cons_zero, List.set_cons_succ])
                refine any_take 5 ?vrbn5 rfl (by kernel_rfl) (by kernel_rfl) (by kernel_rfl) (fun _ _ _ h => h) (by rfl) ?hrbn5 hS ?_
                case hrbn5 => (intro w hSw; (try dsimp only at hSw); go_split_ands; go_simp; (try with_reducible rfl))
                (try simp only [Act.put, List.setIfInBounds_toArray, List.set_cons_zero, List.set_cons_succ])
                refine any_take 6 ?vrbn6 rfl (by kernel_rfl) (by kernel_rfl) (by kernel_rfl) (fun _ _ _ h => h) (by rfl) ?hrbn6 hS ?_
                case hrbn6 => (intro w hSw; (try dsimp only at hSw); go_split_ands; go_simp; (try with_reducible rfl))
                (try simp only [Act.put, List.setIfInBounds_toArray, List.set_cons_zero, List.set_cons_succ])
                refine any_take 7 ?vrbn7 rfl (by kernel_rfl) (by kernel_rfl) (by kernel_rfl) (fun _ _ _ h => h) (by rfl) ?hrbn7 hS ?_
                case hrbn7 => (intro w hSw; (try dsimp only at hSw); go_split_ands; go_simp; (try with_reducible rfl))
                (try simp only [Act.put, List.setIfInBounds_toArray, List.set_cons_zero, List.set_cons_succ])
                refine any_take 8 ?vrbn8 rfl (by kernel_rfl) (by kernel_rfl) (by kernel_rfl) (fun _ _ _ h => h) (by rfl) ?hrbn8 hS ?_
                case hrbn8 => (intro w hSw; (try dsimp only at hSw); go_split_ands; go_simp; (try with_reducible rfl))
                (try simp only [Act.put, List.setIfInBounds_toArray, List.set_cons_zero, List.set_cons_succ])
                refine any_take 9 ?vrbn9 rfl (by kernel_rfl) (by kernel_rfl) (by kernel_rfl) (fun _ _ _ h => h) (by rfl) ?hrbn9 hS ?_
                case hrbn9 => (intro w hSw; (try dsimp only at hSw); go_split_ands; go_simp; (try with_reducible rfl))
                (try simp only [Act.put, List.setIfInBounds_toArray, List.set_cons_zero, List.set_cons_succ])
                refine any_take 10 ?vrbn10 rfl (by kernel_rfl) (by kernel_rfl) (by kernel_rfl) (fun _ _ _ h => h) (by rfl) ?hrbn10 hS ?_
                case hrbn10 => (intro w hSw; (try dsimp only at hSw); go_split_ands; go_simp; (try with_reducible rfl))
                (try simp only [Act.put, List.setIfInBounds_toArray, List.set_cons_zero, List.set_cons_succ])
                refine any_take 11 ?vrbn11 rfl (by kernel_rfl) (by kernel_rfl) (by kernel_rfl) (fun _ _ _ h => h) (by rfl) ?hrbn11 hS ?_
                case hrbn11 => (intro w hSw; (try dsimp only at hSw); go_split_ands; go_simp; (try with_reducible rfl))
                (try simp only [Act.put, List.setIfInBounds_toArray, List.set_cons_zero, List.set_cons_succ])
                refine any_take 12 (Value.bool true) rfl (by kernel_rfl) (by kernel_rfl) (by kernel_rfl) (fun _ _ _ h => h) (by rfl) (by intro w hSw; (try dsimp only at hSw); go_split_ands; go_simp; (try omega)) hS ?_
                (try simp only [Act.put, List.setIfInBounds_toArray, List.set_cons_zero, List.set_cons_succ])
                refine any_take 13 ?vrbn12 rfl (by kernel_rfl) (by kernel_rfl) (by kernel_rfl) (fun _ _ _ h => h) (by rfl) ?hrbn12 hS ?_
                case hrbn12 => (intro w hSw; (try dsimp only at hSw); go_split_ands; go_simp; (try with_reducible rfl))
                (try simp only [Act.put, List.setIfInBounds_toArray, List.set_cons_zero, List.set_cons_succ])
                refine wpAnyH_done (by kernel_rfl) ?_ _
                refine NoPanic.normal ?_
                clear hS hS0
                go_wp2
                go_roundw
                case rel => exact ⟨n, HM.out.1, rfl, HM.out.2.2.1, HM.out.2.2.2⟩
                case measure => have := HM.out.2.1; simp [intOf]; omega
              · have HM : Hid (m ≤ s.length ∧ (∀ t, t < m → ∀ y, s[t]? = some y → y ≤ x) ∧ (∀ t, m ≤ t → ∀ y, s[t]? = some y → x ≤ y) ∧ Below W1.heap.size W1 wr.drew) := ⟨hm, (fun t ht z hz => by have := srt_get_le HI.out.2.1 (show t ≤ n by omega) hz hy; omega), hgt, hb2.drew⟩
                clear hm hgt hb2 hy hn hm0
                go_upto_region 10 with fail
                refine wp_region_noPanic ?_
                refine wp_region_held (S := fun V => V.cell? ⟨b, o + j, none⟩ = some (.int .i64 x) ∧ V.cell? ⟨qb, qo + n, none⟩ = some (.int .i64 y)) (by kernel_rfl) ?_
                have hS := hS0
                refine any_take 0 ?vrcn1 rfl (by kernel_rfl) (by kernel_rfl) (by kernel_rfl) (fun _ _ _ h => h) (by rfl) ?hrcn1 hS ?_
                case hrcn1 => (intro w hSw; (try dsimp only at hSw); go_split_ands; go_simp; (try with_reducible rfl))
                (try simp only [Act.put, List.setIfInBounds_toArray, List.set_cons_zero, List.set_cons_succ])
                refine any_take 1 (Value.bool true) rfl (by kernel_rfl) (by kernel_rfl) (by kernel_rfl) (fun _ _ _ h => h) (by rfl) (by intro w hSw; (try dsimp only at hSw); go_split_ands; go_simp; (try omega)) hS ?_
                (try simp only [Act.put, List.setIfInBounds_toArray, List.set_cons_zero, List.set_cons_succ])
                refine any_take 2 ?vrcn2 rfl (by kernel_rfl) (by kernel_rfl) (by kernel_rfl) (fun _ _ _ h => h) (by rfl) ?hrcn2 hS ?_
                case hrcn2 => (intro w hSw; (try dsimp only at hSw); go_split_ands; go_simp; (try with_reducible rfl))
                (try simp only [Act.put, List.setIfInBounds_toArray, List.set_cons_zero, List.set_cons_succ])
                refine any_take 3 ?vrcn3 rfl (by kernel_rfl) (by kernel_rfl) (by kernel_rfl) (fun _ _ _ h => h) (by rfl) ?hrcn3 hS ?_
                case hrcn3 => (intro w hSw; (try dsimp only at hSw); go_split_ands; go_simp; (try with_reducible rfl))
                (try simp only [Act.put, List.setIfInBounds_toArray, List.set_cons_zero, List.set_cons_succ])
                refine any_take 4 ?vrcn4 rfl (by kernel_rfl) (by kernel_rfl) (by kernel_rfl) (fun _ _ _ h => h) (by rfl) ?hrcn4 hS ?_
                case hrcn4 => (intro w hSw; (try dsimp only at hSw); go_split_ands; go_simp; (try with_reducible rfl))
                (try simp only [Act.put, List.setIfInBounds_toArray, List.set_cons_zero, List.set_cons_succ])
                refine any_take 5 ?vrcn5 rfl (by kernel_rfl) (by kernel_rfl) (by kernel_rfl) (fun _ _ _ h => h) (by rfl) ?hrcn5 hS ?_
                case hrcn5 => (intro w hSw; (try dsimp only at hSw); go_split_ands; go_simp; (try with_reducible rfl))
                (try simp only [Act.put, List.setIfInBounds_toArray, List.set_cons_zero, List.set_cons_succ])
                refine any_take 6 ?vrcn6 rfl (by kernel_rfl) (by kernel_rfl) (by kernel_rfl) (fun _ _ _ h => h) (by rfl) ?hrcn6 hS ?_
                case hrcn6 => (intro w hSw; (try dsimp only at hSw); go_split_ands; go_simp; (try with_reducible rfl))
                (try simp only [Act.put, List.setIfInBounds_toArray, List.set_cons_zero, List.set_cons_succ])
                refine any_take 7 ?vrcn7 rfl (by kernel_rfl) (by kernel_rfl) (by kernel_rfl) (fun _ _ _ h => h) (by rfl) ?hrcn7 hS ?_
                case hrcn7 => (intro w hSw; (try dsimp only at hSw); go_split_ands; go_simp; (try with_reducible rfl))
                (try simp only [Act.put, List.setIfInBounds_toArray, List.set_cons_zero, List.set_cons_succ])
                refine any_take 8 ?vrcn8 rfl (by kernel_rfl) (by kernel_rfl) (by kernel_rfl) (fun _ _ _ h => h) (by rfl) ?hrcn8 hS ?_
                case hrcn8 => (intro w hSw; (try dsimp only at hSw); go_split_ands; go_simp; (try with_reducible rfl))
                (try simp only [Act.put, List.setIfInBounds_toArray, List.set_cons_zero, List.set_cons_succ])
                refine any_take 9 ?vrcn9 rfl (by kernel_rfl) (by kernel_rfl) (by kernel_rfl) (fun _ _ _ h => h) (by rfl) ?hrcn9 hS ?_
                case hrcn9 => (intro w hSw; (try dsimp only at hSw); go_split_ands; go_simp; (try with_reducible rfl))
                (try simp only [Act.put, List.setIfInBounds_toArray, List.set_cons_zero, List.set_cons_succ])
                refine any_take 10 ?vrcn10 rfl (by kernel_rfl) (by kernel_rfl) (by kernel_rfl) (fun _ _ _ h => h) (by rfl) ?hrcn10 hS ?_
                case hrcn10 => (intro w hSw; (try dsimp only at hSw); go_split_ands; go_simp; (try with_reducible rfl))
                (try simp only [Act.put, List.setIfInBounds_toArray, List.set_cons_zero, List.set_cons_succ])
                refine any_take 11 ?vrcn11 rfl (by kernel_rfl) (by kernel_rfl) (by kernel_rfl) (fun _ _ _ h => h) (by rfl) ?hrcn11 hS ?_
                case hrcn11 => (intro w hSw; (try dsimp only at hSw); go_split_ands; go_simp; (try with_reducible rfl))
                (try simp only [Act.put, List.setIfInBounds_toArray, List.set_cons_zero, List.set_cons_succ])
                refine any_take 12 (Value.bool false) rfl (by kernel_rfl) (by kernel_rfl) (by kernel_rfl) (fun _ _ _ h => h) (by rfl) (by intro w hSw; (try dsimp only at hSw); go_split_ands; go_simp; (try omega)) hS ?_
                (try simp only [Act.put, List.setIfInBounds_toArray, List.set_cons_zero, List.set_cons_succ])
                refine any_take 13 ?vrcn12 rfl (by kernel_rfl) (by kernel_rfl) (by kernel_rfl) (fun _ _ _ h => h) (by rfl) ?hrcn12 hS ?_
                case hrcn12 => (intro w hSw; (try dsimp only at hSw); go_split_ands; go_simp; (try with_reducible rfl))
                (try simp only [Act.put, List.setIfInBounds_toArray, List.set_cons_zero, List.set_cons_succ])
                refine wpAnyH_done (by kernel_rfl) ?_ _
                refine NoPanic.normal ?_
                clear hS hS0
                change Exit.then _ _ Exit.normal _ wr.drew
                have hb3 : Below w.heap.size w wr.drew := HI.out.2.2.2.2.2.trans (HM.out.2.2.2.mono HI.out.2.2.2.2.2.size)
                have HR : Hid (Row EL wr.drew (.slice (some ⟨qb, qo, none⟩) s.length k) s ∧ Below w.heap.size w wr.drew) := ⟨HI.out.1.below HM.out.2.2.2, hb3⟩
                clear hb3
                generalize wr.drew = W2 at *
                clear wr
                obtain ⟨⟨L1, a1, c1, hL1, hl1, hs1⟩, ⟨L2, a2, c2, hL2, hl2, hs2⟩⟩ := HR.out.1.cut m HM.out.1
                have n1 : L1.length ≤ s.length := by rw [hL1, List.length_take]; omega
                have n2 : L1.length + L2.length = s.length := by have := HM.out.1; rw [hL1, hL2, List.length_take, List.length_drop]; omega
                have hb4 := Go.Joins.below_alloc1 W2 (.cells #[] 2)
                obtain ⟨a3, c3, W4, run1, r1, b1, o1, _⟩ := row_tailL (w := W2) (Row.empty W2) (ts := L1) (by have := HJ.out; simp; omega) hb4 (fun p hp => by cases hp; exact Nat.le_refl _) a1 c1 (hl1.below hb4)
                rw [List.nil_append] at run1 r1 o1
                obtain ⟨L3, hL3⟩ : ∃ L, L = L1 ++ [x] := ⟨_, rfl⟩
                have n3 : L3.length = L1.length + 1 := by rw [hL3]; simp
                obtain ⟨a4, c4, W5, run2, r2, b2, o2, _⟩ := row_moreL (w := W2) r1 (by have := HJ.out; omega) b1 o1 x
                rw [← hL3] at run2 r2 o2
                obtain ⟨L4, hL4⟩ : ∃ L, L = L3 ++ L2 := ⟨_, rfl⟩
                obtain ⟨a5, c5, W6, run3, r3, b3, o3, _⟩ := row_tailL (w := W2) r2 (ts := L2) (by have := HJ.out; omega) b2 o2 a2 c2 (hl2.below b2)
                rw [← hL4] at run3 r3 o3
                have cx4 : W4.cell? ⟨b, o + j, none⟩ = some (.int .i64 x) := hcx.out W4 (HR.out.2.trans (b1.mono HR.out.2.size))
                have hL5 : L4 = s.take m ++ x :: s.drop m := by rw [hL4, hL3, hL1, hL2, List.append_assoc]; rfl
                have HE : Hid (Row EL W6 (.slice a5 L4.length c5) L4 ∧ Srt L4 ∧ L4.Perm (l.take (j + 1)) ∧ (l.take (j + 1)).all isT = true ∧ (∀ p, (Value.slice a5 L4.length c5).ownBlock = some p → w.heap.size ≤ p) ∧ Below w.heap.size w W6) := by
                  refine ⟨r3, ?_, ?_, all_snoc HJ.out.2.2.2.1 HI.out.2.2.2.1 HJ.out.2.2.2.2, fun p hp => Nat.le_trans HR.out.2.size (o3 p hp), HR.out.2.trans (b3.mono HR.out.2.size)⟩
                  · rw [hL5]; exact srt_put HI.out.2.1 HM.out.2.1 HM.out.2.2.1
                  · rw [hL5]; exact perm_snoc HJ.out.2.2.2.1 HI.out.2.2.1 m
                have R1 : Hid ((Builtin.append_ #[22, 22] 22 #[.slice (some ⟨W2.heap.size, 0, none⟩) 0 0, .slice a1 L1.length c1]).run Try.prog (W2.alloc (.cells #[] 2)) = .ok (.slice a3 L1.length c3) W4) := run1
                have R2 : Hid ((Builtin.append_ #[22, 22] 22 #[.slice a3 L1.length c3, .slice (some ⟨W4.heap.size, 0, none⟩) 1 1]).run Try.prog (W4.alloc (.cells #[.int .i64 x] 2)) = .ok (.slice a4 L3.length c4) W5) := run2
                have R3 : Hid ((Builtin.append_ #[22, 22] 22 #[.slice a4 L3.length c4, .slice a2 L2.length c2]).run Try.prog W5 = .ok (.slice a5 L4.length c5) W6) := run3
                have S1 : Hid (∀ V, (Instr.sliceAt 22 (.slice (some ⟨qb, qo, none⟩) s.length k) none (some (.int .i64 (m : Int))) none).run Try.prog V = .ok (.slice a1 L1.length c1) V) := hs1
                have S2 : Hid (∀ V, (Instr.sliceAt 22 (.slice (some ⟨qb, qo, none⟩) s.length k) (some (.int .i64 (m : Int))) none none).run Try.prog V = .ok (.slice a2 L2.length c2) V) := hs2
                clear hL1 hl1 hs1 hL2 hl2 hs2 n1 n2 n3 hb4 run1 r1 b1 o1 hL3 run2 r2 b2 o2 hL4 run3 r3 b3 o3 hL5 HI HM HR hcx
                go_upto_region 12 with fail
                --P1
                go_upto_region 13 with (first | (refine wpList_mk_run rfl 22 0 _ rfl [] _ rfl (mk_empty _) ?_) | (refine wpList_slop_run rfl 22 _ _ _ _ rfl _ _ _ _ _ rfl rfl rfl rfl (S1.out _) ?_) | (at_builtin; refine wpList_append_run rfl _ _ 22 rfl _ _ _ rfl rfl R1.out ?_) | fail)
                --P2
                go_upto_region 14 with (first | (at_builtin; refine wpList_append_run rfl _ _ 22 rfl _ _ _ rfl rfl R2.out ?_) | fail)
                --P3
                go_wp2_with (first | (refine wpList_slop_run rfl 22 _ _ _ _ rfl _ _ _ _ _ rfl rfl rfl rfl (S2.out _) ?_) | (at_builtin; refine wpList_append_run rfl _ _ 22 rfl _ _ _ rfl rfl R3.out ?_) | fail)
                --P4
                go_roundw
                case rel => exact ⟨j + 1, L4, a5, c5, HJ.out.1, rfl, rfl, HE.out.1, HE.out.2.1, HE.out.2.2.1, HE.out.2.2.2.1, HE.out.2.2.2.2.1, HE.out.2.2.2.2.2⟩
                case measure => have := HJ.out; simp [intOf]; omega
        · have he : trE l f = 1 := trE_bad hx (by simpa using hx1) f
          have HB : Hid (Below w.heap.size w wr ∧ trE l f = 1) := ⟨hb, he⟩
          clear he hr hss hpm hal ho hb hx hcx HL hj
          have hx2 : x < -1099511627776 ∨ ¬ x < -1099511627776 ∧ 1099511627776 < x := by
            simp only [isT, MT, decide_eq_true_eq] at hx1; omega
          clear hx1
          rcases hx2 with hx2 | ⟨hx2, hx3⟩
          · go_wp2
            go_ret2
            exact TrP.bad HB.out.2 (by decide) HB.out.1
          · go_wp2
            go_ret2
            exact TrP.bad HB.out.2 (by decide) HB.out.1
      · have hjl : j = l.length := by omega
        rw [hjl, List.take_length] at hpm hal
        have HR : Hid (Row EL wr (.slice q s.length k) s ∧ Below w.heap.size w wr) := ⟨hr, hb⟩
        have hsv : s = srt l := srt_eq hss hpm
        have hq : s = [] ∧ q = none ∧ k = 0 ∨ ∃ p, q = some ⟨p, 0, none⟩ ∧ s.length ≤ k ∧ k ≤ maxLen := by
          rcases hr with ⟨e, rfl⟩ | ⟨p, cap, cur, e, _, h3, h4, _⟩
          · cases e; exact .inl ⟨rfl, rfl, rfl⟩
          · cases e; exact .inr ⟨p, rfl, h3, h4⟩
        have HT : Hid (trE l f = (if (l.length : Int) ≤ 2 * f then 6 else 0) ∧ s = srt l ∧ (trV l f = if (l.length : Int) ≤ 2 * f then [] else (s.drop f.toNat).take (l.length - 2 * f.toNat)) ∧ 0 ≤ f ∧ s.length = l.length ∧ l.length ≤ 900) := by
          have he : trE l f = (if (l.length : Int) ≤ 2 * f then 6 else 0) := by unfold trE; exact if_neg (fun h => h.elim (fun h => by omega) (fun h => by rw [hal] at h; cases h))
          refine ⟨he, hsv, ?_, by omega, by omega, hl⟩
          unfold trV
          rw [he, hsv]
          split <;> simp
        clear hr hss hpm hal ho hb hsv HL hj
        clear hsl hjl gj hf
        by_cases h1 : (s.length : Int) ≤ f
        · have HE : Hid (trE l f = 6) := by show trE l f = 6; rw [HT.out.1, if_pos (by have := HT.out.2.2.2; omega)]
          clear hq
          go_wp2
          go_ret2
          exact TrP.bad HE.out (by decide) HR.out.2
        · have e10 : IntKind.i64.wrap ((s.length : Int) - f) = (s.length : Int) - f := by have := HT.out.2.2.2; exact wrap_in (by omega) (by omega)
          by_cases h2 : (s.length : Int) - f ≤ f
          · have HE : Hid (trE l f = 6) := by show trE l f = 6; rw [HT.out.1, if_pos (by have := HT.out.2.2.2; omega)]
            clear hq
            go_wp2
            go_ret2
            exact TrP.bad HE.out (by decide) HR.out.2
          · have HF := HT.out.2.2.2
            obtain ⟨L, la, lc, hL, hl1, hs1⟩ := HR.out.1.mid f.toNat (s.length - f.toNat) (by omega) (by omega)
            rw [show ((f.toNat : Nat) : Int) = f by omega, show ((s.length - f.toNat : Nat) : Int) = (s.length : Int) - f by omega] at hs1
            have HE : Hid (trE l f = 0 ∧ trV l f = L ∧ LsO wr la L) := by
              refine ⟨by rw [HT.out.1, if_neg (by omega)], ?_, hl1⟩
              rw [HT.out.2.2.1, if_neg (by omega), hL]
              congr 1
              omega
            have HS : Hid (∀ V, (Instr.sliceAt 22 (.slice q s.length k) (some (.int .i64 f)) (some (.int .i64 ((s.length : Int) - f))) none).run Try.prog V = .ok (.slice la L.length lc) V) := hs1
            clear hq HF hL hl1 hs1
            go_wp2_with (first | (refine wpList_slop_run rfl 22 _ _ _ _ rfl _ _ _ _ _ rfl rfl rfl rfl (HS.out _) ?_) | fail)
            go_ret2
            exact ⟨la, lc, by rw [HE.out.1, HE.out.2.1]; rfl, by rw [HE.out.2.1]; exact HE.out.2.2, HR.out.2⟩
end Go.Proofs.Ytfifcfdlmpgohaa
