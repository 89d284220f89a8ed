/-
  The contract of inPlaces: a list in order, in new memory.
-/
import Derived.Test.YtfifcfdlmpgohaaFtmE
namespace Go.Proofs.Ytfifcfdlmpgohaa
open Go.ChangeShapes Go.WideShapes Go.ChangeAt Go.RowKit
set_option maxRecDepth 20000

theorem srt_short {l : List Int} (h : l.length < 2) : srt l = l := by
  refine (srt_eq ?_ (List.Perm.refl _)).symm
  match l, h with
  | [], _ => exact List.Pairwise.nil
  | [x], _ => exact List.pairwise_singleton _ _
  | _ :: _ :: _, h => simp at h; omega

set_option maxHeartbeats 1600000 in
theorem inshort_ok (w : World) (a : Option Addr) (c : Nat) (l : List Int) (h : l.length < 2) (hs : LsO w a l) :
    Calls Try.prog 22 #[.slice a l.length c] w (OwnP w (fun M => M = srt l)) := by
  have K := clone_ok w a c l (by omega) hs
  rw [srt_short h]
  have h2 : (l.length : Int) < 2 := by omega
  clear hs h
  go_enter Try.func22, Try.ntmps22
  go_wp2_with fail
  refine K.mono ?_
  rintro e w2 ⟨q, k, M, hM, rfl, hr, ho, hb⟩
  have HE : Hid (M = l ∧ Row EL w2 (.slice q M.length k) M ∧ (∀ p, (Value.slice q M.length k).ownBlock = some p → w.heap.size ≤ p) ∧ Below w.heap.size w w2) := ⟨hM, hr, ho, hb⟩
  clear K hM hr ho hb
  go_wp2
  go_ret
  exact ⟨q, k, M, HE.out.1, rfl, HE.out.2⟩

set_option maxHeartbeats 8000000 in
theorem inPlaces_ok (n : Nat) : ∀ (w : World) (a : Option Addr) (c : Nat) (l : List Int), l.length ≤ n → l.length ≤ 900 → l.length ≤ c → LsO w a l →
    Calls Try.prog 22 #[.slice a l.length c] w (OwnP w (fun M => M = srt l)) := by
  induction n with
  | zero => exact fun w a c l h0 _ _ hs => inshort_ok w a c l (by omega) hs
  | succ n ih =>
    intro w a c l h0 hl hc hs
    by_cases h : l.length < 2
    · exact inshort_ok w a c l h hs
    · obtain ⟨m, hm⟩ : ∃ m, m = l.length / 2 := ⟨_, rfl⟩
      have em : (l.length : Int).tdiv 2 = (m : Int) := by rw [hm, Int.tdiv_eq_ediv_of_nonneg (by omega)]; omega
      have ew : IntKind.i64.wrap (m : Int) = (m : Int) := wrap_in (by omega) (by omega)
      have h2 : ¬ (l.length : Int) < 2 := by omega
      obtain ⟨a1, c1, l1, f1, s1⟩ := cut_head hs rfl hc m (by omega)
      obtain ⟨a2, c2, l2, f2, s2⟩ := cut_tail hs rfl hc m (by omega)
      have n1 : (l.take m).length = m := by rw [List.length_take]; omega
      have n2 : (l.drop m).length = l.length - m := List.length_drop
      have k1 := fun W (hW : Below w.heap.size w W) => ih W a1 c1 (l.take m) (by omega) (by omega) (by omega) (l1.below hW)
      have k2 := fun W (hW : Below w.heap.size w W) => ih W a2 c2 (l.drop m) (by omega) (by omega) (by omega) (l2.below hW)
      rw [n1] at k1
      rw [n2] at k2
      have K1 : Hid (∀ W, Below w.heap.size w W → Calls Try.prog 22 #[.slice a1 m c1] W (OwnP W (fun M => M = srt (l.take m)))) := k1
      have K2 : Hid (∀ W, Below w.heap.size w W → Calls Try.prog 22 #[.slice a2 (l.length - m) c2] W (OwnP W (fun M => M = srt (l.drop m)))) := k2
      have K3 : Hid (∀ W b1 b2 d1 d2 M1 M2, M1 = srt (l.take m) → M2 = srt (l.drop m) → Row EL W (.slice b1 M1.length d1) M1 → Row EL W (.slice b2 M2.length d2) M2 → Calls Try.prog 28 #[.slice b1 M1.length d1, .slice b2 M2.length d2] W (OwnP W (fun M => M = srt l))) := by
        intro W b1 b2 d1 d2 M1 M2 g1 g2 r1 r2
        have p1 : M1.Perm (l.take m) := by rw [g1]; exact srt_perm _
        have p2 : M2.Perm (l.drop m) := by rw [g2]; exact srt_perm _
        refine (merged_ok W b1 b2 d1 d2 M1 M2 (by rw [p1.length_eq, p2.length_eq]; omega) r1.lsO r2.lsO r1.fits r2.fits (by rw [g1]; exact srt_srt _) (by rw [g2]; exact srt_srt _)).mono ?_
        rintro e w' ⟨q, k, M, ⟨hsM, hpM⟩, he, hr, ho, hb⟩
        refine ⟨q, k, M, srt_eq hsM (hpM.trans ?_), he, hr, ho, hb⟩
        have := p1.append p2
        rwa [List.take_append_drop] at this
      have S1 : Hid (∀ V, (Instr.sliceAt 22 (.slice a l.length c) none (some (.int .i64 (m : Int))) none).run Try.prog V = .ok (.slice a1 m c1) V) := s1
      have S2 : Hid (∀ V, (Instr.sliceAt 22 (.slice a l.length c) (some (.int .i64 (m : Int))) none none).run Try.prog V = .ok (.slice a2 (l.length - m) c2) V) := s2
      clear ih h0 hl hc hs h hm l1 f1 s1 l2 f2 s2 n1 n2 k1 k2
      go_enter Try.func22, Try.ntmps22
      go_upto_region 4 with fail
      refine wp_region_noPanic ?_
      refine wp_region_held (S := fun _ => True) (by kernel_rfl) ?_
      have hS := trivial
      refine any_take 0 ?vran1 rfl (by kernel_rfl) (by kernel_rfl) (by kernel_rfl) (fun _ _ _ h => h) (by rfl) ?hran1 hS ?_
      case hran1 => (intro w hSw; (try dsimp only at hSw); go_split_ands; go_simp; (try with_reducible rfl))
      (try simp only [Act.put, List.setIfInBounds_toArray, List.set_cons_zero, List.set_cons_succ])
      refine any_take 1 ?vran2 rfl (by kernel_rfl) (by kernel_rfl) (by kernel_rfl) (fun _ _ _ h => h) (by rfl) ?hran2 hS ?_
      case hran2 => (intro w hSw; (try dsimp only at hSw); go_split_ands; go_simp; (try with_reducible rfl))
      (try simp only [Act.put, List.setIfInBounds_toArray, List.set_cons_zero, List.set_cons_succ])
      refine any_take 2 (Value.slice a1 m c1) rfl (by kernel_rfl) (by kernel_rfl) (by kernel_rfl) (fun _ _ _ h => h) (by rfl) (by intro w _; exact exec_slop 22 (.tmp 12) none (some (.tmp 13)) none rfl (.slice a l.length c) _ none (some (.int .i64 (m : Int))) none rfl rfl rfl rfl (S1.out w)) hS ?_
      (try simp only [Act.put, List.setIfInBounds_toArray, List.set_cons_zero, List.set_cons_succ])
      refine any_take 4 ?vran3 rfl (by kernel_rfl) (by kernel_rfl) (by kernel_rfl) (fun _ _ _ h => h) (by rfl) ?hran3 hS ?_
      case hran3 => (intro w hSw; (try dsimp only at hSw); go_split_ands; go_simp; (try with_reducible rfl))
      (try simp only [Act.put, List.setIfInBounds_toArray, List.set_cons_zero, List.set_cons_succ])
      refine any_take 5 ?vran4 rfl (by kernel_rfl) (by kernel_rfl) (by kernel_rfl) (fun _ _ _ h => h) (by rfl) ?hran4 hS ?_
      case hran4 => (intro w hSw; (try dsimp only at hSw); go_split_ands; go_simp; (try with_reducible rfl))
      (try simp only [Act.put, List.setIfInBounds_toArray, List.set_cons_zero, List.set_cons_succ])
      refine any_take 6 (Value.slice a2 (l.length - m) c2) rfl (by kernel_rfl) (by kernel_rfl) (by kernel_rfl) (fun _ _ _ h => h) (by rfl) (by intro w _; exact exec_slop 22 (.tmp 16) (some (.tmp 17)) none none rfl (.slice a l.length c) _ (some (.int .i64 (m : Int))) none none rfl rfl rfl rfl (S2.out w)) hS ?_
      (try simp only [Act.put, List.setIfInBounds_toArray, List.set_cons_zero, List.set_cons_succ])
      refine any_one 3 rfl (by kernel_rfl) (by rfl) (fun K hK => ?_)
      clear hS
      go_simp
      refine (K1.out _ (Below.refl _ _).drew).mono ?_
      rintro ev w1 ⟨b1, d1, M1, hM1, rfl, hr1, ho1, hb1⟩
      have H1 : Hid (M1 = srt (l.take m) ∧ Row EL w1 (.slice b1 M1.length d1) M1 ∧ Below w.heap.size w w1) := ⟨hM1, hr1, (Below.refl _ _).drew.trans hb1⟩
      clear K1 hM1 hr1 ho1 hb1
      refine hK.out _ _ (trivial) (fun hS => ?_)
      clear hK
      (try simp only [Act.put, List.setIfInBounds_toArray, List.set_cons_zero, List.set_cons_succ])
      refine any_one 7 rfl (by kernel_rfl) (by rfl) (fun K hK => ?_)
      clear hS
      go_simp
      refine (K2.out _ H1.out.2.2).mono ?_
      rintro ev w2 ⟨b2, d2, M2, hM2, rfl, hr2, ho2, hb2⟩
      have H2 : Hid (M2 = srt (l.drop m) ∧ Row EL w2 (.slice b1 M1.length d1) M1 ∧ Row EL w2 (.slice b2 M2.length d2) M2 ∧ Below w.heap.size w w2) := ⟨hM2, H1.out.2.1.below hb2, hr2, H1.out.2.2.trans (hb2.mono H1.out.2.2.size)⟩
      clear K2 hM2 hr2 ho2 hb2
      refine hK.out _ _ (trivial) (fun hS => ?_)
      clear hK
      (try simp only [Act.put, List.setIfInBounds_toArray, List.set_cons_zero, List.set_cons_succ])
      refine any_one 8 rfl (by kernel_rfl) (by rfl) (fun K hK => ?_)
      clear hS
      go_simp
      refine (K3.out _ _ _ _ _ _ _ H1.out.1 H2.out.1 H2.out.2.1 H2.out.2.2.1).mono ?_
      rintro ev w3 ⟨b3, d3, M3, hM3, rfl, hr3, ho3, hb3⟩
      have H3 : Hid (M3 = srt l ∧ Row EL w3 (.slice b3 M3.length d3) M3 ∧ (∀ p, (Value.slice b3 M3.length d3).ownBlock = some p → w.heap.size ≤ p) ∧ Below w.heap.size w w3) := ⟨hM3, hr3, fun p hp => Nat.le_trans H2.out.2.2.2.size (ho3 p hp), H2.out.2.2.2.trans (hb3.mono H2.out.2.2.2.size)⟩
      clear K3 H2 hM3 hr3 ho3 hb3
      refine hK.out _ _ (trivial) (fun hS => ?_)
      clear hK
      (try simp only [Act.put, List.setIfInBounds_toArray, List.set_cons_zero, List.set_cons_succ])
      refine any_take 9 ?vran5 rfl (by kernel_rfl) (by kernel_rfl) (by kernel_rfl) (fun _ _ _ h => h) (by rfl) ?hran5 hS ?_
      case hran5 => (intro w hSw; (try dsimp only at hSw); go_split_ands; go_simp; (try with_reducible rfl))
      (try simp only [Act.put, List.setIfInBounds_toArray, List.set_cons_zero, List.set_cons_succ])
      refine wpAnyH_done (by kernel_rfl) ?_ _
      refine NoPanic.normal ?_
      clear hS
      go_wp2
      go_ret
      exact ⟨b3, d3, M3, H3.out.1, rfl, H3.out.2⟩
end Go.Proofs.Ytfifcfdlmpgohaa
