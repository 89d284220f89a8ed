/-
  The document's Drop.
-/
import Derived.Test.YteehkekmaikeiaaRefC
namespace Go.Proofs.Yteehkekmaikeiaa
open Go.ChangeShapes Go.WideShapes Go.ChangeAt Go.RowKit

set_option maxHeartbeats 1600000 in
set_option maxRecDepth 20000 in
theorem rdrop_ok (w : World) (r : Nat) (v : Value) (s : Bs) (ss : List Sl) (h : Rb w r v s ss) (k : Key) :
    Calls Try.prog 16 #[.pointer (some ⟨r, 0, none⟩), .int .i64 k.1, .int .i64 k.2] w fun e w' => e = .returned (.int .i64 (dropN s k : Int)) ∧ RLeft w r v (dropV s k) w' := by
  obtain ⟨a, cap, rfl, hcap, hmax, -⟩ := h.row.shape
  obtain ⟨hlen, h64⟩ := h.len
  have HB : Hid (∀ W, Below w.heap.size w W → Rb W r (.slice a ss.length cap) s ss) := fun W hb => h.below hb
  have HH : Hid (Rb w r (.slice a ss.length cap) s ss) := h
  obtain ⟨N, hN⟩ : ∃ N, N = ss.length := ⟨_, rfl⟩
  have HN : Hid (N = ss.length) := hN
  have hN64 : N ≤ 64 := by omega
  have hcm : cap ≤ 9223372036854775807 := by unfold maxLen at hmax; omega
  obtain ⟨k1, k2⟩ := k
  have c1 := h.at'.c1
  rw [← hN] at c1 hcap HB
  clear h hlen h64 hN hmax
  go_enter Try.func16, Try.ntmps16
  go_wp2
  clear c1
  go_loopw [7, 8] (fun s7 s8 wr => ∃ t : Nat, s8 = .int .i64 (t : Int) ∧ t ≤ N ∧ Two w (.slice none 0 0) [] s7 ((ss.take t).filter fun x => !lowK (k1, k2) x.1) wr) (fun _ s8 _ => N - (intOf s8).toNat)
  case atStart => exact ⟨0, rfl, Nat.zero_le _, Below.refl _ _, Row.nil _ _, Row.nil _ _, (fun k hk => by cases hk), (fun k hk => by cases hk)⟩
  case round =>
    obtain ⟨t, rfl, ht, hT⟩ := hrel
    obtain ⟨la, lc, rfl, -⟩ := hT.row.shape
    have hP := HB.out wr hT.bel
    have c1 := hP.at'.c1
    by_cases hlt : t < N
    · obtain ⟨x, hx⟩ : ∃ x, ss[t]? = some x := ⟨ss[t]'(by have := HN.out; omega), by rw [List.getElem?_eq_getElem]⟩
      obtain ⟨-, q, rfl, hcell⟩ := hP.row.get hx
      have x0 := hcell 0 _ rfl
      have x1 := hcell 1 _ rfl
      have x2 := hcell 2 _ rfl
      rw [show E59.n = 3 from rfl] at x0 x1 x2
      rw [Nat.add_zero] at x0
      have htk := take_snoc ss t x hx
      have g1 : (t : Int) < (N : Int) := by omega
      have g2 : (0 : Int) ≤ (t : Int) := Int.natCast_nonneg _
      have e1 : IntKind.i64.wrap ((t : Int) + 1) = ((t + 1 : Nat) : Int) := by rw [IntKind.wrap_i64]; omega
      have HJ : Hid (t < N) := hlt
      have hl2 : ((ss.take t).filter fun x => !lowK (k1, k2) x.1).length ≤ 64 := Nat.le_trans (List.length_filter_le _ _) (by rw [List.length_take]; omega)
      obtain ⟨al, cl, Wl, hrun2, hT2⟩ := hT.addl (by omega) x
      obtain ⟨ln, hln⟩ : ∃ ln, ln = ((ss.take t).filter fun x => !lowK (k1, k2) x.1).length := ⟨_, rfl⟩
      rw [← hln] at hrun2 hT2 hT ⊢
      obtain ⟨xe, hxe⟩ : ∃ xe, xe = x.1.e := ⟨_, rfl⟩
      obtain ⟨xi, hxi⟩ : ∃ xi, xi = x.1.i := ⟨_, rfl⟩
      obtain ⟨xl, hxl⟩ : ∃ xl, xl = x.1.b.length := ⟨_, rfl⟩
      obtain ⟨xa, hxa⟩ : ∃ xa, xa = x.2.1 := ⟨_, rfl⟩
      obtain ⟨xc, hxc⟩ : ∃ xc, xc = x.2.2 := ⟨_, rfl⟩
      rw [← hxl, ← hxa, ← hxc] at hrun2
      rw [← hxe, ← hxi] at hrun2
      have x0' : wr.cell? ⟨q, t * 3, none⟩ = some (.int .i64 xe) := by rw [hxe]; exact x0
      have x1' : wr.cell? ⟨q, t * 3 + 1, none⟩ = some (.int .i64 xi) := by rw [hxi]; exact x1
      have x2' : wr.cell? ⟨q, t * 3 + 2, none⟩ = some (.slice xa xl xc) := by rw [hxl, hxa, hxc]; exact x2
      have HR2 : Hid ((Builtin.append_ #[40, 40] 40 #[.slice la ln lc, .slice (some ⟨wr.heap.size, 0, none⟩) 1 1]).run Try.prog (wr.alloc (.cells #[.int .i64 xe, .int .i64 xi, .slice xa xl xc] 59)) = .ok (.slice al (ln + 1) cl) Wl) := hrun2
      have HT1 : Hid (lowK (k1, k2) x.1 = true → Two w (.slice none 0 0) [] (.slice la ln lc) ((ss.take (t + 1)).filter fun x => !lowK (k1, k2) x.1) wr) := fun hk => by
        rw [htk, List.filter_append]
        simpa [hk] using hT
      have HT2 : Hid (lowK (k1, k2) x.1 = false → Two w (.slice none 0 0) [] (.slice al (ln + 1) cl) ((ss.take (t + 1)).filter fun x => !lowK (k1, k2) x.1) Wl) := fun hk => by
        rw [htk, List.filter_append]
        simpa [hk] using hT2
      have HKE : Hid (lowK (k1, k2) x.1 = (decide (xe < k1) || (decide (xe = k1) && decide (xi ≤ k2)))) := by rw [hxe, hxi]; rfl
      clear hT hP hx hcell x0 x1 x2 htk hl2 hrun2 hT2 hln hxe hxi hxl hxa hxc ht hlt
      by_cases h1 : k1 < xe
      · have HE : Hid (Two w (.slice none 0 0) [] (.slice al (ln + 1) cl) ((ss.take (t + 1)).filter fun x => !lowK (k1, k2) x.1) Wl) := HT2.out (by rw [HKE.out, decide_eq_false (by omega), decide_eq_false (by omega)]; rfl)
        clear HT1 HT2 HKE
        go_wp2_with (at_builtin; refine wpList_append_run rfl (.tmp 53) (.tmp 61) 40 rfl _ _ _ rfl rfl HR2.out ?_)
        go_roundw
        case rel => exact ⟨t + 1, by first | rfl | (congr 1; omega), by have := HJ.out; omega, HE.out⟩
        case measure => have := HJ.out; simp [intOf]; omega
      · by_cases h2 : xe = k1
        · subst h2
          by_cases h3 : k2 < xi
          · have HE : Hid (Two w (.slice none 0 0) [] (.slice al (ln + 1) cl) ((ss.take (t + 1)).filter fun x => !lowK (xe, k2) x.1) Wl) := HT2.out (by rw [HKE.out, decide_eq_false (by omega), decide_eq_false (show ¬ xi ≤ k2 by omega)]; simp)
            clear HT1 HT2 HKE
            go_wp2_with (at_builtin; refine wpList_append_run rfl (.tmp 53) (.tmp 61) 40 rfl _ _ _ rfl rfl HR2.out ?_)
            go_roundw
            case rel => exact ⟨t + 1, by first | rfl | (congr 1; omega), by have := HJ.out; omega, HE.out⟩
            case measure => have := HJ.out; simp [intOf]; omega
          · have HE : Hid (Two w (.slice none 0 0) [] (.slice la ln lc) ((ss.take (t + 1)).filter fun x => !lowK (xe, k2) x.1) wr) := HT1.out (by rw [HKE.out, decide_eq_true (show xi ≤ k2 by omega)]; simp)
            clear HT1 HT2 HKE
            go_wp2
            go_roundw
            case rel => exact ⟨t + 1, by first | rfl | (congr 1; omega), by have := HJ.out; omega, HE.out⟩
            case measure => have := HJ.out; simp [intOf]; omega
        · have HE : Hid (Two w (.slice none 0 0) [] (.slice la ln lc) ((ss.take (t + 1)).filter fun x => !lowK (k1, k2) x.1) wr) := HT1.out (by rw [HKE.out, decide_eq_true (show xe < k1 by omega)]; rfl)
          clear HT1 HT2 HKE
          go_wp2
          go_roundw
          case rel => exact ⟨t + 1, by first | rfl | (congr 1; omega), by have := HJ.out; omega, HE.out⟩
          case measure => have := HJ.out; simp [intOf]; omega
    · have hall : ss.take t = ss := List.take_of_length_le (by have := HN.out; omega)
      rw [hall] at hT ⊢
      have f1 := hP.at'.fz 1
      have hd := (Two.done (q := fun x => !lowK (k1, k2) x) HH.out (fun x => rfl) hT (fun y hy => by cases hy)).1
      obtain ⟨ln, hln⟩ : ∃ ln, ln = (ss.filter fun x => !lowK (k1, k2) x.1).length := ⟨_, rfl⟩
      rw [← hln] at hd ⊢
      have hle : ln ≤ N := by rw [hln, HN.out]; exact List.length_filter_le _ _
      have hdn : dropN s (k1, k2) = N - ln := by
        have h1 : (ss.filter fun x => lowK (k1, k2) x.1).length = dropN s (k1, k2) := by
          rw [dropN, ← HH.out.its, List.filter_map, List.length_map]; rfl
        have h2 := (split_len (fun x : Sl => lowK (k1, k2) x.1) ss.length ss).1
        rw [split_all _ _ _ (Nat.le_refl _)] at h2
        dsimp only at h2
        have h3 := HN.out
        omega
      have HD : Hid (RLeft w r (.slice a ss.length cap) (dropV s (k1, k2)) (wr.setCell ⟨r, 1, none⟩ (.slice la ln lc)) ∧ dropN s (k1, k2) = N - ln) := ⟨hd, hdn⟩
      have e5 : IntKind.i64.wrap ((N : Int) - (ln : Int)) = ((N - ln : Nat) : Int) := by rw [IntKind.wrap_i64]; omega
      have g1 : ¬ (t : Int) < (N : Int) := by omega
      clear hT hP hall hd hdn hln hle ht hlt
      go_wp2
      go_ret
      exact ⟨by rw [HD.out.2]; first | rfl | simp, HD.out.1⟩
end Go.Proofs.Yteehkekmaikeiaa
