/-
  The document's Drop.
  The document's Put: which cell is the fullest; its last steps.
  The document's Put.
  Two buffers side by side, the program's and the document's, act by act; a box of a cell beside them.
-/
import Derived.Test.YtmffplhaclnehaaGreatDoorBRefA
import Derived.Test.YtmffplhaclnehaaGreatDoorPureB
import Derived.Deep.DeepCutAuto
namespace Go.Proofs.YtmffplhaclnehaaGreatDoor
open Go.ChangeShapes Go.WideShapes Go.ChangeAt Go.RowKit
set_option maxRecDepth 20000

set_option maxHeartbeats 1600000 in
set_option maxRecDepth 20000 in
theorem rdrop_ok (w : World) (r : Nat) (v : Value) (s : Bs) (ss : List BSl) (h : BRb w r v s ss) (k : Key) :
    Calls Tryz.prog 36 #[.pointer (some ⟨r, 0, none⟩), .int .i64 k.1, .int .i64 k.2] w fun e w' => e = .returned (.int .i64 (dropN s k : Int)) ∧ RLeft w r v (dropV s k) w' := by
  obtain ⟨a, cap, rfl, hcap, hmax, -⟩ := h.row.shape
  obtain ⟨hlen, h64⟩ := h.len
  have HB : Hid (∀ W, Below w.heap.size w W → BRb W r (.slice a ss.length cap) s ss) := fun W hb => h.below hb
  have HH : Hid (BRb w r (.slice a ss.length cap) s ss) := h
  obtain ⟨N, hN⟩ : ∃ N, N = ss.length := ⟨_, rfl⟩
  have HN : Hid (N = ss.length) := hN
  have hN64 : N ≤ 64 := by omega
  have hcm : cap ≤ 9223372036854775807 := by unfold maxLen at hmax; omega
  obtain ⟨k1, k2⟩ := k
  have c1 := h.at'.c1
  rw [← hN] at c1 hcap HB
  clear h hlen h64 hN hmax
  go_enter Tryz.func36, Tryz.ntmps36
  go_wp2
  clear c1
  go_loopw [7, 8] (fun s7 s8 wr => ∃ t : Nat, s8 = .int .i64 (t : Int) ∧ t ≤ N ∧ Two w (.slice none 0 0) [] s7 ((ss.take t).filter fun x => !lowK (k1, k2) x.1) wr) (fun _ s8 _ => N - (intOf s8).toNat)
  case atStart => exact ⟨0, rfl, Nat.zero_le _, Below.refl _ _, Row.nil _ _, Row.nil _ _, (fun k hk => by cases hk), (fun k hk => by cases hk)⟩
  case round =>
    obtain ⟨t, rfl, ht, hT⟩ := hrel
    obtain ⟨la, lc, rfl, -⟩ := hT.row.shape
    have hP := HB.out wr hT.bel
    have c1 := hP.at'.c1
    by_cases hlt : t < N
    · obtain ⟨x, hx⟩ : ∃ x, ss[t]? = some x := ⟨ss[t]'(by have := HN.out; omega), by rw [List.getElem?_eq_getElem]⟩
      obtain ⟨-, q, rfl, hcell⟩ := hP.row.get hx
      have x0 := hcell 0 _ rfl
      have x1 := hcell 1 _ rfl
      have x2 := hcell 2 _ rfl
      rw [show E59.n = 3 from rfl] at x0 x1 x2
      rw [Nat.add_zero] at x0
      have htk := take_snoc ss t x hx
      have g1 : (t : Int) < (N : Int) := by omega
      have g2 : (0 : Int) ≤ (t : Int) := Int.natCast_nonneg _
      have e1 : IntKind.i64.wrap ((t : Int) + 1) = ((t + 1 : Nat) : Int) := by rw [IntKind.wrap_i64]; omega
      have HJ : Hid (t < N) := hlt
      have hl2 : ((ss.take t).filter fun x => !lowK (k1, k2) x.1).length ≤ 64 := Nat.le_trans (List.length_filter_le _ _) (by rw [List.length_take]; omega)
      obtain ⟨al, cl, Wl, hrun2, hT2⟩ := hT.addl (by omega) x
      obtain ⟨ln, hln⟩ : ∃ ln, ln = ((ss.take t).filter fun x => !lowK (k1, k2) x.1).length := ⟨_, rfl⟩
      rw [← hln] at hrun2 hT2 hT ⊢
      obtain ⟨xe, hxe⟩ : ∃ xe, xe = x.1.e := ⟨_, rfl⟩
      obtain ⟨xi, hxi⟩ : ∃ xi, xi = x.1.i := ⟨_, rfl⟩
      obtain ⟨xl, hxl⟩ : ∃ xl, xl = x.1.b.length := ⟨_, rfl⟩
      obtain ⟨xa, hxa⟩ : ∃ xa, xa = x.2.1 := ⟨_, rfl⟩
      obtain ⟨xc, hxc⟩ : ∃ xc, xc = x.2.2 := ⟨_, rfl⟩
      rw [← hxl, ← hxa, ← hxc] at hrun2
      rw [← hxe, ← hxi] at hrun2
      have x0' : wr.cell? ⟨q, t * 3, none⟩ = some (.int .i64 xe) := by rw [hxe]; exact x0
      have x1' : wr.cell? ⟨q, t * 3 + 1, none⟩ = some (.int .i64 xi) := by rw [hxi]; exact x1
      have x2' : wr.cell? ⟨q, t * 3 + 2, none⟩ = some (.slice xa xl xc) := by rw [hxl, hxa, hxc]; exact x2
      have HR2 : Hid ((Builtin.append_ #[51, 51] 51 #[.slice la ln lc, .slice (some ⟨wr.heap.size, 0, none⟩) 1 1]).run Tryz.prog (wr.alloc (.cells #[.int .i64 xe, .int .i64 xi, .slice xa xl xc] 140)) = .ok (.slice al (ln + 1) cl) Wl) := hrun2
      have HT1 : Hid (lowK (k1, k2) x.1 = true → Two w (.slice none 0 0) [] (.slice la ln lc) ((ss.take (t + 1)).filter fun x => !lowK (k1, k2) x.1) wr) := fun hk => by
        rw [htk, List.filter_append]
        simpa [hk] using hT
      have HT2 : Hid (lowK (k1, k2) x.1 = false → Two w (.slice none 0 0) [] (.slice al (ln + 1) cl) ((ss.take (t + 1)).filter fun x => !lowK (k1, k2) x.1) Wl) := fun hk => by
        rw [htk, List.filter_append]
        simpa [hk] using hT2
      have HKE : Hid (lowK (k1, k2) x.1 = (decide (xe < k1) || (decide (xe = k1) && decide (xi ≤ k2)))) := by rw [hxe, hxi]; rfl
      clear hT hP hx hcell x0 x1 x2 htk hl2 hrun2 hT2 hln hxe hxi hxl hxa hxc ht hlt
      by_cases h1 : k1 < xe
      · have HE : Hid (Two w (.slice none 0 0) [] (.slice al (ln + 1) cl) ((ss.take (t + 1)).filter fun x => !lowK (k1, k2) x.1) Wl) := HT2.out (by rw [HKE.out, decide_eq_false (by omega), decide_eq_false (by omega)]; rfl)
        clear HT1 HT2 HKE
        go_wp2_with (at_builtin; refine wpList_append_run rfl (.tmp 53) (.tmp 61) 51 rfl _ _ _ rfl rfl HR2.out ?_)
        go_roundw
        case rel => exact ⟨t + 1, by first | rfl | (congr 1; omega), by have := HJ.out; omega, HE.out⟩
        case measure => have := HJ.out; simp [intOf]; omega
      · by_cases h2 : xe = k1
        · subst h2
          by_cases h3 : k2 < xi
          · have HE : Hid (Two w (.slice none 0 0) [] (.slice al (ln + 1) cl) ((ss.take (t + 1)).filter fun x => !lowK (xe, k2) x.1) Wl) := HT2.out (by rw [HKE.out, decide_eq_false (by omega), decide_eq_false (show ¬ xi ≤ k2 by omega)]; simp)
            clear HT1 HT2 HKE
            go_wp2_with (at_builtin; refine wpList_append_run rfl (.tmp 53) (.tmp 61) 51 rfl _ _ _ rfl rfl HR2.out ?_)
            go_roundw
            case rel => exact ⟨t + 1, by first | rfl | (congr 1; omega), by have := HJ.out; omega, HE.out⟩
            case measure => have := HJ.out; simp [intOf]; omega
          · have HE : Hid (Two w (.slice none 0 0) [] (.slice la ln lc) ((ss.take (t + 1)).filter fun x => !lowK (xe, k2) x.1) wr) := HT1.out (by rw [HKE.out, decide_eq_true (show xi ≤ k2 by omega)]; simp)
            clear HT1 HT2 HKE
            go_wp2
            go_roundw
            case rel => exact ⟨t + 1, by first | rfl | (congr 1; omega), by have := HJ.out; omega, HE.out⟩
            case measure => have := HJ.out; simp [intOf]; omega
        · have HE : Hid (Two w (.slice none 0 0) [] (.slice la ln lc) ((ss.take (t + 1)).filter fun x => !lowK (k1, k2) x.1) wr) := HT1.out (by rw [HKE.out, decide_eq_true (show xe < k1 by omega)]; rfl)
          clear HT1 HT2 HKE
          go_wp2
          go_roundw
          case rel => exact ⟨t + 1, by first | rfl | (congr 1; omega), by have := HJ.out; omega, HE.out⟩
          case measure => have := HJ.out; simp [intOf]; omega
    · have hall : ss.take t = ss := List.take_of_length_le (by have := HN.out; omega)
      rw [hall] at hT ⊢
      have f1 := hP.at'.fz 1
      have hd := (Two.done (q := fun x => !lowK (k1, k2) x) HH.out (fun x => rfl) hT (fun y hy => by cases hy)).1
      obtain ⟨ln, hln⟩ : ∃ ln, ln = (ss.filter fun x => !lowK (k1, k2) x.1).length := ⟨_, rfl⟩
      rw [← hln] at hd ⊢
      have hle : ln ≤ N := by rw [hln, HN.out]; exact List.length_filter_le _ _
      have hdn : dropN s (k1, k2) = N - ln := by
        have h1 : (ss.filter fun x => lowK (k1, k2) x.1).length = dropN s (k1, k2) := by
          rw [dropN, ← HH.out.its, List.filter_map, List.length_map]; rfl
        have h2 := (split_len (fun x : BSl => lowK (k1, k2) x.1) ss.length ss).1
        rw [split_all _ _ _ (Nat.le_refl _)] at h2
        dsimp only at h2
        have h3 := HN.out
        omega
      have HD : Hid (RLeft w r (.slice a ss.length cap) (dropV s (k1, k2)) (wr.setCell ⟨r, 1, none⟩ (.slice la ln lc)) ∧ dropN s (k1, k2) = N - ln) := ⟨hd, hdn⟩
      have e5 : IntKind.i64.wrap ((N : Int) - (ln : Int)) = ((N - ln : Nat) : Int) := by rw [IntKind.wrap_i64]; omega
      have g1 : ¬ (t : Int) < (N : Int) := by omega
      clear hT hP hall hd hdn hln hle ht hlt
      go_wp2
      go_ret
      exact ⟨by rw [HD.out.2]; first | rfl | simp, HD.out.1⟩
end Go.Proofs.YtmffplhaclnehaaGreatDoor

namespace Go.Proofs.YtmffplhaclnehaaGreatDoor
open Go.ChangeShapes Go.WideShapes Go.ChangeAt Go.RowKit
set_option maxRecDepth 20000

def fst0 (L : List It) : Key := match L with
  | [] => (0, 0)
  | x :: _ => x.k
/-- What the document has found behind t of them. -/
def fk (L : List It) (t : Nat) : Key := if t = 0 then (0, 0) else fullF L (fst0 L) (L.take t)
def fm (L : List It) (t : Nat) : Nat := if t = 0 then 0 else cnt L (fullF L (fst0 L) (L.take t))
theorem f_step {L : List It} {t : Nat} {y : It} (hy : L[t]? = some y) : (fm L t < cnt L y.k → fk L (t + 1) = y.k ∧ fm L (t + 1) = cnt L y.k) ∧ (¬ fm L t < cnt L y.k → fk L (t + 1) = fk L t ∧ fm L (t + 1) = fm L t) := by
  have hsn := take_snoc L t y hy
  have h1 : fk L (t + 1) = fullF L (fst0 L) (L.take (t + 1)) := by rw [fk, if_neg (by omega)]
  have h2 : fm L (t + 1) = cnt L (fullF L (fst0 L) (L.take (t + 1))) := by rw [fm, if_neg (by omega)]
  by_cases ht : t = 0
  · subst ht
    have e : fst0 L = y.k := by
      cases L with
      | nil => simp at hy
      | cons z r => simp at hy; rw [← hy]; rfl
    have e2 : fullF L (fst0 L) (L.take (0 + 1)) = y.k := by
      rw [hsn, fullF_snoc, List.take_zero, fullF_nil, e, if_neg (by omega)]
    have hp := cnt_pos (List.mem_of_getElem? hy)
    have e0 : fm L 0 = 0 := rfl
    refine ⟨fun _ => ⟨by rw [h1, e2], by rw [h2, e2]⟩, fun h => absurd (show fm L 0 < cnt L y.k by omega) h⟩
  · have h3 : fk L t = fullF L (fst0 L) (L.take t) := by rw [fk, if_neg ht]
    have h4 : fm L t = cnt L (fullF L (fst0 L) (L.take t)) := by rw [fm, if_neg ht]
    rw [h1, h2, h3, h4, hsn, fullF_snoc]
    constructor
    · intro h; rw [if_pos h]; exact ⟨rfl, rfl⟩
    · intro h; rw [if_neg h]; exact ⟨rfl, rfl⟩
theorem f_end {L : List It} (hne : L ≠ []) : fk L L.length = full L ∧ fm L L.length = cnt L (full L) := by
  have hl : L.length ≠ 0 := fun e => hne (List.length_eq_zero_iff.1 e)
  have e : fullF L (fst0 L) (L.take L.length) = full L := by
    rw [List.take_of_length_le (Nat.le_refl _)]
    cases L with
    | nil => exact absurd rfl hne
    | cons z r => rfl
  rw [fk, fm, if_neg hl, if_neg hl, e]
  exact ⟨rfl, rfl⟩

/-- The three appends and the store. -/
theorem rput_tail {w : World} {r : Nat} {v0 : Value} {s1 : Bs} {W : World} {a : Option Addr} {l cap : Nat} {ss : List BSl} (hP : BRb W r (.slice a l cap) s1 ss) (hA : Apart (fun k => k = r) w W) {k1 k2 : Int} {xa : Option Addr} {xc : Nat} {x : List UInt8} (hx : Sees W xa xc x) (hxl : x.length ≤ 96) (hok : Bs.ok { s1 with L := s1.L ++ [⟨k1, k2, x⟩] }) :
    ∃ a2 c2 w2 d cd w3 a3 c3 w5, (Builtin.append_ #[51, 51] 51 #[.slice (some ⟨W.heap.size, 0, none⟩) 0 0, .slice a l cap]).run Tryz.prog (W.alloc (.cells #[] 140)) = .ok (.slice a2 l c2) w2 ∧ (W.alloc (.cells #[] 140)).cell? ⟨r, 1, none⟩ = some (.slice a l cap) ∧
      (Builtin.append_ #[24, 24] 24 #[.slice (some ⟨w2.heap.size, 0, none⟩) 0 0, .slice xa x.length xc]).run Tryz.prog (w2.alloc (.cells #[] 5)) = .ok (.slice d x.length cd) w3 ∧
      (Builtin.append_ #[51, 51] 51 #[.slice a2 l c2, .slice (some ⟨w3.heap.size, 0, none⟩) 1 1]).run Tryz.prog (w3.alloc (.cells #[.int .i64 k1, .int .i64 k2, .slice d x.length cd] 140)) = .ok (.slice a3 (l + 1) c3) w5 ∧
      w5.cell? ⟨r, 1, none⟩ = some (.slice a l cap) ∧ w5.frozen? ⟨r, 1, none⟩ = false ∧ RLeft w r v0 { s1 with L := s1.L ++ [⟨k1, k2, x⟩] } (w5.setCell ⟨r, 1, none⟩ (.slice a3 (l + 1) c3)) := by
  obtain ⟨hlen, h64⟩ := hP.len
  have hl : l = ss.length := by obtain ⟨_, _, e, _⟩ := hP.row.shape; cases e; rfl
  subst hl
  obtain ⟨W0, hW0⟩ : ∃ W0, W0 = W.alloc (.cells #[] 140) := ⟨_, rfl⟩
  have hb0 : Below W.heap.size W W0 := by rw [hW0]; exact (Below.refl _ _).alloc (Nat.le_refl _) _
  have h0 := hP.below hb0
  have hE0 : Row E59 W0 (.slice (some ⟨W.heap.size, 0, none⟩) 0 0) [] := by rw [hW0]; exact Row.empty E59 W
  obtain ⟨v2, w2, hrun1, hrow1, hap1, hnew1⟩ := hE0.append ss (by simp; omega) a cap (fun hne => by
    obtain ⟨y, hy⟩ : ∃ y, ss[0]? = some y := ⟨ss[0]'(List.length_pos_iff.2 hne), by rw [List.getElem?_eq_getElem]⟩
    obtain ⟨-, q, rfl, -⟩ := h0.row.get hy
    exact ⟨q, 0, rfl, fun t u hu => by rw [Nat.zero_add]; exact h0.row.cellsAt t u hu⟩)
  rw [List.nil_append] at hrow1
  have hb2 : Below W.heap.size W w2 := hap1.below hb0 (fun k hk => by cases hk; exact Nat.le_refl _) hb0.size
  have hown1 : ∀ k, v2.ownBlock = some k → W.heap.size ≤ k := fun k hk => by
    rcases hnew1 k hk with e | e
    · cases e; exact Nat.le_refl _
    · exact Nat.le_trans hb0.size e
  obtain ⟨a2, c2, rfl, -⟩ := hrow1.shape
  -- the bytes
  have hbE : Below w2.heap.size w2 (w2.alloc (.cells #[] 5)) := (Below.refl _ _).alloc (Nat.le_refl _) _
  obtain ⟨v3, w3, hrun2, ho, hbl⟩ := append_own_any (w2.alloc (.cells #[] 5)) w2.heap.size _ [] (own_empty w2) xa xc x ((hx.below hb2).below hbE) (by simp; omega) (by simp)
  obtain ⟨d, cd, rfl, hs3⟩ := Sees.of_own ho
  rw [List.nil_append] at hs3 hrun2
  have hb23 : Below w2.heap.size w2 w3 := hbl _ _ hbE (Nat.le_refl _)
  have hb3 : Below W.heap.size W w3 := hb2.trans (hb23.mono hb2.size)
  -- the item
  obtain ⟨W4, hW4⟩ : ∃ W4, W4 = w3.alloc (.cells #[.int .i64 k1, .int .i64 k2, .slice d x.length cd] 140) := ⟨_, rfl⟩
  have hb34 : Below w3.heap.size w3 W4 := by rw [hW4]; exact (Below.refl _ _).alloc (Nat.le_refl _) _
  have r4 : W4.heap[w3.heap.size]? = some (.cells #[.int .i64 k1, .int .i64 k2, .slice d x.length cd] 140 (0, 0)) := by rw [hW4]; exact heap_alloc_new _ _
  have hb4 : Below W.heap.size W W4 := hb3.trans (hb34.mono hb3.size)
  have hrow4 := (hrow1.below hb23).below hb34
  obtain ⟨v5, w5, hrun3, hrow5, hap5, hnew5⟩ := hrow4.append [((⟨k1, k2, x⟩ : It), (d, cd))] (by simp; omega) (some ⟨w3.heap.size, 0, none⟩) 1 (fun _ => ⟨w3.heap.size, 0, rfl, fun t u hu => by
    rw [show E59.cs [((⟨k1, k2, x⟩ : It), (d, cd))] = [.int .i64 k1, .int .i64 k2, .slice d x.length cd] from rfl] at hu
    rw [cell_of_row _ _ (0 + t) _ _ _ r4, Nat.zero_add, ← Array.getElem?_toList]; exact hu⟩)
  have hb5 : Below W.heap.size W w5 := hap5.below hb4 hown1 hb4.size
  have h5 := hP.below hb5
  obtain ⟨a3, c3, rfl, -⟩ := hrow5.shape
  have el : (ss ++ [((⟨k1, k2, x⟩ : It), (d, cd))]).length = ss.length + 1 := by simp
  rw [el] at hrun3 hnew5 hrow5
  have hown5 : ∀ k, (Value.slice a3 (ss.length + 1) c3).ownBlock = some k → W.heap.size ≤ k := fun k hk => by
    rcases hnew5 k hk with e | e
    · exact hown1 k e
    · exact Nat.le_trans hb4.size e
  have hag : Apart (fun k => k = r) w5 (w5.setCell ⟨r, 1, none⟩ (.slice a3 (ss.length + 1) c3)) := (Apart.refl (fun k => k = r) w5).setCell (b := r) (.inl rfl) 1 _
  have hr := hP.at'.lt
  have hpl : ∀ k, k = r → Plain w5 k := fun k hk => hk ▸ h5.plain (.inl rfl)
  refine ⟨a2, c2, w2, d, cd, w3, a3, c3, w5, by rw [← hW0]; exact hrun1, by rw [← hW0]; exact h0.at'.c1, hrun2, by rw [← hW4]; exact hrun3, h5.at'.c1, h5.at'.fz 1, ?_⟩
  refine ⟨_, ss ++ [((⟨k1, k2, x⟩ : It), (d, cd))], ⟨h5.at'.put1 _, hrow5.apart hag fun k hk e => by have := hown5 k hk; omega, by rw [List.map_append, hP.its]; rfl, fun y hy => ?_, hok⟩, (hA.trans (Apart.of_below (F := fun k => k = r) hb5) fun i hi => .inl hi).trans hag fun i hi => .inl hi, fun k hk => .inr (Nat.le_trans hA.size (hown5 k hk))⟩
  rcases List.mem_append.1 hy with hy | hy
  · exact (h5.seen y hy).apart hag hpl
  · rw [List.mem_singleton] at hy
    subst hy
    exact ((hs3.below hb34).apart hap5 fun k hk => hrow4.plain hk).apart hag hpl
end Go.Proofs.YtmffplhaclnehaaGreatDoor

namespace Go.Proofs.YtmffplhaclnehaaGreatDoor
open Go.ChangeShapes Go.WideShapes Go.ChangeAt Go.RowKit
set_option maxRecDepth 20000

set_option maxRecDepth 20000 in
theorem rput_refused (w : World) (r : Nat) (k1 k2 : Int) (xa : Option Addr) (xc : Nat) (x : List UInt8) (ha : argB k1 k2 x = false) :
    Calls Tryz.prog 42 #[.pointer (some ⟨r, 0, none⟩), .int .i64 k1, .int .i64 k2, .slice xa x.length xc] w fun e w' => e = .returned (.int .i64 1) ∧ w' = w := by
  have hno : ¬ (0 ≤ k1 ∧ k1 ≤ 65535 ∧ 1 ≤ k2 ∧ k2 ≤ 256 ∧ x.length ≤ 96) := fun h => by rw [argB_iff.2 h] at ha; cases ha
  clear ha
  go_enter Tryz.func42, Tryz.ntmps42
  by_cases h1 : k1 < 0
  · clear hno
    go_wp2
    go_ret
    exact ⟨rfl, rfl⟩
  · by_cases h2 : 65535 < k1
    · clear hno
      go_wp2
      go_ret
      exact ⟨rfl, rfl⟩
    · by_cases h3 : k2 < 1
      · clear hno
        go_wp2
        go_ret
        exact ⟨rfl, rfl⟩
      · by_cases h4 : 256 < k2
        · clear hno
          go_wp2
          go_ret
          exact ⟨rfl, rfl⟩
        · have h5 : 96 < (x.length : Int) := by omega
          clear hno
          go_wp2
          go_ret
          exact ⟨rfl, rfl⟩

/-- A box of an item of cell k. -/
def IBox (W : World) (B : Nat) (k : Key) : Prop := ∃ a n c, W.heap[B]? = some (.cells #[.int .i64 k.1, .int .i64 k.2, .slice a n c] 140 (0, 0))
theorem IBox.put {W : World} {B : Nat} {k : Key} (h : IBox W B k) (e i : Int) (a : Option Addr) (n c : Nat) : IBox (((W.setCell ⟨B, 0, none⟩ (.int .i64 e)).setCell ⟨B, 1, none⟩ (.int .i64 i)).setCell ⟨B, 2, none⟩ (.slice a n c)) B (e, i) := by
  obtain ⟨a0, n0, c0, h0⟩ := h
  refine ⟨a, n, c, ?_⟩
  rw [heap_setCell_same _ _ _ _ _ _ (heap_setCell_same _ _ _ _ _ _ (heap_setCell_same _ _ _ _ _ _ h0))]; rfl
theorem below_three {W w : World} {B g : Nat} (h : Below B W w) (hg : B ≤ g) (x y z : Value) : Below B W (((w.setCell ⟨g, 0, none⟩ x).setCell ⟨g, 1, none⟩ y).setCell ⟨g, 2, none⟩ z) := ((h.setCell (p := ⟨g, 0, none⟩) hg x).setCell (p := ⟨g, 1, none⟩) hg y).setCell (p := ⟨g, 2, none⟩) hg z

set_option maxHeartbeats 6400000 in
set_option maxRecDepth 20000 in
theorem rput_goes (w : World) (r : Nat) (v : Value) (s : Bs) (ss : List BSl) (h : BRb w r v s ss) (hlost : s.lost ≤ 1000000) (k1 k2 : Int) (xa : Option Addr) (xc : Nat) (x : List UInt8) (hx : Sees w xa xc x) (ha : argB k1 k2 x = true) :
    Calls Tryz.prog 42 #[.pointer (some ⟨r, 0, none⟩), .int .i64 k1, .int .i64 k2, .slice xa x.length xc] w fun e w' => e = .returned (.int .i64 (bputE s k1 k2 x)) ∧ RLeft w r v (putV s k1 k2 x) w' := by
  obtain ⟨va, vcap, rfl, hcap, hmax, -⟩ := h.row.shape
  obtain ⟨hlen, h64⟩ := h.len
  obtain ⟨a1, a2, a3, a4, a5⟩ := argB_iff.1 ha
  have b1 : ¬ (k1 < 0) := by omega
  have b2 : ¬ (65535 < k1) := by omega
  have b3 : ¬ (k2 < 1) := by omega
  have b4 : ¬ (256 < k2) := by omega
  have b5 : ¬ (96 < (x.length : Int)) := by omega
  have HP : Hid (∀ W, Below w.heap.size w W → BRb W r (.slice va ss.length vcap) s ss) := fun W hb => h.below hb
  have HH : Hid (BRb w r (.slice va ss.length vcap) s ss) := h
  have HX : Hid (Sees w xa xc x ∧ x.length ≤ 96 ∧ argB k1 k2 x = true) := ⟨hx, a5, ha⟩
  have HOK : Hid ((putV s k1 k2 x).ok) := putV_ok h.ok k1 k2 x
  obtain ⟨N, hN⟩ : ∃ N, N = ss.length := ⟨_, rfl⟩
  obtain ⟨mo, hmo⟩ : ∃ mo, mo = s.most := ⟨_, rfl⟩
  have HN : Hid (N = ss.length ∧ N = s.L.length ∧ N ≤ 64 ∧ mo = s.most ∧ s.L.length ≤ s.most ∧ 1 ≤ s.most) := ⟨hN, by omega, by omega, hmo, h.ok.len, h.ok.lo⟩
  have hN64 : N ≤ 64 := by omega
  have hcm : vcap ≤ 9223372036854775807 := by unfold maxLen at hmax; omega
  obtain ⟨xl, hxl⟩ : ∃ xl, xl = x.length := ⟨_, rfl⟩
  have HXL : Hid (xl = x.length) := hxl
  have c1 := h.at'.c1
  rw [← hN] at HP hcap c1
  rw [← hxl] at b5 ⊢
  clear h hx ha a1 a2 a3 a4 a5 hlen h64 hmax hN hmo hxl
  go_enter Tryz.func42, Tryz.ntmps42
  go_wp2
  clear c1
  go_loopw [9] (fun s9 wr => ∃ t : Nat, s9 = .int .i64 (t : Int) ∧ t ≤ N ∧ (∀ j y, j < t → ss[j]? = some y → (y.1.b == x) = false) ∧ Below w.heap.size w wr) (fun s9 _ => N - (intOf s9).toNat)
  case atStart => exact ⟨0, rfl, Nat.zero_le _, (fun j y hj => by omega), Below.refl _ _⟩
  case round =>
    obtain ⟨t, rfl, ht, hno, hbel⟩ := hrel
    have HNO : Hid (∀ j y, j < t → ss[j]? = some y → (y.1.b == x) = false) := hno
    clear hno
    have hP := HP.out wr hbel
    have c1 := hP.at'.c1
    by_cases hlt : t < N
    · obtain ⟨y, hy⟩ : ∃ y, ss[t]? = some y := ⟨ss[t]'(by have := HN.out; omega), by rw [List.getElem?_eq_getElem]⟩
      obtain ⟨-, q, rfl, hcell⟩ := hP.row.get hy
      have x2 := hcell 2 _ rfl
      rw [show E59.n = 3 from rfl] at x2
      have hsy := hP.seen y (List.mem_of_getElem? hy)
      have hsx := HX.out.1.below hbel
      obtain ⟨yl, hyl⟩ : ∃ yl, yl = y.1.b.length := ⟨_, rfl⟩
      obtain ⟨ya, hya⟩ : ∃ ya, ya = y.2.1 := ⟨_, rfl⟩
      obtain ⟨yc, hyc⟩ : ∃ yc, yc = y.2.2 := ⟨_, rfl⟩
      obtain ⟨yb, hyb⟩ : ∃ yb, yb = y.1.b := ⟨_, rfl⟩
      have u1 : (Go.convert 24 9 (.slice ya yl yc)).run Tryz.prog wr.drew = .ok (.string ⟨yb.toArray⟩) wr.drew := by rw [hyl, hya, hyc, hyb]; exact (hsy.drewN 1).convert (P := Tryz.prog) 24 5 9 Tryz.underlying24 Tryz.underlying5 Tryz.underlying9
      have u2 : (Go.convert 24 9 (.slice xa xl xc)).run Tryz.prog wr.drew = .ok (.string ⟨x.toArray⟩) wr.drew := by rw [HXL.out]; exact (hsx.drewN 1).convert (P := Tryz.prog) 24 5 9 Tryz.underlying24 Tryz.underlying5 Tryz.underlying9
      have x2' : wr.cell? ⟨q, t * 3 + 2, none⟩ = some (.slice ya yl yc) := by rw [hyl, hya, hyc]; exact x2
      have g1 : (t : Int) < (N : Int) := by omega
      have g2 : (0 : Int) ≤ (t : Int) := Int.natCast_nonneg _
      have e1 : IntKind.i64.wrap ((t : Int) + 1) = ((t + 1 : Nat) : Int) := by rw [IntKind.wrap_i64]; omega
      have HB : Hid (Below w.heap.size w wr.drew) := hbel.drew
      have HJ : Hid (t < N ∧ ss[t]? = some y ∧ yb = y.1.b) := ⟨hlt, hy, hyb⟩
      clear hP hy hcell x2 hsy hsx hyl hya hyc hyb hbel ht hlt
      by_cases hq : yb = x
      · have HE : Hid ((4 : Int) = bputE s k1 k2 x ∧ RLeft w r (.slice (some ⟨q, 0, none⟩) ss.length vcap) (putV s k1 k2 x) wr.drew) := by
          have hh : heldB s.L x = true := by
            rw [heldB, ← HH.out.its, List.any_map]
            exact List.any_eq_true.2 ⟨y, List.mem_of_getElem? HJ.out.2.1, by simp [← HJ.out.2.2, hq]⟩
          refine ⟨by simp [bputE, HX.out.2.2, hh], ?_⟩
          rw [show putV s k1 k2 x = s by simp [putV, HX.out.2.2, hh]]
          exact RLeft.refl HH.out HB.out
        subst hq
        clear HNO HP HH HX HOK
        go_wp2_with fail
        go_region
        go_wp2
        go_ret
        exact ⟨by rw [← HE.out.1]; rfl, HE.out.2⟩
      · have hne : (yb == x) = false := by simpa using hq
        have HN2 : Hid (∀ j y, j < t + 1 → ss[j]? = some y → (y.1.b == x) = false) := fun j z hj hz => by
          by_cases e : j = t
          · subst e
            have h9 := HJ.out.2.1
            rw [hz] at h9
            cases h9
            rw [← HJ.out.2.2]; exact hne
          · exact HNO.out j z (by omega) hz
        clear hq HNO
        go_wp2_with fail
        go_region
        go_wp2
        go_roundw
        case rel => exact ⟨t + 1, by first | rfl | (congr 1; omega), by have := HJ.out.1; omega, HN2.out, HB.out⟩
        case measure => have := HJ.out.1; simp [intOf]; omega
    · have hh : heldB s.L x = false := by
        rw [heldB, ← HH.out.its, List.any_map, List.any_eq_false]
        intro y hy
        obtain ⟨j, hj⟩ := List.mem_iff_getElem?.1 hy
        have := HNO.out j y (by have := (List.getElem?_eq_some_iff.1 hj).1; have := HN.out; omega) hj
        simp [Function.comp, this]
      have g0 : ¬ (t : Int) < (N : Int) := by omega
      have HPE : Hid (bputE s k1 k2 x = if s.L.length = s.most ∧ cnt s.L (k1, k2) = cnt s.L (full s.L) then 9 else 0) := by show bputE s k1 k2 x = _; simp [bputE, HX.out.2.2, hh]
      have HPV : Hid (putV s k1 k2 x = if s.L.length = s.most then (if cnt s.L (k1, k2) = cnt s.L (full s.L) then { s with lost := s.lost + 1 } else { s with lost := s.lost + 1, L := (split (isK (full s.L)) 1 s.L).2 ++ [⟨k1, k2, x⟩] }) else { s with L := s.L ++ [⟨k1, k2, x⟩] }) := by show putV s k1 k2 x = _; simp [putV, HX.out.2.2, hh]
      obtain ⟨s1, hs1⟩ : ∃ s1 : Bs, s1 = if s.L.length = s.most then { s with lost := s.lost + 1, L := (split (isK (full s.L)) 1 s.L).2 } else s := ⟨_, rfl⟩
      have HS1 : Hid (s1 = if s.L.length = s.most then { s with lost := s.lost + 1, L := (split (isK (full s.L)) 1 s.L).2 } else s) := hs1
      have HB : Hid (Below w.heap.size w wr) := hbel
      have c0 := hP.at'.c0
      rw [← HN.out.2.2.2.1] at c0
      clear hs1 hh hP hbel ht hlt HNO
      go_wp2_with fail
      go_region
      go_upto_if 65 with fail
      go_cut [] (fun wx => RLeft w r (.slice va ss.length vcap) s1 wx ∧ ¬ (s.L.length = s.most ∧ cnt s.L (k1, k2) = cnt s.L (full s.L)))
      case first =>
        obtain ⟨D, hD⟩ : ∃ D, D = wr.drew := ⟨_, rfl⟩
        rw [← hD]
        have HBD : Hid (Below w.heap.size w D) := by rw [hD]; exact HB.out.drew
        clear hD c0 c1
        have hPD := HP.out D HBD.out
        have c1 := hPD.at'.c1
        obtain ⟨h1, h2, h3, h4, h5, h6⟩ := HN.out
        by_cases hfull : s.L.length = s.most
        · have g1 : (mo : Int) ≤ (N : Int) := by omega
          obtain ⟨B, hB⟩ : ∃ B, B = D.heap.size := ⟨_, rfl⟩
          obtain ⟨W, hW⟩ : ∃ W, W = D.alloc (.cells #[.int .i64 0, .int .i64 0, .slice none 0 0] 140) := ⟨_, rfl⟩
          have hbW : Below D.heap.size D W := by rw [hW]; exact (Below.refl _ _).alloc (Nat.le_refl _) _
          have HS2 : Hid (Below w.heap.size w W ∧ W.heap[B]? = some (.cells #[.int .i64 (fk s.L 0).1, .int .i64 (fk s.L 0).2, .slice none 0 0] 140 (0, 0)) ∧ w.heap.size ≤ B) := ⟨HBD.out.trans (hbW.mono HBD.out.size), by rw [hW, hB]; exact heap_alloc_new _ _, by rw [hB]; exact HBD.out.size⟩
          have HW : Hid (W = D.alloc (.cells #[.int .i64 0, .int .i64 0, .slice none 0 0] 140)) := hW
          have HBB : Hid (B = D.heap.size) := hB
          have HF : Hid (s.L.length = s.most) := hfull
          have d65 : Hid (decide (mo ≤ N) = true) := decide_eq_true (show mo ≤ N by omega)
          clear hPD h1 h2 h3 h4 h5 h6 hfull hB hW hbW c1
          go_wp2
          rw [← HW.out, ← HBB.out]
          clear HW HBB HBD g1
          simp only [d65.out]
          rename World => W1
          go_loopw [11, 12] (fun s11 s12 wq => ∃ t : Nat, s12 = .int .i64 (t : Int) ∧ t ≤ N ∧ s11 = .int .i64 (fm s.L t : Int) ∧ Below w.heap.size w wq ∧ IBox wq B (fk s.L t)) (fun _ s12 _ => N - (intOf s12).toNat)
          case atStart => exact ⟨0, rfl, Nat.zero_le _, rfl, HS2.out.1, none, 0, 0, HS2.out.2.1⟩
          case round =>
            rename World => wq
            obtain ⟨t, rfl, ht, rfl, hbel, hbx⟩ := hrel
            have hP := HP.out wq hbel
            have c1 := hP.at'.c1
            obtain ⟨n1, n2, n3, n4, n5, n6⟩ := HN.out
            have hBw := HS2.out.2.2
            obtain ⟨ba, bn, bc, hbb⟩ := id hbx
            by_cases hlt : t < N
            · obtain ⟨y, hy⟩ : ∃ y, ss[t]? = some y := ⟨ss[t]'(by omega), by rw [List.getElem?_eq_getElem]⟩
              have hy' : s.L[t]? = some y.1 := by rw [← HH.out.its, List.getElem?_map, hy]; rfl
              obtain ⟨-, q, hq, hcell⟩ := hP.row.get hy
              subst hq
              have x0 := hcell 0 _ rfl
              have x1 := hcell 1 _ rfl
              have x2 := hcell 2 _ rfl
              rw [show E59.n = 3 from rfl] at x0 x1 x2
              rw [Nat.add_zero] at x0
              obtain ⟨fs1, fs2⟩ := f_step hy'
              have KC : Hid (∀ j, Calls Tryz.prog 83 #[.pointer (some ⟨r, 0, none⟩), .int .i64 y.1.e, .int .i64 y.1.i] (wq.drewN j) fun e w' => e = .returned (.int .i64 (cnt s.L y.1.k : Int)) ∧ w' = wq.drewN j) := fun j => rcount_ok (wq.drewN j) r _ s ss (HP.out (wq.drewN j) (below_drewN hbel j)) y.1.k
              obtain ⟨cy, hcy⟩ : ∃ cy, cy = cnt s.L y.1.k := ⟨_, rfl⟩
              obtain ⟨fmt, hfmt⟩ : ∃ fmt, fmt = fm s.L t := ⟨_, rfl⟩
              rw [← hcy] at KC fs1 fs2
              rw [← hfmt] at fs1 fs2 ⊢
              obtain ⟨ye, hye⟩ : ∃ ye, ye = y.1.e := ⟨_, rfl⟩
              obtain ⟨yi, hyi⟩ : ∃ yi, yi = y.1.i := ⟨_, rfl⟩
              obtain ⟨yl, hyl⟩ : ∃ yl, yl = y.1.b.length := ⟨_, rfl⟩
              obtain ⟨ya, hya⟩ : ∃ ya, ya = y.2.1 := ⟨_, rfl⟩
              obtain ⟨yc, hyc⟩ : ∃ yc, yc = y.2.2 := ⟨_, rfl⟩
              rw [← hye, ← hyi] at KC
              have x0' : wq.cell? ⟨q, t * 3, none⟩ = some (.int .i64 ye) := by rw [hye]; exact x0
              have x1' : wq.cell? ⟨q, t * 3 + 1, none⟩ = some (.int .i64 yi) := by rw [hyi]; exact x1
              have x2' : wq.cell? ⟨q, t * 3 + 2, none⟩ = some (.slice ya yl yc) := by rw [hyl, hya, hyc]; exact x2
              have g2 : (t : Int) < (N : Int) := by omega
              have g3 : (0 : Int) ≤ (t : Int) := Int.natCast_nonneg _
              have e1 : IntKind.i64.wrap ((t : Int) + 1) = ((t + 1 : Nat) : Int) := by rw [IntKind.wrap_i64]; omega
              have HJ : Hid (t < N) := hlt
              have z0 := cell_of_row _ _ 0 _ _ _ hbb
              have z1 := cell_of_row _ _ 1 _ _ _ hbb
              have z2 := cell_of_row _ _ 2 _ _ _ hbb
              have y0 := frozen_of_row _ _ 0 _ _ hbb
              have y1 := frozen_of_row _ _ 1 _ _ hbb
              have y2 := frozen_of_row _ _ 2 _ _ hbb
              have sd : ∀ (W : World) j x v, (W.drewN j).setCell x v = (W.setCell x v).drewN j := fun _ _ _ _ => rfl
              have hyk : y.1.k = (ye, yi) := by rw [hye, hyi]; rfl
              by_cases hc : fmt < cy
              · obtain ⟨q1, q2⟩ := fs1 hc
                have HE : Hid (∀ j, (cy : Int) = (fm s.L (t + 1) : Int) ∧ Below w.heap.size w ((((wq.setCell ⟨B, 0, none⟩ (.int .i64 ye)).setCell ⟨B, 1, none⟩ (.int .i64 yi)).setCell ⟨B, 2, none⟩ (.slice ya yl yc)).drewN j) ∧ IBox ((((wq.setCell ⟨B, 0, none⟩ (.int .i64 ye)).setCell ⟨B, 1, none⟩ (.int .i64 yi)).setCell ⟨B, 2, none⟩ (.slice ya yl yc)).drewN j) B (fk s.L (t + 1))) := fun j => by
                  rw [q1, q2, hyk]
                  exact ⟨rfl, below_drewN (below_three hbel hBw _ _ _) j, hbx.put ye yi ya yl yc⟩
                have g4 : (fmt : Int) < (cy : Int) := by omega
                clear hP n1 n2 n3 n4 n5 n6 hBw hbx hbb hy hy' hcell x0 x1 x2 fs1 fs2 hcy hfmt hye hyi hyl hya hyc hyk hc q1 q2 hbel ht hlt
                go_wp2_with fail
                go_quiet (first | (go_at_call 83; exact Calls.quiet_of_same (KC.out _)))
                go_wp2
                go_roundw
                case rel => exact ⟨t + 1, by first | rfl | (congr 1; omega), by have := HJ.out; omega, by rw [← (HE.out 0).1], (HE.out _).2.1, (HE.out _).2.2⟩
                case measure => have := HJ.out; simp [intOf]; omega
              · obtain ⟨q1, q2⟩ := fs2 hc
                have HE : Hid (∀ j, (fmt : Int) = (fm s.L (t + 1) : Int) ∧ Below w.heap.size w (wq.drewN j) ∧ IBox (wq.drewN j) B (fk s.L (t + 1))) := fun j => by
                  rw [q1, q2]
                  exact ⟨rfl, below_drewN hbel j, hbx⟩
                have g4 : ¬ (fmt : Int) < (cy : Int) := by omega
                clear hP n1 n2 n3 n4 n5 n6 hBw hbx hbb hy hy' hcell x0 x1 x2 fs1 fs2 hcy hfmt hye hyi hyl hya hyc hyk hc q1 q2 hbel ht hlt
                go_wp2_with fail
                go_quiet (first | (go_at_call 83; exact Calls.quiet_of_same (KC.out _)))
                go_wp2
                go_roundw
                case rel => exact ⟨t + 1, by first | rfl | (congr 1; omega), by have := HJ.out; omega, by rw [← (HE.out 0).1], (HE.out _).2.1, (HE.out _).2.2⟩
                case measure => have := HJ.out; simp [intOf]; omega
            · have htN : t = s.L.length := by omega
              have hne : s.L ≠ [] := fun e => by have h9 := HF.out; rw [e] at h9; simp at h9; omega
              obtain ⟨fe1, fe2⟩ := f_end hne
              rw [htN, fe1] at hbx hbb
              rw [htN, fe2]
              rw [← n2]
              obtain ⟨F, hF⟩ : ∃ F, F = full s.L := ⟨_, rfl⟩
              rw [← hF] at hbx hbb ⊢
              obtain ⟨LO, hLO⟩ : ∃ LO, LO = s.lost + 1 := ⟨_, rfl⟩
              have e1 : IntKind.i64.wrap ((s.lost : Int) + 1) = (LO : Int) := by rw [IntKind.wrap_i64]; omega
              have c2 := hP.at'.c2
              have f2 := hP.at'.fz 2
              obtain ⟨W2, hW2⟩ : ∃ W2, W2 = wq.setCell ⟨r, 2, none⟩ (.int .i64 (LO : Int)) := ⟨_, rfl⟩
              have hap2 : Apart (fun k => k = r) wq W2 := by rw [hW2]; exact (Apart.refl (fun k => k = r) wq).setCell (b := r) (.inl rfl) 2 _
              have hR2 : BRb W2 r (.slice va ss.length vcap) { s with lost := LO } ss := by
                have hP2 : BRb wq r (.slice va ss.length vcap) s ss := by rw [← n1]; exact hP
                refine ⟨by rw [hW2]; exact hP2.at'.put2 LO, hP2.row.apart hap2 fun j hj e => hP2.vr (e ▸ hj), hP2.its, hP2.seen.apart hap2 fun j hj => hj ▸ hP2.plain (.inl rfl), ⟨hP2.ok.lo, hP2.ok.hi, hP2.ok.len, hP2.ok.arg⟩⟩
              have hBr : B ≠ r := by have := HH.out.at'.lt; omega
              have hb2 : W2.heap[B]? = some (.cells #[.int .i64 F.1, .int .i64 F.2, .slice ba bn bc] 140 (0, 0)) := (hap2.block B (Array.getElem?_eq_some_iff.1 hbb).1 hBr).trans hbb
              have HAP : Hid (Apart (fun k => k = r) w W2) := (Apart.of_below (F := fun k => k = r) hbel).trans hap2 fun i hi => .inl hi
              have hmax := (full_max (L := s.L) (k1, k2) hne).1
              have hany := full_any hne
              rw [← hF] at hmax hany
              obtain ⟨hso1, hso2⟩ := split_one (isK F) s.L hany
              have hll := lastI_lt (isK F) s.L hne
              have KC : Hid (Calls Tryz.prog 83 #[.pointer (some ⟨r, 0, none⟩), .int .i64 k1, .int .i64 k2] W2 fun e w' => e = .returned (.int .i64 (cnt s.L (k1, k2) : Int)) ∧ w' = W2) := rcount_ok W2 r _ { s with lost := LO } ss hR2 (k1, k2)
              have HW2 : Hid (W2 = wq.setCell ⟨r, 2, none⟩ (.int .i64 (LO : Int))) := hW2
              have HF2 : Hid (F = full s.L ∧ LO = s.lost + 1 ∧ N = s.L.length ∧ N = ss.length ∧ (split (isK F) 1 s.L).2 = s.L.eraseIdx (lastI (isK F) s.L) ∧ lastI (isK F) s.L < s.L.length) := ⟨hF, hLO, n2, n1, hso2, hll⟩
              have HR2 : Hid (BRb W2 r (.slice va ss.length vcap) { s with lost := LO } ss ∧ W2.heap[B]? = some (.cells #[.int .i64 F.1, .int .i64 F.2, .slice ba bn bc] 140 (0, 0))) := ⟨hR2, hb2⟩
              obtain ⟨co, hco⟩ : ∃ co, co = cnt s.L (k1, k2) := ⟨_, rfl⟩
              obtain ⟨cf, hcf⟩ : ∃ cf, cf = cnt s.L F := ⟨_, rfl⟩
              rw [← hco] at KC hmax
              rw [← hcf] at hmax ⊢
              have HCC : Hid (co = cnt s.L (k1, k2) ∧ cf = cnt s.L F) := ⟨hco, hcf⟩
              obtain ⟨lo, hlo⟩ : ∃ lo, lo = s.lost := ⟨_, rfl⟩
              rw [← hlo] at e1 c2
              have g2 : ¬ ((N : Int) < (N : Int)) := by omega
              clear hP n1 n2 n3 n4 n5 n6 hBw hbx hbb hlt ht hbel htN fe1 fe2 hF hLO hW2 hap2 hR2 hBr hb2 hany hso1 hso2 hll hco hcf hlo hne
              by_cases hcc : co = cf
              · have g3 : (cf : Int) ≤ (co : Int) := by omega
                have HE : Hid ((9 : Int) = bputE s k1 k2 x ∧ RLeft w r (.slice va ss.length vcap) (putV s k1 k2 x) W2) := by
                  have e0 : cnt s.L (k1, k2) = cnt s.L (full s.L) := by rw [← HF2.out.1, ← HCC.out.1, ← HCC.out.2]; exact hcc
                  refine ⟨by rw [HPE.out, if_pos ⟨HF.out, e0⟩], ?_⟩
                  rw [HPV.out, if_pos HF.out, if_pos e0, ← HF2.out.2.1]
                  exact ⟨_, ss, HR2.out.1, HAP.out, fun j hj => .inl hj⟩
                clear hcc hmax
                go_wp2_with fail
                rw [← HW2.out]
                refine KC.out.mono ?_
                rintro e w' ⟨rfl, rfl⟩
                go_wp2
                go_ret
                exact ⟨by rw [← HE.out.1]; rfl, HE.out.2⟩
              · have g3 : ¬ ((cf : Int) ≤ (co : Int)) := by omega
                have HNF : Hid (¬ (s.L.length = s.most ∧ cnt s.L (k1, k2) = cnt s.L (full s.L))) := fun h => hcc (by rw [HCC.out.1, HCC.out.2, HF2.out.1]; exact h.2)
                clear hcc hmax
                go_wp2_with fail
                rw [← HW2.out]
                refine KC.out.mono ?_
                rintro e w' ⟨rfl, rfl⟩
                clear HW2 KC c1 c2 f2 e1
                go_wp2
                rename World => W3
                have HR3 : Hid (∀ V, Below W3.heap.size W3 V → BRb V r (.slice va N vcap) { s with lost := LO } ss ∧ V.heap[B]? = some (.cells #[.int .i64 F.1, .int .i64 F.2, .slice ba bn bc] 140 (0, 0))) := fun V hb => ⟨by rw [HF2.out.2.2.2.1]; exact HR2.out.1.below hb, (hb.block B (Array.getElem?_eq_some_iff.1 HR2.out.2).1).trans HR2.out.2⟩
                have d117 : Hid (decide (cf ≤ co) = false) := decide_eq_false (show ¬ cf ≤ co by omega)
                clear g2 g3
                simp only [d117.out]
                go_loopw [14, 15] (fun s14 s15 wy => ∃ t : Nat, s15 = .int .i64 (t : Int) ∧ t ≤ N ∧ s14 = .int .i64 (lastI (isK F) (s.L.take t) : Int) ∧ Below W3.heap.size W3 wy) (fun _ s15 _ => N - (intOf s15).toNat)
                case atStart => exact ⟨0, rfl, Nat.zero_le _, rfl, Below.refl _ _⟩
                case round =>
                  rename World => wy
                  obtain ⟨t, rfl, ht, rfl, hbel⟩ := hrel
                  obtain ⟨hR, hbb⟩ := HR3.out wy hbel
                  have c1 := hR.at'.c1
                  obtain ⟨m1, m2, m3, m4, m5, m6⟩ := HF2.out
                  by_cases hlt : t < N
                  · obtain ⟨y, hy⟩ : ∃ y, ss[t]? = some y := ⟨ss[t]'(by omega), by rw [List.getElem?_eq_getElem]⟩
                    have hy' : s.L[t]? = some y.1 := by rw [← HH.out.its, List.getElem?_map, hy]; rfl
                    obtain ⟨-, q, hq, hcell⟩ := hR.row.get hy
                    subst hq
                    have x0 := hcell 0 _ rfl
                    have x1 := hcell 1 _ rfl
                    rw [show E59.n = 3 from rfl] at x0 x1
                    rw [Nat.add_zero] at x0
                    have hsn : lastI (isK F) (s.L.take (t + 1)) = if isK F y.1 = true then t else lastI (isK F) (s.L.take t) := by
                      rw [take_snoc _ _ _ hy', lastI_snoc, List.length_take, Nat.min_eq_left (by omega)]
                    obtain ⟨ye, hye⟩ : ∃ ye, ye = y.1.e := ⟨_, rfl⟩
                    obtain ⟨yi, hyi⟩ : ∃ yi, yi = y.1.i := ⟨_, rfl⟩
                    have x0' : wy.cell? ⟨q, t * 3, none⟩ = some (.int .i64 ye) := by rw [hye]; exact x0
                    have x1' : wy.cell? ⟨q, t * 3 + 1, none⟩ = some (.int .i64 yi) := by rw [hyi]; exact x1
                    have z0 := cell_of_row _ _ 0 _ _ _ hbb
                    have z1 := cell_of_row _ _ 1 _ _ _ hbb
                    have g4 : (t : Int) < (N : Int) := by omega
                    have g5 : (0 : Int) ≤ (t : Int) := Int.natCast_nonneg _
                    have e1 : IntKind.i64.wrap ((t : Int) + 1) = ((t + 1 : Nat) : Int) := by rw [IntKind.wrap_i64]; omega
                    have HJ : Hid (t < N) := hlt
                    have HB3 : Hid (∀ j, Below W3.heap.size W3 (wy.drewN j)) := fun j => below_drewN hbel j
                    obtain ⟨la, hla⟩ : ∃ la, la = lastI (isK F) (s.L.take t) := ⟨_, rfl⟩
                    rw [← hla] at hsn ⊢
                    have hke : isK F y.1 = true ↔ ye = F.1 ∧ yi = F.2 := by rw [isK_iff, key_eq, hye, hyi]
                    obtain ⟨fa, fb⟩ := F
                    dsimp only at z0 z1 hke
                    have HY : Hid (ye = fa ∧ yi = fb → lastI (isK (fa, fb)) (s.L.take (t + 1)) = t) := fun h9 => by rw [hsn, if_pos (hke.2 h9)]
                    have HNY : Hid (¬ (ye = fa ∧ yi = fb) → lastI (isK (fa, fb)) (s.L.take (t + 1)) = la) := fun h9 => by rw [hsn, if_neg (fun e => h9 (hke.1 e))]
                    clear hR hbb m1 m2 m3 m4 m5 m6 hy hy' hcell x0 x1 hsn hye hyi hla hke ht hlt hbel
                    by_cases h1 : ye = fa
                    · subst h1
                      by_cases h2 : yi = fb
                      · subst h2
                        have HE : Hid (lastI (isK (ye, yi)) (s.L.take (t + 1)) = t) := HY.out ⟨rfl, rfl⟩
                        clear HY HNY
                        go_wp2_with fail
                        go_quiet (fail)
                        go_wp2
                        go_roundw
                        case rel => exact ⟨t + 1, by first | rfl | (congr 1; omega), by have := HJ.out; omega, by rw [HE.out], HB3.out _⟩
                        case measure => have := HJ.out; simp [intOf]; omega
                      · have HE : Hid (lastI (isK (ye, fb)) (s.L.take (t + 1)) = la) := HNY.out fun e => h2 e.2
                        clear HY HNY
                        go_wp2_with fail
                        go_quiet (fail)
                        go_wp2
                        go_roundw
                        case rel => exact ⟨t + 1, by first | rfl | (congr 1; omega), by have := HJ.out; omega, by rw [HE.out], HB3.out _⟩
                        case measure => have := HJ.out; simp [intOf]; omega
                    · have HE : Hid (lastI (isK (fa, fb)) (s.L.take (t + 1)) = la) := HNY.out fun e => h1 e.1
                      have d1 : decide (ye = fa) = false := decide_eq_false h1
                      clear HY HNY
                      go_wp2_with fail
                      go_quiet (fail)
                      go_wp2
                      go_roundw
                      case rel => exact ⟨t + 1, by first | rfl | (congr 1; omega), by have := HJ.out; omega, by rw [HE.out], HB3.out _⟩
                      case measure => have := HJ.out; simp [intOf]; omega
                  · have htN : s.L.take t = s.L := List.take_of_length_le (by omega)
                    rw [htN]
                    obtain ⟨la, hla⟩ : ∃ la, la = lastI (isK F) s.L := ⟨_, rfl⟩
                    rw [← hla] at m5 m6 ⊢
                    have KW : Hid (Calls Tryz.prog 84 #[.pointer (some ⟨r, 0, none⟩), .int .i64 (la : Int)] wy fun e w' => e = .returned (.tuple #[]) ∧ RLeft w r (.slice va ss.length vcap) s1 w' ∧ ¬ (s.L.length = s.most ∧ cnt s.L (k1, k2) = cnt s.L (full s.L))) := by
                      refine (without_ok wy r _ { s with lost := LO } ss hR la m6).mono ?_
                      rintro e w' ⟨rfl, v9, ss9, q1, q2, q3⟩
                      refine ⟨rfl, ⟨v9, ss9, ?_, ?_, fun j hj => ?_⟩, HNF.out⟩
                      · rw [HS1.out, if_pos HF.out, ← m1, m5, ← m2]; exact q1
                      · exact (HAP.out.trans (Apart.of_below (F := fun _ => False) hbel) (fun _ h => h.elim)).trans q2 fun i hi => .inl hi
                      · rcases q3 j hj with q | q
                        · exact .inl (by rw [← m4]; exact q)
                        · exact .inr (Nat.le_trans HAP.out.size (Nat.le_trans hbel.size q))
                    have g4 : ¬ (t : Int) < (N : Int) := by omega
                    clear hR hbb m1 m2 m3 m4 m5 m6 htN hla ht hlt hbel
                    go_wp2_with fail
                    refine KW.out.mono ?_
                    rintro e w9 ⟨rfl, hE, hE2⟩
                    have HE : Hid (RLeft w r (.slice va ss.length vcap) s1 w9 ∧ ¬ (s.L.length = s.most ∧ cnt s.L (k1, k2) = cnt s.L (full s.L))) := ⟨hE, hE2⟩
                    clear hE hE2 KW
                    go_wp2_with fail
                    go_meet
                    case rel => exact HE.out
        · have g1 : ¬ ((mo : Int) ≤ (N : Int)) := by omega
          have HE : Hid (RLeft w r (.slice va ss.length vcap) s1 D ∧ ¬ (s.L.length = s.most ∧ cnt s.L (k1, k2) = cnt s.L (full s.L))) := by
            rw [show s1 = s from by rw [HS1.out, if_neg hfull]]
            exact ⟨RLeft.refl HH.out HBD.out, fun e => hfull e.1⟩
          clear hPD h1 h2 h3 h4 h5 h6 hfull
          go_wp2_with fail
          go_meet
          case rel => exact HE.out
      case rest =>
        obtain ⟨⟨v', ss', hP, hAp, hvn⟩, hne⟩ := hcut
        obtain ⟨a, cap, rfl, -⟩ := hP.row.shape
        have e2 : putV s k1 k2 x = { s1 with L := s1.L ++ [⟨k1, k2, x⟩] } := by
          rw [HPV.out, HS1.out]
          by_cases hf : s.L.length = s.most
          · rw [if_pos hf, if_pos hf, if_neg fun e => hne ⟨hf, e⟩]
          · rw [if_neg hf, if_neg hf]
        have hok := HOK.out
        rw [e2] at hok
        have hxs := HX.out.1.apart hAp fun j hj => hj ▸ HH.out.plain (.inl rfl)
        obtain ⟨a2, c2', w2, d, cd, w3, a3, c3, w5, r1, r2, r3, r4, r5, r6, r7⟩ := rput_tail (v0 := .slice va ss.length vcap) hP hAp hxs HX.out.2.1 hok
        rw [← HXL.out] at r3 r4
        obtain ⟨l, hl⟩ : ∃ l, l = ss'.length := ⟨_, rfl⟩
        rw [← hl] at r1 r2 r4 r5 r7
        have c1c := hP.at'.c1
        rw [← hl] at c1c
        have HR1 : Hid ((Builtin.append_ #[51, 51] 51 #[.slice (some ⟨wc.heap.size, 0, none⟩) 0 0, .slice a l cap]).run Tryz.prog (wc.alloc (.cells #[] 140)) = .ok (.slice a2 l c2') w2) := r1
        have HR2 : Hid ((Builtin.append_ #[24, 24] 24 #[.slice (some ⟨w2.heap.size, 0, none⟩) 0 0, .slice xa xl xc]).run Tryz.prog (w2.alloc (.cells #[] 5)) = .ok (.slice d xl cd) w3) := r3
        have HR3 : Hid ((Builtin.append_ #[51, 51] 51 #[.slice a2 l c2', .slice (some ⟨w3.heap.size, 0, none⟩) 1 1]).run Tryz.prog (w3.alloc (.cells #[.int .i64 k1, .int .i64 k2, .slice d xl cd] 140)) = .ok (.slice a3 (l + 1) c3) w5) := r4
        have HE : Hid ((0 : Int) = bputE s k1 k2 x ∧ RLeft w r (.slice va ss.length vcap) (putV s k1 k2 x) (w5.setCell ⟨r, 1, none⟩ (.slice a3 (l + 1) c3))) := ⟨by rw [HPE.out, if_neg hne], by rw [e2]; exact r7⟩
        clear hP hAp hvn hne e2 hok hxs r1 r3 r4 r7 hl c0 c1 HS1 HPE HPV HOK HB HP HH HX
        go_wp2_with (at_builtin; first | refine wpList_append_run rfl (.tmp 156) (.tmp 160) 51 rfl _ _ _ rfl rfl HR1.out ?_ | refine wpList_append_run rfl (.tmp 164) (.tmp 165) 24 rfl _ _ _ rfl rfl HR2.out ?_ | refine wpList_append_run rfl (.tmp 161) (.tmp 168) 51 rfl _ _ _ rfl rfl HR3.out ?_)
        go_ret
        exact ⟨by rw [← HE.out.1]; rfl, HE.out.2⟩
end Go.Proofs.YtmffplhaclnehaaGreatDoor

namespace Go.Proofs.YtmffplhaclnehaaGreatDoor
open Go.ChangeShapes Go.WideShapes Go.ChangeAt Go.RowKit
set_option maxRecDepth 20000

theorem brput_any (w : World) (r : Nat) (v : Value) (s : Bs) (ss : List BSl) (h : BRb w r v s ss) (hlost : s.lost ≤ 1000000) (k1 k2 : Int) (xa : Option Addr) (xc : Nat) (x : List UInt8) (hx : Sees w xa xc x) :
    Calls Tryz.prog 42 #[.pointer (some ⟨r, 0, none⟩), .int .i64 k1, .int .i64 k2, .slice xa x.length xc] w fun e w' => e = .returned (.int .i64 (bputE s k1 k2 x)) ∧ RLeft w r v (putV s k1 k2 x) w' := by
  cases ha : argB k1 k2 x
  · refine (rput_refused w r k1 k2 xa xc x ha).mono ?_
    rintro e w' ⟨rfl, rfl⟩
    rw [show bputE s k1 k2 x = 1 by simp [bputE, ha], show putV s k1 k2 x = s by simp [putV, ha]]
    exact ⟨rfl, RLeft.refl h (Below.refl _ _)⟩
  · exact rput_goes w r v s ss h hlost k1 k2 xa xc x hx ha

/-- A box of a cell of the law's own. -/
def XBox (w : World) (B : Nat) (k : Key) : Prop := w.heap[B]? = some (.cells #[.int .i64 k.1, .int .i64 k.2] 193 (0, 0))
theorem XBox.lt {w : World} {B : Nat} {k : Key} (h : XBox w B k) : B < w.heap.size := (Array.getElem?_eq_some_iff.1 h).1
theorem XBox.c0 {w : World} {B : Nat} {k : Key} (h : XBox w B k) : w.cell? ⟨B, 0, none⟩ = some (.int .i64 k.1) := cell_of_row _ _ 0 _ _ _ h
theorem XBox.c1 {w : World} {B : Nat} {k : Key} (h : XBox w B k) : w.cell? ⟨B, 1, none⟩ = some (.int .i64 k.2) := cell_of_row _ _ 1 _ _ _ h
theorem XBox.below {w w' : World} {B : Nat} {k : Key} (h : XBox w B k) (hb : Below w.heap.size w w') : XBox w' B k := (hb.block B h.lt).trans h
theorem XBox.pb {w : World} {B : Nat} {k : Key} (h : XBox w B k) {g m : Nat} {v : Value} {s : Bs} {ss : List BSl} {n : Nat} (hp : Pb w g m v s ss n) : ¬ Own g m v B := by
  unfold XBox at h
  rintro (rfl | rfl | hO)
  · have h2 := hp.at'
    unfold PA at h2
    rw [h2] at h; simp at h
  · obtain ⟨es, cl, h2⟩ := hp.map.isMap
    rw [h2] at h; cases h
  · obtain ⟨cur, h2, _⟩ := hp.row.isRow hO
    rw [h2] at h; cases h
theorem XBox.rb {w : World} {B : Nat} {k : Key} (h : XBox w B k) {r : Nat} {v : Value} {s : Bs} {ss : List BSl} (hp : BRb w r v s ss) : ¬ ROwn r v B := by
  unfold XBox at h
  rintro (rfl | hO)
  · have h2 := hp.at'
    unfold RA at h2
    rw [h2] at h; simp at h
  · obtain ⟨cur, h2, _⟩ := hp.row.isRow hO
    rw [h2] at h; cases h

/-- Both buffers, new since w and apart from each other, and the box; all that was in w stays. -/
def Duo (w W : World) (g r : Nat) (s t : Bs) (n : Nat) (B : Nat) (k : Key) : Prop :=
  ∃ m v ss u tt, Pb W g m v s ss n ∧ BRb W r u t tt ∧ (∀ j, Own g m v j → ¬ ROwn r u j) ∧ (∀ j, Own g m v j → w.heap.size ≤ j) ∧ (∀ j, ROwn r u j → w.heap.size ≤ j) ∧ Below w.heap.size w W ∧ XBox W B k
theorem Duo.low {w W : World} {g r : Nat} {s t : Bs} {n B : Nat} {k : Key} (h : Duo w W g r s t n B k) : Below w.heap.size w W := by
  obtain ⟨_, _, _, _, _, _, _, _, _, _, h, _⟩ := h; exact h
theorem Duo.box {w W : World} {g r : Nat} {s t : Bs} {n B : Nat} {k : Key} (h : Duo w W g r s t n B k) : XBox W B k := by
  obtain ⟨_, _, _, _, _, _, _, _, _, _, _, h⟩ := h; exact h
theorem Duo.below {w W W' : World} {g r : Nat} {s t : Bs} {n B : Nat} {k : Key} (h : Duo w W g r s t n B k) (hb : Below W.heap.size W W') : Duo w W' g r s t n B k := by
  obtain ⟨m, v, ss, u, tt, h1, h2, h3, h4, h5, h6, h7⟩ := h
  exact ⟨m, v, ss, u, tt, h1.below hb, h2.below hb, h3, h4, h5, h6.trans (hb.mono h6.size), h7.below hb⟩
/-- Both buffers without a box. -/
def Duo0 (w W : World) (g r : Nat) (s t : Bs) (n : Nat) : Prop :=
  ∃ m v ss u tt, Pb W g m v s ss n ∧ BRb W r u t tt ∧ (∀ j, Own g m v j → ¬ ROwn r u j) ∧ (∀ j, Own g m v j → w.heap.size ≤ j) ∧ (∀ j, ROwn r u j → w.heap.size ≤ j) ∧ Below w.heap.size w W
theorem Duo.base {w W : World} {g r : Nat} {s t : Bs} {n B : Nat} {k : Key} (h : Duo w W g r s t n B k) : Duo0 w W g r s t n := by
  obtain ⟨m, v, ss, u, tt, h1, h2, h3, h4, h5, h6, _⟩ := h
  exact ⟨m, v, ss, u, tt, h1, h2, h3, h4, h5, h6⟩
theorem Duo0.low {w W : World} {g r : Nat} {s t : Bs} {n : Nat} (h : Duo0 w W g r s t n) : Below w.heap.size w W := by
  obtain ⟨_, _, _, _, _, _, _, _, _, _, h⟩ := h; exact h
theorem Duo0.drewN {w W : World} {g r : Nat} {s t : Bs} {n : Nat} (h : Duo0 w W g r s t n) (i : Nat) : Duo0 w (W.drewN i) g r s t n := by
  obtain ⟨m, v, ss, u, tt, h1, h2, h3, h4, h5, h6⟩ := h
  have hb : Below W.heap.size W (W.drewN i) := below_drewN (Below.refl _ _) i
  exact ⟨m, v, ss, u, tt, h1.below hb, h2.below hb, h3, h4, h5, below_drewN h6 i⟩
theorem Duo0.with {w W W' : World} {g r : Nat} {s t : Bs} {n C : Nat} {j : Key} (h : Duo0 w W g r s t n) (hb : Below W.heap.size W W') (hx : XBox W' C j) : Duo w W' g r s t n C j := by
  obtain ⟨m, v, ss, u, tt, h1, h2, h3, h4, h5, h6⟩ := h
  exact ⟨m, v, ss, u, tt, h1.below hb, h2.below hb, h3, h4, h5, h6.trans (hb.mono h6.size), hx⟩
theorem Born.duo {w W W' : World} {g : Nat} {s : Bs} (h : Born w g s W) (hb : Below W.heap.size W W') (hr : BRb W' W.heap.size (.slice none 0 0) s []) : Duo0 w W' g W.heap.size s s 0 := by
  obtain ⟨m, v, ss, h1, h2, h3⟩ := h
  refine ⟨m, v, ss, _, [], h1.below hb, hr, fun j hj hj2 => ?_, h3, fun j hj => ?_, h2.trans (hb.mono h2.size)⟩
  · have := h1.lt hj
    rcases hj2 with rfl | hj2
    · omega
    · cases hj2
  · rcases hj with rfl | hj
    · exact h2.size
    · cases hj
/-- Another box. -/
theorem Duo.rebox {w W W' : World} {g r : Nat} {s t : Bs} {n B C : Nat} {k j : Key} (h : Duo w W g r s t n B k) (hb : Below W.heap.size W W') (hx : XBox W' C j) : Duo w W' g r s t n C j := by
  obtain ⟨m, v, ss, u, tt, h1, h2, h3, h4, h5, h6, h7⟩ := h.below hb
  exact ⟨m, v, ss, u, tt, h1, h2, h3, h4, h5, h6, hx⟩
theorem Duo.mono {w W : World} {g r : Nat} {s t : Bs} {n n' B : Nat} {k : Key} (h : Duo w W g r s t n B k) (hn : n ≤ n') : Duo w W g r s t n' B k := by
  obtain ⟨m, v, ss, u, tt, h1, h2⟩ := h
  exact ⟨m, v, ss, u, tt, h1.mono hn, h2⟩
/-- An act of the program's. -/
theorem duo_act {w W W' : World} {g r m : Nat} {v u : Value} {s s' t : Bs} {ss tt : List BSl} {n n' B : Nat} {k : Key} (h1 : Pb W g m v s ss n) (h2 : BRb W r u t tt) (h3 : ∀ j, Own g m v j → ¬ ROwn r u j) (h4 : ∀ j, Own g m v j → w.heap.size ≤ j) (h5 : ∀ j, ROwn r u j → w.heap.size ≤ j) (h6 : Below w.heap.size w W) (h7 : XBox W B k)
    (hp : PLeft W g m v s' n' W') : Duo w W' g r s' t n' B k := by
  obtain ⟨v', ss', hg, ha, hs⟩ := hp
  have hO : ∀ j, Own g m v' j → Own g m v j ∨ W.heap.size ≤ j := fun j hj => by
    rcases hj with rfl | rfl | hj
    · exact .inl (.inl rfl)
    · exact .inl (.inr (.inl rfl))
    · rcases hs j hj with h | h
      · exact .inl (.inr (.inr h))
      · exact .inr h
  refine ⟨m, v', ss', u, tt, hg, h2.apart ha h3 (fun j hj => h1.plain hj), fun j hj hr => ?_, fun j hj => ?_, h5, ha.below h6 h4 h6.size, (ha.block B h7.lt (h7.pb h1)).trans h7⟩
  · rcases hO j hj with h | h
    · exact h3 j h hr
    · have := h2.lt hr; omega
  · rcases hO j hj with h | h
    · exact h4 j h
    · exact Nat.le_trans h6.size h
/-- An act of the document's. -/
theorem duo_ract {w W W' : World} {g r m : Nat} {v u : Value} {s t t' : Bs} {ss tt : List BSl} {n B : Nat} {k : Key} (h1 : Pb W g m v s ss n) (h2 : BRb W r u t tt) (h3 : ∀ j, Own g m v j → ¬ ROwn r u j) (h4 : ∀ j, Own g m v j → w.heap.size ≤ j) (h5 : ∀ j, ROwn r u j → w.heap.size ≤ j) (h6 : Below w.heap.size w W) (h7 : XBox W B k)
    (hp : RLeft W r u t' W') : Duo w W' g r s t' n B k := by
  obtain ⟨u', tt', hg, ha, hs⟩ := hp
  have hO : ∀ j, ROwn r u' j → ROwn r u j ∨ W.heap.size ≤ j := fun j hj => by
    rcases hj with rfl | hj
    · exact .inl (.inl rfl)
    · rcases hs j hj with h | h
      · exact .inl (.inr h)
      · exact .inr h
  have hr0 : ∀ j, j = r → ROwn r u j := fun j e => .inl e
  refine ⟨m, v, ss, u', tt', h1.apart ha (fun j hj ho => h3 j ho (hr0 j hj)) (fun j hj => h2.plain (hr0 j hj)), hg, fun j hj hr => ?_, h4, fun j hj => ?_, ha.below h6 (fun j hj => h5 j (hr0 j hj)) h6.size, (ha.block B h7.lt (fun e => h7.rb h2 (hr0 B e))).trans h7⟩
  · rcases hO j hr with h | h
    · exact h3 j hj h
    · have := h1.lt hj; omega
  · rcases hO j hj with h | h
    · exact h5 j h
    · exact Nat.le_trans h6.size h
theorem Duo.put {w W : World} {g r : Nat} {s t : Bs} {n B : Nat} {k : Key} (h : Duo w W g r s t n B k) (hn : n ≤ 80000000) (hl : s.lost ≤ 1000000) (k1 k2 : Int) (xa : Option Addr) (xc : Nat) (x : List UInt8) (hx : Sees w xa xc x) :
    Calls Tryz.prog 76 #[.pointer (some ⟨g, 0, none⟩), .int .i64 k1, .int .i64 k2, .slice xa x.length xc] W fun e w' => e = .returned (.int .i64 (bputE s k1 k2 x)) ∧ Duo w w' g r (putV s k1 k2 x) t (n + 65) B k := by
  obtain ⟨m, v, ss, u, tt, h1, h2, h3, h4, h5, h6, h7⟩ := h
  exact (bput_any W g m v s ss n h1 hn hl k1 k2 xa xc x (hx.below h6)).mono fun _ _ ⟨he, hp⟩ => ⟨he, duo_act h1 h2 h3 h4 h5 h6 h7 hp⟩
theorem Duo.rput {w W : World} {g r : Nat} {s t : Bs} {n B : Nat} {k : Key} (h : Duo w W g r s t n B k) (hl : t.lost ≤ 1000000) (k1 k2 : Int) (xa : Option Addr) (xc : Nat) (x : List UInt8) (hx : Sees w xa xc x) :
    Calls Tryz.prog 42 #[.pointer (some ⟨r, 0, none⟩), .int .i64 k1, .int .i64 k2, .slice xa x.length xc] W fun e w' => e = .returned (.int .i64 (bputE t k1 k2 x)) ∧ Duo w w' g r s (putV t k1 k2 x) n B k := by
  obtain ⟨m, v, ss, u, tt, h1, h2, h3, h4, h5, h6, h7⟩ := h
  exact (brput_any W r u t tt h2 hl k1 k2 xa xc x (hx.below h6)).mono fun _ _ ⟨he, hp⟩ => ⟨he, duo_ract h1 h2 h3 h4 h5 h6 h7 hp⟩
theorem Duo.drop {w W : World} {g r : Nat} {s t : Bs} {n B : Nat} {k : Key} (h : Duo w W g r s t n B k) (hn : n ≤ 80000000) (j : Key) :
    Calls Tryz.prog 122 #[.pointer (some ⟨g, 0, none⟩), .int .i64 j.1, .int .i64 j.2] W fun e w' => e = .returned (.int .i64 (dropN s j : Int)) ∧ Duo w w' g r (dropV s j) t (n + 65) B k := by
  obtain ⟨m, v, ss, u, tt, h1, h2, h3, h4, h5, h6, h7⟩ := h
  exact (drop_ok W g m v s ss n h1 (by omega) j).mono fun _ _ ⟨he, hp⟩ => ⟨he, (duo_act h1 h2 h3 h4 h5 h6 h7 hp).mono (by omega)⟩
theorem Duo.rdrop {w W : World} {g r : Nat} {s t : Bs} {n B : Nat} {k : Key} (h : Duo w W g r s t n B k) (j : Key) :
    Calls Tryz.prog 36 #[.pointer (some ⟨r, 0, none⟩), .int .i64 j.1, .int .i64 j.2] W fun e w' => e = .returned (.int .i64 (dropN t j : Int)) ∧ Duo w w' g r s (dropV t j) n B k := by
  obtain ⟨m, v, ss, u, tt, h1, h2, h3, h4, h5, h6, h7⟩ := h
  exact (rdrop_ok W r u t tt h2 j).mono fun _ _ ⟨he, hp⟩ => ⟨he, duo_ract h1 h2 h3 h4 h5 h6 h7 hp⟩
/-- Both Takes. -/
theorem Duo.take {w W : World} {g r : Nat} {s t : Bs} {n B : Nat} {k : Key} (h : Duo w W g r s t n B k) (hn : n ≤ 80000000) (j : Key) (hj : wfK j) :
    Calls Tryz.prog 179 #[.pointer (some ⟨g, 0, none⟩), .int .i64 j.1, .int .i64 j.2] W fun e w' => ∃ va vn vc, e = .returned (.slice va vn vc) ∧ Duo w w' g r (takeV s j) t (n + 65) B k ∧ Calls Tryz.prog 87 #[.pointer (some ⟨r, 0, none⟩), .int .i64 j.1, .int .i64 j.2] w' fun e w2 => ∃ ua un uc, e = .returned (.slice ua un uc) ∧ Duo w w2 g r (takeV s j) (takeV t j) (n + 65) B k ∧ Lst w2 (.slice va vn vc) (btakeL s j) ∧ Lst w2 (.slice ua un uc) (btakeL t j) := by
  obtain ⟨m, v, ss, u, tt, h1, h2, h3, h4, h5, h6, h7⟩ := h
  refine (take_ok W g m v s ss n h1 (by omega) j hj).mono ?_
  rintro e w' ⟨vo, rfl, hp, ho⟩
  have hD := (duo_act h1 h2 h3 h4 h5 h6 h7 hp).mono (show n + 64 ≤ n + 65 by omega)
  have hr := h2.at'.lt
  obtain ⟨os, o1, o2, o3, o4⟩ := ho
  obtain ⟨va, vc, rfl, -⟩ := o1.shape
  refine ⟨va, _, vc, rfl, hD, ?_⟩
  obtain ⟨m', v', ss', u', tt', q1, q2, q3, q4, q5, q6, q7⟩ := hD
  refine (brtake_ok w' r u' t tt' q2 j).mono ?_
  rintro e w2 ⟨vo2, rfl, hp2, ho2⟩
  have hD2 := duo_ract q1 q2 q3 q4 q5 q6 q7 hp2
  obtain ⟨_, _, _, ha2, _⟩ := hp2
  have hl2 := ho2.lst
  obtain ⟨ua, uc, rfl, -, -⟩ := hl2.shape
  exact ⟨ua, _, uc, rfl, hD2, ⟨os, o1.apart ha2 fun i hi e => by have := o4 i hi; omega, o2.apart ha2 fun i hi => q2.plain (.inl hi), o3⟩, hl2⟩
end Go.Proofs.YtmffplhaclnehaaGreatDoor
