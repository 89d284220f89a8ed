/-
  The document's Put: which cell is the fullest; its last steps.
-/
import Derived.Test.YteehkekmaikeiaaRefD
import Derived.Test.YteehkekmaikeiaaOrdM
namespace Go.Proofs.Yteehkekmaikeiaa
open Go.ChangeShapes Go.WideShapes Go.ChangeAt Go.RowKit

def fst0 (L : List It) : Key := match L with
  | [] => (0, 0)
  | x :: _ => x.k
/-- What the document has found behind t of them. -/
def fk (L : List It) (t : Nat) : Key := if t = 0 then (0, 0) else fullF L (fst0 L) (L.take t)
def fm (L : List It) (t : Nat) : Nat := if t = 0 then 0 else cnt L (fullF L (fst0 L) (L.take t))
theorem f_step {L : List It} {t : Nat} {y : It} (hy : L[t]? = some y) : (fm L t < cnt L y.k → fk L (t + 1) = y.k ∧ fm L (t + 1) = cnt L y.k) ∧ (¬ fm L t < cnt L y.k → fk L (t + 1) = fk L t ∧ fm L (t + 1) = fm L t) := by
  have hsn := take_snoc L t y hy
  have h1 : fk L (t + 1) = fullF L (fst0 L) (L.take (t + 1)) := by rw [fk, if_neg (by omega)]
  have h2 : fm L (t + 1) = cnt L (fullF L (fst0 L) (L.take (t + 1))) := by rw [fm, if_neg (by omega)]
  by_cases ht : t = 0
  · subst ht
    have e : fst0 L = y.k := by
      cases L with
      | nil => simp at hy
      | cons z r => simp at hy; rw [← hy]; rfl
    have e2 : fullF L (fst0 L) (L.take (0 + 1)) = y.k := by
      rw [hsn, fullF_snoc, List.take_zero, fullF_nil, e, if_neg (by omega)]
    have hp := cnt_pos (List.mem_of_getElem? hy)
    have e0 : fm L 0 = 0 := rfl
    refine ⟨fun _ => ⟨by rw [h1, e2], by rw [h2, e2]⟩, fun h => absurd (show fm L 0 < cnt L y.k by omega) h⟩
  · have h3 : fk L t = fullF L (fst0 L) (L.take t) := by rw [fk, if_neg ht]
    have h4 : fm L t = cnt L (fullF L (fst0 L) (L.take t)) := by rw [fm, if_neg ht]
    rw [h1, h2, h3, h4, hsn, fullF_snoc]
    constructor
    · intro h; rw [if_pos h]; exact ⟨rfl, rfl⟩
    · intro h; rw [if_neg h]; exact ⟨rfl, rfl⟩
theorem f_end {L : List It} (hne : L ≠ []) : fk L L.length = full L ∧ fm L L.length = cnt L (full L) := by
  have hl : L.length ≠ 0 := fun e => hne (List.length_eq_zero_iff.1 e)
  have e : fullF L (fst0 L) (L.take L.length) = full L := by
    rw [List.take_of_length_le (Nat.le_refl _)]
    cases L with
    | nil => exact absurd rfl hne
    | cons z r => rfl
  rw [fk, fm, if_neg hl, if_neg hl, e]
  exact ⟨rfl, rfl⟩

/-- The three appends and the store. -/
theorem rput_tail {w : World} {r : Nat} {v0 : Value} {s1 : Bs} {W : World} {a : Option Addr} {l cap : Nat} {ss : List Sl} (hP : Rb W r (.slice a l cap) s1 ss) (hA : Apart (fun k => k = r) w W) {k1 k2 : Int} {xa : Option Addr} {xc : Nat} {x : List UInt8} (hx : Sees W xa xc x) (hxl : x.length ≤ 96) (hok : Bs.ok { s1 with L := s1.L ++ [⟨k1, k2, x⟩] }) :
    ∃ a2 c2 w2 d cd w3 a3 c3 w5, (Builtin.append_ #[40, 40] 40 #[.slice (some ⟨W.heap.size, 0, none⟩) 0 0, .slice a l cap]).run Try.prog (W.alloc (.cells #[] 59)) = .ok (.slice a2 l c2) w2 ∧ (W.alloc (.cells #[] 59)).cell? ⟨r, 1, none⟩ = some (.slice a l cap) ∧
      (Builtin.append_ #[22, 22] 22 #[.slice (some ⟨w2.heap.size, 0, none⟩) 0 0, .slice xa x.length xc]).run Try.prog (w2.alloc (.cells #[] 5)) = .ok (.slice d x.length cd) w3 ∧
      (Builtin.append_ #[40, 40] 40 #[.slice a2 l c2, .slice (some ⟨w3.heap.size, 0, none⟩) 1 1]).run Try.prog (w3.alloc (.cells #[.int .i64 k1, .int .i64 k2, .slice d x.length cd] 59)) = .ok (.slice a3 (l + 1) c3) w5 ∧
      w5.cell? ⟨r, 1, none⟩ = some (.slice a l cap) ∧ w5.frozen? ⟨r, 1, none⟩ = false ∧ RLeft w r v0 { s1 with L := s1.L ++ [⟨k1, k2, x⟩] } (w5.setCell ⟨r, 1, none⟩ (.slice a3 (l + 1) c3)) := by
  obtain ⟨hlen, h64⟩ := hP.len
  have hl : l = ss.length := by obtain ⟨_, _, e, _⟩ := hP.row.shape; cases e; rfl
  subst hl
  obtain ⟨W0, hW0⟩ : ∃ W0, W0 = W.alloc (.cells #[] 59) := ⟨_, rfl⟩
  have hb0 : Below W.heap.size W W0 := by rw [hW0]; exact (Below.refl _ _).alloc (Nat.le_refl _) _
  have h0 := hP.below hb0
  have hE0 : Row E59 W0 (.slice (some ⟨W.heap.size, 0, none⟩) 0 0) [] := by rw [hW0]; exact Row.empty E59 W
  obtain ⟨v2, w2, hrun1, hrow1, hap1, hnew1⟩ := hE0.append ss (by simp; omega) a cap (fun hne => by
    obtain ⟨y, hy⟩ : ∃ y, ss[0]? = some y := ⟨ss[0]'(List.length_pos_iff.2 hne), by rw [List.getElem?_eq_getElem]⟩
    obtain ⟨-, q, rfl, -⟩ := h0.row.get hy
    exact ⟨q, 0, rfl, fun t u hu => by rw [Nat.zero_add]; exact h0.row.cellsAt t u hu⟩)
  rw [List.nil_append] at hrow1
  have hb2 : Below W.heap.size W w2 := hap1.below hb0 (fun k hk => by cases hk; exact Nat.le_refl _) hb0.size
  have hown1 : ∀ k, v2.ownBlock = some k → W.heap.size ≤ k := fun k hk => by
    rcases hnew1 k hk with e | e
    · cases e; exact Nat.le_refl _
    · exact Nat.le_trans hb0.size e
  obtain ⟨a2, c2, rfl, -⟩ := hrow1.shape
  -- the bytes
  have hbE : Below w2.heap.size w2 (w2.alloc (.cells #[] 5)) := (Below.refl _ _).alloc (Nat.le_refl _) _
  obtain ⟨v3, w3, hrun2, ho, hbl⟩ := append_own_any (w2.alloc (.cells #[] 5)) w2.heap.size _ [] (own_empty w2) xa xc x ((hx.below hb2).below hbE) (by simp; omega) (by simp)
  obtain ⟨d, cd, rfl, hs3⟩ := Sees.of_own ho
  rw [List.nil_append] at hs3 hrun2
  have hb23 : Below w2.heap.size w2 w3 := hbl _ _ hbE (Nat.le_refl _)
  have hb3 : Below W.heap.size W w3 := hb2.trans (hb23.mono hb2.size)
  -- the item
  obtain ⟨W4, hW4⟩ : ∃ W4, W4 = w3.alloc (.cells #[.int .i64 k1, .int .i64 k2, .slice d x.length cd] 59) := ⟨_, rfl⟩
  have hb34 : Below w3.heap.size w3 W4 := by rw [hW4]; exact (Below.refl _ _).alloc (Nat.le_refl _) _
  have r4 : W4.heap[w3.heap.size]? = some (.cells #[.int .i64 k1, .int .i64 k2, .slice d x.length cd] 59 (0, 0)) := by rw [hW4]; exact heap_alloc_new _ _
  have hb4 : Below W.heap.size W W4 := hb3.trans (hb34.mono hb3.size)
  have hrow4 := (hrow1.below hb23).below hb34
  obtain ⟨v5, w5, hrun3, hrow5, hap5, hnew5⟩ := hrow4.append [((⟨k1, k2, x⟩ : It), (d, cd))] (by simp; omega) (some ⟨w3.heap.size, 0, none⟩) 1 (fun _ => ⟨w3.heap.size, 0, rfl, fun t u hu => by
    rw [show E59.cs [((⟨k1, k2, x⟩ : It), (d, cd))] = [.int .i64 k1, .int .i64 k2, .slice d x.length cd] from rfl] at hu
    rw [cell_of_row _ _ (0 + t) _ _ _ r4, Nat.zero_add, ← Array.getElem?_toList]; exact hu⟩)
  have hb5 : Below W.heap.size W w5 := hap5.below hb4 hown1 hb4.size
  have h5 := hP.below hb5
  obtain ⟨a3, c3, rfl, -⟩ := hrow5.shape
  have el : (ss ++ [((⟨k1, k2, x⟩ : It), (d, cd))]).length = ss.length + 1 := by simp
  rw [el] at hrun3 hnew5 hrow5
  have hown5 : ∀ k, (Value.slice a3 (ss.length + 1) c3).ownBlock = some k → W.heap.size ≤ k := fun k hk => by
    rcases hnew5 k hk with e | e
    · exact hown1 k e
    · exact Nat.le_trans hb4.size e
  have hag : Apart (fun k => k = r) w5 (w5.setCell ⟨r, 1, none⟩ (.slice a3 (ss.length + 1) c3)) := (Apart.refl (fun k => k = r) w5).setCell (b := r) (.inl rfl) 1 _
  have hr := hP.at'.lt
  have hpl : ∀ k, k = r → Plain w5 k := fun k hk => hk ▸ h5.plain (.inl rfl)
  refine ⟨a2, c2, w2, d, cd, w3, a3, c3, w5, by rw [← hW0]; exact hrun1, by rw [← hW0]; exact h0.at'.c1, hrun2, by rw [← hW4]; exact hrun3, h5.at'.c1, h5.at'.fz 1, ?_⟩
  refine ⟨_, ss ++ [((⟨k1, k2, x⟩ : It), (d, cd))], ⟨h5.at'.put1 _, hrow5.apart hag fun k hk e => by have := hown5 k hk; omega, by rw [List.map_append, hP.its]; rfl, fun y hy => ?_, hok⟩, (hA.trans (Apart.of_below (F := fun k => k = r) hb5) fun i hi => .inl hi).trans hag fun i hi => .inl hi, fun k hk => .inr (Nat.le_trans hA.size (hown5 k hk))⟩
  rcases List.mem_append.1 hy with hy | hy
  · exact (h5.seen y hy).apart hag hpl
  · rw [List.mem_singleton] at hy
    subst hy
    exact ((hs3.below hb34).apart hap5 fun k hk => hrow4.plain hk).apart hag hpl
end Go.Proofs.Yteehkekmaikeiaa
