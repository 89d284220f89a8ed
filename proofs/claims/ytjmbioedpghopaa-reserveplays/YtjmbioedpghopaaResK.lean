/-
  A reserve, and beside it the numbers that were taken.
-/
import Derived.Test.YtjmbioedpghopaaResL
import Derived.Maps.AppendAt
namespace Go.Proofs.Ytjmbioedpghopaa
open Go.ChangeShapes Go.WideShapes Go.ChangeAt Go.RowKit

def numsOf (l : List Nat) : List Int := l.map fun x : Nat => (x : Int)
def cellsOf (l : List Nat) : List Value := l.map fun x : Nat => Value.int .i64 (x : Int)
theorem nums_len (l : List Nat) : (numsOf l).length = l.length := by simp [numsOf]

/-- A reserve, and a list of numbers in memory of its own. -/
def Kin (w0 w : World) (g R : Nat) (s : PS) (v : VS) (a : Option Addr) (c : Nat) (l : List Nat) : Prop :=
  ∃ F, Res g 0 w R (s, v) F ∧ (∀ k, F k → w0.heap.size ≤ k) ∧ Below w0.heap.size w0 w ∧ w.ownsRow w0.heap.size 3 1 (.slice a l.length c) l.length (cellsOf l) ∧ (∀ q, (Value.slice a l.length c).ownBlock = some q → ¬ F q) ∧ ∀ x ∈ l, x < 1048576

theorem Kin.lone {w0 w : World} {g R : Nat} {s : PS} {v : VS} {a : Option Addr} {c : Nat} {l : List Nat} (h : Kin w0 w g R s v a c l) : Lone w0 w g R s v := by
  obtain ⟨F, h1, h2, h3, _⟩ := h; exact ⟨F, h1, h2, h3⟩
theorem Kin.low {w0 w : World} {g R : Nat} {s : PS} {v : VS} {a : Option Addr} {c : Nat} {l : List Nat} (h : Kin w0 w g R s v a c l) : Below w0.heap.size w0 w := h.lone.low
theorem own_block {w w' : World} {B n : Nat} {val : Value} {xs : List Value} (h : w.ownsRow B 3 1 val n xs) (hb : ∀ k, val.ownBlock = some k → w'.heap[k]? = w.heap[k]?) : w'.ownsRow B 3 1 val n xs := by
  refine ⟨h.1, ?_⟩
  rcases h.2 with ⟨hv, h0⟩ | ⟨g, cap, cur, hv, hg, hh, h4, h5, h6, h7⟩
  · exact .inl ⟨hv, h0⟩
  · exact .inr ⟨g, cap, cur, hv, hg, by rw [hb g (by rw [hv]; rfl)]; exact hh, h4, h5, h6, h7⟩
theorem Kin.next {w0 w w' : World} {g R : Nat} {s : PS} {v : VS} {a : Option Addr} {c : Nat} {l : List Nat} (h : Kin w0 w g R s v a c l) (hb : Below w.heap.size w w') : Kin w0 w' g R s v a c l := by
  obtain ⟨F, h1, h2, h3, h4, h5, h6⟩ := h
  exact ⟨F, (res_kept g 0).below h1 hb, h2, h3.trans (hb.mono h3.size), own_block h4 (fun k hk => hb.block k (h4.lt k hk).2), h5, h6⟩
theorem Kin.drew {w0 w : World} {g R : Nat} {s : PS} {v : VS} {a : Option Addr} {c : Nat} {l : List Nat} (h : Kin w0 w g R s v a c l) : Kin w0 w.drew g R s v a c l := h.next (Below.refl _ _).drew
theorem Kin.left {w0 w w' : World} {g R' : Nat} {s' : PS} {v' : VS} {a : Option Addr} {c : Nat} {l : List Nat} {F : Nat → Prop} (h2 : ∀ k, F k → w0.heap.size ≤ k) (h3 : Below w0.heap.size w0 w) (h4 : w.ownsRow w0.heap.size 3 1 (.slice a l.length c) l.length (cellsOf l)) (h5 : ∀ q, (Value.slice a l.length c).ownBlock = some q → ¬ F q) (h6 : ∀ x ∈ l, x < 1048576) (hl : Left (Res g 0) w F R' (s', v') w') : Kin w0 w' g R' s' v' a c l := by
  have hsz := h3.size
  obtain ⟨F', k1, k2, k3⟩ := id hl
  refine ⟨F', k1, fun k hk => ?_, hl.below h3 h2 hsz, own_block h4 (fun k hk => k2.block k (h4.lt k hk).2 (h5 k hk)), fun q hq hF => ?_, h6⟩
  · rcases k3 k hk with h | h
    · exact h2 k h
    · omega
  · rcases k3 q hF with h | h
    · exact h5 q hq h
    · have := (h4.lt q hq).2; omega
theorem Kin.of {w0 w : World} {g R : Nat} {s : PS} {v : VS} (h : Lone w0 w g R s v) : Kin w0 w g R s v none 0 [] := by
  obtain ⟨F, h1, h2, h3⟩ := h
  exact ⟨F, h1, h2, h3, World.ownsRow_nil _ _ _ _, (fun q hq => by cases hq), by simp⟩
theorem Kin.nums {w0 w : World} {g R : Nat} {s : PS} {v : VS} {a : Option Addr} {c : Nat} {l : List Nat} (h : Kin w0 w g R s v a c l) : Nums .i64 w a c (numsOf l) := by
  obtain ⟨F, _, _, _, h4, _, h6⟩ := h
  have hwf : ∀ z ∈ numsOf l, (Lit.int .i64 z).wf = true := fun z hz => by
    simp only [numsOf, List.mem_map] at hz
    obtain ⟨x, hx, rfl⟩ := hz
    have := h6 x hx
    exact wf_small x (by omega)
  rcases h4.2 with ⟨hv, h0⟩ | ⟨q, cap, cur, hv, hg, hh, hnc, hcm, hcs, htake⟩
  · simp only [Value.slice.injEq] at hv
    obtain ⟨rfl, _, rfl⟩ := hv
    have : l = [] := List.eq_nil_of_length_eq_zero h0
    subst this
    exact ⟨by simp [numsOf], by unfold maxLen; omega, hwf, fun hne => absurd rfl hne⟩
  · have hv' := hv
    simp only [Value.slice.injEq] at hv
    obtain ⟨rfl, _, rfl⟩ := hv
    refine ⟨by rw [nums_len]; exact hnc, hcm, hwf, fun _ => ⟨q, 0, rfl, fun i z hz => ?_⟩⟩
    have h1 := h4.cells (g := q) rfl i (.int .i64 z) (by
      simp only [numsOf, List.getElem?_map, Option.map_eq_some_iff] at hz
      obtain ⟨x, hx, rfl⟩ := hz
      simp [cellsOf, hx])
    rw [Addr.add_lit] at h1
    exact h1
theorem intInfo : (Try.prog.info? 3).map (fun i => (i.zero, i.size, i.bytes)) = some (some (.int .i64 0), 1, 8) := by kernel_rfl
/-- One more is taken. -/
theorem Kin.push {w0 w : World} {g R : Nat} {s : PS} {v : VS} {a : Option Addr} {c : Nat} {l : List Nat} (h : Kin w0 w g R s v a c l) (hl : l.length ≤ 1000) (x : Nat) (hx : x < 1048576) :
    ∃ a' c' w', (Builtin.append_ #[23, 23] 23 #[.slice a l.length c, .slice (some ⟨w.heap.size, 0, none⟩) 1 1]).run Try.prog (w.alloc (.cells #[.int .i64 (x : Int)] 3)) = .ok (.slice a' (l ++ [x]).length c') w' ∧ Kin w0 w' g R s v a' c' (l ++ [x]) := by
  have hb : Below w.heap.size w (w.alloc (.cells #[.int .i64 (x : Int)] 3)) := (Below.refl _ _).alloc (Nat.le_refl _) _
  obtain ⟨F, h1, h2, h3, h4, h5, h6⟩ := h.next hb
  obtain ⟨i3, hi, hz0, hz1, hz2⟩ := info_parts intInfo
  have hw0 : w0.heap.size ≤ w.heap.size := h.low.size
  have hx1 : (w.alloc (.cells #[.int .i64 (x : Int)] 3)).heap[w.heap.size]? = some (.cells #[.int .i64 (x : Int)] 3 (0, 0)) := heap_alloc_new _ _
  obtain ⟨v', w', hrun, ho, hg, _, hblk⟩ := run_append_own_at (P := Try.prog) (w.alloc (.cells #[.int .i64 (x : Int)] 3)) w0.heap.size 23 23 3 i3 (.int .i64 0) 1 8 Try.underlying23 hi hz0 hz1 hz2 rfl (by decide) (.slice a l.length c) l.length (cellsOf l) h4 ⟨w.heap.size, 0, none⟩ 1 1 [.int .i64 (x : Int)] rfl
    (fun j u hu => by
      match j, hu with
      | 0, hu => simp at hu; subst hu; rw [Addr.add_lit]; exact cell_of_row _ _ 0 _ _ _ hx1
      | k + 1, hu => simp at hu)
    (fun u hu => by simp at hu; subst hu; rfl) (by unfold maxLen; omega) (by omega) (by simp; omega)
  have hcl : cellsOf l ++ [.int .i64 (x : Int)] = cellsOf (l ++ [x]) := by simp [cellsOf]
  rw [hcl] at ho
  have hn : l.length + 1 = (l ++ [x]).length := by simp
  rw [hn] at ho
  obtain ⟨a', c', rfl⟩ : ∃ a' c', v' = .slice a' (l ++ [x]).length c' := by
    rcases ho.2 with ⟨_, h0⟩ | ⟨q, cap, cur, hv, _⟩
    · simp at h0
    · exact ⟨_, _, hv⟩
  refine ⟨a', c', w', hrun, F, (res_kept g 0).keep h1 fun k hk => hg.block k ((res_kept g 0).lt h1 k hk) fun e => h5 k e.symm hk, h2, ?_, ho, fun q hq hF => ?_, fun z hz => ?_⟩
  · refine h3.grown hg h3.size (fun k hk => ?_)
    exact (h4.lt k hk).1
  · rcases hblk with e | e
    · exact h5 q (by rw [← e]; exact hq) hF
    · rw [hq] at e
      have := (res_kept g 0).lt h1 q hF
      simp at e this
      omega
  · rcases List.mem_append.1 hz with hz | hz
    · exact h6 z hz
    · simp at hz; omega

theorem take_kin {w0 w : World} {g R : Nat} {s : PS} {v : VS} {a : Option Addr} {c : Nat} {l : List Nat} (h : Kin w0 w g R s v a c l) (hv : v.ok) (hn : s.n ≤ 999990) (n : Int) (hw : (Lit.int .i64 n).wf = true) (e0 : Nat) (he0 : e0 = saveE s 0 12 (recL v.inc (newM v n.toNat))) (s0 : PS) (hs0 : s0 = saveS s 0 12 (recL v.inc (newM v n.toNat)))
    (E : Nat) (hE : E = tkE v n e0) (S : PS) (hS : S = tkS v n s s0) (V : VS) (hV : V = tkV v n e0) :
    Calls Try.prog 16 #[.pointer (some ⟨R, 0, none⟩), .int .i64 n] w fun e w' => e = .returned (.int .i64 (E : Int)) ∧ Kin w0 w' g R S V a c l := by
  obtain ⟨F, h1, h2, h3, h4, h5, h6⟩ := h
  refine (take_ok g 0 w R s v F h1 hv hn n hw e0 he0 s0 hs0 E hE S hS V hV).mono ?_
  rintro e w' ⟨rfl, hl⟩
  exact ⟨rfl, Kin.left h2 h3 h4 h5 h6 hl⟩
theorem born_kin {w0 w : World} {g R : Nat} {s : PS} {v : VS} {a : Option Addr} {c : Nat} {l : List Nat} (h : Kin w0 w g R s v a c l) (hv : v.ok) (hn : s.n ≤ 999990) (e0 : Nat) (he0 : e0 = saveE s 0 12 (recL (v.inc + 1) v.mark)) (s0 : PS) (hs0 : s0 = saveS s 0 12 (recL (v.inc + 1) v.mark))
    (E : Nat) (hE : E = bnE v e0) (S : PS) (hS : S = bnS v s s0) (V : VS) (hV : V = bnV v e0) :
    Calls Try.prog 18 #[.pointer (some ⟨R, 0, none⟩)] w fun e w' => e = .returned (.int .i64 (E : Int)) ∧ Kin w0 w' g R S V a c l := by
  obtain ⟨F, h1, h2, h3, h4, h5, h6⟩ := h
  refine (born_ok g 0 w R s v F h1 hv hn e0 he0 s0 hs0 E hE S hS V hV).mono ?_
  rintro e w' ⟨rfl, hl⟩
  exact ⟨rfl, Kin.left h2 h3 h4 h5 h6 hl⟩
theorem tear_kin {w0 w : World} {g R : Nat} {s : PS} {v : VS} {a : Option Addr} {c : Nat} {l : List Nat} (h : Kin w0 w g R s v a c l) (k n : Int) (hk : (Lit.int .i64 k).wf = true) (hn : (Lit.int .i64 n).wf = true) (S : PS) (hS : S = tearS s k n) :
    Calls Try.prog 14 #[.pointer (some ⟨g, 0, none⟩), .int .i64 k, .int .i64 n] w fun e w' => (∃ z, e = .returned z) ∧ Kin w0 w' g R S v a c l := by
  obtain ⟨F, ⟨b, F0, p1, p2, p3, p4, p5, p6⟩, h2, h3, h4, h5, h6⟩ := h
  refine (tear_ok w g s F0 p1.fl k n hk hn).mono ?_
  rintro e w' ⟨he, hl⟩
  exact ⟨he, Kin.left h2 h3 h4 h5 h6 (Res.act p1 p2 p3 p4 p5 p6 (by rw [hS]; exact hl) (by rw [hS]; exact tear_len s k n))⟩
theorem wake_kin {w0 w : World} {g R : Nat} {s : PS} {v : VS} {a : Option Addr} {c : Nat} {l : List Nat} (h : Kin w0 w g R s v a c l) (S : PS) (hS : S = wakeS s) :
    Calls Try.prog 20 #[.pointer (some ⟨g, 0, none⟩)] w fun e w' => (∃ z, e = .returned z) ∧ Kin w0 w' g R S v a c l := by
  obtain ⟨F, ⟨b, F0, p1, p2, p3, p4, p5, p6⟩, h2, h3, h4, h5, h6⟩ := h
  refine (wake_ok w g s F0 p1.fl).mono ?_
  rintro e w' ⟨he, hl⟩
  exact ⟨he, Kin.left h2 h3 h4 h5 h6 (Res.act p1 p2 p3 p4 p5 p6 (by rw [hS]; exact hl) (by rw [hS]; rfl))⟩
theorem Left.wider {σ : Type} {M : World → Nat → σ → (Nat → Prop) → Prop} {w w' : World} {F G : Nat → Prop} {R : Nat} {x : σ} (h : Left M w F R x w') (hs : ∀ k, F k → G k) : Left M w G R x w' := by
  obtain ⟨F', h1, h2, h3⟩ := h
  exact ⟨F', h1, h2.mono hs, fun k hk => (h3 k hk).imp (hs k) id⟩
theorem open_kin {w0 w : World} {g R : Nat} {s : PS} {v : VS} {a : Option Addr} {c : Nat} {l : List Nat} (h : Kin w0 w g R s v a c l) (hl : s.b.length = 64) (k : Int) (h0 : opE s 0 k = 0) (V : VS) (hV : V = opV s 0 k) :
    Calls Try.prog 12 #[.pointer (some ⟨g, 0, none⟩), .int .i64 k] w fun e w' => ∃ R', e = .returned (.tuple #[.pointer (some ⟨R', 0, none⟩), .int .i64 0]) ∧ Kin w0 w' g R' s V a c l := by
  obtain ⟨F, h1, h2, h3, h4, h5, h6⟩ := h
  obtain ⟨F0, p, q⟩ := h1.flash
  refine (opened_yes w g s F0 p (by omega) (by omega) k h0 V hV).mono ?_
  rintro e w' ⟨R', rfl, hl, _⟩
  exact ⟨R', rfl, Kin.left h2 h3 h4 h5 h6 (hl.wider q)⟩
end Go.Proofs.Ytjmbioedpghopaa
