/-
  A list of nonces that grows, beside a node.
-/
import Derived.Test.YtahnbljbhfpldaaGreatDoorPeT
namespace Go.Proofs.YtahnbljbhfpldaaGreatDoor
open Go.ChangeShapes Go.WideShapes Go.ChangeAt Go.RowKit
set_option maxRecDepth 20000
theorem einfo64 : (Tryz.prog.info? 38).map (fun i => (i.zero, i.size, i.bytes)) = some (some (.int .u64 0), 1, 8) := by kernel_rfl
def lv (n : Nat) : Value := .int .u64 (n : Int)
structure NonL (B : Nat) (w : World) (u : Value) (xs : List Nat) : Prop where
  own : w.ownsRow B 38 1 u xs.length (xs.map lv)
theorem NonL.nil (B : Nat) (w : World) : NonL B w (.slice none 0 0) [] := ⟨⟨by simp, .inl ⟨rfl, rfl⟩⟩⟩
theorem NonL.len {B : Nat} {w : World} {u : Value} {xs : List Nat} (h : NonL B w u xs) : ∃ a cap, u = .slice a xs.length cap := by
  rcases h.own.2 with ⟨rfl, h0⟩ | ⟨g, cap, cur, rfl, _⟩
  · exact ⟨none, 0, by rw [h0]⟩
  · exact ⟨_, _, rfl⟩
theorem NonL.get {B : Nat} {w : World} {u : Value} {xs : List Nat} (h : NonL B w u xs) {j x : Nat} (hx : xs[j]? = some x) : ∃ g cap, u = .slice (some ⟨g, 0, none⟩) xs.length cap ∧ w.cell? ⟨g, j, none⟩ = some (.int .u64 (x : Int)) := by
  rcases h.own.2 with ⟨rfl, h0⟩ | ⟨g, cap, cur, rfl, _, hg, hnc, hcm, hcs, htake⟩
  · rw [List.eq_nil_of_length_eq_zero h0] at hx
    simp at hx
  · refine ⟨g, cap, rfl, ?_⟩
    have h1 := h.own.cells (g := g) rfl j (lv x) (by simp [hx])
    rw [Addr.add_lit] at h1
    simpa [lv] using h1
theorem NonL.keep {B : Nat} {w w' : World} {u : Value} {xs : List Nat} (h : NonL B w u xs) (hk : ∀ g, u.ownBlock = some g → w'.heap[g]? = w.heap[g]?) : NonL B w' u xs := by
  refine ⟨h.own.1, ?_⟩
  rcases h.own.2 with h0 | ⟨g, cap, cur, rfl, hlow, hg, h4, h5, h6, h7⟩
  · exact .inl h0
  · exact .inr ⟨g, cap, cur, rfl, hlow, (hk g rfl).trans hg, h4, h5, h6, h7⟩
theorem NonL.row {B : Nat} {w : World} {u : Value} {xs : List Nat} (h : NonL B w u xs) {g : Nat} (hg : u.ownBlock = some g) : B ≤ g ∧ ∃ cur fr, w.heap[g]? = some (.cells cur 38 fr) := by
  rcases h.own.2 with ⟨rfl, _⟩ | ⟨k, cap, cur, rfl, hlow, hk, _⟩
  · cases hg
  · cases hg
    exact ⟨hlow, _, _, hk⟩
theorem NonL.below {B : Nat} {w w' : World} {u : Value} {xs : List Nat} (h : NonL B w u xs) (hb : Below w.heap.size w w') : NonL B w' u xs := h.keep fun g hg => by
  obtain ⟨_, cur, fr, hc⟩ := h.row hg
  exact hb.block g (Array.getElem?_eq_some_iff.1 hc).1
theorem NonL.other {B : Nat} {w0 w w' : World} {u : Value} {xs : List Nat} {R : Nat} {s : Ec} {ma : Option Addr} {mc : Nat} (h : NonL B w u xs) (hs : ESolo w0 w R s ma mc) (ha : Apart (fun k => k = R) w w') : NonL B w' u xs := h.keep fun g hg => by
  obtain ⟨_, cur, fr, hc⟩ := h.row hg
  refine ha.block g (Array.getElem?_eq_some_iff.1 hc).1 ?_
  rintro rfl
  have h3 := hs.all.at'
  unfold PEAt at h3
  rw [hc] at h3
  simp at h3
theorem NonL.push {w0 w : World} {u : Value} {xs : List Nat} {R : Nat} {s : Ec} {ma : Option Addr} {mc : Nat} (h : NonL w0.heap.size w u xs) (hs : ESolo w0 w R s ma mc) (hl : xs.length ≤ 1000) (n : Nat) :
    ∃ u' w', (Builtin.append_ #[75, 75] 75 #[u, .slice (some ⟨w.heap.size, 0, none⟩) 1 1]).run Tryz.prog (w.alloc (.cells #[.int .u64 (n : Int)] 38)) = .ok u' w' ∧ NonL w0.heap.size w' u' (xs ++ [n]) ∧ Apart (fun k => u.ownBlock = some k) w w' := by
  have hb : Below w.heap.size w (w.alloc (.cells #[.int .u64 (n : Int)] 38)) := Go.Joins.below_alloc1 _ _
  have h2 := (h.below hb).own
  obtain ⟨i, hi, hz0, hz1, hz2⟩ := info_parts einfo64
  have hsz := hs.bel.size
  obtain ⟨u', w', hrun, ho, hg, _⟩ := run_append_own (P := Tryz.prog) (w := w.alloc (.cells #[.int .u64 (n : Int)] 38)) w0.heap.size 75 75 38 i (.int .u64 0) 1 8 Tryz.underlying75 hi hz0 hz1 hz2 rfl (by omega) u xs.length (xs.map lv) h2 ⟨w.heap.size, 0, none⟩ 1 1 [lv n] rfl (by
    intro j v hv
    rcases j with _ | j
    · simp at hv
      subst hv
      rw [Addr.add_lit]
      exact cell_of_row _ _ (0 + 0) _ _ _ (heap_alloc_new w _)
    · simp at hv) (by intro v hv; simp at hv; subst hv; rfl) (by unfold maxLen; omega) (by omega) (by have := hb.size; omega)
  refine ⟨u', w', hrun, ⟨by simpa using ho⟩, ?_⟩
  exact (Apart.of_below (F := fun k => u.ownBlock = some k) hb).grown hg (fun k hk => .inl hk)
theorem U8Row.apart {w w' : World} {a : Option Addr} {F : Nat → Prop} (h : U8Row w a) (ha : Apart F w w') (hF : ∀ k, F k → ∃ cur ty fr, w.heap[k]? = some (.cells cur ty fr) ∧ ty ≠ 5) : U8Row w' a := fun b off e => by
  obtain ⟨cur, fr, hc⟩ := h b off e
  refine ⟨cur, fr, (ha.block b (Array.getElem?_eq_some_iff.1 hc).1 fun hf => ?_).trans hc⟩
  obtain ⟨cur2, ty, fr2, h2, h3⟩ := hF b hf
  rw [hc] at h2
  simp only [Option.some.injEq, Obj.cells.injEq] at h2
  exact h3 h2.2.1.symm
theorem U8Row.node {w0 w w' : World} {R : Nat} {s : Ec} {ma : Option Addr} {mc : Nat} {a : Option Addr} (h : U8Row w a) (hs : ESolo w0 w R s ma mc) (ha : Apart (fun k => k = R) w w') : U8Row w' a := h.apart ha fun k hk => by
  subst hk
  exact ⟨_, _, _, hs.all.at', by decide⟩
theorem U8Row.list {B : Nat} {w w' : World} {u : Value} {xs : List Nat} {a : Option Addr} (h : U8Row w a) (hl : NonL B w u xs) (ha : Apart (fun k => u.ownBlock = some k) w w') : U8Row w' a := h.apart ha fun k hk => by
  obtain ⟨_, cur, fr, hc⟩ := hl.row hk
  exact ⟨_, _, _, hc, by decide⟩
theorem ESolo.aside {w0 w w' : World} {R : Nat} {s : Ec} {ma : Option Addr} {mc : Nat} {u : Value} {xs : List Nat} (hs : ESolo w0 w R s ma mc) (h : NonL w0.heap.size w u xs) (hm : U8Row w ma) (ha : Apart (fun k => u.ownBlock = some k) w w') : ESolo w0 w' R s ma mc := by
  have hR : ¬ u.ownBlock = some R := fun e => by
    obtain ⟨_, cur, fr, hc⟩ := h.row e
    have h3 := hs.all.at'
    unfold PEAt at h3
    rw [hc] at h3
    simp at h3
  have old : ∀ k, u.ownBlock = some k → w0.heap.size ≤ k := fun k hk => (h.row hk).1
  refine ⟨⟨(ha.block R hs.all.at'.lt hR).trans hs.all.at', ha.sees hs.all.ms fun b off e _ hf => ?_⟩, hs.ok, tabs_apart hs.tab ha fun k hk => Nat.le_trans hs.two (old k hk), hs.old, hs.two, ha.below hs.bel old hs.bel.size⟩
  obtain ⟨cur, fr, hc⟩ := hm b off e
  obtain ⟨_, cur2, fr2, hc2⟩ := h.row hf
  rw [hc] at hc2
  simp at hc2
end Go.Proofs.YtahnbljbhfpldaaGreatDoor
