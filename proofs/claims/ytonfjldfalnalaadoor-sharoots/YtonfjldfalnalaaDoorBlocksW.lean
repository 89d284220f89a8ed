/-
  The contracts of 'words' and of sha.Block; the walk of ShaBlocks.
-/
import Derived.Test.YtonfjldfalnalaaDoorRefOf
namespace Go.Proofs.YtonfjldfalnalaaDoor
open Go.ChangeShapes Go.WideShapes Go.ChangeAt Go.RowKit

/-- A 'copy' whose run is known. -/
theorem wpList_copy_run {P : Program} {w w' : World} {ops : Array Oper} {rest : List Oper} {o : Oper} {a : Act} {Q : Exit → Act → World → Prop} (hgd : o.guard = none) (s x : Operand) (t : TypeId)
    (ho : o.op = .call { callee := .builtin .copy, args := #[s, x], argTypes := #[t, t] }) (v u r : Value) (hs : a.eval s = v) (hx : a.eval x = u)
    (hrun : (Builtin.copy_ #[t, t] o.type #[v, u]).run P w = .ok r w') (h : wpList P ops Q rest (a.put o.dst r) w') : wpList P ops Q (o :: rest) a w := by
  refine wpList_plain hgd fun K hK => ?_
  unfold Oper.wp
  simp [execOp, ho, resolve, invoke, builtin, hs, hx, hrun, Result.andThen]
  exact hK _ _ h

/-- An argument that is a slice of words. -/
theorem words_of_arg {P : Program} {H : Type} {enc : TypeId × Value → H} {W : World} {t e : TypeId} {fuel : Nat} {a : Option Addr} {len cap : Nat} {d : DataW H} {p : List MemPlace} {ts : List TypeId} {ds : List (DataW H)} {j : Nat}
    (ht : P.underlying t = some (.slice e)) (he : P.underlying e = some (.int .u32)) (hc : P.cellsOf e = 1) (hby : P.bytesOf e = 4)
    (hf : DataW.trod enc P W 0 (fun _ => true) true fuel t (Value.slice a len cap).cells.toList = some (d, p))
    (hsz : (DataW.weightsEach P ts ds).all (· ≤ reachBytes) = true) (hj : ts[j]? = some t) (hd : ds[j]? = some d) :
    ∃ l : List Nat, len = l.length ∧ Words W a cap l ∧ cap ≤ 140737488351232 := by
  rcases open_ints ht he hc hf with ⟨hcs, _⟩ | ⟨x, l, c, zs, hcs, _, hl, hm, hz, hx, hcell, hwz⟩
  · simp [Value.cells] at hcs
    obtain ⟨rfl, rfl, rfl⟩ := hcs
    exact ⟨[], rfl, ⟨by simp, by simp, by simp, fun h => absurd rfl h⟩, by omega⟩
  · simp [Value.cells] at hcs
    obtain ⟨rfl, rfl, rfl⟩ := hcs
    simp only [Prod.mk.injEq] at hx
    obtain ⟨rfl, rfl⟩ := hx
    have hz' : zs.length = cap := by simpa using hz
    have hr : cap ≤ 140737488351232 := by
      have := sized_slice hsz (j := j) (t := t) (e := e) hj hd ht
      rw [hby] at this
      simp only [lits, List.length_map, List.length_take, List.length_drop, reachBytes] at this
      omega
    have hlz : len ≤ zs.length := by omega
    have hbd : ∀ z ∈ zs, 0 ≤ z ∧ z < 4294967296 := fun z hzz => by
      have hw := bounds_u32 (hwz z hzz)
      omega
    refine ⟨(zs.take len).map fun z => z.toNat, by simp; omega, ⟨by simp; omega, hm, ?_, fun hne => ?_⟩, hr⟩
    · intro y hy
      obtain ⟨z, hzz, rfl⟩ := List.mem_map.1 hy
      have := hbd z (List.mem_of_mem_take hzz)
      omega
    have h0 : 0 < len := by
      rcases Nat.eq_zero_or_pos len with h | h
      · subst h; simp at hne
      · exact h
    obtain ⟨b, off, spot⟩ := x
    have hs := World.cell?_spot (hcell 0 (by omega))
    have hspot : spot = none := by simpa [Addr.add] using hs
    subst hspot
    refine ⟨b, off, rfl, fun i y hy => ?_⟩
    have hi : i < len := by
      have := (List.getElem?_eq_some_iff.1 hy).1
      simp at this; omega
    have h1 := hcell i (by omega)
    rw [Addr.add_lit] at h1
    rw [h1]
    have hb := hbd (zs.getD i 0) (by rw [List.getD_eq_getElem?_getD, List.getElem?_eq_getElem (by omega)]; exact List.getElem_mem _)
    have e1 : y = (zs.getD i 0).toNat := by
      simp [hi] at hy
      obtain ⟨q, hq, rfl⟩ := hy
      simp [hq]
    rw [e1]
    congr 2
    omega

set_option maxHeartbeats 800000 in
theorem words_same (w : World) (a b : Option Addr) (ca cb : Nat) (l : List Nat) (ha : Words w a ca l) (hb : Words w b cb l) :
    Calls Tryd.prog 14 #[.slice a l.length ca, .slice b l.length cb] w fun e w' => e = .returned (.bool true) ∧ ∃ m, w' = w.drewN m := by
  have hm : l.length ≤ 9223372036854775807 := by have := ha.fits; have := ha.room; unfold maxLen at this; omega
  go_enter Tryd.func14, Tryd.ntmps14
  go_wp2
  go_loopw [5] (fun i wr => ∃ k n : Nat, k ≤ l.length ∧ i = .int .i64 k ∧ wr = w.drewN n) (fun i _ => l.length - (intOf i).toNat)
  case atStart => exact ⟨0, 0, Nat.zero_le _, rfl, rfl⟩
  case round =>
    obtain ⟨k, n, hk, rfl, rfl⟩ := hrel
    by_cases hlt : k < l.length
    · obtain ⟨x, hx⟩ : ∃ x, l[k]? = some x := ⟨l[k], by simp [hlt]⟩
      obtain ⟨b1, o1, rfl, hc1⟩ := ha.get hx
      obtain ⟨b2, o2, rfl, hc2⟩ := hb.get hx
      have g0 : (0 : Int) ≤ (k : Int) := Int.natCast_nonneg _
      clear hx
      go_wp2
      go_quiet (fail)
      go_wp2
      go_roundw
      case rel => exact ⟨k + 1, _, by omega, by go_num, rfl⟩
      case measure => simp [intOf]; omega
    · obtain rfl : k = l.length := by omega
      go_wp2
      go_ret
      exact ⟨rfl, n, rfl⟩

set_option maxHeartbeats 800000 in
theorem block_no (w : World) (a b : Option Addr) (n m ca cb : Nat) (h : n ≠ 8 ∨ m ≠ 64) :
    Calls Tryd.prog 12 #[.slice a n ca, .slice b m cb] w fun e w' => e = .returned (.tuple #[.slice none 0 0, .int .i64 1]) ∧ w' = w := by
  by_cases h8 : n = 8
  · have hm : ((m : Int) != 64) = true := by simp; omega
    subst h8
    go_enter Tryd.func12, Tryd.ntmps12
    go_wp2
    go_ret2
    exact ⟨rfl, rfl⟩
  · have hn : ((n : Int) != 8) = true := by simp; omega
    go_enter Tryd.func12, Tryd.ntmps12
    go_wp2
    go_ret2
    exact ⟨rfl, rfl⟩

set_option maxHeartbeats 1600000 in
theorem block_yes (w : World) (a : Option Addr) (ca : Nat) (s : S8) (hs : s.small) (ha : Words w a ca s.list) (b : Option Addr) (cb : Nat) (bs : List UInt8) (hb : Sees w b cb bs) (hl : bs.length = 64) (hT : KTab w) :
    Calls Tryd.prog 12 #[.slice a 8 ca, .slice b 64 cb] w fun e w' => e = .returned (.tuple #[.slice (some ⟨w.heap.size, 0, none⟩) 8 8, .int .i64 0]) ∧ Words w' (some ⟨w.heap.size, 0, none⟩) 8 (mixS s bs).list ∧ Below w.heap.size w w' := by
  obtain ⟨ab, ao, rfl, hac⟩ := ha.at' (by simp [S8.list])
  have hb0 : Below w.heap.size w (w.alloc (.cells #[.int .u32 0, .int .u32 0, .int .u32 0, .int .u32 0, .int .u32 0, .int .u32 0, .int .u32 0, .int .u32 0] 50)) := (Below.refl _ _).alloc (Nat.le_refl _) _
  have z0 : Zer (w.alloc (.cells #[.int .u32 0, .int .u32 0, .int .u32 0, .int .u32 0, .int .u32 0, .int .u32 0, .int .u32 0, .int .u32 0] 50)) w.heap.size := Zer.new w
  obtain ⟨y0, y1, y2, y3, y4, y5, y6, y7⟩ := z0.cells
  have yf := z0.frozen
  have hW1 := ha.below hb0
  have hcp := run_copy_cells (P := Tryd.prog) (w.alloc (.cells #[.int .u32 0, .int .u32 0, .int .u32 0, .int .u32 0, .int .u32 0, .int .u32 0, .int .u32 0, .int .u32 0] 50)) 30 30 3 38 w.heap.size 0 8 8 ⟨ab, ao, none⟩ 8 ca (s.list.map wcell) Tryd.underlying30 (by kernel_rfl) (by simp [S8.list])
    (hW1.news _ rfl) (fun j hj => by
      have hj : j < 8 := by simpa [S8.list] using hj
      rw [Nat.zero_add, cell_of_row _ _ j _ _ _ z0]
      have hc : j = 0 ∨ j = 1 ∨ j = 2 ∨ j = 3 ∨ j = 4 ∨ j = 5 ∨ j = 6 ∨ j = 7 := by omega
      rcases hc with rfl | rfl | rfl | rfl | rfl | rfl | rfl | rfl <;> rfl) (fun j _ => by rw [Nat.zero_add]; exact yf j) (words_oneCell _)
  obtain ⟨w1, hw1⟩ : ∃ w1, w1 = (w.alloc (.cells #[.int .u32 0, .int .u32 0, .int .u32 0, .int .u32 0, .int .u32 0, .int .u32 0, .int .u32 0, .int .u32 0] 50)).setCells w.heap.size 0 (s.list.map wcell) := ⟨_, rfl⟩
  rw [← hw1] at hcp
  have hrow1 : w1.heap[w.heap.size]? = some (.cells s.cells 50 (0, 0)) := by rw [hw1]; exact z0.sets s
  have hb1 : Below w.heap.size w w1 := by rw [hw1]; exact below_sets hb0 (Nat.le_refl _) s
  have HCP : Hid ((Builtin.copy_ #[30, 30] 3 #[.slice (some ⟨w.heap.size, 0, none⟩) 8 8, .slice (some ⟨ab, ao, none⟩) 8 ca]).run Tryd.prog (w.alloc (.cells #[.int .u32 0, .int .u32 0, .int .u32 0, .int .u32 0, .int .u32 0, .int .u32 0, .int .u32 0, .int .u32 0] 50)) = .ok (.int .i64 8) w1) := hcp
  have HLD : Hid ((Instr.loadAt 50 (.pointer (some ⟨w.heap.size, 0, none⟩))).run Tryd.prog w1 = .ok (.agg s.cells) w1) := loadAt_row (P := Tryd.prog) w1 w.heap.size 50 50 s.cells (0, 0) _ hrow1 Tryd.underlying50 rfl (by kernel_rfl)
  have hmx := mix_any w1 s hs b cb bs (hb.below hb1) hl (hT.below hb1)
  have hTs := mixS_small s bs
  obtain ⟨T, hTT⟩ : ∃ T, T = mixS s bs := ⟨_, rfl⟩
  rw [← hTT] at hmx hTs ⊢
  clear hTT
  clear hcp hw1 y0 y1 y2 y3 y4 y5 y6 y7 yf z0 hW1 hb0 hac
  go_enter Tryd.func12, Tryd.ntmps12
  go_wp2_with (first | refine wpList_copy_run rfl _ _ 30 rfl _ _ _ rfl rfl HCP.out ?_ | refine wpList_load_run rfl 50 _ rfl _ _ rfl HLD.out ?_)
  refine hmx.mono ?_
  rintro e w2 ⟨rfl, hb2⟩
  have hrow2 : w2.heap[w.heap.size]? = some (.cells s.cells 50 (0, 0)) := by rw [hb2.block _ (Array.getElem?_eq_some_iff.1 hrow1).1]; exact hrow1
  have HST : Hid ((Instr.storeAt 50 (.pointer (some ⟨w.heap.size, 0, none⟩)) (.agg T.cells)).run Tryd.prog w2 = .ok () (w2.setRow w.heap.size T.cells)) := storeAt_row (P := Tryd.prog) w2 w.heap.size 50 50 _ T.cells hrow2 (by kernel_rfl) (by rfl) (by rw [S8.cells_eq]; exact words_one _)
  have hrow3 : (w2.setRow w.heap.size T.cells).heap[w.heap.size]? = some (.cells (T.list.map wcell).toArray 50 (0, 0)) := setRow_heap w2 _ _ _ 50 _ hrow2
  have hb3 := below_setRow (hb1.trans (hb2.mono hb1.size)) (Nat.le_refl _) T.cells
  have hW3 := Words.of_row' hrow3 (by simp [S8.list]) (S8.small_list hTs)
  clear hmx hrow2 hrow3
  go_wp2_with (refine wpList_store_run rfl 50 _ _ rfl _ _ rfl rfl HST.out ?_)
  go_ret2
  exact ⟨rfl, hW3, hb3⟩

theorem eight (l : List Nat) (h : l.length = 8) : ∃ s : S8, l = s.list := by
  match l, h with
  | [a, b, c, d, e, f, g, i], _ => exact ⟨⟨a, b, c, d, e, f, g, i⟩, rfl⟩

set_option maxHeartbeats 1600000 in
theorem blocks_walk (a : Option Addr) (ca : Nat) (l : List Nat) (b : Option Addr) (cb : Nat) (bs : List UInt8) (w : World) (hTab : FTab w ∧ KTab w) (ha : Words w a ca l) (_ : ca ≤ 140737488351232) (hb : Sees w b cb bs) (_ : cb ≤ 140737488351232) :
    Calls Tryd.prog 4 #[.slice a l.length ca, .slice b bs.length cb] w fun e w' => e = .returned (.bool true) ∧ Below w.heap.size w w' := by
  have HF : Hid (FTab w) := hTab.1
  have HK : Hid (KTab w) := hTab.2
  by_cases hh : l.length = 8 ∧ bs.length = 64
  · obtain ⟨h8, h64⟩ := hh
    obtain ⟨s, rfl⟩ := eight l h8
    have hs : s.small := by
      have := ha.small
      simp [S8.list] at this
      exact this
    have hbk := block_yes w a ca s hs ha b cb bs hb h64 hTab.2
    rw [h64]
    show Calls Tryd.prog 4 #[.slice a 8 ca, .slice b 64 cb] w _
    have HA : Hid (Words w a ca s.list) := ha
    have HB : Hid (Sees w b cb bs) := hb
    have H64 : Hid (bs.length = 64) := h64
    have HSm : Hid s.small := hs
    clear hTab ha hb h8 h64 hs
    go_enter Tryd.func4, Tryd.ntmps4
    go_wp2_with fail
    refine hbk.mono ?_
    rintro e w1 ⟨rfl, hW1, hb1⟩
    have hrb := rblock_yes w1 a ca s HSm.out (HA.out.below hb1) b cb bs (HB.out.below hb1) H64.out
    clear hbk
    go_wp2_with fail
    refine hrb.mono ?_
    rintro e w2 ⟨d2, c2, rfl, hW2, hb2⟩
    have hb2w := hb1.trans (hb2.mono hb1.size)
    have hsame := words_same w2 (some ⟨w.heap.size, 0, none⟩) d2 8 c2 (mixS s bs).list (hW1.below hb2) hW2
    clear hrb
    go_wp2_with fail
    refine hsame.mono ?_
    rintro e w3 ⟨rfl, m, rfl⟩
    have hb3 := below_drewN hb2w m
    have haw := awake_any (w2.drewN m) (HF.out.below hb3) (HK.out.below hb3)
    clear hsame
    go_wp2_with fail
    refine haw.mono ?_
    rintro e w4 ⟨rfl, hb4⟩
    go_wp2
    go_ret
    exact ⟨rfl, hb3.trans (hb4.mono hb3.size)⟩
  · have hno : l.length ≠ 8 ∨ bs.length ≠ 64 := by omega
    have hbk := block_no w a b l.length bs.length ca cb hno
    have hrb := rblock_no w a b l.length bs.length ca cb hno
    have hsame := words_same w none none 0 0 [] ⟨by simp, by simp, by simp, fun h => absurd rfl h⟩ ⟨by simp, by simp, by simp, fun h => absurd rfl h⟩
    clear hTab ha hb hh hno
    go_enter Tryd.func4, Tryd.ntmps4
    go_wp2_with fail
    refine hbk.mono ?_
    rintro e w1 ⟨rfl, hw1⟩
    rw [hw1]
    clear hbk hw1 w1
    go_wp2_with fail
    refine hrb.mono ?_
    rintro e w1 ⟨rfl, hw1⟩
    rw [hw1]
    clear hrb hw1 w1
    go_wp2_with fail
    refine hsame.mono ?_
    rintro e w3 ⟨rfl, m, rfl⟩
    have hb3 := below_drewN (Below.refl w.heap.size w) m
    have haw := awake_any (w.drewN m) (HF.out.below hb3) (HK.out.below hb3)
    clear hsame
    go_wp2_with fail
    refine haw.mono ?_
    rintro e w4 ⟨rfl, hb4⟩
    go_wp2
    go_ret
    exact ⟨rfl, hb3.trans (hb4.mono hb3.size)⟩
end Go.Proofs.YtonfjldfalnalaaDoor
