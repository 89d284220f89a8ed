/-
  The hand that writes.
-/
import Derived.Test.YtoggjpkbbncbbaaFrameHand
import Derived.Test.YtoggjpkbbncbbaaBitsWr
namespace Go.Proofs.Ytoggjpkbbncbbaa
open Go.ChangeShapes Go.WideShapes Go.ChangeAt Go.RowKit

/-- A writer at block b, of the bits bs. -/
def WrM (w : World) (b : Nat) (bs : List Bool) (F : Nat → Prop) : Prop := RowB 85 [] w b bs F ∧ bs.length ≤ 8192
theorem wrm_kept : Kept WrM where
  lt := fun h => (rowB_kept 85 []).lt h.1
  keep := fun h hk => ⟨(rowB_kept 85 []).keep h.1 hk, h.2⟩
def wrV (b : Nat) : Value := .agg #[.pointer (some ⟨b, 0, none⟩)]

set_option maxHeartbeats 800000 in
set_option maxRecDepth 20000 in
theorem wnum_ok (w : World) (b : Nat) (bs : List Bool) (F : Nat → Prop) (n V : Nat) (hm : WrM w b bs F) (hn : n < 18446744073709551616) :
    Calls Try.prog 41 #[wrV b, .int .u64 (n : Int), .int .i64 (V : Int)] w fun e w' => e = .returned (.int .u64 (n : Int)) ∧ Left WrM w F b (putB bs n V) w' := by
  have hm1 := wrm_kept.alloc hm (.cells #[.pointer (some ⟨b, 0, none⟩)] 87)
  have hc := wput_ok (w.alloc (.cells #[.pointer (some ⟨b, 0, none⟩)] 87)) b bs F n V hm1.1 hn hm1.2
  have hl := putB_len bs n (V : Int) hm.2
  have HL : Hid (∀ w1, Left (RowB 85 []) (w.alloc (.cells #[.pointer (some ⟨b, 0, none⟩)] 87)) F b (putB bs n V) w1 → Left WrM w F b (putB bs n V) w1) := fun w1 h => by
    obtain ⟨F', h1, h2, h3⟩ := h
    exact Left.of_alloc ⟨F', ⟨h1, hl⟩, h2, h3⟩
  obtain ⟨P, hP⟩ : ∃ P, P = putP bs.length n (V : Int) := ⟨_, rfl⟩
  rw [← hP] at hc
  clear hm hm1 hl hP
  unfold wrV
  go_enter Try.func41, Try.ntmps41
  go_wp2_with fail
  refine hc.mono ?_
  rintro e w1 ⟨rfl, hL⟩
  have HX : Hid (Left WrM w F b (putB bs n V) w1) := HL.out w1 hL
  clear hc hL HL
  go_wp2
  go_ret
  exact ⟨rfl, HX.out⟩
set_option maxHeartbeats 800000 in
set_option maxRecDepth 20000 in
theorem wlist_ok (w : World) (b : Nat) (bs : List Bool) (F : Nat → Prop) (x : Option Addr) (cx : Nat) (l : List UInt8) (n : Int) (hm : WrM w b bs F) (hs : Sees w x cx l) (hcl : Clear F x l) :
    Calls Try.prog 42 #[wrV b, .slice x l.length cx, .int .i64 n] w fun e w' => e = .returned (.slice x l.length cx) ∧ Sees w' x cx l ∧ ∃ F', WrM w' b (bytesB bs l) F' ∧ Apart F w w' ∧ (∀ k, F' k → F k ∨ w.heap.size ≤ k) ∧ Clear F' x l := by
  have hm1 := wrm_kept.alloc hm (.cells #[.pointer (some ⟨b, 0, none⟩)] 87)
  have hc := wbytes_ok (w.alloc (.cells #[.pointer (some ⟨b, 0, none⟩)] 87)) b bs F x cx l hm1.1 (hs.below (Go.Joins.below_alloc1 _ _)) hcl hm1.2
  have hl := bytesB_len bs l hm.2
  have HL : Hid (∀ w1, Left (RowB 85 []) (w.alloc (.cells #[.pointer (some ⟨b, 0, none⟩)] 87)) F b (bytesB bs l) w1 → Sees w1 x cx l ∧ ∃ F', WrM w1 b (bytesB bs l) F' ∧ Apart F w w1 ∧ (∀ k, F' k → F k ∨ w.heap.size ≤ k) ∧ Clear F' x l) := fun w1 h => by
    obtain ⟨F', h1, h2, h3⟩ := h
    obtain ⟨F'', k1, k2, k3⟩ : Left WrM w F b (bytesB bs l) w1 := Left.of_alloc ⟨F', ⟨h1, hl⟩, h2, h3⟩
    refine ⟨k2.sees hs hcl, F'', k1, k2, k3, fun g off e hne hg => ?_⟩
    rcases k3 g hg with h | h
    · exact hcl g off e hne h
    · have := hs.lt g off e hne; omega
  obtain ⟨P, hP⟩ : ∃ P, P = bytesP bs.length l.length := ⟨_, rfl⟩
  rw [← hP] at hc
  clear hm hm1 hl hP hs hcl
  unfold wrV
  go_enter Try.func42, Try.ntmps42
  go_wp2_with fail
  refine hc.mono ?_
  rintro e w1 ⟨rfl, hL⟩
  have HX := HL.out w1 hL
  have HXX : Hid (Sees w1 x cx l ∧ ∃ F', WrM w1 b (bytesB bs l) F' ∧ Apart F w w1 ∧ (∀ k, F' k → F k ∨ w.heap.size ≤ k) ∧ Clear F' x l) := HX
  clear hc hL HL HX
  go_wp2
  go_ret
  exact ⟨rfl, HXX.out⟩

theorem hand_wr (b : Nat) : Hand 41 42 (wrV b) WrM b (fun _ n _ => n) (fun bs n V => putB bs n (V : Int)) (fun _ l _ => l) (fun bs l _ => bytesB bs l) where
  kept := wrm_kept
  ei := fun args w => by simp [callFunc, Try.func41, Try.f41]
  ej := fun args w => by simp [callFunc, Try.func42, Try.f42]
  lt := fun _ n _ h _ => h
  lt5 := fun _ n h => by omega
  lt64 := fun _ n _ h _ => h
  num := fun w s F n V hm hn _ => wnum_ok w b s F n V hm hn
  list := fun w s F x cx l n hm hs hc _ => (wlist_ok w b s F x cx l n hm hs hc).mono fun e w' ⟨he, h1, h2⟩ => ⟨x, cx, l, rfl, he, h1, h2⟩

theorem two_one (f1 f2 : Fn) (r : Value) : (#[Value.func f1 #[r] #[], Value.func f2 #[r] #[]] : Array Value).all (·.oneCell') = true :=
  all_oneCell_toArray (cs := [Value.func f1 #[r] #[], Value.func f2 #[r] #[]]) (by
    intro v hv
    simp only [List.mem_cons, List.not_mem_nil, or_false] at hv
    rcases hv with rfl | rfl <;> rfl)
/-- A hand, laid. -/
theorem hand_laid (w : World) (o : Obj) (f1 f2 : Fn) (r : Value) : ∃ W, (Instr.storeAt 52 (.pointer (some ⟨w.heap.size, 0, none⟩)) (.agg #[.func f1 #[r] #[], .func f2 #[r] #[]])).run Try.prog ((w.alloc (.cells #[.nilFunc, .nilFunc] 52)).alloc o) = .ok () W ∧
    W.heap[w.heap.size]? = some (.cells #[.func f1 #[r] #[], .func f2 #[r] #[]] 52 (0, 0)) ∧ Below w.heap.size w W := by
  have h1 : (w.alloc (.cells #[.nilFunc, .nilFunc] 52)).heap[w.heap.size]? = some (.cells #[.nilFunc, .nilFunc] 52 (0, 0)) := heap_alloc_new _ _
  have h2 : ((w.alloc (.cells #[.nilFunc, .nilFunc] 52)).alloc o).heap[w.heap.size]? = some (.cells #[.nilFunc, .nilFunc] 52 (0, 0)) := by
    rw [(Go.Joins.below_alloc1 (w.alloc (.cells #[.nilFunc, .nilFunc] 52)) o).block _ (by simp)]; exact h1
  exact ⟨_, storeAt_row _ _ 52 52 _ _ h2 (by kernel_rfl) rfl (two_one f1 f2 r), setRow_heap _ _ _ _ 52 _ h2, below_setRow (Go.Joins.below_alloc2 _ _ _) (Nat.le_refl _) _⟩
theorem hand_laid1 (w : World) (f1 f2 : Fn) (r : Value) : ∃ W, (Instr.storeAt 52 (.pointer (some ⟨w.heap.size, 0, none⟩)) (.agg #[.func f1 #[r] #[], .func f2 #[r] #[]])).run Try.prog (w.alloc (.cells #[.nilFunc, .nilFunc] 52)) = .ok () W ∧
    W.heap[w.heap.size]? = some (.cells #[.func f1 #[r] #[], .func f2 #[r] #[]] 52 (0, 0)) ∧ Below w.heap.size w W := by
  have h1 : (w.alloc (.cells #[.nilFunc, .nilFunc] 52)).heap[w.heap.size]? = some (.cells #[.nilFunc, .nilFunc] 52 (0, 0)) := heap_alloc_new _ _
  exact ⟨_, storeAt_row _ _ 52 52 _ _ h1 (by kernel_rfl) rfl (two_one f1 f2 r), setRow_heap _ _ _ _ 52 _ h1, below_setRow (Go.Joins.below_alloc1 _ _) (Nat.le_refl _) _⟩
set_option maxHeartbeats 800000 in
set_option maxRecDepth 20000 in
theorem writing_ok (w : World) (b : Nat) : Calls Try.prog 21 #[.pointer (some ⟨b, 0, none⟩)] w fun e w' => e = .returned (.agg #[.func (.func 41) #[wrV b] #[], .func (.func 42) #[wrV b] #[]]) ∧ Below w.heap.size w w' := by
  have hmf : ∀ (fn : Fn) (first cap : Array Value) (w : World), (Instr.makeFunc fn first cap).run Try.prog w = .ok (.func fn first cap) w := fun _ _ _ _ => rfl
  obtain ⟨W, hst, hW, hb⟩ := hand_laid w (.cells #[.pointer (some ⟨b, 0, none⟩)] 87) (.func 41) (.func 42) (.agg #[.pointer (some ⟨b, 0, none⟩)])
  unfold wrV
  have HST : Hid ((Instr.storeAt 52 (.pointer (some ⟨w.heap.size, 0, none⟩)) (.agg #[.func (.func 41) #[.agg #[.pointer (some ⟨b, 0, none⟩)]] #[], .func (.func 42) #[.agg #[.pointer (some ⟨b, 0, none⟩)]] #[]])).run Try.prog ((w.alloc (.cells #[.nilFunc, .nilFunc] 52)).alloc (.cells #[.pointer (some ⟨b, 0, none⟩)] 87)) = .ok () W) := hst
  have HW : Hid (W.heap[w.heap.size]? = some (.cells #[.func (.func 41) #[.agg #[.pointer (some ⟨b, 0, none⟩)]] #[], .func (.func 42) #[.agg #[.pointer (some ⟨b, 0, none⟩)]] #[]] 52 (0, 0)) ∧ Below w.heap.size w W) := ⟨hW, hb⟩
  clear hst hW hb
  go_enter Try.func21, Try.ntmps21
  go_wp2_with (first | (refine wpList_store_run rfl 52 _ _ rfl _ _ rfl rfl HST.out ?_) | fail)
  refine bodyPost_ret (results_cell_row rfl _ W w.heap.size 52 _ (0, 0) _ rfl HW.out.1 Try.underlying52 rfl (by kernel_rfl)) rfl ?_
  exact ⟨rfl, HW.out.2⟩
end Go.Proofs.Ytoggjpkbbncbbaa
