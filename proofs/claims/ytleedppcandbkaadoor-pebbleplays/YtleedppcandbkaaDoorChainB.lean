/-
  The contract of chain.reach: a range over the iterator, left by a label.
-/
import Derived.Test.YtleedppcandbkaaDoorChainA
import Derived.WalkMore
namespace Go.Proofs.YtleedppcandbkaaDoor
open Go.ChangeShapes Go.WideShapes Go.ChangeAt Go.RowKit Go.Shelf
attribute [local go_sem] Oper.semAt_some

/-- Bytes abide a store into a block that holds no byte. -/
theorem Sees.slot {W : World} {a : Option Addr} {cap : Nat} {bs : List UInt8} (h : Sees W a cap bs) {g : Nat} {cur : Array Value} {e : TypeId} {fr : Nat × Nat} (hg : W.heap[g]? = some (.cells cur e fr)) (hv : ∀ (j : Nat) (y : Int), cur[j]? ≠ some (.int .u8 y)) (q : Nat) (u : Value) : Sees (W.setCell ⟨g, q, none⟩ u) a cap bs :=
  ⟨h.fits, h.room, h.bare, fun hne => by
    obtain ⟨b, off, ha, hc⟩ := h.at' hne
    refine ⟨b, off, ha, fun i x hx => ?_⟩
    have h1 := hc i x hx
    have hne2 : b ≠ g := by
      rintro rfl
      rw [cell_of_row W b (off + i) cur e fr hg] at h1
      exact hv _ _ h1
    rw [World.cell?_of_block (w := W) (a := ⟨b, off + i, none⟩) (Below.heap_setCell W ⟨g, q, none⟩ u b (fun e => hne2 (by rw [e]))), h1]⟩
theorem Told.slot {W : World} {key : List UInt8} {s : List Loc} (h : Told W key s) {g : Nat} {cur : Array Value} {e : TypeId} {fr : Nat × Nat} (hg : W.heap[g]? = some (.cells cur e fr)) (hv : ∀ (j : Nat) (y : Int), cur[j]? ≠ some (.int .u8 y)) (q : Nat) (u : Value) : Told (W.setCell ⟨g, q, none⟩ u) key s :=
  fun i p hi => (h i p hi).slot hg hv q u
theorem box_slice (a : Option Addr) (n c : Nat) : ∀ (j : Nat) (y : Int), (#[Value.slice a n c])[j]? ≠ some (.int .u8 y) := by
  intro j y h
  match j, h with
  | 0, h => simp at h
  | k + 1, h => simp at h

/-- Between two rounds of reach: the place is not reached yet. -/
def RI (w : World) (T F : Nat) (a : Option Addr) (ca : Nat) (key : List UInt8) (s : List Loc) (W : World) : Prop :=
  Boxed W w.heap.size 3 (.int .i64 (T : Int)) ∧ Boxed W (w.heap.size + 1) 22 (.slice none 0 0) ∧ Boxed W (w.heap.size + 1 + 1) 3 (.int .i64 (F : Int)) ∧ Boxed W (w.heap.size + 1 + 1 + 1) 22 (.slice a 16 ca) ∧ Told W key s ∧ s.length + T ≤ F ∧ Below w.heap.size w W
/-- .. and once it was. -/
def RX (w : World) (T F : Nat) (key : List UInt8) (W : World) : Prop := ∃ d cd, Boxed W (w.heap.size + 1) 22 (.slice d 16 cd) ∧ Sees W d cd (backL (F - T) key) ∧ Below w.heap.size w W
theorem RI.turned {w : World} {T F : Nat} {a : Option Addr} {ca : Nat} {key : List UInt8} {s : List Loc} {W W' : World} {B : Nat} (h : RI w T F a ca key s W) (hB : w.heap.size ≤ B) (ht : Turned B W W') : RI w T F a ca key s W' := by
  obtain ⟨h1, h2, h3, h4, h5, h6, h7⟩ := h
  exact ⟨ht.boxed h1, ht.boxed h2, ht.boxed h3, ht.boxed h4, h5.turned ht, h6, ht.below h7 hB⟩
theorem RI.below {w : World} {T F : Nat} {a : Option Addr} {ca : Nat} {key : List UInt8} {s : List Loc} {W W' : World} (h : RI w T F a ca key s W) (hb : Below W.heap.size W W') : RI w T F a ca key s W' := by
  obtain ⟨h1, h2, h3, h4, h5, h6, h7⟩ := h
  exact ⟨Boxed.below h1 hb, Boxed.below h2 hb, Boxed.below h3 hb, Boxed.below h4 hb, h5.below hb, h6, h7.trans (hb.mono h7.size)⟩
theorem RX.turned {w : World} {T F : Nat} {key : List UInt8} {W W' : World} {B : Nat} (h : RX w T F key W) (hB : w.heap.size ≤ B) (ht : Turned B W W') : RX w T F key W' := by
  obtain ⟨d, cd, h1, h2, h3⟩ := h
  exact ⟨d, cd, ht.boxed h1, ht.sees h2, ht.below h3 hB⟩
theorem RX.below {w : World} {T F : Nat} {key : List UInt8} {W W' : World} (h : RX w T F key W) (hb : Below W.heap.size W W') : RX w T F key W' := by
  obtain ⟨d, cd, h1, h2, h3⟩ := h
  exact ⟨d, cd, Boxed.below h1 hb, h2.below hb, h3.trans (hb.mono h3.size)⟩

set_option maxRecDepth 100000 in
set_option maxHeartbeats 4000000 in
theorem reach_ok (w : World) (a : Option Addr) (ca : Nat) (key : List UInt8) (hk : key.length = 16) (T F : Nat) (hTF : T ≤ F) (hFm : F ≤ 256) (hF0 : FTab w) (hT0 : KTab w) (ha0 : Sees w a ca key) :
    Calls Tryd.prog 29 #[.int .i64 (F : Int), .slice a 16 ca, .int .i64 (T : Int)] w fun e w' => ∃ d cd, e = .returned (.slice d 16 cd) ∧ Sees w' d cd (backL (F - T) key) ∧ Below w.heap.size w w' := by
  have HF : Hid (FTab w) := hF0
  have HT : Hid (KTab w) := hT0
  have HA : Hid (Sees w a ca key) := ha0
  have Hk : Hid (key.length = 16) := hk
  clear hF0 hT0 ha0 hk
  have hdn := down_ok ((w.alloc (.cells #[.int .i64 (T : Int)] 3)).alloc (.cells #[.slice none 0 0] 22)) (F : Int) a 16 ca
  rw [World.size_alloc, World.size_alloc] at hdn
  refine (callsIn_wide (n := 9)).1 ?_
  refine callsIn_of_wp_marks Tryd.func29 rfl trivial ?_ rfl
  simp only [Tryd.ntmps29, List.size_toArray, List.length_cons, List.length_nil, Nat.reduceAdd, Nat.reduceSub, Array.replicate_succ, Array.replicate_zero, List.push_toArray, List.append_toArray, List.nil_append, List.cons_append]
  gi_wp2
  refine wpIn_wide.2 (wp_scope_straight ((wpIn_wide (n := 9)).1 ?_))
  gi_wp2
  refine wpIn_label ?_
  gi_wp2
  refine ⟨trivial, (callsIn_wide.2 hdn).mono ?_⟩
  rintro e w' ⟨rfl, hw'⟩
  rw [hw']
  clear hdn hw' w'
  gi_wp2
  obtain ⟨W0, hW0⟩ : ∃ W0, W0 = (((w.alloc (.cells #[.int .i64 (T : Int)] 3)).alloc (.cells #[.slice none 0 0] 22)).alloc (.cells #[.int .i64 (F : Int)] 3)).alloc (.cells #[.slice a 16 ca] 22) := ⟨_, rfl⟩
  have hsz : W0.heap.size = w.heap.size + 4 := by rw [hW0]; simp
  have hB0 : Below w.heap.size w W0 := by rw [hW0]; exact ((((Below.refl _ w).alloc (Nat.le_refl _) _).alloc (by simp) _).alloc (by simp; omega) _).alloc (by simp; omega) _
  have hI0 : RI w T F a ca key [] W0 := by
    refine ⟨?_, ?_, ?_, ?_, Told.nil _ _, by simpa using hTF, hB0⟩
    · rw [hW0]; exact (((Boxed.new w 3 _).alloc _).alloc _).alloc _
    · have := Boxed.new (w.alloc (.cells #[.int .i64 (T : Int)] 3)) 22 (.slice none 0 0)
      rw [World.size_alloc] at this
      rw [hW0]; exact (this.alloc _).alloc _
    · have := Boxed.new ((w.alloc (.cells #[.int .i64 (T : Int)] 3)).alloc (.cells #[.slice none 0 0] 22)) 3 (.int .i64 (F : Int))
      rw [World.size_alloc, World.size_alloc] at this
      rw [hW0]; exact this.alloc _
    · have := Boxed.new (((w.alloc (.cells #[.int .i64 (T : Int)] 3)).alloc (.cells #[.slice none 0 0] 22)).alloc (.cells #[.int .i64 (F : Int)] 3)) 22 (.slice a 16 ca)
      rw [World.size_alloc, World.size_alloc, World.size_alloc] at this
      rw [hW0]; exact this
  rw [← hW0]
  have HW0 : Hid (w.heap.size ≤ W0.heap.size) := by show w.heap.size ≤ W0.heap.size; omega
  clear hW0 hsz hB0
  refine range_pre 41 #[.pointer (some ⟨w.heap.size + 1 + 1 + 1, 0, none⟩), .pointer (some ⟨w.heap.size + 1 + 1, 0, none⟩)] rfl (enters_of Tryd.func41 (by kernel_rfl) rfl)
    (fun x : Nat × Loc => #[.int .i64 (x.1 : Int), .slice x.2.1 16 x.2.2]) (fun _ => rfl) (RI w T F a ca key) (fun s x W => RI w T F a ca key s W ∧ x.1 + s.length = F ∧ Sees W x.2.1 x.2.2 (backL s.length key)) (fun s x => s ++ [x.2]) (fun c _ W => c = .exit 0 ∧ RX w T F key W)
    (fun s => s.length = F + 1) ?fI ?fP ?fX
    (fun x => { tmps := #[.int .i64 (F : Int), .slice a 16 ca, .int .i64 (T : Int), undef, undef, .pointer (some ⟨w.heap.size, 0, none⟩), .slice none 0 0, .pointer (some ⟨w.heap.size + 1, 0, none⟩), .int .i64 (x.1 : Int), .slice x.2.1 16 x.2.2, .int .i64 (F : Int), .slice a 16 ca, .func (.func 41) #[] #[.pointer (some ⟨w.heap.size + 1 + 1 + 1, 0, none⟩), .pointer (some ⟨w.heap.size + 1 + 1, 0, none⟩)], .int .i64 (x.1 : Int), .slice x.2.1 16 x.2.2, undef, undef, undef, undef, undef, undef], defers := [] })
    ?assign ?body ?iter ?kX ?done ?stop
  case fI => exact fun s V V' h ht => h.turned HW0.out ht
  case fP => exact fun s x V V' ⟨h1, h2, h3⟩ ht => ⟨h1.turned HW0.out ht, h2, ht.sees h3⟩
  case fX => exact fun c s V V' ⟨h1, h2⟩ ht => ⟨h1, h2.turned HW0.out ht⟩
  case kX => exact fun c s V V' ⟨h1, h2⟩ hb => ⟨h1, h2.below hb⟩
  case assign =>
    intro l x W K hK
    gi_wp2
    exact hK
  case body =>
    rintro l s ⟨q, d, cd⟩ W ⟨⟨b1, b2, b3, b4, told, hle, hB⟩, hq, hsee⟩
    show Code.wpIn _ _ _ _ (roundEnds W0.heap.size (RI w T F a ca key) (fun c _ W => c = .exit 0 ∧ RX w T F key W) (s ++ [(d, cd)]) W) _ _
    have c1 := b1.cell
    have c2 := b2.cell
    have f2 := b2.frozen
    have hsl : (s ++ [((d, cd) : Loc)]).length = s.length + 1 := by simp
    dsimp only at hq hsee
    by_cases hqT : q = T
    · subst hqT
      have HE : Hid (KeepsFrom W0.heap.size W (W.setCell ⟨w.heap.size + 1, 0, none⟩ (.slice d 16 cd)) ∧ RX w q F key (W.setCell ⟨w.heap.size + 1, 0, none⟩ (.slice d 16 cd))) := by
        refine ⟨(KeepsOthers.setCell _ _ _).from _, d, cd, b2.set _, ?_, hB.setCell (p := ⟨w.heap.size + 1, 0, none⟩) (by show w.heap.size ≤ w.heap.size + 1; omega) _⟩
        rw [show F - q = s.length by omega]
        exact hsee.slot b2 (box_slice _ _ _) 0 _
      clear b1 b2 b3 b4 told hle hB hq hsee hsl hI0
      gi_wp2
      exact ⟨HE.out.1, rfl, HE.out.2⟩
    · have dq : ((q : Int) == (T : Int)) = false := by simp; omega
      have HE : Hid (KeepsFrom W0.heap.size W W ∧ RI w T F a ca key (s ++ [(d, cd)]) W) := ⟨KeepsFrom.refl _ _, b1, b2, b3, b4, told.push (d, cd) hsee, by omega, hB⟩
      clear b1 b2 b3 b4 told hle hB hq hsee hsl hI0
      gi_wp2
      exact HE.out
  case iter =>
    intro l W1 hB1 hs1 hl Bk Bx kB hY kX hBk
    exact down_in 8 l _ _ a ca key Hk.out F hFm (RI w T F a ca key) (fun s W W' h hb => h.below hb) (fun s W h => ⟨h.2.2.2.1.cell, h.2.2.1.cell, HA.out.below h.2.2.2.2.2.2, HF.out.below h.2.2.2.2.2.2, HT.out.below h.2.2.2.2.2.2, h.2.2.2.2.1⟩) Bk Bx kB hY W1 hBk (hI0.below hB1)
  case done =>
    rintro D s V hD hs ⟨_, _, _, _, _, h6, _⟩ hK
    exact absurd hs (by omega)
  case stop =>
    rintro D c s V hD ⟨rfl, d, cd, b2, hsee, hB⟩ hK
    have c2 := b2.cell
    have HK : Hid (V.heap[D]? = some (.deferred (some []))) := hK
    clear b2 hI0 hK
    gi_wp2
    refine ⟨by simp, .inl ⟨_, _, rfl, run_takeDeferred HK.out, ?_⟩⟩
    refine ⟨_, results_tmp rfl _ _ _, d, cd, rfl, hsee.put _ HK.out rfl, ?_⟩
    exact hB.trans (belowK_b (w := w) (Nat.le_refl _) V D _ _ (by have := HW0.out; omega) HK.out rfl rfl)
end Go.Proofs.YtleedppcandbkaaDoor
