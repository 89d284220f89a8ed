/-
  The contract of reach: stones are laid till the next one to be told is on top.
-/
import Derived.Test.YtgncdnejmobjbaaGreatDoorPebC
namespace Go.Proofs.YtgncdnejmobjbaaGreatDoor
open Go.ChangeShapes Go.WideShapes Go.ChangeAt Go.RowKit

theorem Peb.drewN {w : World} {Q : Nest} {o g b cap : Nat} {v0 : Value} {key : List UInt8} {n told steps : Nat} {T : List Stone} (h : Peb Q o w g b cap v0 key n told steps T) (m : Nat) : Peb Q o (w.drewN m) g b cap v0 key n told steps T := h.keep (below_drewN (Below.refl _ _) m)
theorem ne_box {w : World} {k : Nat} {cs : Array Value} {t t' : TypeId} {fr : Nat × Nat} {v : Value} {b : Nat} (h : w.heap[k]? = some (.cells cs t fr)) (hb : Boxed w b t' v) (ht : t ≠ t') : k ≠ b := by
  rintro rfl
  unfold Boxed at hb
  rw [h] at hb
  simp only [Option.some.injEq, Obj.cells.injEq] at hb
  exact ht hb.2.1
theorem Peb.box {w : World} {Q : Nest} {o g b cap : Nat} {v0 : Value} {key : List UInt8} {n told steps : Nat} {T : List Stone} (h : Peb Q o w g b cap v0 key n told steps T) {c : Nat} {v : Value} (hb : Boxed w c 3 v) : c ≠ g ∧ c ≠ b := by
  obtain ⟨cur, h1, _⟩ := h.stack.row
  exact ⟨Ne.symm (ne_box h.obj hb Q.t3), Ne.symm (ne_box h1 hb (by decide))⟩
/-- A pebble abides a change of a block of one number. -/
theorem Peb.other {w w' : World} {Q : Nest} {o g b cap : Nat} {v0 : Value} {key : List UInt8} {n told steps : Nat} {T : List Stone} (h : Peb Q o w g b cap v0 key n told steps T) {c : Nat} {z : Int} (hb : Boxed w c 3 (.int .i64 z)) (ha : Apart (fun i => i = c) w w') : Peb Q o w' g b cap v0 key n told steps T := by
  obtain ⟨n1, n2⟩ := h.box hb
  refine ⟨by rw [ha.block _ h.lt (fun e => n1 e.symm)]; exact h.obj, h.off, h.nob, h.ne, h.stack.keep (ha.block _ h.stack.lt (fun e => n2 e.symm)), fun x hx => ha.sees (h.keys x hx) ?_, h.good, h.len, h.most⟩
  intro k off e hne
  rintro rfl
  obtain ⟨k', off', ha', hc⟩ := (h.keys x hx).at' hne
  rw [e] at ha'
  simp only [Option.some.injEq, Addr.mk.injEq, and_true] at ha'
  obtain ⟨rfl, rfl⟩ := ha'
  obtain ⟨y, l', hl⟩ := List.exists_cons_of_ne_nil hne
  have h0 := hc 0 y (by rw [hl]; rfl)
  rw [cell_of_row w _ (off + 0) _ _ _ hb] at h0
  match off, h0 with
  | 0, h0 => simp at h0
  | j + 1, h0 => simp at h0
/-- A stone is laid upon a pebble's stack, its key being the chain's. -/
theorem Peb.push {w w' : World} {Q : Nest} {o g b cap b' cap' : Nat} {v0 : Value} {key : List UInt8} {n told steps : Nat} {x : Stone} {T : List Stone} (h : Peb Q o w g b cap v0 key n told steps T) (hs : StackAt w' b' cap' (x :: T)) (ha : Apart (fun k => k = b) w w') (hb' : b' = b ∨ w.heap.size ≤ b')
    (hx : Sees w x.2.1 x.2.2 (backL (n - x.1) key)) (hg : Good n told ((x :: T).map Prod.fst)) : Peb Q o (w'.setCell ⟨g, o + 3, none⟩ (.slice (some ⟨b', 0, none⟩) (x :: T).length cap')) g b' cap' v0 key n told steps (x :: T) := by
  have hne : b' ≠ g := by
    rcases hb' with rfl | hb'
    · exact h.ne
    · have := h.lt; omega
  have ho : w'.heap[g]? = some (.cells (Q.cs v0 (.int .i64 (told : Int)) (.int .i64 (steps : Int)) (.slice (some ⟨b, 0, none⟩) T.length cap)).toArray Q.ty (0, 0)) := by rw [ha.block _ h.lt (fun e => h.ne e.symm)]; exact h.obj
  have hab : Apart (fun k => k = g ∨ k = b) w w' := ha.mono fun k hk => .inr hk
  have hno : NoByte (Q.cs v0 (.int .i64 (told : Int)) (.int .i64 (steps : Int)) (.slice (some ⟨b, 0, none⟩) T.length cap)).toArray := h.noObj
  refine ⟨?_, h.off, h.nob, hne, hs.keep (heap_setCell_other _ _ _ _ hne), fun y hy => ?_, hg, h.len, h.most⟩
  · rw [set_at _ ho, (Nest.set h.off _ _ _ _ _).2.2.2]
  · have hy' : Sees w y.2.1 y.2.2 (backL (n - y.1) key) := by
      rcases List.mem_cons.1 hy with rfl | hy
      · exact hx
      · exact h.keys y hy
    exact (h.sees hab hy').slot ho hno.u8 (o + 3) _

theorem field_place (u v : Value) (W : World) : (Instr.field 90 (.agg #[u, v]) 0).run Tryz.prog W = .ok u W := by
  simp [Instr.field, go_sem, asAgg]
theorem field_key (u v : Value) (W : World) : (Instr.field 90 (.agg #[u, v]) 1).run Tryz.prog W = .ok v W := by
  simp [Instr.field, go_sem, asAgg]
/-- Two cells that are loaded, and what lies below. -/
def TwoAt (a c : Addr) (X Y : Value) (w V : World) : Prop := (V.cell? a = some X ∧ V.cell? c = some Y) ∧ Below w.heap.size w V
theorem TwoAt.drew {a c : Addr} {X Y : Value} {w V : World} (h : (V.cell? a = some X ∧ V.cell? c = some Y) ∧ Below w.heap.size w V) : (V.drew.cell? a = some X ∧ V.drew.cell? c = some Y) ∧ Below w.heap.size w V.drew := ⟨h.1, h.2.drew⟩
theorem TwoAt.of {a c : Addr} {X Y : Value} {w V : World} (h1 : w.cell? a = some X) (h2 : w.cell? c = some Y) (hb : Below w.heap.size w V) : (V.cell? a = some X ∧ V.cell? c = some Y) ∧ Below w.heap.size w V :=
  ⟨⟨by rw [hb.cell (World.block_lt_of_cell? _ _ h1)]; exact h1, by rw [hb.cell (World.block_lt_of_cell? _ _ h2)]; exact h2⟩, hb⟩

theorem Two.below {a c : Addr} {X Y : Value} {w V : World} (h : w.cell? a = some X ∧ w.cell? c = some Y) (hb : Below w.heap.size w V) : V.cell? a = some X ∧ V.cell? c = some Y := (TwoAt.of h.1 h.2 hb).1
theorem Two.alloc {a c : Addr} {X Y : Value} {w : World} (h : w.cell? a = some X ∧ w.cell? c = some Y) (o : Obj) : (w.alloc o).cell? a = some X ∧ (w.alloc o).cell? c = some Y := Two.below h ((Below.refl _ _).alloc (Nat.le_refl _) _)
/-- What one round of reach leaves: the new stone lies on top. -/
theorem lay_step {w10 w11 : World} {Q : Nest} {o g b cap bp bs q : Nat} {v0 : Value} {key : List UInt8} {n told steps : Nat} {T : List Stone} {z z' : Int} {d : Option Addr} {c : Nat} (hP : Peb Q o w10 g b cap v0 key n told steps T) (hbp : Boxed w10 bp 65 (.pointer (some ⟨g, o, none⟩))) (hk : Boxed w10 bs 3 (.int .i64 z)) (ha : Apart (fun i => i = bs) w10 w11) (hk11 : Boxed w11 bs 3 (.int .i64 z'))
    (hs : Sees w11 d c (backL (n - q) key)) (hg : Good n told (q :: T.map Prod.fst)) :
    (w11.cell? ⟨bp, 0, none⟩ = some (.pointer (some ⟨g, o, none⟩)) ∧ w11.cell? ⟨g, o + 3, none⟩ = some (.slice (some ⟨b, 0, none⟩) T.length cap)) ∧
    ∃ b2 cap2 w12, (Builtin.append_ #[57, 57] 57 #[.slice (some ⟨b, 0, none⟩) T.length cap, .slice (some ⟨w11.heap.size, 0, none⟩) 1 1]).run Tryz.prog (w11.alloc (.cells #[.int .i64 (q : Int), .slice d 16 c] 90)) = .ok (.slice (some ⟨b2, 0, none⟩) (T.length + 1) cap2) w12 ∧
      (w12.cell? ⟨bp, 0, none⟩ = some (.pointer (some ⟨g, o, none⟩)) ∧ w12.cell? ⟨g, o + 3, none⟩ = some (.slice (some ⟨b, 0, none⟩) T.length cap)) ∧ w12.frozen? ⟨g, o + 3, none⟩ = false ∧
      Peb Q o (w12.setCell ⟨g, o + 3, none⟩ (.slice (some ⟨b2, 0, none⟩) (T.length + 1) cap2)) g b2 cap2 v0 key n told steps ((q, d, c) :: T) ∧ Boxed (w12.setCell ⟨g, o + 3, none⟩ (.slice (some ⟨b2, 0, none⟩) (T.length + 1) cap2)) bp 65 (.pointer (some ⟨g, o, none⟩)) ∧
      Boxed (w12.setCell ⟨g, o + 3, none⟩ (.slice (some ⟨b2, 0, none⟩) (T.length + 1) cap2)) bs 3 (.int .i64 z') ∧ Apart (fun k => k = g ∨ k = b ∨ k = bs) w10 (w12.setCell ⟨g, o + 3, none⟩ (.slice (some ⟨b2, 0, none⟩) (T.length + 1) cap2)) ∧ (b2 = b ∨ w10.heap.size ≤ b2) := by
  have hP11 := hP.other hk ha
  obtain ⟨cur, hrow, _⟩ := hP.stack.row
  have n1 : bp ≠ bs := ne_box hbp hk (by decide)
  have n2 : g ≠ bp := ne_box hP.obj hbp Q.tp
  have n3 : b ≠ bp := ne_box hrow hbp (by decide)
  obtain ⟨n4, n5⟩ := hP.box hk
  have hbp11 : Boxed w11 bp 65 (.pointer (some ⟨g, o, none⟩)) := (ha.block _ hbp.lt n1).trans hbp
  have hba : Below w11.heap.size w11 (w11.alloc (.cells #[.int .i64 (q : Int), .slice d 16 c] 90)) := (Below.refl _ _).alloc (Nat.le_refl _) _
  obtain ⟨W, hW⟩ : ∃ W, W = w11.alloc (.cells #[.int .i64 (q : Int), .slice d 16 c] 90) := ⟨_, rfl⟩
  rw [← hW] at hba ⊢
  have hrw : W.heap[w11.heap.size]? = some (.cells #[.int .i64 (q : Int), .slice d 16 c] 90 (0, 0)) := by rw [hW]; exact heap_alloc_new _ _
  have hPW := hP11.keep hba
  have hfew := hP.few
  have hmost := hP.most
  obtain ⟨b2, cap2, w12, hrun, hst, hap, hb2⟩ := hPW.stack.push (by omega) (q, d, c) w11.heap.size (cell_of_row _ _ 0 _ _ _ hrw) (cell_of_row _ _ 1 _ _ _ hrw)
  have hobj : w12.heap[g]? = some (.cells (Q.cs v0 (.int .i64 (told : Int)) (.int .i64 (steps : Int)) (.slice (some ⟨b, 0, none⟩) T.length cap)).toArray Q.ty (0, 0)) := by rw [hap.block _ hPW.lt (fun e => hP.ne e.symm)]; exact hPW.obj
  have hbpW : Boxed w12 bp 65 (.pointer (some ⟨g, o, none⟩)) := (hap.block _ (Boxed.below hbp11 hba).lt (Ne.symm n3)).trans (Boxed.below hbp11 hba)
  have hbsW : Boxed w12 bs 3 (.int .i64 z') := (hap.block _ (Boxed.below hk11 hba).lt n5).trans (Boxed.below hk11 hba)
  have hsz : w10.heap.size ≤ W.heap.size := Nat.le_trans ha.size hba.size
  refine ⟨⟨hbp11.cell, hP11.cells.2.2.2⟩, b2, cap2, w12, hrun, ⟨hbpW.cell, at_row hobj (Nest.get hP.off _ _ _ _).2.2.2⟩, frozen_of_row _ _ (o + 3) _ _ hobj, hPW.push hst hap hb2 (hs.below hba) hg, Boxed.row hbpW _ (Ne.symm n2), Boxed.row hbsW _ n4, ?_, ?_⟩
  · have h1 : Apart (fun k => k = g ∨ k = b ∨ k = bs) w10 W := (ha.mono fun k hk => .inr (.inr hk)).trans (Apart.of_below (F := fun _ => False) hba) (fun _ h => h.elim)
    exact (h1.trans hap (fun i hi => .inl (.inr (.inl hi)))).setCell (b := g) (.inl (.inl rfl)) (o + 3) _
  · rcases hb2 with h | h
    · exact .inl h
    · exact .inr (by omega)

/-- An append whose run is known. -/
theorem op_append_run {P : Program} {w w' : World} {o : Oper} {a : Act} {K : Act → World → Prop} {Q : Exit → Act → World → Prop} (s x : Operand) (t : TypeId)
    (ho : o.op = .call { callee := .builtin .append, args := #[s, x], argTypes := #[t, t] }) (v u r : Value) (hs : a.eval s = v) (hx : a.eval x = u)
    (hrun : (Builtin.append_ #[t, t] o.type #[v, u]).run P w = .ok r w') (h : K (a.put o.dst r) w') : Oper.wp P o a w K Q := by
  unfold Oper.wp execOp
  simp only [ho, resolve, invoke, builtin, Sem.run_bind, Sem.run_pure, Result.andThen_ok, List.map_toArray, List.map_cons, List.map_nil, hs, hx, hrun]
  exact h

set_option maxHeartbeats 3200000 in
set_option maxRecDepth 20000 in
theorem preach_ok (w : World) (Q : Nest) (o g b cap : Nat) (v0 : Value) (key : List UInt8) (n told steps : Nat) (x : Stone) (T : List Stone) (h : Peb Q o w g b cap v0 key n told steps (x :: T)) (hF : FTab w) (hT : KTab w) :
    Calls Tryz.prog 48 #[.pointer (some ⟨g, o, none⟩)] w fun e w' => ∃ b' cap' T', e = .returned (.int .i64 ((x.1 - told - 1 : Nat) : Int)) ∧ Peb Q o w' g b' cap' v0 key n told steps T' ∧ T'.map Prod.fst = layL 256 told ((x :: T).map Prod.fst) ∧
      Apart (fun k => k = g ∨ k = b) w w' ∧ (b' = b ∨ w.heap.size ≤ b') := by
  have hmf : ∀ (fn : Fn) (first cap : Array Value) (w : World), (Instr.makeFunc fn first cap).run Tryz.prog w = .ok (.func fn first cap) w := fun _ _ _ _ => rfl
  obtain ⟨p0, hp0⟩ : ∃ p0, p0 = x.1 := ⟨_, rfl⟩
  obtain ⟨F0, hF0⟩ : ∃ F0, F0 = layL 256 told ((x :: T).map Prod.fst) := ⟨_, rfl⟩
  rw [← hp0, ← hF0]
  obtain ⟨bp, hbp⟩ : ∃ bp, bp = w.heap.size := ⟨_, rfl⟩
  obtain ⟨W, hW⟩ : ∃ W, W = (w.alloc (.cells #[.pointer (some ⟨g, o, none⟩)] 65)).alloc (.cells #[.int .i64 0] 3) := ⟨_, rfl⟩
  have hb : Below w.heap.size w W := by rw [hW]; exact ((Below.refl _ _).alloc (Nat.le_refl _) _).alloc (by simp) _
  have B1 : Boxed W bp 65 (.pointer (some ⟨g, o, none⟩)) := by
    rw [hW, hbp]; exact (Boxed.new w 65 _).alloc _
  have B2 : Boxed W (bp + 1) 3 (.int .i64 0) := by
    have := Boxed.new (w.alloc (.cells #[.pointer (some ⟨g, o, none⟩)] 65)) 3 (.int .i64 0)
    rw [World.size_alloc] at this
    rw [hW, hbp]; exact this
  have hPW := h.keep hb
  have hpn := (h.good.mem x.1 (by simp)).2
  have hptold := (h.good.mem x.1 (by simp)).1
  have hmost := h.most
  have HPM : Hid (p0 ≤ 256 ∧ told < p0) := ⟨by omega, by omega⟩
  have R0 : ∃ (b' cap' : Nat) (y : Stone) (T' : List Stone) (k f : Nat), Peb Q o W g b' cap' v0 key n told steps (y :: T') ∧ Boxed W bp 65 (.pointer (some ⟨g, o, none⟩)) ∧ Boxed W (bp + 1) 3 (.int .i64 (k : Int)) ∧ k + (y.1 - told - 1) = p0 - told - 1 ∧ y.1 ≤ told + f ∧ layL f told ((y :: T').map Prod.fst) = F0 ∧ Apart (fun k => k = g ∨ k = b) w W ∧ (b' = b ∨ w.heap.size ≤ b') :=
    ⟨b, cap, x, T, 0, 256, hPW, B1, B2, by omega, by omega, hF0.symm, Apart.of_below hb, .inl rfl⟩
  have HW : Hid (W = (w.alloc (.cells #[.pointer (some ⟨g, o, none⟩)] 65)).alloc (.cells #[.int .i64 0] 3)) := hW
  have HBP : Hid (bp = w.heap.size) := hbp
  have HH : Hid (Peb Q o w g b cap v0 key n told steps (x :: T)) := h
  have HF : Hid (FTab w) := hF
  have HT : Hid (KTab w) := hT
  clear hW hF hT h hb B1 B2 hPW hpn hptold hmost hbp hp0 hF0
  go_enter Tryz.func48, Tryz.ntmps48
  go_upto_region 2 with fail
  rw [← HW.out, ← HBP.out]
  go_wp2
  go_loopw [] (fun wr => ∃ (b' cap' : Nat) (y : Stone) (T' : List Stone) (k f : Nat), Peb Q o wr g b' cap' v0 key n told steps (y :: T') ∧ Boxed wr bp 65 (.pointer (some ⟨g, o, none⟩)) ∧ Boxed wr (bp + 1) 3 (.int .i64 (k : Int)) ∧ k + (y.1 - told - 1) = p0 - told - 1 ∧ y.1 ≤ told + f ∧ layL f told ((y :: T').map Prod.fst) = F0 ∧ Apart (fun k => k = g ∨ k = b) w wr ∧ (b' = b ∨ w.heap.size ≤ b')) (fun wr => p0 - (intOf ((wr.cell? ⟨bp + 1, 0, none⟩).getD undef)).toNat)
  case atStart => exact R0
  case round =>
    clear R0
    obtain ⟨b', cap', ⟨p, d, cd⟩, T', k, f, hP, B1, B2, hk, hf, hlay, hap, hbb⟩ := hrel
    dsimp only at hk hf
    have htp := (hP.good.mem p (by simp)).1
    obtain ⟨c0, c1, c2, c3⟩ := hP.cells
    have cb := B1.cell
    have K21 : Hid (∀ V, Below wr.heap.size wr V → Calls Tryz.prog 50 #[.pointer (some ⟨g, o, none⟩)] V fun e w' => e = .returned (.agg #[.int .i64 (p : Int), .slice d 16 cd]) ∧ Below wr.heap.size wr w') := fun V hV => by
      refine (top_ok V Q o g b' cap' v0 key n told steps (p, d, cd) T' (hP.keep hV)).mono ?_
      rintro e w' ⟨rfl, hb'⟩
      exact ⟨rfl, hV.trans (hb'.mono hV.size)⟩
    have H0 : Hid ((wr.cell? ⟨bp, 0, none⟩ = some (.pointer (some ⟨g, o, none⟩)) ∧ wr.cell? ⟨g, o + 1, none⟩ = some (.int .i64 (told : Int))) ∧ Below wr.heap.size wr wr) := ⟨⟨cb, c1⟩, Below.refl _ _⟩
    have HP : Hid (Peb Q o wr g b' cap' v0 key n told steps ((p, d, cd) :: T')) := hP
    have HB : Hid (Boxed wr bp 65 (.pointer (some ⟨g, o, none⟩)) ∧ Boxed wr (bp + 1) 3 (.int .i64 (k : Int))) := ⟨B1, B2⟩
    have HL : Hid (layL f told (((p, d, cd) :: T').map Prod.fst) = F0) := hlay
    have HA : Hid (Apart (fun k => k = g ∨ k = b) w wr ∧ (b' = b ∨ w.heap.size ≤ b')) := ⟨hap, hbb⟩
    have HN : Hid (k + (p - told - 1) = p0 - told - 1 ∧ p ≤ told + f ∧ told < p) := ⟨hk, hf, htp⟩
    have hpm : p ≤ 256 := by have := HPM.out; omega
    have htm : told ≤ 256 := by omega
    clear hP B1 B2 hlay hap hbb c0 c1 c2 c3 cb hk hf
    have ewr : IntKind.i64.wrap ((told : Int) + 1) = (told : Int) + 1 := by rw [IntKind.wrap_i64]; omega
    by_cases hgo : told + 1 < p
    · have dgo : ((told : Int) + 1 < (p : Int)) := by omega
      have hfl : ∀ W, (Instr.field 90 (.agg #[.int .i64 (p : Int), .slice d 16 cd]) 0).run Tryz.prog W = .ok (.int .i64 (p : Int)) W := field_place _ _
      go_wp2
      go_region_held3 (fun V => (V.cell? ⟨bp, 0, none⟩ = some (.pointer (some ⟨g, o, none⟩)) ∧ V.cell? ⟨g, o + 1, none⟩ = some (.int .i64 (told : Int))) ∧ Below wr.heap.size wr V)
        (first | exact H0.out | assumption | exact H0.out.drew | exact TwoAt.drew (by assumption) | exact TwoAt.of H0.out.1.1 H0.out.1.2 (by assumption))
        (first | (go_at_call 50; (with_reducible refine (K21.out _ ?_).mono ?_); (focus (exact (Below.refl _ _).drew)); rintro e w9 ⟨rfl, hb9⟩))
      have hP9 := HP.out.keep hb9
      have hbp9 := Boxed.below HB.out.1 hb9
      have hbs9 := Boxed.below HB.out.2 hb9
      obtain ⟨_, c1, _, c3⟩ := hP9.cells
      have cb := hbp9.cell
      obtain ⟨L, hL⟩ : ∃ L, L = T'.length + 1 := ⟨_, rfl⟩
      rw [List.length_cons, ← hL] at c3
      have KT : Hid (∀ V, Below w9.heap.size w9 V → Calls Tryz.prog 50 #[.pointer (some ⟨g, o, none⟩)] V fun e w' => e = .returned (.agg #[.int .i64 (p : Int), .slice d 16 cd]) ∧ Below w9.heap.size w9 w') := fun V hV => by
        refine (top_ok V Q o g b' cap' v0 key n told steps (p, d, cd) T' (hP9.keep hV)).mono ?_
        rintro e w' ⟨rfl, hb'⟩
        exact ⟨rfl, hV.trans (hb'.mono hV.size)⟩
      have hb09 : Apart (fun k => k = g ∨ k = b) w w9 := HA.out.1.trans (Apart.of_below (F := fun _ => False) hb9) (fun _ h => h.elim)
      obtain ⟨q, hq⟩ : ∃ q, q = told + (p - told) / 2 := ⟨_, rfl⟩
      obtain ⟨X, hX⟩ : ∃ X, X = k + (p - q) := ⟨_, rfl⟩
      have HQ : Hid (X + (q - told - 1) = p0 - told - 1 ∧ told < q ∧ q < p ∧ k < X) := by
        show X + (q - told - 1) = p0 - told - 1 ∧ told < q ∧ q < p ∧ k < X
        have := HN.out; omega
      have HLQ : Hid (∃ f', q ≤ told + f' ∧ layL f' told (q :: p :: T'.map Prod.fst) = F0) := by
        obtain ⟨f', rfl⟩ : ∃ f', f = f' + 1 := ⟨f - 1, by have := HN.out; omega⟩
        refine ⟨f', by have := HN.out; omega, ?_⟩
        rw [← HL.out, hq]
        exact (layL_more f' told p _ hgo).symm
      have KH : Hid (∀ V, Below w9.heap.size w9 V → Calls Tryz.prog 73 #[.agg #[.int .i64 (p : Int), .slice d 16 cd], .pointer (some ⟨bp, 0, none⟩), .pointer (some ⟨bp + 1, 0, none⟩)] V fun e w' => ∃ d' c' b2 cap2 w12, e = .returned (.agg #[.int .i64 (q : Int), .slice d' 16 c']) ∧
          (w'.cell? ⟨bp, 0, none⟩ = some (.pointer (some ⟨g, o, none⟩)) ∧ w'.cell? ⟨g, o + 3, none⟩ = some (.slice (some ⟨b', 0, none⟩) L cap')) ∧
          (Builtin.append_ #[57, 57] 57 #[.slice (some ⟨b', 0, none⟩) L cap', .slice (some ⟨w'.heap.size, 0, none⟩) 1 1]).run Tryz.prog (w'.alloc (.cells #[.int .i64 (q : Int), .slice d' 16 c'] 90)) = .ok (.slice (some ⟨b2, 0, none⟩) (L + 1) cap2) w12 ∧
          (w12.cell? ⟨bp, 0, none⟩ = some (.pointer (some ⟨g, o, none⟩)) ∧ w12.cell? ⟨g, o + 3, none⟩ = some (.slice (some ⟨b', 0, none⟩) L cap')) ∧ w12.frozen? ⟨g, o + 3, none⟩ = false ∧
          Hid (Peb Q o (w12.setCell ⟨g, o + 3, none⟩ (.slice (some ⟨b2, 0, none⟩) (L + 1) cap2)) g b2 cap2 v0 key n told steps ((q, d', c') :: (p, d, cd) :: T') ∧ Boxed (w12.setCell ⟨g, o + 3, none⟩ (.slice (some ⟨b2, 0, none⟩) (L + 1) cap2)) bp 65 (.pointer (some ⟨g, o, none⟩)) ∧
            Boxed (w12.setCell ⟨g, o + 3, none⟩ (.slice (some ⟨b2, 0, none⟩) (L + 1) cap2)) (bp + 1) 3 (.int .i64 (X : Int)) ∧ Apart (fun k => k = g ∨ k = b) w (w12.setCell ⟨g, o + 3, none⟩ (.slice (some ⟨b2, 0, none⟩) (L + 1) cap2)) ∧ (b2 = b ∨ w.heap.size ≤ b2))) := fun V hV => by
        have hPV := hP9.keep hV
        have hbpV := Boxed.below hbp9 hV
        have hbsV := Boxed.below hbs9 hV
        have h0V : Apart (fun k => k = g ∨ k = b) w V := hb09.trans (Apart.of_below (F := fun _ => False) hV) (fun _ h => h.elim)
        have hFV : FTab V := HF.out.peb HH.out h0V
        have hTV : KTab V := HT.out.peb HH.out h0V
        have hsee := hPV.keys (p, d, cd) (by simp)
        have hkm : k ≤ 100000 := by have := HN.out; have := HPM.out; omega
        have hnm := hP9.most
        have hpn := (hP9.good.mem p (by simp)).2
        refine (halve_ok V o g bp (bp + 1) p told k d cd _ hbpV hbsV hPV.cells.2.1 hsee (backL_len _ _ hP9.len) hgo hpm hkm hFV hTV).mono ?_
        rintro e w' ⟨d', c', rfl, hs', hk', ha'⟩
        rw [← hq] at hs' hk' ⊢
        rw [← hX] at hk'
        have hbk : backL (p - q) (backL (n - p) key) = backL (n - q) key := by rw [← backL_add]; congr 1; have := HQ.out; omega
        dsimp only at hs'
        rw [hbk] at hs'
        have hgd : Good n told (q :: ((p, d, cd) :: T').map Prod.fst) := by
          have := hP9.good
          exact ⟨HQ.out.2.1, HQ.out.2.2.1, this.2⟩
        obtain ⟨s11, b2, cap2, w12, hrun, s12, f12, hPf, hbpf, hbsf, hapf, hbf⟩ := lay_step hPV hbpV hbsV ha' hk' hs' hgd
        rw [List.length_cons, ← hL] at s11 s12 hrun hPf hbpf hbsf hapf
        refine ⟨d', c', b2, cap2, w12, rfl, s11, hrun, s12, f12, hPf, hbpf, hbsf, h0V.trans hapf ?_, ?_⟩
        · rintro i (h | h | h)
          · exact .inl (.inl h)
          · rcases HA.out.2 with h' | h'
            · exact .inl (.inr (h.trans h'))
            · exact .inr (by omega)
          · exact .inr (by have := HBP.out; omega)
        · rcases hbf with h | h
          · rw [h]; exact HA.out.2
          · exact .inr (Nat.le_trans h0V.size h)
      have H4 : Hid (w9.cell? ⟨bp, 0, none⟩ = some (.pointer (some ⟨g, o, none⟩)) ∧ w9.cell? ⟨g, o + 3, none⟩ = some (.slice (some ⟨b', 0, none⟩) L cap')) := ⟨cb, c3⟩
      clear K21 H0 hb9 hP9 hbp9 hbs9 c1 c3 cb hL hb09 hq hX
      go_wp2
      have c3d : w9.drew.cell? ⟨g, o + 3, none⟩ = some (.slice (some ⟨b', 0, none⟩) L cap') := H4.out.2
      refine wp_region_noPanic ?_
      refine wp_region_held (S := fun V => V.cell? ⟨bp, 0, none⟩ = some (.pointer (some ⟨g, o, none⟩))) (by kernel_rfl) ?_
      have hS := (show (fun V => V.cell? ⟨bp, 0, none⟩ = some (.pointer (some ⟨g, o, none⟩))) w9.drew from H4.out.1)
      refine any_take 0 ?vrrn1 rfl (by kernel_rfl) (by kernel_rfl) (by kernel_rfl) (fun _ _ _ h => h) (by rfl) ?hrrn1 hS ?_
      case hrrn1 => (intro w hSw; (try dsimp only at hSw); go_split_ands; go_simp; (try with_reducible rfl))
      (try simp only [Act.put, List.setIfInBounds_toArray, List.set_cons_zero, List.set_cons_succ])
      refine any_take 1 ?vrrn2 rfl (by kernel_rfl) (by kernel_rfl) (by kernel_rfl) (fun _ _ _ h => h) (by rfl) ?hrrn2 hS ?_
      case hrrn2 => (intro w hSw; (try dsimp only at hSw); go_split_ands; go_simp; (try with_reducible rfl))
      (try simp only [Act.put, List.setIfInBounds_toArray, List.set_cons_zero, List.set_cons_succ])
      refine any_take 2 ?vrrn3 rfl (by kernel_rfl) (by kernel_rfl) (by kernel_rfl) (fun _ _ _ h => h) (by rfl) ?hrrn3 hS ?_
      case hrrn3 => (intro w hSw; (try dsimp only at hSw); go_split_ands; go_simp; (try with_reducible rfl))
      (try simp only [Act.put, List.setIfInBounds_toArray, List.set_cons_zero, List.set_cons_succ])
      refine any_take 3 ?vrrn4 rfl (by kernel_rfl) (by kernel_rfl) (by kernel_rfl) (fun _ _ _ h => h) (by rfl) ?hrrn4 hS ?_
      case hrrn4 => (intro w hSw; (try dsimp only at hSw); go_split_ands; go_simp; (try with_reducible rfl))
      (try simp only [Act.put, List.setIfInBounds_toArray, List.set_cons_zero, List.set_cons_succ])
      refine any_take 5 ?vrrn5 rfl (by kernel_rfl) (by kernel_rfl) (by kernel_rfl) (fun _ _ _ h => h) (by rfl) ?hrrn5 hS ?_
      case hrrn5 => (intro w hSw; (try dsimp only at hSw); go_split_ands; go_simp; (try with_reducible rfl))
      (try simp only [Act.put, List.setIfInBounds_toArray, List.set_cons_zero, List.set_cons_succ])
      refine any_take 6 ?vrrn6 rfl (by kernel_rfl) (by kernel_rfl) (by kernel_rfl) (fun _ _ _ h => h) (by rfl) ?hrrn6 hS ?_
      case hrrn6 => (intro w hSw; (try dsimp only at hSw); go_split_ands; go_simp; (try with_reducible rfl))
      (try simp only [Act.put, List.setIfInBounds_toArray, List.set_cons_zero, List.set_cons_succ])
      refine any_two 4 7 rfl rfl (by kernel_rfl) (by rfl) (by rfl) (fun K hK => ?_) (fun K hK => ?_)
      · have hSS : _ := hS
        clear hS
        go_simp
        refine hK.out _ _ (hSS) (fun hS => ?_)
        clear hK
        (try simp only [Act.put, List.setIfInBounds_toArray, List.set_cons_zero, List.set_cons_succ])
        refine any_one 7 rfl (by kernel_rfl) (by rfl) (fun K hK => ?_)
        have hSS : _ := hS
        clear hS
        go_simp
        refine (KT.out _ ((Below.refl _ _).drew)).mono ?_
        rintro e w10 ⟨rfl, hb10⟩
        have s10 := Two.below H4.out hb10
        have c10 := s10.2
        clear hSS
        refine hK.out _ _ (s10.1) (fun hS => ?_)
        clear hK
        (try simp only [Act.put, List.setIfInBounds_toArray, List.set_cons_zero, List.set_cons_succ])
        refine any_one 8 rfl (by kernel_rfl) (by rfl) (fun K hK => ?_)
        have hSS : _ := hS
        clear hS
        go_simp
        refine (KH.out _ hb10).mono ?_
        rintro e w11 ⟨d', c', b2, cap2, w12, rfl, s11, hrun, s12, f12, hfin⟩
        have c11 := s11.2
        clear hSS
        refine hK.out _ _ (s11.1) (fun hS => ?_)
        clear hK
        (try simp only [Act.put, List.setIfInBounds_toArray, List.set_cons_zero, List.set_cons_succ])
        refine any_one 9 rfl (by kernel_rfl) (by rfl) (fun K hK => ?_)
        have hSS : _ := hS
        clear hS
        go_simp
        have s11a := Two.alloc s11 (.cells #[.int .i64 (q : Int), .slice d' 16 c'] 90)
        have c11a := s11a.2
        clear hSS
        refine hK.out _ _ (s11a.1) (fun hS => ?_)
        clear hK
        (try simp only [Act.put, List.setIfInBounds_toArray, List.set_cons_zero, List.set_cons_succ])
        refine any_one 10 rfl (by kernel_rfl) (by rfl) (fun K hK => ?_)
        have hSS : _ := hS
        clear hS
        refine op_append_run _ _ 57 rfl _ _ _ rfl rfl hrun ?_
        have c12 := s12.2
        clear hSS
        refine hK.out _ _ (s12.1) (fun hS => ?_)
        clear hK
        (try simp only [Act.put, List.setIfInBounds_toArray, List.set_cons_zero, List.set_cons_succ])
        refine any_take 11 ?vrrn7 rfl (by kernel_rfl) (by kernel_rfl) (by kernel_rfl) (fun _ _ _ h => h) (by rfl) ?hrrn7 hS ?_
        case hrrn7 => (intro w hSw; (try dsimp only at hSw); go_split_ands; go_simp; (try with_reducible rfl))
        (try simp only [Act.put, List.setIfInBounds_toArray, List.set_cons_zero, List.set_cons_succ])
        refine any_take 12 ?vrrn8 rfl (by kernel_rfl) (by kernel_rfl) (by kernel_rfl) (fun _ _ _ h => h) (by rfl) ?hrrn8 hS ?_
        case hrrn8 => (intro w hSw; (try dsimp only at hSw); go_split_ands; go_simp; (try with_reducible rfl))
        (try simp only [Act.put, List.setIfInBounds_toArray, List.set_cons_zero, List.set_cons_succ])
        refine any_one 13 rfl (by kernel_rfl) (by rfl) (fun K hK => ?_)
        have hSS : _ := hS
        clear hS
        go_simp
        clear hSS
        refine hK.out _ _ (hfin.out.2.1.cell) (fun hS => ?_)
        clear hK
        (try simp only [Act.put, List.setIfInBounds_toArray, List.set_cons_zero, List.set_cons_succ])
        refine wpAnyH_done (by kernel_rfl) ?_ _
        refine NoPanic.normal ?_
        clear hS s10 s11 s12 s11a c10 c11 c11a c12 f12 hrun hb10 KT KH H4 c3d
        go_wp2
        go_roundw
        case rel =>
          obtain ⟨f', hf', hlay'⟩ := HLQ.out
          exact ⟨b2, cap2, (q, d', c'), (p, d, cd) :: T', X, f', hfin.out.1, hfin.out.2.1, hfin.out.2.2.1, HQ.out.1, hf', hlay', hfin.out.2.2.2.1, hfin.out.2.2.2.2⟩
        case measure =>
          have h1 := hfin.out.2.2.1.cell
          have h2 := HB.out.2.cell
          have h3 := HQ.out
          have h4 := HPM.out
          rw [h1, h2]
          simp [intOf]
          omega
      · have hSS : _ := hS
        clear hS
        go_simp
        refine (KT.out _ ((Below.refl _ _).drew)).mono ?_
        rintro e w10 ⟨rfl, hb10⟩
        have s10 := Two.below H4.out hb10
        have c10 := s10.2
        clear hSS
        refine hK.out _ _ (s10.1) (fun hS => ?_)
        clear hK
        (try simp only [Act.put, List.setIfInBounds_toArray, List.set_cons_zero, List.set_cons_succ])
        refine any_two 4 8 rfl rfl (by kernel_rfl) (by rfl) (by rfl) (fun K hK => ?_) (fun K hK => ?_)
        · have hSS : _ := hS
          clear hS
          go_simp
          refine hK.out _ _ (hSS) (fun hS => ?_)
          clear hK
          (try simp only [Act.put, List.setIfInBounds_toArray, List.set_cons_zero, List.set_cons_succ])
          refine any_one 8 rfl (by kernel_rfl) (by rfl) (fun K hK => ?_)
          have hSS : _ := hS
          clear hS
          go_simp
          refine (KH.out _ hb10).mono ?_
          rintro e w11 ⟨d', c', b2, cap2, w12, rfl, s11, hrun, s12, f12, hfin⟩
          have c11 := s11.2
          clear hSS
          refine hK.out _ _ (s11.1) (fun hS => ?_)
          clear hK
          (try simp only [Act.put, List.setIfInBounds_toArray, List.set_cons_zero, List.set_cons_succ])
          refine any_one 9 rfl (by kernel_rfl) (by rfl) (fun K hK => ?_)
          have hSS : _ := hS
          clear hS
          go_simp
          have s11a := Two.alloc s11 (.cells #[.int .i64 (q : Int), .slice d' 16 c'] 90)
          have c11a := s11a.2
          clear hSS
          refine hK.out _ _ (s11a.1) (fun hS => ?_)
          clear hK
          (try simp only [Act.put, List.setIfInBounds_toArray, List.set_cons_zero, List.set_cons_succ])
          refine any_one 10 rfl (by kernel_rfl) (by rfl) (fun K hK => ?_)
          have hSS : _ := hS
          clear hS
          refine op_append_run _ _ 57 rfl _ _ _ rfl rfl hrun ?_
          have c12 := s12.2
          clear hSS
          refine hK.out _ _ (s12.1) (fun hS => ?_)
          clear hK
          (try simp only [Act.put, List.setIfInBounds_toArray, List.set_cons_zero, List.set_cons_succ])
          refine any_take 11 ?vrrn9 rfl (by kernel_rfl) (by kernel_rfl) (by kernel_rfl) (fun _ _ _ h => h) (by rfl) ?hrrn9 hS ?_
          case hrrn9 => (intro w hSw; (try dsimp only at hSw); go_split_ands; go_simp; (try with_reducible rfl))
          (try simp only [Act.put, List.setIfInBounds_toArray, List.set_cons_zero, List.set_cons_succ])
          refine any_take 12 ?vrrn10 rfl (by kernel_rfl) (by kernel_rfl) (by kernel_rfl) (fun _ _ _ h => h) (by rfl) ?hrrn10 hS ?_
          case hrrn10 => (intro w hSw; (try dsimp only at hSw); go_split_ands; go_simp; (try with_reducible rfl))
          (try simp only [Act.put, List.setIfInBounds_toArray, List.set_cons_zero, List.set_cons_succ])
          refine any_one 13 rfl (by kernel_rfl) (by rfl) (fun K hK => ?_)
          have hSS : _ := hS
          clear hS
          go_simp
          clear hSS
          refine hK.out _ _ (hfin.out.2.1.cell) (fun hS => ?_)
          clear hK
          (try simp only [Act.put, List.setIfInBounds_toArray, List.set_cons_zero, List.set_cons_succ])
          refine wpAnyH_done (by kernel_rfl) ?_ _
          refine NoPanic.normal ?_
          clear hS s10 s11 s12 s11a c10 c11 c11a c12 f12 hrun hb10 KT KH H4 c3d
          go_wp2
          go_roundw
          case rel =>
            obtain ⟨f', hf', hlay'⟩ := HLQ.out
            exact ⟨b2, cap2, (q, d', c'), (p, d, cd) :: T', X, f', hfin.out.1, hfin.out.2.1, hfin.out.2.2.1, HQ.out.1, hf', hlay', hfin.out.2.2.2.1, hfin.out.2.2.2.2⟩
          case measure =>
            have h1 := hfin.out.2.2.1.cell
            have h2 := HB.out.2.cell
            have h3 := HQ.out
            have h4 := HPM.out
            rw [h1, h2]
            simp [intOf]
            omega
        · have hSS : _ := hS
          clear hS
          go_simp
          refine (KH.out _ hb10).mono ?_
          rintro e w11 ⟨d', c', b2, cap2, w12, rfl, s11, hrun, s12, f12, hfin⟩
          have c11 := s11.2
          clear hSS
          refine hK.out _ _ (s11.1) (fun hS => ?_)
          clear hK
          (try simp only [Act.put, List.setIfInBounds_toArray, List.set_cons_zero, List.set_cons_succ])
          refine any_two 4 9 rfl rfl (by kernel_rfl) (by rfl) (by rfl) (fun K hK => ?_) (fun K hK => ?_)
          · have hSS : _ := hS
            clear hS
            go_simp
            refine hK.out _ _ (hSS) (fun hS => ?_)
            clear hK
            (try simp only [Act.put, List.setIfInBounds_toArray, List.set_cons_zero, List.set_cons_succ])
            refine any_one 9 rfl (by kernel_rfl) (by rfl) (fun K hK => ?_)
            have hSS : _ := hS
            clear hS
            go_simp
            have s11a := Two.alloc s11 (.cells #[.int .i64 (q : Int), .slice d' 16 c'] 90)
            have c11a := s11a.2
            clear hSS
            refine hK.out _ _ (s11a.1) (fun hS => ?_)
            clear hK
            (try simp only [Act.put, List.setIfInBounds_toArray, List.set_cons_zero, List.set_cons_succ])
            refine any_one 10 rfl (by kernel_rfl) (by rfl) (fun K hK => ?_)
            have hSS : _ := hS
            clear hS
            refine op_append_run _ _ 57 rfl _ _ _ rfl rfl hrun ?_
            have c12 := s12.2
            clear hSS
            refine hK.out _ _ (s12.1) (fun hS => ?_)
            clear hK
            (try simp only [Act.put, List.setIfInBounds_toArray, List.set_cons_zero, List.set_cons_succ])
            refine any_take 11 ?vrrn11 rfl (by kernel_rfl) (by kernel_rfl) (by kernel_rfl) (fun _ _ _ h => h) (by rfl) ?hrrn11 hS ?_
            case hrrn11 => (intro w hSw; (try dsimp only at hSw); go_split_ands; go_simp; (try with_reducible rfl))
            (try simp only [Act.put, List.setIfInBounds_toArray, List.set_cons_zero, List.set_cons_succ])
            refine any_take 12 ?vrrn12 rfl (by kernel_rfl) (by kernel_rfl) (by kernel_rfl) (fun _ _ _ h => h) (by rfl) ?hrrn12 hS ?_
            case hrrn12 => (intro w hSw; (try dsimp only at hSw); go_split_ands; go_simp; (try with_reducible rfl))
            (try simp only [Act.put, List.setIfInBounds_toArray, List.set_cons_zero, List.set_cons_succ])
            refine any_one 13 rfl (by kernel_rfl) (by rfl) (fun K hK => ?_)
            have hSS : _ := hS
            clear hS
            go_simp
            clear hSS
            refine hK.out _ _ (hfin.out.2.1.cell) (fun hS => ?_)
            clear hK
            (try simp only [Act.put, List.setIfInBounds_toArray, List.set_cons_zero, List.set_cons_succ])
            refine wpAnyH_done (by kernel_rfl) ?_ _
            refine NoPanic.normal ?_
            clear hS s10 s11 s12 s11a c10 c11 c11a c12 f12 hrun hb10 KT KH H4 c3d
            go_wp2
            go_roundw
            case rel =>
              obtain ⟨f', hf', hlay'⟩ := HLQ.out
              exact ⟨b2, cap2, (q, d', c'), (p, d, cd) :: T', X, f', hfin.out.1, hfin.out.2.1, hfin.out.2.2.1, HQ.out.1, hf', hlay', hfin.out.2.2.2.1, hfin.out.2.2.2.2⟩
            case measure =>
              have h1 := hfin.out.2.2.1.cell
              have h2 := HB.out.2.cell
              have h3 := HQ.out
              have h4 := HPM.out
              rw [h1, h2]
              simp [intOf]
              omega
          · have hSS : _ := hS
            clear hS
            go_simp
            have s11a := Two.alloc s11 (.cells #[.int .i64 (q : Int), .slice d' 16 c'] 90)
            have c11a := s11a.2
            clear hSS
            refine hK.out _ _ (s11a.1) (fun hS => ?_)
            clear hK
            (try simp only [Act.put, List.setIfInBounds_toArray, List.set_cons_zero, List.set_cons_succ])
            refine any_one 4 rfl (by kernel_rfl) (by rfl) (fun K hK => ?_)
            have hSS : _ := hS
            clear hS
            go_simp
            refine hK.out _ _ (hSS) (fun hS => ?_)
            clear hK
            (try simp only [Act.put, List.setIfInBounds_toArray, List.set_cons_zero, List.set_cons_succ])
            refine any_one 10 rfl (by kernel_rfl) (by rfl) (fun K hK => ?_)
            have hSS : _ := hS
            clear hS
            refine op_append_run _ _ 57 rfl _ _ _ rfl rfl hrun ?_
            have c12 := s12.2
            clear hSS
            refine hK.out _ _ (s12.1) (fun hS => ?_)
            clear hK
            (try simp only [Act.put, List.setIfInBounds_toArray, List.set_cons_zero, List.set_cons_succ])
            refine any_take 11 ?vrrn13 rfl (by kernel_rfl) (by kernel_rfl) (by kernel_rfl) (fun _ _ _ h => h) (by rfl) ?hrrn13 hS ?_
            case hrrn13 => (intro w hSw; (try dsimp only at hSw); go_split_ands; go_simp; (try with_reducible rfl))
            (try simp only [Act.put, List.setIfInBounds_toArray, List.set_cons_zero, List.set_cons_succ])
            refine any_take 12 ?vrrn14 rfl (by kernel_rfl) (by kernel_rfl) (by kernel_rfl) (fun _ _ _ h => h) (by rfl) ?hrrn14 hS ?_
            case hrrn14 => (intro w hSw; (try dsimp only at hSw); go_split_ands; go_simp; (try with_reducible rfl))
            (try simp only [Act.put, List.setIfInBounds_toArray, List.set_cons_zero, List.set_cons_succ])
            refine any_one 13 rfl (by kernel_rfl) (by rfl) (fun K hK => ?_)
            have hSS : _ := hS
            clear hS
            go_simp
            clear hSS
            refine hK.out _ _ (hfin.out.2.1.cell) (fun hS => ?_)
            clear hK
            (try simp only [Act.put, List.setIfInBounds_toArray, List.set_cons_zero, List.set_cons_succ])
            refine wpAnyH_done (by kernel_rfl) ?_ _
            refine NoPanic.normal ?_
            clear hS s10 s11 s12 s11a c10 c11 c11a c12 f12 hrun hb10 KT KH H4 c3d
            go_wp2
            go_roundw
            case rel =>
              obtain ⟨f', hf', hlay'⟩ := HLQ.out
              exact ⟨b2, cap2, (q, d', c'), (p, d, cd) :: T', X, f', hfin.out.1, hfin.out.2.1, hfin.out.2.2.1, HQ.out.1, hf', hlay', hfin.out.2.2.2.1, hfin.out.2.2.2.2⟩
            case measure =>
              have h1 := hfin.out.2.2.1.cell
              have h2 := HB.out.2.cell
              have h3 := HQ.out
              have h4 := HPM.out
              rw [h1, h2]
              simp [intOf]
              omega
    · have dgo : decide ((told : Int) + 1 < (p : Int)) = false := decide_eq_false (by omega)
      have hfl : ∀ W, (Instr.field 90 (.agg #[.int .i64 (p : Int), .slice d 16 cd]) 0).run Tryz.prog W = .ok (.int .i64 (p : Int)) W := field_place _ _
      have HFIN : Hid (((p, d, cd) :: T').map Prod.fst = F0 ∧ k = p0 - told - 1) := by
        refine ⟨?_, by have := HN.out; omega⟩
        rw [← HL.out, List.map_cons]; exact (layL_done f told p _ hgo).symm
      clear hgo
      go_wp2
      go_region_held3 (fun V => (V.cell? ⟨bp, 0, none⟩ = some (.pointer (some ⟨g, o, none⟩)) ∧ V.cell? ⟨g, o + 1, none⟩ = some (.int .i64 (told : Int))) ∧ Below wr.heap.size wr V)
        (first | exact H0.out | assumption | exact H0.out.drew | exact TwoAt.drew (by assumption) | exact TwoAt.of H0.out.1.1 H0.out.1.2 (by assumption))
        (first | (go_at_call 50; (with_reducible refine (K21.out _ ?_).mono ?_); (focus (exact (Below.refl _ _).drew)); rintro e w9 ⟨rfl, hb9⟩))
      have HP9 : Hid (Peb Q o w9 g b' cap' v0 key n told steps ((p, d, cd) :: T')) := HP.out.keep hb9
      have HA9 : Hid (Apart (fun k => k = g ∨ k = b) w w9) := HA.out.1.trans (Apart.of_below (F := fun _ => False) hb9) (fun _ h => h.elim)
      have cs := (Boxed.below HB.out.2 hb9).cell
      clear K21 H0 hb9
      go_wp2
      go_ret
      exact ⟨b', cap', (p, d, cd) :: T', by rw [← HFIN.out.2]; rfl, HP9.out, HFIN.out.1, HA9.out, HA.out.2⟩
end Go.Proofs.YtgncdnejmobjbaaGreatDoor
