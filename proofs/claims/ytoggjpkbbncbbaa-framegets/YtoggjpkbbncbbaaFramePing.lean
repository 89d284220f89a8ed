/-
  A hand's walk over pings.
-/
import Derived.Test.YtoggjpkbbncbbaaFrameHand
import Derived.Deep.DeepCutAuto
namespace Go.Proofs.Ytoggjpkbbncbbaa
open Go.ChangeShapes Go.WideShapes Go.ChangeAt Go.RowKit

/-- What a hand makes of a frame, and of its object. -/
def pingG {σ : Type} (fn : σ → Nat → Nat → Nat) (sn : σ → Nat → Nat → σ) (s : σ) (F : Fr) : Fr × σ :=
  let s1 := sn s F.t.toNat 4
  ({ F with t := fn s F.t.toNat 4, n := fn s1 F.n 64 }, sn s1 F.n 64)
def pongG {σ : Type} (fn : σ → Nat → Nat → Nat) (sn : σ → Nat → Nat → σ) (fl : σ → List UInt8 → Nat → List UInt8) (sl : σ → List UInt8 → Nat → σ) (s : σ) (F : Fr) : Fr × σ :=
  let p := pingG fn sn s F
  let s1 := sn p.2 p.1.m.toNat 48
  let s2 := sn s1 p.1.e.toNat 16
  let s3 := sn s2 p.1.s.toNat 24
  let s4 := sn s3 p.1.i.toNat 16
  ({ p.1 with m := fn p.2 p.1.m.toNat 48, e := fn s1 p.1.e.toNat 16, s := fn s2 p.1.s.toNat 24, i := fn s3 p.1.i.toNat 16, key := fl s4 p.1.key 16 }, sl s4 p.1.key 16)
def dataG {σ : Type} (fn : σ → Nat → Nat → Nat) (sn : σ → Nat → Nat → σ) (fl : σ → List UInt8 → Nat → List UInt8) (sl : σ → List UInt8 → Nat → σ) (s : σ) (F : Fr) : Fr × σ :=
  let s1 := sn s F.e.toNat 16
  let s2 := sn s1 F.r.toNat 24
  let s3 := sn s2 F.v.toNat 8
  let s4 := sn s3 F.i.toNat 16
  let s5 := sl s4 F.key 16
  let s6 := sn s5 F.body.length 5
  let z := fn s5 F.body.length 5
  ({ F with e := fn s F.e.toNat 16, r := fn s1 F.r.toNat 24, v := fn s2 F.v.toNat 8, i := fn s3 F.i.toNat 16, key := fl s4 F.key 16, body := fl s6 F.body z }, sl s6 F.body z)
def coreG {σ : Type} (fn : σ → Nat → Nat → Nat) (sn : σ → Nat → Nat → σ) (fl : σ → List UInt8 → Nat → List UInt8) (sl : σ → List UInt8 → Nat → σ) (s : σ) (F : Fr) : Fr × σ :=
  let s1 := sn s F.k.toNat 4
  let s2 := sn s1 F.f.toNat 4
  let G : Fr := { F with k := fn s F.k.toNat 4, f := fn s1 F.f.toNat 4 }
  if G.k = 1 then dataG fn sn fl sl s2 G else if G.k = 2 then pingG fn sn s2 G else if G.k = 3 then pongG fn sn fl sl s2 G else (G, s2)
def wholeG {σ : Type} (fn : σ → Nat → Nat → Nat) (sn : σ → Nat → Nat → σ) (fl : σ → List UInt8 → Nat → List UInt8) (sl : σ → List UInt8 → Nat → σ) (s : σ) (F : Fr) : Fr × σ :=
  let p := coreG fn sn fl sl s F
  ({ p.1 with tag := fl p.2 p.1.tag 8 }, sl p.2 p.1.tag 8)

/-- Numbers that a hand takes; the body's length apart. -/
structure InR0 (F : Fr) : Prop where
  k : 0 ≤ F.k ∧ F.k < 9223372036854775808
  f : 0 ≤ F.f ∧ F.f < 9223372036854775808
  t : 0 ≤ F.t ∧ F.t < 9223372036854775808
  e : 0 ≤ F.e ∧ F.e < 9223372036854775808
  s : 0 ≤ F.s ∧ F.s < 9223372036854775808
  r : 0 ≤ F.r ∧ F.r < 9223372036854775808
  n : F.n < 18446744073709551616
  m : 0 ≤ F.m ∧ F.m < 9223372036854775808
  v : 0 ≤ F.v ∧ F.v < 9223372036854775808
  i : 0 ≤ F.i ∧ F.i < 9223372036854775808
/-- What such a walk leaves: the frame G, the object's state s'. -/
def Leaves {σ : Type} (M : World → Nat → σ → (Nat → Prop) → Prop) (b : Nat) (w : World) (F0 : Nat → Prop) (p : Fr × σ) (e : Ending) (w' : World) : Prop :=
  ∃ A' F', e = .returned (.agg (frC p.1 A')) ∧ M w' b p.2 F' ∧ Apart F0 w w' ∧ (∀ k, F' k → F0 k ∨ w.heap.size ≤ k) ∧ Seen w' p.1 A' ∧ Clears F' p.1 A' ∧ InR0 p.1

/-- The end: the frame is stored as the result. -/
theorem Mid.stored {σ : Type} {i j : Nat} {r : Value} {M : World → Nat → σ → (Nat → Prop) → Prop} {b : Nat} {fn : σ → Nat → Nat → Nat} {sn : σ → Nat → Nat → σ} {fl : σ → List UInt8 → Nat → List UInt8} {sl : σ → List UInt8 → Nat → σ} (H : Hand i j r M b fn sn fl sl) {w : World} {F0 F1 : Nat → Prop} {s : σ} {G : Fr} {A : At} {W : World} (h : Mid i j r M b w F0 F1 s G A W) (hr : InR0 G) :
    ∃ W', (Instr.storeAt 25 (.pointer (some ⟨w.heap.size + 2, 0, none⟩)) (.agg (frC G A))).run Try.prog W = .ok () W' ∧ FrAt W' (w.heap.size + 2) G A ∧ Leaves M b w F0 (G, s) (.returned (.agg (frC G A))) W' := by
  have no : ¬ F1 (w.heap.size + 2) := fun hk => by
    rcases h.sub _ hk with h3 | h3
    · have := h.lt _ h3; omega
    · omega
  have ot : ∀ k, k ≠ w.heap.size + 2 → (W.setRow (w.heap.size + 2) (frC G A)).heap[k]? = W.heap[k]? := fun k hk => setRow_other _ _ _ _ hk
  have hb : ∀ (x : Option Addr) (c : Nat) (l : List UInt8), Sees W x c l → Sees (W.setRow (w.heap.size + 2) (frC G A)) x c l := fun x c l hs =>
    ⟨hs.fits, hs.room, hs.bare, fun hne => by
      obtain ⟨b', off, ha, hc⟩ := hs.at' hne
      refine ⟨b', off, ha, fun k y hy => ?_⟩
      rw [World.cell?_of_block (w := W) (ot b' (h.res.apart hs b' off ha hne)), hc k y hy]⟩
  refine ⟨_, h.res.stores G A, h.res.stored G A, A, F1, rfl, H.kept.keep h.obj (fun k hk => ot k (fun e => no (e ▸ hk))), ?_, fun k hk => ?_, ⟨hb _ _ _ h.seen.key, hb _ _ _ h.seen.body, hb _ _ _ h.seen.tag⟩, h.clear, hr⟩
  · refine ⟨h.apart.os, h.apart.tape, h.apart.output, Nat.le_trans h.apart.size (by simp), fun k hk hn => ?_⟩
    rw [ot k (by omega)]; exact h.apart.block k hk hn
  · rcases h.sub k hk with h3 | h3
    · exact .inl h3
    · right; omega
/-- A whole frame, stored in the frame's own box. -/
theorem Mid.put {σ : Type} {i j : Nat} {r : Value} {M : World → Nat → σ → (Nat → Prop) → Prop} {b : Nat} {fn : σ → Nat → Nat → Nat} {sn : σ → Nat → Nat → σ} {fl : σ → List UInt8 → Nat → List UInt8} {sl : σ → List UInt8 → Nat → σ} (H : Hand i j r M b fn sn fl sl) {w : World} {F0 F1 : Nat → Prop} {s : σ} {G : Fr} {A : At} {W : World} (h : Mid i j r M b w F0 F1 s G A W) (G' : Fr) (A' : At) (hs : Seen W G' A') (hc : Clears F1 G' A') :
    ∃ W', (Instr.storeAt 25 (.pointer (some ⟨w.heap.size + 1, 0, none⟩)) (.agg (frC G' A'))).run Try.prog W = .ok () W' ∧ Mid i j r M b w F0 F1 s G' A' W' := by
  have no : ¬ F1 (w.heap.size + 1) := fun hk => by
    rcases h.sub _ hk with h3 | h3
    · have := h.lt _ h3; omega
    · omega
  have ot : ∀ k, k ≠ w.heap.size + 1 → (W.setRow (w.heap.size + 1) (frC G' A')).heap[k]? = W.heap[k]? := fun k hk => setRow_other _ _ _ _ hk
  have hb : ∀ (x : Option Addr) (c : Nat) (l : List UInt8), Sees W x c l → Sees (W.setRow (w.heap.size + 1) (frC G' A')) x c l := fun x c l hs =>
    ⟨hs.fits, hs.room, hs.bare, fun hne => by
      obtain ⟨b', off, ha, hc⟩ := hs.at' hne
      refine ⟨b', off, ha, fun k y hy => ?_⟩
      rw [World.cell?_of_block (w := W) (ot b' (h.fr.apart hs b' off ha hne)), hc k y hy]⟩
  refine ⟨_, h.fr.stores G' A', by rw [ot _ (by omega)]; exact h.hand, h.fr.stored G' A', h.res.keep (ot _ (by omega)), H.kept.keep h.obj (fun k hk => ot k (fun e => no (e ▸ hk))), h.sub, hc, ⟨hb _ _ _ hs.key, hb _ _ _ hs.body, hb _ _ _ hs.tag⟩, ?_, h.lt⟩
  refine ⟨h.apart.os, h.apart.tape, h.apart.output, Nat.le_trans h.apart.size (by simp), fun k hk hn => ?_⟩
  rw [ot k (by omega)]; exact h.apart.block k hk hn
/-- A call of another walk. -/
theorem Mid.leaves {σ : Type} {i j : Nat} {r : Value} {M : World → Nat → σ → (Nat → Prop) → Prop} {b : Nat} {fn : σ → Nat → Nat → Nat} {sn : σ → Nat → Nat → σ} {fl : σ → List UInt8 → Nat → List UInt8} {sl : σ → List UInt8 → Nat → σ} (H : Hand i j r M b fn sn fl sl) {w : World} {F0 F1 : Nat → Prop} {s : σ} {G : Fr} {A : At} {W W1 : World} {p : Fr × σ} {e : Ending} (h : Mid i j r M b w F0 F1 s G A W) (hL : Leaves M b W F1 p e W1) :
    ∃ A' F2, e = .returned (.agg (frC p.1 A')) ∧ Mid i j r M b w F0 F2 p.2 G A W1 ∧ Seen W1 p.1 A' ∧ Clears F2 p.1 A' ∧ InR0 p.1 := by
  obtain ⟨A', F2, he, hm, ha, hf, hs, hc, hr⟩ := hL
  exact ⟨A', F2, he, h.keeps H hm ha hf, hs, hc, hr⟩

set_option maxHeartbeats 3200000 in
set_option maxRecDepth 20000 in
theorem ping_ok {σ : Type} {i j : Nat} {r : Value} {M : World → Nat → σ → (Nat → Prop) → Prop} {b : Nat} {fn : σ → Nat → Nat → Nat} {sn : σ → Nat → Nat → σ} {fl : σ → List UInt8 → Nat → List UInt8} {sl : σ → List UInt8 → Nat → σ} (H : Hand i j r M b fn sn fl sl)
    (w : World) (s0 : σ) (F0 : Nat → Prop) (G0 : Fr) (A0 : At) (hm : M w b s0 F0) (hs : Seen w G0 A0) (hcl : Clears F0 G0 A0) (hR : InR0 G0) :
    Calls Try.prog 55 #[.agg #[.func (.func i) #[r] #[], .func (.func j) #[r] #[]], .agg (frC G0 A0)] w fun e w' => Leaves M b w F0 (pingG fn sn s0 G0) e w' := by
  have hM0 := Mid.start H w s0 F0 G0 A0 hm hs hcl
  have HM0 : Hid (Mid i j r M b w F0 F0 s0 G0 A0 (((w.alloc (.cells #[.func (.func i) #[r] #[], .func (.func j) #[r] #[]] 52)).alloc (.cells (frC G0 A0) 25)).alloc (.cells #[.int .i64 0, .int .i64 0, .int .i64 0, .int .i64 0, .int .i64 0, .int .i64 0, .int .u64 0, .int .i64 0, .int .i64 0, .int .i64 0, .slice none 0 0, .slice none 0 0, .slice none 0 0] 25))) := hM0
  have HR0 : Hid (InR0 G0) := hR
  have HH : Hid (Hand i j r M b fn sn fl sl) := H
  have hen := H.ei
  have hej := H.ej
  clear hM0 hR hm hs hcl H
  go_enter Try.func55, Try.ntmps55
  go_upto_region 1 with fail
  generalize ((w.alloc (Obj.cells #[Value.func (Fn.func i) #[r] #[], Value.func (Fn.func j) #[r] #[]] 52)).alloc (Obj.cells (frC G0 A0) 25)).alloc (Obj.cells #[.int .i64 0, .int .i64 0, .int .i64 0, .int .i64 0, .int .i64 0, .int .i64 0, .int .u64 0, .int .i64 0, .int .i64 0, .int .i64 0, .slice none 0 0, .slice none 0 0, .slice none 0 0] 25) = X0 at *
  have y0 := HM0.out.cells.1
  have y1 := HM0.out.cells.2
  have c2 := HM0.out.fr.c2
  have hc := numI_ok HH.out X0 s0 F0 G0.t 4 HM0.out.obj HR0.out.t.1 HR0.out.t.2 (by omega)
  have bx1 := HH.out.lt s0 G0.t.toNat 4 (by have := HR0.out.t; omega) (by omega)
  obtain ⟨x1, ex1⟩ : ∃ x, x = fn s0 (G0.t.toNat) 4 := ⟨_, rfl⟩
  obtain ⟨s1, es1⟩ : ∃ t, t = sn s0 (G0.t.toNat) 4 := ⟨_, rfl⟩
  obtain ⟨G1, eG1⟩ : ∃ g : Fr, g = { G0 with t := x1 } := ⟨_, rfl⟩
  rw [← ex1] at hc bx1
  rw [← es1] at hc
  have HR1 : Hid (InR0 G1) := by
    rw [eG1]
    exact ⟨HR0.out.k, HR0.out.f, ⟨Int.natCast_nonneg _, by dsimp only; omega⟩, HR0.out.e, HR0.out.s, HR0.out.r, HR0.out.n, HR0.out.m, HR0.out.v, HR0.out.i⟩
  have EQ1 : Hid (x1 = fn s0 (G0.t.toNat) 4 ∧ s1 = sn s0 (G0.t.toNat) 4 ∧ G1 = { G0 with t := x1 }) := ⟨ex1, es1, eG1⟩
  clear ex1 es1 eG1 bx1
  go_wp2_with fail
  refine hc.mono ?_
  rintro e V1 ⟨rfl, hL⟩
  obtain ⟨F1, hM⟩ := HM0.out.call HH.out hL
  have d2 := hM.fr.c2
  have z2 := hM.fr.fz 2
  have HM1 : Hid (Mid i j r M b w F0 F1 s1 G1 A0 (V1.setCell ⟨w.heap.size + 1, 2, none⟩ (.int .i64 (x1 : Int)))) :=
    hM.set HH.out 2 _ G1 A0 (by rw [EQ1.out.2.2]; rfl) (by rw [EQ1.out.2.2]; exact ⟨hM.seen.key, hM.seen.body, hM.seen.tag⟩) (by rw [EQ1.out.2.2]; exact ⟨hM.clear.key, hM.clear.body, hM.clear.tag⟩)
  clear y0 y1 c2 hc hL hM
  go_upto_region 2 with fail
  clear d2 z2
  generalize V1.setCell ⟨w.heap.size + 1, 2, none⟩ (.int .i64 (x1 : Int)) = X1 at *
  have y0 := HM1.out.cells.1
  have y1 := HM1.out.cells.2
  have c6 := HM1.out.fr.c6
  have hc := numU_ok HH.out X1 s1 F1 G1.n 64 HM1.out.obj HR1.out.n (by omega)
  have bx2 := HH.out.lt64 s1 G1.n 64 HR1.out.n (by omega)
  obtain ⟨x2, ex2⟩ : ∃ x, x = fn s1 (G1.n) 64 := ⟨_, rfl⟩
  obtain ⟨s2, es2⟩ : ∃ t, t = sn s1 (G1.n) 64 := ⟨_, rfl⟩
  obtain ⟨G2, eG2⟩ : ∃ g : Fr, g = { G1 with n := x2 } := ⟨_, rfl⟩
  rw [← ex2] at hc bx2
  rw [← es2] at hc
  have HR2 : Hid (InR0 G2) := by
    rw [eG2]
    exact ⟨HR1.out.k, HR1.out.f, HR1.out.t, HR1.out.e, HR1.out.s, HR1.out.r, bx2, HR1.out.m, HR1.out.v, HR1.out.i⟩
  have EQ2 : Hid (x2 = fn s1 (G1.n) 64 ∧ s2 = sn s1 (G1.n) 64 ∧ G2 = { G1 with n := x2 }) := ⟨ex2, es2, eG2⟩
  clear ex2 es2 eG2 bx2
  go_wp2_with fail
  refine hc.mono ?_
  rintro e V2 ⟨rfl, hL⟩
  obtain ⟨F2, hM⟩ := HM1.out.call HH.out hL
  have d6 := hM.fr.c6
  have z6 := hM.fr.fz 6
  have HM2 : Hid (Mid i j r M b w F0 F2 s2 G2 A0 (V2.setCell ⟨w.heap.size + 1, 6, none⟩ (.int .u64 (x2 : Int)))) :=
    hM.set HH.out 6 _ G2 A0 (by rw [EQ2.out.2.2]; rfl) (by rw [EQ2.out.2.2]; exact ⟨hM.seen.key, hM.seen.body, hM.seen.tag⟩) (by rw [EQ2.out.2.2]; exact ⟨hM.clear.key, hM.clear.body, hM.clear.tag⟩)
  clear y0 y1 c6 hc hL hM
  go_upto_region 3 with fail
  clear d6 z6
  generalize V2.setCell ⟨w.heap.size + 1, 6, none⟩ (.int .u64 (x2 : Int)) = X2 at *
  have HL : Hid ((Instr.loadAt 25 (.pointer (some ⟨w.heap.size + 1, 0, none⟩))).run Try.prog X2 = .ok (.agg (frC G2 A0)) X2) := HM2.out.fr.loads
  obtain ⟨Y, hst, hY, hlv⟩ := HM2.out.stored HH.out HR2.out
  have HST : Hid ((Instr.storeAt 25 (.pointer (some ⟨w.heap.size + 2, 0, none⟩)) (.agg (frC G2 A0))).run Try.prog X2 = .ok () Y) := hst
  have HY : Hid (FrAt Y (w.heap.size + 2) G2 A0) := hY
  have HLV : Hid (Leaves M b w F0 (G2, s2) (.returned (.agg (frC G2 A0))) Y) := hlv
  clear hst hY hlv
  go_wp2_with (first | (refine wpList_gload_run rfl 25 _ rfl _ _ rfl HL.out ?_) | (refine wpList_store_run rfl 25 _ _ rfl _ _ rfl rfl HST.out ?_) | fail)
  refine bodyPost_ret (res_fr rfl rfl HY.out) rfl ?_
  have hE : (G2, s2) = pingG fn sn s0 G0 := by
    have e1 := EQ1.out
    have e2 := EQ2.out
    obtain ⟨u2, v2, w2⟩ := e2
    obtain ⟨u1, v1, w1⟩ := e1
    subst w2 v2
    subst w1 v1
    subst u2
    subst u1
    rfl
  rw [← hE]
  exact HLV.out
end Go.Proofs.Ytoggjpkbbncbbaa
