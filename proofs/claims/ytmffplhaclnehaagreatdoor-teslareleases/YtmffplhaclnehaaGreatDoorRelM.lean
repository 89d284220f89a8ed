/-
  What the walks of TeslaReleases and TeslaHonest share: the law's cut, a frame built and stored, frames kept beside a receiver.
-/
import Derived.Test.YtmffplhaclnehaaGreatDoorTesP
import Derived.Test.YtmffplhaclnehaaGreatDoorTesB
import Derived.Test.YtmffplhaclnehaaGreatDoorLateW
import Derived.Deep.DeepCutAuto
namespace Go.Proofs.YtmffplhaclnehaaGreatDoor
open Go.ChangeShapes Go.WideShapes Go.ChangeAt Go.RowKit
set_option maxRecDepth 20000
theorem both_of {P Q : Prop} (h : P) (f : P → Q) : Q := f h
theorem min2c (a b : Int) (w : World) : (Builtin.min_ #[3, 3] 3 #[.int .i64 a, .int .i64 b]).run Tryz.prog w = .ok (.int .i64 (min a b)) w := by
  simp only [Builtin.min_, List.foldlM_cons, List.foldlM_nil, Builtin.min2, Sem.run_bind, Sem.run_pure, Result.andThen_ok]
  congr 2
  omega
theorem cut_ok (w : World) (a : Option Addr) (n c : Nat) (hc : n ≤ c) (hm : c ≤ 9223372036854775807) (hn : a = none → c = 0) : Calls Tryz.prog 24 #[.slice a n c] w fun e w' => e = .returned (.slice a (min n 16) c) ∧ w' = w := by
  have hmin := min2c (n : Int) 16 w
  obtain ⟨k, hk⟩ : ∃ k : Nat, k = min n 16 := ⟨_, rfl⟩
  rw [show min (n : Int) 16 = (k : Int) by omega] at hmin
  rw [← hk]
  have k1 : (k : Int) ≤ (c : Int) := by omega
  have k0 : (0 : Int) ≤ (k : Int) := by omega
  cases a with
  | none =>
    obtain rfl := hn rfl
    obtain rfl : n = 0 := by omega
    obtain rfl : k = 0 := by omega
    clear hk hn hc
    go_enter Tryz.func24, Tryz.ntmps24
    go_wp2
    go_ret
    exact ⟨rfl, rfl⟩
  | some ad =>
    clear hk hn hc
    go_enter Tryz.func24, Tryz.ntmps24
    go_wp2
    go_ret
    exact ⟨rfl, rfl⟩
theorem op_store_run {P : Program} {o : Oper} {a : Act} {w w' : World} {K : Act → World → Prop} {Q : Exit → Act → World → Prop} (ty : TypeId) (x y : Operand) (ho : o.op = .store ty x y)
    (v u : Value) (hx : a.eval x = v) (hy : a.eval y = u) (hrun : (Instr.storeAt ty v u).run P w = .ok () w') (h : K (a.put o.dst undef) w') : Oper.wp P o a w K Q := by
  unfold Oper.wp execOp
  simp only [ho, hx, hy, Sem.run_bind, hrun, Result.andThen_ok, Sem.run_pure]
  exact h
theorem dF_buildB (w : World) (me ep r : Int) (k0 body : List UInt8) (hk : k0.length = 16) (x : Option Addr) (cx : Nat) (y : Option Addr) (cy n : Nat) (hn : n = body.length) : (Instr.build 61 #[(0, .int .i64 1), (1, .int .i64 me), (3, .int .i64 ep), (5, .int .i64 r), (10, .slice x 16 cx), (11, .slice y n cy)]).run Tryz.prog w = .ok (.agg (frC (dF me ep r k0 body) ⟨x, cx, y, cy, none, 0⟩)) w := by
  have e : frC (dF me ep r k0 body) ⟨x, cx, y, cy, none, 0⟩ = #[.int .i64 1, .int .i64 me, .int .i64 0, .int .i64 ep, .int .i64 0, .int .i64 r, .int .u64 0, .int .i64 0, .int .i64 0, .int .i64 0, .slice x 16 cx, .slice y n cy, .slice none 0 0] := by
    simp [frC, frL, dF, hk, hn]
  rw [e]
  exact run_build w 61 _ _ (by kernel_rfl)
theorem telR_few2 {s : Rv} (h : s.ok) (e i : Int) (k : List UInt8) : (telR s e i k).2.length ≤ 900 := by
  unfold telR
  split
  · simp
  · rename_i h0
    obtain ⟨_, _, h3, h4, _⟩ := telE_zero (Decidable.not_not.1 h0)
    have h5 := okB_keys h.cfg
    have h6 := fun a b c d => (relN_same a b c d (i - s.ix).toNat).2.2.2.2.2.2.2
    refine Nat.le_trans (h6 _ _ _ _) ?_
    rcases h.ep with g | ⟨_, _, _, _, g, _⟩ <;> omega
theorem TSolo.offerF {w W : World} {R : Nat} {s : Rv} {n : Nat} (h : TSolo w W R s n) (hT : TTab w) (hn : n ≤ 80000000) (hlo : s.b.lost ≤ 1000000) (x : Option Addr) (cx : Nat) (b : List UInt8) (hx : Sees W x cx b) (hl : b.length ≤ 140737488351232) (M : Int) {u : Value} {L : List Fr} (hf : Frs W u L) {B : Nat} {F : Fr} {A : At} (hB : FrAt W B F A) (hF : Seen W F A) :
    Calls Tryz.prog 13 #[.pointer (some ⟨R, 0, none⟩), .slice x b.length cx, .int .i64 M] W fun ev w' => ev = .returned (.int .i64 (offE s b M)) ∧ TSolo w w' R (offV s b M) (n + 65) ∧ Frs w' u L ∧ FrAt w' B F A ∧ Seen w' F A := by
  obtain ⟨F0, h1, h2, h3⟩ := h
  obtain ⟨g, m, v, ka, kc, ss, hp, h5, h6, rfl⟩ := id h1
  refine (toffer_any W R s n _ h1 (hT.below h2) hn hlo x cx b hx hl M).mono fun _ _ ⟨he, hl⟩ => ?_
  obtain ⟨_, _, ha, _⟩ := id hl
  refine ⟨he, Left.solo hl h2 h3, hf.apart ha (fun k hk => Frs.notin hp hf hk) (fun k hk => hp.plain hk), hB.keep (ha.block B hB.lt fun hO => ?_), hF.apart ha (fun k hk => hp.plain hk)⟩
  exact hp.notin (show W.heap[B]? = some (.cells (frC F A) 61) from hB) (by decide) (by decide) (by decide) hO
theorem TSolo.push {w W : World} {R : Nat} {s : Rv} {n : Nat} (h : TSolo w W R s n) {u : Value} {L : List Fr} (hf : Frs W u L) (ho : ∀ k, u.ownBlock = some k → w.heap.size ≤ k) (hl : L.length ≤ 900) {F : Fr} {A : At} (hF : Seen W F A) :
    ∃ u' W', (Builtin.append_ #[41, 41] 41 #[u, .slice (some ⟨W.heap.size, 0, none⟩) 1 1]).run Tryz.prog (W.alloc (.cells (frC F A) 61)) = .ok u' W' ∧ TSolo w W' R s n ∧ Frs W' u' (L ++ [F]) ∧ (∀ k, u'.ownBlock = some k → w.heap.size ≤ k) := by
  have hb : Below W.heap.size W (W.alloc (.cells (frC F A) 61)) := (Below.refl _ _).alloc (Nat.le_refl _) _
  have hfr : FrAt (W.alloc (.cells (frC F A) 61)) W.heap.size F A := FrAt.new W F A
  have f2 := hf.below hb
  have h' := h.below hb
  obtain ⟨v', V3, hrun, f3, a3, o3⟩ := f2.push hl F A (hF.below hb) W.heap.size 0 1 (fun j u hu => by rw [Nat.zero_add]; exact hfr.cell j hu)
  refine ⟨v', V3, hrun, ?_, f3, fun k hk => ?_⟩
  · obtain ⟨F0, h1, h2, h3⟩ := h'
    obtain ⟨g, m, v, ka, kc, ss, hp, h5, h6, rfl⟩ := h1
    exact ⟨_, ⟨g, m, v, ka, kc, ss, hp.apart a3 (fun k hk hO => Frs.notin hp f2 hk hO) (fun k hk => f2.plain hk), h5, h6, rfl⟩, a3.below h2 ho h2.size, h3⟩
  · rcases o3 k hk with e | e
    · exact ho k e
    · exact Nat.le_trans h.bel.size (Nat.le_trans hb.size e)
end Go.Proofs.YtmffplhaclnehaaGreatDoor
