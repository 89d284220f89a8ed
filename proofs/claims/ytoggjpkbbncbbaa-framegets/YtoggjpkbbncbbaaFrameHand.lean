/-
  What a hand must say, whichever it is; the contracts of number.
-/
import Derived.Test.YtoggjpkbbncbbaaFrameParts
import Derived.Test.YtoggjpkbbncbbaaFoot
namespace Go.Proofs.Ytoggjpkbbncbbaa
open Go.ChangeShapes Go.WideShapes Go.ChangeAt Go.RowKit

/-- A list in none of the blocks of F. -/
def Clear (F : Nat → Prop) (x : Option Addr) (l : List UInt8) : Prop := ∀ b off, x = some ⟨b, off, none⟩ → l ≠ [] → ¬ F b

/-- What a hand does with numbers and lists: function i with the receiver r is its number, j its list; it holds the object b. -/
structure Hand {σ : Type} (i j : Nat) (r : Value) (M : World → Nat → σ → (Nat → Prop) → Prop) (b : Nat) (fn : σ → Nat → Nat → Nat) (sn : σ → Nat → Nat → σ) (fl : σ → List UInt8 → Nat → List UInt8) (sl : σ → List UInt8 → Nat → σ) : Prop where
  kept : Kept M
  ei : ∀ (args : Array Value) (w : World), (callFunc i args).run Try.prog w = .ok (.enter i args) w
  ej : ∀ (args : Array Value) (w : World), (callFunc j args).run Try.prog w = .ok (.enter j args) w
  lt : ∀ s n V, n < 9223372036854775808 → V ≤ 48 → fn s n V < 9223372036854775808
  lt5 : ∀ s n, n ≤ 16 → fn s n 5 ≤ 31
  lt64 : ∀ s n V, n < 18446744073709551616 → V ≤ 64 → fn s n V < 18446744073709551616
  num : ∀ (w : World) (s : σ) (F : Nat → Prop) (n V : Nat), M w b s F → n < 18446744073709551616 → V ≤ 64 →
    Calls Try.prog i #[r, .int .u64 (n : Int), .int .i64 (V : Int)] w fun e w' => e = .returned (.int .u64 ((fn s n V : Nat) : Int)) ∧ Left M w F b (sn s n V) w'
  list : ∀ (w : World) (s : σ) (F : Nat → Prop) (x : Option Addr) (cx : Nat) (l : List UInt8) (n : Nat), M w b s F → Sees w x cx l → Clear F x l → n ≤ 31 →
    Calls Try.prog j #[r, .slice x l.length cx, .int .i64 (n : Int)] w fun e w' => ∃ d cd q, Hid (q = fl s l n) ∧ e = .returned (.slice d q.length cd) ∧ Sees w' d cd q ∧ ∃ F', M w' b (sl s l n) F' ∧ Apart F w w' ∧ (∀ k, F' k → F k ∨ w.heap.size ≤ k) ∧ Clear F' d q
theorem Left.of_alloc {σ : Type} {M : World → Nat → σ → (Nat → Prop) → Prop} {w w' : World} {o : Obj} {F : Nat → Prop} {b : Nat} {s : σ} (h : Left M (w.alloc o) F b s w') : Left M w F b s w' := by
  obtain ⟨F', h1, h2, h3⟩ := h
  refine ⟨F', h1, ⟨h2.os, h2.tape, h2.output, Nat.le_trans (by simp) h2.size, fun k hk hn => ?_⟩, fun k hk => ?_⟩
  · rw [h2.block k (by simp; omega) hn]
    show (w.heap.push o)[k]? = _
    rw [Array.getElem?_push, if_neg (by omega)]
  · rcases h3 k hk with h | h
    · exact .inl h
    · right; have : (w.alloc o).heap.size = w.heap.size + 1 := by simp
      omega
theorem Kept.alloc {σ : Type} {M : World → Nat → σ → (Nat → Prop) → Prop} (h : Kept M) {w : World} {b : Nat} {s : σ} {F : Nat → Prop} (hm : M w b s F) (o : Obj) : M (w.alloc o) b s F :=
  h.below hm (Go.Joins.below_alloc1 _ _)

set_option maxHeartbeats 1600000 in
set_option maxRecDepth 20000 in
theorem numU_ok {σ : Type} {i j : Nat} {r : Value} {M : World → Nat → σ → (Nat → Prop) → Prop} {b : Nat} {fn : σ → Nat → Nat → Nat} {sn : σ → Nat → Nat → σ} {fl : σ → List UInt8 → Nat → List UInt8} {sl : σ → List UInt8 → Nat → σ} (H : Hand i j r M b fn sn fl sl)
    (w : World) (s : σ) (F : Nat → Prop) (n V : Nat) (hm : M w b s F) (hn : n < 18446744073709551616) (hV : V ≤ 64) :
    Calls Try.prog 75 #[.agg #[.func (.func i) #[r] #[], .func (.func j) #[r] #[]], .int .u64 (n : Int), .int .i64 (V : Int)] w fun e w' => e = .returned (.int .u64 ((fn s n V : Nat) : Int)) ∧ Left M w F b (sn s n V) w' := by
  have hc := H.num (w.alloc (.cells #[.func (.func i) #[r] #[], .func (.func j) #[r] #[]] 52)) s F n V (H.kept.alloc hm _) hn hV
  obtain ⟨X, hX⟩ : ∃ X, X = fn s n V := ⟨_, rfl⟩
  rw [← hX] at hc ⊢
  have hen := H.ei
  clear hX hm H
  go_enter Try.func75, Try.ntmps75
  go_wp2_with fail
  refine hc.mono ?_
  rintro e w1 ⟨rfl, hL⟩
  clear hc
  have HL : Hid (Left M (w.alloc (.cells #[.func (.func i) #[r] #[], .func (.func j) #[r] #[]] 52)) F b (sn s n V) w1) := hL
  clear hL
  go_wp2
  go_ret
  exact ⟨rfl, HL.out.of_alloc⟩
set_option maxHeartbeats 1600000 in
set_option maxRecDepth 20000 in
theorem numI_ok {σ : Type} {i j : Nat} {r : Value} {M : World → Nat → σ → (Nat → Prop) → Prop} {b : Nat} {fn : σ → Nat → Nat → Nat} {sn : σ → Nat → Nat → σ} {fl : σ → List UInt8 → Nat → List UInt8} {sl : σ → List UInt8 → Nat → σ} (H : Hand i j r M b fn sn fl sl)
    (w : World) (s : σ) (F : Nat → Prop) (n : Int) (V : Nat) (hm : M w b s F) (h0 : 0 ≤ n) (hn : n < 9223372036854775808) (hV : V ≤ 48) :
    Calls Try.prog 53 #[.agg #[.func (.func i) #[r] #[], .func (.func j) #[r] #[]], .int .i64 n, .int .i64 (V : Int)] w fun e w' => e = .returned (.int .i64 ((fn s n.toNat V : Nat) : Int)) ∧ Left M w F b (sn s n.toNat V) w' := by
  obtain ⟨m, rfl⟩ : ∃ m : Nat, n = m := ⟨n.toNat, by omega⟩
  rw [Int.toNat_natCast]
  have hc := H.num (w.alloc (.cells #[.func (.func i) #[r] #[], .func (.func j) #[r] #[]] 52)) s F m V (H.kept.alloc hm _) (by omega) (by omega)
  have hX2 := H.lt s m V (by omega) hV
  obtain ⟨X, hX⟩ : ∃ X, X = fn s m V := ⟨_, rfl⟩
  rw [← hX] at hc hX2 ⊢
  have hen := H.ei
  clear hX hm H
  go_enter Try.func53, Try.ntmps53
  go_wp2_with fail
  refine hc.mono ?_
  rintro e w1 ⟨rfl, hL⟩
  clear hc
  have HL : Hid (Left M (w.alloc (.cells #[.func (.func i) #[r] #[], .func (.func j) #[r] #[]] 52)) F b (sn s m V) w1) := hL
  clear hL
  go_wp2
  go_ret
  exact ⟨rfl, HL.out.of_alloc⟩
set_option maxHeartbeats 1600000 in
set_option maxRecDepth 20000 in
theorem num64_ok {σ : Type} {i j : Nat} {r : Value} {M : World → Nat → σ → (Nat → Prop) → Prop} {b : Nat} {fn : σ → Nat → Nat → Nat} {sn : σ → Nat → Nat → σ} {fl : σ → List UInt8 → Nat → List UInt8} {sl : σ → List UInt8 → Nat → σ} (H : Hand i j r M b fn sn fl sl)
    (w : World) (s : σ) (F : Nat → Prop) (n : Int) (V : Nat) (hm : M w b s F) (h0 : 0 ≤ n) (hn : n < 9223372036854775808) (hV : V ≤ 48) :
    Calls Try.prog 76 #[.agg #[.func (.func i) #[r] #[], .func (.func j) #[r] #[]], .int .i64 n, .int .i64 (V : Int)] w fun e w' => e = .returned (.int .i64 ((fn s n.toNat V : Nat) : Int)) ∧ Left M w F b (sn s n.toNat V) w' := by
  obtain ⟨m, rfl⟩ : ∃ m : Nat, n = m := ⟨n.toNat, by omega⟩
  rw [Int.toNat_natCast]
  have hc := H.num (w.alloc (.cells #[.func (.func i) #[r] #[], .func (.func j) #[r] #[]] 52)) s F m V (H.kept.alloc hm _) (by omega) (by omega)
  have hX2 := H.lt s m V (by omega) hV
  obtain ⟨X, hX⟩ : ∃ X, X = fn s m V := ⟨_, rfl⟩
  rw [← hX] at hc hX2 ⊢
  have hen := H.ei
  clear hX hm H
  go_enter Try.func76, Try.ntmps76
  go_wp2_with fail
  refine hc.mono ?_
  rintro e w1 ⟨rfl, hL⟩
  clear hc
  have HL : Hid (Left M (w.alloc (.cells #[.func (.func i) #[r] #[], .func (.func j) #[r] #[]] 52)) F b (sn s m V) w1) := hL
  clear hL
  go_wp2
  go_ret
  exact ⟨rfl, HL.out.of_alloc⟩

theorem two_new' (w : World) (F : Fr) (A : At) (G : Fr) (B : At) : FrAt ((w.alloc (.cells (frC F A) 25)).alloc (.cells (frC G B) 25)) w.heap.size F A ∧ FrAt ((w.alloc (.cells (frC F A) 25)).alloc (.cells (frC G B) 25)) (w.heap.size + 1) G B :=
  ⟨(FrAt.new w F A).alloc _, by simpa using FrAt.new (w.alloc (.cells (frC F A) 25)) G B⟩
/-- Numbers that a hand takes. -/
structure InR (F : Fr) : Prop where
  k : 0 ≤ F.k ∧ F.k < 9223372036854775808
  f : 0 ≤ F.f ∧ F.f < 9223372036854775808
  t : 0 ≤ F.t ∧ F.t < 9223372036854775808
  e : 0 ≤ F.e ∧ F.e < 9223372036854775808
  s : 0 ≤ F.s ∧ F.s < 9223372036854775808
  r : 0 ≤ F.r ∧ F.r < 9223372036854775808
  n : F.n < 18446744073709551616
  m : 0 ≤ F.m ∧ F.m < 9223372036854775808
  v : 0 ≤ F.v ∧ F.v < 9223372036854775808
  i : 0 ≤ F.i ∧ F.i < 9223372036854775808
  body : F.body.length ≤ 16

theorem frL_nou8 (F : Fr) (A : At) (k : Nat) (x : Int) : (frL F A)[k]? ≠ some (.int .u8 x) := by
  intro h
  have := List.mem_of_getElem? h
  simp [frL] at this
theorem FrAt.apart {w : World} {g : Nat} {F : Fr} {A : At} (h : FrAt w g F A) {x : Option Addr} {c : Nat} {l : List UInt8} (hs : Sees w x c l) : ∀ b off, x = some ⟨b, off, none⟩ → l ≠ [] → b ≠ g := by
  rintro b off rfl hne rfl
  obtain ⟨b', off', he, hc⟩ := hs.at' hne
  simp only [Option.some.injEq, Addr.mk.injEq] at he
  obtain ⟨rfl, rfl, _⟩ := he
  obtain ⟨z, hz⟩ : ∃ z, l[0]? = some z := ⟨l[0]'(List.length_pos_iff.2 hne), by simp⟩
  have h1 := hc 0 z hz
  rw [cell_of_row w _ (off + 0) _ _ _ h] at h1
  exact frL_nou8 F A _ _ (by simpa [frC] using h1)
theorem Sees.set {w : World} {x : Option Addr} {c : Nat} {l : List UInt8} (hs : Sees w x c l) {g q : Nat} (u : Value) (hn : ∀ b off, x = some ⟨b, off, none⟩ → l ≠ [] → b ≠ g) : Sees (w.setCell ⟨g, q, none⟩ u) x c l :=
  ⟨hs.fits, hs.room, hs.bare, fun hne => by
    obtain ⟨b, off, ha, hc⟩ := hs.at' hne
    refine ⟨b, off, ha, fun k y hy => ?_⟩
    rw [World.cell?_of_block (w := w) (by rw [heap_setCell_other _ _ _ _ (hn b off ha hne)]), hc k y hy]⟩
theorem Sees.lt {w : World} {x : Option Addr} {c : Nat} {l : List UInt8} (hs : Sees w x c l) : ∀ b off, x = some ⟨b, off, none⟩ → l ≠ [] → b < w.heap.size := by
  rintro b off rfl hne
  obtain ⟨b', off', he, hc⟩ := hs.at' hne
  simp only [Option.some.injEq, Addr.mk.injEq] at he
  obtain ⟨rfl, rfl, _⟩ := he
  obtain ⟨z, hz⟩ : ∃ z, l[0]? = some z := ⟨l[0]'(List.length_pos_iff.2 hne), by simp⟩
  exact World.block_lt_of_cell? w _ (hc 0 z hz)

/-- All three lists apart from the blocks of F. -/
structure Clears (F : Nat → Prop) (G : Fr) (A : At) : Prop where
  key : Clear F A.ka G.key
  body : Clear F A.ba G.body
  tag : Clear F A.ta G.tag

/-- A walk of a hand over a frame, half way: its boxes, the frame, the object, in the world W; it began at w. -/
structure Mid {σ : Type} (i j : Nat) (r : Value) (M : World → Nat → σ → (Nat → Prop) → Prop) (b : Nat) (w : World) (F0 F1 : Nat → Prop) (s : σ) (G : Fr) (A : At) (W : World) : Prop where
  hand : W.heap[w.heap.size]? = some (.cells #[.func (.func i) #[r] #[], .func (.func j) #[r] #[]] 52 (0, 0))
  fr : FrAt W (w.heap.size + 1) G A
  res : FrAt W (w.heap.size + 2) Fr.zero At.zero
  obj : M W b s F1
  sub : ∀ k, F1 k → F0 k ∨ w.heap.size + 3 ≤ k
  clear : Clears F1 G A
  seen : Seen W G A
  apart : Apart F0 w W
  lt : ∀ k, F0 k → k < w.heap.size
theorem Mid.cells {σ : Type} {i j : Nat} {r : Value} {M : World → Nat → σ → (Nat → Prop) → Prop} {b : Nat} {w : World} {F0 F1 : Nat → Prop} {s : σ} {G : Fr} {A : At} {W : World} (h : Mid i j r M b w F0 F1 s G A W) :
    W.cell? ⟨w.heap.size, 0, none⟩ = some (.func (.func i) #[r] #[]) ∧ W.cell? ⟨w.heap.size, 1, none⟩ = some (.func (.func j) #[r] #[]) := ⟨cell_of_row _ _ 0 _ _ _ h.hand, cell_of_row _ _ 1 _ _ _ h.hand⟩
theorem Mid.start {σ : Type} {i j : Nat} {r : Value} {M : World → Nat → σ → (Nat → Prop) → Prop} {b : Nat} {fn : σ → Nat → Nat → Nat} {sn : σ → Nat → Nat → σ} {fl : σ → List UInt8 → Nat → List UInt8} {sl : σ → List UInt8 → Nat → σ} (H : Hand i j r M b fn sn fl sl) (w : World) (s : σ) (F0 : Nat → Prop) (G : Fr) (A : At) (hm : M w b s F0) (hs : Seen w G A) (hc : Clears F0 G A) :
    Mid i j r M b w F0 F0 s G A (((w.alloc (.cells #[.func (.func i) #[r] #[], .func (.func j) #[r] #[]] 52)).alloc (.cells (frC G A) 25)).alloc (.cells (frC Fr.zero At.zero) 25)) := by
  obtain ⟨w1, hw1⟩ : ∃ w1, w1 = w.alloc (.cells #[.func (.func i) #[r] #[], .func (.func j) #[r] #[]] 52) := ⟨_, rfl⟩
  have z1 : w1.heap.size = w.heap.size + 1 := by rw [hw1]; simp
  have b1 : Below w.heap.size w w1 := by rw [hw1]; exact Go.Joins.below_alloc1 _ _
  have g1 : w1.heap[w.heap.size]? = some (.cells #[.func (.func i) #[r] #[], .func (.func j) #[r] #[]] 52 (0, 0)) := by rw [hw1]; exact heap_alloc_new _ _
  rw [← hw1]
  obtain ⟨h1, h2⟩ := two_new' w1 G A Fr.zero At.zero
  have b2 : Below w1.heap.size w1 ((w1.alloc (.cells (frC G A) 25)).alloc (.cells (frC Fr.zero At.zero) 25)) := Go.Joins.below_alloc2 _ _ _
  have b3 := b1.trans (b2.mono b1.size)
  rw [z1] at h1 h2
  exact ⟨by rw [b2.block _ (by omega)]; exact g1, h1, h2, H.kept.below hm b3, fun k hk => .inl hk, hc, hs.below b3, Apart.of_below b3, H.kept.lt hm⟩
theorem Mid.keeps {σ : Type} {i j : Nat} {r : Value} {M : World → Nat → σ → (Nat → Prop) → Prop} {b : Nat} {fn : σ → Nat → Nat → Nat} {sn : σ → Nat → Nat → σ} {fl : σ → List UInt8 → Nat → List UInt8} {sl : σ → List UInt8 → Nat → σ} (_ : Hand i j r M b fn sn fl sl) {w : World} {F0 F1 F2 : Nat → Prop} {s s' : σ} {G : Fr} {A : At} {W W1 : World} (h : Mid i j r M b w F0 F1 s G A W) (hm : M W1 b s' F2) (ha : Apart F1 W W1) (hf : ∀ k, F2 k → F1 k ∨ W.heap.size ≤ k) : Mid i j r M b w F0 F2 s' G A W1 := by
  have hlt := h.res.lt
  have no : ∀ k, w.heap.size ≤ k → k < w.heap.size + 3 → ¬ F1 k := fun k h1 h2 hk => by
    rcases h.sub k hk with h3 | h3
    · have := h.lt k h3; omega
    · omega
  have bl : ∀ k, w.heap.size ≤ k → k < w.heap.size + 3 → W1.heap[k]? = W.heap[k]? := fun k h1 h2 => ha.block k (by omega) (no k h1 h2)
  have cl : ∀ (x : Option Addr) (c : Nat) (l : List UInt8), Sees W x c l → Clear F1 x l → Clear F2 x l := fun x c l hs hc b off e hne hb => by
    rcases hf b hb with h3 | h3
    · exact hc b off e hne h3
    · have := hs.lt b off e hne; omega
  refine ⟨by rw [bl _ (by omega) (by omega)]; exact h.hand, h.fr.keep (bl _ (by omega) (by omega)), h.res.keep (bl _ (by omega) (by omega)), hm, fun k hk => ?_, ⟨cl _ _ _ h.seen.key h.clear.key, cl _ _ _ h.seen.body h.clear.body, cl _ _ _ h.seen.tag h.clear.tag⟩,
    ⟨ha.sees h.seen.key h.clear.key, ha.sees h.seen.body h.clear.body, ha.sees h.seen.tag h.clear.tag⟩, h.apart.trans ha fun k hk => ?_, h.lt⟩
  · rcases hf k hk with h3 | h3
    · exact h.sub k h3
    · right; omega
  · rcases h.sub k hk with h3 | h3
    · exact .inl h3
    · right; omega
/-- A call on the object. -/
theorem Mid.call {σ : Type} {i j : Nat} {r : Value} {M : World → Nat → σ → (Nat → Prop) → Prop} {b : Nat} {fn : σ → Nat → Nat → Nat} {sn : σ → Nat → Nat → σ} {fl : σ → List UInt8 → Nat → List UInt8} {sl : σ → List UInt8 → Nat → σ} (H : Hand i j r M b fn sn fl sl) {w : World} {F0 F1 : Nat → Prop} {s s' : σ} {G : Fr} {A : At} {W W1 : World} (h : Mid i j r M b w F0 F1 s G A W) (hL : Left M W F1 b s' W1) : ∃ F2, Mid i j r M b w F0 F2 s' G A W1 := by
  obtain ⟨F2, hm, ha, hf⟩ := hL
  exact ⟨F2, h.keeps H hm ha hf⟩
/-- A field stored. -/
theorem Mid.set {σ : Type} {i j : Nat} {r : Value} {M : World → Nat → σ → (Nat → Prop) → Prop} {b : Nat} {fn : σ → Nat → Nat → Nat} {sn : σ → Nat → Nat → σ} {fl : σ → List UInt8 → Nat → List UInt8} {sl : σ → List UInt8 → Nat → σ} (H : Hand i j r M b fn sn fl sl) {w : World} {F0 F1 : Nat → Prop} {s : σ} {G : Fr} {A : At} {W : World} (h : Mid i j r M b w F0 F1 s G A W) (q : Nat) (u : Value) (G' : Fr) (A' : At) (hl : (frL G A).set q u = frL G' A') (hs : Seen W G' A') (hc : Clears F1 G' A') :
    Mid i j r M b w F0 F1 s G' A' (W.setCell ⟨w.heap.size + 1, q, none⟩ u) := by
  have no : ¬ F1 (w.heap.size + 1) := fun hk => by
    rcases h.sub _ hk with h3 | h3
    · have := h.lt _ h3; omega
    · omega
  have ot : ∀ k, k ≠ w.heap.size + 1 → (W.setCell ⟨w.heap.size + 1, q, none⟩ u).heap[k]? = W.heap[k]? := fun k hk => heap_setCell_other _ _ _ _ hk
  exact ⟨by rw [ot _ (by omega)]; exact h.hand, h.fr.put q u hl, h.res.keep (ot _ (by omega)), H.kept.keep h.obj fun k hk => ot k (fun e => no (e ▸ hk)), h.sub, hc,
    ⟨hs.key.set u (h.fr.apart hs.key), hs.body.set u (h.fr.apart hs.body), hs.tag.set u (h.fr.apart hs.tag)⟩, h.apart.setCell (.inr (by omega)) q u, h.lt⟩
end Go.Proofs.Ytoggjpkbbncbbaa
