/-
  The contract of grown: keys are told till there are enough.
-/
import Derived.Test.YtgncdnejmobjbaaGreatDoorRenQ
namespace Go.Proofs.YtgncdnejmobjbaaGreatDoor
open Go.ChangeShapes Go.WideShapes Go.ChangeAt Go.RowKit
set_option maxRecDepth 20000

/-- Steps are few enough to be counted. -/
theorem stepN_le {n told steps : Nat} {T : List Stone} (hg : Good n told (T.map Prod.fst)) (hn : n ≤ 256) (hs : steps ≤ told * 256) : stepN told steps (T.map Prod.fst) ≤ (told + 1) * 256 := by
  have h0 : topN told (T.map Prod.fst) ≤ 256 := by
    cases T with
    | nil => exact Nat.zero_le _
    | cons x T => have := (hg.mem x.1 (List.mem_cons_self ..)).2; show x.1 - told - 1 ≤ 256; omega
  show steps + topN told (T.map Prod.fst) ≤ (told + 1) * 256
  omega
theorem Sees.off {w w' : World} {F : Nat → Prop} {a : Option Addr} {c : Nat} {l : List UInt8} (h : Sees w a c l) (ha : Apart F w w') (hp : ∀ k, F k → ∀ i y, w.cell? ⟨k, i, none⟩ ≠ some (.int .u8 y)) : Sees w' a c l :=
  ha.sees h fun b off e hne hF => by
    obtain ⟨b2, off2, ha2, hc⟩ := h.at' hne
    rw [e] at ha2
    cases ha2
    match l, hne with
    | y :: r, _ => exact hp b hF (off + 0) y.toNat (hc 0 y rfl)
theorem Peb.aside {Q : Nest} {o : Nat} {w w' : World} {g b cap : Nat} {v0 : Value} {key : List UInt8} {n told steps : Nat} {T : List Stone} {F : Nat → Prop} (h : Peb Q o w g b cap v0 key n told steps T) (ha : Apart F w w') (hg : ¬ F g) (hb : ¬ F b) (hp : ∀ k, F k → ∀ i y, w.cell? ⟨k, i, none⟩ ≠ some (.int .u8 y)) : Peb Q o w' g b cap v0 key n told steps T :=
  ⟨by rw [ha.block _ h.lt hg]; exact h.obj, h.off, h.nob, h.ne, h.stack.keep (ha.block _ h.stack.lt hb), fun x hx => (h.keys x hx).off ha hp, h.good, h.len, h.most⟩
theorem KeptAt.plain {w : World} {q cap : Nat} {L : List Loc} (h : KeptAt w q cap L) (i : Nat) (y : Int) : w.cell? ⟨q, i, none⟩ ≠ some (.int .u8 y) := fun e => by cases h.noByte i _ y e
theorem Gr.tight {w : World} {R : Nat} {s : Rn} {oa : Option Addr} {oc : Nat} {Q0 N0 C0 : Nat} {x : PN} (h : Gr w R s oa oc Q0 N0 C0 x) : Gr w R s oa oc Q0 N0 C0 { x with kc := x.L.length } :=
  ⟨h.peb, h.kept.tight, h.num, h.keys, h.own, h.ne, h.few⟩
/-- What a step from one state to a later one keeps. -/
structure Later (R : Nat) (w w' : World) (x x' : PN) : Prop where
  apart : Apart (x.foot R) w w'
  q : x'.q = x.q ∨ w.heap.size ≤ x'.q
  b : x'.b = x.b ∨ w.heap.size ≤ x'.b
theorem Later.refl (R : Nat) (w : World) (x : PN) (k : Nat) : Later R w w x { x with kc := k } := ⟨Apart.refl _ _, .inl rfl, .inl rfl⟩
theorem Later.trans {R : Nat} {w w' w'' : World} {x x' x'' : PN} (h : Later R w w' x x') (h' : Later R w' w'' x' x'') : Later R w w'' x x'' := by
  have hs := h.apart.size
  refine ⟨h.apart.trans h'.apart ?_, ?_, ?_⟩
  · rintro k (hk | hk | hk)
    · exact .inl (.inl hk)
    · rcases h.b with e | e
      · exact .inl (.inr (.inl (hk.trans e)))
      · exact .inr (by omega)
    · rcases h.q with e | e
      · exact .inl (.inr (.inr (hk.trans e)))
      · exact .inr (by omega)
  · rcases h'.q with e | e
    · rw [e]; exact h.q
    · exact .inr (by omega)
  · rcases h'.b with e | e
    · rw [e]; exact h.b
    · exact .inr (by omega)

/-- One more key is told, and put behind those that are kept. -/
theorem Gr.step {w : World} {R : Nat} {s : Rn} {oa : Option Addr} {oc : Nat} {Q0 N0 C0 : Nat} {x : PN} (h : Gr w R s oa oc Q0 N0 C0 x) (ht : x.told < s.c.k.toNat) (hF : FTab w) (hT : KTab w) :
    Calls Tryz.prog 58 #[.pointer (some ⟨R, 14, none⟩)] w fun e w1 => ∃ (d : Option Addr) (c : Nat) (x' : PN) (w2 : World), e = .returned (.tuple #[.slice d 16 c, .int .i64 0]) ∧
      (Builtin.append_ #[50, 50] 50 #[.slice (some ⟨x.q, 0, none⟩) x.L.length x.kc, .slice (some ⟨w1.heap.size, 0, none⟩) 1 1]).run Tryz.prog (w1.alloc (.cells #[.slice d 16 c] 24)) = .ok (.slice (some ⟨x'.q, 0, none⟩) (x.L.length + 1) x'.kc) w2 ∧
      x'.L.length = x.L.length + 1 ∧ Gr w2 R s oa oc Q0 N0 C0 x' ∧ Later R w w2 x x' := by
  have hm := h.peb.most
  have hfew := h.few
  have hst : x.steps ≤ 100000 := by omega
  obtain ⟨y, T, hT0⟩ : ∃ y T, x.T = y :: T := by
    cases e : x.T with
    | nil => have := h.peb.good; rw [e] at this; simp [Good] at this; omega
    | cons y T => exact ⟨y, T, rfl⟩
  have hp := h.peb
  rw [hT0] at hp
  refine (next_ok w _ 14 R x.b x.cap x.cd x.cc s.last _ x.told x.steps y T hp hF hT hst).mono ?_
  rintro e w1 ⟨b', cap', T', d, c, rfl, hP, hmap, hse, ha, hb'⟩
  have hsz := ha.size
  have hqb := h.qb
  have hk1 : KeptAt w1 x.q x.kc x.L := h.kept.keep (ha.block _ h.kept.lt (by rintro (e | e); exact h.ne e; exact hqb e))
  obtain ⟨W, hW⟩ : ∃ W, W = w1.alloc (.cells #[.slice d 16 c] 24) := ⟨_, rfl⟩
  have hbW : Below w1.heap.size w1 W := by rw [hW]; exact (Below.refl _ _).alloc (Nat.le_refl _) _
  have hrow : W.heap[w1.heap.size]? = some (.cells #[.slice d 16 c] 24 (0, 0)) := by rw [hW]; exact heap_alloc_new _ _
  have hkW := hk1.below hbW
  obtain ⟨q', kc', w2, hrun, hk2, hap2, hq', _⟩ := hkW.push (by have := h.num; omega) (d, c) w1.heap.size (cell_of_row _ _ 0 _ _ _ hrow)
  have hPW := hP.keep hbW
  have hbq : b' ≠ x.q := by
    rcases hb' with e | e
    · rw [e]; exact fun e => hqb e.symm
    · have := h.kept.lt; omega
  have hpl : ∀ k, k = x.q → ∀ i y, W.cell? ⟨k, i, none⟩ ≠ some (.int .u8 y) := by rintro k rfl i y; exact hkW.plain i y
  have hP2 := hPW.aside hap2 (fun e => h.ne e.symm) hbq hpl
  have hse2 : Sees w2 d c (s.key (x.told + 1)) := (hse.below hbW).off hap2 hpl
  have hstep := stepN_le (T := x.T) h.peb.good hm hfew
  rw [hT0] at hstep
  have haw : Apart (x.foot R) w w2 := by
    have h1 : Apart (x.foot R) w w1 := ha.mono fun k hk => by
      rcases hk with hk | hk
      · exact .inl hk
      · exact .inr (.inl hk)
    have h2 : Apart (x.foot R) w W := h1.trans (Apart.of_below (F := fun _ => False) hbW) (fun _ h => h.elim)
    exact h2.trans hap2 fun k hk => .inl (.inr (.inr hk))
  have hWs : w.heap.size ≤ W.heap.size := Nat.le_trans hsz hbW.size
  refine ⟨d, c, ⟨b', cap', x.cd, x.cc, x.told + 1, stepN x.told x.steps ((y :: T).map Prod.fst), T', q', kc', x.L ++ [(d, c)]⟩, w2, rfl, by rw [← hW]; exact hrun, by simp, ⟨hP2, hk2, by simp [h.num], ?_, ?_, ?_, hstep⟩, haw, ?_, ?_⟩
  · intro j p hp
    by_cases hj : j < x.L.length
    · rw [List.getElem?_append_left hj] at hp
      exact (((h.keys j p hp)).off haw (by
        rintro k (rfl | rfl | rfl) i y
        · exact fun e => by cases h.peb.kind e (by decide) (.inl rfl)
        · exact fun e => by cases h.peb.kind e (by decide) (.inr rfl)
        · exact h.kept.plain i y))
    · rw [List.getElem?_append_right (by omega)] at hp
      have : j - x.L.length = 0 := by
        rcases Nat.eq_zero_or_pos (j - x.L.length) with e | e
        · exact e
        · rw [List.getElem?_eq_none (by simp; omega)] at hp; cases hp
      rw [this] at hp
      simp only [List.getElem?_cons_zero, Option.some.injEq] at hp
      subst hp
      have : j = x.told + 1 := by have := h.num; omega
      rw [this]
      exact hse2
  · exact h.own.off haw (by
      rintro k (rfl | rfl | rfl) i y
      · exact fun e => by cases h.peb.kind e (by decide) (.inl rfl)
      · exact fun e => by cases h.peb.kind e (by decide) (.inr rfl)
      · exact h.kept.plain i y)
  · rcases hq' with e | e
    · show q' ≠ R; rw [e]; exact h.ne
    · have := h.peb.lt; show q' ≠ R; omega
  · rcases hq' with e | e
    · exact .inl e
    · exact .inr (by show w.heap.size ≤ q'; omega)
  · exact hb'

/-- How long a slice is. -/
def lenV : Value → Nat
  | .slice _ l _ => l
  | _ => 0

set_option maxHeartbeats 3200000 in
theorem grown_ok (w : World) (R : Nat) (s : Rn) (oa : Option Addr) (oc : Nat) (Q0 N0 C0 : Nat) (x : PN) (h : Gr w R s oa oc Q0 N0 C0 x) (n : Nat) (hn : n ≤ s.c.k.toNat + 1) (hF : FTab w) (hT : KTab w) :
    Calls Tryz.prog 57 #[.slice (some ⟨x.q, 0, none⟩) x.L.length x.kc, .int .i64 (n : Int), .func (.func 58) #[.pointer (some ⟨R, 14, none⟩)] #[]] w fun e w' => ∃ x' : PN, e = .returned (.slice (some ⟨x'.q, 0, none⟩) x'.L.length x'.kc) ∧ Gr w' R s oa oc Q0 N0 C0 x' ∧ n ≤ x'.L.length ∧ Later R w w' x x' := by
  have hm := h.peb.most
  have hfits := h.kept.fits
  have hroom := h.peb.few
  have hnum := h.num
  obtain ⟨Lx, hLx⟩ : ∃ Lx, Lx = x.L.length := ⟨_, rfl⟩
  have R0 : ∃ x' : PN, Value.slice (some ⟨x.q, 0, none⟩) Lx Lx = .slice (some ⟨x'.q, 0, none⟩) x'.L.length x'.kc ∧ Gr w R s oa oc Q0 N0 C0 x' ∧ Later R w w x x' := ⟨{ x with kc := x.L.length }, by rw [hLx], h.tight, Later.refl _ _ _ _⟩
  have HH : Hid (Gr w R s oa oc Q0 N0 C0 x ∧ n ≤ s.c.k.toNat + 1 ∧ FTab w ∧ KTab w ∧ s.c.k.toNat ≤ 256) := ⟨h, hn, hF, hT, hm⟩
  have hL257 : n ≤ 257 := by omega
  have g1 : (Lx : Int) ≤ (x.kc : Int) := by omega
  have hLm : Lx ≤ 140737488355328 := by omega
  rw [← hLx]
  clear h hn hF hT hm hfits hLx hroom hnum
  go_enter Tryz.func57, Tryz.ntmps57
  go_wp2
  go_loopw [0] (fun k wr => ∃ x' : PN, k = .slice (some ⟨x'.q, 0, none⟩) x'.L.length x'.kc ∧ Gr wr R s oa oc Q0 N0 C0 x' ∧ Later R w wr x x') (fun k _ => n - lenV k)
  case atStart => exact R0
  case round =>
    clear R0
    obtain ⟨y, rfl, hG, hl⟩ := hrel
    obtain ⟨L, hL⟩ : ∃ L, L = y.L.length := ⟨_, rfl⟩
    have HG : Hid (Gr wr R s oa oc Q0 N0 C0 y ∧ Later R w wr x y ∧ L = y.L.length) := ⟨hG, hl, hL⟩
    rw [← hL]
    by_cases hlt : L < n
    · have ht : y.told < s.c.k.toNat := by have := hG.num; have := HH.out.2.1; omega
      have K := hG.step ht (HH.out.2.2.1.gr HH.out.1 hl.apart) (HH.out.2.2.2.1.gr HH.out.1 hl.apart)
      rw [← hL] at K
      have hli : (L : Int) < (n : Int) := by omega
      clear hG hl hL ht
      go_wp2_with fail
      refine K.mono ?_
      rintro e w1 ⟨d, c, y', w2, rfl, hrun, hlen, hG2, hl2⟩
      have HR : Hid ((Builtin.append_ #[50, 50] 50 #[.slice (some ⟨y.q, 0, none⟩) L y.kc, .slice (some ⟨w1.heap.size, 0, none⟩) 1 1]).run Tryz.prog (w1.alloc (.cells #[.slice d 16 c] 24)) = .ok (.slice (some ⟨y'.q, 0, none⟩) (L + 1) y'.kc) w2) := hrun
      have HG2 : Hid (Gr w2 R s oa oc Q0 N0 C0 y' ∧ Later R wr w2 y y' ∧ y'.L.length = L + 1) := ⟨hG2, hl2, hlen⟩
      clear K hrun hlen hG2 hl2
      go_wp2_with (at_builtin; refine wpList_append_run rfl _ _ 50 rfl _ _ _ rfl rfl HR.out ?_)
      go_roundw
      case rel => exact ⟨y', by rw [HG2.out.2.2], HG2.out.1, HG.out.2.1.trans HG2.out.2.1⟩
      case measure => simp only [lenV]; omega
    · have hli : ¬ (L : Int) < (n : Int) := by omega
      have HE : Hid (n ≤ L) := by show n ≤ L; omega
      clear hG hl hL hlt
      go_wp2
      go_ret
      exact ⟨y, by rw [HG.out.2.2]; rfl, HG.out.1, by rw [← HG.out.2.2]; exact HE.out, HG.out.2.1⟩
end Go.Proofs.YtgncdnejmobjbaaGreatDoor
