/-
  The walk of FrameSpoilt.
-/
import Derived.Test.YtoggjpkbbncbbaaFrameLaws
import Derived.Test.YtoggjpkbbncbbaaFrameBackW
import Derived.Test.YtoggjpkbbncbbaaCrcBurstP
namespace Go.Proofs.Ytoggjpkbbncbbaa
open Go.ChangeShapes Go.WideShapes Go.ChangeAt Go.RowKit

theorem own_form {w : World} {B : Nat} {d : Option Addr} {cd : Nat} {r : List UInt8} (ho : w.ownsRow B 5 1 (.slice d r.length cd) r.length (r.map cellOf)) (h : 0 < r.length) : ∃ g, d = some ⟨g, 0, none⟩ ∧ B ≤ g ∧ g < w.heap.size := by
  rcases ho.2 with ⟨_, h0⟩ | ⟨g, cap, cur, hv, hB, hg, _⟩
  · omega
  · simp only [Value.slice.injEq] at hv
    exact ⟨g, hv.1, hB, (Array.getElem?_eq_some_iff.1 hg).1⟩

/-- The low eight bits of bits are none. -/
theorem low_bits (b j : Nat) (h : j < 8) : (b / 256 * 256).testBit j = false := by
  rw [show (256 : Nat) = 2 ^ 8 from rfl, Nat.testBit_mul_two_pow]
  simp; omega

theorem burst_bits (N k b : Nat) (e : List UInt8) (h : bitsOf e = burstI N k (b / 256 * 256) 32) : e.length = N ∧ ∀ i c, (bitsOf e)[i]? = some c → c = true → k ≤ i ∧ i < k + 24 := by
  have hl : e.length = N := by
    have := congrArg List.length h
    rw [bitsOf_length, burstI_length] at this; omega
  refine ⟨hl, fun i c hc ht => ?_⟩
  have hi : i < 8 * N := by
    have := (List.getElem?_eq_some_iff.1 hc).1
    rw [bitsOf_length, hl] at this; exact this
  rw [h, burstI_at _ _ _ _ _ hi] at hc
  have h1 := Option.some.inj hc
  rw [ht] at h1
  simp only [Bool.and_eq_true, decide_eq_true_eq] at h1
  refine ⟨h1.1.1, ?_⟩
  rcases Nat.lt_or_ge i (k + 24) with g | g
  · exact g
  · have := low_bits b (31 - (i - k)) (by omega)
    rw [this] at h1
    simp at h1

def noneB (e : List UInt8) : Bool := e.all (fun c => decide (c.toNat = 0))
theorem noneB_eq (e : List UInt8) : noneB e = decide (e = List.replicate e.length 0) := by
  unfold noneB
  by_cases h : e = List.replicate e.length 0
  · rw [decide_eq_true h, List.all_eq_true]
    intro c hc
    rw [h] at hc
    have := List.eq_of_mem_replicate hc
    simp [this]
  · rw [decide_eq_false h, Bool.eq_false_iff]
    intro hall
    rw [List.all_eq_true] at hall
    apply h
    apply List.eq_replicate_of_mem
    intro c hc
    have := hall c hc
    simp at this
    apply UInt8.toNat_inj.1
    simpa using this
theorem noneB_take (e : List UInt8) (i : Nat) (c : UInt8) (h : e[i]? = some c) : noneB (e.take (i + 1)) = (noneB (e.take i) && decide (c.toNat = 0)) := by
  unfold noneB; rw [List.take_add_one, h]; simp

/-- The row behind i steps. -/
def midX (r e : List UInt8) (i : Nat) : List UInt8 := (xorL r e).take i ++ r.drop i
theorem midX_length (r e : List UInt8) (h : e.length = r.length) (i : Nat) (hi : i ≤ r.length) : (midX r e i).length = r.length := by
  unfold midX; rw [List.length_append, List.length_take, xorL_length r e h.symm, List.length_drop]; omega
theorem midX_at (r e : List UInt8) (h : e.length = r.length) (i : Nat) (hi : i < r.length) : (midX r e i)[i]? = r[i]? := by
  unfold midX
  have hl : ((xorL r e).take i).length = i := by rw [List.length_take, xorL_length r e h.symm]; omega
  rw [List.getElem?_append_right (by omega), hl, Nat.sub_self, List.getElem?_drop, Nat.add_zero]
theorem midX_set (r e : List UInt8) (h : e.length = r.length) (i : Nat) (x c : UInt8) (hx : r[i]? = some x) (hc : e[i]? = some c) : (midX r e i).set i (x ^^^ c) = midX r e (i + 1) := by
  have hi : i < r.length := (List.getElem?_eq_some_iff.1 hx).1
  have hl : ((xorL r e).take i).length = i := by rw [List.length_take, xorL_length r e h.symm]; omega
  have hz : (xorL r e)[i]? = some (x ^^^ c) := by simp [xorL, List.getElem?_zipWith, hx, hc]
  unfold midX
  rw [List.take_add_one, hz, List.set_append_right _ _ (by omega), hl, Nat.sub_self]
  have hd : r.drop i = x :: r.drop (i + 1) := by
    have := (List.getElem?_eq_some_iff.1 hx).2
    rw [List.drop_eq_getElem_cons hi, this]
  rw [hd]
  simp


/-- What Get tells of a spoilt frame. -/
theorem get_spoilt (F : Fr) (hn : F.n < 18446744073709551616) (hr : rightB F = true) (e : List UInt8) (k : Nat) (hl : e.length = (putL F).length) (he : ∀ i c, (bitsOf e)[i]? = some c → c = true → k ≤ i ∧ i < k + 24) :
    getE (xorL (putL F) e) = if noneB e = true then 0 else 8 := by
  obtain ⟨h3, _, _⟩ := put_len F hr
  have hg : goodL (putL F) = true := fix_good _
  have hf := burst_found (putL F) e k h3 hg hl he
  rw [← noneB_eq] at hf
  by_cases h : noneB e = true
  · rw [if_pos h]
    have h0 : e = List.replicate e.length 0 := by rw [noneB_eq] at h; simpa using h
    have hx : xorL (putL F) e = putL F := by
      rw [h0]
      unfold xorL
      rw [hl]
      generalize putL F = l
      induction l with
      | nil => rfl
      | cons a l ih => simp [List.replicate_succ, ih]
    rw [hx]
    exact (get_put F hn hr).1
  · rw [if_neg h]
    have h' : noneB e = false := by simpa using h
    rw [h'] at hf
    have hlen : (xorL (putL F) e).length = (putL F).length := xorL_length _ _ hl.symm
    exact getE_sum (by omega) hf

set_option maxHeartbeats 6400000 in
set_option maxRecDepth 20000 in
theorem spoilt_walk (F : Fr) (A : At) (y z : Int) (w : World) (hF : Seen w F A) (hn : F.n < 18446744073709551616) (wy : (Lit.int .u16 y).wf = true) (wz : (Lit.int .u32 z).wf = true) :
    Calls Try.prog 6 #[.agg (frC F A), .int .u16 y, .int .u32 z] w fun e w' => e = .returned (.bool true) ∧ Below w.heap.size w w' := by
  obtain ⟨n, rfl, hn16⟩ : ∃ n : Nat, y = n ∧ n < 65536 := ⟨y.toNat, by have := bounds_u16 wy; omega, by have := bounds_u16 wy; omega⟩
  obtain ⟨b, rfl, hb32⟩ : ∃ n : Nat, z = n ∧ n < 4294967296 := ⟨z.toNat, by have := bounds_u32 wz; omega, by have := bounds_u32 wz; omega⟩
  clear wy wz
  have hN0 := FrAt.new w F A
  have hb0 : Below w.heap.size w (w.alloc (.cells (frC F A) 25)) := Go.Joins.below_alloc1 _ _
  have HL0 : Hid ((Instr.loadAt 25 (.pointer (some ⟨w.heap.size, 0, none⟩))).run Try.prog (w.alloc (.cells (frC F A) 25)) = .ok (.agg (frC F A)) (w.alloc (.cells (frC F A) 25))) := hN0.loads
  by_cases hr : rightB F = true
  case neg =>
    have hp := put_no (w.alloc (.cells (frC F A) 25)) F A (hF.below hb0) (by simpa using hr)
    have H0 : Hid (Below w.heap.size w (w.alloc (.cells (frC F A) 25))) := hb0
    clear hN0 hb0 hF hn hr
    go_enter Try.func6, Try.ntmps6
    go_upto_region 1 with fail
    generalize w.alloc (Obj.cells (frC F A) 25) = W0 at *
    go_wp2_with (first | (refine wpList_gload_run rfl 25 _ rfl _ _ rfl HL0.out ?_) | fail)
    refine hp.mono ?_
    rintro e w1 ⟨rfl, hb1⟩
    have haw := awake_ok w1
    have H1 : Hid (Below w.heap.size w w1) := H0.out.trans (hb1.mono H0.out.size)
    clear hp hb1 H0 HL0
    go_wp2_with fail
    refine haw.mono ?_
    rintro e w2 ⟨rfl, hb2⟩
    have HE : Hid (Below w.heap.size w w2) := H1.out.trans (hb2.mono H1.out.size)
    clear haw hb2 H1
    go_wp2
    go_ret
    exact ⟨rfl, HE.out⟩
  have hp := put_yes (w.alloc (.cells (frC F A) 25)) F A (hF.below hb0) hn hr
  obtain ⟨hl3, hl53, _⟩ := put_len F hr
  have HSP : Hid (∀ (e : List UInt8) (k : Nat), e.length = (putL F).length → (∀ i c, (bitsOf e)[i]? = some c → c = true → k ≤ i ∧ i < k + 24) → getE (xorL (putL F) e) = if noneB e = true then 0 else 8) := fun e k h1 h2 => get_spoilt F hn hr e k h1 h2
  have H0 : Hid (Below w.heap.size w (w.alloc (.cells (frC F A) 25))) := hb0
  clear hN0 hb0 hF hn hr
  go_enter Try.func6, Try.ntmps6
  go_upto_region 1 with fail
  generalize w.alloc (Obj.cells (frC F A) 25) = W0 at *
  go_wp2_with (first | (refine wpList_gload_run rfl 25 _ rfl _ _ rfl HL0.out ?_) | fail)
  refine hp.mono ?_
  rintro e w1 ⟨xd, xc, r, hr, rfl, hsr, hb1, hor0⟩
  have hor : w1.ownsRow w.heap.size 5 1 (.slice xd r.length xc) r.length (r.map cellOf) := own_lower hor0 H0.out.size
  have hb1w : Below w.heap.size w w1 := H0.out.trans (hb1.mono H0.out.size)
  clear hp hor0 HL0
  obtain ⟨N, hN⟩ : ∃ N, N = (putL F).length := ⟨_, rfl⟩
  rw [← hN] at hl3 hl53 HSP
  have hrl : r.length = N := by rw [hr.out, hN]
  rw [← hr.out] at HSP
  obtain ⟨g1, rfl, hg1w, hg1⟩ := own_form hor (by omega)
  have HOR : Hid (w1.ownsRow w.heap.size 5 1 (.slice (some ⟨g1, 0, none⟩) r.length xc) r.length (r.map cellOf)) := hor
  obtain ⟨k, hk⟩ : ∃ k, k = n % (8 * N) := ⟨_, rfl⟩
  have hkN : k < 8 * N := by rw [hk]; exact Nat.mod_lt _ (by omega)
  have ek : (n : Int) % (8 * (N : Int)) = (k : Int) := by rw [hk]; simp
  have ek2 : (n : Int).tmod (8 * (N : Int)) = (k : Int) := by rw [Int.tmod_eq_emod_of_nonneg (by omega)]; exact ek
  obtain ⟨B, hB⟩ : ∃ B, B = b / 256 * 256 := ⟨_, rfl⟩
  have hB32 : B < 4294967296 := by omega
  have eB : (b : Int) / 256 * 256 = (B : Int) := by omega
  have wB : IntKind.u32.wrap ((b : Int) / 256 * 256) = (B : Int) := by rw [IntKind.wrap_u32]; omega
  have w8 : IntKind.i64.wrap (8 * (N : Int)) = 8 * (N : Int) := by rw [IntKind.wrap_i64]; omega
  have hz8 : (8 * (N : Int)) ≠ 0 := by omega
  have dz : ((N : Int) == 0) = false := by simp; omega
  have h2 := burst_ok w1 (N : Int) (k : Int) B hB32
  have HB : Hid (B = b / 256 * 256) := hB
  have HRL : Hid (r.length = N) := hrl
  have hsr' : Sees w1 (some ⟨g1, 0, none⟩) xc r := hsr
  rw [hrl]
  clear hr hor hk hB hN hrl hsr hb1 H0
  go_wp2_with fail
  refine h2.mono ?_
  rintro e w2 ⟨ed, ec, E, hE, rfl, hsE, hb2, hoE⟩
  clear h2
  have hE2 : bitsOf E = burstI N k (b / 256 * 256) 32 := by
    have h := hE.out
    unfold burstIs burstZ at h
    rw [if_neg (by omega), if_neg (by omega)] at h
    simp only [Int.toNat_natCast] at h
    rw [h, HB.out]
  obtain ⟨hEl, hEb⟩ := burst_bits N k b E hE2
  have HFO : Hid (getE (xorL r E) = if noneB E = true then 0 else 8) := HSP.out E k hEl hEb
  obtain ⟨g2, rfl, hg2w, hg2⟩ := own_form hoE (by omega)
  have bel2 : Below w.heap.size w w2 := hb1w.trans (hb2.mono hb1w.size)
  have hor2 : w2.ownsRow w.heap.size 5 1 (.slice (some ⟨g1, 0, none⟩) r.length xc) r.length (r.map cellOf) := own_keepB HOR.out hb2
  have hne : g2 ≠ g1 := by omega
  have HEL : Hid (E.length = N) := hEl
  rw [hEl]
  clear hE hE2 hEb hoE HB HSP
  have hor3 : w2.ownsRow w.heap.size 5 1 (.slice (some ⟨g1, 0, none⟩) N xc) N ((midX r E 0).map cellOf) := by
    have := hor2
    rw [HRL.out] at this
    exact this
  have hcE : ∀ i c, E[i]? = some c → w2.cell? ⟨g2, i, none⟩ = some (.int .u8 (c.toNat : Int)) := fun i c hc => by
    obtain ⟨b', o', hh, hcc⟩ := hsE.get hc
    cases hh
    rw [Nat.zero_add] at hcc
    exact hcc
  have HCE : Hid (∀ i c, E[i]? = some c → w2.cell? ⟨g2, i, none⟩ = some (.int .u8 (c.toNat : Int))) := hcE
  clear hor2 hsE hcE hb1w hb2 hsr' HOR hEl ek ek2 eB wB w8 hz8
  go_wp2
  go_loopw [10, 11] (fun sm i wr => ∃ k2 : Nat, k2 ≤ N ∧ i = .int .i64 k2 ∧ sm = .bool (!noneB (E.take k2)) ∧ wr.ownsRow w.heap.size 5 1 (.slice (some ⟨g1, 0, none⟩) N xc) N ((midX r E k2).map cellOf) ∧ Below w.heap.size w wr ∧ wr.heap[g2]? = w2.heap[g2]?) (fun _ i _ => N - (intOf i).toNat)
  case atStart => exact ⟨0, by omega, rfl, rfl, hor3, bel2, rfl⟩
  case round =>
    obtain ⟨q, hq, rfl, rfl, ho, bel, hg2e⟩ := hrel
    clear hor3 bel2
    by_cases hlt : q < N
    · obtain ⟨x, hx⟩ : ∃ x, r[q]? = some x := ⟨r[q]'(by rw [HRL.out]; exact hlt), by simp [HRL.out, hlt]⟩
      obtain ⟨c, hc⟩ : ∃ c, E[q]? = some c := ⟨E[q]'(by rw [HEL.out]; exact hlt), by simp [HEL.out, hlt]⟩
      have hcx : wr.cell? ⟨g1, q, none⟩ = some (.int .u8 (x.toNat : Int)) := by
        rw [ho.cellAt q (by omega), List.getElem?_map, midX_at r E (by rw [HEL.out, HRL.out]) q (by rw [HRL.out]; exact hlt), hx]; rfl
      have hfx : wr.frozen? ⟨g1, q, none⟩ = false := ho.frozenAt q
      have hcc : wr.cell? ⟨g2, q, none⟩ = some (.int .u8 (c.toNat : Int)) := by
        rw [World.cell?_of_block (w := w2) (w' := wr) (a := ⟨g2, q, none⟩) hg2e]; exact HCE.out q c hc
      obtain ⟨u, hu⟩ : ∃ u, u = x ^^^ c := ⟨_, rfl⟩
      have eu : bits .xor .u8 (x.toNat : Int) (c.toNat : Int) = (u.toNat : Int) := by rw [hu]; exact bxor x c
      obtain ⟨ho2, _⟩ := ho.stored q (.int .u8 (u.toNat : Int))
      rw [set_cellU, hu, midX_set r E (by rw [HEL.out, HRL.out]) q x c hx hc, ← hu] at ho2
      have HO1 : Hid ((wr.setCell ⟨g1, q, none⟩ (.int .u8 (u.toNat : Int))).drew.ownsRow w.heap.size 5 1 (.slice (some ⟨g1, 0, none⟩) N xc) N ((midX r E (q + 1)).map cellOf)) := ho2.drew
      have HBL : Hid (Below w.heap.size w (wr.setCell ⟨g1, q, none⟩ (.int .u8 (u.toNat : Int))).drew) := (bel.setCell (p := ⟨g1, q, none⟩) hg1w _).drew
      have HG2 : Hid ((wr.setCell ⟨g1, q, none⟩ (.int .u8 (u.toNat : Int))).drew.heap[g2]? = w2.heap[g2]?) := by
        show (wr.setCell ⟨g1, q, none⟩ (.int .u8 (u.toNat : Int))).heap[g2]? = w2.heap[g2]?
        rw [heap_setCell_other _ _ _ _ hne]; exact hg2e
      have hcc2 : (wr.setCell ⟨g1, q, none⟩ (.int .u8 (u.toNat : Int))).drew.cell? ⟨g2, q, none⟩ = some (.int .u8 (c.toNat : Int)) := by
        rw [World.cell?_of_block (w := w2) (a := ⟨g2, q, none⟩) HG2.out]; exact HCE.out q c hc
      have HNT : Hid (noneB (E.take (q + 1)) = (noneB (E.take q) && decide (c.toNat = 0))) := noneB_take E q c hc
      have g0 : (0 : Int) ≤ (q : Int) := Int.natCast_nonneg _
      have gN : (q : Int) < (N : Int) := by omega
      obtain ⟨w5, hw5⟩ : ∃ w5, w5 = (wr.setCell ⟨g1, q, none⟩ (.int .u8 (u.toNat : Int))).drew := ⟨_, rfl⟩
      clear ho ho2 hx hc hu
      go_wp2
      go_region
      rw [← hw5] at HO1 HBL HG2 hcc2 ⊢
      clear hw5 hcx hfx hcc eu bel hg2e
      by_cases hnb : noneB (E.take q) = true
      · rw [hnb] at HNT ⊢
        go_wp2
        go_roundw
        case rel => exact ⟨q + 1, by omega, by go_num, by rw [HNT.out]; by_cases h0 : c.toNat = 0 <;> simp [h0], HO1.out, HBL.out, HG2.out⟩
        case measure => simp [intOf]; omega
      · have hnf : noneB (E.take q) = false := by simpa using hnb
        rw [hnf] at HNT ⊢
        go_wp2
        go_roundw
        case rel => exact ⟨q + 1, by omega, by go_num, by rw [HNT.out]; rfl, HO1.out, HBL.out, HG2.out⟩
        case measure => simp [intOf]; omega
    · obtain rfl : q = N := by omega
      have hlen := midX_length r E (by rw [HEL.out, HRL.out]) q (by rw [HRL.out]; exact Nat.le_refl _)
      have hmid : midX r E q = xorL r E := by
        unfold midX
        rw [← HRL.out, List.drop_length, List.append_nil]
        have : r.length = (xorL r E).length := (xorL_length r E (by rw [HEL.out, HRL.out])).symm
        rw [this, List.take_length]
      rw [hmid] at ho hlen
      rw [HRL.out] at hlen
      have ho' : wr.ownsRow w.heap.size 5 1 (.slice (some ⟨g1, 0, none⟩) q xc) (xorL r E).length ((xorL r E).map cellOf) := by rw [hlen]; exact ho
      obtain ⟨dd, cc, hvv, hsX⟩ := Sees.of_own ho'
      simp only [Value.slice.injEq] at hvv
      rw [← hvv.1, ← hvv.2.2] at hsX
      have h4 := get_any wr (some ⟨g1, 0, none⟩) xc (xorL r E) hsX (by omega)
      rw [HFO.out, hlen] at h4
      have hT : E.take q = E := by rw [← HEL.out, List.take_length]
      rw [hT]
      obtain ⟨NB, hNB⟩ : ∃ b, noneB E = b := ⟨_, rfl⟩
      rw [hNB] at h4 ⊢
      generalize getF (xorL r E) = GF at *
      have HBE : Hid (Below w.heap.size w wr) := bel
      clear ho ho' hvv hsX hmid hlen hT hNB HFO bel hg2e
      cases NB
      · have h4' : Calls Try.prog 15 #[.slice (some ⟨g1, 0, none⟩) q xc] wr fun e w' => Got wr w' e GF 8 := h4
        clear h4
        go_wp2_with fail
        refine h4'.mono ?_
        rintro e w6 ⟨A6, rfl, hs6, hb6⟩
        obtain ⟨W6, hst6, _, _, hbb6⟩ := fr_laid hs6
        have HST6 : Hid ((Instr.storeAt 25 (.pointer (some ⟨w6.heap.size, 0, none⟩)) (.agg (frC GF A6))).run Try.prog (w6.alloc (.cells (frC Fr.zero At.zero) 25)) = .ok () W6) := hst6
        have haw := awake_ok W6
        have H6 : Hid (Below w.heap.size w W6) := (HBE.out.trans (hb6.mono HBE.out.size)).trans (hbb6.mono (Nat.le_trans HBE.out.size hb6.size))
        clear h4' hs6 hb6 hst6 hbb6 HBE
        go_wp2_with (first | (refine wpList_store_run rfl 25 _ _ rfl _ _ rfl rfl HST6.out ?_) | fail)
        refine haw.mono ?_
        rintro e w7 ⟨rfl, hb7⟩
        have HEE : Hid (Below w.heap.size w w7) := H6.out.trans (hb7.mono H6.out.size)
        clear haw hb7 H6 HST6
        go_wp2
        go_ret
        exact ⟨rfl, HEE.out⟩
      · have h4' : Calls Try.prog 15 #[.slice (some ⟨g1, 0, none⟩) q xc] wr fun e w' => Got wr w' e GF 0 := h4
        clear h4
        go_wp2_with fail
        refine h4'.mono ?_
        rintro e w6 ⟨A6, rfl, hs6, hb6⟩
        obtain ⟨W6, hst6, _, _, hbb6⟩ := fr_laid hs6
        have HST6 : Hid ((Instr.storeAt 25 (.pointer (some ⟨w6.heap.size, 0, none⟩)) (.agg (frC GF A6))).run Try.prog (w6.alloc (.cells (frC Fr.zero At.zero) 25)) = .ok () W6) := hst6
        have haw := awake_ok W6
        have H6 : Hid (Below w.heap.size w W6) := (HBE.out.trans (hb6.mono HBE.out.size)).trans (hbb6.mono (Nat.le_trans HBE.out.size hb6.size))
        clear h4' hs6 hb6 hst6 hbb6 HBE
        go_wp2_with (first | (refine wpList_store_run rfl 25 _ _ rfl _ _ rfl rfl HST6.out ?_) | fail)
        refine haw.mono ?_
        rintro e w7 ⟨rfl, hb7⟩
        have HEE : Hid (Below w.heap.size w w7) := H6.out.trans (hb7.mono H6.out.size)
        clear haw hb7 H6 HST6
        go_wp2
        go_ret
        exact ⟨rfl, HEE.out⟩
end Go.Proofs.Ytoggjpkbbncbbaa
