/-
  The walk of BitsWrites, out of what package bits must say.
-/
import Derived.Test.YtapfcgklocflfaaBitsLaws
namespace Go.Proofs.Ytapfcgklocflfaa
open Go.ChangeShapes Go.WideShapes Go.ChangeAt Go.RowKit

set_option maxHeartbeats 16000000 in
set_option maxRecDepth 20000 in
theorem writes_walk' (M : World → Nat → List Bool → (Nat → Prop) → Prop) (HM : WrSpec M) (HAW : BawakeOk) (a1 : Option Addr) (ca1 : Nat) (nl : List Int) (a2 : Option Addr) (ca2 : Nat) (wl : List Int) (a3 : Option Addr) (ca3 : Nat) (LL : List (List UInt8)) (w : World)
    (h1 : Nums .u64 w a1 ca1 nl) (h2 : Nums .i64 w a2 ca2 wl) (h3 : Rowss w a3 ca3 LL) :
    Calls Try.prog 3 #[.slice a1 nl.length ca1, .slice a2 wl.length ca2, .slice a3 LL.length ca3] w fun e w' => e = .returned (.bool true) ∧ Below w.heap.size w w' := by
  have H1 : Hid (Nums .u64 w a1 ca1 nl) := h1
  have H2 : Hid (Nums .i64 w a2 ca2 wl) := h2
  have H3 : Hid (Rowss w a3 ca3 LL) := h3
  have l1 := h1.len
  have l2 := h2.len
  have l3 := h3.len
  have hnew := HM.new w
  clear h1 h2 h3
  go_enter Try.func3, Try.ntmps3
  go_wp2_with fail
  refine hnew.mono ?_
  rintro e w1 ⟨b, F, rfl, hM1, hb1, hF1⟩
  have HB0 : Hid (Both M RW w.heap.size (w1.alloc (.cells #[.slice none 0 0] 30)) b [] w1.heap.size []) := by
    have hbb : Below w1.heap.size w1 (w1.alloc (.cells #[.slice none 0 0] 30)) := (Below.refl _ _).alloc (Nat.le_refl _) _
    refine ⟨F, fun k => k = w1.heap.size, HM.kept.below hM1 hbb, ⟨_, heap_alloc_new w1 _, World.ownsRow_nil _ _ _ _, rfl, by simp [Value.ownBlock], by rintro k rfl; simp⟩, ?_, hF1, by rintro k rfl; exact hb1.size⟩
    rintro k hk rfl
    have := HM.kept.lt hM1 _ hk; omega
  have hb2 : Below w.heap.size w (w1.alloc (.cells #[.slice none 0 0] 30)) := hb1.alloc hb1.size _
  obtain ⟨g, hg⟩ : ∃ g, g = w1.heap.size := ⟨_, rfl⟩
  have HG : Hid (g = w1.heap.size) := hg
  clear hnew hM1 hF1 hb1 hg
  go_wp2
  go_loopw [9] (fun i wr => ∃ (k : Nat) (bs : List Bool), k ≤ 200 ∧ i = .int .i64 k ∧ bs.length ≤ 8192 ∧ Both M RW w.heap.size wr b bs w1.heap.size bs ∧ Below w.heap.size w wr) (fun i _ => 200 - (intOf i).toNat)
  case atStart => exact ⟨0, [], by omega, rfl, by simp, HB0.out, hb2⟩
  case round =>
    obtain ⟨k, bs, hk, rfl, hbs, ⟨F, G, hm, hn, hFG, hF, hG⟩, bel⟩ := hrel
    clear HB0 hb2
    rw [← HG.out] at hn ⊢
    have hmD : M wr.drew b bs F := HM.kept.keep hm fun _ _ => rfl
    have hnD : RW wr.drew g bs G := rw_kept.keep hn fun _ _ => rfl
    have belD : Below w.heap.size w wr.drew := bel.drew
    have hszD : w.heap.size ≤ wr.drew.heap.size := bel.size
    have g0 : (0 : Int) ≤ (k : Int) := Int.natCast_nonneg _
    by_cases hall : k < nl.length ∧ k < wl.length ∧ k < LL.length ∧ k < 200
    · obtain ⟨k1, k2, k3, k4⟩ := hall
      obtain ⟨z, hz⟩ : ∃ z, nl[k]? = some z := ⟨nl[k], by simp [k1]⟩
      obtain ⟨W, hW⟩ : ∃ W, wl[k]? = some W := ⟨wl[k], by simp [k2]⟩
      obtain ⟨l, hl⟩ : ∃ l, LL[k]? = some l := ⟨LL[k], by simp [k3]⟩
      obtain ⟨nb, no, rfl, cn⟩ := H1.out.get hz
      obtain ⟨wb, wo, rfl, cw⟩ := H2.out.get hW
      obtain ⟨lb, lo, rfl, x, cx, cl, hx⟩ := H3.out.at' k l hl
      have hzb := bounds_u64 (H1.out.wf z (List.mem_of_getElem? hz))
      obtain ⟨n, rfl⟩ : ∃ n : Nat, z = (n : Int) := ⟨z.toNat, by omega⟩
      have hnb : n < 18446744073709551616 := by omega
      have HSK : Hid (∀ w', Below w.heap.size w w' → w'.cell? ⟨nb, no + k, none⟩ = some (.int .u64 (n : Int)) ∧ w'.cell? ⟨wb, wo + k, none⟩ = some (.int .i64 W) ∧ w'.cell? ⟨lb, lo + k, none⟩ = some (.slice x l.length cx)) := fun w' hb' =>
        ⟨by rw [hb'.cell (p := ⟨nb, no + k, none⟩) (World.block_lt_of_cell? w _ cn)]; exact cn, by rw [hb'.cell (p := ⟨wb, wo + k, none⟩) (World.block_lt_of_cell? w _ cw)]; exact cw, by rw [hb'.cell (p := ⟨lb, lo + k, none⟩) (World.block_lt_of_cell? w _ cl)]; exact cl⟩
      have HX : Hid (Sees w x cx l) := hx
      have HXB : Hid (∀ bb off, x = some ⟨bb, off, none⟩ → l ≠ [] → bb < w.heap.size) := fun bb off he hne => by
        obtain ⟨b2, o2, he2, hc2⟩ := hx.at' hne
        rw [he] at he2
        obtain ⟨rfl, rfl⟩ : bb = b2 ∧ off = o2 := by simpa using he2
        obtain ⟨y, hy⟩ : ∃ y, l[0]? = some y := by cases l with | nil => exact absurd rfl hne | cons y _ => exact ⟨y, rfl⟩
        exact World.block_lt_of_cell? w _ (hc2 0 y hy)
      have hlm : l.length ≤ 9223372036854775807 := by have := hx.fits; have := hx.room; unfold maxLen at this; omega
      obtain ⟨P1, hP1⟩ : ∃ P1, P1 = putP bs.length n W := ⟨_, rfl⟩
      obtain ⟨A1, hA1⟩ : ∃ A1, A1 = putB bs n W := ⟨_, rfl⟩
      obtain ⟨P2, hP2⟩ : ∃ P2, P2 = bytesP A1.length l.length := ⟨_, rfl⟩
      obtain ⟨A2, hA2⟩ : ∃ A2, A2 = bytesB A1 l := ⟨_, rfl⟩
      have HP9 : Hid (Calls Try.prog 9 #[.pointer (some ⟨b, 0, none⟩), .int .u64 (n : Int), .int .i64 W] wr.drew fun e w' => e = .returned (.int .i64 (P1 : Int)) ∧ Left M wr.drew F b A1 w') := by rw [hP1, hA1]; exact HM.put wr.drew b bs F n W hmD hnb hbs
      have HP1 : Hid (P1 = putP bs.length n W) := hP1
      have HA1 : Hid (A1 = putB bs n W) := hA1
      have HP2 : Hid (P2 = bytesP A1.length l.length) := hP2
      have HA2 : Hid (A2 = bytesB A1 l) := hA2
      have t1 : decide ((k : Int) < (nl.length : Int)) = true := by simp; omega
      have t2 : decide ((k : Int) < (wl.length : Int)) = true := by simp; omega
      have t3 : decide ((k : Int) < (LL.length : Int)) = true := by simp; omega
      have t4 : decide ((k : Int) < 200) = true := by simp; omega
      have i1 : (k : Int) < (nl.length : Int) := by omega
      have i2 : (k : Int) < (wl.length : Int) := by omega
      have i3 : (k : Int) < (LL.length : Int) := by omega
      clear hz hW hl cn cw cl hx hzb hP1 hA1 hP2 hA2 hm hn bel
      go_wp2
      refine wp_region_noPanic ?_
      refine wp_region_held (S := fun w' => w'.cell? ⟨nb, no + k, none⟩ = some (.int .u64 (n : Int)) ∧ w'.cell? ⟨wb, wo + k, none⟩ = some (.int .i64 W) ∧ w'.cell? ⟨lb, lo + k, none⟩ = some (.slice x l.length cx)) (by kernel_rfl) ?_
      have hS := HSK.out _ belD
      refine any_take 0 ?vr8n1 rfl (by kernel_rfl) (by kernel_rfl) (by kernel_rfl) (fun _ _ _ h => h) (by rfl) ?hr8n1 hS ?_
      case hr8n1 => (intro w hSw; (try dsimp only at hSw); go_split_ands; go_simp; (try with_reducible rfl))
      (try simp only [Act.put, List.setIfInBounds_toArray, List.set_cons_zero, List.set_cons_succ])
      refine any_take 1 ?vr8n2 rfl (by kernel_rfl) (by kernel_rfl) (by kernel_rfl) (fun _ _ _ h => h) (by rfl) ?hr8n2 hS ?_
      case hr8n2 => (intro w hSw; (try dsimp only at hSw); go_split_ands; go_simp; (try with_reducible rfl))
      (try simp only [Act.put, List.setIfInBounds_toArray, List.set_cons_zero, List.set_cons_succ])
      refine any_take 2 ?vr8n3 rfl (by kernel_rfl) (by kernel_rfl) (by kernel_rfl) (fun _ _ _ h => h) (by rfl) ?hr8n3 hS ?_
      case hr8n3 => (intro w hSw; (try dsimp only at hSw); go_split_ands; go_simp; (try with_reducible rfl))
      (try simp only [Act.put, List.setIfInBounds_toArray, List.set_cons_zero, List.set_cons_succ])
      refine any_take 3 ?vr8n4 rfl (by kernel_rfl) (by kernel_rfl) (by kernel_rfl) (fun _ _ _ h => h) (by rfl) ?hr8n4 hS ?_
      case hr8n4 => (intro w hSw; (try dsimp only at hSw); go_split_ands; go_simp; (try with_reducible rfl))
      (try simp only [Act.put, List.setIfInBounds_toArray, List.set_cons_zero, List.set_cons_succ])
      refine any_take 4 ?vr8n5 rfl (by kernel_rfl) (by kernel_rfl) (by kernel_rfl) (fun _ _ _ h => h) (by rfl) ?hr8n5 hS ?_
      case hr8n5 => (intro w hSw; (try dsimp only at hSw); go_split_ands; go_simp; (try with_reducible rfl))
      (try simp only [Act.put, List.setIfInBounds_toArray, List.set_cons_zero, List.set_cons_succ])
      refine any_take 5 ?vr8n6 rfl (by kernel_rfl) (by kernel_rfl) (by kernel_rfl) (fun _ _ _ h => h) (by rfl) ?hr8n6 hS ?_
      case hr8n6 => (intro w hSw; (try dsimp only at hSw); go_split_ands; go_simp; (try with_reducible rfl))
      (try simp only [Act.put, List.setIfInBounds_toArray, List.set_cons_zero, List.set_cons_succ])
      refine any_take 6 ?vr8n7 rfl (by kernel_rfl) (by kernel_rfl) (by kernel_rfl) (fun _ _ _ h => h) (by rfl) ?hr8n7 hS ?_
      case hr8n7 => (intro w hSw; (try dsimp only at hSw); go_split_ands; go_simp; (try with_reducible rfl))
      (try simp only [Act.put, List.setIfInBounds_toArray, List.set_cons_zero, List.set_cons_succ])
      refine any_take 7 ?vr8n8 rfl (by kernel_rfl) (by kernel_rfl) (by kernel_rfl) (fun _ _ _ h => h) (by rfl) ?hr8n8 hS ?_
      case hr8n8 => (intro w hSw; (try dsimp only at hSw); go_split_ands; go_simp; (try with_reducible rfl))
      (try simp only [Act.put, List.setIfInBounds_toArray, List.set_cons_zero, List.set_cons_succ])
      refine any_take 8 ?vr8n9 rfl (by kernel_rfl) (by kernel_rfl) (by kernel_rfl) (fun _ _ _ h => h) (by rfl) ?hr8n9 hS ?_
      case hr8n9 => (intro w hSw; (try dsimp only at hSw); go_split_ands; go_simp; (try with_reducible rfl))
      (try simp only [Act.put, List.setIfInBounds_toArray, List.set_cons_zero, List.set_cons_succ])
      refine any_take 10 ?vr8n10 rfl (by kernel_rfl) (by kernel_rfl) (by kernel_rfl) (fun _ _ _ h => h) (by rfl) ?hr8n10 hS ?_
      case hr8n10 => (intro w hSw; (try dsimp only at hSw); go_split_ands; go_simp; (try with_reducible rfl))
      (try simp only [Act.put, List.setIfInBounds_toArray, List.set_cons_zero, List.set_cons_succ])
      refine any_take 11 ?vr8n11 rfl (by kernel_rfl) (by kernel_rfl) (by kernel_rfl) (fun _ _ _ h => h) (by rfl) ?hr8n11 hS ?_
      case hr8n11 => (intro w hSw; (try dsimp only at hSw); go_split_ands; go_simp; (try with_reducible rfl))
      (try simp only [Act.put, List.setIfInBounds_toArray, List.set_cons_zero, List.set_cons_succ])
      refine any_take 12 ?vr8n12 rfl (by kernel_rfl) (by kernel_rfl) (by kernel_rfl) (fun _ _ _ h => h) (by rfl) ?hr8n12 hS ?_
      case hr8n12 => (intro w hSw; (try dsimp only at hSw); go_split_ands; go_simp; (try with_reducible rfl))
      (try simp only [Act.put, List.setIfInBounds_toArray, List.set_cons_zero, List.set_cons_succ])
      refine any_take 13 ?vr8n13 rfl (by kernel_rfl) (by kernel_rfl) (by kernel_rfl) (fun _ _ _ h => h) (by rfl) ?hr8n13 hS ?_
      case hr8n13 => (intro w hSw; (try dsimp only at hSw); go_split_ands; go_simp; (try with_reducible rfl))
      (try simp only [Act.put, List.setIfInBounds_toArray, List.set_cons_zero, List.set_cons_succ])
      refine any_take 14 ?vr8n14 rfl (by kernel_rfl) (by kernel_rfl) (by kernel_rfl) (fun _ _ _ h => h) (by rfl) ?hr8n14 hS ?_
      case hr8n14 => (intro w hSw; (try dsimp only at hSw); go_split_ands; go_simp; (try with_reducible rfl))
      (try simp only [Act.put, List.setIfInBounds_toArray, List.set_cons_zero, List.set_cons_succ])
      refine any_take 15 ?vr8n15 rfl (by kernel_rfl) (by kernel_rfl) (by kernel_rfl) (fun _ _ _ h => h) (by rfl) ?hr8n15 hS ?_
      case hr8n15 => (intro w hSw; (try dsimp only at hSw); go_split_ands; go_simp; (try with_reducible rfl))
      (try simp only [Act.put, List.setIfInBounds_toArray, List.set_cons_zero, List.set_cons_succ])
      refine any_take 16 ?vr8n16 rfl (by kernel_rfl) (by kernel_rfl) (by kernel_rfl) (fun _ _ _ h => h) (by rfl) ?hr8n16 hS ?_
      case hr8n16 => (intro w hSw; (try dsimp only at hSw); go_split_ands; go_simp; (try with_reducible rfl))
      (try simp only [Act.put, List.setIfInBounds_toArray, List.set_cons_zero, List.set_cons_succ])
      refine any_take 17 ?vr8n17 rfl (by kernel_rfl) (by kernel_rfl) (by kernel_rfl) (fun _ _ _ h => h) (by rfl) ?hr8n17 hS ?_
      case hr8n17 => (intro w hSw; (try dsimp only at hSw); go_split_ands; go_simp; (try with_reducible rfl))
      (try simp only [Act.put, List.setIfInBounds_toArray, List.set_cons_zero, List.set_cons_succ])
      refine any_take 18 ?vr8n18 rfl (by kernel_rfl) (by kernel_rfl) (by kernel_rfl) (fun _ _ _ h => h) (by rfl) ?hr8n18 hS ?_
      case hr8n18 => (intro w hSw; (try dsimp only at hSw); go_split_ands; go_simp; (try with_reducible rfl))
      (try simp only [Act.put, List.setIfInBounds_toArray, List.set_cons_zero, List.set_cons_succ])
      refine any_one 9 rfl (by kernel_rfl) (by rfl) (fun K hK => ?_)
      clear hS
      go_simp
      refine HP9.out.mono ?_
      rintro e w3 ⟨rfl, hL3⟩
      have bel3 := hL3.below belD hF hszD
      obtain ⟨F3, G3, m3, n3, d3, f3, g3⟩ := Both.first rw_kept hnD hFG hF hG hszD hL3
      have HP19 : Hid (Calls Try.prog 10 #[.pointer (some ⟨g, 0, none⟩), .int .u64 (n : Int), .int .i64 W] w3 fun e w' => e = .returned (.int .i64 (P1 : Int)) ∧ Left RW w3 G3 g A1 w') := by
        rw [HP1.out, HA1.out]; exact rput_any w3 g bs G3 n3 n hnb W hbs
      clear hL3 hmD hnD n3 HP9
      refine hK.out _ _ (HSK.out _ bel3) (fun hS => ?_)
      clear hK
      (try simp only [Act.put, List.setIfInBounds_toArray, List.set_cons_zero, List.set_cons_succ])
      refine any_one 19 rfl (by kernel_rfl) (by rfl) (fun K hK => ?_)
      clear hS
      go_simp
      refine HP19.out.mono ?_
      rintro e w4 ⟨rfl, hL4⟩
      have bel4 := hL4.below bel3 g3 bel3.size
      obtain ⟨F4, G4, m4, n4, d4, f4, g4⟩ := Both.second HM.kept m3 d3 f3 g3 bel3.size hL4
      have HP27 : Hid (Calls Try.prog 11 #[.pointer (some ⟨b, 0, none⟩), .slice x l.length cx] w4 fun e w' => e = .returned (.int .i64 (P2 : Int)) ∧ Left M w4 F4 b A2 w') := by
        rw [HP2.out, HA2.out]; exact HM.bytes w4 b A1 F4 x cx l m4 (HX.out.below bel4) (fun bb off he hne hf => by have h1 := f4 bb hf; have h2 := HXB.out bb off he hne; omega) (by rw [HA1.out]; exact putB_len bs n W hbs)
      clear hL4 m3 m4 HP19
      refine hK.out _ _ (HSK.out _ bel4) (fun hS => ?_)
      clear hK
      (try simp only [Act.put, List.setIfInBounds_toArray, List.set_cons_zero, List.set_cons_succ])
      refine any_take 20 ?vr8n19 rfl (by kernel_rfl) (by kernel_rfl) (by kernel_rfl) (fun _ _ _ h => h) (by rfl) ?hr8n19 hS ?_
      case hr8n19 => (intro w hSw; (try dsimp only at hSw); go_split_ands; go_simp; (try with_reducible rfl))
      (try simp only [Act.put, List.setIfInBounds_toArray, List.set_cons_zero, List.set_cons_succ])
      refine any_take 21 ?vr8n20 rfl (by kernel_rfl) (by kernel_rfl) (by kernel_rfl) (fun _ _ _ h => h) (by rfl) ?hr8n20 hS ?_
      case hr8n20 => (intro w hSw; (try dsimp only at hSw); go_split_ands; go_simp; (try with_reducible rfl))
      (try simp only [Act.put, List.setIfInBounds_toArray, List.set_cons_zero, List.set_cons_succ])
      refine any_take 22 ?vr8n21 rfl (by kernel_rfl) (by kernel_rfl) (by kernel_rfl) (fun _ _ _ h => h) (by rfl) ?hr8n21 hS ?_
      case hr8n21 => (intro w hSw; (try dsimp only at hSw); go_split_ands; go_simp; (try with_reducible rfl))
      (try simp only [Act.put, List.setIfInBounds_toArray, List.set_cons_zero, List.set_cons_succ])
      refine any_take 23 ?vr8n22 rfl (by kernel_rfl) (by kernel_rfl) (by kernel_rfl) (fun _ _ _ h => h) (by rfl) ?hr8n22 hS ?_
      case hr8n22 => (intro w hSw; (try dsimp only at hSw); go_split_ands; go_simp; (try with_reducible rfl))
      (try simp only [Act.put, List.setIfInBounds_toArray, List.set_cons_zero, List.set_cons_succ])
      refine any_take 24 ?vr8n23 rfl (by kernel_rfl) (by kernel_rfl) (by kernel_rfl) (fun _ _ _ h => h) (by rfl) ?hr8n23 hS ?_
      case hr8n23 => (intro w hSw; (try dsimp only at hSw); go_split_ands; go_simp; (try with_reducible rfl))
      (try simp only [Act.put, List.setIfInBounds_toArray, List.set_cons_zero, List.set_cons_succ])
      refine any_take 25 ?vr8n24 rfl (by kernel_rfl) (by kernel_rfl) (by kernel_rfl) (fun _ _ _ h => h) (by rfl) ?hr8n24 hS ?_
      case hr8n24 => (intro w hSw; (try dsimp only at hSw); go_split_ands; go_simp; (try with_reducible rfl))
      (try simp only [Act.put, List.setIfInBounds_toArray, List.set_cons_zero, List.set_cons_succ])
      refine any_take 26 ?vr8n25 rfl (by kernel_rfl) (by kernel_rfl) (by kernel_rfl) (fun _ _ _ h => h) (by rfl) ?hr8n25 hS ?_
      case hr8n25 => (intro w hSw; (try dsimp only at hSw); go_split_ands; go_simp; (try with_reducible rfl))
      (try simp only [Act.put, List.setIfInBounds_toArray, List.set_cons_zero, List.set_cons_succ])
      refine any_take 28 ?vr8n26 rfl (by kernel_rfl) (by kernel_rfl) (by kernel_rfl) (fun _ _ _ h => h) (by rfl) ?hr8n26 hS ?_
      case hr8n26 => (intro w hSw; (try dsimp only at hSw); go_split_ands; go_simp; (try with_reducible rfl))
      (try simp only [Act.put, List.setIfInBounds_toArray, List.set_cons_zero, List.set_cons_succ])
      refine any_take 29 ?vr8n27 rfl (by kernel_rfl) (by kernel_rfl) (by kernel_rfl) (fun _ _ _ h => h) (by rfl) ?hr8n27 hS ?_
      case hr8n27 => (intro w hSw; (try dsimp only at hSw); go_split_ands; go_simp; (try with_reducible rfl))
      (try simp only [Act.put, List.setIfInBounds_toArray, List.set_cons_zero, List.set_cons_succ])
      refine any_take 30 ?vr8n28 rfl (by kernel_rfl) (by kernel_rfl) (by kernel_rfl) (fun _ _ _ h => h) (by rfl) ?hr8n28 hS ?_
      case hr8n28 => (intro w hSw; (try dsimp only at hSw); go_split_ands; go_simp; (try with_reducible rfl))
      (try simp only [Act.put, List.setIfInBounds_toArray, List.set_cons_zero, List.set_cons_succ])
      refine any_take 31 ?vr8n29 rfl (by kernel_rfl) (by kernel_rfl) (by kernel_rfl) (fun _ _ _ h => h) (by rfl) ?hr8n29 hS ?_
      case hr8n29 => (intro w hSw; (try dsimp only at hSw); go_split_ands; go_simp; (try with_reducible rfl))
      (try simp only [Act.put, List.setIfInBounds_toArray, List.set_cons_zero, List.set_cons_succ])
      refine any_take 32 ?vr8n30 rfl (by kernel_rfl) (by kernel_rfl) (by kernel_rfl) (fun _ _ _ h => h) (by rfl) ?hr8n30 hS ?_
      case hr8n30 => (intro w hSw; (try dsimp only at hSw); go_split_ands; go_simp; (try with_reducible rfl))
      (try simp only [Act.put, List.setIfInBounds_toArray, List.set_cons_zero, List.set_cons_succ])
      refine any_one 27 rfl (by kernel_rfl) (by rfl) (fun K hK => ?_)
      clear hS
      go_simp
      refine HP27.out.mono ?_
      rintro e w5 ⟨rfl, hL5⟩
      have bel5 := hL5.below bel4 f4 bel4.size
      obtain ⟨F5, G5, m5, n5, d5, f5, g5⟩ := Both.first rw_kept n4 d4 f4 g4 bel4.size hL5
      have HP33 : Hid (Calls Try.prog 12 #[.pointer (some ⟨g, 0, none⟩), .slice x l.length cx] w5 fun e w' => e = .returned (.int .i64 (P2 : Int)) ∧ Left RW w5 G5 g A2 w') := by
        rw [HP2.out, HA2.out]; exact rbytes_any w5 g A1 G5 n5 x cx l (HX.out.below bel5) (fun bb off he hne hf => by have h1 := g5 bb hf; have h2 := HXB.out bb off he hne; omega) (by rw [HA1.out]; exact putB_len bs n W hbs)
      clear hL5 n4 n5 HP27
      refine hK.out _ _ (HSK.out _ bel5) (fun hS => ?_)
      clear hK
      (try simp only [Act.put, List.setIfInBounds_toArray, List.set_cons_zero, List.set_cons_succ])
      refine any_one 33 rfl (by kernel_rfl) (by rfl) (fun K hK => ?_)
      clear hS
      go_simp
      refine HP33.out.mono ?_
      rintro e w6 ⟨rfl, hL6⟩
      have bel6 := hL6.below bel5 g5 bel5.size
      obtain ⟨F6, G6, m6, n6, d6, f6, g6⟩ := Both.second HM.kept m5 d5 f5 g5 bel5.size hL6
      have HP38 : Hid (Calls Try.prog 13 #[.pointer (some ⟨b, 0, none⟩)] w6 fun e w' => e = .returned (.int .i64 (A2.length : Int)) ∧ Below w6.heap.size w6 w') := HM.len w6 b A2 F6 m6
      have n6' := n6
      obtain ⟨v6, q1, q2, _⟩ := n6
      obtain ⟨vd, vc, rfl⟩ : ∃ d cd, v6 = .slice d A2.length cd := by
        rcases q2.2 with ⟨rfl, h0⟩ | ⟨q, cap, cur, rfl, _⟩
        · exact ⟨none, 0, by rw [h0]⟩
        · exact ⟨_, _, rfl⟩
      have c6 : w6.cell? ⟨g, 0, none⟩ = some (.slice vd A2.length vc) := cell_of_row _ _ 0 _ _ _ q1
      have HB6 : Hid (Both M RW w.heap.size w6 b A2 g A2) := ⟨F6, G6, m6, n6', d6, f6, g6⟩
      clear hL6 m5 HP33 q1 q2 m6 n6'
      refine hK.out _ _ (HSK.out _ bel6) (fun hS => ?_)
      clear hK
      (try simp only [Act.put, List.setIfInBounds_toArray, List.set_cons_zero, List.set_cons_succ])
      refine any_take 34 ?vr8n31 rfl (by kernel_rfl) (by kernel_rfl) (by kernel_rfl) (fun _ _ _ h => h) (by rfl) ?hr8n31 hS ?_
      case hr8n31 => (intro w hSw; (try dsimp only at hSw); go_split_ands; go_simp; (try with_reducible rfl))
      (try simp only [Act.put, List.setIfInBounds_toArray, List.set_cons_zero, List.set_cons_succ])
      refine any_take 35 ?vr8n32 rfl (by kernel_rfl) (by kernel_rfl) (by kernel_rfl) (fun _ _ _ h => h) (by rfl) ?hr8n32 hS ?_
      case hr8n32 => (intro w hSw; (try dsimp only at hSw); go_split_ands; go_simp; (try with_reducible rfl))
      (try simp only [Act.put, List.setIfInBounds_toArray, List.set_cons_zero, List.set_cons_succ])
      refine any_take 36 ?vr8n33 rfl (by kernel_rfl) (by kernel_rfl) (by kernel_rfl) (fun _ _ _ h => h) (by rfl) ?hr8n33 hS ?_
      case hr8n33 => (intro w hSw; (try dsimp only at hSw); go_split_ands; go_simp; (try with_reducible rfl))
      (try simp only [Act.put, List.setIfInBounds_toArray, List.set_cons_zero, List.set_cons_succ])
      refine any_take 37 ?vr8n34 rfl (by kernel_rfl) (by kernel_rfl) (by kernel_rfl) (fun _ _ _ h => h) (by rfl) ?hr8n34 hS ?_
      case hr8n34 => (intro w hSw; (try dsimp only at hSw); go_split_ands; go_simp; (try with_reducible rfl))
      (try simp only [Act.put, List.setIfInBounds_toArray, List.set_cons_zero, List.set_cons_succ])
      refine any_take 39 ?vr8n35 rfl (by kernel_rfl) (by kernel_rfl) (by kernel_rfl) (fun _ _ _ h => h) (by rfl) ?hr8n35 hS ?_
      case hr8n35 => (intro w hSw; (try dsimp only at hSw); go_split_ands; go_simp; (try with_reducible rfl))
      (try simp only [Act.put, List.setIfInBounds_toArray, List.set_cons_zero, List.set_cons_succ])
      refine any_take 40 ?vr8n36 rfl (by kernel_rfl) (by kernel_rfl) (by kernel_rfl) (fun _ _ _ h => h) (by rfl) ?hr8n36 hS ?_
      case hr8n36 => (intro w hSw; (try dsimp only at hSw); go_split_ands; go_simp; (try with_reducible rfl))
      (try simp only [Act.put, List.setIfInBounds_toArray, List.set_cons_zero, List.set_cons_succ])
      refine any_take 41 ?vr8n37 rfl (by kernel_rfl) (by kernel_rfl) (by kernel_rfl) (fun _ _ _ h => h) (by rfl) ?hr8n37 hS ?_
      case hr8n37 => (intro w hSw; (try dsimp only at hSw); go_split_ands; go_simp; (try with_reducible rfl))
      (try simp only [Act.put, List.setIfInBounds_toArray, List.set_cons_zero, List.set_cons_succ])
      refine any_two 38 42 rfl rfl (by kernel_rfl) (by rfl) (by rfl) (fun K hK => ?_) (fun K hK => ?_)
      · clear hS
        go_simp
        refine HP38.out.mono ?_
        rintro e w7 ⟨rfl, hb7⟩
        have bel7 := bel6.trans (hb7.mono bel6.size)
        have HB7 : Hid (Both M RW w.heap.size w7 b A2 g A2) := Both.below HM.kept rw_kept HB6.out hb7
        have c7 : w7.cell? ⟨g, 0, none⟩ = some (.slice vd A2.length vc) := by rw [hb7.cell (p := ⟨g, 0, none⟩) (World.block_lt_of_cell? w6 _ c6)]; exact c6
        clear HP38
        refine hK.out _ _ (HSK.out _ bel7) (fun hS => ?_)
        clear hK
        (try simp only [Act.put, List.setIfInBounds_toArray, List.set_cons_zero, List.set_cons_succ])
        refine any_one 42 rfl (by kernel_rfl) (by rfl) (fun K hK => ?_)
        clear hS
        go_simp
        refine hK.out _ _ (by first | exact HSK.out _ bel7 | exact HSK.out _ bel6) (fun hS => ?_)
        clear hK
        (try simp only [Act.put, List.setIfInBounds_toArray, List.set_cons_zero, List.set_cons_succ])
        refine any_take 43 ?vr8n38 rfl (by kernel_rfl) (by kernel_rfl) (by kernel_rfl) (fun _ _ _ h => h) (by rfl) ?hr8n38 hS ?_
        case hr8n38 => (intro w hSw; (try dsimp only at hSw); go_split_ands; go_simp; (try with_reducible rfl))
        (try simp only [Act.put, List.setIfInBounds_toArray, List.set_cons_zero, List.set_cons_succ])
        refine any_take 44 ?vr8n39 rfl (by kernel_rfl) (by kernel_rfl) (by kernel_rfl) (fun _ _ _ h => h) (by rfl) ?hr8n39 hS ?_
        case hr8n39 => (intro w hSw; (try dsimp only at hSw); go_split_ands; go_simp; (try with_reducible rfl))
        (try simp only [Act.put, List.setIfInBounds_toArray, List.set_cons_zero, List.set_cons_succ])
        refine any_take 45 ?vr8n40 rfl (by kernel_rfl) (by kernel_rfl) (by kernel_rfl) (fun _ _ _ h => h) (by rfl) ?hr8n40 hS ?_
        case hr8n40 => (intro w hSw; (try dsimp only at hSw); go_split_ands; go_simp; (try with_reducible rfl))
        (try simp only [Act.put, List.setIfInBounds_toArray, List.set_cons_zero, List.set_cons_succ])
        refine wpAnyH_done (by kernel_rfl) ?_ _
        refine NoPanic.normal ?_
        go_wp2
        go_roundw
        case rel => exact ⟨k + 1, A2, by omega, by go_num, by rw [HA2.out, HA1.out]; exact bytesB_len _ l (putB_len bs n W hbs), HB7.out, bel7⟩
        case measure => simp [intOf]; omega
      · clear hS
        go_simp
        refine hK.out _ _ (by first | exact HSK.out _ bel7 | exact HSK.out _ bel6) (fun hS => ?_)
        clear hK
        (try simp only [Act.put, List.setIfInBounds_toArray, List.set_cons_zero, List.set_cons_succ])
        refine any_take 43 ?vr8n41 rfl (by kernel_rfl) (by kernel_rfl) (by kernel_rfl) (fun _ _ _ h => h) (by rfl) ?hr8n41 hS ?_
        case hr8n41 => (intro w hSw; (try dsimp only at hSw); go_split_ands; go_simp; (try with_reducible rfl))
        (try simp only [Act.put, List.setIfInBounds_toArray, List.set_cons_zero, List.set_cons_succ])
        refine any_one 38 rfl (by kernel_rfl) (by rfl) (fun K hK => ?_)
        clear hS
        go_simp
        refine HP38.out.mono ?_
        rintro e w7 ⟨rfl, hb7⟩
        have bel7 := bel6.trans (hb7.mono bel6.size)
        have HB7 : Hid (Both M RW w.heap.size w7 b A2 g A2) := Both.below HM.kept rw_kept HB6.out hb7
        have c7 : w7.cell? ⟨g, 0, none⟩ = some (.slice vd A2.length vc) := by rw [hb7.cell (p := ⟨g, 0, none⟩) (World.block_lt_of_cell? w6 _ c6)]; exact c6
        clear HP38
        refine hK.out _ _ (HSK.out _ bel7) (fun hS => ?_)
        clear hK
        (try simp only [Act.put, List.setIfInBounds_toArray, List.set_cons_zero, List.set_cons_succ])
        refine any_take 44 ?vr8n42 rfl (by kernel_rfl) (by kernel_rfl) (by kernel_rfl) (fun _ _ _ h => h) (by rfl) ?hr8n42 hS ?_
        case hr8n42 => (intro w hSw; (try dsimp only at hSw); go_split_ands; go_simp; (try with_reducible rfl))
        (try simp only [Act.put, List.setIfInBounds_toArray, List.set_cons_zero, List.set_cons_succ])
        refine any_take 45 ?vr8n43 rfl (by kernel_rfl) (by kernel_rfl) (by kernel_rfl) (fun _ _ _ h => h) (by rfl) ?hr8n43 hS ?_
        case hr8n43 => (intro w hSw; (try dsimp only at hSw); go_split_ands; go_simp; (try with_reducible rfl))
        (try simp only [Act.put, List.setIfInBounds_toArray, List.set_cons_zero, List.set_cons_succ])
        refine wpAnyH_done (by kernel_rfl) ?_ _
        refine NoPanic.normal ?_
        go_wp2
        go_roundw
        case rel => exact ⟨k + 1, A2, by omega, by go_num, by rw [HA2.out, HA1.out]; exact bytesB_len _ l (putB_len bs n W hbs), HB7.out, bel7⟩
        case measure => simp [intOf]; omega
    · have hdn := HM.done wr.drew b bs F hmD hbs
      have HD1 : Hid (Calls Try.prog 14 #[.pointer (some ⟨b, 0, none⟩)] wr.drew fun e w' => ∃ d cd r, Hid (r = packL bs) ∧ e = .returned (.slice d r.length cd) ∧ Sees w' d cd r ∧ Below wr.drew.heap.size wr.drew w') := hdn
      have hcs : (¬ k < nl.length) ∨ (k < nl.length ∧ ¬ k < wl.length) ∨ (k < nl.length ∧ k < wl.length ∧ ¬ k < LL.length) ∨ (k < nl.length ∧ k < wl.length ∧ k < LL.length ∧ (200 : Int) ≤ (k : Int)) := by omega
      clear hdn hm hn bel hall
      rcases hcs with t1 | ⟨t1, t2⟩ | ⟨t1, t2, t3⟩ | ⟨t1, t2, t3, t4⟩
      · go_wp2
        refine wp_region_noPanic ?_
        refine wp_region_held (S := fun _ => True) (by kernel_rfl) ?_
        have hS := trivial
        refine any_take 0 ?vxan1 rfl (by kernel_rfl) (by kernel_rfl) (by kernel_rfl) (fun _ _ _ h => h) (by rfl) ?hxan1 hS ?_
        case hxan1 => (intro w hSw; (try dsimp only at hSw); go_split_ands; go_simp; (try with_reducible rfl))
        (try simp only [Act.put, List.setIfInBounds_toArray, List.set_cons_zero, List.set_cons_succ])
        refine any_take 3 ?vxan2 rfl (by kernel_rfl) (by kernel_rfl) (by kernel_rfl) (fun _ _ _ h => h) (by rfl) ?hxan2 hS ?_
        case hxan2 => (intro w hSw; (try dsimp only at hSw); go_split_ands; go_simp; (try with_reducible rfl))
        (try simp only [Act.put, List.setIfInBounds_toArray, List.set_cons_zero, List.set_cons_succ])
        refine any_one 1 rfl (by kernel_rfl) (by rfl) (fun K hK => ?_)
        clear hS
        go_simp
        refine HD1.out.mono ?_
        rintro e w8 ⟨d8, c8, r8, hr8, rfl, hs8, hb8⟩
        have bel8 := belD.trans (hb8.mono belD.size)
        have e1 := hs8.convert (P := Try.prog) 36 5 9 Try.underlying36 Try.underlying5 Try.underlying9
        have HD4 : Hid (Calls Try.prog 15 #[.pointer (some ⟨g, 0, none⟩)] w8 fun e w' => ∃ d cd r, Hid (r = packL bs) ∧ e = .returned (.slice d r.length cd) ∧ Sees w' d cd r ∧ Below w8.heap.size w8 w') := rdone_any w8 g bs G (rw_kept.below hnD hb8) hbs
        clear HD1
        refine hK.out _ _ (trivial) (fun hS => ?_)
        clear hK
        (try simp only [Act.put, List.setIfInBounds_toArray, List.set_cons_zero, List.set_cons_succ])
        refine any_two 2 4 rfl rfl (by kernel_rfl) (by rfl) (by rfl) (fun K hK => ?_) (fun K hK => ?_)
        · clear hS
          go_simp
          refine hK.out _ _ (trivial) (fun hS => ?_)
          clear hK
          (try simp only [Act.put, List.setIfInBounds_toArray, List.set_cons_zero, List.set_cons_succ])
          refine any_one 4 rfl (by kernel_rfl) (by rfl) (fun K hK => ?_)
          clear hS
          go_simp
          refine HD4.out.mono ?_
          rintro e w9 ⟨d9, c9, r9, hr9, rfl, hs9, hb9⟩
          have bel9 := bel8.trans (hb9.mono bel8.size)
          have hrr : r9 = r8 := by rw [hr9.out, hr8.out]
          subst hrr
          have e1' := (hs8.below hb9).convert (P := Try.prog) 36 5 9 Try.underlying36 Try.underlying5 Try.underlying9
          have e2' := hs9.convert (P := Try.prog) 36 5 9 Try.underlying36 Try.underlying5 Try.underlying9
          have HA8 := HAW w9
          clear HD4
          refine hK.out _ _ (trivial) (fun hS => ?_)
          clear hK
          (try simp only [Act.put, List.setIfInBounds_toArray, List.set_cons_zero, List.set_cons_succ])
          refine any_one 5 rfl (by kernel_rfl) (by rfl) (fun K hK => ?_)
          clear hS
          go_simp
          refine hK.out _ _ (trivial) (fun hS => ?_)
          clear hK
          (try simp only [Act.put, List.setIfInBounds_toArray, List.set_cons_zero, List.set_cons_succ])
          refine any_take 6 ?vxan3 rfl (by kernel_rfl) (by kernel_rfl) (by kernel_rfl) (fun _ _ _ h => h) (by rfl) ?hxan3 hS ?_
          case hxan3 => (intro w hSw; (try dsimp only at hSw); go_split_ands; go_simp; (try with_reducible rfl))
          (try simp only [Act.put, List.setIfInBounds_toArray, List.set_cons_zero, List.set_cons_succ])
          refine any_take 7 ?vxan4 rfl (by kernel_rfl) (by kernel_rfl) (by kernel_rfl) (fun _ _ _ h => h) (by rfl) ?hxan4 hS ?_
          case hxan4 => (intro w hSw; (try dsimp only at hSw); go_split_ands; go_simp; (try with_reducible rfl))
          (try simp only [Act.put, List.setIfInBounds_toArray, List.set_cons_zero, List.set_cons_succ])
          refine any_one 8 rfl (by kernel_rfl) (by rfl) (fun K hK => ?_)
          clear hS
          go_simp
          refine HA8.mono ?_
          rintro e w10 ⟨rfl, hb10⟩
          refine hK.out _ _ (trivial) (fun hS => ?_)
          clear hK
          (try simp only [Act.put, List.setIfInBounds_toArray, List.set_cons_zero, List.set_cons_succ])
          refine any_take 9 ?vxan5 rfl (by kernel_rfl) (by kernel_rfl) (by kernel_rfl) (fun _ _ _ h => h) (by rfl) ?hxan5 hS ?_
          case hxan5 => (intro w hSw; (try dsimp only at hSw); go_split_ands; go_simp; (try with_reducible rfl))
          (try simp only [Act.put, List.setIfInBounds_toArray, List.set_cons_zero, List.set_cons_succ])
          refine any_take 10 ?vxan6 rfl (by kernel_rfl) (by kernel_rfl) (by kernel_rfl) (fun _ _ _ h => h) (by rfl) ?hxan6 hS ?_
          case hxan6 => (intro w hSw; (try dsimp only at hSw); go_split_ands; go_simp; (try with_reducible rfl))
          (try simp only [Act.put, List.setIfInBounds_toArray, List.set_cons_zero, List.set_cons_succ])
          refine wpAnyH_done (by kernel_rfl) ?_ _
          refine NoPanic.normal ?_
          go_wp2
          go_ret
          exact ⟨rfl, bel9.trans (hb10.mono bel9.size)⟩
        · clear hS
          go_simp
          refine HD4.out.mono ?_
          rintro e w9 ⟨d9, c9, r9, hr9, rfl, hs9, hb9⟩
          have bel9 := bel8.trans (hb9.mono bel8.size)
          have hrr : r9 = r8 := by rw [hr9.out, hr8.out]
          subst hrr
          have e1' := (hs8.below hb9).convert (P := Try.prog) 36 5 9 Try.underlying36 Try.underlying5 Try.underlying9
          have e2' := hs9.convert (P := Try.prog) 36 5 9 Try.underlying36 Try.underlying5 Try.underlying9
          have HA8 := HAW w9
          clear HD4
          refine hK.out _ _ (trivial) (fun hS => ?_)
          clear hK
          (try simp only [Act.put, List.setIfInBounds_toArray, List.set_cons_zero, List.set_cons_succ])
          refine any_two 2 5 rfl rfl (by kernel_rfl) (by rfl) (by rfl) (fun K hK => ?_) (fun K hK => ?_)
          · clear hS
            go_simp
            refine hK.out _ _ (trivial) (fun hS => ?_)
            clear hK
            (try simp only [Act.put, List.setIfInBounds_toArray, List.set_cons_zero, List.set_cons_succ])
            refine any_one 5 rfl (by kernel_rfl) (by rfl) (fun K hK => ?_)
            clear hS
            go_simp
            refine hK.out _ _ (trivial) (fun hS => ?_)
            clear hK
            (try simp only [Act.put, List.setIfInBounds_toArray, List.set_cons_zero, List.set_cons_succ])
            refine any_take 6 ?vxan7 rfl (by kernel_rfl) (by kernel_rfl) (by kernel_rfl) (fun _ _ _ h => h) (by rfl) ?hxan7 hS ?_
            case hxan7 => (intro w hSw; (try dsimp only at hSw); go_split_ands; go_simp; (try with_reducible rfl))
            (try simp only [Act.put, List.setIfInBounds_toArray, List.set_cons_zero, List.set_cons_succ])
            refine any_take 7 ?vxan8 rfl (by kernel_rfl) (by kernel_rfl) (by kernel_rfl) (fun _ _ _ h => h) (by rfl) ?hxan8 hS ?_
            case hxan8 => (intro w hSw; (try dsimp only at hSw); go_split_ands; go_simp; (try with_reducible rfl))
            (try simp only [Act.put, List.setIfInBounds_toArray, List.set_cons_zero, List.set_cons_succ])
            refine any_one 8 rfl (by kernel_rfl) (by rfl) (fun K hK => ?_)
            clear hS
            go_simp
            refine HA8.mono ?_
            rintro e w10 ⟨rfl, hb10⟩
            refine hK.out _ _ (trivial) (fun hS => ?_)
            clear hK
            (try simp only [Act.put, List.setIfInBounds_toArray, List.set_cons_zero, List.set_cons_succ])
            refine any_take 9 ?vxan9 rfl (by kernel_rfl) (by kernel_rfl) (by kernel_rfl) (fun _ _ _ h => h) (by rfl) ?hxan9 hS ?_
            case hxan9 => (intro w hSw; (try dsimp only at hSw); go_split_ands; go_simp; (try with_reducible rfl))
            (try simp only [Act.put, List.setIfInBounds_toArray, List.set_cons_zero, List.set_cons_succ])
            refine any_take 10 ?vxan10 rfl (by kernel_rfl) (by kernel_rfl) (by kernel_rfl) (fun _ _ _ h => h) (by rfl) ?hxan10 hS ?_
            case hxan10 => (intro w hSw; (try dsimp only at hSw); go_split_ands; go_simp; (try with_reducible rfl))
            (try simp only [Act.put, List.setIfInBounds_toArray, List.set_cons_zero, List.set_cons_succ])
            refine wpAnyH_done (by kernel_rfl) ?_ _
            refine NoPanic.normal ?_
            go_wp2
            go_ret
            exact ⟨rfl, bel9.trans (hb10.mono bel9.size)⟩
          · clear hS
            go_simp
            refine hK.out _ _ (trivial) (fun hS => ?_)
            clear hK
            (try simp only [Act.put, List.setIfInBounds_toArray, List.set_cons_zero, List.set_cons_succ])
            refine any_one 2 rfl (by kernel_rfl) (by rfl) (fun K hK => ?_)
            clear hS
            go_simp
            refine hK.out _ _ (trivial) (fun hS => ?_)
            clear hK
            (try simp only [Act.put, List.setIfInBounds_toArray, List.set_cons_zero, List.set_cons_succ])
            refine any_take 6 ?vxan11 rfl (by kernel_rfl) (by kernel_rfl) (by kernel_rfl) (fun _ _ _ h => h) (by rfl) ?hxan11 hS ?_
            case hxan11 => (intro w hSw; (try dsimp only at hSw); go_split_ands; go_simp; (try with_reducible rfl))
            (try simp only [Act.put, List.setIfInBounds_toArray, List.set_cons_zero, List.set_cons_succ])
            refine any_take 7 ?vxan12 rfl (by kernel_rfl) (by kernel_rfl) (by kernel_rfl) (fun _ _ _ h => h) (by rfl) ?hxan12 hS ?_
            case hxan12 => (intro w hSw; (try dsimp only at hSw); go_split_ands; go_simp; (try with_reducible rfl))
            (try simp only [Act.put, List.setIfInBounds_toArray, List.set_cons_zero, List.set_cons_succ])
            refine any_one 8 rfl (by kernel_rfl) (by rfl) (fun K hK => ?_)
            clear hS
            go_simp
            refine HA8.mono ?_
            rintro e w10 ⟨rfl, hb10⟩
            refine hK.out _ _ (trivial) (fun hS => ?_)
            clear hK
            (try simp only [Act.put, List.setIfInBounds_toArray, List.set_cons_zero, List.set_cons_succ])
            refine any_take 9 ?vxan13 rfl (by kernel_rfl) (by kernel_rfl) (by kernel_rfl) (fun _ _ _ h => h) (by rfl) ?hxan13 hS ?_
            case hxan13 => (intro w hSw; (try dsimp only at hSw); go_split_ands; go_simp; (try with_reducible rfl))
            (try simp only [Act.put, List.setIfInBounds_toArray, List.set_cons_zero, List.set_cons_succ])
            refine any_take 10 ?vxan14 rfl (by kernel_rfl) (by kernel_rfl) (by kernel_rfl) (fun _ _ _ h => h) (by rfl) ?hxan14 hS ?_
            case hxan14 => (intro w hSw; (try dsimp only at hSw); go_split_ands; go_simp; (try with_reducible rfl))
            (try simp only [Act.put, List.setIfInBounds_toArray, List.set_cons_zero, List.set_cons_succ])
            refine wpAnyH_done (by kernel_rfl) ?_ _
            refine NoPanic.normal ?_
            go_wp2
            go_ret
            exact ⟨rfl, bel9.trans (hb10.mono bel9.size)⟩
      · go_wp2
        refine wp_region_noPanic ?_
        refine wp_region_held (S := fun _ => True) (by kernel_rfl) ?_
        have hS := trivial
        refine any_take 0 ?vxbn1 rfl (by kernel_rfl) (by kernel_rfl) (by kernel_rfl) (fun _ _ _ h => h) (by rfl) ?hxbn1 hS ?_
        case hxbn1 => (intro w hSw; (try dsimp only at hSw); go_split_ands; go_simp; (try with_reducible rfl))
        (try simp only [Act.put, List.setIfInBounds_toArray, List.set_cons_zero, List.set_cons_succ])
        refine any_take 3 ?vxbn2 rfl (by kernel_rfl) (by kernel_rfl) (by kernel_rfl) (fun _ _ _ h => h) (by rfl) ?hxbn2 hS ?_
        case hxbn2 => (intro w hSw; (try dsimp only at hSw); go_split_ands; go_simp; (try with_reducible rfl))
        (try simp only [Act.put, List.setIfInBounds_toArray, List.set_cons_zero, List.set_cons_succ])
        refine any_one 1 rfl (by kernel_rfl) (by rfl) (fun K hK => ?_)
        clear hS
        go_simp
        refine HD1.out.mono ?_
        rintro e w8 ⟨d8, c8, r8, hr8, rfl, hs8, hb8⟩
        have bel8 := belD.trans (hb8.mono belD.size)
        have e1 := hs8.convert (P := Try.prog) 36 5 9 Try.underlying36 Try.underlying5 Try.underlying9
        have HD4 : Hid (Calls Try.prog 15 #[.pointer (some ⟨g, 0, none⟩)] w8 fun e w' => ∃ d cd r, Hid (r = packL bs) ∧ e = .returned (.slice d r.length cd) ∧ Sees w' d cd r ∧ Below w8.heap.size w8 w') := rdone_any w8 g bs G (rw_kept.below hnD hb8) hbs
        clear HD1
        refine hK.out _ _ (trivial) (fun hS => ?_)
        clear hK
        (try simp only [Act.put, List.setIfInBounds_toArray, List.set_cons_zero, List.set_cons_succ])
        refine any_two 2 4 rfl rfl (by kernel_rfl) (by rfl) (by rfl) (fun K hK => ?_) (fun K hK => ?_)
        · clear hS
          go_simp
          refine hK.out _ _ (trivial) (fun hS => ?_)
          clear hK
          (try simp only [Act.put, List.setIfInBounds_toArray, List.set_cons_zero, List.set_cons_succ])
          refine any_one 4 rfl (by kernel_rfl) (by rfl) (fun K hK => ?_)
          clear hS
          go_simp
          refine HD4.out.mono ?_
          rintro e w9 ⟨d9, c9, r9, hr9, rfl, hs9, hb9⟩
          have bel9 := bel8.trans (hb9.mono bel8.size)
          have hrr : r9 = r8 := by rw [hr9.out, hr8.out]
          subst hrr
          have e1' := (hs8.below hb9).convert (P := Try.prog) 36 5 9 Try.underlying36 Try.underlying5 Try.underlying9
          have e2' := hs9.convert (P := Try.prog) 36 5 9 Try.underlying36 Try.underlying5 Try.underlying9
          have HA8 := HAW w9
          clear HD4
          refine hK.out _ _ (trivial) (fun hS => ?_)
          clear hK
          (try simp only [Act.put, List.setIfInBounds_toArray, List.set_cons_zero, List.set_cons_succ])
          refine any_one 5 rfl (by kernel_rfl) (by rfl) (fun K hK => ?_)
          clear hS
          go_simp
          refine hK.out _ _ (trivial) (fun hS => ?_)
          clear hK
          (try simp only [Act.put, List.setIfInBounds_toArray, List.set_cons_zero, List.set_cons_succ])
          refine any_take 6 ?vxbn3 rfl (by kernel_rfl) (by kernel_rfl) (by kernel_rfl) (fun _ _ _ h => h) (by rfl) ?hxbn3 hS ?_
          case hxbn3 => (intro w hSw; (try dsimp only at hSw); go_split_ands; go_simp; (try with_reducible rfl))
          (try simp only [Act.put, List.setIfInBounds_toArray, List.set_cons_zero, List.set_cons_succ])
          refine any_take 7 ?vxbn4 rfl (by kernel_rfl) (by kernel_rfl) (by kernel_rfl) (fun _ _ _ h => h) (by rfl) ?hxbn4 hS ?_
          case hxbn4 => (intro w hSw; (try dsimp only at hSw); go_split_ands; go_simp; (try with_reducible rfl))
          (try simp only [Act.put, List.setIfInBounds_toArray, List.set_cons_zero, List.set_cons_succ])
          refine any_one 8 rfl (by kernel_rfl) (by rfl) (fun K hK => ?_)
          clear hS
          go_simp
          refine HA8.mono ?_
          rintro e w10 ⟨rfl, hb10⟩
          refine hK.out _ _ (trivial) (fun hS => ?_)
          clear hK
          (try simp only [Act.put, List.setIfInBounds_toArray, List.set_cons_zero, List.set_cons_succ])
          refine any_take 9 ?vxbn5 rfl (by kernel_rfl) (by kernel_rfl) (by kernel_rfl) (fun _ _ _ h => h) (by rfl) ?hxbn5 hS ?_
          case hxbn5 => (intro w hSw; (try dsimp only at hSw); go_split_ands; go_simp; (try with_reducible rfl))
          (try simp only [Act.put, List.setIfInBounds_toArray, List.set_cons_zero, List.set_cons_succ])
          refine any_take 10 ?vxbn6 rfl (by kernel_rfl) (by kernel_rfl) (by kernel_rfl) (fun _ _ _ h => h) (by rfl) ?hxbn6 hS ?_
          case hxbn6 => (intro w hSw; (try dsimp only at hSw); go_split_ands; go_simp; (try with_reducible rfl))
          (try simp only [Act.put, List.setIfInBounds_toArray, List.set_cons_zero, List.set_cons_succ])
          refine wpAnyH_done (by kernel_rfl) ?_ _
          refine NoPanic.normal ?_
          go_wp2
          go_ret
          exact ⟨rfl, bel9.trans (hb10.mono bel9.size)⟩
        · clear hS
          go_simp
          refine HD4.out.mono ?_
          rintro e w9 ⟨d9, c9, r9, hr9, rfl, hs9, hb9⟩
          have bel9 := bel8.trans (hb9.mono bel8.size)
          have hrr : r9 = r8 := by rw [hr9.out, hr8.out]
          subst hrr
          have e1' := (hs8.below hb9).convert (P := Try.prog) 36 5 9 Try.underlying36 Try.underlying5 Try.underlying9
          have e2' := hs9.convert (P := Try.prog) 36 5 9 Try.underlying36 Try.underlying5 Try.underlying9
          have HA8 := HAW w9
          clear HD4
          refine hK.out _ _ (trivial) (fun hS => ?_)
          clear hK
          (try simp only [Act.put, List.setIfInBounds_toArray, List.set_cons_zero, List.set_cons_succ])
          refine any_two 2 5 rfl rfl (by kernel_rfl) (by rfl) (by rfl) (fun K hK => ?_) (fun K hK => ?_)
          · clear hS
            go_simp
            refine hK.out _ _ (trivial) (fun hS => ?_)
            clear hK
            (try simp only [Act.put, List.setIfInBounds_toArray, List.set_cons_zero, List.set_cons_succ])
            refine any_one 5 rfl (by kernel_rfl) (by rfl) (fun K hK => ?_)
            clear hS
            go_simp
            refine hK.out _ _ (trivial) (fun hS => ?_)
            clear hK
            (try simp only [Act.put, List.setIfInBounds_toArray, List.set_cons_zero, List.set_cons_succ])
            refine any_take 6 ?vxbn7 rfl (by kernel_rfl) (by kernel_rfl) (by kernel_rfl) (fun _ _ _ h => h) (by rfl) ?hxbn7 hS ?_
            case hxbn7 => (intro w hSw; (try dsimp only at hSw); go_split_ands; go_simp; (try with_reducible rfl))
            (try simp only [Act.put, List.setIfInBounds_toArray, List.set_cons_zero, List.set_cons_succ])
            refine any_take 7 ?vxbn8 rfl (by kernel_rfl) (by kernel_rfl) (by kernel_rfl) (fun _ _ _ h => h) (by rfl) ?hxbn8 hS ?_
            case hxbn8 => (intro w hSw; (try dsimp only at hSw); go_split_ands; go_simp; (try with_reducible rfl))
            (try simp only [Act.put, List.setIfInBounds_toArray, List.set_cons_zero, List.set_cons_succ])
            refine any_one 8 rfl (by kernel_rfl) (by rfl) (fun K hK => ?_)
            clear hS
            go_simp
            refine HA8.mono ?_
            rintro e w10 ⟨rfl, hb10⟩
            refine hK.out _ _ (trivial) (fun hS => ?_)
            clear hK
            (try simp only [Act.put, List.setIfInBounds_toArray, List.set_cons_zero, List.set_cons_succ])
            refine any_take 9 ?vxbn9 rfl (by kernel_rfl) (by kernel_rfl) (by kernel_rfl) (fun _ _ _ h => h) (by rfl) ?hxbn9 hS ?_
            case hxbn9 => (intro w hSw; (try dsimp only at hSw); go_split_ands; go_simp; (try with_reducible rfl))
            (try simp only [Act.put, List.setIfInBounds_toArray, List.set_cons_zero, List.set_cons_succ])
            refine any_take 10 ?vxbn10 rfl (by kernel_rfl) (by kernel_rfl) (by kernel_rfl) (fun _ _ _ h => h) (by rfl) ?hxbn10 hS ?_
            case hxbn10 => (intro w hSw; (try dsimp only at hSw); go_split_ands; go_simp; (try with_reducible rfl))
            (try simp only [Act.put, List.setIfInBounds_toArray, List.set_cons_zero, List.set_cons_succ])
            refine wpAnyH_done (by kernel_rfl) ?_ _
            refine NoPanic.normal ?_
            go_wp2
            go_ret
            exact ⟨rfl, bel9.trans (hb10.mono bel9.size)⟩
          · clear hS
            go_simp
            refine hK.out _ _ (trivial) (fun hS => ?_)
            clear hK
            (try simp only [Act.put, List.setIfInBounds_toArray, List.set_cons_zero, List.set_cons_succ])
            refine any_one 2 rfl (by kernel_rfl) (by rfl) (fun K hK => ?_)
            clear hS
            go_simp
            refine hK.out _ _ (trivial) (fun hS => ?_)
            clear hK
            (try simp only [Act.put, List.setIfInBounds_toArray, List.set_cons_zero, List.set_cons_succ])
            refine any_take 6 ?vxbn11 rfl (by kernel_rfl) (by kernel_rfl) (by kernel_rfl) (fun _ _ _ h => h) (by rfl) ?hxbn11 hS ?_
            case hxbn11 => (intro w hSw; (try dsimp only at hSw); go_split_ands; go_simp; (try with_reducible rfl))
            (try simp only [Act.put, List.setIfInBounds_toArray, List.set_cons_zero, List.set_cons_succ])
            refine any_take 7 ?vxbn12 rfl (by kernel_rfl) (by kernel_rfl) (by kernel_rfl) (fun _ _ _ h => h) (by rfl) ?hxbn12 hS ?_
            case hxbn12 => (intro w hSw; (try dsimp only at hSw); go_split_ands; go_simp; (try with_reducible rfl))
            (try simp only [Act.put, List.setIfInBounds_toArray, List.set_cons_zero, List.set_cons_succ])
            refine any_one 8 rfl (by kernel_rfl) (by rfl) (fun K hK => ?_)
            clear hS
            go_simp
            refine HA8.mono ?_
            rintro e w10 ⟨rfl, hb10⟩
            refine hK.out _ _ (trivial) (fun hS => ?_)
            clear hK
            (try simp only [Act.put, List.setIfInBounds_toArray, List.set_cons_zero, List.set_cons_succ])
            refine any_take 9 ?vxbn13 rfl (by kernel_rfl) (by kernel_rfl) (by kernel_rfl) (fun _ _ _ h => h) (by rfl) ?hxbn13 hS ?_
            case hxbn13 => (intro w hSw; (try dsimp only at hSw); go_split_ands; go_simp; (try with_reducible rfl))
            (try simp only [Act.put, List.setIfInBounds_toArray, List.set_cons_zero, List.set_cons_succ])
            refine any_take 10 ?vxbn14 rfl (by kernel_rfl) (by kernel_rfl) (by kernel_rfl) (fun _ _ _ h => h) (by rfl) ?hxbn14 hS ?_
            case hxbn14 => (intro w hSw; (try dsimp only at hSw); go_split_ands; go_simp; (try with_reducible rfl))
            (try simp only [Act.put, List.setIfInBounds_toArray, List.set_cons_zero, List.set_cons_succ])
            refine wpAnyH_done (by kernel_rfl) ?_ _
            refine NoPanic.normal ?_
            go_wp2
            go_ret
            exact ⟨rfl, bel9.trans (hb10.mono bel9.size)⟩
      · go_wp2
        refine wp_region_noPanic ?_
        refine wp_region_held (S := fun _ => True) (by kernel_rfl) ?_
        have hS := trivial
        refine any_take 0 ?vxcn1 rfl (by kernel_rfl) (by kernel_rfl) (by kernel_rfl) (fun _ _ _ h => h) (by rfl) ?hxcn1 hS ?_
        case hxcn1 => (intro w hSw; (try dsimp only at hSw); go_split_ands; go_simp; (try with_reducible rfl))
        (try simp only [Act.put, List.setIfInBounds_toArray, List.set_cons_zero, List.set_cons_succ])
        refine any_take 3 ?vxcn2 rfl (by kernel_rfl) (by kernel_rfl) (by kernel_rfl) (fun _ _ _ h => h) (by rfl) ?hxcn2 hS ?_
        case hxcn2 => (intro w hSw; (try dsimp only at hSw); go_split_ands; go_simp; (try with_reducible rfl))
        (try simp only [Act.put, List.setIfInBounds_toArray, List.set_cons_zero, List.set_cons_succ])
        refine any_one 1 rfl (by kernel_rfl) (by rfl) (fun K hK => ?_)
        clear hS
        go_simp
        refine HD1.out.mono ?_
        rintro e w8 ⟨d8, c8, r8, hr8, rfl, hs8, hb8⟩
        have bel8 := belD.trans (hb8.mono belD.size)
        have e1 := hs8.convert (P := Try.prog) 36 5 9 Try.underlying36 Try.underlying5 Try.underlying9
        have HD4 : Hid (Calls Try.prog 15 #[.pointer (some ⟨g, 0, none⟩)] w8 fun e w' => ∃ d cd r, Hid (r = packL bs) ∧ e = .returned (.slice d r.length cd) ∧ Sees w' d cd r ∧ Below w8.heap.size w8 w') := rdone_any w8 g bs G (rw_kept.below hnD hb8) hbs
        clear HD1
        refine hK.out _ _ (trivial) (fun hS => ?_)
        clear hK
        (try simp only [Act.put, List.setIfInBounds_toArray, List.set_cons_zero, List.set_cons_succ])
        refine any_two 2 4 rfl rfl (by kernel_rfl) (by rfl) (by rfl) (fun K hK => ?_) (fun K hK => ?_)
        · clear hS
          go_simp
          refine hK.out _ _ (trivial) (fun hS => ?_)
          clear hK
          (try simp only [Act.put, List.setIfInBounds_toArray, List.set_cons_zero, List.set_cons_succ])
          refine any_one 4 rfl (by kernel_rfl) (by rfl) (fun K hK => ?_)
          clear hS
          go_simp
          refine HD4.out.mono ?_
          rintro e w9 ⟨d9, c9, r9, hr9, rfl, hs9, hb9⟩
          have bel9 := bel8.trans (hb9.mono bel8.size)
          have hrr : r9 = r8 := by rw [hr9.out, hr8.out]
          subst hrr
          have e1' := (hs8.below hb9).convert (P := Try.prog) 36 5 9 Try.underlying36 Try.underlying5 Try.underlying9
          have e2' := hs9.convert (P := Try.prog) 36 5 9 Try.underlying36 Try.underlying5 Try.underlying9
          have HA8 := HAW w9
          clear HD4
          refine hK.out _ _ (trivial) (fun hS => ?_)
          clear hK
          (try simp only [Act.put, List.setIfInBounds_toArray, List.set_cons_zero, List.set_cons_succ])
          refine any_one 5 rfl (by kernel_rfl) (by rfl) (fun K hK => ?_)
          clear hS
          go_simp
          refine hK.out _ _ (trivial) (fun hS => ?_)
          clear hK
          (try simp only [Act.put, List.setIfInBounds_toArray, List.set_cons_zero, List.set_cons_succ])
          refine any_take 6 ?vxcn3 rfl (by kernel_rfl) (by kernel_rfl) (by kernel_rfl) (fun _ _ _ h => h) (by rfl) ?hxcn3 hS ?_
          case hxcn3 => (intro w hSw; (try dsimp only at hSw); go_split_ands; go_simp; (try with_reducible rfl))
          (try simp only [Act.put, List.setIfInBounds_toArray, List.set_cons_zero, List.set_cons_succ])
          refine any_take 7 ?vxcn4 rfl (by kernel_rfl) (by kernel_rfl) (by kernel_rfl) (fun _ _ _ h => h) (by rfl) ?hxcn4 hS ?_
          case hxcn4 => (intro w hSw; (try dsimp only at hSw); go_split_ands; go_simp; (try with_reducible rfl))
          (try simp only [Act.put, List.setIfInBounds_toArray, List.set_cons_zero, List.set_cons_succ])
          refine any_one 8 rfl (by kernel_rfl) (by rfl) (fun K hK => ?_)
          clear hS
          go_simp
          refine HA8.mono ?_
          rintro e w10 ⟨rfl, hb10⟩
          refine hK.out _ _ (trivial) (fun hS => ?_)
          clear hK
          (try simp only [Act.put, List.setIfInBounds_toArray, List.set_cons_zero, List.set_cons_succ])
          refine any_take 9 ?vxcn5 rfl (by kernel_rfl) (by kernel_rfl) (by kernel_rfl) (fun _ _ _ h => h) (by rfl) ?hxcn5 hS ?_
          case hxcn5 => (intro w hSw; (try dsimp only at hSw); go_split_ands; go_simp; (try with_reducible rfl))
          (try simp only [Act.put, List.setIfInBounds_toArray, List.set_cons_zero, List.set_cons_succ])
          refine any_take 10 ?vxcn6 rfl (by kernel_rfl) (by kernel_rfl) (by kernel_rfl) (fun _ _ _ h => h) (by rfl) ?hxcn6 hS ?_
          case hxcn6 => (intro w hSw; (try dsimp only at hSw); go_split_ands; go_simp; (try with_reducible rfl))
          (try simp only [Act.put, List.setIfInBounds_toArray, List.set_cons_zero, List.set_cons_succ])
          refine wpAnyH_done (by kernel_rfl) ?_ _
          refine NoPanic.normal ?_
          go_wp2
          go_ret
          exact ⟨rfl, bel9.trans (hb10.mono bel9.size)⟩
        · clear hS
          go_simp
          refine HD4.out.mono ?_
          rintro e w9 ⟨d9, c9, r9, hr9, rfl, hs9, hb9⟩
          have bel9 := bel8.trans (hb9.mono bel8.size)
          have hrr : r9 = r8 := by rw [hr9.out, hr8.out]
          subst hrr
          have e1' := (hs8.below hb9).convert (P := Try.prog) 36 5 9 Try.underlying36 Try.underlying5 Try.underlying9
          have e2' := hs9.convert (P := Try.prog) 36 5 9 Try.underlying36 Try.underlying5 Try.underlying9
          have HA8 := HAW w9
          clear HD4
          refine hK.out _ _ (trivial) (fun hS => ?_)
          clear hK
          (try simp only [Act.put, List.setIfInBounds_toArray, List.set_cons_zero, List.set_cons_succ])
          refine any_two 2 5 rfl rfl (by kernel_rfl) (by rfl) (by rfl) (fun K hK => ?_) (fun K hK => ?_)
          · clear hS
            go_simp
            refine hK.out _ _ (trivial) (fun hS => ?_)
            clear hK
            (try simp only [Act.put, List.setIfInBounds_toArray, List.set_cons_zero, List.set_cons_succ])
            refine any_one 5 rfl (by kernel_rfl) (by rfl) (fun K hK => ?_)
            clear hS
            go_simp
            refine hK.out _ _ (trivial) (fun hS => ?_)
            clear hK
            (try simp only [Act.put, List.setIfInBounds_toArray, List.set_cons_zero, List.set_cons_succ])
            refine any_take 6 ?vxcn7 rfl (by kernel_rfl) (by kernel_rfl) (by kernel_rfl) (fun _ _ _ h => h) (by rfl) ?hxcn7 hS ?_
            case hxcn7 => (intro w hSw; (try dsimp only at hSw); go_split_ands; go_simp; (try with_reducible rfl))
            (try simp only [Act.put, List.setIfInBounds_toArray, List.set_cons_zero, List.set_cons_succ])
            refine any_take 7 ?vxcn8 rfl (by kernel_rfl) (by kernel_rfl) (by kernel_rfl) (fun _ _ _ h => h) (by rfl) ?hxcn8 hS ?_
            case hxcn8 => (intro w hSw; (try dsimp only at hSw); go_split_ands; go_simp; (try with_reducible rfl))
            (try simp only [Act.put, List.setIfInBounds_toArray, List.set_cons_zero, List.set_cons_succ])
            refine any_one 8 rfl (by kernel_rfl) (by rfl) (fun K hK => ?_)
            clear hS
            go_simp
            refine HA8.mono ?_
            rintro e w10 ⟨rfl, hb10⟩
            refine hK.out _ _ (trivial) (fun hS => ?_)
            clear hK
            (try simp only [Act.put, List.setIfInBounds_toArray, List.set_cons_zero, List.set_cons_succ])
            refine any_take 9 ?vxcn9 rfl (by kernel_rfl) (by kernel_rfl) (by kernel_rfl) (fun _ _ _ h => h) (by rfl) ?hxcn9 hS ?_
            case hxcn9 => (intro w hSw; (try dsimp only at hSw); go_split_ands; go_simp; (try with_reducible rfl))
            (try simp only [Act.put, List.setIfInBounds_toArray, List.set_cons_zero, List.set_cons_succ])
            refine any_take 10 ?vxcn10 rfl (by kernel_rfl) (by kernel_rfl) (by kernel_rfl) (fun _ _ _ h => h) (by rfl) ?hxcn10 hS ?_
            case hxcn10 => (intro w hSw; (try dsimp only at hSw); go_split_ands; go_simp; (try with_reducible rfl))
            (try simp only [Act.put, List.setIfInBounds_toArray, List.set_cons_zero, List.set_cons_succ])
            refine wpAnyH_done (by kernel_rfl) ?_ _
            refine NoPanic.normal ?_
            go_wp2
            go_ret
            exact ⟨rfl, bel9.trans (hb10.mono bel9.size)⟩
          · clear hS
            go_simp
            refine hK.out _ _ (trivial) (fun hS => ?_)
            clear hK
            (try simp only [Act.put, List.setIfInBounds_toArray, List.set_cons_zero, List.set_cons_succ])
            refine any_one 2 rfl (by kernel_rfl) (by rfl) (fun K hK => ?_)
            clear hS
            go_simp
            refine hK.out _ _ (trivial) (fun hS => ?_)
            clear hK
            (try simp only [Act.put, List.setIfInBounds_toArray, List.set_cons_zero, List.set_cons_succ])
            refine any_take 6 ?vxcn11 rfl (by kernel_rfl) (by kernel_rfl) (by kernel_rfl) (fun _ _ _ h => h) (by rfl) ?hxcn11 hS ?_
            case hxcn11 => (intro w hSw; (try dsimp only at hSw); go_split_ands; go_simp; (try with_reducible rfl))
            (try simp only [Act.put, List.setIfInBounds_toArray, List.set_cons_zero, List.set_cons_succ])
            refine any_take 7 ?vxcn12 rfl (by kernel_rfl) (by kernel_rfl) (by kernel_rfl) (fun _ _ _ h => h) (by rfl) ?hxcn12 hS ?_
            case hxcn12 => (intro w hSw; (try dsimp only at hSw); go_split_ands; go_simp; (try with_reducible rfl))
            (try simp only [Act.put, List.setIfInBounds_toArray, List.set_cons_zero, List.set_cons_succ])
            refine any_one 8 rfl (by kernel_rfl) (by rfl) (fun K hK => ?_)
            clear hS
            go_simp
            refine HA8.mono ?_
            rintro e w10 ⟨rfl, hb10⟩
            refine hK.out _ _ (trivial) (fun hS => ?_)
            clear hK
            (try simp only [Act.put, List.setIfInBounds_toArray, List.set_cons_zero, List.set_cons_succ])
            refine any_take 9 ?vxcn13 rfl (by kernel_rfl) (by kernel_rfl) (by kernel_rfl) (fun _ _ _ h => h) (by rfl) ?hxcn13 hS ?_
            case hxcn13 => (intro w hSw; (try dsimp only at hSw); go_split_ands; go_simp; (try with_reducible rfl))
            (try simp only [Act.put, List.setIfInBounds_toArray, List.set_cons_zero, List.set_cons_succ])
            refine any_take 10 ?vxcn14 rfl (by kernel_rfl) (by kernel_rfl) (by kernel_rfl) (fun _ _ _ h => h) (by rfl) ?hxcn14 hS ?_
            case hxcn14 => (intro w hSw; (try dsimp only at hSw); go_split_ands; go_simp; (try with_reducible rfl))
            (try simp only [Act.put, List.setIfInBounds_toArray, List.set_cons_zero, List.set_cons_succ])
            refine wpAnyH_done (by kernel_rfl) ?_ _
            refine NoPanic.normal ?_
            go_wp2
            go_ret
            exact ⟨rfl, bel9.trans (hb10.mono bel9.size)⟩
      · go_wp2
        refine wp_region_noPanic ?_
        refine wp_region_held (S := fun _ => True) (by kernel_rfl) ?_
        have hS := trivial
        refine any_take 0 ?vxdn1 rfl (by kernel_rfl) (by kernel_rfl) (by kernel_rfl) (fun _ _ _ h => h) (by rfl) ?hxdn1 hS ?_
        case hxdn1 => (intro w hSw; (try dsimp only at hSw); go_split_ands; go_simp; (try with_reducible rfl))
        (try simp only [Act.put, List.setIfInBounds_toArray, List.set_cons_zero, List.set_cons_succ])
        refine any_take 3 ?vxdn2 rfl (by kernel_rfl) (by kernel_rfl) (by kernel_rfl) (fun _ _ _ h => h) (by rfl) ?hxdn2 hS ?_
        case hxdn2 => (intro w hSw; (try dsimp only at hSw); go_split_ands; go_simp; (try with_reducible rfl))
        (try simp only [Act.put, List.setIfInBounds_toArray, List.set_cons_zero, List.set_cons_succ])
        refine any_one 1 rfl (by kernel_rfl) (by rfl) (fun K hK => ?_)
        clear hS
        go_simp
        refine HD1.out.mono ?_
        rintro e w8 ⟨d8, c8, r8, hr8, rfl, hs8, hb8⟩
        have bel8 := belD.trans (hb8.mono belD.size)
        have e1 := hs8.convert (P := Try.prog) 36 5 9 Try.underlying36 Try.underlying5 Try.underlying9
        have HD4 : Hid (Calls Try.prog 15 #[.pointer (some ⟨g, 0, none⟩)] w8 fun e w' => ∃ d cd r, Hid (r = packL bs) ∧ e = .returned (.slice d r.length cd) ∧ Sees w' d cd r ∧ Below w8.heap.size w8 w') := rdone_any w8 g bs G (rw_kept.below hnD hb8) hbs
        clear HD1
        refine hK.out _ _ (trivial) (fun hS => ?_)
        clear hK
        (try simp only [Act.put, List.setIfInBounds_toArray, List.set_cons_zero, List.set_cons_succ])
        refine any_two 2 4 rfl rfl (by kernel_rfl) (by rfl) (by rfl) (fun K hK => ?_) (fun K hK => ?_)
        · clear hS
          go_simp
          refine hK.out _ _ (trivial) (fun hS => ?_)
          clear hK
          (try simp only [Act.put, List.setIfInBounds_toArray, List.set_cons_zero, List.set_cons_succ])
          refine any_one 4 rfl (by kernel_rfl) (by rfl) (fun K hK => ?_)
          clear hS
          go_simp
          refine HD4.out.mono ?_
          rintro e w9 ⟨d9, c9, r9, hr9, rfl, hs9, hb9⟩
          have bel9 := bel8.trans (hb9.mono bel8.size)
          have hrr : r9 = r8 := by rw [hr9.out, hr8.out]
          subst hrr
          have e1' := (hs8.below hb9).convert (P := Try.prog) 36 5 9 Try.underlying36 Try.underlying5 Try.underlying9
          have e2' := hs9.convert (P := Try.prog) 36 5 9 Try.underlying36 Try.underlying5 Try.underlying9
          have HA8 := HAW w9
          clear HD4
          refine hK.out _ _ (trivial) (fun hS => ?_)
          clear hK
          (try simp only [Act.put, List.setIfInBounds_toArray, List.set_cons_zero, List.set_cons_succ])
          refine any_one 5 rfl (by kernel_rfl) (by rfl) (fun K hK => ?_)
          clear hS
          go_simp
          refine hK.out _ _ (trivial) (fun hS => ?_)
          clear hK
          (try simp only [Act.put, List.setIfInBounds_toArray, List.set_cons_zero, List.set_cons_succ])
          refine any_take 6 ?vxdn3 rfl (by kernel_rfl) (by kernel_rfl) (by kernel_rfl) (fun _ _ _ h => h) (by rfl) ?hxdn3 hS ?_
          case hxdn3 => (intro w hSw; (try dsimp only at hSw); go_split_ands; go_simp; (try with_reducible rfl))
          (try simp only [Act.put, List.setIfInBounds_toArray, List.set_cons_zero, List.set_cons_succ])
          refine any_take 7 ?vxdn4 rfl (by kernel_rfl) (by kernel_rfl) (by kernel_rfl) (fun _ _ _ h => h) (by rfl) ?hxdn4 hS ?_
          case hxdn4 => (intro w hSw; (try dsimp only at hSw); go_split_ands; go_simp; (try with_reducible rfl))
          (try simp only [Act.put, List.setIfInBounds_toArray, List.set_cons_zero, List.set_cons_succ])
          refine any_one 8 rfl (by kernel_rfl) (by rfl) (fun K hK => ?_)
          clear hS
          go_simp
          refine HA8.mono ?_
          rintro e w10 ⟨rfl, hb10⟩
          refine hK.out _ _ (trivial) (fun hS => ?_)
          clear hK
          (try simp only [Act.put, List.setIfInBounds_toArray, List.set_cons_zero, List.set_cons_succ])
          refine any_take 9 ?vxdn5 rfl (by kernel_rfl) (by kernel_rfl) (by kernel_rfl) (fun _ _ _ h => h) (by rfl) ?hxdn5 hS ?_
          case hxdn5 => (intro w hSw; (try dsimp only at hSw); go_split_ands; go_simp; (try with_reducible rfl))
          (try simp only [Act.put, List.setIfInBounds_toArray, List.set_cons_zero, List.set_cons_succ])
          refine any_take 10 ?vxdn6 rfl (by kernel_rfl) (by kernel_rfl) (by kernel_rfl) (fun _ _ _ h => h) (by rfl) ?hxdn6 hS ?_
          case hxdn6 => (intro w hSw; (try dsimp only at hSw); go_split_ands; go_simp; (try with_reducible rfl))
          (try simp only [Act.put, List.setIfInBounds_toArray, List.set_cons_zero, List.set_cons_succ])
          refine wpAnyH_done (by kernel_rfl) ?_ _
          refine NoPanic.normal ?_
          go_wp2
          go_ret
          exact ⟨rfl, bel9.trans (hb10.mono bel9.size)⟩
        · clear hS
          go_simp
          refine HD4.out.mono ?_
          rintro e w9 ⟨d9, c9, r9, hr9, rfl, hs9, hb9⟩
          have bel9 := bel8.trans (hb9.mono bel8.size)
          have hrr : r9 = r8 := by rw [hr9.out, hr8.out]
          subst hrr
          have e1' := (hs8.below hb9).convert (P := Try.prog) 36 5 9 Try.underlying36 Try.underlying5 Try.underlying9
          have e2' := hs9.convert (P := Try.prog) 36 5 9 Try.underlying36 Try.underlying5 Try.underlying9
          have HA8 := HAW w9
          clear HD4
          refine hK.out _ _ (trivial) (fun hS => ?_)
          clear hK
          (try simp only [Act.put, List.setIfInBounds_toArray, List.set_cons_zero, List.set_cons_succ])
          refine any_two 2 5 rfl rfl (by kernel_rfl) (by rfl) (by rfl) (fun K hK => ?_) (fun K hK => ?_)
          · clear hS
            go_simp
            refine hK.out _ _ (trivial) (fun hS => ?_)
            clear hK
            (try simp only [Act.put, List.setIfInBounds_toArray, List.set_cons_zero, List.set_cons_succ])
            refine any_one 5 rfl (by kernel_rfl) (by rfl) (fun K hK => ?_)
            clear hS
            go_simp
            refine hK.out _ _ (trivial) (fun hS => ?_)
            clear hK
            (try simp only [Act.put, List.setIfInBounds_toArray, List.set_cons_zero, List.set_cons_succ])
            refine any_take 6 ?vxdn7 rfl (by kernel_rfl) (by kernel_rfl) (by kernel_rfl) (fun _ _ _ h => h) (by rfl) ?hxdn7 hS ?_
            case hxdn7 => (intro w hSw; (try dsimp only at hSw); go_split_ands; go_simp; (try with_reducible rfl))
            (try simp only [Act.put, List.setIfInBounds_toArray, List.set_cons_zero, List.set_cons_succ])
            refine any_take 7 ?vxdn8 rfl (by kernel_rfl) (by kernel_rfl) (by kernel_rfl) (fun _ _ _ h => h) (by rfl) ?hxdn8 hS ?_
            case hxdn8 => (intro w hSw; (try dsimp only at hSw); go_split_ands; go_simp; (try with_reducible rfl))
            (try simp only [Act.put, List.setIfInBounds_toArray, List.set_cons_zero, List.set_cons_succ])
            refine any_one 8 rfl (by kernel_rfl) (by rfl) (fun K hK => ?_)
            clear hS
            go_simp
            refine HA8.mono ?_
            rintro e w10 ⟨rfl, hb10⟩
            refine hK.out _ _ (trivial) (fun hS => ?_)
            clear hK
            (try simp only [Act.put, List.setIfInBounds_toArray, List.set_cons_zero, List.set_cons_succ])
            refine any_take 9 ?vxdn9 rfl (by kernel_rfl) (by kernel_rfl) (by kernel_rfl) (fun _ _ _ h => h) (by rfl) ?hxdn9 hS ?_
            case hxdn9 => (intro w hSw; (try dsimp only at hSw); go_split_ands; go_simp; (try with_reducible rfl))
            (try simp only [Act.put, List.setIfInBounds_toArray, List.set_cons_zero, List.set_cons_succ])
            refine any_take 10 ?vxdn10 rfl (by kernel_rfl) (by kernel_rfl) (by kernel_rfl) (fun _ _ _ h => h) (by rfl) ?hxdn10 hS ?_
            case hxdn10 => (intro w hSw; (try dsimp only at hSw); go_split_ands; go_simp; (try with_reducible rfl))
            (try simp only [Act.put, List.setIfInBounds_toArray, List.set_cons_zero, List.set_cons_succ])
            refine wpAnyH_done (by kernel_rfl) ?_ _
            refine NoPanic.normal ?_
            go_wp2
            go_ret
            exact ⟨rfl, bel9.trans (hb10.mono bel9.size)⟩
          · clear hS
            go_simp
            refine hK.out _ _ (trivial) (fun hS => ?_)
            clear hK
            (try simp only [Act.put, List.setIfInBounds_toArray, List.set_cons_zero, List.set_cons_succ])
            refine any_one 2 rfl (by kernel_rfl) (by rfl) (fun K hK => ?_)
            clear hS
            go_simp
            refine hK.out _ _ (trivial) (fun hS => ?_)
            clear hK
            (try simp only [Act.put, List.setIfInBounds_toArray, List.set_cons_zero, List.set_cons_succ])
            refine any_take 6 ?vxdn11 rfl (by kernel_rfl) (by kernel_rfl) (by kernel_rfl) (fun _ _ _ h => h) (by rfl) ?hxdn11 hS ?_
            case hxdn11 => (intro w hSw; (try dsimp only at hSw); go_split_ands; go_simp; (try with_reducible rfl))
            (try simp only [Act.put, List.setIfInBounds_toArray, List.set_cons_zero, List.set_cons_succ])
            refine any_take 7 ?vxdn12 rfl (by kernel_rfl) (by kernel_rfl) (by kernel_rfl) (fun _ _ _ h => h) (by rfl) ?hxdn12 hS ?_
            case hxdn12 => (intro w hSw; (try dsimp only at hSw); go_split_ands; go_simp; (try with_reducible rfl))
            (try simp only [Act.put, List.setIfInBounds_toArray, List.set_cons_zero, List.set_cons_succ])
            refine any_one 8 rfl (by kernel_rfl) (by rfl) (fun K hK => ?_)
            clear hS
            go_simp
            refine HA8.mono ?_
            rintro e w10 ⟨rfl, hb10⟩
            refine hK.out _ _ (trivial) (fun hS => ?_)
            clear hK
            (try simp only [Act.put, List.setIfInBounds_toArray, List.set_cons_zero, List.set_cons_succ])
            refine any_take 9 ?vxdn13 rfl (by kernel_rfl) (by kernel_rfl) (by kernel_rfl) (fun _ _ _ h => h) (by rfl) ?hxdn13 hS ?_
            case hxdn13 => (intro w hSw; (try dsimp only at hSw); go_split_ands; go_simp; (try with_reducible rfl))
            (try simp only [Act.put, List.setIfInBounds_toArray, List.set_cons_zero, List.set_cons_succ])
            refine any_take 10 ?vxdn14 rfl (by kernel_rfl) (by kernel_rfl) (by kernel_rfl) (fun _ _ _ h => h) (by rfl) ?hxdn14 hS ?_
            case hxdn14 => (intro w hSw; (try dsimp only at hSw); go_split_ands; go_simp; (try with_reducible rfl))
            (try simp only [Act.put, List.setIfInBounds_toArray, List.set_cons_zero, List.set_cons_succ])
            refine wpAnyH_done (by kernel_rfl) ?_ _
            refine NoPanic.normal ?_
            go_wp2
            go_ret
            exact ⟨rfl, bel9.trans (hb10.mono bel9.size)⟩
end Go.Proofs.Ytapfcgklocflfaa
