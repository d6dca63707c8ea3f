/- I26, L26 in one. -/
import Derived.Test.YtmjapbjjfhmohaaKp
import Derived.Test.YtmjapbjjfhmohaaKv
namespace Go.Proofs.Ytmjapbjjfhmohaa
set_option linter.unusedVariables false
set_option linter.unusedSimpArgs false
open Go.ChangeShapes Go.WideShapes Go.ChangeAt Go.RowKit Go.Shelf
section
attribute [local go_sem] Oper.semAt_some

set_option maxRecDepth 100000 in
set_option maxHeartbeats 4000000 in
theorem sets_in26 (S : Int → List Sp) (ok : Int → Prop) (from_ : Int) (count bf : Nat) (n₀ n₁ bl m : Nat) (hm : 1 ≤ m) (l x y z : Nat) (J Jx : Nat → World → Prop) (W : World)
    (hY : ∀ s v V, J s V → StR S ok n₁ bl from_ count s v V → YieldAt Fence.wide (m - 1) Try.prog l (enc2 v) V fun e V' => (e = .returned (.bool true) ∧ J (s + 1) V' ∧ Kz n₀ n₁ bl V V') ∨ (e = .returned (.bool false) ∧ Jx (s + 1) V'))
    (hJ : AbidesFrom W.heap.size J) (hn : n₀ ≤ W.heap.size) (hn1 : n₁ ≤ W.heap.size) (hr : -9223372036854775808 ≤ from_ ∧ from_ + (count : Int) ≤ 9223372036854775807 ∧ (count : Int) ≤ 9223372036854775807)
    (hT : ∀ W' (j : Int), Kz n₀ n₁ bl W W' → n₁ ≤ W'.heap.size → from_ ≤ j → j < from_ + (count : Int) → Calls Try.prog 26 #[.int .i64 j, .pointer (some ⟨bf, 0, none⟩)] W' fun e V => ∃ v k, e = .returned (.tuple #[v, .int .i64 k]) ∧ Hid (Below W'.heap.size W' V) ∧ Hid (TO S ok W'.heap.size j (v, k) V))
    (hpr : Pr bl W) (hbl : bl < n₁) (hx : x < n₁ ∧ x ≠ bl) (hy : y < n₁ ∧ y ≠ bl) (hz : z < n₁ ∧ z ≠ bl) (bx : W.heap[x]? = some (.cells #[.int .i64 from_] 3 (0, 0))) (by_ : W.heap[y]? = some (.cells #[.int .i64 (count : Int)] 3 (0, 0))) (bz : W.heap[z]? = some (.cells #[.func (.func 26) #[] #[.pointer (some ⟨bf, 0, none⟩)]] 72 (0, 0))) (h0 : J 0 W) :
    CallsIn Fence.wide m Try.prog 52 #[.func (.yield l) #[] #[], .pointer (some ⟨y, 0, none⟩), .pointer (some ⟨z, 0, none⟩), .pointer (some ⟨x, 0, none⟩)] W fun e W' => (∃ v, e = .returned v) ∧ ((∃ s, s = count ∧ J s W') ∨ (∃ s, Jx s W')) := by
  have HY := Lib.hid hY
  have HJ := Lib.hid hJ
  have HT := Lib.hid hT
  have HSZ : Hid (n₀ ≤ W.heap.size ∧ n₁ ≤ W.heap.size) := Lib.hid ⟨hn, hn1⟩
  have HPR := Lib.hid hpr
  have HX := Lib.hid hx
  have HYY := Lib.hid hy
  have HZ := Lib.hid hz
  have BX := Lib.hid bx
  have BY := Lib.hid by_
  have BZ := Lib.hid bz
  obtain ⟨r1, r2, r3⟩ := hr
  clear hY hJ hT hn hn1 hx hy hz bx bz hpr
  refine callsIn_of_wp Try.func52 rfl trivial ?_ rfl
  simp only [Try.ntmps52, List.size_toArray, List.length_cons, List.length_nil, Nat.reduceAdd, Nat.reduceSub, Array.replicate_succ, Array.replicate_zero, List.push_toArray, List.append_toArray, List.nil_append, List.cons_append]
  have c0 := cell_block by_ 0
  clear by_
  gi_wp2
  clear c0
  gi_loopw [5, 7] (fun s5 ii wr => ∃ i : Nat, i ≤ count ∧ ii = .int .i64 i ∧ Hid (J i wr) ∧ Hid (Kz n₀ n₁ bl W wr)) (fun s5 ii _ => count - (intOf ii).toNat)
  case atStart => exact ⟨0, Nat.zero_le _, rfl, Lib.hid h0, Lib.hid (Kz.refl _ _ _ _)⟩
  case round =>
    obtain ⟨i, hi, rfl, HJ0, HB⟩ := hrel
    have i0 : (0 : Int) ≤ (i : Int) := by omega
    by_cases ilt : i < count
    · have i1 : (i : Int) < (count : Int) := by omega
      have i2 : (i : Int) + 1 ≤ 9223372036854775807 := by omega
      have HS2 : Hid (n₀ ≤ wr.heap.size ∧ n₁ ≤ wr.heap.size) := Lib.hid (by have := HB.out.below.size; have := HSZ.out; omega)
      have HC := Lib.hid (HT.out wr (from_ + (i : Int)) HB.out HS2.out.2 (by omega) (by omega))
      have e1 : wr.cell? ⟨z, 0, none⟩ = some (.func (.func 26) #[] #[.pointer (some ⟨bf, 0, none⟩)]) := cell_block (HB.out.at HZ.out.1 HZ.out.2 BZ.out) 0
      have e2 : wr.cell? ⟨x, 0, none⟩ = some (.int .i64 from_) := cell_block (HB.out.at HX.out.1 HX.out.2 BX.out) 0
      have w1 : -9223372036854775808 ≤ from_ + (i : Int) := by omega
      have w2 : from_ + (i : Int) ≤ 9223372036854775807 := by omega
      gi_wp2
      refine ⟨trivial, ?_⟩
      refine (callsIn_wide.2 HC.out).mono ?_
      rintro e w2' ⟨v, k, rfl, q5, HTO⟩
      have HJ2 : Hid (J i w2') := Lib.hid (HJ.out _ _ _ none HJ0.out (grown_of_below q5.out) (fun r e => by cases e))
      have HB2 : Hid (Kz n₀ n₁ bl W w2') := Lib.hid (HB.out.trans (Kz.of HS2.out.1 HS2.out.2 hbl q5.out))
      have HTO2 : Hid (StR S ok n₁ bl from_ count i (v, k) w2') := Lib.hid ⟨ilt, by
        rcases HTO.out with ⟨a, b, c⟩ | h
        · exact .inl ⟨a, b, own_base c HS2.out.2⟩
        · exact .inr h, fun va q e1 e2 e3 => by
        have hq : q < wr.heap.size := by
          rw [q5.out.block bl (by have := HS2.out.2; omega)] at e1
          exact HB.out.fr HPR.out va q e1 e2
        rcases HTO.out with ⟨_, _, c⟩ | ⟨_, _, h⟩
        · have := (c.lt q e3).1; omega
        · rw [show (v, k).1 = v from rfl] at e3; dsimp only at h; rw [h] at e3; simp [Value.ownBlock] at e3⟩
      clear q5 e1 e2 HC HTO
      obtain ⟨fn', tmps, assign, body, hy, hR⟩ := HY.out i (v, k) w2' HJ2.out HTO2.out
      have HRr := Lib.hid hR
      clear hR
      dsimp only [enc2] at hy
      gi_wp2
      refine HRr.out.mono ?_
      rintro e w5 (⟨rfl, hJ3, hk3⟩ | ⟨rfl, hJx3⟩)
      · have HJ5 : Hid (J (i + 1) w5) := Lib.hid hJ3
        have HB5 := Lib.hid (HB2.out.trans hk3)
        clear hy hJ3 hk3 HRr
        gi_wp2
        go_roundw
        case rel => exact ⟨i + 1, by omega, by go_num, HJ5, HB5⟩
        case measure => simp [intOf]; omega
      · have HJx3 := Lib.hid hJx3
        clear hy hJx3 HRr
        gi_wp2
        refine bodyPost_ret (results_none rfl _ _ _) rfl ?_
        exact ⟨⟨_, rfl⟩, .inr ⟨_, HJx3.out⟩⟩
    · obtain rfl : count = i := by omega
      gi_wp2
      go_end0
      exact ⟨⟨_, rfl⟩, .inl ⟨_, rfl, HJ0.out⟩⟩
theorem sets_seq26 (S : Int → List Sp) (ok : Int → Prop) (from_ : Int) (count bf : Nat) (n₀ n₁ bl x y z : Nat) (w1 : World) (hn : n₀ ≤ w1.heap.size) (hn1 : n₁ ≤ w1.heap.size) (hr : -9223372036854775808 ≤ from_ ∧ from_ + (count : Int) ≤ 9223372036854775807 ∧ (count : Int) ≤ 9223372036854775807)
    (hT : ∀ W' (j : Int), Kz n₀ n₁ bl w1 W' → n₁ ≤ W'.heap.size → from_ ≤ j → j < from_ + (count : Int) → Calls Try.prog 26 #[.int .i64 j, .pointer (some ⟨bf, 0, none⟩)] W' fun e V => ∃ v k, e = .returned (.tuple #[v, .int .i64 k]) ∧ Hid (Below W'.heap.size W' V) ∧ Hid (TO S ok W'.heap.size j (v, k) V))
    (hpr : Pr bl w1) (hbl : bl < n₁) (hx : x < n₁ ∧ x ≠ bl) (hy : y < n₁ ∧ y ≠ bl) (hz : z < n₁ ∧ z ≠ bl) (bx : w1.heap[x]? = some (.cells #[.int .i64 from_] 3 (0, 0))) (by_ : w1.heap[y]? = some (.cells #[.int .i64 (count : Int)] 3 (0, 0))) (bz : w1.heap[z]? = some (.cells #[.func (.func 26) #[] #[.pointer (some ⟨bf, 0, none⟩)]] 72 (0, 0))) :
    SeqRel Fence.wide 2 Try.prog 52 #[.pointer (some ⟨y, 0, none⟩), .pointer (some ⟨z, 0, none⟩), .pointer (some ⟨x, 0, none⟩)] enc2 (Kz n₀ n₁ bl) (StR S ok n₁ bl from_ count) (fun s _ => s + 1) (fun s => s = count) 0 w1 := fun l J Jx W hW hJ hJx hY h0 => by
  have lt : ∀ {b : Nat} {o : Obj}, w1.heap[b]? = some o → W.heap[b]? = some o := fun e => (hW.block _ (Array.getElem?_eq_some_iff.1 e).1).trans e
  exact sets_in26 S ok from_ count bf n₀ n₁ bl 2 (by omega) l x y z J Jx W hY hJ (Nat.le_trans hn hW.size) (Nat.le_trans hn1 hW.size) hr (fun W' j k => hT W' j ((Kz.of hn hn1 hbl hW).trans k)) ((Kz.of (n₀ := n₀) hn hn1 hbl hW).fr hpr) hbl hx hy hz (lt bx) (lt by_) (lt bz) h0
end
section
attribute [local go_sem] Oper.semAt_some

set_option maxRecDepth 100000 in
set_option maxHeartbeats 8000000 in
theorem collect26_any (S : Int → List Sp) (ok : Int → Prop) (from_ room : Int) (count bf : Nat) (w : World)
    (hT : ∀ W (j : Int), Below w.heap.size w W → from_ ≤ j → j < from_ + (count : Int) → Calls Try.prog 26 #[.int .i64 j, .pointer (some ⟨bf, 0, none⟩)] W fun e V => ∃ v k, e = .returned (.tuple #[v, .int .i64 k]) ∧ Hid (Below W.heap.size W V) ∧ Hid (TO S ok W.heap.size j (v, k) V))
    (hfit : ∀ j, ok j → Fit (S j)) (hlen : ∀ j, (S j).length ≤ 1000000) (hc : count ≤ 1000000) (hr1 : -4611686018427387904 ≤ from_) (hr2 : from_ ≤ 4611686018427387904) (hm1 : -9223372036854775808 ≤ room) (hm2 : room ≤ 9223372036854775807) :
    Calls Try.prog 25 #[.int .i64 from_, .int .i64 (count : Int), .int .i64 room, .func (.func 26) #[] #[.pointer (some ⟨bf, 0, none⟩)]] w fun e w' => ∃ v k, e = .returned (.tuple #[v, .int .i64 k]) ∧ Hid (Below w.heap.size w w') ∧ Hid (((∀ j, j < count → ok (from_ + (j : Int))) ∧ k = 0 ∧ w'.ownsRow w.heap.size 50 2 v (colF room (many S from_ count)).length (spCells (colF room (many S from_ count)))) ∨ ((¬ ∀ j, j < count → ok (from_ + (j : Int))) ∧ k = 20 ∧ v = .slice none 0 0)) := by
  have CT := Lib.hid hT
  have HFI := Lib.hid hfit
  have HLE := Lib.hid hlen
  clear hT hfit hlen
  obtain ⟨b, hb⟩ : ∃ b, w.heap.size = b := ⟨_, rfl⟩
  obtain ⟨r, hr'⟩ : ∃ z, b + 1 = z := ⟨_, rfl⟩
  obtain ⟨d, hd'⟩ : ∃ z, r + 1 = z := ⟨_, rfl⟩
  obtain ⟨g, hg'⟩ : ∃ z, d + 1 = z := ⟨_, rfl⟩
  obtain ⟨wb, hwb⟩ : ∃ z, (((w.alloc (.cells #[.int .i64 room] 3)).alloc (.cells #[.slice none 0 0] 34)).alloc (.cells #[.int .i64 0] 29)).alloc (.cells #[.slice none 0 0] 34) = z := ⟨_, rfl⟩
  have KB : Hid (Below w.heap.size w wb) := Lib.hid (by rw [← hwb]; exact ((((Below.refl _ w).alloc (Nat.le_refl _) _).alloc (by simp) _).alloc (by simp; omega) _).alloc (by simp; omega) _)
  have B0 : Hid (wb.heap[b]? = some (.cells #[.int .i64 room] 3 (0, 0))) := Lib.hid (by rw [← hwb]; exact (Below.heap_alloc _ _ _ (by simp; omega)).trans ((Below.heap_alloc _ _ _ (by simp; omega)).trans ((Below.heap_alloc _ _ _ (by simp; omega)).trans (heap_at hb))))
  have B1 : Hid (wb.heap[r]? = some (.cells #[.slice none 0 0] 34 (0, 0))) := Lib.hid (by rw [← hwb]; exact (Below.heap_alloc _ _ _ (by simp; omega)).trans ((Below.heap_alloc _ _ _ (by simp; omega)).trans (heap_at (by simp; omega))))
  have B2 : Hid (wb.heap[d]? = some (.cells #[.int .i64 0] 29 (0, 0))) := Lib.hid (by rw [← hwb]; exact (Below.heap_alloc _ _ _ (by simp; omega)).trans (heap_at (by simp; omega)))
  have B3 : Hid (wb.heap[g]? = some (.cells #[.slice none 0 0] 34 (0, 0))) := Lib.hid (by rw [← hwb]; exact heap_at (by simp; omega))
  have HRD : Hid (w.heap.size ≤ b ∧ b < r ∧ r < d ∧ d < g) := Lib.hid (by omega)
  refine (callsIn_wide (n := 3)).1 ?_
  refine callsIn_of_wp_marks Try.func25 rfl trivial ?_ rfl
  simp only [Try.ntmps25, List.size_toArray, List.length_cons, List.length_nil, Nat.reduceAdd, Nat.reduceSub, Array.replicate_succ, Array.replicate_zero, List.push_toArray, List.append_toArray, List.nil_append, List.cons_append]
  refine wpIn_wide.2 ?_
  have HWB0 := Lib.hid hwb
  have HE0 := Lib.hid hb
  have HE1 := Lib.hid hr'
  have HE2 := Lib.hid hd'
  have HE3 := Lib.hid hg'
  clear hwb hb hr' hd' hg'
  go_upto_region 2 with fail
  try rw [HWB0.out]
  try rw [HE0.out]
  try rw [HE1.out]
  try rw [HE2.out]
  try rw [HE3.out]
  clear HWB0 HE0 HE1 HE2 HE3
  obtain ⟨x, hx⟩ : ∃ z, wb.heap.size = z := ⟨_, rfl⟩
  have CS := Lib.hid (sets_any from_ (count : Int) 26 #[.pointer (some ⟨bf, 0, none⟩)] wb)
  rw [hx] at CS
  go_wp2_with fail
  (with_reducible refine CS.out.mono ?_)
  rintro e W0 ⟨rfl, HXY, q⟩
  have HGX : Hid (g < x) := Lib.hid (by have := (Array.getElem?_eq_some_iff.1 B3.out).1; omega)
  have KX : Hid (Below wb.heap.size wb W0) := Lib.hid (by rw [hx]; exact q.out)
  have KB4 := Lib.hid (KB.out.trans (KX.out.mono KB.out.size))
  have B0d := Lib.hid (heap_keep B0.out KX.out)
  have B1d := Lib.hid (heap_keep B1.out KX.out)
  have B2d := Lib.hid (heap_keep B2.out KX.out)
  have HGd := Lib.hid (heap_keep B3.out KX.out)
  obtain ⟨n₁, hn1⟩ : ∃ z, W0.heap.size = z := ⟨_, rfl⟩
  have HSX : Hid (n₁ = x + 3) := Lib.hid (by rw [← hn1]; exact HXY.out.2.2.2)
  have HN1 := Lib.hid hn1
  have HNW : Hid (w.heap.size ≤ n₁) := Lib.hid (by rw [← hn1]; exact KB4.out.size)
  clear q hx CS KX B0 B1 B2 B3 KB hn1
  have HSH : Hid (ClW w W0 b r d g n₁ room (.slice none 0 0)) := Lib.hid ⟨KB4.out, by have := HN1.out; omega, B0d.out, B1d.out, B2d.out, HGd.out, HRD.out.1, HRD.out.2.1, HRD.out.2.2.1, HRD.out.2.2.2, by have := HGX.out; have := HSX.out; omega⟩
  go_wp2_with fail
  refine (wpIn_wide (n := 3)).1 ?_
  refine range_rel rfl (by omega) (gf := 52) (lb := #[.pointer (some ⟨x + 1, 0, none⟩), .pointer (some ⟨x + 2, 0, none⟩), .pointer (some ⟨x, 0, none⟩)]) rfl trivial (enters_of Try.func52 (by kernel_rfl) rfl)
    (sets_seq26 S ok from_ count bf w.heap.size n₁ g x (x + 1) (x + 2) W0 (by have := HN1.out; have := HNW.out; omega) (by have := HN1.out; omega) ⟨by omega, by omega, by omega⟩
      (fun W' j k kn h1 h2 => CT.out W' j (KB4.out.trans k.below) h1 h2)
      (pr_one HGd.out (fun q e => by simp [Value.ownBlock] at e)) (by have := HSX.out; have := HGX.out; omega) ⟨by have := HSX.out; omega, by have := HGX.out; omega⟩ ⟨by have := HSX.out; omega, by have := HGX.out; omega⟩ ⟨by have := HSX.out; omega, by have := HGX.out; omega⟩ HXY.out.1 HXY.out.2.1 HXY.out.2.2.1)
    (fun p q => p.trans q) (kz_put (by have := HN1.out; have := HNW.out; omega) (by have := HN1.out; omega) (by have := HSX.out; have := HGX.out; omega)) (Below.refl _ _) (fun _ => rfl)
    (ClI S ok from_ room count w b r d g n₁) (ClX ok from_ count w r d) (by rw [HN1.out]; exact clI_own S ok from_ room count w b r d g n₁) (fun c => by rw [HN1.out]; exact clX_own ok from_ count w r d n₁ HNW.out (by have := HSH.out.hi; have := HSH.out.mid; have := HSH.out.rd; omega) (by have := HSH.out.hi; have := HSH.out.mid; omega) c)
    ⟨.slice none 0 0, Nat.zero_le _, HSH.out, World.ownsRow_nil _ _ _ _, (fun j h => absurd h (Nat.not_lt_zero j)), (fun s h => by cases h), Nat.zero_le _⟩
    (ClA S ok n₁ g from_ count (fun z => { tmps := #[.int .i64 from_, .int .i64 (count : Int), .int .i64 room, .func (.func 26) #[] #[.pointer (some ⟨bf, 0, none⟩)], undef, undef, .pointer (some ⟨b, 0, none⟩), undef, .pointer (some ⟨r, 0, none⟩), .pointer (some ⟨d, 0, none⟩), .pointer (some ⟨g, 0, none⟩), z.1, .int .i64 z.2, undef, .int .i64 from_, .int .i64 (count : Int), .func (.func 26) #[] #[.pointer (some ⟨bf, 0, none⟩)], .func (.func 52) #[] #[.pointer (some ⟨x + 1, 0, none⟩), .pointer (some ⟨x + 2, 0, none⟩), .pointer (some ⟨x, 0, none⟩)], z.1, .int .i64 z.2, undef, undef, undef, undef, undef, undef, undef, undef, undef, undef, undef, undef, undef, undef, undef, undef, undef, undef, undef, undef, undef, undef, undef, undef, undef, undef, undef, undef, undef, undef, undef, undef, undef, undef, undef, undef, undef, undef, undef, undef, undef, undef, undef, undef, undef], defers := [] })) (fun s x a' => by rw [HN1.out]; exact clA_own HSH.out.hi s x a') ?assign ?body ?done ?stop
  case assign =>
    rintro lp s z W K hI0 hR0 hK
    have HI0 := Lib.hid hI0
    have HR0 := Lib.hid hR0
    have HGL : Hid (g < W.heap.size) := Lib.hid (by obtain ⟨_, _, h, _⟩ := hI0; exact (Array.getElem?_eq_some_iff.1 h.g_).1)
    clear hI0 hR0
    unfold enc2
    gi_wp2
    exact hK _ _ ((KeepsOthers.refl _).from _) (Kz.refl _ _ _ _) HI0.out ⟨rfl, HR0.out, HGL.out⟩
  case body =>
    rintro lp s z a' W hlp hr hI hA
    obtain ⟨va, hsle, hw, hown, hok, hft, hln⟩ := hI
    obtain ⟨ha, ⟨hlt, hto, hfr⟩, hgs⟩ := hA
    subst ha
    obtain ⟨v, k⟩ := z
    obtain ⟨aa, na, ca, hva⟩ : ∃ aa na ca, va = .slice aa na ca := by
      obtain ⟨a1, a2, a3, _⟩ := own_sp rfl hown
      exact ⟨_, _, _, a3⟩
    subst hva
    obtain ⟨A, hA⟩ : ∃ z, colF room (many S from_ s) = z := ⟨_, rfl⟩
    have HCS : Hid (colF room (many S from_ (s + 1)) = colS room A (S (from_ + (s : Int)))) := Lib.hid (by rw [colF_step, hA])
    rw [hA] at hown hft hln
    have hna : A.length = na := by
      obtain ⟨a1, a2, a3, a4⟩ := own_sp rfl hown
      cases a3; rfl
    rw [hna] at hown hln
    have hfr : ∀ q, (Value.slice aa na ca).ownBlock = some q → v.ownBlock ≠ some q := fun q e => hfr _ q hw.g_ e
    have HWB := Lib.hid hw
    have HOWN := Lib.hid hown
    have HOKA := Lib.hid hok
    have HFA := Lib.hid hft
    have HNA := Lib.hid hna
    have HFR := Lib.hid hfr
    have nab : na ≤ 1000000000000 := by have : s * 1000000 ≤ 1000000 * 1000000 := Nat.mul_le_mul_right _ (by omega); omega
    have HLNA : Hid (na ≤ s * 1000000) := Lib.hid hln
    clear hlp hr hsle hw hown hok hft hna hfr hgs hA hln
    rcases hto with ⟨ho, hk, hrow⟩ | ⟨ho, hk, hv⟩
    · dsimp only at hk hrow
      subst hk
      have HFL := Lib.hid (HFI.out _ ho)
      have HLL := Lib.hid (HLE.out (from_ + (s : Int)))
      have HOKS : Hid (∀ j, j < s + 1 → ok (from_ + (j : Int))) := Lib.hid (fun j hj => by
        rcases Nat.lt_succ_iff_lt_or_eq.1 hj with h | h
        · exact HOKA.out j h
        · rw [h]; exact ho)
      obtain ⟨L, hL⟩ : ∃ z, S (from_ + (s : Int)) = z := ⟨_, rfl⟩
      rw [hL] at HFL HLL HCS hrow
      obtain ⟨ao, nc, rfl, hsp⟩ := own_sp rfl hrow
      obtain ⟨nn, hnn⟩ : ∃ z, L.length = z := ⟨_, rfl⟩
      rw [hnn] at hsp hrow HLL ⊢
      have HSP := Lib.hid hsp
      have HROW := Lib.hid hrow
      have HNN := Lib.hid hnn
      have nnb : nn ≤ 1000000 := HLL.out
      have HFS : Hid (Fit (colS room A L)) := Lib.hid (colS_fit HFA.out HFL.out)
      have HLS : Hid ((colS room A L).length ≤ (s + 1) * 1000000) := Lib.hid (by have a := (colS_len room A L).1; have b := HLNA.out; have c := HNA.out; have e := HNN.out; rw [Nat.add_mul]; omega)
      clear ho hrow hsp hnn hL
      have p0 : W.cell? ⟨g, 0, none⟩ = some (.slice aa na ca) := cell_block HWB.out.g_ 0
      have q0 : ∀ p : Cls W, p.w.cell? ⟨g, 0, none⟩ = some (.slice aa na ca) := fun p => cell_keep p0 p.h
      by_cases c1 : 0 < na
      · by_cases c2 : 0 < nn
        · obtain ⟨A0, X, hAX⟩ : ∃ A0 X, A = A0 ++ [X] := by
            rcases List.eq_nil_or_concat A with h | ⟨a0, x, h⟩
            · have := HNA.out; rw [h] at this; simp at this; omega
            · exact ⟨a0, x, by rw [h, List.concat_eq_append]⟩
          obtain ⟨Y, R, hLY⟩ : ∃ Y R, L = Y :: R := by
            rcases hL : L with _ | ⟨a, b⟩
            · have := HNN.out; rw [hL] at this; simp at this; omega
            · exact ⟨a, b, rfl⟩
          subst hAX
          subst hLY
          obtain ⟨ma, rfl⟩ : ∃ z, na = z + 1 := ⟨na - 1, by omega⟩
          obtain ⟨mn, rfl⟩ : ∃ z, nn = z + 1 := ⟨nn - 1, by omega⟩
          obtain ⟨ga, ca', hca⟩ := ownsRow_succ HOWN.out
          injection hca with hca _ hca2
          subst hca
          subst hca2
          obtain ⟨bl, pl, hao, hcl⟩ := HSP.out.here (by omega)
          subst hao
          have HMA : Hid (A0.length = ma) := Lib.hid (by have := HNA.out; simp at this; omega)
          have HMN : Hid (R.length = mn) := Lib.hid (by have := HNN.out; simp at this; omega)
          have t2 : (0 : Int) < (mn : Int) + 1 := by omega
          have t1 : (0 : Int) < (ma : Int) + 1 := by omega
          have HC1 := Lib.hid (HOWN.out.cellAt (ma * 2 + 1) (by omega))
          have HX := HFA.out X (by simp)
          obtain ⟨⟨hx1, hx2⟩, hx3, hx4⟩ := HX
          have HC2 : Hid (W.cell? ⟨ga, ma * 2 + 1, none⟩ = some (.int .i64 X.2)) := Lib.hid (by
            rw [HC1.out, spCells_snoc, List.getElem?_append_right (by rw [spCells_length, HMA.out]; omega), spCells_length, HMA.out, show ma * 2 + 1 - ma * 2 = 1 by omega]; rfl)
          have HC3 := hcl 0 (by simp)
          simp only [Nat.zero_mul, Nat.add_zero, List.getElem_cons_zero] at HC3
          obtain ⟨k1, k2⟩ := HC3
          have q1 : ∀ p : Cls W, p.w.cell? ⟨ga, ma * 2 + 1, none⟩ = some (.int .i64 X.2) := fun p => cell_keep HC2.out p.h
          have q2 : ∀ p : Cls W, p.w.cell? ⟨bl, pl, none⟩ = some (.int .i64 Y.1) := fun p => cell_keep k1 p.h
          have lm : (ma : Int) < (ma : Int) + 1 := by omega
          have ln : ¬ ma + 1 ≤ ma := by omega
          have z0 : (ma : Int) + 1 - 1 = (ma : Int) := by omega
          by_cases c3 : X.2 + 1 = Y.1
          · have t3 : decide (X.2 + 1 = Y.1) = true := by simp; exact c3
            gi_wp2
            refine quiet_round (W := W) (by kernel_rfl) (by kernel_rfl) (by kernel_rfl) (Below.refl _ _) ?_
            repeat (gi_big_quiet_step (fail))
            refine wpQuietIn_nil ?_
            rintro w4 ⟨⟨wq, hw4⟩, hq⟩
            dsimp only at hq
            subst hq
            try dsimp only
            have HW4 := Lib.hid hw4
            have HWC := Lib.hid (HWB.out.keep hw4)
            have HOC := Lib.hid (keepB HOWN.out hw4)
            have HSC := Lib.hid (HSP.out.keep hw4)
            have HC4 := Lib.hid (cell_keep HC2.out hw4)
            have HK1 := Lib.hid (cell_keep k1 hw4)
            have HK2 := Lib.hid (cell_keep k2 hw4)
            clear hw4 p0 q0 q1 q2 k1 k2 hcl
            gi_wp2
            have p0 : w4.cell? ⟨g, 0, none⟩ = some (.slice (some ⟨ga, 0, none⟩) (ma + 1) ca) := cell_block HWC.out.g_ 0
            have k1 := HK1.out
            have k2 := HK2.out
            have c4 := HC4.out
            have fz := HOC.out.frozenAt (ma * 2 + 1)
            have i1 : (0 : Int) ≤ (ma : Int) := by omega
            have i3 : ma < ma + 1 := by omega
            refine drawn_round (by kernel_rfl) (by kernel_rfl) ?_
            refine wpAnyIn_take (i := 1) (v := (.int .i64 ((ma : Int) + 1))) rfl rfl (by kernel_rfl) (by kernel_rfl) (by kernel_rfl) (fun _ _ _ h => h) ⟨Or.inl ⟨by rfl, ?_⟩, fun _ => rfl⟩ ?_
            · intro w; go_simp
            refine wpAnyIn_take (i := 2) (v := (.int .i64 (ma : Int))) rfl rfl (by kernel_rfl) (by kernel_rfl) (by kernel_rfl) (fun _ _ _ h => h) ⟨Or.inl ⟨by rfl, ?_⟩, fun _ => rfl⟩ ?_
            · intro w; go_simp; exact IntWalk.i64_in _ (by omega)
            refine wpAnyIn_take (i := 3) (v := (.slice (some ⟨bl, pl, none⟩) (mn + 1) nc)) rfl rfl (by kernel_rfl) (by kernel_rfl) (by kernel_rfl) (fun _ _ _ h => h) ⟨Or.inl ⟨by rfl, ?_⟩, fun _ => rfl⟩ ?_
            · intro w; go_simp
            refine wpAnyIn_take (i := 4) (v := (.pointer (some ⟨bl, pl, none⟩))) rfl rfl (by kernel_rfl) (by kernel_rfl) (by kernel_rfl) (fun _ _ _ h => h) ⟨Or.inl ⟨by rfl, ?_⟩, fun _ => rfl⟩ ?_
            · intro w; go_simp
            refine wpAnyIn_take (i := 5) (v := (.pointer (some ⟨bl, pl + 1, none⟩))) rfl rfl (by kernel_rfl) (by kernel_rfl) (by kernel_rfl) (fun _ _ _ h => h) ⟨Or.inl ⟨by rfl, ?_⟩, fun _ => rfl⟩ ?_
            · intro w; go_simp
            refine wpAnyIn_ready (rs := [0, 6]) (by kernel_rfl) (by simp) ?_
            refine AllReadyIn.cons rfl (fun K hK => ?_) ?_
            · go_simp
              refine hK _ _ ?_
              clear hK K
              refine wpAnyIn_ready (rs := [6]) (by kernel_rfl) (by simp) ?_
              refine AllReadyIn.cons rfl (fun K hK => ?_) AllReadyIn.nil
              go_simp
              refine hK _ _ ?_
              clear hK K
              refine wpAnyIn_take (i := 7) (v := (.pointer (some ⟨ga, ma * 2, none⟩))) rfl rfl (by kernel_rfl) (by kernel_rfl) (by kernel_rfl) (fun _ _ _ h => h) ⟨Or.inl ⟨by rfl, ?_⟩, fun _ => rfl⟩ ?_
              · intro w; go_simp
              refine wpAnyIn_take (i := 8) (v := (.pointer (some ⟨ga, ma * 2 + 1, none⟩))) rfl rfl (by kernel_rfl) (by kernel_rfl) (by kernel_rfl) (fun _ _ _ h => h) ⟨Or.inl ⟨by rfl, ?_⟩, fun _ => rfl⟩ ?_
              · intro w; go_simp
              refine wpAnyIn_ready (rs := [9]) (by kernel_rfl) (by simp) ?_
              refine AllReadyIn.cons rfl (fun K hK => ?_) AllReadyIn.nil
              go_simp
              refine hK _ _ ?_
              clear hK K
              refine wpAnyIn_done (by kernel_rfl) ?_ _
              have HKZ4 := Lib.hid (Kz.of (n₀ := w.heap.size) (n₁ := n₁) (bl := g) (Nat.le_trans HNW.out HWB.out.sz) HWB.out.sz HWB.out.hi HW4.out)
              obtain ⟨w5, hw5⟩ : ∃ z, (w4.setCell ⟨ga, ma * 2 + 1, none⟩ (.int .i64 Y.2)).drew = z := ⟨_, rfl⟩
              rw [hw5]
              have HG5 : Hid (w4.grownBy w5 (some ga)) := Lib.hid (by rw [← hw5]; exact grown_put (grown_refl _ _) _ _)
              have HO5 : Hid (w5.ownsRow n₁ 50 2 (.slice (some ⟨ga, 0, none⟩) (ma + 1) ca) (ma + 1) (spCells (A0 ++ [(X.1, Y.2)]))) := Lib.hid (by
                have h := (HOC.out.stored (ma * 2 + 1) (.int .i64 Y.2)).1.drew
                rw [hw5] at h
                have e := sp_set A0 X Y.2
                rw [HMA.out] at e
                rw [← e]
                exact h)
              have HW5 := Lib.hid (HWC.out.grown HG5.out (fun q e => by cases e; exact (HOC.out.lt ga rfl).1))
              have HS5 := Lib.hid (HSC.out.apart HG5.out (fun e => HFR.out ga rfl (by rw [e]; rfl)))
              have HKZ5 := Lib.hid (kz_own HKZ4.out HOC.out HNW.out (Nat.le_refl _) HWB.out.hi HWC.out.sz HG5.out)
              have HKF5 := Lib.hid ((keepsFrom_below HW4.out).trans (keeps_own HOC.out HG5.out))
              have HGN : Hid (glue (A0 ++ [X]) (Y :: R) = (A0 ++ [(X.1, Y.2)], R)) := Lib.hid (by rw [glue_snoc, if_pos c3])
              clear k1 k2 c4 fz p0 hw5
              have ncl := HS5.out.le
              by_cases hnc : nc = 1
              · subst hnc
                obtain rfl : mn = 0 := by omega
                have HS6 := Lib.hid (show SpAt w5 (some ⟨bl, pl, none⟩) 0 0 R from HS5.out.tail1 pl (fun h => by omega))
                have p0 : w5.cell? ⟨g, 0, none⟩ = some (.slice (some ⟨ga, 0, none⟩) (ma + 1) ca) := cell_block HW5.out.g_ 0
                have pb : w5.cell? ⟨b, 0, none⟩ = some (.int .i64 room) := cell_block HW5.out.b0 0
                have q0 : w5.frozen? ⟨g, 0, none⟩ = false := free_blk HW5.out.g_ 0
                by_cases le : (ma : Int) + 1 ≤ room
                · have tl : decide ((ma : Int) + 1 ≤ room) = true := by simp; exact le
                  have HTS : Hid (colS room (A0 ++ [X]) (Y :: R) = (A0 ++ [(X.1, Y.2)]) ++ R) := Lib.hid ((colS_on HGN.out (by simp [HMA.out])) le)
                  clear le
                  gi_wp2_with (gi_at_builtin; refine appSpIn rfl _ _ rfl n₁ _ _ _ rfl HO5.out _ _ _ _ rfl HS6.out (by omega) (by omega) HW5.out.sz ?_; intro v' w8 hown' hgrow; obtain ⟨oa, oc, hv', _⟩ := own_sp (show ((A0 ++ [(X.1, Y.2)]) ++ R).length = ma + 1 + 0 by (simp [HMA.out, HMN.out]; try omega)) hown'; subst hv'; have HA8 := Lib.hid (HW5.out.grown hgrow (fun q e => (HO5.out.lt q e).1)); have HN8 := Lib.hid hown'; have HG8 := Lib.hid hgrow; have p0' : w8.cell? ⟨g, 0, none⟩ = some (.slice (some ⟨ga, 0, none⟩) (ma + 1) ca) := cell_block HA8.out.g_ 0; have q0' : w8.frozen? ⟨g, 0, none⟩ = false := free_blk HA8.out.g_ 0; clear hown' hgrow)
                  have HPU := Lib.hid (HA8.out.put (.slice oa (ma + 1 + 0) oc))
                  have HOW := Lib.hid (own_off HN8.out (grown_cell w8 ⟨g, 0, none⟩ (.slice oa (ma + 1 + 0) oc)) (fun q e => .inl (by cases e; exact HA8.out.hi)))
                  have HKZ := Lib.hid (kz_set (kz_own HKZ5.out HO5.out HNW.out (Nat.le_refl _) HWB.out.hi HW5.out.sz HG8.out) (by have := HRD.out; omega) 0 (.slice oa (ma + 1 + 0) oc) (pr_one HPU.out.g_ (fun q e => (HOW.out.lt q e).2)))
                  have HKF := Lib.hid ((HKF5.out.trans (keeps_own HO5.out HG8.out)).trans ((KeepsOthers.setCell w8 ⟨g, 0, none⟩ (.slice oa (ma + 1 + 0) oc)).from n₁))
                  have HOX : Hid ((w8.setCell ⟨g, 0, none⟩ (.slice oa (ma + 1 + 0) oc)).ownsRow n₁ 50 2 (.slice oa (ma + 1 + 0) oc) (colS room (A0 ++ [X]) (Y :: R)).length (spCells (colS room (A0 ++ [X]) (Y :: R)))) := Lib.hid (by rw [HTS.out, show ((A0 ++ [(X.1, Y.2)]) ++ R).length = ma + 1 + 0 by (simp [HMA.out, HMN.out]; try omega)]; exact HOW.out)
                  exact .inl ⟨rfl, by rw [HN1.out]; exact HKF.out, HKZ.out, _, hlt, HPU.out, by rw [HCS.out]; exact HOX.out, HOKS.out, by rw [HCS.out]; exact HFS.out, by rw [HCS.out]; exact HLS.out⟩
                · have tl : decide ((ma : Int) + 1 ≤ room) = false := by simp; omega
                  have HTS : Hid (colS room (A0 ++ [X]) (Y :: R) = (A0 ++ [(X.1, Y.2)])) := Lib.hid ((colS_off HGN.out (by simp [HMA.out])) le)
                  clear le
                  gi_wp2
                  have HOX : Hid (w5.ownsRow n₁ 50 2 (.slice (some ⟨ga, 0, none⟩) (ma + 1) ca) (colS room (A0 ++ [X]) (Y :: R)).length (spCells (colS room (A0 ++ [X]) (Y :: R)))) := Lib.hid (by rw [HTS.out, show ((A0 ++ [(X.1, Y.2)])).length = ma + 1 by (simp [HMA.out, HMN.out]; try omega)]; exact HO5.out)
                  exact .inl ⟨rfl, by rw [HN1.out]; exact HKF5.out, HKZ5.out, _, hlt, HW5.out, by rw [HCS.out]; exact HOX.out, HOKS.out, by rw [HCS.out]; exact HFS.out, by rw [HCS.out]; exact HLS.out⟩
              · have HS6 := Lib.hid (HS5.out.tail1 (pl + 2) (fun _ => rfl))
                have p0 : w5.cell? ⟨g, 0, none⟩ = some (.slice (some ⟨ga, 0, none⟩) (ma + 1) ca) := cell_block HW5.out.g_ 0
                have pb : w5.cell? ⟨b, 0, none⟩ = some (.int .i64 room) := cell_block HW5.out.b0 0
                have q0 : w5.frozen? ⟨g, 0, none⟩ = false := free_blk HW5.out.g_ 0
                by_cases le : (ma : Int) + 1 ≤ room
                · have tl : decide ((ma : Int) + 1 ≤ room) = true := by simp; exact le
                  have HTS : Hid (colS room (A0 ++ [X]) (Y :: R) = (A0 ++ [(X.1, Y.2)]) ++ R) := Lib.hid ((colS_on HGN.out (by simp [HMA.out])) le)
                  clear le
                  gi_wp2_with (gi_at_builtin; refine appSpIn rfl _ _ rfl n₁ _ _ _ rfl HO5.out _ _ _ _ rfl HS6.out (by omega) (by omega) HW5.out.sz ?_; intro v' w8 hown' hgrow; obtain ⟨oa, oc, hv', _⟩ := own_sp (show ((A0 ++ [(X.1, Y.2)]) ++ R).length = ma + 1 + mn by (simp [HMA.out, HMN.out]; try omega)) hown'; subst hv'; have HA8 := Lib.hid (HW5.out.grown hgrow (fun q e => (HO5.out.lt q e).1)); have HN8 := Lib.hid hown'; have HG8 := Lib.hid hgrow; have p0' : w8.cell? ⟨g, 0, none⟩ = some (.slice (some ⟨ga, 0, none⟩) (ma + 1) ca) := cell_block HA8.out.g_ 0; have q0' : w8.frozen? ⟨g, 0, none⟩ = false := free_blk HA8.out.g_ 0; clear hown' hgrow)
                  have HPU := Lib.hid (HA8.out.put (.slice oa (ma + 1 + mn) oc))
                  have HOW := Lib.hid (own_off HN8.out (grown_cell w8 ⟨g, 0, none⟩ (.slice oa (ma + 1 + mn) oc)) (fun q e => .inl (by cases e; exact HA8.out.hi)))
                  have HKZ := Lib.hid (kz_set (kz_own HKZ5.out HO5.out HNW.out (Nat.le_refl _) HWB.out.hi HW5.out.sz HG8.out) (by have := HRD.out; omega) 0 (.slice oa (ma + 1 + mn) oc) (pr_one HPU.out.g_ (fun q e => (HOW.out.lt q e).2)))
                  have HKF := Lib.hid ((HKF5.out.trans (keeps_own HO5.out HG8.out)).trans ((KeepsOthers.setCell w8 ⟨g, 0, none⟩ (.slice oa (ma + 1 + mn) oc)).from n₁))
                  have HOX : Hid ((w8.setCell ⟨g, 0, none⟩ (.slice oa (ma + 1 + mn) oc)).ownsRow n₁ 50 2 (.slice oa (ma + 1 + mn) oc) (colS room (A0 ++ [X]) (Y :: R)).length (spCells (colS room (A0 ++ [X]) (Y :: R)))) := Lib.hid (by rw [HTS.out, show ((A0 ++ [(X.1, Y.2)]) ++ R).length = ma + 1 + mn by (simp [HMA.out, HMN.out]; try omega)]; exact HOW.out)
                  exact .inl ⟨rfl, by rw [HN1.out]; exact HKF.out, HKZ.out, _, hlt, HPU.out, by rw [HCS.out]; exact HOX.out, HOKS.out, by rw [HCS.out]; exact HFS.out, by rw [HCS.out]; exact HLS.out⟩
                · have tl : decide ((ma : Int) + 1 ≤ room) = false := by simp; omega
                  have HTS : Hid (colS room (A0 ++ [X]) (Y :: R) = (A0 ++ [(X.1, Y.2)])) := Lib.hid ((colS_off HGN.out (by simp [HMA.out])) le)
                  clear le
                  gi_wp2
                  have HOX : Hid (w5.ownsRow n₁ 50 2 (.slice (some ⟨ga, 0, none⟩) (ma + 1) ca) (colS room (A0 ++ [X]) (Y :: R)).length (spCells (colS room (A0 ++ [X]) (Y :: R)))) := Lib.hid (by rw [HTS.out, show ((A0 ++ [(X.1, Y.2)])).length = ma + 1 by (simp [HMA.out, HMN.out]; try omega)]; exact HO5.out)
                  exact .inl ⟨rfl, by rw [HN1.out]; exact HKF5.out, HKZ5.out, _, hlt, HW5.out, by rw [HCS.out]; exact HOX.out, HOKS.out, by rw [HCS.out]; exact HFS.out, by rw [HCS.out]; exact HLS.out⟩
            refine AllReadyIn.cons rfl (fun K hK => ?_) AllReadyIn.nil
            go_simp
            refine hK _ _ ?_
            clear hK K
            refine wpAnyIn_ready (rs := [0]) (by kernel_rfl) (by simp) ?_
            refine AllReadyIn.cons rfl (fun K hK => ?_) AllReadyIn.nil
            go_simp
            refine hK _ _ ?_
            clear hK K
            refine wpAnyIn_take (i := 7) (v := (.pointer (some ⟨ga, ma * 2, none⟩))) rfl rfl (by kernel_rfl) (by kernel_rfl) (by kernel_rfl) (fun _ _ _ h => h) ⟨Or.inl ⟨by rfl, ?_⟩, fun _ => rfl⟩ ?_
            · intro w; go_simp
            refine wpAnyIn_take (i := 8) (v := (.pointer (some ⟨ga, ma * 2 + 1, none⟩))) rfl rfl (by kernel_rfl) (by kernel_rfl) (by kernel_rfl) (fun _ _ _ h => h) ⟨Or.inl ⟨by rfl, ?_⟩, fun _ => rfl⟩ ?_
            · intro w; go_simp
            refine wpAnyIn_ready (rs := [9]) (by kernel_rfl) (by simp) ?_
            refine AllReadyIn.cons rfl (fun K hK => ?_) AllReadyIn.nil
            go_simp
            refine hK _ _ ?_
            clear hK K
            refine wpAnyIn_done (by kernel_rfl) ?_ _
            have HKZ4 := Lib.hid (Kz.of (n₀ := w.heap.size) (n₁ := n₁) (bl := g) (Nat.le_trans HNW.out HWB.out.sz) HWB.out.sz HWB.out.hi HW4.out)
            obtain ⟨w5, hw5⟩ : ∃ z, (w4.setCell ⟨ga, ma * 2 + 1, none⟩ (.int .i64 Y.2)).drew = z := ⟨_, rfl⟩
            rw [hw5]
            have HG5 : Hid (w4.grownBy w5 (some ga)) := Lib.hid (by rw [← hw5]; exact grown_put (grown_refl _ _) _ _)
            have HO5 : Hid (w5.ownsRow n₁ 50 2 (.slice (some ⟨ga, 0, none⟩) (ma + 1) ca) (ma + 1) (spCells (A0 ++ [(X.1, Y.2)]))) := Lib.hid (by
              have h := (HOC.out.stored (ma * 2 + 1) (.int .i64 Y.2)).1.drew
              rw [hw5] at h
              have e := sp_set A0 X Y.2
              rw [HMA.out] at e
              rw [← e]
              exact h)
            have HW5 := Lib.hid (HWC.out.grown HG5.out (fun q e => by cases e; exact (HOC.out.lt ga rfl).1))
            have HS5 := Lib.hid (HSC.out.apart HG5.out (fun e => HFR.out ga rfl (by rw [e]; rfl)))
            have HKZ5 := Lib.hid (kz_own HKZ4.out HOC.out HNW.out (Nat.le_refl _) HWB.out.hi HWC.out.sz HG5.out)
            have HKF5 := Lib.hid ((keepsFrom_below HW4.out).trans (keeps_own HOC.out HG5.out))
            have HGN : Hid (glue (A0 ++ [X]) (Y :: R) = (A0 ++ [(X.1, Y.2)], R)) := Lib.hid (by rw [glue_snoc, if_pos c3])
            clear k1 k2 c4 fz p0 hw5
            have ncl := HS5.out.le
            by_cases hnc : nc = 1
            · subst hnc
              obtain rfl : mn = 0 := by omega
              have HS6 := Lib.hid (show SpAt w5 (some ⟨bl, pl, none⟩) 0 0 R from HS5.out.tail1 pl (fun h => by omega))
              have p0 : w5.cell? ⟨g, 0, none⟩ = some (.slice (some ⟨ga, 0, none⟩) (ma + 1) ca) := cell_block HW5.out.g_ 0
              have pb : w5.cell? ⟨b, 0, none⟩ = some (.int .i64 room) := cell_block HW5.out.b0 0
              have q0 : w5.frozen? ⟨g, 0, none⟩ = false := free_blk HW5.out.g_ 0
              by_cases le : (ma : Int) + 1 ≤ room
              · have tl : decide ((ma : Int) + 1 ≤ room) = true := by simp; exact le
                have HTS : Hid (colS room (A0 ++ [X]) (Y :: R) = (A0 ++ [(X.1, Y.2)]) ++ R) := Lib.hid ((colS_on HGN.out (by simp [HMA.out])) le)
                clear le
                gi_wp2_with (gi_at_builtin; refine appSpIn rfl _ _ rfl n₁ _ _ _ rfl HO5.out _ _ _ _ rfl HS6.out (by omega) (by omega) HW5.out.sz ?_; intro v' w8 hown' hgrow; obtain ⟨oa, oc, hv', _⟩ := own_sp (show ((A0 ++ [(X.1, Y.2)]) ++ R).length = ma + 1 + 0 by (simp [HMA.out, HMN.out]; try omega)) hown'; subst hv'; have HA8 := Lib.hid (HW5.out.grown hgrow (fun q e => (HO5.out.lt q e).1)); have HN8 := Lib.hid hown'; have HG8 := Lib.hid hgrow; have p0' : w8.cell? ⟨g, 0, none⟩ = some (.slice (some ⟨ga, 0, none⟩) (ma + 1) ca) := cell_block HA8.out.g_ 0; have q0' : w8.frozen? ⟨g, 0, none⟩ = false := free_blk HA8.out.g_ 0; clear hown' hgrow)
                have HPU := Lib.hid (HA8.out.put (.slice oa (ma + 1 + 0) oc))
                have HOW := Lib.hid (own_off HN8.out (grown_cell w8 ⟨g, 0, none⟩ (.slice oa (ma + 1 + 0) oc)) (fun q e => .inl (by cases e; exact HA8.out.hi)))
                have HKZ := Lib.hid (kz_set (kz_own HKZ5.out HO5.out HNW.out (Nat.le_refl _) HWB.out.hi HW5.out.sz HG8.out) (by have := HRD.out; omega) 0 (.slice oa (ma + 1 + 0) oc) (pr_one HPU.out.g_ (fun q e => (HOW.out.lt q e).2)))
                have HKF := Lib.hid ((HKF5.out.trans (keeps_own HO5.out HG8.out)).trans ((KeepsOthers.setCell w8 ⟨g, 0, none⟩ (.slice oa (ma + 1 + 0) oc)).from n₁))
                have HOX : Hid ((w8.setCell ⟨g, 0, none⟩ (.slice oa (ma + 1 + 0) oc)).ownsRow n₁ 50 2 (.slice oa (ma + 1 + 0) oc) (colS room (A0 ++ [X]) (Y :: R)).length (spCells (colS room (A0 ++ [X]) (Y :: R)))) := Lib.hid (by rw [HTS.out, show ((A0 ++ [(X.1, Y.2)]) ++ R).length = ma + 1 + 0 by (simp [HMA.out, HMN.out]; try omega)]; exact HOW.out)
                exact .inl ⟨rfl, by rw [HN1.out]; exact HKF.out, HKZ.out, _, hlt, HPU.out, by rw [HCS.out]; exact HOX.out, HOKS.out, by rw [HCS.out]; exact HFS.out, by rw [HCS.out]; exact HLS.out⟩
              · have tl : decide ((ma : Int) + 1 ≤ room) = false := by simp; omega
                have HTS : Hid (colS room (A0 ++ [X]) (Y :: R) = (A0 ++ [(X.1, Y.2)])) := Lib.hid ((colS_off HGN.out (by simp [HMA.out])) le)
                clear le
                gi_wp2
                have HOX : Hid (w5.ownsRow n₁ 50 2 (.slice (some ⟨ga, 0, none⟩) (ma + 1) ca) (colS room (A0 ++ [X]) (Y :: R)).length (spCells (colS room (A0 ++ [X]) (Y :: R)))) := Lib.hid (by rw [HTS.out, show ((A0 ++ [(X.1, Y.2)])).length = ma + 1 by (simp [HMA.out, HMN.out]; try omega)]; exact HO5.out)
                exact .inl ⟨rfl, by rw [HN1.out]; exact HKF5.out, HKZ5.out, _, hlt, HW5.out, by rw [HCS.out]; exact HOX.out, HOKS.out, by rw [HCS.out]; exact HFS.out, by rw [HCS.out]; exact HLS.out⟩
            · have HS6 := Lib.hid (HS5.out.tail1 (pl + 2) (fun _ => rfl))
              have p0 : w5.cell? ⟨g, 0, none⟩ = some (.slice (some ⟨ga, 0, none⟩) (ma + 1) ca) := cell_block HW5.out.g_ 0
              have pb : w5.cell? ⟨b, 0, none⟩ = some (.int .i64 room) := cell_block HW5.out.b0 0
              have q0 : w5.frozen? ⟨g, 0, none⟩ = false := free_blk HW5.out.g_ 0
              by_cases le : (ma : Int) + 1 ≤ room
              · have tl : decide ((ma : Int) + 1 ≤ room) = true := by simp; exact le
                have HTS : Hid (colS room (A0 ++ [X]) (Y :: R) = (A0 ++ [(X.1, Y.2)]) ++ R) := Lib.hid ((colS_on HGN.out (by simp [HMA.out])) le)
                clear le
                gi_wp2_with (gi_at_builtin; refine appSpIn rfl _ _ rfl n₁ _ _ _ rfl HO5.out _ _ _ _ rfl HS6.out (by omega) (by omega) HW5.out.sz ?_; intro v' w8 hown' hgrow; obtain ⟨oa, oc, hv', _⟩ := own_sp (show ((A0 ++ [(X.1, Y.2)]) ++ R).length = ma + 1 + mn by (simp [HMA.out, HMN.out]; try omega)) hown'; subst hv'; have HA8 := Lib.hid (HW5.out.grown hgrow (fun q e => (HO5.out.lt q e).1)); have HN8 := Lib.hid hown'; have HG8 := Lib.hid hgrow; have p0' : w8.cell? ⟨g, 0, none⟩ = some (.slice (some ⟨ga, 0, none⟩) (ma + 1) ca) := cell_block HA8.out.g_ 0; have q0' : w8.frozen? ⟨g, 0, none⟩ = false := free_blk HA8.out.g_ 0; clear hown' hgrow)
                have HPU := Lib.hid (HA8.out.put (.slice oa (ma + 1 + mn) oc))
                have HOW := Lib.hid (own_off HN8.out (grown_cell w8 ⟨g, 0, none⟩ (.slice oa (ma + 1 + mn) oc)) (fun q e => .inl (by cases e; exact HA8.out.hi)))
                have HKZ := Lib.hid (kz_set (kz_own HKZ5.out HO5.out HNW.out (Nat.le_refl _) HWB.out.hi HW5.out.sz HG8.out) (by have := HRD.out; omega) 0 (.slice oa (ma + 1 + mn) oc) (pr_one HPU.out.g_ (fun q e => (HOW.out.lt q e).2)))
                have HKF := Lib.hid ((HKF5.out.trans (keeps_own HO5.out HG8.out)).trans ((KeepsOthers.setCell w8 ⟨g, 0, none⟩ (.slice oa (ma + 1 + mn) oc)).from n₁))
                have HOX : Hid ((w8.setCell ⟨g, 0, none⟩ (.slice oa (ma + 1 + mn) oc)).ownsRow n₁ 50 2 (.slice oa (ma + 1 + mn) oc) (colS room (A0 ++ [X]) (Y :: R)).length (spCells (colS room (A0 ++ [X]) (Y :: R)))) := Lib.hid (by rw [HTS.out, show ((A0 ++ [(X.1, Y.2)]) ++ R).length = ma + 1 + mn by (simp [HMA.out, HMN.out]; try omega)]; exact HOW.out)
                exact .inl ⟨rfl, by rw [HN1.out]; exact HKF.out, HKZ.out, _, hlt, HPU.out, by rw [HCS.out]; exact HOX.out, HOKS.out, by rw [HCS.out]; exact HFS.out, by rw [HCS.out]; exact HLS.out⟩
              · have tl : decide ((ma : Int) + 1 ≤ room) = false := by simp; omega
                have HTS : Hid (colS room (A0 ++ [X]) (Y :: R) = (A0 ++ [(X.1, Y.2)])) := Lib.hid ((colS_off HGN.out (by simp [HMA.out])) le)
                clear le
                gi_wp2
                have HOX : Hid (w5.ownsRow n₁ 50 2 (.slice (some ⟨ga, 0, none⟩) (ma + 1) ca) (colS room (A0 ++ [X]) (Y :: R)).length (spCells (colS room (A0 ++ [X]) (Y :: R)))) := Lib.hid (by rw [HTS.out, show ((A0 ++ [(X.1, Y.2)])).length = ma + 1 by (simp [HMA.out, HMN.out]; try omega)]; exact HO5.out)
                exact .inl ⟨rfl, by rw [HN1.out]; exact HKF5.out, HKZ5.out, _, hlt, HW5.out, by rw [HCS.out]; exact HOX.out, HOKS.out, by rw [HCS.out]; exact HFS.out, by rw [HCS.out]; exact HLS.out⟩
          · have t3 : (X.2 + 1 == Y.1) = false := by simp; exact c3
            gi_wp2
            refine quiet_round (W := W) (by kernel_rfl) (by kernel_rfl) (by kernel_rfl) (Below.refl _ _) ?_
            repeat (gi_big_quiet_step (fail))
            refine wpQuietIn_nil ?_
            rintro w4 ⟨⟨wq, hw4⟩, hq⟩
            dsimp only at hq
            subst hq
            try dsimp only
            have HW4 := Lib.hid hw4
            have HWC := Lib.hid (HWB.out.keep hw4)
            have HOC := Lib.hid (keepB HOWN.out hw4)
            have HSC := Lib.hid (HSP.out.keep hw4)
            have HKZ4 := Lib.hid (Kz.of (n₀ := w.heap.size) (n₁ := n₁) (bl := g) (Nat.le_trans HNW.out HWB.out.sz) HWB.out.sz HWB.out.hi hw4)
            clear hw4 p0 q0 q1 q2 k1 k2 hcl
            have HGN : Hid (glue (A0 ++ [X]) (Y :: R) = ((A0 ++ [X]), (Y :: R))) := Lib.hid (glue_not (fun a0 x s r e1 e2 => by have e3 := List.append_inj_right' e1 rfl; cases e2; cases e3; exact c3))
            have p0 : w4.cell? ⟨g, 0, none⟩ = some (.slice (some ⟨ga, 0, none⟩) (ma + 1) ca) := cell_block HWC.out.g_ 0
            have pb : w4.cell? ⟨b, 0, none⟩ = some (.int .i64 room) := cell_block HWC.out.b0 0
            have q0 : w4.frozen? ⟨g, 0, none⟩ = false := free_blk HWC.out.g_ 0
            by_cases le : (ma : Int) + 1 ≤ room
            · have tl : decide ((ma : Int) + 1 ≤ room) = true := by simp; exact le
              have HTS : Hid (colS room (A0 ++ [X]) (Y :: R) = (A0 ++ [X]) ++ (Y :: R)) := Lib.hid ((colS_on HGN.out (by simp [HMA.out])) le)
              clear le
              gi_wp2_with (gi_at_builtin; refine appSpIn rfl _ _ rfl n₁ _ _ _ rfl HOC.out _ _ _ _ rfl HSC.out (by omega) (by omega) HWC.out.sz ?_; intro v' w8 hown' hgrow; obtain ⟨oa, oc, hv', _⟩ := own_sp (show ((A0 ++ [X]) ++ (Y :: R)).length = ma + 1 + (mn + 1) by (simp [HMA.out, HMN.out]; try omega)) hown'; subst hv'; have HA8 := Lib.hid (HWC.out.grown hgrow (fun q e => (HOC.out.lt q e).1)); have HN8 := Lib.hid hown'; have HG8 := Lib.hid hgrow; have p0' : w8.cell? ⟨g, 0, none⟩ = some (.slice (some ⟨ga, 0, none⟩) (ma + 1) ca) := cell_block HA8.out.g_ 0; have q0' : w8.frozen? ⟨g, 0, none⟩ = false := free_blk HA8.out.g_ 0; clear hown' hgrow)
              have HPU := Lib.hid (HA8.out.put (.slice oa (ma + 1 + (mn + 1)) oc))
              have HOW := Lib.hid (own_off HN8.out (grown_cell w8 ⟨g, 0, none⟩ (.slice oa (ma + 1 + (mn + 1)) oc)) (fun q e => .inl (by cases e; exact HA8.out.hi)))
              have HKZ := Lib.hid (kz_set (kz_own HKZ4.out HOC.out HNW.out (Nat.le_refl _) HWB.out.hi HWC.out.sz HG8.out) (by have := HRD.out; omega) 0 (.slice oa (ma + 1 + (mn + 1)) oc) (pr_one HPU.out.g_ (fun q e => (HOW.out.lt q e).2)))
              have HKF := Lib.hid (((keepsFrom_below HW4.out).trans (keeps_own HOC.out HG8.out)).trans ((KeepsOthers.setCell w8 ⟨g, 0, none⟩ (.slice oa (ma + 1 + (mn + 1)) oc)).from n₁))
              have HOX : Hid ((w8.setCell ⟨g, 0, none⟩ (.slice oa (ma + 1 + (mn + 1)) oc)).ownsRow n₁ 50 2 (.slice oa (ma + 1 + (mn + 1)) oc) (colS room (A0 ++ [X]) (Y :: R)).length (spCells (colS room (A0 ++ [X]) (Y :: R)))) := Lib.hid (by rw [HTS.out, show ((A0 ++ [X]) ++ (Y :: R)).length = ma + 1 + (mn + 1) by (simp [HMA.out, HMN.out]; try omega)]; exact HOW.out)
              exact .inl ⟨rfl, by rw [HN1.out]; exact HKF.out, HKZ.out, _, hlt, HPU.out, by rw [HCS.out]; exact HOX.out, HOKS.out, by rw [HCS.out]; exact HFS.out, by rw [HCS.out]; exact HLS.out⟩
            · have tl : decide ((ma : Int) + 1 ≤ room) = false := by simp; omega
              have HTS : Hid (colS room (A0 ++ [X]) (Y :: R) = (A0 ++ [X])) := Lib.hid ((colS_off HGN.out (by simp [HMA.out])) le)
              clear le
              gi_wp2
              have HOX : Hid (w4.ownsRow n₁ 50 2 (.slice (some ⟨ga, 0, none⟩) (ma + 1) ca) (colS room (A0 ++ [X]) (Y :: R)).length (spCells (colS room (A0 ++ [X]) (Y :: R)))) := Lib.hid (by rw [HTS.out, show ((A0 ++ [X])).length = ma + 1 by (simp [HMA.out, HMN.out]; try omega)]; exact HOC.out)
              exact .inl ⟨rfl, by rw [HN1.out]; exact (keepsFrom_below HW4.out), HKZ4.out, _, hlt, HWC.out, by rw [HCS.out]; exact HOX.out, HOKS.out, by rw [HCS.out]; exact HFS.out, by rw [HCS.out]; exact HLS.out⟩
        · have t1 : decide ((0 : Int) < (na : Int)) = true := by simp; omega
          have t2 : decide ((0 : Int) < (nn : Int)) = false := by simp; omega
          gi_wp2
          refine quiet_round (W := W) (by kernel_rfl) (by kernel_rfl) (by kernel_rfl) (Below.refl _ _) ?_
          repeat (gi_big_quiet_step (fail))
          refine wpQuietIn_nil ?_
          rintro w4 ⟨⟨wq, hw4⟩, hq⟩
          dsimp only at hq
          subst hq
          try dsimp only
          have HW4 := Lib.hid hw4
          have HWC := Lib.hid (HWB.out.keep hw4)
          have HOC := Lib.hid (keepB HOWN.out hw4)
          have HSC := Lib.hid (HSP.out.keep hw4)
          have HKZ4 := Lib.hid (Kz.of (n₀ := w.heap.size) (n₁ := n₁) (bl := g) (Nat.le_trans HNW.out HWB.out.sz) HWB.out.sz HWB.out.hi hw4)
          clear hw4 p0 q0
          have HGN : Hid (glue A L = (A, L)) := Lib.hid (glue_not (fun a0 x s r e1 e2 => absurd (by rw [← HNN.out, e2]; simp) c2))
          have p0 : w4.cell? ⟨g, 0, none⟩ = some (.slice aa na ca) := cell_block HWC.out.g_ 0
          have pb : w4.cell? ⟨b, 0, none⟩ = some (.int .i64 room) := cell_block HWC.out.b0 0
          have q0 : w4.frozen? ⟨g, 0, none⟩ = false := free_blk HWC.out.g_ 0
          by_cases le : (na : Int) ≤ room
          · have tl : decide ((na : Int) ≤ room) = true := by simp; exact le
            have HTS : Hid (colS room A L = A ++ L) := Lib.hid ((colS_on HGN.out (by rw [HNA.out])) le)
            clear le
            gi_wp2_with (gi_at_builtin; refine appSpIn rfl _ _ rfl n₁ _ _ _ rfl HOC.out _ _ _ _ rfl HSC.out (by omega) (by omega) HWC.out.sz ?_; intro v' w8 hown' hgrow; obtain ⟨oa, oc, hv', _⟩ := own_sp (show (A ++ L).length = na + nn by simp [HNA.out, HNN.out]) hown'; subst hv'; have HA8 := Lib.hid (HWC.out.grown hgrow (fun q e => (HOC.out.lt q e).1)); have HN8 := Lib.hid hown'; have HG8 := Lib.hid hgrow; have p0' : w8.cell? ⟨g, 0, none⟩ = some (.slice aa na ca) := cell_block HA8.out.g_ 0; have q0' : w8.frozen? ⟨g, 0, none⟩ = false := free_blk HA8.out.g_ 0; clear hown' hgrow)
            have HPU := Lib.hid (HA8.out.put (.slice oa (na + nn) oc))
            have HOW := Lib.hid (own_off HN8.out (grown_cell w8 ⟨g, 0, none⟩ (.slice oa (na + nn) oc)) (fun q e => .inl (by cases e; exact HA8.out.hi)))
            have HKZ := Lib.hid (kz_set (kz_own HKZ4.out HOC.out HNW.out (Nat.le_refl _) HWB.out.hi HWC.out.sz HG8.out) (by have := HRD.out; omega) 0 (.slice oa (na + nn) oc) (pr_one HPU.out.g_ (fun q e => (HOW.out.lt q e).2)))
            have HKF := Lib.hid (((keepsFrom_below HW4.out).trans (keeps_own HOC.out HG8.out)).trans ((KeepsOthers.setCell w8 ⟨g, 0, none⟩ (.slice oa (na + nn) oc)).from n₁))
            have HOX : Hid ((w8.setCell ⟨g, 0, none⟩ (.slice oa (na + nn) oc)).ownsRow n₁ 50 2 (.slice oa (na + nn) oc) (colS room A L).length (spCells (colS room A L))) := Lib.hid (by rw [HTS.out, show (A ++ L).length = na + nn by simp [HNA.out, HNN.out]]; exact HOW.out)
            exact .inl ⟨rfl, by rw [HN1.out]; exact HKF.out, HKZ.out, _, hlt, HPU.out, by rw [HCS.out]; exact HOX.out, HOKS.out, by rw [HCS.out]; exact HFS.out, by rw [HCS.out]; exact HLS.out⟩
          · have tl : decide ((na : Int) ≤ room) = false := by simp; omega
            have HTS : Hid (colS room A L = A) := Lib.hid ((colS_off HGN.out (by rw [HNA.out])) le)
            clear le
            gi_wp2
            have HOX : Hid (w4.ownsRow n₁ 50 2 (.slice aa na ca) (colS room A L).length (spCells (colS room A L))) := Lib.hid (by rw [HTS.out, show (A).length = na by simp [HNA.out, HNN.out]]; exact HOC.out)
            exact .inl ⟨rfl, by rw [HN1.out]; exact (keepsFrom_below HW4.out), HKZ4.out, _, hlt, HWC.out, by rw [HCS.out]; exact HOX.out, HOKS.out, by rw [HCS.out]; exact HFS.out, by rw [HCS.out]; exact HLS.out⟩
      · have t1 : decide ((0 : Int) < (na : Int)) = false := by simp; omega
        gi_wp2
        refine quiet_round (W := W) (by kernel_rfl) (by kernel_rfl) (by kernel_rfl) (Below.refl _ _) ?_
        repeat (gi_big_quiet_step (fail))
        refine wpQuietIn_nil ?_
        rintro w4 ⟨⟨wq, hw4⟩, hq⟩
        dsimp only at hq
        subst hq
        try dsimp only
        have HW4 := Lib.hid hw4
        have HWC := Lib.hid (HWB.out.keep hw4)
        have HOC := Lib.hid (keepB HOWN.out hw4)
        have HSC := Lib.hid (HSP.out.keep hw4)
        have HKZ4 := Lib.hid (Kz.of (n₀ := w.heap.size) (n₁ := n₁) (bl := g) (Nat.le_trans HNW.out HWB.out.sz) HWB.out.sz HWB.out.hi hw4)
        clear hw4 p0 q0
        have HGN : Hid (glue A L = (A, L)) := Lib.hid (glue_not (fun a0 x s r e1 e2 => absurd (by rw [← HNA.out, e1]; simp) c1))
        have p0 : w4.cell? ⟨g, 0, none⟩ = some (.slice aa na ca) := cell_block HWC.out.g_ 0
        have pb : w4.cell? ⟨b, 0, none⟩ = some (.int .i64 room) := cell_block HWC.out.b0 0
        have q0 : w4.frozen? ⟨g, 0, none⟩ = false := free_blk HWC.out.g_ 0
        by_cases le : (na : Int) ≤ room
        · have tl : decide ((na : Int) ≤ room) = true := by simp; exact le
          have HTS : Hid (colS room A L = A ++ L) := Lib.hid ((colS_on HGN.out (by rw [HNA.out])) le)
          clear le
          gi_wp2_with (gi_at_builtin; refine appSpIn rfl _ _ rfl n₁ _ _ _ rfl HOC.out _ _ _ _ rfl HSC.out (by omega) (by omega) HWC.out.sz ?_; intro v' w8 hown' hgrow; obtain ⟨oa, oc, hv', _⟩ := own_sp (show (A ++ L).length = na + nn by simp [HNA.out, HNN.out]) hown'; subst hv'; have HA8 := Lib.hid (HWC.out.grown hgrow (fun q e => (HOC.out.lt q e).1)); have HN8 := Lib.hid hown'; have HG8 := Lib.hid hgrow; have p0' : w8.cell? ⟨g, 0, none⟩ = some (.slice aa na ca) := cell_block HA8.out.g_ 0; have q0' : w8.frozen? ⟨g, 0, none⟩ = false := free_blk HA8.out.g_ 0; clear hown' hgrow)
          have HPU := Lib.hid (HA8.out.put (.slice oa (na + nn) oc))
          have HOW := Lib.hid (own_off HN8.out (grown_cell w8 ⟨g, 0, none⟩ (.slice oa (na + nn) oc)) (fun q e => .inl (by cases e; exact HA8.out.hi)))
          have HKZ := Lib.hid (kz_set (kz_own HKZ4.out HOC.out HNW.out (Nat.le_refl _) HWB.out.hi HWC.out.sz HG8.out) (by have := HRD.out; omega) 0 (.slice oa (na + nn) oc) (pr_one HPU.out.g_ (fun q e => (HOW.out.lt q e).2)))
          have HKF := Lib.hid (((keepsFrom_below HW4.out).trans (keeps_own HOC.out HG8.out)).trans ((KeepsOthers.setCell w8 ⟨g, 0, none⟩ (.slice oa (na + nn) oc)).from n₁))
          have HOX : Hid ((w8.setCell ⟨g, 0, none⟩ (.slice oa (na + nn) oc)).ownsRow n₁ 50 2 (.slice oa (na + nn) oc) (colS room A L).length (spCells (colS room A L))) := Lib.hid (by rw [HTS.out, show (A ++ L).length = na + nn by simp [HNA.out, HNN.out]]; exact HOW.out)
          exact .inl ⟨rfl, by rw [HN1.out]; exact HKF.out, HKZ.out, _, hlt, HPU.out, by rw [HCS.out]; exact HOX.out, HOKS.out, by rw [HCS.out]; exact HFS.out, by rw [HCS.out]; exact HLS.out⟩
        · have tl : decide ((na : Int) ≤ room) = false := by simp; omega
          have HTS : Hid (colS room A L = A) := Lib.hid ((colS_off HGN.out (by rw [HNA.out])) le)
          clear le
          gi_wp2
          have HOX : Hid (w4.ownsRow n₁ 50 2 (.slice aa na ca) (colS room A L).length (spCells (colS room A L))) := Lib.hid (by rw [HTS.out, show (A).length = na by simp [HNA.out, HNN.out]]; exact HOC.out)
          exact .inl ⟨rfl, by rw [HN1.out]; exact (keepsFrom_below HW4.out), HKZ4.out, _, hlt, HWC.out, by rw [HCS.out]; exact HOX.out, HOKS.out, by rw [HCS.out]; exact HFS.out, by rw [HCS.out]; exact HLS.out⟩
    · dsimp only at hk hv
      subst hk
      subst hv
      have HNR : Hid (¬ ∀ j, j < count → ok (from_ + (j : Int))) := Lib.hid (fun h => ho (h s hlt))
      clear ho
      have r0 := cell_block HWB.out.b1 0
      have s0 := cell_block HWB.out.b2 0
      have f0 := free_blk HWB.out.b1 0
      have g0 := free_blk HWB.out.b2 0
      have ne1 : ¬ d = r := by have := HRD.out; omega
      have ne2 : ¬ r = d := by have := HRD.out; omega
      gi_wp2
      have RP := Lib.hid (res_put1 HWB.out.b1 HWB.out.b2 ne2 HWB.out.bw (by have := HRD.out; omega) (by have := HRD.out; omega) (.slice none 0 0) (.int .i64 20))
      exact .inr ⟨.ret, .inl ⟨rfl, rfl⟩, ((KeepsOthers.setCell W ⟨r, 0, none⟩ (.slice none 0 0)).from _).trans ((KeepsOthers.setCell _ ⟨d, 0, none⟩ (.int .i64 20)).from _), rfl, HNR.out, RP.out.1, RP.out.2.1, RP.out.2.2.1⟩
  case done =>
    rintro D s W hD hS hI hK
    obtain ⟨va, hsle, hw, hown, hok, hft, hln⟩ := hI
    have hS : s = count := hS
    rw [hS] at hown hok
    have HWB := Lib.hid hw
    have HOWN := Lib.hid hown
    have HOKA := Lib.hid hok
    have HKD := Lib.hid hK
    have HDD := Lib.hid hD
    obtain ⟨aa, na, ca, hva⟩ : ∃ aa na ca, va = .slice aa na ca := by
      obtain ⟨a1, a2, a3, _⟩ := own_sp rfl hown
      exact ⟨_, _, _, a3⟩
    subst hva
    clear hsle hw hown hok hft hln hK hD hS
    have p0 := cell_block HWB.out.g_ 0
    have r0 := cell_block HWB.out.b1 0
    have s0 := cell_block HWB.out.b2 0
    have f0 := free_blk HWB.out.b1 0
    have g0 := free_blk HWB.out.b2 0
    have ne1 : ¬ d = r := by have := HRD.out; omega
    have ne2 : ¬ r = d := by have := HRD.out; omega
    have n2 : ¬ r = D := by have := HDD.out; have := HN1.out; have := HWB.out.hi; have := HWB.out.mid; have := HWB.out.rd; omega
    have n3 : ¬ d = D := by have := HDD.out; have := HN1.out; have := HWB.out.hi; have := HWB.out.mid; omega
    try gi_wp2
    try go_wp2
    have RP := Lib.hid (res_put1 HWB.out.b1 HWB.out.b2 ne2 HWB.out.bw (by have := HRD.out; omega) (by have := HRD.out; omega) (.slice aa na ca) (.int .i64 0))
    have HKE := Lib.hid ((RP.out.2.2.2 D (fun z => n2 z.symm) (fun z => n3 z.symm)).trans HKD.out)
    have HOE := Lib.hid (own_off (own_off HOWN.out (grown_cell W ⟨r, 0, none⟩ (.slice aa na ca)) (fun q e => by cases e; exact .inl (show r < n₁ by have := HWB.out.hi; have := HWB.out.mid; have := HWB.out.rd; omega))) (grown_cell _ ⟨d, 0, none⟩ (.int .i64 0)) (fun q e => by cases e; exact .inl (show d < n₁ by have := HWB.out.hi; have := HWB.out.mid; omega)))
    obtain ⟨we, hwe⟩ : ∃ we, (W.setCell ⟨r, 0, none⟩ (.slice aa na ca)).setCell ⟨d, 0, none⟩ (.int .i64 0) = we := ⟨_, rfl⟩
    rw [hwe] at RP HKE HOE ⊢
    clear r0 s0 f0 g0 p0 hwe
    refine ⟨by simp, .inl ⟨_, _, rfl, run_takeDeferred HKE.out, ?_⟩⟩
    have X1 : (we.putObj D (.deferred none)).heap[r]? = _ := (World.putObj_heap_other n2).trans RP.out.1
    have X2 : (we.putObj D (.deferred none)).heap[d]? = _ := (World.putObj_heap_other n3).trans RP.out.2.1
    have r0 := cell_block X1 0
    have s0 := cell_block X2 0
    exact ⟨.tuple #[.slice aa na ca, .int .i64 0], by simp [results, Try.results25, go_sem, r0, s0], _, _, rfl, Lib.hid (RP.out.2.2.1.trans (belowK_b (w := W0) (by have := HN1.out; have := HNW.out; omega) we D _ _ HDD.out HKE.out rfl rfl)), Lib.hid (.inl ⟨HOKA.out, rfl, own_base (ownsRow_putObj HOE.out _ HKE.out rfl) HNW.out⟩)⟩
  case stop =>
    rintro D c s W hD hX hK
    obtain ⟨rfl, hnr, hr1', hd1, hbel⟩ := hX
    have HKD := Lib.hid hK
    have HDD := Lib.hid hD
    have HNR := Lib.hid hnr
    have HR1 := Lib.hid hr1'
    have HD1 := Lib.hid hd1
    have HBW := Lib.hid hbel
    clear hD hK hnr hr1' hd1 hbel
    gi_wp2
    refine ⟨by simp, .inl ⟨_, _, rfl, run_takeDeferred HKD.out, ?_⟩⟩
    have n2 : ¬ r = D := by have := HDD.out; have := HN1.out; have := HSX.out; have := HGX.out; have := HRD.out; omega
    have n3 : ¬ d = D := by have := HDD.out; have := HN1.out; have := HSX.out; have := HGX.out; have := HRD.out; omega
    have X1 : (W.putObj D (.deferred none)).heap[r]? = _ := (World.putObj_heap_other n2).trans HR1.out
    have X2 : (W.putObj D (.deferred none)).heap[d]? = _ := (World.putObj_heap_other n3).trans HD1.out
    have r0 := cell_block X1 0
    have s0 := cell_block X2 0
    exact ⟨.tuple #[.slice none 0 0, .int .i64 20], by simp [results, Try.results25, go_sem, r0, s0], _, _, rfl, Lib.hid (HBW.out.trans (belowK_b (w := W0) (by have := HN1.out; have := HNW.out; omega) W D _ _ HDD.out HKD.out rfl rfl)), Lib.hid (.inr ⟨HNR.out, rfl, rfl⟩)⟩
end
end Go.Proofs.Ytmjapbjjfhmohaa
