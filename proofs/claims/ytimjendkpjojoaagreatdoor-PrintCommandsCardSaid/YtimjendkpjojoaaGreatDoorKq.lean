/- X6, X7, X8 in one. -/
import Derived.Test.YtimjendkpjojoaaGreatDoorKm
import Derived.Test.YtimjendkpjojoaaGreatDoorKp
import Derived.Test.YtimjendkpjojoaaGreatDoorKj
namespace Go.Proofs.YtimjendkpjojoaaGreatDoor
set_option linter.unusedVariables false
set_option linter.unusedSimpArgs false
open Go.ChangeShapes Go.WideShapes Go.ChangeAt Go.RowKit

theorem xret_bool {a b : Bool} (h : a = b) : Ending.returned (.bool a) = .returned (.bool b) := by rw [h]
def rgZ (r : Lx.Rg) : Prop := r = ⟨0, 0, false, false⟩
theorem prange_any (r : Lx.Rg) (b : Bool) (w : World) (k : Bool) (hk : k = true ↔ if b = true then (r.hl = false → r.low = 0) ∧ (r.hh = false → r.high = 0) else r = ⟨0, 0, false, false⟩) :
    Calls Tryz.prog 36 #[.agg #[.int .i64 r.low, .int .i64 r.high, .bool r.hl, .bool r.hh], .bool b] w fun e w' => e = .returned (.bool k) ∧ Below w.heap.size w w' := by
  obtain ⟨lo, hi, hl, hh⟩ := r
  dsimp only at hk ⊢
  obtain ⟨bx, hbx⟩ : ∃ z, w.heap.size = z := ⟨_, rfl⟩
  obtain ⟨w1, hw1⟩ : ∃ z, w.alloc (.cells #[.int .i64 lo, .int .i64 hi, .bool hl, .bool hh] 40) = z := ⟨_, rfl⟩
  have KA : Hid (Below w.heap.size w w1) := Lib.hid (by rw [← hw1]; exact (Below.refl _ w).alloc (Nat.le_refl _) _)
  have HX : w1.heap[bx]? = some (.cells #[.int .i64 lo, .int .i64 hi, .bool hl, .bool hh] 40 (0, 0)) := by rw [← hw1, ← hbx, al_new]
  have e0 := cell_blk HX 0
  have e1 := cell_blk HX 1
  have e2 := cell_blk HX 2
  have e3 := cell_blk HX 3
  have HK := Lib.hid hk
  clear HX hk
  cases b
  · by_cases z1 : lo = 0 ∧ hi = 0 ∧ hl = false ∧ hh = false
    · obtain ⟨rfl, rfl, rfl, rfl⟩ := z1
      obtain rfl : k = true := HK.out.2 (by simp)
      clear HK
      go_enter Tryz.func36, Tryz.ntmps36
      go_upto_region 1 with fail
      clear hw1 hbx
      go_wp2_with fail
      go_returns
      exact ⟨rfl, KA.out⟩
    · obtain rfl : k = false := by
        have := HK.out
        cases k with
        | false => rfl
        | true => exact absurd (this.1 rfl) (by intro q; simp at q; exact z1 q)
      clear HK
      have HB : Hid (¬ (lo = 0 ∧ hi = 0 ∧ hl = false ∧ hh = false)) := Lib.hid z1
      clear z1
      go_enter Tryz.func36, Tryz.ntmps36
      go_upto_region 1 with fail
      clear hw1 hbx
      go_wp2_with fail
      all_goals (go_returns; exact ⟨xret_bool (by first | rfl | (have := HB.out; cases hl <;> cases hh <;> simp_all)), KA.out⟩)
  · obtain rfl : k = ((hl || decide (lo = 0)) && (hh || decide (hi = 0))) := by
      have := HK.out
      cases k <;> cases hl <;> cases hh <;> simp_all
    clear HK
    cases hl
    · by_cases z1 : lo = 0
      · subst z1
        cases hh
        · by_cases z2 : hi = 0
          · subst z2
            go_enter Tryz.func36, Tryz.ntmps36
            go_upto_region 1 with fail
            clear hw1 hbx
            go_wp2_with fail
            go_returns
            exact ⟨rfl, KA.out⟩
          · have z3 : (hi == 0) = false := by simpa using z2
            go_enter Tryz.func36, Tryz.ntmps36
            go_upto_region 1 with fail
            clear hw1 hbx
            go_wp2_with fail
            go_returns
            exact ⟨xret_bool (by simp [z2]), KA.out⟩
        · go_enter Tryz.func36, Tryz.ntmps36
          go_upto_region 1 with fail
          clear hw1 hbx
          go_wp2_with fail
          go_returns
          exact ⟨rfl, KA.out⟩
      · have z3 : (lo == 0) = false := by simpa using z1
        go_enter Tryz.func36, Tryz.ntmps36
        go_upto_region 1 with fail
        clear hw1 hbx
        go_wp2_with fail
        go_returns
        exact ⟨xret_bool (by simp [z1]), KA.out⟩
    · cases hh
      · by_cases z2 : hi = 0
        · subst z2
          go_enter Tryz.func36, Tryz.ntmps36
          go_upto_region 1 with fail
          clear hw1 hbx
          go_wp2_with fail
          go_returns
          exact ⟨rfl, KA.out⟩
        · have z3 : (hi == 0) = false := by simpa using z2
          go_enter Tryz.func36, Tryz.ntmps36
          go_upto_region 1 with fail
          clear hw1 hbx
          go_wp2_with fail
          go_returns
          exact ⟨xret_bool (by simp [z2]), KA.out⟩
      · go_enter Tryz.func36, Tryz.ntmps36
        go_upto_region 1 with fail
        clear hw1 hbx
        go_wp2_with fail
        go_returns
        exact ⟨rfl, KA.out⟩
theorem prexpr_any (n : Nat) (v : Value) (x : Lx.Ex) (b : Bool) (w : World) (hT : Tabn w) (hE : ExAt w n v (tour x)) (k : Bool) (hk : k = true ↔ if b = true then RightL (tour x 1) else x = Lx.leaf []) :
    Calls Tryz.prog 34 #[v, .bool b] w fun e w' => e = .returned (.bool k) ∧ Below w.heap.size w w' := by
  obtain ⟨p, an, nn, nc, aa, ac, rfl, hh⟩ := hE.head
  obtain ⟨bx, hbx⟩ : ∃ z, w.heap.size = z := ⟨_, rfl⟩
  obtain ⟨w1, hw1⟩ : ∃ z, w.alloc (.cells #[.int .u8 p.op, .string p.nm, .slice an nn nc, .slice aa p.k ac] 25) = z := ⟨_, rfl⟩
  have KA : Hid (Below w.heap.size w w1) := Lib.hid (by rw [← hw1]; exact (Below.refl _ w).alloc (Nat.le_refl _) _)
  have HX : w1.heap[bx]? = some (.cells #[.int .u8 p.op, .string p.nm, .slice an nn nc, .slice aa p.k ac] 25 (0, 0)) := by rw [← hw1, ← hbx, al_new]
  have e0 := cell_blk HX 0
  have e1 := cell_blk HX 1
  have e2 := cell_blk HX 2
  have e3 := cell_blk HX 3
  cases b
  · have HS := Lib.hid (same_any n _ (tour x) 1 _ (tour (Lx.leaf [])) w1 (hE.keep KA.out) (ex_leaf' w1 [] (Nat.zero_le _)) k (by
      rw [hk, if_neg (by decide)]
      exact ⟨fun h => by rw [h], fun h => (tour_inj x (Lx.leaf []) 0 [] [] (by rw [h])).1⟩))
    clear HX hk hE hT hh
    go_enter Tryz.func34, Tryz.ntmps34
    go_upto_region 1 with fail
    clear hw1 hbx
    go_wp2_with fail
    (with_reducible refine HS.out.mono ?_)
    rintro e w2 ⟨rfl, q⟩
    go_wp2_with fail
    go_returns
    exact ⟨rfl, KA.out.trans (q.mono KA.out.size)⟩
  · have HS := Lib.hid (right_any n _ (tour x) w1 (hT.keep KA.out) (hE.keep KA.out) k (by rw [hk, if_pos rfl]))
    clear HX hk hE hT hh
    go_enter Tryz.func34, Tryz.ntmps34
    go_upto_region 1 with fail
    clear hw1 hbx
    go_wp2_with fail
    (with_reducible refine HS.out.mono ?_)
    rintro e w2 ⟨rfl, q⟩
    go_wp2_with fail
    go_returns
    exact ⟨rfl, KA.out.trans (q.mono KA.out.size)⟩

namespace Lx
def rgL (r : Rg) : List UInt8 := [91] ++ (if r.hl = true then Lib.itoa r.low else []) ++ [58] ++ (if r.hh = true then Lib.itoa r.high else []) ++ [93]
end Lx
theorem itoa_len {z : Int} (h : -9223372036854775808 ≤ z ∧ z ≤ 9223372036854775807) : (⟨(Lib.itoa z).toArray⟩ : ByteArray).size ≤ 21 := by
  rw [len_toArray]; exact Lib.itoa_length_le z h.1 h.2
theorem span_bytes (a b : ByteArray) (l m : List UInt8) (h1 : a.data.toList = l) (h2 : b.data.toList = m) : (⟨#[91]⟩ : ByteArray) ++ a ++ ⟨#[58]⟩ ++ b ++ ⟨#[93]⟩ = ⟨([91] ++ l ++ [58] ++ m ++ [93]).toArray⟩ := by
  subst h1 h2
  apply ByteArray.ext
  apply Array.ext'
  simp
theorem blk_below {w w' : World} {b : Nat} {o : Obj} (h : w.heap[b]? = some o) (q : Below w.heap.size w w') : w'.heap[b]? = some o := (q.block b (Array.getElem?_eq_some_iff.1 h).1).trans h
set_option maxHeartbeats 2000000 in
theorem pspan_any (r : Lx.Rg) (w : World) (hT : Tp w) (h1 : -9223372036854775808 ≤ r.low ∧ r.low ≤ 9223372036854775807) (h2 : -9223372036854775808 ≤ r.high ∧ r.high ≤ 9223372036854775807) :
    Calls Tryz.prog 32 #[.agg #[.int .i64 r.low, .int .i64 r.high, .bool r.hl, .bool r.hh]] w fun e w' => e = .returned (.string ⟨(Lx.rgL r).toArray⟩) ∧ Below w.heap.size w w' := by
  obtain ⟨lo, hi, hl, hh⟩ := r
  dsimp only at h1 h2 ⊢
  obtain ⟨bx, hbx⟩ : ∃ z, w.heap.size = z := ⟨_, rfl⟩
  obtain ⟨w1, hw1⟩ : ∃ z, w.alloc (.cells #[.int .i64 lo, .int .i64 hi, .bool hl, .bool hh] 40) = z := ⟨_, rfl⟩
  have KA : Hid (Below w.heap.size w w1) := Lib.hid (by rw [← hw1]; exact (Below.refl _ w).alloc (Nat.le_refl _) _)
  have HX : Hid (w1.heap[bx]? = some (.cells #[.int .i64 lo, .int .i64 hi, .bool hl, .bool hh] 40 (0, 0))) := Lib.hid (by rw [← hw1, ← hbx, al_new])
  have HL := Lib.hid (fun W (q : Below w.heap.size w W) => fmt_any lo h1.1 h1.2 W (hT.keep q))
  have HH := Lib.hid (fun W (q : Below w.heap.size w W) => fmt_any hi h2.1 h2.2 W (hT.keep q))
  have sl := itoa_len h1
  have sh := itoa_len h2
  have HEL : Hid ((⟨(Lib.itoa lo).toArray⟩ : ByteArray).data.toList = Lib.itoa lo) := Lib.hid (by simp)
  have HEH : Hid ((⟨(Lib.itoa hi).toArray⟩ : ByteArray).data.toList = Lib.itoa hi) := Lib.hid (by simp)
  unfold Lx.rgL
  dsimp only
  obtain ⟨bl, hbl⟩ : ∃ z : ByteArray, ⟨(Lib.itoa lo).toArray⟩ = z := ⟨_, rfl⟩
  obtain ⟨bh, hbh⟩ : ∃ z : ByteArray, ⟨(Lib.itoa hi).toArray⟩ = z := ⟨_, rfl⟩
  rw [hbl] at HL sl HEL
  rw [hbh] at HH sh HEH
  generalize Lib.itoa lo = tl at *
  generalize Lib.itoa hi = th at *
  clear hbl hbh hT h1 h2
  have e0 := cell_blk HX.out 0
  have e1 := cell_blk HX.out 1
  have e2 := cell_blk HX.out 2
  have e3 := cell_blk HX.out 3
  cases hl <;> cases hh
  · skip
    go_enter Tryz.func32, Tryz.ntmps32
    go_upto_region 1 with fail
    clear hw1 hbx
    go_wp2_with fail
    go_returns
    exact ⟨congrArg (fun z => Ending.returned (Value.string z)) ((span_bytes ⟨#[]⟩ ⟨#[]⟩ _ _ rfl rfl).trans (by first | rfl | simp)), KA.out⟩
  · skip
    go_enter Tryz.func32, Tryz.ntmps32
    go_upto_region 1 with fail
    clear hw1 hbx
    go_wp2_with fail
    (with_reducible refine (HH.out _ KA.out).mono ?_)
    rintro e w3 ⟨rfl, q⟩
    have KA := Lib.hid (KA.out.trans (q.mono KA.out.size))
    clear q e0 e1 e2 e3
    go_wp2_with fail
    go_returns
    exact ⟨congrArg (fun z => Ending.returned (Value.string z)) ((span_bytes ⟨#[]⟩ bh _ _ rfl HEH.out).trans (by first | rfl | simp)), KA.out⟩
  · skip
    go_enter Tryz.func32, Tryz.ntmps32
    go_upto_region 1 with fail
    clear hw1 hbx
    go_wp2_with fail
    (with_reducible refine (HL.out _ KA.out).mono ?_)
    rintro e w2 ⟨rfl, q⟩
    have HX := Lib.hid (blk_below HX.out q)
    have KA := Lib.hid (KA.out.trans (q.mono KA.out.size))
    clear q e0 e1 e2 e3
    have e0 := cell_blk HX.out 0
    have e1 := cell_blk HX.out 1
    have e2 := cell_blk HX.out 2
    have e3 := cell_blk HX.out 3
    go_wp2_with fail
    go_returns
    exact ⟨congrArg (fun z => Ending.returned (Value.string z)) ((span_bytes bl ⟨#[]⟩ _ _ HEL.out rfl).trans (by first | rfl | simp)), KA.out⟩
  · skip
    go_enter Tryz.func32, Tryz.ntmps32
    go_upto_region 1 with fail
    clear hw1 hbx
    go_wp2_with fail
    (with_reducible refine (HL.out _ KA.out).mono ?_)
    rintro e w2 ⟨rfl, q⟩
    have HX := Lib.hid (blk_below HX.out q)
    have KA := Lib.hid (KA.out.trans (q.mono KA.out.size))
    clear q e0 e1 e2 e3
    have e0 := cell_blk HX.out 0
    have e1 := cell_blk HX.out 1
    have e2 := cell_blk HX.out 2
    have e3 := cell_blk HX.out 3
    go_wp2_with fail
    (with_reducible refine (HH.out _ KA.out).mono ?_)
    rintro e w3 ⟨rfl, q⟩
    have KA := Lib.hid (KA.out.trans (q.mono KA.out.size))
    clear q e0 e1 e2 e3
    go_wp2_with fail
    go_returns
    exact ⟨congrArg (fun z => Ending.returned (Value.string z)) ((span_bytes bl bh _ _ HEL.out HEH.out).trans (by first | rfl | simp)), KA.out⟩

namespace Lx
/-- What a letter of a shape writes. -/
def letL (c : Cm) (x : UInt8) (a b : Nat) : List UInt8 :=
  if x = 110 then c.names.getD a [] else if x = 105 then Lib.itoa (c.nums.getD b 0) else if x = 101 then lineX c.ex else if x = 61 then [61] else rgL c.rg
def shL (c : Cm) : List UInt8 → Nat → Nat → List UInt8
  | [], _, _ => []
  | x :: r, a, b => ([32] ++ letL c x a b) ++ shL c r (a + upN x) (b + upI x)
def lineC (c : Cm) (sh : List UInt8) : List UInt8 := c.word ++ shL c sh 0 0
theorem shL_app (c : Cm) : ∀ (p q : List UInt8) (a b : Nat), shL c (p ++ q) a b = shL c p a b ++ shL c q (a + cN p) (b + cI p)
  | [], q, a, b => by simp [shL, cN, cI]
  | x :: r, q, a, b => by
    rw [List.cons_append, shL, shL, shL_app c r q, cN, cI]
    simp only [Nat.add_assoc, List.append_assoc]
theorem shL_step (c : Cm) (sh : List UInt8) (j : Nat) (h : j < sh.length) : shL c (sh.take (j + 1)) 0 0 = shL c (sh.take j) 0 0 ++ ([32] ++ letL c sh[j] (cN (sh.take j)) (cI (sh.take j))) := by
  rw [List.take_succ_eq_append_getElem h, shL_app]; simp [shL]
/-- How long. -/
theorem letL_len {c : Cm} {B : Nat} (hn : ∀ x ∈ c.names, x.length ≤ 30) (hm : ∀ z ∈ c.nums, -9223372036854775808 ≤ z ∧ z ≤ 9223372036854775807) (hr : (-9223372036854775808 ≤ c.rg.low ∧ c.rg.low ≤ 9223372036854775807) ∧ (-9223372036854775808 ≤ c.rg.high ∧ c.rg.high ≤ 9223372036854775807)) (x : UInt8) (hx : x = 101 → (lineX c.ex).length ≤ B) (a b : Nat) : (letL c x a b).length ≤ B + 100 := by
  unfold letL
  split
  · rw [List.getD_eq_getElem?_getD]
    cases e : c.names[a]? with
    | none => simp
    | some s => have := hn s (List.mem_of_getElem? e); simp; omega
  · split
    · rw [List.getD_eq_getElem?_getD]
      cases e : c.nums[b]? with
      | none => have := Lib.itoa_length_le 0 (by omega) (by omega); simp; omega
      | some z => have h := hm z (List.mem_of_getElem? e); have := Lib.itoa_length_le z h.1 h.2; simp; omega
    · split
      · rename_i e; have := hx e; omega
      · split
        · simp
        · have h1 := Lib.itoa_length_le c.rg.low hr.1.1 hr.1.2
          have h2 := Lib.itoa_length_le c.rg.high hr.2.1 hr.2.2
          unfold rgL
          simp only [List.length_append, List.length_cons, List.length_nil]
          split <;> split <;> simp <;> omega
theorem shL_len {c : Cm} {B : Nat} (hn : ∀ x ∈ c.names, x.length ≤ 30) (hm : ∀ z ∈ c.nums, -9223372036854775808 ≤ z ∧ z ≤ 9223372036854775807) (hr : (-9223372036854775808 ≤ c.rg.low ∧ c.rg.low ≤ 9223372036854775807) ∧ (-9223372036854775808 ≤ c.rg.high ∧ c.rg.high ≤ 9223372036854775807)) : ∀ (sh : List UInt8), (101 ∈ sh → (lineX c.ex).length ≤ B) → ∀ a b, (shL c sh a b).length ≤ (B + 101) * sh.length
  | [], _, a, b => by simp [shL]
  | x :: r, h, a, b => by
    have e1 := letL_len hn hm hr x (fun e => h (by rw [e]; exact List.mem_cons_self)) a b (B := B)
    have e2 := shL_len hn hm hr r (fun e => h (List.mem_cons_of_mem _ e)) (a + upN x) (b + upI x)
    rw [shL]
    simp only [List.length_append, List.length_cons, List.length_nil]
    rw [Nat.mul_add]
    omega
end Lx
end Go.Proofs.YtimjendkpjojoaaGreatDoor
