/- X12 in one. -/
import Derived.Test.YtimjendkpjojoaaGreatDoorKt
namespace Go.Proofs.YtimjendkpjojoaaGreatDoor
set_option linter.unusedVariables false
set_option linter.unusedSimpArgs false
open Go.ChangeShapes Go.WideShapes Go.ChangeAt Go.RowKit

structure AwP (w0 W : World) (r1 r2 bt : Nat) : Prop where
  bw : Below w0.heap.size w0 W
  h1 : W.heap[r1]? = some (.cells #[.int .i64 3] 2 (0, 0))
  h2 : W.heap[r2]? = some (.cells #[.int .u8 0, .string ⟨#[100, 97, 121]⟩, .slice none 0 0, .slice none 0 0] 25 (0, 0))
  hb : W.heap[bt]? = some (.cells #[.int .u8 1, .string ⟨#[]⟩, .slice (some ⟨r1, 0, none⟩) 1 1, .slice (some ⟨r2, 0, none⟩) 1 1] 25 (0, 0))
theorem AwP.keep {w0 W W' : World} {r1 r2 bt : Nat} (h : AwP w0 W r1 r2 bt) (q : Below W.heap.size W W') : AwP w0 W' r1 r2 bt := ⟨h.bw.trans (q.mono h.bw.size), blk_below h.h1 q, blk_below h.h2 q, blk_below h.hb q⟩
theorem nat_one {w : World} {b : Nat} {x : Int} (h : w.heap[b]? = some (.cells #[.int .i64 x] 2 (0, 0))) (hx : -9223372036854775808 ≤ x ∧ x ≤ 9223372036854775807) : NAt w (some ⟨b, 0, none⟩) 1 1 [x] :=
  ⟨rfl, Nat.le_refl _, by omega, (fun e => by cases e), fun _ => ⟨b, 0, rfl, fun i hi => by
    have : i = 0 := by simp at hi; omega
    subst this
    exact ⟨cell_blk h 0, hx⟩⟩⟩
theorem AwP.ex {w0 W : World} {r1 r2 bt : Nat} (h : AwP w0 W r1 r2 bt) : ExAt W 2 (.agg #[.int .u8 1, .string ⟨#[]⟩, .slice (some ⟨r1, 0, none⟩) 1 1, .slice (some ⟨r2, 0, none⟩) 1 1]) (tour X3) := by
  have xb := ex_name W 0 ⟨#[100, 97, 121]⟩ (by decide) (by decide) (by decide)
  have := ex_one (o := 1) (by decide) (by decide) (nat_one h.h1 (by decide)) h.h2 xb
  have e : tour X3 = fun d => (pt0 1 ⟨#[]⟩ [3] 1, d) :: (fun d => [(pt0 0 ⟨#[100, 97, 121]⟩ [] 0, d)]) (d + 1) := by
    funext d
    unfold X3 XD
    simp [tour, tours, pt0]
  rw [e]
  exact this
theorem sat_lit {w : World} {b : Nat} {l : List ByteArray} {cs : Array Value} (h : w.heap[b]? = some (.cells cs 9 (0, 0))) (hc : cs = (l.map Value.string).toArray) (hn : l.length ≤ 1000) : SAt w (some ⟨b, 0, none⟩) l.length l.length l :=
  ⟨rfl, Nat.le_refl _, by omega, fun _ => ⟨b, 0, rfl, fun i hi => by
    rw [Nat.zero_add, cell_blk h, hc]; simp [hi]⟩⟩
theorem sat_nil (w : World) : SAt w none 0 0 [] := ⟨rfl, Nat.le_refl _, Nat.zero_le _, fun h => absurd h (Nat.lt_irrefl _)⟩
theorem leaf_ex (w : World) : ExAt w 2 (hV ⟨⟨0, ⟨#[]⟩, [], 0⟩, none, 0, 0, none, 0⟩) (tour (Lx.leaf [])) := (ex_leaf' w [] (Nat.zero_le _)).more (by omega)
theorem cmd1_any (w : World) (hT : Tp w) (rn : Nat) (h : w.heap[rn]? = some (.cells #[.string ⟨#[120]⟩, .string ⟨#[121]⟩, .string ⟨#[100, 97, 121]⟩] 9 (0, 0))) :
    Calls Tryz.prog 12 #[.agg #[.string ⟨#[98, 111, 117, 110, 100]⟩, .slice (some ⟨rn, 0, none⟩) 3 3, .slice none 0 0, .int .i64 1, .int .i64 0, .bool true, .bool false, .int .u8 0, .string ⟨#[]⟩, .slice none 0 0, .slice none 0 0]] w fun e w' => e = .returned (.tuple #[.string ⟨#[98, 111, 117, 110, 100, 32, 120, 32, 121, 32, 100, 97, 121, 32, 91, 49, 58, 93]⟩, .int .i64 0]) ∧ Below w.heap.size w w' := by
  have := pcmd_any w 2 C1 ⟨⟨#[98, 111, 117, 110, 100]⟩, some ⟨rn, 0, none⟩, 3, 3, none, 0, 0, 1, 0, true, false, ⟨⟨0, ⟨#[]⟩, [], 0⟩, none, 0, 0, none, 0⟩⟩ hT ⟨rfl, sat_lit (l := [⟨#[120]⟩, ⟨#[121]⟩, ⟨#[100, 97, 121]⟩]) h rfl (by decide), nat_nil w, rfl, leaf_ex w⟩ (by decide) (by decide) (by decide) true ⟨fun _ => right_C1, fun _ => rfl⟩
  rw [line_C1] at this
  exact this
theorem cmd2_any (w0 w : World) (hT : Tp w) (r1 r2 bt rn : Nat) (hA : AwP w0 w r1 r2 bt) (h : w.heap[rn]? = some (.cells #[.string ⟨#[97]⟩] 9 (0, 0))) :
    Calls Tryz.prog 12 #[.agg #[.string ⟨#[100, 101, 102, 105, 110, 101]⟩, .slice (some ⟨rn, 0, none⟩) 1 1, .slice none 0 0, .int .i64 0, .int .i64 0, .bool false, .bool false, .int .u8 1, .string ⟨#[]⟩, .slice (some ⟨r1, 0, none⟩) 1 1, .slice (some ⟨r2, 0, none⟩) 1 1]] w fun e w' => e = .returned (.tuple #[.string ⟨#[100, 101, 102, 105, 110, 101, 32, 97, 32, 61, 32, 103, 114, 111, 117, 112, 40, 51, 44, 32, 100, 97, 121, 41]⟩, .int .i64 0]) ∧ Below w.heap.size w w' := by
  have := pcmd_any w 2 C2 ⟨⟨#[100, 101, 102, 105, 110, 101]⟩, some ⟨rn, 0, none⟩, 1, 1, none, 0, 0, 0, 0, false, false, ⟨⟨1, ⟨#[]⟩, [3], 1⟩, some ⟨r1, 0, none⟩, 1, 1, some ⟨r2, 0, none⟩, 1⟩⟩ hT ⟨rfl, sat_lit (l := [⟨#[97]⟩]) h rfl (by decide), nat_nil w, rfl, hA.ex⟩ (by decide) (by decide) (by decide) true ⟨fun _ => right_C2, fun _ => rfl⟩
  rw [line_C2] at this
  exact this
theorem cmd3_any (w : World) (hT : Tp w) :
    Calls Tryz.prog 12 #[.agg #[.string ⟨#[110, 101, 116]⟩, .slice none 0 0, .slice none 0 0, .int .i64 0, .int .i64 0, .bool false, .bool false, .int .u8 0, .string ⟨#[]⟩, .slice none 0 0, .slice none 0 0]] w fun e w' => e = .returned (.tuple #[.string ⟨#[110, 101, 116]⟩, .int .i64 0]) ∧ Below w.heap.size w w' := by
  have := pcmd_any w 2 C3 ⟨⟨#[110, 101, 116]⟩, none, 0, 0, none, 0, 0, 0, 0, false, false, ⟨⟨0, ⟨#[]⟩, [], 0⟩, none, 0, 0, none, 0⟩⟩ hT ⟨rfl, sat_nil w, nat_nil w, rfl, leaf_ex w⟩ (by decide) (by decide) (by decide) true ⟨fun _ => right_C3, fun _ => rfl⟩
  rw [line_C3] at this
  exact this
theorem cmd4_any (w : World) (hT : Tp w) :
    Calls Tryz.prog 12 #[.agg #[.string ⟨#[115, 104, 111, 119]⟩, .slice none 0 0, .slice none 0 0, .int .i64 0, .int .i64 0, .bool false, .bool false, .int .u8 0, .string ⟨#[]⟩, .slice none 0 0, .slice none 0 0]] w fun e w' => e = .returned (.tuple #[.string ⟨#[]⟩, .int .i64 110]) ∧ Below w.heap.size w w' := by
  exact pcmd_any w 2 C4 ⟨⟨#[115, 104, 111, 119]⟩, none, 0, 0, none, 0, 0, 0, 0, false, false, ⟨⟨0, ⟨#[]⟩, [], 0⟩, none, 0, 0, none, 0⟩⟩ hT ⟨rfl, sat_nil w, nat_nil w, rfl, leaf_ex w⟩ (by decide) (by decide) (by decide) false ⟨(fun h => by cases h), fun h => absurd h wrong_C4⟩
theorem ex3_any (w0 w : World) (hT : Tp w) (r1 r2 bt : Nat) (hA : AwP w0 w r1 r2 bt) :
    Calls Tryz.prog 7 #[.agg #[.int .u8 1, .string ⟨#[]⟩, .slice (some ⟨r1, 0, none⟩) 1 1, .slice (some ⟨r2, 0, none⟩) 1 1]] w fun e w' => e = .returned (.tuple #[.string ⟨#[103, 114, 111, 117, 112, 40, 51, 44, 32, 100, 97, 121, 41]⟩, .int .i64 0]) ∧ Below w.heap.size w w' := by
  have := pexpr_any 2 _ X3 w hT hA.ex true ⟨fun _ => right_X3, fun _ => rfl⟩
  rw [line_X3] at this
  exact this
set_option maxRecDepth 8000 in
set_option maxHeartbeats 4000000 in
theorem awake_any (w : World) (hT : Tp w) : Calls Tryz.prog 6 #[] w fun e w' => e = .returned (.bool true) ∧ Below w.heap.size w w' := by
  have HT := Lib.hid (fun W (q : Below w.heap.size w W) => hT.keep q)
  obtain ⟨r1, hr1⟩ : ∃ y, w.heap.size = y := ⟨_, rfl⟩
  obtain ⟨w1, hw1⟩ : ∃ y, w.alloc (.cells #[.int .i64 3] 2) = y := ⟨_, rfl⟩
  have K1 : Hid (Below w.heap.size w w1) := Lib.hid (by rw [← hw1]; exact (Below.refl _ w).alloc (Nat.le_refl _) _)
  have H1 : Hid (w1.heap[r1]? = some (.cells #[.int .i64 3] 2 (0, 0))) := Lib.hid (by rw [← hw1, ← hr1, al_new])
  have HN := Lib.hid (named_any ⟨#[100, 97, 121]⟩ w1)
  clear hT
  go_enter Tryz.func6, Tryz.ntmps6
  go_wp2_with fail
  clear hw1 hr1
  (with_reducible refine HN.out.mono ?_)
  rintro e w2 ⟨rfl, q⟩
  have H1 := Lib.hid (blk_below H1.out q)
  have K1 := Lib.hid (K1.out.trans (q.mono K1.out.size))
  clear q HN
  obtain ⟨r2, hr2⟩ : ∃ y, w2.heap.size = y := ⟨_, rfl⟩
  obtain ⟨w3, hw3⟩ : ∃ y, w2.alloc (.cells #[.int .u8 0, .string ⟨#[100, 97, 121]⟩, .slice none 0 0, .slice none 0 0] 25) = y := ⟨_, rfl⟩
  have KA : Below w2.heap.size w2 w3 := by rw [← hw3]; exact (Below.refl _ w2).alloc (Nat.le_refl _) _
  have H2 : Hid (w3.heap[r2]? = some (.cells #[.int .u8 0, .string ⟨#[100, 97, 121]⟩, .slice none 0 0, .slice none 0 0] 25 (0, 0))) := Lib.hid (by rw [← hw3, ← hr2, al_new])
  have H1 := Lib.hid (blk_below H1.out KA)
  have K1 := Lib.hid (K1.out.trans (KA.mono K1.out.size))
  have HM := Lib.hid (made_any 1 (.slice (some ⟨r1, 0, none⟩) 1 1) (.slice (some ⟨r2, 0, none⟩) 1 1) w3 _ _ _ _ _ _ rfl rfl)
  clear KA
  go_wp2_with fail
  clear hw3 hr2
  (with_reducible refine HM.out.mono ?_)
  rintro e w4 ⟨rfl, q⟩
  have H1 := Lib.hid (blk_below H1.out q)
  have H2 := Lib.hid (blk_below H2.out q)
  have K1 := Lib.hid (K1.out.trans (q.mono K1.out.size))
  clear q HM
  obtain ⟨bt, hbt⟩ : ∃ y, w4.heap.size = y := ⟨_, rfl⟩
  obtain ⟨w5, hw5⟩ : ∃ y, w4.alloc (.cells #[.int .u8 1, .string ⟨#[]⟩, .slice (some ⟨r1, 0, none⟩) 1 1, .slice (some ⟨r2, 0, none⟩) 1 1] 25) = y := ⟨_, rfl⟩
  have KA : Below w4.heap.size w4 w5 := by rw [← hw5]; exact (Below.refl _ w4).alloc (Nat.le_refl _) _
  have HA : Hid (AwP w w5 r1 r2 bt) := Lib.hid ⟨K1.out.trans (KA.mono K1.out.size), blk_below H1.out KA, blk_below H2.out KA, by rw [← hw5, ← hbt, al_new]⟩
  clear KA K1 H1 H2
  have HX := Lib.hid (ex3_any w w5 (HT.out _ HA.out.bw) r1 r2 bt HA.out)
  go_upto_region 2 with fail
  clear hw5 hbt
  have e0 := cell_blk HA.out.hb 0
  have e1 := cell_blk HA.out.hb 1
  have e2 := cell_blk HA.out.hb 2
  have e3 := cell_blk HA.out.hb 3
  go_wp2_with fail
  (with_reducible refine HX.out.mono ?_)
  rintro e w6 ⟨rfl, q⟩
  have HA := Lib.hid (HA.out.keep q)
  clear q HX e0 e1 e2 e3
  obtain ⟨rn, hrn⟩ : ∃ y, w6.heap.size = y := ⟨_, rfl⟩
  obtain ⟨w7, hw7⟩ : ∃ y, w6.alloc (.cells #[.string ⟨#[120]⟩, .string ⟨#[121]⟩, .string ⟨#[100, 97, 121]⟩] 9) = y := ⟨_, rfl⟩
  have KA : Below w6.heap.size w6 w7 := by rw [← hw7]; exact (Below.refl _ w6).alloc (Nat.le_refl _) _
  have HR : w7.heap[rn]? = some (.cells #[.string ⟨#[120]⟩, .string ⟨#[121]⟩, .string ⟨#[100, 97, 121]⟩] 9 (0, 0)) := by rw [← hw7, ← hrn, al_new]
  have HA := Lib.hid (HA.out.keep KA)
  have HX := Lib.hid (cmd1_any w7 (HT.out _ HA.out.bw) rn HR)
  clear KA HR
  go_wp2_with fail
  clear hw7 hrn
  (with_reducible refine HX.out.mono ?_)
  rintro e w8 ⟨rfl, q⟩
  have HA := Lib.hid (HA.out.keep q)
  clear q HX
  obtain ⟨rn, hrn⟩ : ∃ y, w8.heap.size = y := ⟨_, rfl⟩
  obtain ⟨w9, hw9⟩ : ∃ y, w8.alloc (.cells #[.string ⟨#[97]⟩] 9) = y := ⟨_, rfl⟩
  have KA : Below w8.heap.size w8 w9 := by rw [← hw9]; exact (Below.refl _ w8).alloc (Nat.le_refl _) _
  have HR : w9.heap[rn]? = some (.cells #[.string ⟨#[97]⟩] 9 (0, 0)) := by rw [← hw9, ← hrn, al_new]
  have HA := Lib.hid (HA.out.keep KA)
  have HX := Lib.hid (cmd2_any w w9 (HT.out _ HA.out.bw) r1 r2 bt rn HA.out HR)
  clear KA HR
  have e0 := cell_blk HA.out.hb 0
  have e1 := cell_blk HA.out.hb 1
  have e2 := cell_blk HA.out.hb 2
  have e3 := cell_blk HA.out.hb 3
  go_wp2_with fail
  clear hw9 hrn
  (with_reducible refine HX.out.mono ?_)
  rintro e w10 ⟨rfl, q⟩
  have HA := Lib.hid (HA.out.keep q)
  clear q HX e0 e1 e2 e3
  have HX := Lib.hid (cmd3_any w10 (HT.out _ HA.out.bw))
  go_wp2_with fail
  (with_reducible refine HX.out.mono ?_)
  rintro e w11 ⟨rfl, q⟩
  have HA := Lib.hid (HA.out.keep q)
  clear q HX
  have HX := Lib.hid (cmd4_any w11 (HT.out _ HA.out.bw))
  go_wp2_with fail
  (with_reducible refine HX.out.mono ?_)
  rintro e w12 ⟨rfl, q⟩
  have HA := Lib.hid (HA.out.keep q)
  clear q HX
  go_wp2_with fail
  go_returns
  exact ⟨rfl, HA.out.bw⟩
end Go.Proofs.YtimjendkpjojoaaGreatDoor
