/- The chapter's examples (awake). -/
import Derived.Test.YtgealkflfmeicaaDoorE9
namespace Go.Proofs.YtgealkflfmeicaaDoor
set_option linter.unusedVariables false
set_option linter.unusedSimpArgs false
open Go.ChangeShapes Go.WideShapes Go.ChangeAt Go.RowKit
/-- A part without numbers of its own. -/
def pt0 (o : Int) (s : ByteArray) (nums : List Int) (k : Nat) : Pt := ⟨o, s, nums, k⟩
theorem nat_nil (w : World) : NAt w none 0 0 [] := ⟨rfl, Nat.le_refl _, Nat.zero_le _, fun _ => ⟨rfl, rfl⟩, fun h => absurd h (Nat.lt_irrefl _)⟩
/-- A name. -/
theorem ex_name (w : World) (o : Int) (s : ByteArray) (h0 : 0 ≤ o) (h1 : o ≤ 255) (hs : s.size ≤ maxLen) : ExAt w 1 (.agg #[.int .u8 o, .string s, .slice none 0 0, .slice none 0 0]) (fun d => [(pt0 o s [] 0, d)]) :=
  ⟨pt0 o s [] 0, none, 0, 0, none, 0, [], rfl, ⟨h0, h1, hs, nat_nil w, Nat.le_refl _, Nat.zero_le _, fun _ => ⟨rfl, rfl⟩⟩, rfl, rfl, fun h => absurd h (Nat.lt_irrefl _)⟩
/-- An operator over one. -/
theorem ex_one {w : World} {n : Nat} {o : Int} {an : Option Addr} {nn nc : Nat} {nums : List Int} (h0 : 0 ≤ o) (h1 : o ≤ 255) (hn : NAt w an nn nc nums) {b : Nat} {x0 x1 x2 x3 : Value} {F : Tour} (hb : w.heap[b]? = some (.cells #[x0, x1, x2, x3] 25 (0, 0))) (hx : ExAt w n (.agg #[x0, x1, x2, x3]) F) :
    ExAt w (n + 1) (.agg #[.int .u8 o, .string ⟨#[]⟩, .slice an nn nc, .slice (some ⟨b, 0, none⟩) 1 1]) (fun d => (pt0 o ⟨#[]⟩ nums 1, d) :: F (d + 1)) := by
  refine ⟨pt0 o ⟨#[]⟩ nums 1, an, nn, nc, some ⟨b, 0, none⟩, 1, [F], rfl, ⟨h0, h1, Nat.zero_le _, hn, Nat.le_refl _, by omega, fun e => by cases e⟩, rfl, funext fun d => by simp [flat], fun _ => ⟨b, 0, rfl, fun i hi => ?_⟩⟩
  have : i = 0 := by simp at hi; omega
  subst this
  exact ⟨x0, x1, x2, x3, cell_blk hb 0, cell_blk hb 1, cell_blk hb 2, cell_blk hb 3, hx⟩
/-- An operator over two. -/
theorem ex_two {w : World} {n : Nat} {o : Int} {an : Option Addr} {nn nc : Nat} {nums : List Int} (h0 : 0 ≤ o) (h1 : o ≤ 255) (hn : NAt w an nn nc nums) {b : Nat} {x0 x1 x2 x3 y0 y1 y2 y3 : Value} {F G : Tour} (hb : w.heap[b]? = some (.cells #[x0, x1, x2, x3, y0, y1, y2, y3] 25 (0, 0))) (hx : ExAt w n (.agg #[x0, x1, x2, x3]) F) (hy : ExAt w n (.agg #[y0, y1, y2, y3]) G) :
    ExAt w (n + 1) (.agg #[.int .u8 o, .string ⟨#[]⟩, .slice an nn nc, .slice (some ⟨b, 0, none⟩) 2 2]) (fun d => (pt0 o ⟨#[]⟩ nums 2, d) :: (F (d + 1) ++ G (d + 1))) := by
  refine ⟨pt0 o ⟨#[]⟩ nums 2, an, nn, nc, some ⟨b, 0, none⟩, 2, [F, G], rfl, ⟨h0, h1, Nat.zero_le _, hn, Nat.le_refl _, by omega, fun e => by cases e⟩, rfl, funext fun d => by simp [flat], fun _ => ⟨b, 0, rfl, fun i hi => ?_⟩⟩
  have : i = 0 ∨ i = 1 := by simp at hi; omega
  rcases this with rfl | rfl
  · exact ⟨x0, x1, x2, x3, cell_blk hb 0, cell_blk hb 1, cell_blk hb 2, cell_blk hb 3, hx⟩
  · exact ⟨y0, y1, y2, y3, cell_blk hb 4, cell_blk hb 5, cell_blk hb 6, cell_blk hb 7, hy⟩
theorem day_right : RName ⟨#[100, 97, 121]⟩ := by
  refine ⟨by decide, by decide, by decide, fun i hi => ?_⟩
  have : i = 0 ∨ i = 1 ∨ i = 2 := by have : i < 3 := hi; omega
  rcases this with rfl | rfl | rfl
  · exact .inr (.inr (.inl ⟨by show (97 : Int) ≤ ((100 : UInt8).toNat : Int); decide, by show ((100 : UInt8).toNat : Int) ≤ 122; decide⟩))
  · exact .inr (.inr (.inl ⟨by show (97 : Int) ≤ ((97 : UInt8).toNat : Int); decide, by show ((97 : UInt8).toNat : Int) ≤ 122; decide⟩))
  · exact .inr (.inr (.inl ⟨by show (97 : Int) ≤ ((121 : UInt8).toNat : Int); decide, by show ((121 : UInt8).toNat : Int) ≤ 122; decide⟩))
def F3 : Tour := fun d => (pt0 1 ⟨#[]⟩ [3] 1, d) :: [(pt0 0 ⟨#[100, 97, 121]⟩ [] 0, d + 1)]
def FB : Tour := fun d => (pt0 10 ⟨#[]⟩ [] 2, d) :: (F3 (d + 1) ++ [(pt0 0 ⟨#[100, 97, 121]⟩ [] 0, d + 1)])
theorem nStep_skip {l : List ByteArray} {p : Pt} {d : Int} (h : p.nm = ⟨#[]⟩) : nStep l p d = (l, true) := by unfold nStep; rw [if_pos (.inr h)]
theorem nStep_old {l : List ByteArray} {p : Pt} {d : Int} (h : p.nm ∈ l) : nStep l p d = (l, true) := by unfold nStep; rw [if_pos (.inl ((isIn_iff _ _).2 h))]
theorem nStep_add {l : List ByteArray} {p : Pt} {d : Int} (h : ¬ p.nm ∈ l) (h2 : ¬ p.nm = ⟨#[]⟩) : nStep l p d = (l ++ [p.nm], true) := by
  unfold nStep
  rw [if_neg (by rintro (q | q); exact h ((isIn_iff _ _).1 q); exact h2 q)]
theorem day_ne : ¬ (⟨#[100, 97, 121]⟩ : ByteArray) = ⟨#[]⟩ := by decide
theorem nms_F3 : nmsOf (F3 1) = [⟨#[100, 97, 121]⟩] := by
  show (run nStep [] [(pt0 1 ⟨#[]⟩ [3] 1, (1 : Int)), (pt0 0 ⟨#[100, 97, 121]⟩ [] 0, 1 + 1)]).1 = _
  rw [run_t (by rw [nStep_skip rfl]), nStep_skip rfl, run_t (by rw [nStep_add (by simp) day_ne]), nStep_add (by simp) day_ne]
  rfl
theorem nms_FB : nmsOf (FB 1) = [⟨#[100, 97, 121]⟩] := by
  show (run nStep [] [(pt0 10 ⟨#[]⟩ [] 2, (1 : Int)), (pt0 1 ⟨#[]⟩ [3] 1, 1 + 1), (pt0 0 ⟨#[100, 97, 121]⟩ [] 0, 1 + 1 + 1), (pt0 0 ⟨#[100, 97, 121]⟩ [] 0, 1 + 1)]).1 = _
  rw [run_t (by rw [nStep_skip rfl]), nStep_skip rfl, run_t (by rw [nStep_skip rfl]), nStep_skip rfl, run_t (by rw [nStep_add (by simp) day_ne]), nStep_add (by simp) day_ne, run_t (by rw [nStep_old (by simp [pt0])]), nStep_old (by simp [pt0])]
  rfl
theorem fit_day : FitP (pt0 0 ⟨#[100, 97, 121]⟩ [] 0) := ⟨by decide, by decide, by decide, by rw [if_pos (show (pt0 0 ⟨#[100, 97, 121]⟩ [] 0).op = 0 from rfl)]; exact day_right⟩
theorem right_F3 : RightL (F3 1) := by
  refine ⟨by decide, fun x hx => ?_⟩
  have hx : x ∈ [(pt0 1 ⟨#[]⟩ [3] 1, (1 : Int)), (pt0 0 ⟨#[100, 97, 121]⟩ [] 0, 1 + 1)] := hx
  rcases List.mem_cons.1 hx with rfl | hx
  · exact ⟨by decide, ⟨by decide, by decide, by decide, by rw [if_neg (by decide)]; rfl⟩⟩
  · rcases List.mem_cons.1 hx with rfl | hx
    · exact ⟨by decide, fit_day⟩
    · cases hx
/-- What the examples lay. -/
structure Aw (w0 w : World) (db tb bb nb ab cb : Nat) : Prop where
  bw : Below w0.heap.size w0 w
  tab : Tabn w
  day : w.heap[db]? = some (.cells #[.int .u8 0, .string ⟨#[100, 97, 121]⟩, .slice none 0 0, .slice none 0 0] 25 (0, 0))
  three : w.heap[tb]? = some (.cells #[.int .u8 1, .string ⟨#[]⟩, .slice (some ⟨nb, 0, none⟩) 1 1, .slice (some ⟨ab, 0, none⟩) 1 1] 25 (0, 0))
  both : w.heap[bb]? = some (.cells #[.int .u8 10, .string ⟨#[]⟩, .slice none 0 0, .slice (some ⟨cb, 0, none⟩) 2 2] 25 (0, 0))
  e3 : ExAt w 2 (.agg #[.int .u8 1, .string ⟨#[]⟩, .slice (some ⟨nb, 0, none⟩) 1 1, .slice (some ⟨ab, 0, none⟩) 1 1]) F3
  eb : ExAt w 3 (.agg #[.int .u8 10, .string ⟨#[]⟩, .slice none 0 0, .slice (some ⟨cb, 0, none⟩) 2 2]) FB
theorem Aw.keep {w0 w w' : World} {db tb bb nb ab cb : Nat} (h : Aw w0 w db tb bb nb ab cb) (q : Below w.heap.size w w') : Aw w0 w' db tb bb nb ab cb :=
  ⟨h.bw.trans (q.mono h.bw.size), h.tab.keep q, (q.block db (Array.getElem?_eq_some_iff.1 h.day).1).trans h.day, (q.block tb (Array.getElem?_eq_some_iff.1 h.three).1).trans h.three, (q.block bb (Array.getElem?_eq_some_iff.1 h.both).1).trans h.both, h.e3.keep q, h.eb.keep q⟩
set_option maxRecDepth 8000 in
set_option maxHeartbeats 4000000 in
theorem awake_any (w : World) (hT : Tabn w) : Calls Tryd.prog 7 #[] w fun e w' => e = .returned (.bool true) ∧ Below w.heap.size w w' := by
  have HT := Lib.hid hT
  clear hT
  go_enter Tryd.func7, Tryd.ntmps7
  go_wp2_with fail
  (with_reducible refine (named_any _ w).mono ?_)
  rintro e w1 ⟨rfl, hb⟩
  have HB := Lib.hid hb
  clear hb
  go_upto_region 2 with fail
  obtain ⟨db, hdb⟩ : ∃ z, w1.heap.size = z := ⟨_, rfl⟩
  obtain ⟨w2, hw2⟩ : ∃ z, w1.alloc (.cells #[.int .u8 0, .string ⟨#[100, 97, 121]⟩, .slice none 0 0, .slice none 0 0] 25) = z := ⟨_, rfl⟩
  have KA : Below w1.heap.size w1 w2 := by rw [← hw2]; exact (Below.refl _ w1).alloc (Nat.le_refl _) _
  have HD : Hid (w2.heap[db]? = some (.cells #[.int .u8 0, .string ⟨#[100, 97, 121]⟩, .slice none 0 0, .slice none 0 0] 25 (0, 0))) := Lib.hid (by rw [← hw2, ← hdb, al_new])
  have HB := Lib.hid (HB.out.trans (KA.mono HB.out.size))
  rw [hw2, hdb]
  clear hw2 hdb KA
  obtain ⟨nb, hnb⟩ : ∃ z, w2.heap.size = z := ⟨_, rfl⟩
  obtain ⟨wn, hwn⟩ : ∃ z, w2.alloc (.cells #[.int .i64 3] 2) = z := ⟨_, rfl⟩
  have KN : Below w2.heap.size w2 wn := by rw [← hwn]; exact (Below.refl _ w2).alloc (Nat.le_refl _) _
  have zn : wn.heap.size = nb + 1 := by rw [← hwn, ← hnb]; simp
  obtain ⟨ab, hab⟩ : ∃ z, wn.heap.size = z := ⟨_, rfl⟩
  obtain ⟨w3, hw3⟩ : ∃ z, wn.alloc (.cells #[.int .u8 0, .string ⟨#[100, 97, 121]⟩, .slice none 0 0, .slice none 0 0] 25) = z := ⟨_, rfl⟩
  have KM : Below wn.heap.size wn w3 := by rw [← hw3]; exact (Below.refl _ wn).alloc (Nat.le_refl _) _
  have KA : Below w2.heap.size w2 w3 := KN.trans (KM.mono KN.size)
  have HB := Lib.hid (HB.out.trans (KA.mono HB.out.size))
  have X1 : w3.heap[nb]? = some (.cells #[.int .i64 3] 2 (0, 0)) := by rw [← hw3, al_old _ _ (by omega), ← hwn, ← hnb, al_new]
  have X2 : w3.heap[ab]? = some (.cells #[.int .u8 0, .string ⟨#[100, 97, 121]⟩, .slice none 0 0, .slice none 0 0] 25 (0, 0)) := by rw [← hw3, ← hab, al_new]
  have hnum : NAt w3 (some ⟨nb, 0, none⟩) 1 1 [3] := ⟨rfl, Nat.le_refl _, by omega, (fun e => by cases e), fun _ => ⟨nb, 0, rfl, fun i hi => by
    have : i = 0 := by simp at hi; omega
    subst this
    exact ⟨cell_blk X1 0, by show (-9223372036854775808 : Int) ≤ 3; decide, by show (3 : Int) ≤ 9223372036854775807; decide⟩⟩⟩
  have HE3 : Hid (ExAt w3 2 (.agg #[.int .u8 1, .string ⟨#[]⟩, .slice (some ⟨nb, 0, none⟩) 1 1, .slice (some ⟨ab, 0, none⟩) 1 1]) F3) := Lib.hid (ex_one (by decide) (by decide) hnum X2 (ex_name w3 0 ⟨#[100, 97, 121]⟩ (by decide) (by decide) (by decide)))
  have e0 := cell_keep (cell_blk HD.out 0) KN
  have e1 := cell_keep (cell_blk HD.out 1) KN
  have e2 := cell_keep (cell_blk HD.out 2) KN
  have e3 := cell_keep (cell_blk HD.out 3) KN
  have HD := Lib.hid ((KA.block db (Array.getElem?_eq_some_iff.1 HD.out).1).trans HD.out)
  have HM := Lib.hid (made_any 1 (.slice (some ⟨nb, 0, none⟩) 1 1) (.slice (some ⟨ab, 0, none⟩) 1 1) w3 _ _ _ _ _ _ rfl rfl)
  clear X1 X2 hnum KA KN KM zn
  go_wp2_with fail
  (with_reducible refine HM.out.mono ?_)
  rintro e w4 ⟨rfl, q⟩
  clear e0 e1 e2 e3 HM hw3 hnb hwn hab
  have HB := Lib.hid (HB.out.trans (q.mono HB.out.size))
  have HD := Lib.hid ((q.block db (Array.getElem?_eq_some_iff.1 HD.out).1).trans HD.out)
  have HE3 := Lib.hid (HE3.out.keep q)
  clear q
  go_upto_region 3 with fail
  obtain ⟨tb, htb⟩ : ∃ z, w4.heap.size = z := ⟨_, rfl⟩
  obtain ⟨w5, hw5⟩ : ∃ z, w4.alloc (.cells #[.int .u8 1, .string ⟨#[]⟩, .slice (some ⟨nb, 0, none⟩) 1 1, .slice (some ⟨ab, 0, none⟩) 1 1] 25) = z := ⟨_, rfl⟩
  have KA : Below w4.heap.size w4 w5 := by rw [← hw5]; exact (Below.refl _ w4).alloc (Nat.le_refl _) _
  have HTB : Hid (w5.heap[tb]? = some (.cells #[.int .u8 1, .string ⟨#[]⟩, .slice (some ⟨nb, 0, none⟩) 1 1, .slice (some ⟨ab, 0, none⟩) 1 1] 25 (0, 0))) := Lib.hid (by rw [← hw5, ← htb, al_new])
  have HB := Lib.hid (HB.out.trans (KA.mono HB.out.size))
  have HD := Lib.hid ((KA.block db (Array.getElem?_eq_some_iff.1 HD.out).1).trans HD.out)
  have HE3 := Lib.hid (HE3.out.keep KA)
  rw [hw5, htb]
  clear hw5 htb KA
  obtain ⟨cb, hcb⟩ : ∃ z, w5.heap.size = z := ⟨_, rfl⟩
  obtain ⟨w6, hw6⟩ : ∃ z, w5.alloc (.cells #[.int .u8 1, .string ⟨#[]⟩, .slice (some ⟨nb, 0, none⟩) 1 1, .slice (some ⟨ab, 0, none⟩) 1 1, .int .u8 0, .string ⟨#[100, 97, 121]⟩, .slice none 0 0, .slice none 0 0] 25) = z := ⟨_, rfl⟩
  have KA : Below w5.heap.size w5 w6 := by rw [← hw6]; exact (Below.refl _ w5).alloc (Nat.le_refl _) _
  have X2 : w6.heap[cb]? = some (.cells #[.int .u8 1, .string ⟨#[]⟩, .slice (some ⟨nb, 0, none⟩) 1 1, .slice (some ⟨ab, 0, none⟩) 1 1, .int .u8 0, .string ⟨#[100, 97, 121]⟩, .slice none 0 0, .slice none 0 0] 25 (0, 0)) := by rw [← hw6, ← hcb, al_new]
  have HEB : Hid (ExAt w6 3 (.agg #[.int .u8 10, .string ⟨#[]⟩, .slice none 0 0, .slice (some ⟨cb, 0, none⟩) 2 2]) FB) := Lib.hid (ex_two (by decide) (by decide) (nat_nil w6) X2 (HE3.out.keep KA) ((ex_name w6 0 ⟨#[100, 97, 121]⟩ (by decide) (by decide) (by decide)).more (by decide)))
  have HB := Lib.hid (HB.out.trans (KA.mono HB.out.size))
  have e0 := cell_blk HD.out 0
  have e1 := cell_blk HD.out 1
  have e2 := cell_blk HD.out 2
  have e3 := cell_blk HD.out 3
  have f0 := cell_blk HTB.out 0
  have f1 := cell_blk HTB.out 1
  have f2 := cell_blk HTB.out 2
  have f3 := cell_blk HTB.out 3
  have HD := Lib.hid ((KA.block db (Array.getElem?_eq_some_iff.1 HD.out).1).trans HD.out)
  have HTB := Lib.hid ((KA.block tb (Array.getElem?_eq_some_iff.1 HTB.out).1).trans HTB.out)
  have HE3 := Lib.hid (HE3.out.keep KA)
  have HM := Lib.hid (made_any 10 (.slice none 0 0) (.slice (some ⟨cb, 0, none⟩) 2 2) w6 _ _ _ _ _ _ rfl rfl)
  clear X2 KA
  go_wp2_with fail
  (with_reducible refine HM.out.mono ?_)
  rintro e w7 ⟨rfl, q⟩
  clear e0 e1 e2 e3 f0 f1 f2 f3 HM hw6 hcb
  have HB := Lib.hid (HB.out.trans (q.mono HB.out.size))
  have HD := Lib.hid ((q.block db (Array.getElem?_eq_some_iff.1 HD.out).1).trans HD.out)
  have HTB := Lib.hid ((q.block tb (Array.getElem?_eq_some_iff.1 HTB.out).1).trans HTB.out)
  have HE3 := Lib.hid (HE3.out.keep q)
  have HEB := Lib.hid (HEB.out.keep q)
  clear q
  go_upto_region 4 with fail
  obtain ⟨bb, hbb⟩ : ∃ z, w7.heap.size = z := ⟨_, rfl⟩
  obtain ⟨w8, hw8⟩ : ∃ z, w7.alloc (.cells #[.int .u8 10, .string ⟨#[]⟩, .slice none 0 0, .slice (some ⟨cb, 0, none⟩) 2 2] 25) = z := ⟨_, rfl⟩
  have KA : Below w7.heap.size w7 w8 := by rw [← hw8]; exact (Below.refl _ w7).alloc (Nat.le_refl _) _
  have HBB : Hid (w8.heap[bb]? = some (.cells #[.int .u8 10, .string ⟨#[]⟩, .slice none 0 0, .slice (some ⟨cb, 0, none⟩) 2 2] 25 (0, 0))) := Lib.hid (by rw [← hw8, ← hbb, al_new])
  have HB := Lib.hid (HB.out.trans (KA.mono HB.out.size))
  have HD := Lib.hid ((KA.block db (Array.getElem?_eq_some_iff.1 HD.out).1).trans HD.out)
  have HTB := Lib.hid ((KA.block tb (Array.getElem?_eq_some_iff.1 HTB.out).1).trans HTB.out)
  have HE3 := Lib.hid (HE3.out.keep KA)
  have HEB := Lib.hid (HEB.out.keep KA)
  rw [hw8, hbb]
  clear hw8 hbb KA
  have HAW : Hid (Aw w w8 db tb bb nb ab cb) := Lib.hid ⟨HB.out, HT.out.keep HB.out, HD.out, HTB.out, HBB.out, HE3.out, HEB.out⟩
  clear HB HD HTB HBB HE3 HEB HT
  have HN : Hid (Calls Tryd.prog 8 #[.int .u8 4] w8 fun e w' => e = .returned (.tuple #[.int .i64 3, .bool true]) ∧ w8 = w') := Lib.hid (nums_in 4 w8 HAW.out.tab (by decide))
  go_wp2_with fail
  (with_reducible refine HN.out.mono ?_)
  rintro e w9 ⟨rfl, rfl⟩
  clear HN
  have HN : Hid (Calls Tryd.prog 8 #[.int .u8 13] w8 fun e w' => e = .returned (.tuple #[.int .i64 0, .bool false]) ∧ w8 = w') := Lib.hid (nums_out 13 w8 (by decide))
  go_wp2_with fail
  (with_reducible refine HN.out.mono ?_)
  rintro e w9 ⟨rfl, rfl⟩
  clear HN
  have e0 := cell_blk HAW.out.three 0
  have e1 := cell_blk HAW.out.three 1
  have e2 := cell_blk HAW.out.three 2
  have e3 := cell_blk HAW.out.three 3
  have HC : Hid (Calls Tryd.prog 12 #[.agg #[.int .u8 1, .string ⟨#[]⟩, .slice (some ⟨nb, 0, none⟩) 1 1, .slice (some ⟨ab, 0, none⟩) 1 1]] w8 fun e w' => e = .returned (.int .i64 2) ∧ Below w8.heap.size w8 w') := Lib.hid (count_any 2 (.agg #[.int .u8 1, .string ⟨#[]⟩, .slice (some ⟨nb, 0, none⟩) 1 1, .slice (some ⟨ab, 0, none⟩) 1 1]) F3 w8 HAW.out.e3 (by decide) (by decide))
  go_wp2_with fail
  (with_reducible refine HC.out.mono ?_)
  rintro e w21 ⟨rfl, q⟩
  have HAW := Lib.hid (HAW.out.keep q)
  clear q HC e0 e1 e2 e3
  have e0 := cell_blk HAW.out.three 0
  have e1 := cell_blk HAW.out.three 1
  have e2 := cell_blk HAW.out.three 2
  have e3 := cell_blk HAW.out.three 3
  have HC : Hid (Calls Tryd.prog 14 #[.agg #[.int .u8 1, .string ⟨#[]⟩, .slice (some ⟨nb, 0, none⟩) 1 1, .slice (some ⟨ab, 0, none⟩) 1 1]] w21 fun e w' => e = .returned (.int .i64 2) ∧ Below w21.heap.size w21 w') := Lib.hid (depth_any 2 (.agg #[.int .u8 1, .string ⟨#[]⟩, .slice (some ⟨nb, 0, none⟩) 1 1, .slice (some ⟨ab, 0, none⟩) 1 1]) F3 w21 HAW.out.e3 (by decide) (by decide))
  go_wp2_with fail
  (with_reducible refine HC.out.mono ?_)
  rintro e w22 ⟨rfl, q⟩
  have HAW := Lib.hid (HAW.out.keep q)
  clear q HC e0 e1 e2 e3
  have e0 := cell_blk HAW.out.three 0
  have e1 := cell_blk HAW.out.three 1
  have e2 := cell_blk HAW.out.three 2
  have e3 := cell_blk HAW.out.three 3
  have HC : Hid (Calls Tryd.prog 16 #[.agg #[.int .u8 1, .string ⟨#[]⟩, .slice (some ⟨nb, 0, none⟩) 1 1, .slice (some ⟨ab, 0, none⟩) 1 1]] w22 fun e w' => e = .returned (.bool true) ∧ Below w22.heap.size w22 w') := Lib.hid (right_any 2 (.agg #[.int .u8 1, .string ⟨#[]⟩, .slice (some ⟨nb, 0, none⟩) 1 1, .slice (some ⟨ab, 0, none⟩) 1 1]) F3 w22 HAW.out.tab HAW.out.e3 (by decide) (by decide) true ⟨fun _ => right_F3, fun _ => rfl⟩)
  go_wp2_with fail
  (with_reducible refine HC.out.mono ?_)
  rintro e w23 ⟨rfl, q⟩
  have HAW := Lib.hid (HAW.out.keep q)
  clear q HC e0 e1 e2 e3
  have e0 := cell_blk HAW.out.three 0
  have e1 := cell_blk HAW.out.three 1
  have e2 := cell_blk HAW.out.three 2
  have e3 := cell_blk HAW.out.three 3
  have HC := Lib.hid (names_any 2 (.agg #[.int .u8 1, .string ⟨#[]⟩, .slice (some ⟨nb, 0, none⟩) 1 1, .slice (some ⟨ab, 0, none⟩) 1 1]) F3 w23 HAW.out.e3 (by decide) (by decide))
  rw [show nmsOf (F3 1) = [⟨#[100, 97, 121]⟩] from nms_F3] at HC
  go_wp2_with fail
  (with_reducible refine HC.out.mono ?_)
  rintro e w24 ⟨v, rfl, HR, q⟩
  have HAW := Lib.hid (HAW.out.keep q.out)
  obtain ⟨ao, c, rfl, hs⟩ := own_st HR.out
  obtain ⟨sb, hsb⟩ : ∃ z, w24.heap.size = z := ⟨_, rfl⟩
  obtain ⟨w25, hw25⟩ : ∃ z, w24.alloc (.cells #[.string ⟨#[100, 97, 121]⟩] 9) = z := ⟨_, rfl⟩
  have KA : Below w24.heap.size w24 w25 := by rw [← hw25]; exact (Below.refl _ w24).alloc (Nat.le_refl _) _
  have HAW := Lib.hid (HAW.out.keep KA)
  have X : w25.heap[sb]? = some (.cells #[.string ⟨#[100, 97, 121]⟩] 9 (0, 0)) := by rw [← hw25, ← hsb, al_new]
  have HTX : Hid (Calls Tryd.prog 20 #[.slice ao 1 c, .slice (some ⟨sb, 0, none⟩) 1 1] w25 fun e w' => e = .returned (.bool true) ∧ Below w25.heap.size w25 w') := Lib.hid (texts_same ao (some ⟨sb, 0, none⟩) 1 c 1 [⟨#[100, 97, 121]⟩] w25 (hs.keep KA) ⟨rfl, Nat.le_refl _, by omega, (fun e => by cases e), fun _ => ⟨sb, rfl, fun i hi => by
    have : i = 0 := by simp at hi; omega
    subst this
    exact cell_blk X 0⟩⟩)
  clear X KA hs HR q HC e0 e1 e2 e3
  go_wp2_with fail
  (with_reducible refine HTX.out.mono ?_)
  rintro e w26 ⟨rfl, q⟩
  have HAW := Lib.hid (HAW.out.keep q)
  clear HTX q hw25 hsb
  have e0 := cell_blk HAW.out.both 0
  have e1 := cell_blk HAW.out.both 1
  have e2 := cell_blk HAW.out.both 2
  have e3 := cell_blk HAW.out.both 3
  have HC : Hid (Calls Tryd.prog 12 #[.agg #[.int .u8 10, .string ⟨#[]⟩, .slice none 0 0, .slice (some ⟨cb, 0, none⟩) 2 2]] w26 fun e w' => e = .returned (.int .i64 4) ∧ Below w26.heap.size w26 w') := Lib.hid (count_any 3 (.agg #[.int .u8 10, .string ⟨#[]⟩, .slice none 0 0, .slice (some ⟨cb, 0, none⟩) 2 2]) FB w26 HAW.out.eb (by decide) (by decide))
  go_wp2_with fail
  (with_reducible refine HC.out.mono ?_)
  rintro e w27 ⟨rfl, q⟩
  have HAW := Lib.hid (HAW.out.keep q)
  clear q HC e0 e1 e2 e3
  have e0 := cell_blk HAW.out.both 0
  have e1 := cell_blk HAW.out.both 1
  have e2 := cell_blk HAW.out.both 2
  have e3 := cell_blk HAW.out.both 3
  have HC : Hid (Calls Tryd.prog 14 #[.agg #[.int .u8 10, .string ⟨#[]⟩, .slice none 0 0, .slice (some ⟨cb, 0, none⟩) 2 2]] w27 fun e w' => e = .returned (.int .i64 3) ∧ Below w27.heap.size w27 w') := Lib.hid (depth_any 3 (.agg #[.int .u8 10, .string ⟨#[]⟩, .slice none 0 0, .slice (some ⟨cb, 0, none⟩) 2 2]) FB w27 HAW.out.eb (by decide) (by decide))
  go_wp2_with fail
  (with_reducible refine HC.out.mono ?_)
  rintro e w28 ⟨rfl, q⟩
  have HAW := Lib.hid (HAW.out.keep q)
  clear q HC e0 e1 e2 e3
  have e0 := cell_blk HAW.out.both 0
  have e1 := cell_blk HAW.out.both 1
  have e2 := cell_blk HAW.out.both 2
  have e3 := cell_blk HAW.out.both 3
  have HC := Lib.hid (names_any 3 (.agg #[.int .u8 10, .string ⟨#[]⟩, .slice none 0 0, .slice (some ⟨cb, 0, none⟩) 2 2]) FB w28 HAW.out.eb (by decide) (by decide))
  rw [show nmsOf (FB 1) = [⟨#[100, 97, 121]⟩] from nms_FB] at HC
  go_wp2_with fail
  (with_reducible refine HC.out.mono ?_)
  rintro e w29 ⟨v, rfl, HR, q⟩
  have HAW := Lib.hid (HAW.out.keep q.out)
  obtain ⟨ao, c, rfl, hs⟩ := own_st HR.out
  obtain ⟨sb, hsb⟩ : ∃ z, w29.heap.size = z := ⟨_, rfl⟩
  obtain ⟨w30, hw30⟩ : ∃ z, w29.alloc (.cells #[.string ⟨#[100, 97, 121]⟩] 9) = z := ⟨_, rfl⟩
  have KA : Below w29.heap.size w29 w30 := by rw [← hw30]; exact (Below.refl _ w29).alloc (Nat.le_refl _) _
  have HAW := Lib.hid (HAW.out.keep KA)
  have X : w30.heap[sb]? = some (.cells #[.string ⟨#[100, 97, 121]⟩] 9 (0, 0)) := by rw [← hw30, ← hsb, al_new]
  have HTX : Hid (Calls Tryd.prog 20 #[.slice ao 1 c, .slice (some ⟨sb, 0, none⟩) 1 1] w30 fun e w' => e = .returned (.bool true) ∧ Below w30.heap.size w30 w') := Lib.hid (texts_same ao (some ⟨sb, 0, none⟩) 1 c 1 [⟨#[100, 97, 121]⟩] w30 (hs.keep KA) ⟨rfl, Nat.le_refl _, by omega, (fun e => by cases e), fun _ => ⟨sb, rfl, fun i hi => by
    have : i = 0 := by simp at hi; omega
    subst this
    exact cell_blk X 0⟩⟩)
  clear X KA hs HR q HC e0 e1 e2 e3
  go_wp2_with fail
  (with_reducible refine HTX.out.mono ?_)
  rintro e w31 ⟨rfl, q⟩
  have HAW := Lib.hid (HAW.out.keep q)
  clear HTX q hw30 hsb
  have e0 := cell_blk HAW.out.day 0
  have e1 := cell_blk HAW.out.day 1
  have e2 := cell_blk HAW.out.day 2
  have e3 := cell_blk HAW.out.day 3
  obtain ⟨ab2, hab2⟩ : ∃ z, w31.heap.size = z := ⟨_, rfl⟩
  obtain ⟨wa, hwa⟩ : ∃ z, w31.alloc (.cells #[.int .u8 0, .string ⟨#[100, 97, 121]⟩, .slice none 0 0, .slice none 0 0] 25) = z := ⟨_, rfl⟩
  have KA : Below w31.heap.size w31 wa := by rw [← hwa]; exact (Below.refl _ w31).alloc (Nat.le_refl _) _
  have HAW := Lib.hid (HAW.out.keep KA)
  have X : wa.heap[ab2]? = some (.cells #[.int .u8 0, .string ⟨#[100, 97, 121]⟩, .slice none 0 0, .slice none 0 0] 25 (0, 0)) := by rw [← hwa, ← hab2, al_new]
  have HE := Lib.hid (ex_one (o := 1) (by decide) (by decide) (nat_nil wa) X (ex_name wa 0 ⟨#[100, 97, 121]⟩ (by decide) (by decide) (by decide)))
  have HM := Lib.hid (made_any 1 (.slice none 0 0) (.slice (some ⟨ab2, 0, none⟩) 1 1) wa _ _ _ _ _ _ rfl rfl)
  clear X KA
  go_wp2_with fail
  (with_reducible refine HM.out.mono ?_)
  rintro e wb ⟨rfl, q⟩
  have HAW := Lib.hid (HAW.out.keep q)
  have HE := Lib.hid (HE.out.keep q)
  clear q HM hwa hab2 e0 e1 e2 e3
  have HC := Lib.hid (right_any 2 _ _ wb HAW.out.tab HE.out (by decide) (by decide) false ⟨fun h => (by cases h), fun h => absurd (h.2 (pt0 1 ⟨#[]⟩ [] 1, 1) (List.mem_cons_self ..)).2.nums (by decide)⟩)
  go_wp2_with fail
  (with_reducible refine HC.out.mono ?_)
  rintro e wc ⟨rfl, q⟩
  have HAW := Lib.hid (HAW.out.keep q)
  clear q HC HE
  have HM := Lib.hid (named_any ⟨#[57, 97]⟩ wc)
  go_wp2_with fail
  (with_reducible refine HM.out.mono ?_)
  rintro e wda ⟨rfl, q⟩
  have HAW := Lib.hid (HAW.out.keep q)
  clear q HM
  have HC := Lib.hid (right_any 1 _ _ wda HAW.out.tab (ex_name wda 0 ⟨#[57, 97]⟩ (by decide) (by decide) (by decide)) (by decide) (by decide) false ⟨fun h => (by cases h), fun h => absurd (show (48 : Int) ≤ ((57 : UInt8).toNat : Int) ∧ ((57 : UInt8).toNat : Int) ≤ 57 by decide) (show RName ⟨#[57, 97]⟩ from (h.2 (pt0 0 ⟨#[57, 97]⟩ [] 0, 1) (List.mem_cons_self ..)).2.name).first⟩)
  go_wp2_with fail
  (with_reducible refine HC.out.mono ?_)
  rintro e wd ⟨rfl, q⟩
  have HAW := Lib.hid (HAW.out.keep q)
  clear q HC
  have HM := Lib.hid (named_any ⟨#[]⟩ wd)
  go_wp2_with fail
  (with_reducible refine HM.out.mono ?_)
  rintro e wea ⟨rfl, q⟩
  have HAW := Lib.hid (HAW.out.keep q)
  clear q HM
  have HC := Lib.hid (right_any 1 _ _ wea HAW.out.tab (ex_name wea 0 ⟨#[]⟩ (by decide) (by decide) (by decide)) (by decide) (by decide) false ⟨fun h => (by cases h), fun h => absurd (show RName ⟨#[]⟩ from (h.2 (pt0 0 ⟨#[]⟩ [] 0, 1) (List.mem_cons_self ..)).2.name).lo (by decide)⟩)
  go_wp2_with fail
  (with_reducible refine HC.out.mono ?_)
  rintro e we ⟨rfl, q⟩
  have HAW := Lib.hid (HAW.out.keep q)
  clear q HC
  have HN : Hid (Calls Tryd.prog 10 #[.int .u8 2] we fun e w' => e = .returned (.int .i64 1) ∧ we = w') := Lib.hid (args_in 2 we HAW.out.tab (by decide))
  go_wp2_with fail
  (with_reducible refine HN.out.mono ?_)
  rintro e wf ⟨rfl, rfl⟩
  clear HN
  go_wp2
  go_returns
  exact ⟨rfl, HAW.out.bw⟩
end Go.Proofs.YtgealkflfmeicaaDoor
