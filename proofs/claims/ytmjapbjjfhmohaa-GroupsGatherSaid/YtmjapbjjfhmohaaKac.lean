/- N3 in one. -/
import Derived.Test.YtmjapbjjfhmohaaKz
namespace Go.Proofs.Ytmjapbjjfhmohaa
set_option linter.unusedVariables false
set_option linter.unusedSimpArgs false
open Go.ChangeShapes Go.WideShapes Go.ChangeAt Go.RowKit Go.Shelf

theorem group_bad (F : Fv) (m : Int) (w : World) (hF : F.At w) (hm : ¬ (1 ≤ m ∧ m ≤ 6000)) : Calls Try.prog 8 #[F.v, .int .i64 m] w fun e w' => e = .returned (.tuple #[.agg #[.int .i64 0, .int .i64 0, .slice none 0 0, .slice none 0 0], .int .i64 2]) ∧ Hid (Below w.heap.size w w') := by
  obtain ⟨P, N, co, cn, cc, oo, on, oc, cs, os⟩ := F
  clear hF
  obtain ⟨b, hb⟩ : ∃ b, w.heap.size = b := ⟨_, rfl⟩
  obtain ⟨r, hr'⟩ : ∃ z, b + 1 = z := ⟨_, rfl⟩
  obtain ⟨wb, hwb⟩ : ∃ z, ((w.alloc (.cells #[.int .i64 P, .int .i64 N, .slice co cn cc, .slice oo on oc] 25)).alloc (.cells #[.int .i64 0, .int .i64 0, .slice none 0 0, .slice none 0 0] 25)) = z := ⟨_, rfl⟩
  have KB : Hid (Below w.heap.size w wb) := Lib.hid (by rw [← hwb]; exact ((Below.refl _ w).alloc (Nat.le_refl _) _).alloc (by simp) _)
  have B0 : Hid (wb.heap[b]? = some (.cells #[.int .i64 P, .int .i64 N, .slice co cn cc, .slice oo on oc] 25 (0, 0))) := Lib.hid (by rw [← hwb]; exact (Below.heap_alloc _ _ _ (by simp; omega)).trans (heap_at hb))
  have B1 : Hid (wb.heap[r]? = some (.cells #[.int .i64 0, .int .i64 0, .slice none 0 0, .slice none 0 0] 25 (0, 0))) := Lib.hid (by rw [← hwb]; exact heap_at (by simp; omega))
  have HRD : Hid (w.heap.size ≤ b ∧ b < r) := Lib.hid (by omega)
  have HX := Lib.hid hwb
  have HX0 := Lib.hid hb
  have HX1 := Lib.hid hr'
  clear hwb hb hr'
  show Calls Try.prog 8 #[.agg #[.int .i64 P, .int .i64 N, .slice co cn cc, .slice oo on oc], .int .i64 m] w _
  go_enter Try.func8, Try.ntmps8
  go_upto_region 1 with fail
  try rw [HX.out]
  try rw [HX0.out]
  try rw [HX1.out]
  clear HX HX0 HX1
  have r0 := cell_block B1.out 0
  have r1 := cell_block B1.out 1
  have r2 := cell_block B1.out 2
  have r3 := cell_block B1.out 3
  have f0 := free_blk B1.out 0
  have f1 := free_blk B1.out 1
  have f2 := free_blk B1.out 2
  have f3 := free_blk B1.out 3
  by_cases m1 : m < 1
  · clear hm
    go_wp2_with fail
    have RP := Lib.hid (res_put4 B1.out KB.out (by have := HRD.out; omega) (.int .i64 0) (.int .i64 0) (.slice none 0 0) (.slice none 0 0))
    obtain ⟨we, hwe⟩ : ∃ we, (((wb.setCell ⟨r, 0, none⟩ (.int .i64 0)).setCell ⟨r, 1, none⟩ (.int .i64 0)).setCell ⟨r, 2, none⟩ (.slice none 0 0)).setCell ⟨r, 3, none⟩ (.slice none 0 0) = we := ⟨_, rfl⟩
    rw [hwe] at RP ⊢
    clear r0 r1 r2 r3 f0 f1 f2 f3 hwe
    have r0 := cell_block RP.out.1 0
    have r1 := cell_block RP.out.1 1
    have r2 := cell_block RP.out.1 2
    have r3 := cell_block RP.out.1 3
    exact bodyPost_ret (v := .tuple #[.agg #[(.int .i64 0), (.int .i64 0), (.slice none 0 0), (.slice none 0 0)], .int .i64 2]) (by simp [results, Try.results8, go_sem, r0, r1, r2, r3]) rfl (⟨rfl, Lib.hid RP.out.2.1⟩)
  · have m2 : 6000 < m := by omega
    clear hm
    go_wp2_with fail
    have RP := Lib.hid (res_put4 B1.out KB.out (by have := HRD.out; omega) (.int .i64 0) (.int .i64 0) (.slice none 0 0) (.slice none 0 0))
    obtain ⟨we, hwe⟩ : ∃ we, (((wb.setCell ⟨r, 0, none⟩ (.int .i64 0)).setCell ⟨r, 1, none⟩ (.int .i64 0)).setCell ⟨r, 2, none⟩ (.slice none 0 0)).setCell ⟨r, 3, none⟩ (.slice none 0 0) = we := ⟨_, rfl⟩
    rw [hwe] at RP ⊢
    clear r0 r1 r2 r3 f0 f1 f2 f3 hwe
    have r0 := cell_block RP.out.1 0
    have r1 := cell_block RP.out.1 1
    have r2 := cell_block RP.out.1 2
    have r3 := cell_block RP.out.1 3
    exact bodyPost_ret (v := .tuple #[.agg #[(.int .i64 0), (.int .i64 0), (.slice none 0 0), (.slice none 0 0)], .int .i64 2]) (by simp [results, Try.results8, go_sem, r0, r1, r2, r3]) rfl (⟨rfl, Lib.hid RP.out.2.1⟩)
theorem gp_each {S : Int → List Sp} {M : Nat} (h : ∀ j, (S j).length ≤ M) (m : Nat) : ∀ (os acc : List Gr), (∀ o ∈ acc, o.2.length ≤ m * M) → ∀ o ∈ os.foldl (gpStep S m) acc, o.2.length ≤ m * M
  | [], acc, ha => ha
  | o :: r, acc, ha => by
    rw [List.foldl_cons]
    refine gp_each h m r _ (fun z hz => ?_)
    unfold gpStep at hz
    split at hz
    · exact ha z hz
    · rcases List.mem_append.1 hz with hz | hz
      · exact ha z hz
      · rw [List.mem_singleton.1 hz]
        exact many_lens h _ m _
theorem grp_each {cs : List (List Sp)} {P N : Int} {M : Nat} (h : ∀ l ∈ cs, l.length ≤ M) (m n : Nat) : ∀ l ∈ grpCs cs P N m n, l.length ≤ m * M := fun l hl => by
  unfold grpCs at hl
  obtain ⟨i, _, rfl⟩ := List.mem_map.1 hl
  exact many_lens (fun j => cg_len_le h j) _ m _
theorem gpS_same {F : Fv} {m a k i : Nat} {acc : List Gr} {room : Int} (hi : i < F.os.length) (h : GpS F m a k i 0 acc room) (e : acc.getLast?.map (fun z => z.1) = some (F.os[i].1.fdiv (m : Int))) : GpS F m a k (i + 1) 0 acc room := by
  rcases h with ⟨_, h1, h2, h3, h4⟩ | ⟨h, _⟩ | ⟨h, _⟩
  · have ht := List.take_succ_eq_append_getElem hi
    refine .inl ⟨rfl, h1, ?_, h3, ?_⟩
    · rw [ht, gpOs_snoc, ← h2]
      unfold gpStep
      rw [if_pos e]
    · intro o ho j hj
      rw [ht] at ho
      rcases List.mem_append.1 ho with ho | ho
      · exact h4 o ho j hj
      · -- the exception before has the same index
        rw [List.mem_singleton.1 ho]
        have : ∀ (os : List Gr) (z : Int), (gpOs (gr F) m os).getLast?.map (fun z => z.1) = some z → ∃ o ∈ os, o.1.fdiv (m : Int) = z := by
          intro os z hz
          have key : ∀ (os acc : List Gr), (∀ z, acc.getLast?.map (fun z => z.1) = some z → ∃ o ∈ os, o.1.fdiv (m : Int) = z) → True := fun _ _ _ => trivial
          have gen : ∀ (os pre acc : List Gr), (∀ z : Int, acc.getLast?.map (fun z => z.1) = some z → ∃ o ∈ pre, o.1.fdiv (m : Int) = z) → ∀ z : Int, (os.foldl (gpStep (gr F) m) acc).getLast?.map (fun z => z.1) = some z → ∃ o ∈ pre ++ os, o.1.fdiv (m : Int) = z := by
            intro os
            induction os with
            | nil => intro pre acc h z hz; simpa using h z hz
            | cons o r ih =>
              intro pre acc h z hz
              rw [List.foldl_cons] at hz
              have := ih (pre ++ [o]) (gpStep (gr F) m acc o) (fun z hz => by
                unfold gpStep at hz
                split at hz
                · obtain ⟨o', h1, h2⟩ := h z hz
                  exact ⟨o', List.mem_append.2 (.inl h1), h2⟩
                · simp at hz
                  exact ⟨o, by simp, hz⟩) z hz
              simpa using this
          have := gen os [] [] (fun z hz => by simp at hz) z hz
          simpa using this
        obtain ⟨o', h5, h6⟩ := this _ _ (h2 ▸ e)
        rw [← h6]
        exact h4 o' h5 j hj
  · cases h
  · cases h
theorem gpS_more {F : Fv} {m a k i : Nat} {acc : List Gr} {room : Int} (hi : i < F.os.length) (h : GpS F m a k i 0 acc room) (e : ¬ acc.getLast?.map (fun z => z.1) = some (F.os[i].1.fdiv (m : Int))) (ho : ∀ j, j < m → Told (F.os[i].1.fdiv (m : Int) * (m : Int) + (j : Int)) (gr F (F.os[i].1.fdiv (m : Int) * (m : Int) + (j : Int)))) :
    GpS F m a k (i + 1) 0 (acc ++ [(F.os[i].1.fdiv (m : Int), colF room (many (gr F) (F.os[i].1.fdiv (m : Int) * (m : Int)) m))]) (room - ((colF room (many (gr F) (F.os[i].1.fdiv (m : Int) * (m : Int)) m)).length : Int)) := by
  rcases h with ⟨_, h1, h2, h3, h4⟩ | ⟨h, _⟩ | ⟨h, _⟩
  · have ht := List.take_succ_eq_append_getElem hi
    refine .inl ⟨rfl, h1, ?_, ?_, ?_⟩
    · rw [ht, gpOs_snoc, ← h2]
      unfold gpStep
      rw [if_neg e, ← h3]
    · have e2 : ∀ z : Gr, lens (tks (acc ++ [z])) = lens (tks acc) + z.2.length := fun z => by
        show lens (List.map _ _) = lens (List.map _ _) + _
        rw [List.map_append, List.map_cons, List.map_nil, lens_snoc]
      rw [e2, Int.natCast_add]
      dsimp only
      omega
    · intro o ho' j hj
      rw [ht] at ho'
      rcases List.mem_append.1 ho' with h5 | h5
      · exact h4 o h5 j hj
      · rw [List.mem_singleton.1 h5]; exact ho j hj
  · cases h
  · cases h
theorem gpS_bad {F : Fv} {m a k i : Nat} {acc : List Gr} {room : Int} (hi : i < F.os.length) (h : GpS F m a k i 0 acc room) (ho : ¬ ∀ j, j < m → Told (F.os[i].1.fdiv (m : Int) * (m : Int) + (j : Int)) (gr F (F.os[i].1.fdiv (m : Int) * (m : Int) + (j : Int)))) (acc' : List Gr) (room' : Int) : GpS F m a k (i + 1) 20 acc' room' := by
  rcases h with ⟨_, h1, _, _, _⟩ | ⟨h, _⟩ | ⟨h, _⟩
  · exact .inr (.inr ⟨rfl, h1.1, fun z => ho (z.2 _ (List.getElem_mem hi))⟩)
  · cases h
  · cases h
theorem gpS_on {F : Fv} {m a k i : Nat} {kw : Int} {acc : List Gr} {room : Int} (hk : kw ≠ 0) (h : GpS F m a k i kw acc room) (i' : Nat) : GpS F m a k i' kw acc room := by
  rcases h with ⟨h, _⟩ | h | h
  · exact absurd h hk
  · exact .inr (.inl h)
  · exact .inr (.inr h)
theorem mul_bound {I : Int} {m : Nat} (hm : 1 ≤ m) {B : Int} (hB : 0 ≤ B) (h1 : -B ≤ I * (m : Int)) (h2 : I * (m : Int) ≤ B) : -B ≤ I ∧ I ≤ B := by
  rcases Int.le_total 0 I with h | h
  · have : I * 1 ≤ I * (m : Int) := Int.mul_le_mul_of_nonneg_left (by omega) h
    omega
  · have : (-I) * 1 ≤ (-I) * (m : Int) := Int.mul_le_mul_of_nonneg_left (by omega) (by omega)
    rw [Int.neg_mul, Int.neg_mul] at this
    omega
theorem gpS_sameX {F : Fv} {m a k i : Nat} {acc : List Gr} {room I : Int} (hi : i < F.os.length) (e0 : F.os[i].1.fdiv (m : Int) = I) (h : GpS F m a k i 0 acc room) (e : acc.getLast?.map (fun z => z.1) = some I) : GpS F m a k (i + 1) 0 acc room := by subst e0; exact gpS_same hi h e
theorem gpS_moreX {F : Fv} {m a k i nn : Nat} {acc : List Gr} {room I : Int} {L : List Sp} (hi : i < F.os.length) (e0 : F.os[i].1.fdiv (m : Int) = I) (h : GpS F m a k i 0 acc room) (e : ¬ acc.getLast?.map (fun z => z.1) = some I) (ho : ∀ j, j < m → Told (I * (m : Int) + (j : Int)) (gr F (I * (m : Int) + (j : Int)))) (hL : colF room (many (gr F) (I * (m : Int)) m) = L) (hn : L.length = nn) : GpS F m a k (i + 1) 0 (acc ++ [(I, L)]) (room - (nn : Int)) := by subst e0 hL hn; exact gpS_more hi h e ho
theorem gpS_badX {F : Fv} {m a k i : Nat} {acc : List Gr} {room I : Int} (hi : i < F.os.length) (e0 : F.os[i].1.fdiv (m : Int) = I) (h : GpS F m a k i 0 acc room) (ho : ¬ ∀ j, j < m → Told (I * (m : Int) + (j : Int)) (gr F (I * (m : Int) + (j : Int)))) (acc' : List Gr) (room' : Int) : GpS F m a k (i + 1) 20 acc' room' := by subst e0; exact gpS_bad hi h ho acc' room'
def When (k : Int) (Q : Prop) : Prop := k = 0 → Q
theorem getLast_snoc (A0 : List Gr) (z : Gr) : (A0 ++ [z]).getLast?.map (fun z => z.1) = some z.1 := by simp

set_option maxRecDepth 100000 in
set_option maxHeartbeats 8000000 in
theorem group_any (F : Fv) (m a k : Nat) (w : World) (hF : F.At w) (rt : F.Rt) (hmid : F.Mid) (hc2 : F.cn ≤ 12) (ho2 : F.on ≤ 8) (hs : ∀ l ∈ F.cs, l.length ≤ 1000) (hso : ∀ o ∈ F.os, o.2.length ≤ 1000) (hm1 : 1 ≤ m) (hm2 : m ≤ 6000) (hp : Pa F m a k) :
    Calls Try.prog 8 #[F.v, .int .i64 (m : Int)] w fun e w' => GpOut F m a k w.heap.size e w' ∧ Hid (Below w.heap.size w w') := by
  have ok := rt.okm hmid
  have CR := Lib.hid (fun W (h : F.At W) => right_mid F W h hmid true ⟨fun _ => rt, fun _ => rfl⟩)
  have CT := Lib.hid (fun W (j : Int) bf (h : F.At W) hb => tell26_any F j bf W h ok hb)
  have CG := Lib.hid (fun W (h : F.At W) => core_all F m a k W h ok hc2 hs hm1 hm2 hp)
  have ha2 : a ≤ 12 := by rcases hp with ⟨_, _, _, h, _⟩ | ⟨_, _, _, _, _, h, _⟩ <;> omega
  have hp0 : 0 ≤ F.P * (k : Int) := by
    rcases hp with ⟨_, h, _⟩ | ⟨_, _, _, _, _, _, _, _, h, _⟩
    · rw [h]; simp
    · exact Int.mul_nonneg (by omega) (by omega)
  have HGL : Hid (∀ j, (gr F j).length ≤ 1000) := Lib.hid (gr_lens hs hso)
  have HOG := Lib.hid rt.odd.good
  obtain ⟨P, N, co, cn, cc, oo, on, oc, cs, os⟩ := F
  have HF : Hid (Fv.At ⟨P, N, co, cn, cc, oo, on, oc, cs, os⟩ w) := Lib.hid hF
  have LO : Hid (os.length = on) := Lib.hid hF.odd.len
  have HS : Hid (∀ l ∈ cs, l.length ≤ 1000) := Lib.hid hs
  have ho2 : on ≤ 8 := ho2
  have HP0 : Hid (0 ≤ P * (k : Int)) := Lib.hid hp0
  have CR : Hid (∀ W, Fv.At ⟨P, N, co, cn, cc, oo, on, oc, cs, os⟩ W → Calls Try.prog 18 #[.agg #[.int .i64 P, .int .i64 N, .slice co cn cc, .slice oo on oc]] W fun e w' => e = .returned (.int .i64 0) ∧ Below W.heap.size W w') := CR
  have CG : Hid (∀ W, Fv.At ⟨P, N, co, cn, cc, oo, on, oc, cs, os⟩ W → Calls Try.prog 23 #[.agg #[.int .i64 P, .int .i64 N, .slice co cn cc, .slice oo on oc], .int .i64 (m : Int)] W fun e w' => ∃ (P1 N1 : Int) (xo : Option Addr) (xn xc : Nat) (kw : Int), e = .returned (.tuple #[.agg #[.int .i64 P1, .int .i64 N1, .slice xo xn xc, .slice none 0 0], .int .i64 kw]) ∧ Hid (Below W.heap.size W w') ∧ Hid ((kw = 0 ∧ CoreOK ⟨P, N, co, cn, cc, oo, on, oc, cs, os⟩ m a k ∧ P1 = P * k ∧ N1 = (a : Int) ∧ xn = a ∧ CoOwn w' W.heap.size (.slice xo xn xc) a (grpCs cs P N m a)) ∨ (kw = 3 ∧ 60000 < k * lens cs) ∨ (kw = 20 ∧ k * lens cs ≤ 60000 ∧ ¬ CoreOK ⟨P, N, co, cn, cc, oo, on, oc, cs, os⟩ m a k))) := CG
  clear hF rt hmid hs hso hp ok hc2 hp0
  obtain ⟨b, hb⟩ : ∃ b, w.heap.size = b := ⟨_, rfl⟩
  obtain ⟨r, hr'⟩ : ∃ z, b + 1 = z := ⟨_, rfl⟩
  obtain ⟨wb, hwb⟩ : ∃ z, ((w.alloc (.cells #[.int .i64 P, .int .i64 N, .slice co cn cc, .slice oo on oc] 25)).alloc (.cells #[.int .i64 0, .int .i64 0, .slice none 0 0, .slice none 0 0] 25)) = z := ⟨_, rfl⟩
  have KB : Hid (Below w.heap.size w wb) := Lib.hid (by rw [← hwb]; exact ((Below.refl _ w).alloc (Nat.le_refl _) _).alloc (by simp) _)
  have B0 : Hid (wb.heap[b]? = some (.cells #[.int .i64 P, .int .i64 N, .slice co cn cc, .slice oo on oc] 25 (0, 0))) := Lib.hid (by rw [← hwb]; exact (Below.heap_alloc _ _ _ (by simp; omega)).trans (heap_at hb))
  have B1 : Hid (wb.heap[r]? = some (.cells #[.int .i64 0, .int .i64 0, .slice none 0 0, .slice none 0 0] 25 (0, 0))) := Lib.hid (by rw [← hwb]; exact heap_at (by simp; omega))
  have HRD : Hid (w.heap.size ≤ b ∧ b < r) := Lib.hid (by omega)
  have HX := Lib.hid hwb
  have HX0 := Lib.hid hb
  have HX1 := Lib.hid hr'
  clear hwb hb hr'
  show Calls Try.prog 8 #[.agg #[.int .i64 P, .int .i64 N, .slice co cn cc, .slice oo on oc], .int .i64 (m : Int)] w _
  go_enter Try.func8, Try.ntmps8
  go_upto_region 1 with fail
  try rw [HX.out]
  try rw [HX0.out]
  try rw [HX1.out]
  clear HX HX0 HX1
  have m1 : ¬ (m : Int) < 1 := by omega
  have m2 : ¬ (6000 : Int) < (m : Int) := by omega
  have c0 := cell_block B0.out 0
  have c1 := cell_block B0.out 1
  have c2 := cell_block B0.out 2
  have c3 := cell_block B0.out 3
  go_wp2_with fail
  (with_reducible refine (CR.out _ (HF.out.keep KB.out)).mono ?_)
  rintro e w1 ⟨rfl, q⟩
  have KB1 := Lib.hid (KB.out.trans (q.mono KB.out.size))
  have B0b := Lib.hid (heap_keep B0.out q)
  have B1b := Lib.hid (heap_keep B1.out q)
  clear q c0 c1 c2 c3 KB B0 B1 CR
  have c0 := cell_block B0b.out 0
  have c1 := cell_block B0b.out 1
  have c2 := cell_block B0b.out 2
  have c3 := cell_block B0b.out 3
  go_wp2_with fail
  (with_reducible refine (CG.out _ (HF.out.keep KB1.out)).mono ?_)
  rintro e w2 ⟨P1, N1, xo, xn, xc, kw0, rfl, q, hst⟩
  have KB2 := Lib.hid (KB1.out.trans (q.out.mono KB1.out.size))
  have B0c := Lib.hid (heap_keep B0b.out q.out)
  have B1c := Lib.hid (heap_keep B1b.out q.out)
  obtain ⟨n₁, hn1⟩ : ∃ z, w1.heap.size = z := ⟨_, rfl⟩
  rw [hn1] at hst
  have HNB : Hid (w.heap.size ≤ n₁) := Lib.hid (by rw [← hn1]; exact KB1.out.size)
  have HN12 : Hid (n₁ ≤ w2.heap.size) := Lib.hid (by rw [← hn1]; exact q.out.size)
  clear q c0 c1 c2 c3 KB1 B0b B1b CG hn1
  obtain ⟨g, hg⟩ : ∃ z, w2.heap.size = z := ⟨_, rfl⟩
  obtain ⟨w3, hw3⟩ : ∃ z, w2.alloc (.cells #[.int .i64 P1, .int .i64 N1, .slice xo xn xc, .slice none 0 0] 25) = z := ⟨_, rfl⟩
  have K3 : Below w2.heap.size w2 w3 := by rw [← hw3]; exact (Below.refl _ w2).alloc (Nat.le_refl _) _
  have HG3 : Hid (w3.heap[g]? = some (.cells #[.int .i64 P1, .int .i64 N1, .slice xo xn xc, .slice none 0 0] 25 (0, 0))) := Lib.hid (by rw [← hw3]; exact heap_at hg)
  have KB3 := Lib.hid (KB2.out.trans (K3.mono KB2.out.size))
  have B0d := Lib.hid (heap_keep B0c.out K3)
  have B1d := Lib.hid (heap_keep B1c.out K3)
  have HRG : Hid (r < g ∧ w3.heap.size = g + 1 ∧ n₁ ≤ g) := Lib.hid ⟨by have := (Array.getElem?_eq_some_iff.1 B1c.out).1; omega, by rw [← hw3, ← hg]; simp, by rw [← hg]; exact HN12.out⟩
  have HST0 := Lib.hid hst.out
  have HCK : Hid (When kw0 (CoOwn w3 n₁ (.slice xo xn xc) a (grpCs cs P N m a))) := Lib.hid (fun h => by
    rcases hst.out with ⟨_, _, _, _, _, h6⟩ | ⟨h', _⟩ | ⟨h', _⟩
    · exact h6.keep K3
    · omega
    · omega)
  obtain ⟨n₂, hn2⟩ : ∃ z, w3.heap.size = z := ⟨_, rfl⟩
  have HN2 := Lib.hid hn2
  rw [hn2] at HRG
  have HGW0 : Hid (GpW w w3 b r g n₂ P1 N1 #[.int .i64 P, .int .i64 N, .slice co cn cc, .slice oo on oc] (.slice xo xn xc) (.slice none 0 0)) := Lib.hid ⟨KB3.out, by rw [hn2]; exact Nat.le_refl _, B0d.out, B1d.out, HG3.out, HRD.out.1, HRD.out.2, HRG.out.1, by have := HRG.out; omega⟩
  have HPN : Hid (When kw0 (P1 = P * k ∧ N1 = (a : Int) ∧ xn = a)) := Lib.hid (fun h => by
    rcases hst.out with ⟨_, _, h3, h4, h5, h6⟩ | ⟨h', _⟩ | ⟨h', _⟩
    · exact ⟨h3, h4, h5⟩
    · omega
    · omega)
  have HST1 : Hid (GpS ⟨P, N, co, cn, cc, oo, on, oc, cs, os⟩ m a k 0 kw0 [] 60000) := Lib.hid (by
    rcases hst.out with ⟨h1, h2, _⟩ | ⟨h1, h2⟩ | ⟨h1, h2, h3⟩
    · exact .inl ⟨h1, h2, rfl, by simp [lens], fun o h => by simp at h⟩
    · exact .inr (.inl ⟨h1, h2⟩)
    · exact .inr (.inr ⟨h1, h2, fun z => h3 z.1⟩))
  have hkw : kw0 = 0 ∨ kw0 = 3 ∨ kw0 = 20 := by rcases hst.out with ⟨h, _⟩ | ⟨h, _⟩ | ⟨h, _⟩ <;> omega
  have HKW := Lib.hid hkw
  have HWX := Lib.hid hw3
  have HWG := Lib.hid hg
  clear hst hw3 hg hn2 K3 KB2 B0c B1c HST0 hkw
  go_upto_region 6 with fail
  try rw [HWX.out]
  try rw [HWG.out]
  clear HWX HWG
  have c0 := cell_block B0d.out 0
  have c1 := cell_block B0d.out 1
  have c2 := cell_block B0d.out 2
  have c3 := cell_block B0d.out 3
  go_wp2_with fail
  clear c0 c1 c2 c3 KB3 B0d B1d HG3
  go_loopw [7, 8, 10, 11, 12, 13, 14, 15, 36] (fun s7 s8 s10 s11 s12 s13 s14 s15 ii wr => ∃ (i : Nat) (oa : Option Addr) (na oc' : Nat) (acc : List Gr) (kw room : Int), i ≤ on ∧ ii = .int .i64 i ∧ s7 = .int .i64 kw ∧ s8 = .int .i64 room ∧ na ≤ i ∧ 60000 - (i : Int) * 6000000 ≤ room ∧ room ≤ 60000 ∧ (kw = 0 ∨ kw = 3 ∨ kw = 20) ∧ Hid (GpW w wr b r g n₂ P1 N1 #[.int .i64 P, .int .i64 N, .slice co cn cc, .slice oo on oc] (.slice xo xn xc) (.slice oa na oc')) ∧ Hid (OdOwn wr n₂ (.slice oa na oc') na acc) ∧ Hid (When kw (CoOwn wr n₁ (.slice xo xn xc) a (grpCs cs P N m a))) ∧ Hid (GpS ⟨P, N, co, cn, cc, oo, on, oc, cs, os⟩ m a k i kw acc room) ∧ Hid (When kw (kw0 = 0))) (fun s7 s8 s10 s11 s12 s13 s14 s15 ii _ => on - (intOf ii).toNat)
  case atStart => exact ⟨0, none, 0, 0, [], kw0, 60000, Nat.zero_le _, rfl, rfl, rfl, Nat.le_refl _, by omega, by omega, HKW.out, HGW0, Lib.hid ⟨rfl, [], World.ownsRow_nil _ _ _ _, fun i h => absurd h (Nat.not_lt_zero i)⟩, HCK, HST1, Lib.hid (fun h => h)⟩
  case round =>
    clear HGW0 HCK HST1 HKW
    obtain ⟨i, oa, na, oc', acc, kw', room, hi, rfl, rfl, rfl, hna, hr1, hr2, hkw, HGW, HOD, HCO, HST, HK0⟩ := hrel
    by_cases ilt : i < on
    · have i1 : (i : Int) < (on : Int) := by omega
      have hil : i < os.length := by rw [LO.out]; exact ilt
      obtain ⟨bo, po, e1, hc⟩ := (show OdAt w oo on oc os from HF.out.odd).here (by omega)
      obtain rfl : oo = some ⟨bo, po, none⟩ := e1
      obtain ⟨d1, ⟨ot, mt, dt, d2, d3⟩, d4, d5⟩ := hc i hil
      have HOI := Lib.hid (HOG.out _ (List.getElem_mem hil))
      obtain ⟨X, hX⟩ : ∃ z, os[i].1 = z := ⟨_, rfl⟩
      rw [hX] at d1 d4 d5 HOI
      have x1 : -1099511627776 ≤ X := HOI.out.2.1
      have x2 : X ≤ 1099511627776 := HOI.out.2.2
      have u0 := cell_keep d1 HGW.out.bw
      have u1 := cell_keep d2 HGW.out.bw
      have CF := Lib.hid (fun W => (floor_ok X (m : Int) W (by omega) (by omega) (by omega) (by omega) (by omega) (by omega)).mono (R' := fun e w' => e = .returned (.tuple #[.int .i64 (X.fdiv (m : Int)), .int .i64 (X.fmod (m : Int)), .int .i64 0]) ∧ Below W.heap.size W w') (by rintro e w' ⟨rfl, n, rfl⟩; exact ⟨rfl, below_drewN (Below.refl _ _) n⟩))
      have f1 := Int.mul_fdiv_add_fmod X (m : Int)
      have f2 := Int.fmod_nonneg_of_pos X (show (0 : Int) < (m : Int) by omega)
      have f3 := Int.fmod_lt_of_pos X (show (0 : Int) < (m : Int) by omega)
      obtain ⟨I, hI⟩ : ∃ z, X.fdiv (m : Int) = z := ⟨_, rfl⟩
      obtain ⟨Rm, hR⟩ : ∃ z, X.fmod (m : Int) = z := ⟨_, rfl⟩
      have HXI : Hid (os[i].1.fdiv (m : Int) = I) := Lib.hid (by rw [hX]; exact hI)
      rw [hI, hR] at CF
      rw [hI, hR, Int.mul_comm] at f1
      rw [hR] at f2 f3
      have im1 : -1099511640000 ≤ I * (m : Int) := by omega
      have im2 : I * (m : Int) ≤ 1099511640000 := by omega
      obtain ⟨ib1, ib2⟩ := mul_bound hm1 (show (0 : Int) ≤ 1099511640000 by omega) im1 im2
      have HIL := Lib.hid hil
      clear f1 f2 f3 hI hR hX hc d1 d2 d3 d4 d5 HOI
      obtain ⟨wx, hwx⟩ : ∃ z, wr.alloc (.cells #[.int .i64 X, .slice ot mt dt] 52) = z := ⟨_, rfl⟩
      have KA : Below wr.heap.size wr wx := by rw [← hwx]; exact (Below.refl _ _).alloc (Nat.le_refl _) _
      obtain ⟨q, hq⟩ : ∃ z, wr.heap.size = z := ⟨_, rfl⟩
      have HQ : Hid (wx.heap[q]? = some (.cells #[.int .i64 X, .slice ot mt dt] 52 (0, 0))) := Lib.hid (by rw [← hwx]; exact heap_at hq)
      have HGX := Lib.hid (HGW.out.keep KA)
      have HOX := Lib.hid (HOD.out.keep KA)
      have HCX : Hid (When kw' (CoOwn wx n₁ (.slice xo xn xc) a (grpCs cs P N m a))) := Lib.hid (fun h => (HCO.out h).keep KA)
      have HWX := Lib.hid hwx
      have HQX := Lib.hid hq
      clear hwx hq KA HGW HOD HCO
      go_upto_region 10 with fail
      rw [HWX.out, HQX.out]
      clear HWX HQX u0 u1
      have u0 := cell_block HQ.out 0
      have u1 := cell_block HQ.out 1
      go_wp2_with fail
      (with_reducible refine (CF.out _).mono ?_)
      rintro e wy ⟨rfl, qy⟩
      have HGY := Lib.hid (HGX.out.keep qy)
      have HOY := Lib.hid (HOX.out.keep qy)
      have HCY : Hid (When kw' (CoOwn wy n₁ (.slice xo xn xc) a (grpCs cs P N m a))) := Lib.hid (fun h => (HCX.out h).keep qy)
      clear qy u0 u1 HQ HGX HOX HCX CF
      have p3 : wy.cell? ⟨g, 3, none⟩ = some (.slice oa na oc') := cell_block HGY.out.g_ 3
      have na9 : na ≤ 8 := by omega
      rcases hkw with rfl | rfl | rfl
      · by_cases c1 : 0 < na
        · obtain ⟨A0, Z, hAZ⟩ : ∃ A0 Z, acc = A0 ++ [Z] := by
            rcases List.eq_nil_or_concat acc with h | ⟨a0, x, h⟩
            · have := HOY.out.len; rw [h] at this; simp at this; omega
            · exact ⟨a0, x, by rw [h, List.concat_eq_append]⟩
          subst hAZ
          obtain ⟨ma, rfl⟩ : ∃ z, na = z + 1 := ⟨na - 1, by omega⟩
          have HMA : Hid (A0.length = ma) := Lib.hid (by have := HOY.out.len; simp at this; omega)
          obtain ⟨vs0, hown0, hinn0⟩ := HOY.out.row
          obtain ⟨ga, ca', hca⟩ := ownsRow_succ hown0
          injection hca with hca _ hca2
          subst hca
          subst hca2
          have HZC : Hid (wy.cell? ⟨ga, ma * 2, none⟩ = some (.int .i64 Z.1)) := Lib.hid (by
            have h := (hinn0 ma (by simp [HMA.out])).1
            have e := hown0.cellAt (ma * 2) (by omega)
            rw [e, h, List.getElem_append_right (by rw [HMA.out]; exact Nat.le_refl _)]
            simp [HMA.out])
          have z2 := HZC.out
          clear hown0 hinn0
          have t1 : (0 : Int) < (ma : Int) + 1 := by omega
          have z0 : (ma : Int) + 1 - 1 = (ma : Int) := by omega
          have lm : (ma : Int) < (ma : Int) + 1 := by omega
          have ln : ¬ ma + 1 ≤ ma := by omega
          by_cases c2 : Z.1 = I
          · have c3 : (Z.1 == I) = true := by rw [c2]; simp
            have HNX : Hid (GpS ⟨P, N, co, cn, cc, (some ⟨bo, po, none⟩), on, oc, cs, os⟩ m a k (i + 1) 0 (A0 ++ [Z]) room) := Lib.hid (gpS_sameX (F := ⟨P, N, co, cn, cc, (some ⟨bo, po, none⟩), on, oc, cs, os⟩) HIL.out HXI.out HST.out (by rw [getLast_snoc, c2]))
            clear c2
            go_wp2_with fail
            go_roundw
            case rel => exact ⟨i + 1, _, _, _, _, _, room, by omega, by simp, rfl, rfl, by omega, by omega, by omega, by omega, HGY, HOY, HCY, Lib.hid (HNX.out), HK0⟩
            case measure => simp [intOf]; omega
          · have c3 : (Z.1 == I) = false := by simp; exact c2
            have HLAST : Hid (¬ (A0 ++ [Z]).getLast?.map (fun z => z.1) = some I) := Lib.hid (by rw [getLast_snoc]; exact fun h => c2 (by injection h))
            clear c2
            have CC := Lib.hid (collect26_any (gr ⟨P, N, co, cn, cc, (some ⟨bo, po, none⟩), on, oc, cs, os⟩) (fun j => Told j (gr ⟨P, N, co, cn, cc, (some ⟨bo, po, none⟩), on, oc, cs, os⟩ j)) (I * (m : Int)) room m b wy (fun W j hW h1 h2 => CT.out W j b (HF.out.keep (HGY.out.bw.trans (hW.mono HGY.out.bw.size))) (heap_keep HGY.out.b0 hW)) (fun j h => h.2) (fun j => Nat.le_trans (HGL.out j) (by omega)) (by omega) (by omega) (by omega) (by omega) (by omega))
            go_wp2_with fail
            (with_reducible refine CC.out.mono ?_)
            rintro e wv ⟨v, kk, rfl, q, hv⟩
            have HGV := Lib.hid (HGY.out.keep q.out)
            have HOV := Lib.hid (HOY.out.keep q.out)
            have HCV : Hid (When 0 (CoOwn wv n₁ (.slice xo xn xc) a (grpCs cs P N m a))) := Lib.hid (fun h => (HCY.out h).keep q.out)
            have HSY : Hid (n₂ ≤ wy.heap.size) := Lib.hid HGY.out.sz
            clear q CC HGY HOY HCY z2 p3
            obtain ⟨ao, nn, nc, Lx, hve, nnb, hrow, hkk, hst⟩ : ∃ (ao : Option Addr) (nn nc : Nat) (Lx : List Sp), v = .slice ao nn nc ∧ nn ≤ 6000000 ∧ wv.ownsRow n₂ 50 2 (.slice ao nn nc) Lx.length (spCells Lx) ∧ (kk = 0 ∨ kk = 20) ∧ GpS ⟨P, N, co, cn, cc, (some ⟨bo, po, none⟩), on, oc, cs, os⟩ m a k (i + 1) kk ((A0 ++ [Z]) ++ [(I, Lx)]) (room - (nn : Int)) := by
              rcases hv.out with ⟨hok, hk, hrow⟩ | ⟨hok, hk, hv0⟩
              · subst hk
                obtain ⟨ao, nc, rfl, hsp⟩ := own_sp rfl hrow
                have nnb := many_lens HGL.out (I * (m : Int)) m room
                have h2 : m * 1000 ≤ 6000 * 1000 := Nat.mul_le_mul_right _ hm2
                exact ⟨ao, _, nc, _, rfl, by omega, own_base hrow HSY.out, .inl rfl, gpS_moreX (F := ⟨P, N, co, cn, cc, (some ⟨bo, po, none⟩), on, oc, cs, os⟩) HIL.out HXI.out HST.out HLAST.out hok rfl rfl⟩
              · subst hk
                subst hv0
                exact ⟨none, 0, 0, [], rfl, by omega, World.ownsRow_nil _ _ _ _, .inr rfl, gpS_badX (F := ⟨P, N, co, cn, cc, (some ⟨bo, po, none⟩), on, oc, cs, os⟩) HIL.out HXI.out HST.out hok _ _⟩
            subst hve
            have HROW := Lib.hid hrow
            have HST2 := Lib.hid hst
            have HKK := Lib.hid hkk
            clear hrow hst hkk hv
            have p3 : wv.cell? ⟨g, 3, none⟩ = some (.slice (some ⟨ga, 0, none⟩) (ma + 1) oc') := cell_block HGV.out.g_ 3
            have p3f : wv.frozen? ⟨g, 3, none⟩ = false := free_blk HGV.out.g_ 3
            obtain ⟨j0, hj0, hz0, hz1, hz2⟩ := info_parts info52s
            have HI3 := Lib.hid hj0
            have HZ0 := Lib.hid hz0
            have HZ1 := Lib.hid hz1
            have HZ2 := Lib.hid hz2
            obtain ⟨vs, hown, hinn⟩ := HOV.out.row
            have HOWN := Lib.hid hown
            have HINN := Lib.hid hinn
            clear hj0 hz0 hz1 hz2 hown hinn
            go_wp2_with (at_builtin; refine wpList_append_own _ rfl _ _ 23 rfl n₂ 52 j0 (.agg #[.int .i64 0, .slice none 0 0]) 2 32 Try.underlying23 HI3.out HZ0.out HZ1.out HZ2.out rfl (by decide) _ _ _ rfl (keepB HOWN.out ((Below.refl _ _).alloc (Nat.le_refl _) _)) ⟨wv.heap.size, 0, none⟩ 1 1 [.int .i64 I, .slice ao nn nc] rfl rfl (World.news_of_block (cs := #[.int .i64 I, .slice ao nn nc]) (t := 52) (fr := (0, 0)) (World.alloc_heap_new wv _)) (by intro y hy; simp at hy; rcases hy with rfl | rfl <;> rfl) (by unfold maxLen; omega) (by omega) (by have := HGV.out.sz; simp; omega) ?_; intro v' w8 hown' hgrow _; obtain ⟨g', cap', rfl⟩ := ownsRow_succ hown'; have HA8 := Lib.hid ((HGV.out.keep ((Below.refl _ wv).alloc (Nat.le_refl _) (.cells #[.int .i64 I, .slice ao nn nc] 52))).grown hgrow (fun y e => (HOWN.out.lt y e).1)); have HN8 := Lib.hid hown'; have HG8 := Lib.hid hgrow; have p3' : w8.cell? ⟨g, 3, none⟩ = some (.slice (some ⟨ga, 0, none⟩) (ma + 1) oc') := cell_block HA8.out.g_ 3; have q3' : w8.frozen? ⟨g, 3, none⟩ = false := free_blk HA8.out.g_ 3; clear hown' hgrow)
            have HPU := Lib.hid (HA8.out.put (.slice (some ⟨g', 0, none⟩) (ma + 1 + 1) cap'))
            have HOF : Hid (∀ B e : Nat, 52 ≠ e → Off (wv.alloc (.cells #[.int .i64 I, .slice ao nn nc] 52)) B e (Value.slice (some ⟨ga, 0, none⟩) (ma + 1) oc').ownBlock) := Lib.hid (fun B e ne y hy => by
              obtain ⟨cur, t⟩ := own_typed (keepB HOWN.out ((Below.refl _ wv).alloc (Nat.le_refl _) (.cells #[.int .i64 I, .slice ao nn nc] 52))) hy
              exact .inr ⟨cur, 52, t, ne⟩)
            have HOD2 : Hid (OdOwn (w8.setCell ⟨g, 3, none⟩ (.slice (some ⟨g', 0, none⟩) (ma + 1 + 1) cap')) n₂ (.slice (some ⟨g', 0, none⟩) (ma + 1 + 1) cap') (ma + 1 + 1) ((A0 ++ [Z]) ++ [(I, Lx)])) := Lib.hid (by
              have mv : ∀ {u : Value} {l : List Sp}, wv.ownsRow n₂ 50 2 u l.length (spCells l) → w8.ownsRow n₂ 50 2 u l.length (spCells l) := fun h => own_off (keepB h ((Below.refl _ wv).alloc (Nat.le_refl _) _)) HG8.out (HOF.out _ 50 (by decide))
              have c8 := od_snoc (i := I) (u := .slice ao nn nc) (l := Lx) HOV.out.len HN8.out (fun i hi => by obtain ⟨h1, ⟨u, h2, h3⟩, h4⟩ := HINN.out i hi; exact ⟨h1, ⟨u, h2, mv h3⟩, h4⟩) (mv HROW.out) (by omega) (by omega)
              exact c8.grown (grown_cell w8 ⟨g, 3, none⟩ _) (fun q e => .inl (by cases e; exact HA8.out.hi)) (fun q e => .inl (by cases e; exact HA8.out.hi)))
            have HCO2 : Hid (When kk (CoOwn (w8.setCell ⟨g, 3, none⟩ (.slice (some ⟨g', 0, none⟩) (ma + 1 + 1) cap')) n₁ (.slice xo xn xc) a (grpCs cs P N m a))) := Lib.hid (fun _ => by
              have c8 := ((HCV.out rfl).keep ((Below.refl _ wv).alloc (Nat.le_refl _) (.cells #[.int .i64 I, .slice ao nn nc] 52))).grown HG8.out (HOF.out _ 34 (by decide)) (HOF.out _ 50 (by decide))
              exact c8.grown (grown_cell w8 ⟨g, 3, none⟩ _) (fun y e => .inr (by cases e; exact ⟨_, 25, HA8.out.g_, by decide⟩)) (fun y e => .inr (by cases e; exact ⟨_, 25, HA8.out.g_, by decide⟩)))
            go_roundw
            case rel => exact ⟨i + 1, some ⟨g', 0, none⟩, ma + 1 + 1, cap', (A0 ++ [Z]) ++ [(I, Lx)], kk, room - (nn : Int), by omega, by simp, rfl, rfl, by omega, by omega, by omega, (by rcases HKK.out with h | h; exact .inl h; exact .inr (.inr h)), HPU, HOD2, HCO2, HST2, (Lib.hid (fun _ => HK0.out rfl))⟩
            case measure => simp [intOf]; omega
        · obtain rfl : na = 0 := by omega
          obtain rfl : acc = [] := List.eq_nil_of_length_eq_zero HOY.out.len
          have HLAST : Hid (¬ ([] : List Gr).getLast?.map (fun z => z.1) = some I) := Lib.hid (by simp)
          have CC := Lib.hid (collect26_any (gr ⟨P, N, co, cn, cc, (some ⟨bo, po, none⟩), on, oc, cs, os⟩) (fun j => Told j (gr ⟨P, N, co, cn, cc, (some ⟨bo, po, none⟩), on, oc, cs, os⟩ j)) (I * (m : Int)) room m b wy (fun W j hW h1 h2 => CT.out W j b (HF.out.keep (HGY.out.bw.trans (hW.mono HGY.out.bw.size))) (heap_keep HGY.out.b0 hW)) (fun j h => h.2) (fun j => Nat.le_trans (HGL.out j) (by omega)) (by omega) (by omega) (by omega) (by omega) (by omega))
          go_wp2_with fail
          (with_reducible refine CC.out.mono ?_)
          rintro e wv ⟨v, kk, rfl, q, hv⟩
          have HGV := Lib.hid (HGY.out.keep q.out)
          have HOV := Lib.hid (HOY.out.keep q.out)
          have HCV : Hid (When 0 (CoOwn wv n₁ (.slice xo xn xc) a (grpCs cs P N m a))) := Lib.hid (fun h => (HCY.out h).keep q.out)
          have HSY : Hid (n₂ ≤ wy.heap.size) := Lib.hid HGY.out.sz
          clear q CC HGY HOY HCY p3
          obtain ⟨ao, nn, nc, Lx, hve, nnb, hrow, hkk, hst⟩ : ∃ (ao : Option Addr) (nn nc : Nat) (Lx : List Sp), v = .slice ao nn nc ∧ nn ≤ 6000000 ∧ wv.ownsRow n₂ 50 2 (.slice ao nn nc) Lx.length (spCells Lx) ∧ (kk = 0 ∨ kk = 20) ∧ GpS ⟨P, N, co, cn, cc, (some ⟨bo, po, none⟩), on, oc, cs, os⟩ m a k (i + 1) kk ([] ++ [(I, Lx)]) (room - (nn : Int)) := by
            rcases hv.out with ⟨hok, hk, hrow⟩ | ⟨hok, hk, hv0⟩
            · subst hk
              obtain ⟨ao, nc, rfl, hsp⟩ := own_sp rfl hrow
              have nnb := many_lens HGL.out (I * (m : Int)) m room
              have h2 : m * 1000 ≤ 6000 * 1000 := Nat.mul_le_mul_right _ hm2
              exact ⟨ao, _, nc, _, rfl, by omega, own_base hrow HSY.out, .inl rfl, gpS_moreX (F := ⟨P, N, co, cn, cc, (some ⟨bo, po, none⟩), on, oc, cs, os⟩) HIL.out HXI.out HST.out HLAST.out hok rfl rfl⟩
            · subst hk
              subst hv0
              exact ⟨none, 0, 0, [], rfl, by omega, World.ownsRow_nil _ _ _ _, .inr rfl, gpS_badX (F := ⟨P, N, co, cn, cc, (some ⟨bo, po, none⟩), on, oc, cs, os⟩) HIL.out HXI.out HST.out hok _ _⟩
          subst hve
          have HROW := Lib.hid hrow
          have HST2 := Lib.hid hst
          have HKK := Lib.hid hkk
          clear hrow hst hkk hv
          have p3 : wv.cell? ⟨g, 3, none⟩ = some (.slice oa 0 oc') := cell_block HGV.out.g_ 3
          have p3f : wv.frozen? ⟨g, 3, none⟩ = false := free_blk HGV.out.g_ 3
          obtain ⟨j0, hj0, hz0, hz1, hz2⟩ := info_parts info52s
          have HI3 := Lib.hid hj0
          have HZ0 := Lib.hid hz0
          have HZ1 := Lib.hid hz1
          have HZ2 := Lib.hid hz2
          obtain ⟨vs, hown, hinn⟩ := HOV.out.row
          have HOWN := Lib.hid hown
          have HINN := Lib.hid hinn
          clear hj0 hz0 hz1 hz2 hown hinn
          go_wp2_with (at_builtin; refine wpList_append_own _ rfl _ _ 23 rfl n₂ 52 j0 (.agg #[.int .i64 0, .slice none 0 0]) 2 32 Try.underlying23 HI3.out HZ0.out HZ1.out HZ2.out rfl (by decide) _ _ _ rfl (keepB HOWN.out ((Below.refl _ _).alloc (Nat.le_refl _) _)) ⟨wv.heap.size, 0, none⟩ 1 1 [.int .i64 I, .slice ao nn nc] rfl rfl (World.news_of_block (cs := #[.int .i64 I, .slice ao nn nc]) (t := 52) (fr := (0, 0)) (World.alloc_heap_new wv _)) (by intro y hy; simp at hy; rcases hy with rfl | rfl <;> rfl) (by unfold maxLen; omega) (by omega) (by have := HGV.out.sz; simp; omega) ?_; intro v' w8 hown' hgrow _; obtain ⟨g', cap', rfl⟩ := ownsRow_succ hown'; have HA8 := Lib.hid ((HGV.out.keep ((Below.refl _ wv).alloc (Nat.le_refl _) (.cells #[.int .i64 I, .slice ao nn nc] 52))).grown hgrow (fun y e => (HOWN.out.lt y e).1)); have HN8 := Lib.hid hown'; have HG8 := Lib.hid hgrow; have p3' : w8.cell? ⟨g, 3, none⟩ = some (.slice oa 0 oc') := cell_block HA8.out.g_ 3; have q3' : w8.frozen? ⟨g, 3, none⟩ = false := free_blk HA8.out.g_ 3; clear hown' hgrow)
          have HPU := Lib.hid (HA8.out.put (.slice (some ⟨g', 0, none⟩) (0 + 1) cap'))
          have HOF : Hid (∀ B e : Nat, 52 ≠ e → Off (wv.alloc (.cells #[.int .i64 I, .slice ao nn nc] 52)) B e (Value.slice oa 0 oc').ownBlock) := Lib.hid (fun B e ne y hy => by
            obtain ⟨cur, t⟩ := own_typed (keepB HOWN.out ((Below.refl _ wv).alloc (Nat.le_refl _) (.cells #[.int .i64 I, .slice ao nn nc] 52))) hy
            exact .inr ⟨cur, 52, t, ne⟩)
          have HOD2 : Hid (OdOwn (w8.setCell ⟨g, 3, none⟩ (.slice (some ⟨g', 0, none⟩) (0 + 1) cap')) n₂ (.slice (some ⟨g', 0, none⟩) (0 + 1) cap') (0 + 1) ([] ++ [(I, Lx)])) := Lib.hid (by
            have mv : ∀ {u : Value} {l : List Sp}, wv.ownsRow n₂ 50 2 u l.length (spCells l) → w8.ownsRow n₂ 50 2 u l.length (spCells l) := fun h => own_off (keepB h ((Below.refl _ wv).alloc (Nat.le_refl _) _)) HG8.out (HOF.out _ 50 (by decide))
            have c8 := od_snoc (i := I) (u := .slice ao nn nc) (l := Lx) HOV.out.len HN8.out (fun i hi => by obtain ⟨h1, ⟨u, h2, h3⟩, h4⟩ := HINN.out i hi; exact ⟨h1, ⟨u, h2, mv h3⟩, h4⟩) (mv HROW.out) (by omega) (by omega)
            exact c8.grown (grown_cell w8 ⟨g, 3, none⟩ _) (fun q e => .inl (by cases e; exact HA8.out.hi)) (fun q e => .inl (by cases e; exact HA8.out.hi)))
          have HCO2 : Hid (When kk (CoOwn (w8.setCell ⟨g, 3, none⟩ (.slice (some ⟨g', 0, none⟩) (0 + 1) cap')) n₁ (.slice xo xn xc) a (grpCs cs P N m a))) := Lib.hid (fun _ => by
            have c8 := ((HCV.out rfl).keep ((Below.refl _ wv).alloc (Nat.le_refl _) (.cells #[.int .i64 I, .slice ao nn nc] 52))).grown HG8.out (HOF.out _ 34 (by decide)) (HOF.out _ 50 (by decide))
            exact c8.grown (grown_cell w8 ⟨g, 3, none⟩ _) (fun y e => .inr (by cases e; exact ⟨_, 25, HA8.out.g_, by decide⟩)) (fun y e => .inr (by cases e; exact ⟨_, 25, HA8.out.g_, by decide⟩)))
          go_roundw
          case rel => exact ⟨i + 1, some ⟨g', 0, none⟩, 0 + 1, cap', [] ++ [(I, Lx)], kk, room - (nn : Int), by omega, by simp, rfl, rfl, by omega, by omega, by omega, (by rcases HKK.out with h | h; exact .inl h; exact .inr (.inr h)), HPU, HOD2, HCO2, HST2, (Lib.hid (fun _ => HK0.out rfl))⟩
          case measure => simp [intOf]; omega
      · have HNX : Hid (GpS ⟨P, N, co, cn, cc, (some ⟨bo, po, none⟩), on, oc, cs, os⟩ m a k (i + 1) 3 acc room) := Lib.hid (gpS_on (by decide) HST.out _)
        go_wp2_with fail
        go_roundw
        case rel => exact ⟨i + 1, _, _, _, _, _, room, by omega, by simp, rfl, rfl, by omega, by omega, by omega, by omega, HGY, HOY, HCY, Lib.hid (HNX.out), HK0⟩
        case measure => simp [intOf]; omega
      · have HNX : Hid (GpS ⟨P, N, co, cn, cc, (some ⟨bo, po, none⟩), on, oc, cs, os⟩ m a k (i + 1) 20 acc room) := Lib.hid (gpS_on (by decide) HST.out _)
        go_wp2_with fail
        go_roundw
        case rel => exact ⟨i + 1, _, _, _, _, _, room, by omega, by simp, rfl, rfl, by omega, by omega, by omega, by omega, HGY, HOY, HCY, Lib.hid (HNX.out), HK0⟩
        case measure => simp [intOf]; omega
    · obtain rfl : on = i := by omega
      rcases hkw with rfl | rfl | rfl
      · obtain ⟨hP, hN, hxn⟩ := HPN.out (HK0.out rfl)
        subst hP hN hxn
        have HST' : Hid (GpS ⟨P, N, co, cn, cc, oo, on, oc, cs, os⟩ m xn k os.length 0 acc room) := Lib.hid (by rw [LO.out]; exact HST.out)
        have HGO : Hid (GrpOK ⟨P, N, co, cn, cc, oo, on, oc, cs, os⟩ m xn k ∧ acc = gpOs (gr ⟨P, N, co, cn, cc, oo, on, oc, cs, os⟩) m os) := Lib.hid (by
          rcases HST'.out with ⟨_, h1, h2, h3, h4⟩ | ⟨h, _⟩ | ⟨h, _⟩
          · rw [show (⟨P, N, co, cn, cc, oo, on, oc, cs, os⟩ : Fv).os.take os.length = os from List.take_length] at h2 h4
            exact ⟨⟨h1, h4⟩, h2⟩
          · cases h
          · cases h)
        have HCE := Lib.hid (HCO.out rfl)
        obtain ⟨co1, c1, e1, xk1⟩ := HCE.out.vs
        cases e1
        obtain ⟨oo1, c2, e2, xk2⟩ := HOD.out.vs
        cases e2
        have HSZ : Hid (Fv.size (⟨P * (k : Int), (xn : Int), xo, xn, xc, oa, na, oc', grpCs cs P N m xn, acc⟩ : Fv) = (gpF ⟨P, N, co, cn, cc, oo, on, oc, cs, os⟩ m xn k).size) := Lib.hid (by show lens (grpCs cs P N m xn) + lens (tks acc) = lens (grpCs cs P N m xn) + lens (tks (gpOs (gr ⟨P, N, co, cn, cc, oo, on, oc, cs, os⟩) m os)); rw [← HGO.out.2])
        have HKA : Hid (Fv.At (⟨P * (k : Int), (xn : Int), xo, xn, xc, oa, na, oc', grpCs cs P N m xn, acc⟩ : Fv) wr) := Lib.hid ⟨(show (-9223372036854775808 : Int) ≤ P * (k : Int) by have := HP0.out; omega), (show P * (k : Int) ≤ 9223372036854775807 by have h : P * (k : Int) ≤ 1099511627776 := HGO.out.1.1.2.1; omega), (show (-9223372036854775808 : Int) ≤ (xn : Int) by omega), (show (xn : Int) ≤ 9223372036854775807 by omega), xk1, xk2, ⟨fun l hl => by have h1 := grp_each HS.out m xn l hl; have : m * 1000 ≤ 6000 * 1000 := Nat.mul_le_mul_right _ hm2; omega, fun o ho => by have h1 := gp_each HGL.out m os [] (fun o h => by cases h) o (by have := HGO.out.2; dsimp only at ho; rw [this] at ho; exact ho); have : m * 1000 ≤ 6000 * 1000 := Nat.mul_le_mul_right _ hm2; omega⟩⟩
        clear xk1 xk2 HST HST' hr1 hr2
        have HLK : Hid (acc.length = na) := Lib.hid HOD.out.len
        by_cases big : 60000 < Fv.size (⟨P * (k : Int), (xn : Int), xo, xn, xc, oa, na, oc', grpCs cs P N m xn, acc⟩ : Fv)
        · have CD := Lib.hid (done_long (⟨P * (k : Int), (xn : Int), xo, xn, xc, oa, na, oc', grpCs cs P N m xn, acc⟩ : Fv) wr HKA.out (show xn ≤ 6000 by omega) (show na ≤ 6000 by omega) big)
          have CD : Hid (Calls Try.prog 27 #[.agg #[.int .i64 (P * (k : Int)), .int .i64 (xn : Int), .slice xo xn xc, .slice oa na oc']] wr fun e w' => e = .returned (.tuple #[.agg #[.int .i64 0, .int .i64 0, .slice none 0 0, .slice none 0 0], .int .i64 3]) ∧ Hid (Below wr.heap.size wr w')) := CD
          have HBIG : Hid (60000 < (gpF ⟨P, N, co, cn, cc, oo, on, oc, cs, os⟩ m xn k).size) := Lib.hid (by rw [← HSZ.out]; exact big)
          clear big
          have p0 := cell_block HGW.out.g_ 0
          have p1 := cell_block HGW.out.g_ 1
          have p2 := cell_block HGW.out.g_ 2
          have p3 := cell_block HGW.out.g_ 3
          go_wp2_with fail
          (with_reducible refine CD.out.mono ?_)
          rintro e wz ⟨rfl, q⟩
          have HGZ := Lib.hid (HGW.out.keep q.out)
          clear q p0 p1 p2 p3 CD
          have r0 := cell_block HGZ.out.b1 0
          have r1 := cell_block HGZ.out.b1 1
          have r2 := cell_block HGZ.out.b1 2
          have r3 := cell_block HGZ.out.b1 3
          have f0 := free_blk HGZ.out.b1 0
          have f1 := free_blk HGZ.out.b1 1
          have f2 := free_blk HGZ.out.b1 2
          have f3 := free_blk HGZ.out.b1 3
          go_wp2_with fail
          have RP := Lib.hid (res_put4 HGZ.out.b1 HGZ.out.bw (by have := HRD.out; omega) (.int .i64 0) (.int .i64 0) (.slice none 0 0) (.slice none 0 0))
          obtain ⟨we, hwe⟩ : ∃ we, (((wz.setCell ⟨r, 0, none⟩ (.int .i64 0)).setCell ⟨r, 1, none⟩ (.int .i64 0)).setCell ⟨r, 2, none⟩ (.slice none 0 0)).setCell ⟨r, 3, none⟩ (.slice none 0 0) = we := ⟨_, rfl⟩
          rw [hwe] at RP ⊢
          clear r0 r1 r2 r3 f0 f1 f2 f3 hwe
          have r0 := cell_block RP.out.1 0
          have r1 := cell_block RP.out.1 1
          have r2 := cell_block RP.out.1 2
          have r3 := cell_block RP.out.1 3
          exact bodyPost_ret (v := .tuple #[.agg #[(.int .i64 0), (.int .i64 0), (.slice none 0 0), (.slice none 0 0)], .int .i64 3]) (by simp [results, Try.results8, go_sem, r0, r1, r2, r3]) rfl (⟨.inl ⟨rfl, .inr ⟨HGO.out.1, HBIG.out⟩⟩, Lib.hid RP.out.2.1⟩)
        · have HBIG : Hid ((gpF ⟨P, N, co, cn, cc, oo, on, oc, cs, os⟩ m xn k).size ≤ 60000) := Lib.hid (by rw [← HSZ.out]; omega)
          have HMK : Hid (Fv.Mid (⟨P * (k : Int), (xn : Int), xo, xn, xc, oa, na, oc', grpCs cs P N m xn, acc⟩ : Fv)) := Lib.hid ⟨show xn ≤ 6000 by omega, show na ≤ 6000 by omega, by omega⟩
          clear big
          by_cases rk : Fv.Rt (⟨P * (k : Int), (xn : Int), xo, xn, xc, oa, na, oc', grpCs cs P N m xn, acc⟩ : Fv)
          · have HRK := Lib.hid rk
            have CD := Lib.hid (done_ok (⟨P * (k : Int), (xn : Int), xo, xn, xc, oa, na, oc', grpCs cs P N m xn, acc⟩ : Fv) wr HKA.out HMK.out rk)
            have CD : Hid (Calls Try.prog 27 #[.agg #[.int .i64 (P * (k : Int)), .int .i64 (xn : Int), .slice xo xn xc, .slice oa na oc']] wr fun e w' => ∃ G : Fv, e = .returned (.tuple #[G.v, .int .i64 0]) ∧ Hid (IsCan (⟨P * (k : Int), (xn : Int), xo, xn, xc, oa, na, oc', grpCs cs P N m xn, acc⟩ : Fv) G) ∧ Hid (G.Own w' wr.heap.size) ∧ Hid (Below wr.heap.size wr w')) := CD
            clear rk
            have p0 := cell_block HGW.out.g_ 0
            have p1 := cell_block HGW.out.g_ 1
            have p2 := cell_block HGW.out.g_ 2
            have p3 := cell_block HGW.out.g_ 3
            go_wp2_with fail
            (with_reducible refine CD.out.mono ?_)
            rintro e wz ⟨G, rfl, HIC, HGO2, q⟩
            obtain ⟨GP, GN, gco, gcn, gcc, goo, gon, goc, gcs, gos⟩ := G
            have HGZ := Lib.hid (HGW.out.keep q.out)
            clear q p0 p1 p2 p3 CD
            have r0 := cell_block HGZ.out.b1 0
            have r1 := cell_block HGZ.out.b1 1
            have r2 := cell_block HGZ.out.b1 2
            have r3 := cell_block HGZ.out.b1 3
            have f0 := free_blk HGZ.out.b1 0
            have f1 := free_blk HGZ.out.b1 1
            have f2 := free_blk HGZ.out.b1 2
            have f3 := free_blk HGZ.out.b1 3
            go_wp2_with fail
            have RP := Lib.hid (res_put4 HGZ.out.b1 HGZ.out.bw (by have := HRD.out; omega) (.int .i64 GP) (.int .i64 GN) (.slice gco gcn gcc) (.slice goo gon goc))
            have HOE := Lib.hid ((HGO2.out.row RP.out.2.2 (by have := HGW.out.sz; have := HGW.out.mid; have := HGW.out.hi; omega)).mono HGW.out.bw.size)
            obtain ⟨we, hwe⟩ : ∃ we, (((wz.setCell ⟨r, 0, none⟩ (.int .i64 GP)).setCell ⟨r, 1, none⟩ (.int .i64 GN)).setCell ⟨r, 2, none⟩ (.slice gco gcn gcc)).setCell ⟨r, 3, none⟩ (.slice goo gon goc) = we := ⟨_, rfl⟩
            rw [hwe] at RP HOE ⊢
            clear r0 r1 r2 r3 f0 f1 f2 f3 hwe
            have r0 := cell_block RP.out.1 0
            have r1 := cell_block RP.out.1 1
            have r2 := cell_block RP.out.1 2
            have r3 := cell_block RP.out.1 3
            exact bodyPost_ret (v := .tuple #[.agg #[(.int .i64 GP), (.int .i64 GN), (.slice gco gcn gcc), (.slice goo gon goc)], .int .i64 0]) (by simp [results, Try.results8, go_sem, r0, r1, r2, r3]) rfl (⟨.inr (.inr ⟨HGO.out.1, HBIG.out, (⟨P * (k : Int), (xn : Int), xo, xn, xc, oa, na, oc', grpCs cs P N m xn, acc⟩ : Fv), ⟨GP, GN, gco, gcn, gcc, goo, gon, goc, gcs, gos⟩, ⟨rfl, rfl, rfl, by show na = _; rw [← HLK.out, HGO.out.2], rfl, HGO.out.2⟩, HRK.out, HIC.out, HOE.out, rfl⟩), Lib.hid RP.out.2.1⟩)
          · have HNK : Hid (¬ (gpF ⟨P, N, co, cn, cc, oo, on, oc, cs, os⟩ m xn k).Rt) := Lib.hid (fun z => rk (rt_like z rfl rfl rfl (by show na = (gpOs (gr ⟨P, N, co, cn, cc, oo, on, oc, cs, os⟩) m os).length; rw [← HLK.out, HGO.out.2]) rfl (by show acc = gpOs (gr ⟨P, N, co, cn, cc, oo, on, oc, cs, os⟩) m os; exact HGO.out.2)))
            have CD := Lib.hid (done_no (⟨P * (k : Int), (xn : Int), xo, xn, xc, oa, na, oc', grpCs cs P N m xn, acc⟩ : Fv) wr HKA.out HMK.out rk)
            have CD : Hid (Calls Try.prog 27 #[.agg #[.int .i64 (P * (k : Int)), .int .i64 (xn : Int), .slice xo xn xc, .slice oa na oc']] wr fun e w' => e = .returned (.tuple #[.agg #[.int .i64 0, .int .i64 0, .slice none 0 0, .slice none 0 0], .int .i64 20]) ∧ Hid (Below wr.heap.size wr w')) := CD
            clear rk
            have p0 := cell_block HGW.out.g_ 0
            have p1 := cell_block HGW.out.g_ 1
            have p2 := cell_block HGW.out.g_ 2
            have p3 := cell_block HGW.out.g_ 3
            go_wp2_with fail
            (with_reducible refine CD.out.mono ?_)
            rintro e wz ⟨rfl, q⟩
            have HGZ := Lib.hid (HGW.out.keep q.out)
            clear q p0 p1 p2 p3 CD
            have r0 := cell_block HGZ.out.b1 0
            have r1 := cell_block HGZ.out.b1 1
            have r2 := cell_block HGZ.out.b1 2
            have r3 := cell_block HGZ.out.b1 3
            have f0 := free_blk HGZ.out.b1 0
            have f1 := free_blk HGZ.out.b1 1
            have f2 := free_blk HGZ.out.b1 2
            have f3 := free_blk HGZ.out.b1 3
            go_wp2_with fail
            have RP := Lib.hid (res_put4 HGZ.out.b1 HGZ.out.bw (by have := HRD.out; omega) (.int .i64 0) (.int .i64 0) (.slice none 0 0) (.slice none 0 0))
            obtain ⟨we, hwe⟩ : ∃ we, (((wz.setCell ⟨r, 0, none⟩ (.int .i64 0)).setCell ⟨r, 1, none⟩ (.int .i64 0)).setCell ⟨r, 2, none⟩ (.slice none 0 0)).setCell ⟨r, 3, none⟩ (.slice none 0 0) = we := ⟨_, rfl⟩
            rw [hwe] at RP ⊢
            clear r0 r1 r2 r3 f0 f1 f2 f3 hwe
            have r0 := cell_block RP.out.1 0
            have r1 := cell_block RP.out.1 1
            have r2 := cell_block RP.out.1 2
            have r3 := cell_block RP.out.1 3
            exact bodyPost_ret (v := .tuple #[.agg #[(.int .i64 0), (.int .i64 0), (.slice none 0 0), (.slice none 0 0)], .int .i64 20]) (by simp [results, Try.results8, go_sem, r0, r1, r2, r3]) rfl (⟨.inr (.inl ⟨rfl, .inr ⟨HGO.out.1, HBIG.out, HNK.out⟩⟩), Lib.hid RP.out.2.1⟩)
      · have HBD : Hid (60000 < k * lens cs) := Lib.hid (by rcases HST.out with ⟨h, _⟩ | ⟨_, h⟩ | ⟨h, _⟩ <;> first | exact h | cases h)
        have r0 := cell_block HGW.out.b1 0
        have r1 := cell_block HGW.out.b1 1
        have r2 := cell_block HGW.out.b1 2
        have r3 := cell_block HGW.out.b1 3
        have f0 := free_blk HGW.out.b1 0
        have f1 := free_blk HGW.out.b1 1
        have f2 := free_blk HGW.out.b1 2
        have f3 := free_blk HGW.out.b1 3
        go_wp2_with fail
        have RP := Lib.hid (res_put4 HGW.out.b1 HGW.out.bw (by have := HRD.out; omega) (.int .i64 0) (.int .i64 0) (.slice none 0 0) (.slice none 0 0))
        obtain ⟨we, hwe⟩ : ∃ we, (((wr.setCell ⟨r, 0, none⟩ (.int .i64 0)).setCell ⟨r, 1, none⟩ (.int .i64 0)).setCell ⟨r, 2, none⟩ (.slice none 0 0)).setCell ⟨r, 3, none⟩ (.slice none 0 0) = we := ⟨_, rfl⟩
        rw [hwe] at RP ⊢
        clear r0 r1 r2 r3 f0 f1 f2 f3 hwe
        have r0 := cell_block RP.out.1 0
        have r1 := cell_block RP.out.1 1
        have r2 := cell_block RP.out.1 2
        have r3 := cell_block RP.out.1 3
        exact bodyPost_ret (v := .tuple #[.agg #[(.int .i64 0), (.int .i64 0), (.slice none 0 0), (.slice none 0 0)], .int .i64 3]) (by simp [results, Try.results8, go_sem, r0, r1, r2, r3]) rfl (⟨.inl ⟨rfl, .inl HBD.out⟩, Lib.hid RP.out.2.1⟩)
      · have HBD : Hid (k * lens cs ≤ 60000 ∧ ¬ GrpOK ⟨P, N, co, cn, cc, oo, on, oc, cs, os⟩ m a k) := Lib.hid (by rcases HST.out with ⟨h, _⟩ | ⟨h, _⟩ | ⟨_, h⟩ <;> first | exact h | cases h)
        have r0 := cell_block HGW.out.b1 0
        have r1 := cell_block HGW.out.b1 1
        have r2 := cell_block HGW.out.b1 2
        have r3 := cell_block HGW.out.b1 3
        have f0 := free_blk HGW.out.b1 0
        have f1 := free_blk HGW.out.b1 1
        have f2 := free_blk HGW.out.b1 2
        have f3 := free_blk HGW.out.b1 3
        go_wp2_with fail
        have RP := Lib.hid (res_put4 HGW.out.b1 HGW.out.bw (by have := HRD.out; omega) (.int .i64 0) (.int .i64 0) (.slice none 0 0) (.slice none 0 0))
        obtain ⟨we, hwe⟩ : ∃ we, (((wr.setCell ⟨r, 0, none⟩ (.int .i64 0)).setCell ⟨r, 1, none⟩ (.int .i64 0)).setCell ⟨r, 2, none⟩ (.slice none 0 0)).setCell ⟨r, 3, none⟩ (.slice none 0 0) = we := ⟨_, rfl⟩
        rw [hwe] at RP ⊢
        clear r0 r1 r2 r3 f0 f1 f2 f3 hwe
        have r0 := cell_block RP.out.1 0
        have r1 := cell_block RP.out.1 1
        have r2 := cell_block RP.out.1 2
        have r3 := cell_block RP.out.1 3
        exact bodyPost_ret (v := .tuple #[.agg #[(.int .i64 0), (.int .i64 0), (.slice none 0 0), (.slice none 0 0)], .int .i64 20]) (by simp [results, Try.results8, go_sem, r0, r1, r2, r3]) rfl (⟨.inr (.inl ⟨rfl, .inl HBD.out⟩), Lib.hid RP.out.2.1⟩)
end Go.Proofs.Ytmjapbjjfhmohaa
