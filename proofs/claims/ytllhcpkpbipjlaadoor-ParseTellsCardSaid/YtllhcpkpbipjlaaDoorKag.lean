/- M9 in one. -/
import Derived.Test.YtllhcpkpbipjlaaDoorKp
import Derived.Test.YtllhcpkpbipjlaaDoorKae
import Derived.Test.YtllhcpkpbipjlaaDoorKaf
namespace Go.Proofs.YtllhcpkpbipjlaaDoor
set_option linter.unusedVariables false
set_option linter.unusedSimpArgs false
open Go.ChangeShapes Go.WideShapes Go.ChangeAt Go.RowKit

def wordsF (rd pi : List UInt8 → Option Int) : Nat → List UInt8 → Nat → List Lx.Tk → List Lx.Tk × Int
  | _, [], _, acc => (acc, -1)
  | 0, _, _, acc => (acc, -1)
  | N + 1, c :: r, k, acc => if Lx.blk c = true then wordsF rd pi N r (k + 1) acc else
    match Lx.first rd pi (c :: r) with
    | none => ([], (k : Int))
    | some (t, n) => wordsF rd pi N (r.drop (n - 1)) (k + n) (acc ++ [t])
theorem words_F (rd pi : List UInt8 → Option Int) : ∀ (N : Nat) (s : List UInt8), s.length ≤ N → ∀ (k : Nat) (acc : List Lx.Tk), Lx.words rd pi s k acc = wordsF rd pi N s k acc
  | N, [], _, k, acc => by rw [Lx.words_nil]; cases N <;> rfl
  | 0, c :: r, h, _, _ => by simp at h
  | N + 1, c :: r, h, k, acc => by
    have hr : r.length ≤ N := by simpa using h
    show _ = if Lx.blk c = true then wordsF rd pi N r (k + 1) acc else
      match Lx.first rd pi (c :: r) with
      | none => ([], (k : Int))
      | some (t, n) => wordsF rd pi N (r.drop (n - 1)) (k + n) (acc ++ [t])
    cases hb : Lx.blk c
    · cases hf : Lx.first rd pi (c :: r) with
      | none => rw [Lx.words_none rd pi hb hf]; rfl
      | some x =>
        obtain ⟨t, n⟩ := x
        rw [Lx.words_some rd pi hb hf, words_F rd pi N _ (by rw [List.length_drop]; omega)]; rfl
    · rw [Lx.words_blank rd pi hb, words_F rd pi N r hr]; rfl
theorem tkb_nil : Lx.TkB [] := fun t ht => by cases ht
theorem tkb_cons {t : Lx.Tk} {l : List Lx.Tk} (h1 : (0 ≤ t.1 ∧ t.1 ≤ 255) ∧ t.2.1.length ≤ 1000 ∧ -9223372036854775808 ≤ t.2.2 ∧ t.2.2 ≤ 9223372036854775807) (h2 : Lx.TkB l) : Lx.TkB (t :: l) := fun x hx => by
  rcases List.mem_cons.1 hx with rfl | h
  · exact ⟨h1.1, Nat.le_trans h1.2.1 (by decide), h1.2.2⟩
  · exact h2 x h
def TA : List Lx.Tk := [(1, [103, 114, 111, 117, 112], 0), (4, [40], 0), (2, [], 3), (4, [44], 0), (1, [100, 97, 121], 0), (4, [41], 0)]
theorem wA : Lx.words readOf piOf [103, 114, 111, 117, 112, 40, 51, 44, 32, 100, 97, 121, 41] 0 [] = (TA, -1) := by rw [words_F readOf piOf 13 _ (by decide)]; decide
theorem bA : Lx.TkB TA := tkb_cons (by decide) (tkb_cons (by decide) (tkb_cons (by decide) (tkb_cons (by decide) (tkb_cons (by decide) (tkb_cons (by decide) (tkb_nil))))))
def TB : List Lx.Tk := [(1, [117, 110, 105, 111, 110], 0), (4, [40], 0), (1, [97], 0), (4, [44], 0), (1, [115, 104, 105, 102, 116], 0), (4, [40], 0), (2, [], -1), (4, [44], 0), (1, [98], 0), (4, [41], 0), (4, [41], 0)]
theorem wB : Lx.words readOf piOf [117, 110, 105, 111, 110, 40, 97, 44, 32, 115, 104, 105, 102, 116, 40, 45, 49, 44, 32, 98, 41, 41] 0 [] = (TB, -1) := by rw [words_F readOf piOf 22 _ (by decide)]; decide
theorem bB : Lx.TkB TB := tkb_cons (by decide) (tkb_cons (by decide) (tkb_cons (by decide) (tkb_cons (by decide) (tkb_cons (by decide) (tkb_cons (by decide) (tkb_cons (by decide) (tkb_cons (by decide) (tkb_cons (by decide) (tkb_cons (by decide) (tkb_cons (by decide) (tkb_nil)))))))))))
def TC : List Lx.Tk := [(1, [103, 114, 111, 117, 112], 0), (4, [40], 0), (1, [100, 97, 121], 0), (4, [41], 0)]
theorem wC : Lx.words readOf piOf [103, 114, 111, 117, 112, 40, 100, 97, 121, 41] 0 [] = (TC, -1) := by rw [words_F readOf piOf 10 _ (by decide)]; decide
theorem bC : Lx.TkB TC := tkb_cons (by decide) (tkb_cons (by decide) (tkb_cons (by decide) (tkb_cons (by decide) (tkb_nil))))
def TD : List Lx.Tk := [(1, [103, 114, 111, 117, 112], 0), (4, [40], 0), (2, [], 3), (4, [44], 0), (1, [100, 97, 121], 0)]
theorem wD : Lx.words readOf piOf [103, 114, 111, 117, 112, 40, 51, 44, 32, 100, 97, 121] 0 [] = (TD, -1) := by rw [words_F readOf piOf 12 _ (by decide)]; decide
theorem bD : Lx.TkB TD := tkb_cons (by decide) (tkb_cons (by decide) (tkb_cons (by decide) (tkb_cons (by decide) (tkb_cons (by decide) (tkb_nil)))))
def TE : List Lx.Tk := [(1, [97], 0), (1, [98], 0)]
theorem wE : Lx.words readOf piOf [97, 32, 98] 0 [] = (TE, -1) := by rw [words_F readOf piOf 3 _ (by decide)]; decide
theorem bE : Lx.TkB TE := tkb_cons (by decide) (tkb_cons (by decide) (tkb_nil))
def TF : List Lx.Tk := []
theorem wF : Lx.words readOf piOf [] 0 [] = (TF, -1) := Lx.words_nil readOf piOf 0 []
theorem bF : Lx.TkB TF := tkb_nil
def TG : List Lx.Tk := [(1, [103, 114, 111, 117, 112], 0)]
theorem wG : Lx.words readOf piOf [103, 114, 111, 117, 112] 0 [] = (TG, -1) := by rw [words_F readOf piOf 5 _ (by decide)]; decide
theorem bG : Lx.TkB TG := tkb_cons (by decide) (tkb_nil)
def TH : List Lx.Tk := [(1, [98, 111, 117, 110, 100], 0), (1, [120], 0), (1, [121], 0), (1, [100, 97, 121], 0), (4, [91], 0), (2, [], 1), (4, [58], 0), (4, [93], 0)]
theorem wH : Lx.words readOf piOf [98, 111, 117, 110, 100, 32, 120, 32, 121, 32, 100, 97, 121, 32, 91, 49, 58, 93] 0 [] = (TH, -1) := by rw [words_F readOf piOf 18 _ (by decide)]; decide
theorem bH : Lx.TkB TH := tkb_cons (by decide) (tkb_cons (by decide) (tkb_cons (by decide) (tkb_cons (by decide) (tkb_cons (by decide) (tkb_cons (by decide) (tkb_cons (by decide) (tkb_cons (by decide) (tkb_nil))))))))
def TI : List Lx.Tk := [(1, [100, 101, 102, 105, 110, 101], 0), (1, [97], 0), (4, [61], 0), (1, [98], 0)]
theorem wI : Lx.words readOf piOf [100, 101, 102, 105, 110, 101, 32, 97, 32, 61, 32, 98] 0 [] = (TI, -1) := by rw [words_F readOf piOf 12 _ (by decide)]; decide
theorem bI : Lx.TkB TI := tkb_cons (by decide) (tkb_cons (by decide) (tkb_cons (by decide) (tkb_cons (by decide) (tkb_nil))))
def TJ : List Lx.Tk := [(1, [100, 101, 102, 105, 110, 101], 0), (1, [97], 0), (1, [98], 0)]
theorem wJ : Lx.words readOf piOf [100, 101, 102, 105, 110, 101, 32, 97, 32, 98] 0 [] = (TJ, -1) := by rw [words_F readOf piOf 10 _ (by decide)]; decide
theorem bJ : Lx.TkB TJ := tkb_cons (by decide) (tkb_cons (by decide) (tkb_cons (by decide) (tkb_nil)))
def TK : List Lx.Tk := [(1, [83, 104, 111, 119], 0), (1, [97], 0)]
theorem wK : Lx.words readOf piOf [83, 104, 111, 119, 32, 97] 0 [] = (TK, -1) := by rw [words_F readOf piOf 6 _ (by decide)]; decide
theorem bK : Lx.TkB TK := tkb_cons (by decide) (tkb_cons (by decide) (tkb_nil))
theorem eA : Lx.exprE TA = (.mk 1 [] [3] [.mk 0 [100, 97, 121] [] []], -1, 0) := by kernel_rfl
theorem eB : Lx.exprE TB = (.mk 10 [] [] [.mk 0 [97] [] [], .mk 2 [] [-1] [.mk 0 [98] [] []]], -1, 0) := by kernel_rfl
theorem eC : Lx.exprE TC = (Lx.leaf [], 2, 110) := by kernel_rfl
theorem eD : Lx.exprE TD = (Lx.leaf [], 5, 110) := by kernel_rfl
theorem eE : Lx.exprE TE = (Lx.leaf [], 1, 110) := by kernel_rfl
theorem eF : Lx.exprE TF = (Lx.leaf [], 0, 110) := by kernel_rfl
theorem eG : Lx.exprE TG = (.mk 0 [103, 114, 111, 117, 112] [] [], -1, 0) := by kernel_rfl
theorem cH : Lx.cmE TH = (⟨[98, 111, 117, 110, 100], [[120], [121], [100, 97, 121]], [], ⟨1, 0, true, false⟩, Lx.leaf []⟩, -1, 0) := by kernel_rfl
theorem cI : Lx.cmE TI = (⟨[100, 101, 102, 105, 110, 101], [[97]], [], ⟨0, 0, false, false⟩, .mk 0 [98] [] []⟩, -1, 0) := by kernel_rfl
theorem cJ : Lx.cmE TJ = (⟨[], [], [], ⟨0, 0, false, false⟩, Lx.leaf []⟩, 2, 110) := by kernel_rfl
theorem cK : Lx.cmE TK = (⟨[], [], [], ⟨0, 0, false, false⟩, Lx.leaf []⟩, 0, 110) := by kernel_rfl

set_option maxRecDepth 20000 in
set_option maxHeartbeats 1000000 in
theorem line_e (s : ByteArray) (T : List Lx.Tk) (er : Int) (F : Lx.Ex) (at_ wr : Int) (hw : Lx.words readOf piOf s.data.toList 0 [] = (T, er)) (he : Lx.exprE T = (F, at_, wr)) (hB : Lx.TkB T) (hs : s.size ≤ 1000) (w : World) (hT : Tabn w) (hW : Tabw w) :
    Calls Tryd.prog 25 #[.string s] w fun e w' => ∃ z : Hv, e = .returned (.tuple #[.agg #[.int .u8 z.p.op, .string z.p.nm, .slice z.an z.nn z.nc, .slice z.aa z.p.k z.ac], .int .i64 at_, .int .i64 wr]) ∧ Hid (Below w.heap.size w w') ∧ Hid (ExAt w' 41 (hV z) (tour F)) := by
  obtain ⟨b, hb⟩ : ∃ z, w.heap.size = z := ⟨_, rfl⟩
  obtain ⟨w1, hw1⟩ : ∃ z, w.alloc (.cells #[.int .u8 0, .string ⟨#[]⟩, .slice none 0 0, .slice none 0 0] 31) = z := ⟨_, rfl⟩
  have KA := Lib.hid (show Below w.heap.size w w1 by rw [← hw1]; exact (Below.refl _ w).alloc (Nat.le_refl _) _)
  have HRB : Hid (w1.heap[b]? = some (.cells #[.int .u8 0, .string ⟨#[]⟩, .slice none 0 0, .slice none 0 0] 31 (0, 0))) := Lib.hid (by rw [← hw1, ← hb, al_new])
  have HLO : Hid (w.heap.size = b) := Lib.hid hb
  have HWD := Lib.hid (rwords_any s w1 hs)
  rw [hw] at HWD
  dsimp only at HWD
  have HX : Hid (∀ W ao c, TkAt W ao T.length c T → Below w.heap.size w W → Calls Tryd.prog 13 #[.slice ao T.length c] W fun e w' => ∃ z : Hv, e = .returned (.tuple #[.agg #[.int .u8 z.p.op, .string z.p.nm, .slice z.an z.nn z.nc, .slice z.aa z.p.k z.ac], .int .i64 at_, .int .i64 wr]) ∧ Hid (Below W.heap.size W w') ∧ Hid (ExAt (only (frB W.heap.size) w') 41 (hV z) (tour F))) := Lib.hid (fun W ao c h k => by
    have := expr_any W ao T.length c T h hB (hT.keep k) (hW.keep k)
    rw [he] at this
    exact this)
  clear hw he hB hT hW hs
  go_enter Tryd.func25, Tryd.ntmps25
  go_upto_region 1 with fail
  clear hw1 hb
  go_wp2_with fail
  (with_reducible refine HWD.out.mono ?_)
  rintro e w2 ⟨v, rfl, HO, HB2⟩
  have KA := Lib.hid (KA.out.trans (HB2.out.mono KA.out.size))
  have HRB := Lib.hid ((HB2.out.block b (Array.getElem?_eq_some_iff.1 HRB.out).1).trans HRB.out)
  obtain ⟨ao, c, rfl, ht⟩ := own_tk HO.out
  have HXX := Lib.hid (HX.out w2 ao c ht KA.out)
  clear HWD HO HB2 ht HX
  go_wp2_with fail
  (with_reducible refine HXX.out.mono ?_)
  rintro e w3 ⟨⟨⟨zo, znm, znu, zk⟩, zan, znn, znc, zaa, zac⟩, rfl, HB3, HX3⟩
  have HLT := Lib.hid (Array.getElem?_eq_some_iff.1 HRB.out).1
  have KA := Lib.hid (KA.out.trans (HB3.out.mono KA.out.size))
  have HRB := Lib.hid ((HB3.out.block b HLT.out).trans HRB.out)
  have d0 := cell_blk HRB.out 0
  have d1 := cell_blk HRB.out 1
  have d2 := cell_blk HRB.out 2
  have d3 := cell_blk HRB.out 3
  have g0 := blk_free HRB.out 0
  have g1 := blk_free HRB.out 1
  have g2 := blk_free HRB.out 2
  have g3 := blk_free HRB.out 3
  clear HXX HB3
  go_wp2
  obtain ⟨wf, hwf⟩ : ∃ z, put4 w3 b (.int .u8 zo) (.string znm) (.slice zan znn znc) (.slice zaa zk zac) = z := ⟨_, rfl⟩
  have hwf' := hwf
  unfold put4 at hwf'
  rw [hwf']
  have XF := put4_on HRB.out (.int .u8 zo) (.string znm) (.slice zan znn znc) (.slice zaa zk zac)
  have g := put4_grown w3 b (.int .u8 zo) (.string znm) (.slice zan znn znc) (.slice zaa zk zac)
  rw [hwf] at g XF
  have r0 := cell_blk XF 0
  have r1 := cell_blk XF 1
  have r2 := cell_blk XF 2
  have r3 := cell_blk XF 3
  refine bodyPost_ret (v := .tuple #[.agg #[.int .u8 zo, .string znm, .slice zan znn znc, .slice zaa zk zac], .int .i64 at_, .int .i64 wr]) (by simp [results, Tryd.results25, go_sem, r0, r1, r2, r3]) rfl ⟨⟨⟨zo, znm, znu, zk⟩, zan, znn, znc, zaa, zac⟩, rfl, Lib.hid ?_, Lib.hid ?_⟩
  · exact below_grown KA.out g (fun q e => by cases e; have := HLO.out; omega) KA.out.size
  · refine HX3.out.sub ((only_sub (p' := fun _ => true) (fun q e lt => ⟨rfl, g.block q lt (fun e' => ?_)⟩)).trans only_all)
    have := le_frB e
    have := HLT.out
    cases e'
    omega

theorem agg_inj' {a b : Array Value} (h : Value.agg a = Value.agg b) : a = b := by injection h
/-- The head of an expression in memory is the head of its tour. -/
theorem ex_top {w : World} {n : Nat} {z : Hv} {op : Int} {nm : List UInt8} {nu : List Int} {xs : List Lx.Ex} (h : ExAt w n (hV z) (tour (.mk op nm nu xs))) : z.p.op = op ∧ z.p.nm = ⟨nm.toArray⟩ ∧ z.p.k = xs.length := by
  match n, h with
  | n + 1, h =>
    obtain ⟨p, an, nn, nc, aa, ac, Fs, e1, hh, hk, hF, hc⟩ := h
    have e := congrFun hF 0
    rw [tour] at e
    injection e with e _
    injection e with e _
    subst e
    simp only [hV, pv, Value.agg.injEq, Array.mk.injEq, List.cons.injEq, Value.int.injEq, Value.string.injEq, Value.slice.injEq, true_and, and_true] at e1
    exact ⟨e1.1, e1.2.1, e1.2.2.2.2.1⟩
set_option maxRecDepth 20000 in
set_option maxHeartbeats 2000000 in
theorem line_c (s : ByteArray) (T : List Lx.Tk) (er : Int) (cm : Lx.Cm) (at_ wr : Int) (hw : Lx.words readOf piOf s.data.toList 0 [] = (T, er)) (he : Lx.cmE T = (cm, at_, wr)) (hB : Lx.TkB T) (hs : s.size ≤ 1000) (w : World) (hT : Tabn w) (hW : Tabw w) :
    Calls Tryd.prog 27 #[.string s] w fun e w' => ∃ (an : Option Addr) (c1 : Nat) (am : Option Addr) (c2 : Nat) (z : Hv), e = .returned (.tuple #[.agg #[.string ⟨cm.word.toArray⟩, .slice an cm.names.length c1, .slice am cm.nums.length c2, .int .i64 cm.rg.low, .int .i64 cm.rg.high, .bool cm.rg.hl, .bool cm.rg.hh, .int .u8 z.p.op, .string z.p.nm, .slice z.an z.nn z.nc, .slice z.aa z.p.k z.ac], .int .i64 at_, .int .i64 wr]) ∧ Hid (Below w.heap.size w w') ∧ Hid (StAt w' an cm.names.length c1 (cm.names.map (fun x => ⟨x.toArray⟩))) ∧ Hid (ExAt w' 41 (hV z) (tour cm.ex)) := by
  obtain ⟨b, hb⟩ : ∃ z, w.heap.size = z := ⟨_, rfl⟩
  obtain ⟨w1, hw1⟩ : ∃ z, w.alloc (.cells zerC 39) = z := ⟨_, rfl⟩
  have KA := Lib.hid (show Below w.heap.size w w1 by rw [← hw1]; exact (Below.refl _ w).alloc (Nat.le_refl _) _)
  have HRB : Hid (w1.heap[b]? = some (.cells zerC 39 (0, 0))) := Lib.hid (by rw [← hw1, ← hb, al_new])
  have HLO : Hid (w.heap.size = b) := Lib.hid hb
  have HWD := Lib.hid (rwords_any s w1 hs)
  rw [hw] at HWD
  dsimp only at HWD
  have HX : Hid (∀ W ao c, TkAt W ao T.length c T → Below w.heap.size w W → Calls Tryd.prog 15 #[.slice ao T.length c] W fun e w' => ∃ (an : Option Addr) (c1 : Nat) (am : Option Addr) (c2 : Nat) (z : Hv), e = .returned (.tuple #[.agg #[.string ⟨cm.word.toArray⟩, .slice an cm.names.length c1, .slice am cm.nums.length c2, .int .i64 cm.rg.low, .int .i64 cm.rg.high, .bool cm.rg.hl, .bool cm.rg.hh, .int .u8 z.p.op, .string z.p.nm, .slice z.an z.nn z.nc, .slice z.aa z.p.k z.ac], .int .i64 at_, .int .i64 wr]) ∧ Hid (Below W.heap.size W w') ∧ Hid (CmAt (only (frB W.heap.size) w') cm (.slice an cm.names.length c1) (.slice am cm.nums.length c2) z)) := Lib.hid (fun W ao c h k => by
    have := cmd_any W ao T.length c T h hB (hT.keep k) (hW.keep k)
    rw [he] at this
    refine this.mono ?_
    rintro e w' ⟨vn, vm, z, rfl, hb, hc⟩
    obtain ⟨⟨a1, d1, rfl, s1⟩, ⟨a2, d2, rfl, s2⟩, hx⟩ := hc.out
    exact ⟨a1, d1, a2, d2, z, rfl, hb, Lib.hid ⟨⟨a1, d1, rfl, s1⟩, ⟨a2, d2, rfl, s2⟩, hx⟩⟩)
  obtain ⟨wdb, hwd⟩ : ∃ z : ByteArray, ⟨cm.word.toArray⟩ = z := ⟨_, rfl⟩
  rw [hwd] at HX ⊢
  clear hw he hB hT hW hs hwd
  unfold zerC at hw1
  go_enter Tryd.func27, Tryd.ntmps27
  go_upto_region 1 with fail
  clear hw1 hb
  go_wp2_with fail
  (with_reducible refine HWD.out.mono ?_)
  rintro e w2 ⟨v, rfl, HO, HB2⟩
  have KA := Lib.hid (KA.out.trans (HB2.out.mono KA.out.size))
  have HRB := Lib.hid ((HB2.out.block b (Array.getElem?_eq_some_iff.1 HRB.out).1).trans HRB.out)
  obtain ⟨ao, c, rfl, ht⟩ := own_tk HO.out
  have HXX := Lib.hid (HX.out w2 ao c ht KA.out)
  clear HWD HO HB2 ht HX
  go_wp2_with fail
  (with_reducible refine HXX.out.mono ?_)
  rintro e w3 ⟨an, c1, am, c2, ⟨⟨zo, znm, znu, zk⟩, zan, znn, znc, zaa, zac⟩, rfl, HB3, HX3⟩
  have HLT := Lib.hid (Array.getElem?_eq_some_iff.1 HRB.out).1
  have KA := Lib.hid (KA.out.trans (HB3.out.mono KA.out.size))
  have HRB := Lib.hid ((HB3.out.block b HLT.out).trans HRB.out)
  obtain ⟨nl, hnl⟩ : ∃ z, cm.names.length = z := ⟨_, rfl⟩
  obtain ⟨ml, hml⟩ : ∃ z, cm.nums.length = z := ⟨_, rfl⟩
  obtain ⟨y3, hy3⟩ : ∃ z, cm.rg.low = z := ⟨_, rfl⟩
  obtain ⟨y4, hy4⟩ : ∃ z, cm.rg.high = z := ⟨_, rfl⟩
  obtain ⟨y5, hy5⟩ : ∃ z, cm.rg.hl = z := ⟨_, rfl⟩
  obtain ⟨y6, hy6⟩ : ∃ z, cm.rg.hh = z := ⟨_, rfl⟩
  rw [hnl, hml, hy3, hy4, hy5, hy6]
  have HYY := Lib.hid (And.intro hnl (And.intro hml (And.intro hy3 (And.intro hy4 (And.intro hy5 hy6)))))
  clear hnl hml hy3 hy4 hy5 hy6
  have d0 : w3.cell? ⟨b, 0, none⟩ = some (.string ⟨#[]⟩) := cell_blk HRB.out 0
  have g0 := blk_free HRB.out 0
  have d1 : w3.cell? ⟨b, 1, none⟩ = some (.slice none 0 0) := cell_blk HRB.out 1
  have g1 := blk_free HRB.out 1
  have d2 : w3.cell? ⟨b, 2, none⟩ = some (.slice none 0 0) := cell_blk HRB.out 2
  have g2 := blk_free HRB.out 2
  have d3 : w3.cell? ⟨b, 3, none⟩ = some (.int .i64 0) := cell_blk HRB.out 3
  have g3 := blk_free HRB.out 3
  have d4 : w3.cell? ⟨b, 4, none⟩ = some (.int .i64 0) := cell_blk HRB.out 4
  have g4 := blk_free HRB.out 4
  have d5 : w3.cell? ⟨b, 5, none⟩ = some (.bool false) := cell_blk HRB.out 5
  have g5 := blk_free HRB.out 5
  have d6 : w3.cell? ⟨b, 6, none⟩ = some (.bool false) := cell_blk HRB.out 6
  have g6 := blk_free HRB.out 6
  have d7 : w3.cell? ⟨b, 7, none⟩ = some (.int .u8 0) := cell_blk HRB.out 7
  have g7 := blk_free HRB.out 7
  have d8 : w3.cell? ⟨b, 8, none⟩ = some (.string ⟨#[]⟩) := cell_blk HRB.out 8
  have g8 := blk_free HRB.out 8
  have d9 : w3.cell? ⟨b, 9, none⟩ = some (.slice none 0 0) := cell_blk HRB.out 9
  have g9 := blk_free HRB.out 9
  have d10 : w3.cell? ⟨b, 10, none⟩ = some (.slice none 0 0) := cell_blk HRB.out 10
  have g10 := blk_free HRB.out 10
  clear HXX HB3
  go_wp2
  obtain ⟨wf, hwf⟩ : ∃ z, put11 w3 b (.string wdb) (.slice an nl c1) (.slice am ml c2) (.int .i64 y3) (.int .i64 y4) (.bool y5) (.bool y6) (.int .u8 zo) (.string znm) (.slice zan znn znc) (.slice zaa zk zac) = z := ⟨_, rfl⟩
  have hwf' := hwf
  unfold put11 at hwf'
  rw [hwf']
  have XF := put11_on HRB.out (.string wdb) (.slice an nl c1) (.slice am ml c2) (.int .i64 y3) (.int .i64 y4) (.bool y5) (.bool y6) (.int .u8 zo) (.string znm) (.slice zan znn znc) (.slice zaa zk zac)
  have g := put11_grown w3 b (.string wdb) (.slice an nl c1) (.slice am ml c2) (.int .i64 y3) (.int .i64 y4) (.bool y5) (.bool y6) (.int .u8 zo) (.string znm) (.slice zan znn znc) (.slice zaa zk zac)
  rw [hwf] at g XF
  have r0 := cell_blk XF 0
  have r1 := cell_blk XF 1
  have r2 := cell_blk XF 2
  have r3 := cell_blk XF 3
  have r4 := cell_blk XF 4
  have r5 := cell_blk XF 5
  have r6 := cell_blk XF 6
  have r7 := cell_blk XF 7
  have r8 := cell_blk XF 8
  have r9 := cell_blk XF 9
  have r10 := cell_blk XF 10
  obtain ⟨rfl, rfl, rfl, rfl, rfl, rfl⟩ := HYY.out
  refine bodyPost_ret (v := .tuple #[.agg #[.string wdb, .slice an cm.names.length c1, .slice am cm.nums.length c2, .int .i64 cm.rg.low, .int .i64 cm.rg.high, .bool cm.rg.hl, .bool cm.rg.hh, .int .u8 zo, .string znm, .slice zan znn znc, .slice zaa zk zac], .int .i64 at_, .int .i64 wr]) (by simp [results, Tryd.results27, go_sem, r0, r1, r2, r3, r4, r5, r6, r7, r8, r9, r10]) rfl ⟨an, c1, am, c2, ⟨⟨zo, znm, znu, zk⟩, zan, znn, znc, zaa, zac⟩, rfl, Lib.hid ?_, Lib.hid ?_, Lib.hid ?_⟩
  · exact below_grown KA.out g (fun q e => by cases e; have := HLO.out; omega) KA.out.size
  · have hc := HX3.out.sub ((only_sub (p' := fun _ => true) (w' := wf) (fun q e lt => ⟨rfl, g.block q lt (fun e' => by have := le_frB e; have := HLT.out; have := Option.some.inj e'; omega)⟩)).trans only_all)
    obtain ⟨⟨a1, d1, e1, s1⟩, _, _⟩ := hc
    injection e1 with e1 _ e2
    subst e1 e2
    exact s1
  · have hc := HX3.out.sub ((only_sub (p' := fun _ => true) (w' := wf) (fun q e lt => ⟨rfl, g.block q lt (fun e' => by have := le_frB e; have := HLT.out; have := Option.some.inj e'; omega)⟩)).trans only_all)
    exact hc.ex
end Go.Proofs.YtllhcpkpbipjlaaDoor
