/- Forms in memory; contracts: Size, Small, repeats, measured. -/
import Derived.Test.YtacpcokmgahjaaaDoorSa1
namespace Go.Proofs.YtacpcokmgahjaaaDoor
set_option linter.unusedVariables false
set_option linter.unusedSimpArgs false
open Go.ChangeShapes Go.WideShapes Go.ChangeAt Go.RowKit
/-- A slice of sets. -/
structure CoAt (w : World) (ao : Option Addr) (n c : Nat) (ls : List (List Sp)) : Prop where
  len : ls.length = n
  le : n ≤ c
  top : c ≤ 9223372036854775807
  bare : ao = none → n = 0 ∧ c = 0
  here : 0 < n → ∃ b p, ao = some ⟨b, p, none⟩ ∧ ∀ i (h : i < ls.length), ∃ o k d, w.cell? ⟨b, p + i, none⟩ = some (.slice o k d) ∧ SpAt w o k d ls[i]
theorem CoAt.keep {w w' : World} {ao : Option Addr} {n c : Nat} {ls : List (List Sp)} (h : CoAt w ao n c ls) (k : Below w.heap.size w w') : CoAt w' ao n c ls :=
  ⟨h.len, h.le, h.top, h.bare, fun h0 => by
    obtain ⟨b, p, e, hc⟩ := h.here h0
    refine ⟨b, p, e, fun i hi => ?_⟩
    obtain ⟨o, m, d, h1, h2⟩ := hc i hi
    exact ⟨o, m, d, cell_keep h1 k, h2.keep k⟩⟩
abbrev Gr := Int × List Sp
/-- A slice of exceptions. -/
structure OdAt (w : World) (ao : Option Addr) (n c : Nat) (os : List Gr) : Prop where
  len : os.length = n
  le : n ≤ c
  top : c ≤ 9223372036854775807
  bare : ao = none → n = 0 ∧ c = 0
  here : 0 < n → ∃ b p, ao = some ⟨b, p, none⟩ ∧ ∀ i (h : i < os.length), w.cell? ⟨b, p + i * 2, none⟩ = some (.int .i64 os[i].1) ∧ (∃ o k d, w.cell? ⟨b, p + i * 2 + 1, none⟩ = some (.slice o k d) ∧ SpAt w o k d os[i].2) ∧ -9223372036854775808 ≤ os[i].1 ∧ os[i].1 ≤ 9223372036854775807
theorem OdAt.keep {w w' : World} {ao : Option Addr} {n c : Nat} {os : List Gr} (h : OdAt w ao n c os) (k : Below w.heap.size w w') : OdAt w' ao n c os :=
  ⟨h.len, h.le, h.top, h.bare, fun h0 => by
    obtain ⟨b, p, e, hc⟩ := h.here h0
    refine ⟨b, p, e, fun i hi => ?_⟩
    obtain ⟨h1, ⟨o, m, d, h2, h3⟩, h4⟩ := hc i hi
    exact ⟨cell_keep h1 k, ⟨o, m, d, cell_keep h2 k, h3.keep k⟩, h4⟩⟩
/-- A form as it is handed over. -/
structure Fv where
  P : Int
  N : Int
  co : Option Addr
  cn : Nat
  cc : Nat
  oo : Option Addr
  on : Nat
  oc : Nat
  cs : List (List Sp)
  os : List Gr
abbrev Fv.v (F : Fv) : Value := .agg #[.int .i64 F.P, .int .i64 F.N, .slice F.co F.cn F.cc, .slice F.oo F.on F.oc]
structure Fv.At (F : Fv) (w : World) : Prop where
  p1 : -9223372036854775808 ≤ F.P
  p2 : F.P ≤ 9223372036854775807
  n1 : -9223372036854775808 ≤ F.N
  n2 : F.N ≤ 9223372036854775807
  core : CoAt w F.co F.cn F.cc F.cs
  odd : OdAt w F.oo F.on F.oc F.os
  short : (∀ l ∈ F.cs, l.length ≤ 10000000000000) ∧ ∀ o ∈ F.os, o.2.length ≤ 10000000000000
theorem Fv.At.keep {F : Fv} {w w' : World} (h : F.At w) (k : Below w.heap.size w w') : F.At w' := ⟨h.p1, h.p2, h.n1, h.n2, h.core.keep k, h.odd.keep k, h.short⟩
abbrev Fv.box (F : Fv) : Array Value := #[.int .i64 F.P, .int .i64 F.N, .slice F.co F.cn F.cc, .slice F.oo F.on F.oc]
theorem box4 (w : World) (x y z u : Value) (t : TypeId) : (w.alloc (.cells #[x, y, z, u] t)).cell? ⟨w.heap.size, 0, none⟩ = some x ∧ (w.alloc (.cells #[x, y, z, u] t)).cell? ⟨w.heap.size, 1, none⟩ = some y ∧ (w.alloc (.cells #[x, y, z, u] t)).cell? ⟨w.heap.size, 2, none⟩ = some z ∧ (w.alloc (.cells #[x, y, z, u] t)).cell? ⟨w.heap.size, 3, none⟩ = some u := by
  have h : (w.alloc (.cells #[x, y, z, u] t)).heap[w.heap.size]? = some (.cells #[x, y, z, u] t) := by
    show (w.heap.push _)[w.heap.size]? = _
    simp
  refine ⟨?_, ?_, ?_, ?_⟩ <;> (unfold World.cell?; rw [h]; rfl)
/-- What a function knows of the form that it has boxed. -/
structure Fbox (F : Fv) (w0 w : World) (b : Nat) : Prop where
  at_ : F.At w
  c0 : w.cell? ⟨b, 0, none⟩ = some (.int .i64 F.P)
  c1 : w.cell? ⟨b, 1, none⟩ = some (.int .i64 F.N)
  c2 : w.cell? ⟨b, 2, none⟩ = some (.slice F.co F.cn F.cc)
  c3 : w.cell? ⟨b, 3, none⟩ = some (.slice F.oo F.on F.oc)
  bw : Below w0.heap.size w0 w
theorem Fbox.keep {F : Fv} {w0 w w' : World} {b : Nat} (h : Fbox F w0 w b) (k : Below w.heap.size w w') : Fbox F w0 w' b :=
  ⟨h.at_.keep k, cell_keep h.c0 k, cell_keep h.c1 k, cell_keep h.c2 k, cell_keep h.c3 k, h.bw.trans (k.mono h.bw.size)⟩
theorem fbox_new {F : Fv} {w : World} (h : F.At w) : Fbox F w (w.alloc (.cells F.box 29)) w.heap.size :=
  have q := box4 w (.int .i64 F.P) (.int .i64 F.N) (.slice F.co F.cn F.cc) (.slice F.oo F.on F.oc) 29
  ⟨h.keep ((Below.refl _ w).alloc (Nat.le_refl _) _), q.1, q.2.1, q.2.2.1, q.2.2.2, (Below.refl _ w).alloc (Nat.le_refl _) _⟩
/-- How many spans. -/
def lens : List (List Sp) → Nat
  | [] => 0
  | l :: r => l.length + lens r
theorem lens_snoc : ∀ (l : List (List Sp)) (x : List Sp), lens (l ++ [x]) = lens l + x.length
  | [], x => by simp [lens]
  | y :: r, x => by simp [lens, lens_snoc r x]; omega
abbrev tks (os : List Gr) : List (List Sp) := os.map (fun o => o.2)
def Fv.size (F : Fv) : Nat := lens F.cs + lens (tks F.os)
theorem lens_le {ls : List (List Sp)} {m : Nat} (h : ∀ l ∈ ls, l.length ≤ m) : lens ls ≤ ls.length * m := by
  induction ls with
  | nil => simp [lens]
  | cons l r ih =>
    have h1 := h l (List.mem_cons_self ..)
    have h2 := ih (fun x hx => h x (List.mem_cons_of_mem _ hx))
    simp only [lens, List.length_cons, Nat.add_mul, Nat.one_mul]
    omega
theorem lens_take_succ {ls : List (List Sp)} {i : Nat} (h : i < ls.length) : lens (ls.take (i + 1)) = lens (ls.take i) + ls[i].length := by
  rw [List.take_succ_eq_append_getElem h, lens_snoc]
theorem lens_bound {ls : List (List Sp)} {m : Nat} (h : ∀ l ∈ ls, l.length ≤ m) (i : Nat) : lens (ls.take i) ≤ i * m := by
  have q := lens_le (ls := ls.take i) (m := m) (fun l hl => h l (List.mem_of_mem_take hl))
  have := List.length_take_le i ls
  exact Nat.le_trans q (Nat.mul_le_mul_right m this)
set_option maxHeartbeats 2000000 in
theorem size_any (F : Fv) (w : World) (hF : F.At w) (h1 : F.cn ≤ 100000) (h2 : F.on ≤ 100000) :
    Calls Tryd.prog 28 #[F.v] w fun e w' => e = .returned (.int .i64 (F.size : Nat)) ∧ Below w.heap.size w w' := by
  obtain ⟨P, N, co, cn, cc, oo, on, oc, cs, os⟩ := F
  have LC : Hid (cs.length = cn) := Lib.hid hF.core.len
  have LO : Hid (os.length = on) := Lib.hid hF.odd.len
  have S1 : Hid (∀ l ∈ cs, l.length ≤ 10000000000000) := Lib.hid hF.short.1
  have S2 : Hid (∀ o ∈ os, o.2.length ≤ 10000000000000) := Lib.hid hF.short.2
  have SC := Lib.hid (fun i => lens_bound S1.out i)
  have SO := Lib.hid (fun i => lens_bound (ls := tks os) (m := 10000000000000) (fun l hl => by
    obtain ⟨o, ho, rfl⟩ := List.mem_map.1 hl
    exact S2.out o ho) i)
  have h1 : cn ≤ 100000 := h1
  have h2 : on ≤ 100000 := h2
  obtain ⟨b, hb⟩ : ∃ b, w.heap.size = b := ⟨_, rfl⟩
  obtain ⟨wb, hwb⟩ : ∃ wb, w.alloc (.cells #[.int .i64 P, .int .i64 N, .slice co cn cc, .slice oo on oc] 29) = wb := ⟨_, rfl⟩
  have HBB : Hid (Fbox ⟨P, N, co, cn, cc, oo, on, oc, cs, os⟩ w wb b) := Lib.hid (by rw [← hwb, ← hb]; exact fbox_new hF)
  clear hF
  show Calls Tryd.prog 28 #[.agg #[.int .i64 P, .int .i64 N, .slice co cn cc, .slice oo on oc]] w _
  go_enter Tryd.func28, Tryd.ntmps28
  go_upto_region 1 with fail
  clear hwb hb
  have c2 : wb.cell? ⟨b, 2, none⟩ = some (.slice co cn cc) := HBB.out.c2
  go_wp2
  clear c2
  go_loopw [3, 11] (fun nn ii wr => ∃ i : Nat, i ≤ cn ∧ ii = .int .i64 i ∧ nn = .int .i64 (lens (cs.take i) : Nat) ∧ Hid (Fbox ⟨P, N, co, cn, cc, oo, on, oc, cs, os⟩ w wr b)) (fun _ ii _ => cn - (intOf ii).toNat)
  case atStart => exact ⟨0, Nat.zero_le _, rfl, rfl, HBB⟩
  case round =>
    obtain ⟨i, hi, rfl, rfl, HW⟩ := hrel
    have s1 := SC.out i
    by_cases ilt : i < cn
    · obtain ⟨g, p, rfl, hc⟩ := (show CoAt wr co cn cc cs from HW.out.at_.core).here (by omega)
      have hil : i < cs.length := by rw [LC.out]; exact ilt
      obtain ⟨o, m, d, d1, d2⟩ := hc i hil
      have HT := Lib.hid (lens_take_succ hil)
      have s2 : m ≤ 10000000000000 := by have := S1.out _ (List.getElem_mem hil); rw [← d2.len]; exact this
      have HM := Lib.hid d2.len
      obtain ⟨L, hL⟩ : ∃ q, lens (cs.take i) = q := ⟨_, rfl⟩
      rw [hL] at HT s1
      rw [hL]
      have i0 : (0 : Int) ≤ (i : Int) := by omega
      have i1 : (i : Int) < (cn : Int) := by omega
      have HE : Hid (((lens (cs.take (i + 1)) : Nat) : Int) = (L : Int) + (m : Int)) := Lib.hid (by rw [HT.out, HM.out]; omega)
      have s3 : (L : Int) ≤ 1000000000000000000 := by omega
      clear hc hL d2 HT HM s1
      clear hil
      go_wp2
      go_roundw
      case rel => exact ⟨i + 1, by omega, by go_num, by rw [HE.out], HW⟩
      case measure => simp [intOf]; omega
    · obtain rfl : cn = i := by omega
      have HT : Hid (cs.take cn = cs) := Lib.hid (List.take_of_length_le (by rw [LC.out]; exact Nat.le_refl _))
      rw [HT.out] at s1 ⊢
      obtain ⟨K, hK⟩ : ∃ q, lens cs = q := ⟨_, rfl⟩
      rw [hK] at s1 ⊢
      have HK := Lib.hid hK
      clear hK
      have c3 : wr.cell? ⟨b, 3, none⟩ = some (.slice oo on oc) := HW.out.c3
      go_wp2
      clear c3
      go_loopw [3, 23] (fun nn ii wr => ∃ i : Nat, i ≤ on ∧ ii = .int .i64 i ∧ nn = .int .i64 ((K + lens ((tks os).take i) : Nat) : Int) ∧ Hid (Fbox ⟨P, N, co, cn, cc, oo, on, oc, cs, os⟩ w wr b)) (fun _ ii _ => on - (intOf ii).toNat)
      case atStart => exact ⟨0, Nat.zero_le _, rfl, rfl, HW⟩
      case round =>
        obtain ⟨i, hi, rfl, rfl, HW⟩ := hrel
        have s2 := SO.out i
        by_cases ilt : i < on
        · obtain ⟨g, p, rfl, hc⟩ := (show OdAt wr oo on oc os from HW.out.at_.odd).here (by omega)
          have hil : i < os.length := by rw [LO.out]; exact ilt
          obtain ⟨d1, ⟨o, m, d, d2, d3⟩, d4, d5⟩ := hc i hil
          have HT := Lib.hid (lens_take_succ (ls := tks os) (i := i) (by simpa using hil))
          have s3 : m ≤ 10000000000000 := by have := S2.out _ (List.getElem_mem hil); rw [← d3.len]; exact this
          have HM : Hid (((tks os)[i]'(by simpa using hil)).length = m) := Lib.hid (by rw [List.getElem_map]; exact d3.len)
          obtain ⟨X, hX⟩ : ∃ q, os[i].1 = q := ⟨_, rfl⟩
          rw [hX] at d1 d4 d5
          obtain ⟨L, hL⟩ : ∃ q, lens ((tks os).take i) = q := ⟨_, rfl⟩
          rw [hL] at HT s2
          rw [hL]
          have i0 : (0 : Int) ≤ (i : Int) := by omega
          have i1 : (i : Int) < (on : Int) := by omega
          have HE : Hid (((K + lens ((tks os).take (i + 1)) : Nat) : Int) = ((K + L : Nat) : Int) + (m : Int)) := Lib.hid (by rw [HT.out, HM.out]; omega)
          obtain ⟨T, hT⟩ : ∃ q, K + L = q := ⟨_, rfl⟩
          rw [hT] at HE
          rw [hT]
          have s4 : (T : Int) ≤ 3000000000000000000 := by omega
          have HW2 := Lib.hid (HW.out.keep ((Below.refl _ wr).alloc (Nat.le_refl _) (.cells #[.int .i64 X, .slice o m d] 75)))
          have f2 := (box_cells wr (.int .i64 X) (.slice o m d) 75).2
          clear hc hL d3 HT HM s1 s2 hT hX
          clear hil
          go_wp2
          go_roundw
          case rel => exact ⟨i + 1, by omega, by go_num, by rw [HE.out], HW2⟩
          case measure => simp [intOf]; omega
        · obtain rfl : on = i := by omega
          have HT : Hid ((tks os).take on = tks os) := Lib.hid (List.take_of_length_le (by rw [List.length_map, LO.out]; exact Nat.le_refl _))
          rw [HT.out]
          have HS : Hid (((K + lens (tks os) : Nat) : Int) = ((Fv.size ⟨P, N, co, cn, cc, oo, on, oc, cs, os⟩ : Nat) : Int)) := Lib.hid (by rw [← HK.out]; rfl)
          clear HT s2
          go_wp2
          go_returns
          exact ⟨ret_int HS.out, HW.out.bw⟩
end Go.Proofs.YtacpcokmgahjaaaDoor
