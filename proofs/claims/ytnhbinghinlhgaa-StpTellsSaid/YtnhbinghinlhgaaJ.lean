/- Contracts: Built: a network with some bounds. -/
import Derived.Test.YtnhbinghinlhgaaF
namespace Go.Proofs.Ytnhbinghinlhgaa
set_option linter.unusedVariables false
set_option linter.unusedSimpArgs false
open Go.ChangeShapes Go.WideShapes Go.ChangeAt Go.RowKit

/-- A bound that is said: of which variables, what. -/
abbrev Said := Nat × Nat × Bd
def puts (M : Mat) (S : List Said) : Mat := S.foldl (fun M s => put M s.1 s.2.1 s.2.2) M
def SaidOk (n : Nat) (Q : Int) (s : Said) : Prop := s.1 < n ∧ s.2.1 < n ∧ Bd.within Q s.2.2
theorem within_put {n : Nat} {Q : Int} {M : Mat} {s : Said} (h : Within n Q M) (hs : SaidOk n Q s) : Within n Q (put M s.1 s.2.1 s.2.2) := by
  intro i j hi hj
  unfold put
  split
  · exact Bd.within_low (h _ _ hs.1 hs.2.1) hs.2.2
  · exact h i j hi hj
theorem within_puts {n : Nat} {Q : Int} : ∀ (S : List Said) (M : Mat), Within n Q M → (∀ s ∈ S, SaidOk n Q s) → Within n Q (puts M S)
  | [], M, h, _ => h
  | s :: S, M, h, hs => within_puts S _ (within_put h (hs s (List.mem_cons_self ..))) (fun x hx => hs x (List.mem_cons_of_mem _ hx))
theorem within_fresh (n : Nat) {Q : Int} (hQ : 0 ≤ Q) : Within n Q fresh := by
  intro i j _ _
  unfold fresh
  split <;> simp [Bd.within] <;> omega
theorem puts_snoc (M : Mat) (S : List Said) (s : Said) : puts M (S ++ [s]) = put (puts M S) s.1 s.2.1 s.2.2 := by
  unfold puts; rw [List.foldl_append]; rfl
theorem take_snoc {S : List Said} {k : Nat} (h : k < S.length) : S.take (k + 1) = S.take k ++ [S[k]] := by
  rw [List.take_succ_eq_append_getElem h]

/-- Bounds in memory. -/
structure SaidAt (w : World) (b o : Nat) (S : List Said) : Prop where
  c0 : ∀ t (h : t < S.length), w.cell? ⟨b, o + t * 4, none⟩ = some (.int .i64 (S[t].1 : Nat))
  c1 : ∀ t (h : t < S.length), w.cell? ⟨b, o + t * 4 + 1, none⟩ = some (.int .i64 (S[t].2.1 : Nat))
  c2 : ∀ t (h : t < S.length), w.cell? ⟨b, o + t * 4 + 2, none⟩ = some (.int .i8 (infOf S[t].2.2))
  c3 : ∀ t (h : t < S.length), w.cell? ⟨b, o + t * 4 + 3, none⟩ = some (.int .i64 (numOf S[t].2.2))
theorem SaidAt.keep {w w' : World} {b o : Nat} {S : List Said} (h : SaidAt w b o S) (k : Below w.heap.size w w') : SaidAt w' b o S :=
  ⟨fun t ht => cell_keep (h.c0 t ht) k, fun t ht => cell_keep (h.c1 t ht) k, fun t ht => cell_keep (h.c2 t ht) k, fun t ht => cell_keep (h.c3 t ht) k⟩

/-- A network that has been made, all well. -/
def MadeFine (w w' : World) (n : Nat) (M : Mat) (e : Ending) : Prop :=
  ∃ g o k b p c, e = .returned (.tuple #[.slice (some ⟨g, o, none⟩) n k, .bool true]) ∧ n ≤ k ∧ k ≤ 9223372036854775807 ∧ Hid (NetOwn w' w.heap.size g o n b p c M) ∧ Hid (Below w.heap.size w w')

set_option maxRecDepth 100000 in
set_option maxHeartbeats 4000000 in
theorem built_net (n : Nat) (h0 : 0 < n) (hn : n ≤ 24) (bl ol cl : Nat) (S : List Said) (hcl : S.length ≤ cl) (hcl' : cl ≤ 9223372036854775807) (hS : ∀ s ∈ S, SaidOk n 1125899906842624 s) (w : World) (hw : SaidAt w bl ol S) :
    Calls Try.prog 22 #[.int .i64 n, .slice (some ⟨bl, ol, none⟩) S.length cl] w fun e w' => MadeFine w w' n (puts fresh S) e := by
  have N := Lib.hid (new_net n h0 hn w)
  have HW := Lib.hid hw
  have HS := Lib.hid hS
  have HWI := Lib.hid (fun k => within_puts (S.take k) fresh (within_fresh n (by decide : (0 : Int) ≤ 1125899906842624)) (fun s hs => hS s (List.mem_of_mem_take hs)))
  clear hw hS
  go_enter Try.func22, Try.ntmps22
  go_wp2_with (go_at_call 9; (with_reducible refine (N.out).mono ?_); rintro e w1 ⟨g, o, k, b, p, c, rfl, hk, hk', HN, HB⟩)
  go_loopw [6, 7, 17] (fun s6 s7 ii wr => ∃ (i : Nat) (g o k : Nat) (b p c : Nat → Nat), i ≤ S.length ∧ ii = .int .i64 i ∧ s6 = .slice (some ⟨g, o, none⟩) n k ∧ s7 = .int .i64 0 ∧ n ≤ k ∧ k ≤ 9223372036854775807 ∧ Hid (NetOwn wr w.heap.size g o n b p c (puts fresh (S.take i))) ∧ Hid (Below w.heap.size w wr)) (fun _ _ ii _ => S.length - (intOf ii).toNat)
  case atStart => exact ⟨0, g, o, k, b, p, c, Nat.zero_le _, rfl, rfl, rfl, hk, hk', HN, HB⟩
  case round =>
    clear HN HB hk hk'
    obtain ⟨i, g, o, k, b, p, c, hi, rfl, rfl, rfl, hk, hk', HN, HB⟩ := hrel
    by_cases ilt : i < S.length
    · have HA := Lib.hid (HW.out.keep HB.out)
      have c0 := HA.out.c0 i ilt
      have c1 := HA.out.c1 i ilt
      have c2 := HA.out.c2 i ilt
      have c3 := HA.out.c3 i ilt
      have ok := HS.out S[i] (List.getElem_mem ilt)
      have HT := Lib.hid (take_snoc ilt)
      have e1 := puts_snoc fresh (S.take i) S[i]
      rw [← HT.out] at e1
      have HE := Lib.hid e1
      have HWi := Lib.hid (HWI.out i)
      generalize S[i] = s at *
      obtain ⟨si, sj, sv⟩ := s
      obtain ⟨ok1, ok2, ok3⟩ := ok
      simp only at c0 c1 c2 c3 ok1 ok2 ok3
      have SN := Lib.hid (fun (w' : World) (hb : Below wr.heap.size wr w') => set_net g o n k b p c _ hn hk hk' HWi.out si sj ok1 ok2 sv ok3 w' (HN.out.net.keep hb))
      have HE2 : Hid (puts fresh (S.take (i + 1)) = put (puts fresh (S.take i)) si sj sv) := HE
      obtain ⟨x, hx⟩ : ∃ q, infOf sv = q := ⟨_, rfl⟩
      obtain ⟨y, hy⟩ : ∃ q, numOf sv = q := ⟨_, rfl⟩
      rw [hx] at c2
      rw [hy] at c3
      rw [hx, hy] at SN
      clear hx hy e1 HE HT
      go_wp2_with (go_at_call 14; (with_reducible refine (SN.out _ ((Below.refl _ wr).alloc (Nat.le_refl _) _)).mono ?_); rintro e w2 ⟨g2, o2, k2, b2, p2, c2, rfl, hk2, hk2', HN2, HB2⟩; have HB3 := Lib.hid (HB.out.trans ((((Below.refl _ wr).alloc (Nat.le_refl _) (.cells #[.int .i64 si, .int .i64 sj, .int .i8 x, .int .i64 y] 28)).trans (HB2.out.mono (by simp))).mono HB.out.size)); have HN3 := Lib.hid (HN2.out.lower (show w.heap.size ≤ (wr.alloc (.cells #[.int .i64 si, .int .i64 sj, .int .i8 x, .int .i64 y] 28)).heap.size by have := HB.out.size; simp; omega)))
      go_roundw
      case rel => exact ⟨i + 1, g2, o2, k2, b2, p2, c2, by omega, by go_num, rfl, rfl, hk2, hk2', by rw [HE2.out]; exact HN3, HB3⟩
      case measure => simp [intOf]; omega
    · have HT : Hid (S.take i = S) := Lib.hid (List.take_of_length_le (by omega))
      go_wp2
      go_returns
      exact ⟨g, o, k, b, p, c, rfl, hk, hk', by rw [← HT.out]; exact HT.out.symm ▸ HN, HB⟩

set_option maxRecDepth 100000 in
set_option maxHeartbeats 4000000 in
theorem built_nil (n : Nat) (h0 : 0 < n) (hn : n ≤ 24) (w : World) :
    Calls Try.prog 22 #[.int .i64 n, .slice none 0 0] w fun e w' => MadeFine w w' n fresh e := by
  have N := Lib.hid (new_net n h0 hn w)
  go_enter Try.func22, Try.ntmps22
  go_wp2_with (go_at_call 9; (with_reducible refine (N.out).mono ?_); rintro e w1 ⟨g, o, k, b, p, c, rfl, hk, hk', HN, HB⟩)
  go_loopw [6, 7, 17] (fun s6 s7 ii wr => s6 = .slice (some ⟨g, o, none⟩) n k ∧ s7 = .int .i64 0 ∧ ii = .int .i64 0 ∧ wr = w1) (fun _ _ ii _ => 0)
  case atStart => exact ⟨rfl, rfl, rfl, rfl⟩
  case round =>
    obtain ⟨rfl, rfl, rfl, rfl⟩ := hrel
    go_wp2
    go_returns
    exact ⟨g, o, k, b, p, c, rfl, hk, hk', HN, HB⟩
end Go.Proofs.Ytnhbinghinlhgaa
