/- Texts joined: FEq FSame. -/
import Derived.Test.YtjpoacffnpgjdaaGreatProg
import Derived.Test.YtjpoacffnpgjdaaGreatJ2
import Derived.WalkKit
import Derived.Laws.StructEq
import Derived.Laws.Cover2
import Derived.BigQuiet
/- What '==' says of spans, ends, bounds and of how something burnt. -/
namespace Go.Proofs.YtjpoacffnpgjdaaGreat
open Go.RowKit

section
variable (a b c d : Int) (w : World)
theorem Tryz.inSp (n : Nat) : (Op.equalIn (n + 2) 54 (.agg #[.int .i64 a, .int .i64 b]) (.agg #[.int .i64 c, .int .i64 d])).run Tryz.prog w = .ok (a == c && b == d) w := by
  have u3 := Tryz.underlying3
  have hS : Tryz.prog.underlying 54 = some (.struct (Tryz.prog.fieldsOf 54)) := by kernel_rfl
  have hp : Tryz.prog.stoodInHeld 54 = false := by kernel_rfl
  rw [run_equalIn_agg w (n + 1) 54 _ _ hS hp]
  simp only [Program.fieldsOf, Tryz.underlying54]
  go_simp
  by_cases h1 : a = c <;> by_cases h2 : b = d <;> simp [h1, h2]
theorem Tryz.inEn (n : Nat) : (Op.equalIn (n + 2) 140 (.agg #[.int .i64 a, .int .i64 b]) (.agg #[.int .i64 c, .int .i64 d])).run Tryz.prog w = .ok (a == c && b == d) w := by
  have u3 := Tryz.underlying3
  have hS : Tryz.prog.underlying 140 = some (.struct (Tryz.prog.fieldsOf 140)) := by kernel_rfl
  have hp : Tryz.prog.stoodInHeld 140 = false := by kernel_rfl
  rw [run_equalIn_agg w (n + 1) 140 _ _ hS hp]
  simp only [Program.fieldsOf, Tryz.underlying140]
  go_simp
  by_cases h1 : a = c <;> by_cases h2 : b = d <;> simp [h1, h2]
theorem Tryz.inBr (n : Nat) (e f : Int) : (Op.equalIn (n + 2) 74 (.agg #[.int .i64 a, .int .i64 b, .int .i64 c]) (.agg #[.int .i64 d, .int .i64 e, .int .i64 f])).run Tryz.prog w = .ok (a == d && b == e && c == f) w := by
  have u3 := Tryz.underlying3
  have hS : Tryz.prog.underlying 74 = some (.struct (Tryz.prog.fieldsOf 74)) := by kernel_rfl
  have hp : Tryz.prog.stoodInHeld 74 = false := by kernel_rfl
  rw [run_equalIn_agg w (n + 1) 74 _ _ hS hp]
  simp only [Program.fieldsOf, Tryz.underlying74]
  go_simp
  by_cases h1 : a = d <;> by_cases h2 : b = e <;> by_cases h3 : c = f <;> simp [h1, h2, h3]
theorem Tryz.inBd (n : Nat) (e f g h : Int) : (Op.equalIn (n + 3) 56 (.agg #[.int .i64 a, .int .i64 b, .int .i64 c, .int .i64 d]) (.agg #[.int .i64 e, .int .i64 f, .int .i64 g, .int .i64 h])).run Tryz.prog w = .ok ((a == e && b == f) && c == g && d == h) w := by
  have u3 := Tryz.underlying3
  have hS : Tryz.prog.underlying 56 = some (.struct (Tryz.prog.fieldsOf 56)) := by kernel_rfl
  have hp : Tryz.prog.stoodInHeld 56 = false := by kernel_rfl
  have q1 := Tryz.inSp
  rw [run_equalIn_agg w (n + 2) 56 _ _ hS hp]
  simp only [Program.fieldsOf, Tryz.underlying56]
  go_simp
  by_cases h1 : a = e <;> by_cases h2 : b = f <;> by_cases h3 : c = g <;> by_cases h4 : d = h <;> simp [h1, h2, h3, h4]
end
theorem Tryz.eqOf {P : Program} {t : TypeId} {xs ys : Array Value} {b : Bool} {w : World} (h : (Op.equalIn 10000 t (.agg xs) (.agg ys)).run P w = .ok b w) :
    (binOp .eql t (.agg xs) (.agg ys)).run P w = .ok (.bool b) w ∧ (binOp .neq t (.agg xs) (.agg ys)).run P w = .ok (.bool (!b)) w := by
  rw [run_eql_struct, run_neq_struct, h]; exact ⟨rfl, rfl⟩
theorem Tryz.eqSp (a b c d : Int) (w : World) : (binOp .eql 54 (.agg #[.int .i64 a, .int .i64 b]) (.agg #[.int .i64 c, .int .i64 d])).run Tryz.prog w = .ok (.bool (a == c && b == d)) w := (Tryz.eqOf (Tryz.inSp a b c d w 9998)).1
theorem Tryz.neSp (a b c d : Int) (w : World) : (binOp .neq 54 (.agg #[.int .i64 a, .int .i64 b]) (.agg #[.int .i64 c, .int .i64 d])).run Tryz.prog w = .ok (.bool (!(a == c && b == d))) w := (Tryz.eqOf (Tryz.inSp a b c d w 9998)).2
theorem Tryz.eqEn (a b c d : Int) (w : World) : (binOp .eql 140 (.agg #[.int .i64 a, .int .i64 b]) (.agg #[.int .i64 c, .int .i64 d])).run Tryz.prog w = .ok (.bool (a == c && b == d)) w := (Tryz.eqOf (Tryz.inEn a b c d w 9998)).1
theorem Tryz.eqBr (a b c d e f : Int) (w : World) : (binOp .eql 74 (.agg #[.int .i64 a, .int .i64 b, .int .i64 c]) (.agg #[.int .i64 d, .int .i64 e, .int .i64 f])).run Tryz.prog w = .ok (.bool (a == d && b == e && c == f)) w := (Tryz.eqOf (Tryz.inBr a b c d w 9998 e f)).1
theorem Tryz.eqBd (a b c d e f g h : Int) (w : World) : (binOp .eql 56 (.agg #[.int .i64 a, .int .i64 b, .int .i64 c, .int .i64 d]) (.agg #[.int .i64 e, .int .i64 f, .int .i64 g, .int .i64 h])).run Tryz.prog w = .ok (.bool ((a == e && b == f) && c == g && d == h)) w := (Tryz.eqOf (Tryz.inBd a b c d w 9997 e f g h)).1
end Go.Proofs.YtjpoacffnpgjdaaGreat
/- Comparing lists by the reference: SameInts, SameSpans. -/
namespace Go.Proofs.YtjpoacffnpgjdaaGreat
open Go.RowKit

theorem list_no {α : Type} {l r : List α} {j : Nat} {x y : α} (hx : l[j]? = some x) (hy : r[j]? = some y) (h : x ≠ y) : l ≠ r := by
  rintro rfl; rw [hx] at hy; cases hy; exact h rfl
theorem list_yes {α : Type} {l r : List α} (hn : l.length = r.length) (h : ∀ (m : Nat) (x y : α), m < l.length → l[m]? = some x → r[m]? = some y → x = y) : l = r := by
  refine List.ext_getElem hn fun m h1 h2 => ?_
  exact h m _ _ h1 (List.getElem?_eq_getElem h1) (List.getElem?_eq_getElem h2)

theorem sameInts_c (u v : Value) (l r : List Int) (w : World) (hu : Ints w w.heap.size u l) (hv : Ints w w.heap.size v r) :
    Calls Tryz.prog 22 #[u, v] w fun e w' => e = .returned (.bool (decide (l = r))) ∧ Below w.heap.size w w' := by
  obtain ⟨A, cap, rfl, _, hn, hat⟩ := hu.open_
  obtain ⟨A2, cap2, rfl, _, hn2, hat2⟩ := hv.open_
  have H := Lib.hid hat
  have H2 := Lib.hid hat2
  clear hat hat2
  by_cases hl : l.length = r.length
  · have HL := Lib.hid hl
    have hb1 : ((l.length : Int) != r.length) = false := by simp [hl]
    have hl1 : l.length ≤ r.length := by omega
    clear hl
    go_enter Tryz.func22, Tryz.ntmps22
    go_wp2
    go_loopw [5] (fun i wr => ∃ j n : Nat, j ≤ l.length ∧ i = .int .i64 j ∧ wr = w.drewN n ∧ Hid (∀ (m : Nat) (x y : Int), m < j → l[m]? = some x → r[m]? = some y → x = y)) (fun i _ => l.length - (intOf i).toNat)
    case atStart => exact ⟨0, 0, Nat.zero_le _, rfl, rfl, fun _ _ _ h => absurd h (by omega)⟩
    case round =>
      obtain ⟨j, n, hj, rfl, rfl, hq⟩ := hrel
      by_cases hlt : j < l.length
      · obtain ⟨b, off, x, rfl, _, hx0, cx⟩ := H.out j hlt
        obtain ⟨b2, off2, y, rfl, _, hy0, cy⟩ := H2.out j (by omega)
        have hx := Lib.hid hx0
        have hy := Lib.hid hy0
        clear hx0 hy0
        go_wp2_with fail
        go_quiet (fail)
        go_wp2
        · have e : (x != y) = true := by assumption
          go_ret
          exact ⟨ret_bool (decide_eq_false (list_no hx.out hy.out (by simpa using e))).symm, below_drewN (below_drewN (Below.refl _ _) _) _⟩
        · have e : (x != y) = false := by assumption
          go_roundw
          case rel => exact ⟨j + 1, n + nq, by omega, by go_num, by simp, fun m a b hm ha hb => by
            by_cases e' : m = j
            · subst e'; rw [hx.out] at ha; rw [hy.out] at hb; cases ha; cases hb; simpa using e
            · exact hq.out m a b (by omega) ha hb⟩
          case measure => simp [intOf]; omega
      · go_wp2
        go_ret
        exact ⟨ret_bool (decide_eq_true (list_yes HL.out fun m x y hm hx hy => hq.out m x y (by omega) hx hy)).symm, below_drewN (Below.refl _ _) _⟩
  · have hb1 : ((l.length : Int) != r.length) = true := by simp; omega
    go_enter Tryz.func22, Tryz.ntmps22
    go_wp2
    go_ret
    exact ⟨ret_bool (decide_eq_false (by rintro rfl; exact hl rfl)).symm, Below.refl _ _⟩

theorem sameSpans_c (u v : Value) (l r : List Spn) (w : World) (hu : Spns w w.heap.size u l) (hv : Spns w w.heap.size v r) :
    Calls Tryz.prog 46 #[u, v] w fun e w' => e = .returned (.bool (decide (l = r))) ∧ Below w.heap.size w w' := by
  obtain ⟨A, cap, rfl, _, hn, hat⟩ := hu.open_
  obtain ⟨A2, cap2, rfl, _, hn2, hat2⟩ := hv.open_
  have H := Lib.hid hat
  have H2 := Lib.hid hat2
  clear hat hat2
  by_cases hl : l.length = r.length
  · have HL := Lib.hid hl
    have hb1 : ((l.length : Int) != r.length) = false := by simp [hl]
    have hl1 : l.length ≤ r.length := by omega
    clear hl
    go_enter Tryz.func46, Tryz.ntmps46
    go_wp2
    go_loopw [5] (fun i wr => ∃ j n : Nat, j ≤ l.length ∧ i = .int .i64 j ∧ wr = w.drewN n ∧ Hid (∀ (m : Nat) (x y : Spn), m < j → l[m]? = some x → r[m]? = some y → x = y)) (fun i _ => l.length - (intOf i).toNat)
    case atStart => exact ⟨0, 0, Nat.zero_le _, rfl, rfl, fun _ _ _ h => absurd h (by omega)⟩
    case round =>
      obtain ⟨j, n, hj, rfl, rfl, hq⟩ := hrel
      by_cases hlt : j < l.length
      · obtain ⟨b, off, x, rfl, _, hx0, cx, cx'⟩ := H.out j hlt
        obtain ⟨b2, off2, y, rfl, _, hy0, cy, cy'⟩ := H2.out j (by omega)
        have hx := Lib.hid hx0
        have hy := Lib.hid hy0
        clear hx0 hy0
        have hne := fun W => Tryz.neSp x.lo x.hi y.lo y.hi W
        by_cases hxy : x = y
        · have e0 : (!(x.lo == y.lo && x.hi == y.hi)) = false := by rw [hxy]; simp
          rw [e0] at hne
          have HXY := Lib.hid hxy
          clear hxy e0
          go_wp2_with fail
          go_quiet (fail)
          go_wp2
          go_roundw
          case rel => exact ⟨j + 1, n + nq, by omega, by go_num, by simp, fun m a b hm ha hb => by
            by_cases e' : m = j
            · subst e'; rw [hx.out] at ha; rw [hy.out] at hb; cases ha; cases hb; exact HXY.out
            · exact hq.out m a b (by omega) ha hb⟩
          case measure => simp [intOf]; omega
        · have e0 : (!(x.lo == y.lo && x.hi == y.hi)) = true := by
            obtain ⟨a, b⟩ := x; obtain ⟨c, d⟩ := y
            simp only [Spn.mk.injEq] at hxy
            by_cases h1 : a = c <;> by_cases h2 : b = d <;> simp [h1, h2] at hxy ⊢
          rw [e0] at hne
          have HXY := Lib.hid hxy
          clear hxy e0
          go_wp2_with fail
          go_quiet (fail)
          go_wp2
          go_ret
          exact ⟨ret_bool (decide_eq_false (list_no hx.out hy.out HXY.out)).symm, below_drewN (below_drewN (Below.refl _ _) _) _⟩
      · go_wp2
        go_ret
        exact ⟨ret_bool (decide_eq_true (list_yes HL.out fun m x y hm hx hy => hq.out m x y (by omega) hx hy)).symm, below_drewN (Below.refl _ _) _⟩
  · have hb1 : ((l.length : Int) != r.length) = true := by simp; omega
    go_enter Tryz.func46, Tryz.ntmps46
    go_wp2
    go_ret
    exact ⟨ret_bool (decide_eq_false (by rintro rfl; exact hl rfl)).symm, Below.refl _ _⟩

end Go.Proofs.YtjpoacffnpgjdaaGreat
