/- Texts joined: 3Eq. -/
import Derived.Test.YtaaeipjnhjgjdaaProg
import Derived.Test.YtaaeipjnhjgjdaaJ1
import Derived.WalkKit
import Derived.Laws.StructEq
import Derived.Laws.Cover2
/- What '==' says of fractions, spans, trials, kinds and batches. -/
namespace Go.Proofs.Ytaaeipjnhjgjdaa
open Go.RowKit

section
variable (a b c d : Int) (w : World)
theorem Try.inRt (n : Nat) : (Op.equalIn (n + 2) 53 (.agg #[.int .i64 a, .int .i64 b]) (.agg #[.int .i64 c, .int .i64 d])).run Try.prog w = .ok (a == c && b == d) w := by
  have u3 := Try.underlying3
  have hS : Try.prog.underlying 53 = some (.struct (Try.prog.fieldsOf 53)) := by kernel_rfl
  have hp : Try.prog.stoodInHeld 53 = false := by kernel_rfl
  rw [run_equalIn_agg w (n + 1) 53 _ _ hS hp]
  simp only [Program.fieldsOf, Try.underlying53]
  go_simp
  by_cases h1 : a = c <;> by_cases h2 : b = d <;> simp [h1, h2]
theorem Try.inSp (n : Nat) : (Op.equalIn (n + 2) 31 (.agg #[.int .i64 a, .int .i64 b]) (.agg #[.int .i64 c, .int .i64 d])).run Try.prog w = .ok (a == c && b == d) w := by
  have u3 := Try.underlying3
  have hS : Try.prog.underlying 31 = some (.struct (Try.prog.fieldsOf 31)) := by kernel_rfl
  have hp : Try.prog.stoodInHeld 31 = false := by kernel_rfl
  rw [run_equalIn_agg w (n + 1) 31 _ _ hS hp]
  simp only [Program.fieldsOf, Try.underlying31]
  go_simp
  by_cases h1 : a = c <;> by_cases h2 : b = d <;> simp [h1, h2]
theorem Try.inTr (n : Nat) : (Op.equalIn (n + 2) 80 (.agg #[.int .i64 a, .int .i64 b]) (.agg #[.int .i64 c, .int .i64 d])).run Try.prog w = .ok (a == c && b == d) w := by
  have u3 := Try.underlying3
  have hS : Try.prog.underlying 80 = some (.struct (Try.prog.fieldsOf 80)) := by kernel_rfl
  have hp : Try.prog.stoodInHeld 80 = false := by kernel_rfl
  rw [run_equalIn_agg w (n + 1) 80 _ _ hS hp]
  simp only [Program.fieldsOf, Try.underlying80]
  go_simp
  by_cases h1 : a = c <;> by_cases h2 : b = d <;> simp [h1, h2]
theorem Try.inK3 (n : Nat) (e f : Int) : (Op.equalIn (n + 2) 23 (.agg #[.int .i64 a, .int .i64 b, .int .i64 c]) (.agg #[.int .i64 d, .int .i64 e, .int .i64 f])).run Try.prog w = .ok (a == d && b == e && c == f) w := by
  have u3 := Try.underlying3
  rw [Op.equalIn]
  simp only [Sem.run_bind, run_underlying Try.underlying23, Result.andThen_ok]
  simp only [Std.Legacy.Range.forIn_eq_forIn_range', Std.Legacy.Range.size, Nat.sub_zero, Nat.add_sub_cancel, Nat.div_one, List.range'_succ, List.range'_zero, List.forIn_cons, List.forIn_nil]
  go_simp
  by_cases h1 : a = d <;> by_cases h2 : b = e <;> by_cases h3 : c = f <;> simp [h1, h2, h3]
end
section
variable (w : World)
theorem Try.inS3 (n : Nat) (a b c d e f g h i j k l : Int) : (Op.equalIn (n + 3) 32 (.agg #[.int .i64 a, .int .i64 b, .int .i64 c, .int .i64 d, .int .i64 e, .int .i64 f]) (.agg #[.int .i64 g, .int .i64 h, .int .i64 i, .int .i64 j, .int .i64 k, .int .i64 l])).run Try.prog w =
    .ok ((a == g && b == h) && (c == i && d == j) && (e == k && f == l)) w := by
  have u3 := Try.underlying3
  have q := Try.inSp
  rw [Op.equalIn]
  simp only [Sem.run_bind, run_underlying Try.underlying32, Result.andThen_ok]
  simp only [Std.Legacy.Range.forIn_eq_forIn_range', Std.Legacy.Range.size, Nat.sub_zero, Nat.add_sub_cancel, Nat.div_one, List.range'_succ, List.range'_zero, List.forIn_cons, List.forIn_nil]
  go_simp
  by_cases h1 : a = g <;> by_cases h2 : b = h <;> by_cases h3 : c = i <;> by_cases h4 : d = j <;> by_cases h5 : e = k <;> by_cases h6 : f = l <;> simp [h1, h2, h3, h4, h5, h6]
theorem Try.inBt (n : Nat) (p q a b c d e f g h i j k l x1 x2 x3 y1 y2 y3 : Int) :
    (Op.equalIn (n + 4) 34 (.agg #[.int .i64 p, .int .i64 x1, .int .i64 x2, .int .i64 x3, .int .i64 a, .int .i64 b, .int .i64 c, .int .i64 d, .int .i64 e, .int .i64 f])
      (.agg #[.int .i64 q, .int .i64 y1, .int .i64 y2, .int .i64 y3, .int .i64 g, .int .i64 h, .int .i64 i, .int .i64 j, .int .i64 k, .int .i64 l])).run Try.prog w =
    .ok (p == q && (x1 == y1 && x2 == y2 && x3 == y3) && ((a == g && b == h) && (c == i && d == j) && (e == k && f == l))) w := by
  have u3 := Try.underlying3
  have hS : Try.prog.underlying 34 = some (.struct (Try.prog.fieldsOf 34)) := by kernel_rfl
  have hp : Try.prog.stoodInHeld 34 = false := by kernel_rfl
  have q1 := Try.inK3
  have q2 := Try.inS3
  rw [run_equalIn_agg w (n + 3) 34 _ _ hS hp]
  simp only [Program.fieldsOf, Try.underlying34]
  go_simp
  have e1 : (x1 == y1 && x2 == y2 && x3 == y3) = !decide (x1 = y1 → x2 = y2 → ¬ x3 = y3) := by rw [Bool.eq_iff_iff]; simp [and_assoc]
  have e2 : (a == g && b == h && (c == i && d == j) && (e == k && f == l)) = !decide (a = g → b = h → c = i → d = j → e = k → ¬ f = l) := by rw [Bool.eq_iff_iff]; simp [and_assoc]
  rw [e1, e2]
  by_cases h0 : p = q
  · by_cases h1 : (x1 = y1 → x2 = y2 → ¬ x3 = y3)
    · rw [if_pos h0, if_pos h1, decide_eq_true h1]; simp
    · rw [if_pos h0, if_neg h1, decide_eq_false h1]
      by_cases h2 : (a = g → b = h → c = i → d = j → e = k → ¬ f = l)
      · rw [if_pos h2, decide_eq_true h2]; simp
      · rw [if_neg h2, decide_eq_false h2]; simp [h0]
  · rw [if_neg h0]; simp [h0]
end

theorem Try.eqOf {P : Program} {t : TypeId} {xs ys : Array Value} {b : Bool} {w : World} (h : (Op.equalIn 10000 t (.agg xs) (.agg ys)).run P w = .ok b w) :
    (binOp .eql t (.agg xs) (.agg ys)).run P w = .ok (.bool b) w ∧ (binOp .neq t (.agg xs) (.agg ys)).run P w = .ok (.bool (!b)) w := by
  rw [run_eql_struct, run_neq_struct, h]; exact ⟨rfl, rfl⟩
theorem Try.eqRt (a b c d : Int) (w : World) : (binOp .eql 53 (.agg #[.int .i64 a, .int .i64 b]) (.agg #[.int .i64 c, .int .i64 d])).run Try.prog w = .ok (.bool (a == c && b == d)) w := (Try.eqOf (Try.inRt a b c d w 9998)).1
theorem Try.neRt (a b c d : Int) (w : World) : (binOp .neq 53 (.agg #[.int .i64 a, .int .i64 b]) (.agg #[.int .i64 c, .int .i64 d])).run Try.prog w = .ok (.bool (!(a == c && b == d))) w := (Try.eqOf (Try.inRt a b c d w 9998)).2
theorem Try.eqSp (a b c d : Int) (w : World) : (binOp .eql 31 (.agg #[.int .i64 a, .int .i64 b]) (.agg #[.int .i64 c, .int .i64 d])).run Try.prog w = .ok (.bool (a == c && b == d)) w := (Try.eqOf (Try.inSp a b c d w 9998)).1
theorem Try.neSp (a b c d : Int) (w : World) : (binOp .neq 31 (.agg #[.int .i64 a, .int .i64 b]) (.agg #[.int .i64 c, .int .i64 d])).run Try.prog w = .ok (.bool (!(a == c && b == d))) w := (Try.eqOf (Try.inSp a b c d w 9998)).2
theorem Try.eqTr (a b c d : Int) (w : World) : (binOp .eql 80 (.agg #[.int .i64 a, .int .i64 b]) (.agg #[.int .i64 c, .int .i64 d])).run Try.prog w = .ok (.bool (a == c && b == d)) w := (Try.eqOf (Try.inTr a b c d w 9998)).1
theorem Try.eqK3 (a b c d e f : Int) (w : World) : (binOp .eql 23 (.agg #[.int .i64 a, .int .i64 b, .int .i64 c]) (.agg #[.int .i64 d, .int .i64 e, .int .i64 f])).run Try.prog w = .ok (.bool (a == d && b == e && c == f)) w := (Try.eqOf (Try.inK3 a b c d w 9998 e f)).1
theorem Try.neK3 (a b c d e f : Int) (w : World) : (binOp .neq 23 (.agg #[.int .i64 a, .int .i64 b, .int .i64 c]) (.agg #[.int .i64 d, .int .i64 e, .int .i64 f])).run Try.prog w = .ok (.bool (!(a == d && b == e && c == f))) w := (Try.eqOf (Try.inK3 a b c d w 9998 e f)).2
theorem Try.eqBt (p q a b c d e f g h i j k l x1 x2 x3 y1 y2 y3 : Int) (w : World) :
    (binOp .eql 34 (.agg #[.int .i64 p, .int .i64 x1, .int .i64 x2, .int .i64 x3, .int .i64 a, .int .i64 b, .int .i64 c, .int .i64 d, .int .i64 e, .int .i64 f])
      (.agg #[.int .i64 q, .int .i64 y1, .int .i64 y2, .int .i64 y3, .int .i64 g, .int .i64 h, .int .i64 i, .int .i64 j, .int .i64 k, .int .i64 l])).run Try.prog w =
    .ok (.bool (p == q && (x1 == y1 && x2 == y2 && x3 == y3) && ((a == g && b == h) && (c == i && d == j) && (e == k && f == l)))) w := (Try.eqOf (Try.inBt w 9996 p q a b c d e f g h i j k l x1 x2 x3 y1 y2 y3)).1
theorem Try.neBt (p q a b c d e f g h i j k l x1 x2 x3 y1 y2 y3 : Int) (w : World) :
    (binOp .neq 34 (.agg #[.int .i64 p, .int .i64 x1, .int .i64 x2, .int .i64 x3, .int .i64 a, .int .i64 b, .int .i64 c, .int .i64 d, .int .i64 e, .int .i64 f])
      (.agg #[.int .i64 q, .int .i64 y1, .int .i64 y2, .int .i64 y3, .int .i64 g, .int .i64 h, .int .i64 i, .int .i64 j, .int .i64 k, .int .i64 l])).run Try.prog w =
    .ok (.bool (!(p == q && (x1 == y1 && x2 == y2 && x3 == y3) && ((a == g && b == h) && (c == i && d == j) && (e == k && f == l))))) w := (Try.eqOf (Try.inBt w 9996 p q a b c d e f g h i j k l x1 x2 x3 y1 y2 y3)).2
end Go.Proofs.Ytaaeipjnhjgjdaa
