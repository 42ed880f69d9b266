/- Texts joined: Base FDat FVal FMath FMathB. -/
import Derived.WalkKit
import Derived.WalkSpells
import Derived.WalkLawsBesides
import Derived.Maps.AppendAt
import Derived.Deep.AppendLies
import Derived.Deep.Draws
import Derived.Lib.Hide
import Derived.BigQuiet
/- Slices in memory that read as lists: what a call is told of them, and what is left of it when the world has grown. No program is named here. -/
namespace Go.Proofs.YtjpoacffnpgjdaaGreat
open Go.RowKit

/-- The slice value v reads as the list l of things of s cells each, in a block below B. -/
def Sl {α : Type} (c : α → List Value) (s : Nat) (w : World) (B : Nat) (v : Value) (l : List α) : Prop :=
  ∃ (A : Option Addr) (cap : Nat), v = .slice A l.length cap ∧ l.length ≤ cap ∧ l.length ≤ 140737488355328 ∧
    (0 < l.length → ∃ b off, A = some ⟨b, off, none⟩ ∧ b < B ∧ ∀ i x, l[i]? = some x → ∀ j u, (c x)[j]? = some u → w.cell? ⟨b, off + i * s + j, none⟩ = some u)

section
variable {α : Type} {c : α → List Value} {s : Nat} {w w' : World} {B B' : Nat} {v : Value} {l : List α}

theorem Sl.keep (h : Sl c s w B v l) (hk : ∀ p : Addr, p.block < B → w'.cell? p = w.cell? p) : Sl c s w' B v l := by
  obtain ⟨A, cap, e, h1, h2, h3⟩ := h
  refine ⟨A, cap, e, h1, h2, fun hn => ?_⟩
  obtain ⟨b, off, e2, hb, hc⟩ := h3 hn
  exact ⟨b, off, e2, hb, fun i x hx j u hu => (hk _ hb).trans (hc i x hx j u hu)⟩
theorem Sl.more (h : Sl c s w B v l) (hB : B ≤ B') : Sl c s w B' v l := by
  obtain ⟨A, cap, e, h1, h2, h3⟩ := h
  refine ⟨A, cap, e, h1, h2, fun hn => ?_⟩
  obtain ⟨b, off, e2, hb, hc⟩ := h3 hn
  exact ⟨b, off, e2, by omega, hc⟩
theorem Sl.below (h : Sl c s w B v l) (hb : Below B w w') : Sl c s w' B v l := h.keep fun _ hp => hb.cell hp
/-- What a call was told holds in every world that has grown out of it. -/
theorem Sl.later (h : Sl c s w w.heap.size v l) (hb : Below w.heap.size w w') : Sl c s w' w'.heap.size v l := (h.below hb).more hb.size
theorem Sl.alloc (h : Sl c s w w.heap.size v l) (o : Obj) : Sl c s (w.alloc o) (w.alloc o).heap.size v l := h.later ((Below.refl _ _).alloc (Nat.le_refl _) o)
theorem Sl.drew (h : Sl c s w B v l) : Sl c s w.drew B v l := h
theorem Sl.drewN (h : Sl c s w B v l) (n : Nat) : Sl c s (w.drewN n) B v l := h
theorem Sl.nil_ : Sl c s w B (.slice none 0 0) ([] : List α) := ⟨none, 0, rfl, by simp, by simp, fun h => absurd h (by simp)⟩

theorem flat_at (hc : ∀ x, (c x).length = s) : ∀ (l : List α) (i : Nat) (x : α) (j : Nat) (u : Value), l[i]? = some x → (c x)[j]? = some u → (l.flatMap c)[i * s + j]? = some u
  | [], i, x, j, u, h, _ => by simp at h
  | y :: l, 0, x, j, u, h, hj => by
    simp only [List.getElem?_cons_zero, Option.some.injEq] at h
    subst h
    have : j < (c y).length := (List.getElem?_eq_some_iff.1 hj).1
    simp only [List.flatMap_cons, Nat.zero_mul, Nat.zero_add]
    rw [List.getElem?_append_left this, hj]
  | y :: l, i + 1, x, j, u, h, hj => by
    have ih := flat_at hc l i x j u (by simpa using h) hj
    simp only [List.flatMap_cons]
    rw [List.getElem?_append_right (by rw [hc, Nat.add_mul]; omega), hc]
    rw [← ih]
    congr 1
    rw [Nat.add_mul]
    omega
theorem flat_length (hc : ∀ x, (c x).length = s) : ∀ l : List α, (l.flatMap c).length = l.length * s
  | [] => by simp
  | y :: l => by
    simp only [List.flatMap_cons, List.length_append, List.length_cons, hc, flat_length hc l, Nat.add_mul]
    omega

theorem Sl.of_own {base : Nat} {e : TypeId} (hc : ∀ x, (c x).length = s) (h : w.ownsRow base e s v l.length (l.flatMap c)) (hl : l.length ≤ 140737488355328) : Sl c s w w.heap.size v l := by
  rcases h.2 with ⟨rfl, h0⟩ | ⟨g, cap, cur, rfl, hg, hh, hcap, hm, hsz, htk⟩
  · exact ⟨none, 0, by rw [h0], by omega, hl, fun hn => absurd hn (by omega)⟩
  · refine ⟨some ⟨g, 0, none⟩, cap, rfl, hcap, hl, fun _ => ⟨g, 0, rfl, ?_, fun i x hx j u hu => ?_⟩⟩
    · rcases Nat.lt_or_ge g w.heap.size with hlt | hge
      · exact hlt
      · rw [Array.getElem?_eq_none hge] at hh; cases hh
    · have := h.cells (g := g) rfl (i * s + j) u (flat_at hc l i x j u hx hu)
      rw [← this]
      unfold Addr.add
      split
      · rename_i h0; rw [show 0 + i * s + j = 0 by omega]
      · simp
end

/-- numbers -/
def nC (n : Int) : List Value := [.int .i64 n]
@[reducible] def Ints (w : World) (B : Nat) (v : Value) (l : List Int) : Prop := Sl nC 1 w B v l
theorem nC_len (n : Int) : (nC n).length = 1 := rfl
theorem flat_nC (l : List Int) : l.flatMap nC = l.map (Value.int .i64) := by
  induction l with
  | nil => rfl
  | cons x l ih => simp [nC, ih]
theorem Ints.of_own {w : World} {base : Nat} {e : TypeId} {v : Value} {l : List Int} (h : w.ownsRow base e 1 v l.length (l.map (Value.int .i64))) (hl : l.length ≤ 140737488355328) : Ints w w.heap.size v l :=
  Sl.of_own nC_len (by rw [flat_nC]; exact h) hl
theorem Ints.open_ {w : World} {B : Nat} {v : Value} {l : List Int} (h : Ints w B v l) :
    ∃ (A : Option Addr) (cap : Nat), v = .slice A l.length cap ∧ l.length ≤ cap ∧ l.length ≤ 140737488355328 ∧
      ∀ k, k < l.length → ∃ b off x, A = some ⟨b, off, none⟩ ∧ b < B ∧ l[k]? = some x ∧ w.cell? ⟨b, off + k, none⟩ = some (.int .i64 x) := by
  obtain ⟨A, cap, e, h1, h2, h3⟩ := h
  refine ⟨A, cap, e, h1, h2, fun k hk => ?_⟩
  obtain ⟨b, off, e2, hb, hc⟩ := h3 (by omega)
  refine ⟨b, off, l[k], e2, hb, List.getElem?_eq_getElem hk, ?_⟩
  have := hc k l[k] (List.getElem?_eq_getElem hk) 0 _ rfl
  simpa using this

theorem bcell {W w1 : World} (hb : Below W.heap.size W w1) : (∀ b o, b < W.heap.size → w1.cell? ⟨b, o, none⟩ = W.cell? ⟨b, o, none⟩) ∧ (∀ b o, b < W.heap.size → w1.frozen? ⟨b, o, none⟩ = W.frozen? ⟨b, o, none⟩) :=
  ⟨fun b o h => hb.cell (p := ⟨b, o, none⟩) h, fun b o h => hb.frozen (p := ⟨b, o, none⟩) h⟩
theorem ret_val {v u : Value} (h : v = u) : Ending.returned v = .returned u := by rw [h]
theorem ret_int {k : IntKind} {a b : Int} (h : a = b) : Ending.returned (.int k a) = .returned (.int k b) := by rw [h]
theorem ret_bool {a b : Bool} (h : a = b) : Ending.returned (.bool a) = .returned (.bool b) := by rw [h]
/-- A world that was only drawn upon or boxed in. -/
theorem below_alloc (w : World) (o : Obj) : Below w.heap.size w (w.alloc o) := (Below.refl _ _).alloc (Nat.le_refl _) o
theorem below_drewN {B : Nat} {a w : World} (h : Below B a w) (n : Nat) : Below B a (w.drewN n) := ⟨h.os, h.tape, h.output, h.size, h.block⟩
theorem below_then {a b c : World} (h : Below a.heap.size a b) (k : Below b.heap.size b c) : Below a.heap.size a c := h.trans (k.mono h.size)

/-- The worlds that have grown out of w. -/
structure Gr (w : World) where
  val : World
  b : Below w.heap.size w val
instance (w : World) : Nonempty (Gr w) := ⟨⟨w, Below.refl _ _⟩⟩
/-- A region that draws its order, whose operations read what lay in w and whose calls only make memory of their own: one walk in the order of the text. -/
theorem wp_region_grown {P : Program} {id : Nat} {Q : Exit → Act → World → Prop} {a : Act} {w : World} {l : List Oper} (hm : P.follows .mixedOrders = true) (hB : Region.lexB .any l.toArray = true)
    (h : (∀ (g : Gr w) b o, b < w.heap.size → g.val.cell? ⟨b, o, none⟩ = w.cell? ⟨b, o, none⟩) →
      wpQuiet P l.toArray (fun w' => ∃ g : Gr w, w' = g.val) (fun a' => ∀ w', (∃ g : Gr w, w' = g.val) → Q .normal a' w') l a) : (Code.region id l.toArray true).wp P Q a w :=
  wp_region_quiet (C := fun w' => ∃ g : Gr w, w' = g.val) hm hB ⟨⟨w.drew, (Below.refl _ _).drew⟩, rfl⟩ (by simpa using h fun g b o h => g.b.cell (p := ⟨b, o, none⟩) h)
theorem Calls.grown {P : Program} {f : FuncId} {args : Array Value} {w : World} {g : Gr w} {v : Value}
    (h : Calls P f args g.val fun e w' => e = .returned v ∧ Below g.val.heap.size g.val w') : Calls P f args g.val fun e w'' => e = .returned v ∧ ∃ g' : Gr w, w'' = g'.val :=
  h.mono fun _ w' ⟨he, hb⟩ => ⟨he, ⟨w', below_then g.b hb⟩, rfl⟩
theorem bcellB {B : Nat} {W w1 : World} (hb : Below B W w1) : (∀ b o, b < B → w1.cell? ⟨b, o, none⟩ = W.cell? ⟨b, o, none⟩) ∧ (∀ b o, b < B → w1.frozen? ⟨b, o, none⟩ = W.frozen? ⟨b, o, none⟩) :=
  ⟨fun b o h => hb.cell (p := ⟨b, o, none⟩) h, fun b o h => hb.frozen (p := ⟨b, o, none⟩) h⟩
theorem take_snoc {α : Type} {l : List α} {j : Nat} {x : α} (h : l[j]? = some x) : l.take (j + 1) = l.take j ++ [x] := by
  obtain ⟨hl, e⟩ := List.getElem?_eq_some_iff.1 h
  rw [List.take_succ_eq_append_getElem hl, e]
theorem take_map_snoc {α β : Type} {l : List α} {j : Nat} {x : α} (f : α → β) (h : l[j]? = some x) : (l.take (j + 1)).map f = (l.take j).map f ++ [f x] := by
  rw [take_snoc h, List.map_append]; rfl
theorem below_append {B n sz : Nat} {W wr w1 : World} {e : TypeId} {o : Obj} {v : Value} {xs : List Value} (hb : Below B W wr) (hB : B ≤ wr.heap.size) (hown : wr.ownsRow B e sz v n xs) (hg : (wr.alloc o).grownBy w1 v.ownBlock) : Below B W w1 :=
  (hb.alloc hB o).grown hg (by simp; omega) fun k hk => (hown.lt k hk).1
theorem cells_new (w : World) (cs : List Value) (t : TypeId) : ∀ j u, cs[j]? = some u → (w.alloc (.cells cs.toArray t)).cell? ((⟨w.heap.size, 0, none⟩ : Addr).add j) = some u :=
  fun j u h => World.news_of_block (heap_alloc_new w _) j u (by simpa using h)
theorem one_oneCell {u : Value} (h : u.oneCell' = true) : ∀ x ∈ [u], x.oneCell' = true := by simpa using h
end Go.Proofs.YtjpoacffnpgjdaaGreat
/- Fires as plain data: spots, looks, what is told of them, and what follows. No program is named here. -/
namespace Go.Proofs.YtjpoacffnpgjdaaGreat
structure Spt where
  foot : Int
  hour : Int
structure Lk where
  id : Int
  foot : Int
  hour : Int
  lo : Int
  hi : Int
structure Fi where
  rise : Int
  fall : Int
  up : Int
  down : Int
  ls : List Lk
structure Spn where
  lo : Int
  hi : Int
structure Bnd where
  lo : Int
  hi : Int
  low : Int
  high : Int
structure Brn where
  hours : Int
  row : Int
  sum : Int
instance : DecidableEq Spt := fun a b => decidable_of_iff (a.foot = b.foot ∧ a.hour = b.hour) (by cases a; cases b; simp)
instance : DecidableEq Spn := fun a b => decidable_of_iff (a.lo = b.lo ∧ a.hi = b.hi) (by cases a; cases b; simp)
instance : DecidableEq Lk := fun a b => decidable_of_iff (a.id = b.id ∧ a.foot = b.foot ∧ a.hour = b.hour ∧ a.lo = b.lo ∧ a.hi = b.hi) (by cases a; cases b; simp)
instance : DecidableEq Bnd := fun a b => decidable_of_iff (a.lo = b.lo ∧ a.hi = b.hi ∧ a.low = b.low ∧ a.high = b.high) (by cases a; cases b; simp)
instance : DecidableEq Brn := fun a b => decidable_of_iff (a.hours = b.hours ∧ a.row = b.row ∧ a.sum = b.sum) (by cases a; cases b; simp)
def Lk.at_ (x : Lk) : Spt := ⟨x.foot, x.hour⟩
def inF (n lo hi : Int) : Bool := decide (lo ≤ n) && decide (n ≤ hi)
def spotB (x : Spt) : Bool := inF x.foot 0 60 && inF x.hour 0 16384
def heatB (n : Int) : Bool := inF n 0 1500
def lookB (x : Lk) : Bool := inF x.id 1 1099511627776 && spotB x.at_ && heatB x.lo && heatB x.hi && decide (x.lo ≤ x.hi)
def slopeB (f : Fi) : Bool := inF f.rise 0 200 && inF f.fall 0 200 && inF f.up 0 200 && inF f.down 0 200
/-- The first error of looks. -/
def looksI : List Lk → List Int → Int
  | [], _ => 0
  | x :: l, S => if lookB x = false then 1 else if x.id ∈ S then 6 else looksI l (S ++ [x.id])
theorem looks_step {l : List Lk} {j : Nat} {x : Lk} {S : List Int} (hx : l[j]? = some x) : looksI (l.drop j) S = if lookB x = false then 1 else if x.id ∈ S then 6 else looksI (l.drop (j + 1)) (S ++ [x.id]) := by
  obtain ⟨hl, e⟩ := List.getElem?_eq_some_iff.1 hx
  rw [List.drop_eq_getElem_cons hl, e, looksI]
/-- The first error of a fire. -/
def fireI (f : Fi) : Int := if slopeB f = false then 1 else if 24 < f.ls.length then 2 else looksI f.ls []
theorem looks_ok : ∀ {l : List Lk} {S : List Int}, looksI l S = 0 → (∀ x ∈ l, lookB x = true) ∧ l.Pairwise (fun a b => a.id ≠ b.id) ∧ ∀ x ∈ l, x.id ∉ S
  | [], _, _ => ⟨by simp, .nil, by simp⟩
  | x :: l, S, h => by
    unfold looksI at h
    by_cases h1 : lookB x = false
    · rw [if_pos h1] at h; cases h
    · rw [if_neg h1] at h
      by_cases h2 : x.id ∈ S
      · rw [if_pos h2] at h; cases h
      · rw [if_neg h2] at h
        obtain ⟨a, b, c⟩ := looks_ok h
        refine ⟨?_, ?_, ?_⟩
        · intro y hy; rcases List.mem_cons.1 hy with rfl | hy
          · simpa using h1
          · exact a y hy
        · refine List.pairwise_cons.2 ⟨fun y hy e => c y hy (by simp [e]), b⟩
        · intro y hy; rcases List.mem_cons.1 hy with rfl | hy
          · exact h2
          · intro hm; exact c y hy (by simp [hm])
theorem looks_of : ∀ {l : List Lk} {S : List Int}, (∀ x ∈ l, lookB x = true) → l.Pairwise (fun a b => a.id ≠ b.id) → (∀ x ∈ l, x.id ∉ S) → looksI l S = 0
  | [], _, _, _, _ => rfl
  | x :: l, S, h1, h2, h3 => by
    obtain ⟨p, q⟩ := List.pairwise_cons.1 h2
    unfold looksI
    rw [if_neg (by rw [h1 x (by simp)]; simp), if_neg (h3 x (by simp))]
    refine looks_of (fun y hy => h1 y (by simp [hy])) q (fun y hy hm => ?_)
    rcases List.mem_append.1 hm with hm | hm
    · exact h3 y (by simp [hy]) hm
    · exact p y hy (by simpa using (List.mem_singleton.1 hm).symm)
/-- A fire that passes its check. -/
structure FireOk (f : Fi) : Prop where
  slope : slopeB f = true
  len : f.ls.length ≤ 24
  look : ∀ x ∈ f.ls, lookB x = true
  ids : f.ls.Pairwise (fun a b => a.id ≠ b.id)
theorem fire_ok {f : Fi} (h : fireI f = 0) : FireOk f := by
  unfold fireI at h
  by_cases h1 : slopeB f = false
  · rw [if_pos h1] at h; cases h
  · rw [if_neg h1] at h
    by_cases h2 : 24 < f.ls.length
    · rw [if_pos h2] at h; cases h
    · rw [if_neg h2] at h
      obtain ⟨a, b, _⟩ := looks_ok h
      exact ⟨by simpa using h1, by omega, a, b⟩
theorem ok_fire {f : Fi} (h : FireOk f) : fireI f = 0 := by
  unfold fireI
  rw [if_neg (by rw [h.slope]; simp), if_neg (by have := h.len; omega)]
  exact looks_of h.look h.ids (by simp)
theorem spot_iff {x : Spt} : spotB x = true ↔ (0 ≤ x.foot ∧ x.foot ≤ 60) ∧ (0 ≤ x.hour ∧ x.hour ≤ 16384) := by simp [spotB, inF]
theorem heat_iff {n : Int} : heatB n = true ↔ 0 ≤ n ∧ n ≤ 1500 := by simp [heatB, inF]
theorem slope_iff {f : Fi} : slopeB f = true ↔ (((0 ≤ f.rise ∧ f.rise ≤ 200) ∧ (0 ≤ f.fall ∧ f.fall ≤ 200)) ∧ (0 ≤ f.up ∧ f.up ≤ 200)) ∧ (0 ≤ f.down ∧ f.down ≤ 200) := by simp [slopeB, inF]
theorem look_iff {x : Lk} : lookB x = true ↔ (1 ≤ x.id ∧ x.id ≤ 1099511627776) ∧ spotB x.at_ = true ∧ (0 ≤ x.lo ∧ x.lo ≤ 1500) ∧ (0 ≤ x.hi ∧ x.hi ≤ 1500) ∧ x.lo ≤ x.hi := by
  simp only [lookB, Bool.and_eq_true, decide_eq_true_eq, heat_iff, inF]
  constructor
  · rintro ⟨⟨⟨⟨a, b⟩, c⟩, d⟩, e⟩; exact ⟨a, b, c, d, e⟩
  · rintro ⟨a, b, c, d, e⟩; exact ⟨⟨⟨⟨a, b⟩, c⟩, d⟩, e⟩
/-- How far it is from a spot to another one. -/
def farI (f : Fi) (p q : Spt) : Int := max 0 (q.foot - p.foot) * f.up + max 0 (p.foot - q.foot) * f.down + max 0 (q.hour - p.hour) * f.rise + max 0 (p.hour - q.hour) * f.fall
theorem far_bounds {f : Fi} {p q : Spt} (hf : slopeB f = true) (hp : spotB p = true) (hq : spotB q = true) : 0 ≤ farI f p q ∧ farI f p q ≤ 10000000 := by
  have h1 := slope_iff.1 hf
  have h2 := spot_iff.1 hp
  have h3 := spot_iff.1 hq
  have key : ∀ a b m : Int, 0 ≤ a → a ≤ m → 0 ≤ b → b ≤ 200 → 0 ≤ a * b ∧ a * b ≤ m * 200 := fun a b m ha hm hb hb2 =>
    ⟨Int.mul_nonneg ha hb, Int.mul_le_mul hm hb2 hb (by omega)⟩
  have a1 := key (max 0 (q.hour - p.hour)) f.rise 16384 (by omega) (by omega) (by omega) (by omega)
  have a2 := key (max 0 (p.hour - q.hour)) f.fall 16384 (by omega) (by omega) (by omega) (by omega)
  have a3 := key (max 0 (q.foot - p.foot)) f.up 60 (by omega) (by omega) (by omega) (by omega)
  have a4 := key (max 0 (p.foot - q.foot)) f.down 60 (by omega) (by omega) (by omega) (by omega)
  unfold farI
  omega
theorem far_nonneg {f : Fi} (p q : Spt) (hf : slopeB f = true) : 0 ≤ farI f p q := by
  have h1 := slope_iff.1 hf
  have a1 := Int.mul_nonneg (a := max 0 (q.hour - p.hour)) (b := f.rise) (by omega) (by omega)
  have a2 := Int.mul_nonneg (a := max 0 (p.hour - q.hour)) (b := f.fall) (by omega) (by omega)
  have a3 := Int.mul_nonneg (a := max 0 (q.foot - p.foot)) (b := f.up) (by omega) (by omega)
  have a4 := Int.mul_nonneg (a := max 0 (p.foot - q.foot)) (b := f.down) (by omega) (by omega)
  unfold farI
  omega
theorem far_self {f : Fi} (p : Spt) : farI f p p = 0 := by unfold farI; simp
theorem far_tri {f : Fi} (p q r : Spt) (hf : slopeB f = true) : farI f p r ≤ farI f p q + farI f q r := by
  have h1 := slope_iff.1 hf
  have key : ∀ a b c s : Int, 0 ≤ s → c ≤ a + b → c * s ≤ a * s + b * s := fun a b c s hs h => by
    rw [← Int.add_mul]; exact Int.mul_le_mul_of_nonneg_right h hs
  have a1 := key (max 0 (q.hour - p.hour)) (max 0 (r.hour - q.hour)) (max 0 (r.hour - p.hour)) f.rise (by omega) (by omega)
  have a2 := key (max 0 (p.hour - q.hour)) (max 0 (q.hour - r.hour)) (max 0 (p.hour - r.hour)) f.fall (by omega) (by omega)
  have a3 := key (max 0 (q.foot - p.foot)) (max 0 (r.foot - q.foot)) (max 0 (r.foot - p.foot)) f.up (by omega) (by omega)
  have a4 := key (max 0 (p.foot - q.foot)) (max 0 (q.foot - r.foot)) (max 0 (p.foot - r.foot)) f.down (by omega) (by omega)
  unfold farI
  omega
/-- What a look makes of a spot at least, and at most. -/
def lowV (f : Fi) (p : Spt) (x : Lk) : Int := x.lo - farI f p x.at_
def highV (f : Fi) (p : Spt) (x : Lk) : Int := x.hi + farI f x.at_ p
def againstB (f : Fi) (a b : Lk) : Bool := decide (a.hi + farI f a.at_ b.at_ < b.lo)
def agreeB (f : Fi) (ls : List Lk) : Bool := ls.all fun a => ls.all fun b => !againstB f a b
theorem agree_iff {f : Fi} {ls : List Lk} : agreeB f ls = true ↔ ∀ a ∈ ls, ∀ b ∈ ls, b.lo ≤ a.hi + farI f a.at_ b.at_ := by
  simp only [agreeB, List.all_eq_true, againstB, Bool.not_eq_true', decide_eq_false_iff_not, Int.not_lt]
theorem agree_sub {f : Fi} {ls l : List Lk} (h : agreeB f ls = true) (hs : ∀ x ∈ l, x ∈ ls) : agreeB f l = true :=
  agree_iff.2 fun a ha b hb => agree_iff.1 h a (hs a ha) b (hs b hb)
theorem agree_perm {f : Fi} {ls l : List Lk} (h : ls.Perm l) : agreeB f ls = agreeB f l := by
  rw [Bool.eq_iff_iff]
  exact ⟨fun g => agree_sub g fun x hx => h.mem_iff.2 hx, fun g => agree_sub g fun x hx => h.mem_iff.1 hx⟩
def endLo (f : Fi) (ls : List Lk) (p : Spt) : Int := ls.foldl (fun m x => max m (lowV f p x)) 0
def endHi (f : Fi) (ls : List Lk) (p : Spt) : Int := ls.foldl (fun m x => min m (highV f p x)) 1500
section
variable {α : Type} (g : α → Int)
theorem fmax_ge : ∀ (l : List α) (m : Int), m ≤ l.foldl (fun m x => max m (g x)) m ∧ ∀ x ∈ l, g x ≤ l.foldl (fun m x => max m (g x)) m
  | [], m => ⟨Int.le_refl _, by simp⟩
  | y :: l, m => by
    obtain ⟨a, b⟩ := fmax_ge l (max m (g y))
    simp only [List.foldl_cons]
    refine ⟨by omega, fun x hx => ?_⟩
    rcases List.mem_cons.1 hx with rfl | hx
    · omega
    · exact b x hx
theorem fmax_is : ∀ (l : List α) (m : Int), l.foldl (fun m x => max m (g x)) m = m ∨ ∃ x ∈ l, l.foldl (fun m x => max m (g x)) m = g x
  | [], m => .inl rfl
  | y :: l, m => by
    simp only [List.foldl_cons]
    rcases fmax_is l (max m (g y)) with h | ⟨x, hx, h⟩
    · rw [h]
      rcases Int.le_total m (g y) with h2 | h2
      · exact .inr ⟨y, by simp, by omega⟩
      · exact .inl (by omega)
    · exact .inr ⟨x, by simp [hx], h⟩
theorem fmin_le : ∀ (l : List α) (m : Int), l.foldl (fun m x => min m (g x)) m ≤ m ∧ ∀ x ∈ l, l.foldl (fun m x => min m (g x)) m ≤ g x
  | [], m => ⟨Int.le_refl _, by simp⟩
  | y :: l, m => by
    obtain ⟨a, b⟩ := fmin_le l (min m (g y))
    simp only [List.foldl_cons]
    refine ⟨by omega, fun x hx => ?_⟩
    rcases List.mem_cons.1 hx with rfl | hx
    · omega
    · exact b x hx
theorem fmin_is : ∀ (l : List α) (m : Int), l.foldl (fun m x => min m (g x)) m = m ∨ ∃ x ∈ l, l.foldl (fun m x => min m (g x)) m = g x
  | [], m => .inl rfl
  | y :: l, m => by
    simp only [List.foldl_cons]
    rcases fmin_is l (min m (g y)) with h | ⟨x, hx, h⟩
    · rw [h]
      rcases Int.le_total m (g y) with h2 | h2
      · exact .inl (by omega)
      · exact .inr ⟨y, by simp, by omega⟩
    · exact .inr ⟨x, by simp [hx], h⟩
end
theorem lo_ge (f : Fi) (ls : List Lk) (p : Spt) : 0 ≤ endLo f ls p ∧ ∀ x ∈ ls, lowV f p x ≤ endLo f ls p := fmax_ge _ _ _
theorem lo_is (f : Fi) (ls : List Lk) (p : Spt) : endLo f ls p = 0 ∨ ∃ x ∈ ls, endLo f ls p = lowV f p x := fmax_is _ _ _
theorem hi_le (f : Fi) (ls : List Lk) (p : Spt) : endHi f ls p ≤ 1500 ∧ ∀ x ∈ ls, endHi f ls p ≤ highV f p x := fmin_le _ _ _
theorem hi_is (f : Fi) (ls : List Lk) (p : Spt) : endHi f ls p = 1500 ∨ ∃ x ∈ ls, endHi f ls p = highV f p x := fmin_is _ _ _
theorem lo_le {f : Fi} {ls : List Lk} {p : Spt} {n : Int} (h0 : 0 ≤ n) (h : ∀ x ∈ ls, lowV f p x ≤ n) : endLo f ls p ≤ n := by
  rcases lo_is f ls p with e | ⟨x, hx, e⟩
  · omega
  · have := h x hx; omega
theorem le_hi {f : Fi} {ls : List Lk} {p : Spt} {n : Int} (h0 : n ≤ 1500) (h : ∀ x ∈ ls, n ≤ highV f p x) : n ≤ endHi f ls p := by
  rcases hi_is f ls p with e | ⟨x, hx, e⟩
  · omega
  · have := h x hx; omega
theorem lo_perm {f : Fi} {ls l : List Lk} (h : ls.Perm l) (p : Spt) : endLo f ls p = endLo f l p :=
  Int.le_antisymm (lo_le (lo_ge f l p).1 fun x hx => (lo_ge f l p).2 x (h.mem_iff.1 hx)) (lo_le (lo_ge f ls p).1 fun x hx => (lo_ge f ls p).2 x (h.mem_iff.2 hx))
theorem hi_perm {f : Fi} {ls l : List Lk} (h : ls.Perm l) (p : Spt) : endHi f ls p = endHi f l p :=
  Int.le_antisymm (le_hi (hi_le f ls p).1 fun x hx => (hi_le f ls p).2 x (h.mem_iff.2 hx)) (le_hi (hi_le f l p).1 fun x hx => (hi_le f l p).2 x (h.mem_iff.1 hx))
/-- The least ID of the looks for which something holds; 0 if there are none. -/
def leastId (P : Lk → Bool) (ls : List Lk) : Int := ls.foldl (fun m x => if P x && (m == 0 || decide (x.id < m)) then x.id else m) 0
theorem leastId_snoc (P : Lk → Bool) (l : List Lk) (x : Lk) : leastId P (l ++ [x]) = if P x && (leastId P l == 0 || decide (x.id < leastId P l)) then x.id else leastId P l := by
  unfold leastId; rw [List.foldl_append]; rfl
theorem snoc_ind {α : Type} {M : List α → Prop} (h0 : M []) (h1 : ∀ l x, M l → M (l ++ [x])) (l : List α) : M l := by
  have : ∀ n l, l.length = n → M l := by
    intro n
    induction n with
    | zero => intro l hl; rw [List.length_eq_zero_iff.1 hl]; exact h0
    | succ n ih =>
      intro l hl
      have hne : l ≠ [] := by rintro rfl; simp at hl
      rw [← List.dropLast_concat_getLast hne]
      exact h1 _ _ (ih _ (by simp; omega))
  exact this _ l rfl
theorem least_spec (P : Lk → Bool) (l : List Lk) : (∀ x ∈ l, 1 ≤ x.id) → (leastId P l = 0 ∧ ∀ x ∈ l, P x = false) ∨ ∃ x ∈ l, P x = true ∧ leastId P l = x.id ∧ ∀ y ∈ l, P y = true → x.id ≤ y.id := by
  refine snoc_ind (M := fun l => (∀ x ∈ l, 1 ≤ x.id) → (leastId P l = 0 ∧ ∀ x ∈ l, P x = false) ∨ ∃ x ∈ l, P x = true ∧ leastId P l = x.id ∧ ∀ y ∈ l, P y = true → x.id ≤ y.id) (fun _ => .inl ⟨rfl, by simp⟩) (fun l z ih hid => ?_) l
  rw [leastId_snoc]
  have hz := hid z (by simp)
  rcases ih (fun x hx => hid x (by simp [hx])) with ⟨e, h⟩ | ⟨x, hx, hp, e, h⟩
  · rw [e]
    cases hP : P z with
    | true => exact .inr ⟨z, by simp, hP, by simp, fun y hy hy2 => by
        rcases List.mem_append.1 hy with hy | hy
        · rw [h y hy] at hy2; cases hy2
        · rw [List.mem_singleton.1 hy]; exact Int.le_refl _⟩
    | false => exact .inl ⟨by simp, fun y hy => by
        rcases List.mem_append.1 hy with hy | hy
        · exact h y hy
        · rw [List.mem_singleton.1 hy, hP]⟩
  · have hx1 := hid x (by simp [hx])
    rw [e]
    by_cases hc : P z = true ∧ z.id < x.id
    · have : (P z && (x.id == 0 || decide (z.id < x.id))) = true := by simp [hc.1, hc.2]
      rw [this]
      refine .inr ⟨z, by simp, hc.1, rfl, fun y hy hy2 => ?_⟩
      rcases List.mem_append.1 hy with hy | hy
      · have := h y hy hy2; omega
      · rw [List.mem_singleton.1 hy]; exact Int.le_refl _
    · have : (P z && (x.id == 0 || decide (z.id < x.id))) = false := by
        rw [Bool.eq_false_iff]; intro h2; simp only [Bool.and_eq_true, Bool.or_eq_true, beq_iff_eq, decide_eq_true_eq] at h2
        exact hc ⟨h2.1, by omega⟩
      rw [this]
      refine .inr ⟨x, by simp [hx], hp, rfl, fun y hy hy2 => ?_⟩
      rcases List.mem_append.1 hy with hy | hy
      · exact h y hy hy2
      · rw [List.mem_singleton.1 hy] at hy2 ⊢
        by_cases h3 : z.id < x.id
        · exact absurd ⟨hy2, h3⟩ hc
        · omega
theorem least_eq {P : Lk → Bool} {l : List Lk} {x : Lk} (hid : ∀ x ∈ l, 1 ≤ x.id) (hx : x ∈ l) (hp : P x = true) (h : ∀ y ∈ l, P y = true → x.id ≤ y.id) : leastId P l = x.id := by
  rcases least_spec P l hid with ⟨_, h2⟩ | ⟨y, hy, hp2, e, h2⟩
  · rw [h2 x hx] at hp; cases hp
  · rw [e]; exact Int.le_antisymm (h2 x hx hp) (h y hy hp2)
theorem least_none {P : Lk → Bool} {l : List Lk} (hid : ∀ x ∈ l, 1 ≤ x.id) (h : ∀ x ∈ l, P x = false) : leastId P l = 0 := by
  rcases least_spec P l hid with ⟨e, _⟩ | ⟨y, hy, hp2, e, h2⟩
  · exact e
  · rw [h y hy] at hp2; cases hp2
def lowId (f : Fi) (ls : List Lk) (p : Spt) : Int := leastId (fun x => lowV f p x == endLo f ls p) ls
def highId (f : Fi) (ls : List Lk) (p : Spt) : Int := leastId (fun x => highV f p x == endHi f ls p) ls
def bndI (f : Fi) (ls : List Lk) (p : Spt) : Bnd := ⟨endLo f ls p, endHi f ls p, lowId f ls p, highId f ls p⟩
/-- The first one than which no other is ahead. -/
def firstL {α : Type} (ahead : α → α → Bool) (l : List α) : Option α := l.foldl (fun o x => match o with | none => some x | some b => if ahead x b then some x else some b) none
theorem firstL_snoc {α : Type} (ahead : α → α → Bool) (l : List α) (x : α) : firstL ahead (l ++ [x]) = match firstL ahead l with | none => some x | some b => if ahead x b then some x else some b := by
  simp only [firstL, List.foldl_append, List.foldl_cons, List.foldl_nil]
theorem first_spec {α : Type} (k : α → Int) (l : List α) : (l = [] ∧ firstL (fun a b => decide (k b < k a)) l = none) ∨ ∃ b l1 l2, firstL (fun a b => decide (k b < k a)) l = some b ∧ l = l1 ++ b :: l2 ∧ (∀ a ∈ l1, k a < k b) ∧ ∀ a ∈ l2, k a ≤ k b := by
  refine snoc_ind (M := fun l => (l = [] ∧ firstL (fun a b => decide (k b < k a)) l = none) ∨ ∃ b l1 l2, firstL (fun a b => decide (k b < k a)) l = some b ∧ l = l1 ++ b :: l2 ∧ (∀ a ∈ l1, k a < k b) ∧ ∀ a ∈ l2, k a ≤ k b) (.inl ⟨rfl, rfl⟩) (fun l x ih => .inr ?_) l
  rw [firstL_snoc]
  rcases ih with ⟨rfl, e⟩ | ⟨b, l1, l2, e, rfl, h1, h2⟩
  · rw [e]; exact ⟨x, [], [], rfl, rfl, by simp, by simp⟩
  · rw [e]
    by_cases hc : k b < k x
    · refine ⟨x, l1 ++ b :: l2, [], by simp [hc], by simp, fun a ha => ?_, by simp⟩
      rcases List.mem_append.1 ha with ha | ha
      · have := h1 a ha; omega
      · rcases List.mem_cons.1 ha with rfl | ha
        · exact hc
        · have := h2 a ha; omega
    · refine ⟨b, l1, l2 ++ [x], by simp [hc], by simp, h1, fun a ha => ?_⟩
      rcases List.mem_append.1 ha with ha | ha
      · exact h2 a ha
      · rw [List.mem_singleton.1 ha]; omega
/-- The looks in the order of their IDs. -/
structure Srt (S ls : List Lk) : Prop where
  perm : S.Perm ls
  up : S.Pairwise (fun a b => a.id < b.id)
def lowsL (f : Fi) (S : List Lk) (p : Spt) : List (Int × Int) := S.map (fun x => (lowV f p x, x.id)) ++ [(0, 0)]
def highsL (f : Fi) (S : List Lk) (p : Spt) : List (Int × Int) := S.map (fun x => (highV f p x, x.id)) ++ [(1500, 0)]
theorem split_map {α β : Type} {g : α → β} {S : List α} {l1 l2 : List β} {b e : β} (h : S.map g ++ [e] = l1 ++ b :: l2) : (l2 = [] ∧ b = e ∧ l1 = S.map g) ∨ ∃ S1 x S2 l3, S = S1 ++ x :: S2 ∧ b = g x ∧ l1 = S1.map g ∧ l2 = l3 ++ [e] ∧ l3 = S2.map g := by
  rcases List.append_eq_append_iff.1 h with ⟨a, h1, h2⟩ | ⟨a, h1, h2⟩
  · cases a with
    | nil => simp at h2; exact .inl ⟨h2.2, h2.1.symm, by simpa using h1⟩
    | cons y a => simp at h2
  · cases a with
    | nil =>
      simp at h2
      exact .inl ⟨h2.2, h2.1, by simpa using h1.symm⟩
    | cons y a =>
      simp only [List.cons_append, List.cons.injEq] at h2
      obtain ⟨rfl, rfl⟩ := h2
      obtain ⟨S1, S2', rfl, rfl, h3⟩ := List.map_eq_append_iff.1 h1
      cases S2' with
      | nil => simp at h3
      | cons x S2 =>
        simp only [List.map_cons, List.cons.injEq] at h3
        exact .inr ⟨S1, x, S2, a, rfl, h3.1.symm, rfl, rfl, h3.2.symm⟩
theorem srt_first {S : List Lk} {S1 S2 : List Lk} {x : Lk} (h : S.Pairwise (fun a b => a.id < b.id)) (e : S = S1 ++ x :: S2) : ∀ y ∈ S2, x.id < y.id := by
  subst e
  exact (List.pairwise_cons.1 (List.pairwise_append.1 h).2.1).1
theorem first_low {f : Fi} {S ls : List Lk} (hS : Srt S ls) (hid : ∀ x ∈ ls, 1 ≤ x.id) (p : Spt) : firstL (fun a b => decide (b.1 < a.1)) (lowsL f S p) = some (endLo f ls p, lowId f ls p) := by
  have hm : ∀ x, x ∈ S ↔ x ∈ ls := fun x => hS.perm.mem_iff
  rcases first_spec (fun a : Int × Int => a.1) (lowsL f S p) with ⟨e, _⟩ | ⟨b, l1, l2, e, hl, h1, h2⟩
  · simp [lowsL] at e
  rw [e]
  congr 1
  rcases split_map hl with ⟨rfl, rfl, rfl⟩ | ⟨S1, x, S2, l3, rfl, rfl, rfl, rfl, rfl⟩
  · have hneg : ∀ x ∈ ls, lowV f p x < 0 := fun x hx => h1 _ (List.mem_map.2 ⟨x, (hm x).2 hx, rfl⟩)
    have e0 : endLo f ls p = 0 := Int.le_antisymm (lo_le (Int.le_refl _) fun x hx => Int.le_of_lt (hneg x hx)) (lo_ge f ls p).1
    unfold lowId
    rw [e0, least_none hid fun x hx => by have := hneg x hx; simp; omega]
  · have hx : x ∈ ls := (hm x).1 (by simp)
    have e0 : endLo f ls p = lowV f p x := by
      refine Int.le_antisymm (lo_le ?_ fun y hy => ?_) ((lo_ge f ls p).2 x hx)
      · exact h2 (0, 0) (by simp)
      · rcases List.mem_append.1 ((hm y).2 hy) with hy | hy
        · exact Int.le_of_lt (h1 _ (List.mem_map.2 ⟨y, hy, rfl⟩))
        · rcases List.mem_cons.1 hy with rfl | hy
          · exact Int.le_refl _
          · exact h2 (lowV f p y, y.id) (by simp; exact .inl ⟨y, hy, rfl, rfl⟩)
    unfold lowId
    rw [e0, least_eq hid hx (by simp) fun y hy hy2 => ?_]
    rcases List.mem_append.1 ((hm y).2 hy) with hy3 | hy3
    · have := h1 _ (List.mem_map.2 ⟨y, hy3, rfl⟩)
      simp at this hy2; omega
    · rcases List.mem_cons.1 hy3 with rfl | hy3
      · exact Int.le_refl _
      · exact Int.le_of_lt (srt_first hS.up rfl y hy3)
theorem first_high {f : Fi} {S ls : List Lk} (hS : Srt S ls) (hid : ∀ x ∈ ls, 1 ≤ x.id) (p : Spt) : firstL (fun a b => decide (a.1 < b.1)) (highsL f S p) = some (endHi f ls p, highId f ls p) := by
  have hm : ∀ x, x ∈ S ↔ x ∈ ls := fun x => hS.perm.mem_iff
  have hfun : (fun a b : Int × Int => decide (a.1 < b.1)) = fun a b => decide (-b.1 < -a.1) := by
    funext a b; rw [Bool.eq_iff_iff]; simp
  rw [hfun]
  rcases first_spec (fun a : Int × Int => -a.1) (highsL f S p) with ⟨e, _⟩ | ⟨b, l1, l2, e, hl, h1, h2⟩
  · simp [highsL] at e
  rw [e]
  congr 1
  rcases split_map hl with ⟨rfl, rfl, rfl⟩ | ⟨S1, x, S2, l3, rfl, rfl, rfl, rfl, rfl⟩
  · have hneg : ∀ x ∈ ls, 1500 < highV f p x := fun x hx => by
      have := h1 _ (List.mem_map.2 ⟨x, (hm x).2 hx, rfl⟩); simp at this; omega
    have e0 : endHi f ls p = 1500 := Int.le_antisymm (hi_le f ls p).1 (le_hi (Int.le_refl _) fun x hx => Int.le_of_lt (hneg x hx))
    unfold highId
    rw [e0, least_none hid fun x hx => by have := hneg x hx; simp; omega]
  · have hx : x ∈ ls := (hm x).1 (by simp)
    have e0 : endHi f ls p = highV f p x := by
      refine Int.le_antisymm ((hi_le f ls p).2 x hx) (le_hi ?_ fun y hy => ?_)
      · have := h2 (1500, 0) (by simp); simp at this; omega
      · rcases List.mem_append.1 ((hm y).2 hy) with hy | hy
        · have := h1 _ (List.mem_map.2 ⟨y, hy, rfl⟩); simp at this; omega
        · rcases List.mem_cons.1 hy with rfl | hy
          · exact Int.le_refl _
          · have := h2 (highV f p y, y.id) (by simp; exact .inl ⟨y, hy, rfl, rfl⟩); simp at this; omega
    unfold highId
    rw [e0, least_eq hid hx (by simp) fun y hy hy2 => ?_]
    rcases List.mem_append.1 ((hm y).2 hy) with hy3 | hy3
    · have := h1 _ (List.mem_map.2 ⟨y, hy3, rfl⟩)
      simp at this hy2; omega
    · rcases List.mem_cons.1 hy3 with rfl | hy3
      · exact Int.le_refl _
      · exact Int.le_of_lt (srt_first hS.up rfl y hy3)
/-- All pairs of looks. -/
def pairsL (ls : List Lk) : List (Lk × Lk) := ls.flatMap fun x => ls.map fun y => (x, y)
theorem mem_pairs {ls : List Lk} {p : Lk × Lk} : p ∈ pairsL ls ↔ p.1 ∈ ls ∧ p.2 ∈ ls := by
  obtain ⟨a, b⟩ := p
  simp only [pairsL, List.mem_flatMap, List.mem_map, Prod.mk.injEq]
  constructor
  · rintro ⟨x, hx, y, hy, rfl, rfl⟩; exact ⟨hx, hy⟩
  · rintro ⟨h1, h2⟩; exact ⟨a, h1, b, h2, rfl, rfl⟩
structure Cl where
  a : Int
  b : Int
  is : Bool
def clStep (f : Fi) (o : Cl) (p : Lk × Lk) : Cl := if againstB f p.1 p.2 && (!o.is || (decide (p.1.id < o.a) || (p.1.id == o.a && decide (p.2.id < o.b)))) then ⟨p.1.id, p.2.id, true⟩ else o
def clashF (f : Fi) (l : List (Lk × Lk)) : Cl := l.foldl (clStep f) ⟨0, 0, false⟩
def clashI (f : Fi) (ls : List Lk) : Cl := clashF f (pairsL ls)
theorem clashF_snoc (f : Fi) (l : List (Lk × Lk)) (p : Lk × Lk) : clashF f (l ++ [p]) = clStep f (clashF f l) p := by
  unfold clashF; rw [List.foldl_append]; rfl
def lexLe (p q : Lk × Lk) : Prop := p.1.id < q.1.id ∨ p.1.id = q.1.id ∧ p.2.id ≤ q.2.id
theorem clash_spec (f : Fi) (l : List (Lk × Lk)) : (clashF f l = ⟨0, 0, false⟩ ∧ ∀ p ∈ l, againstB f p.1 p.2 = false) ∨ ∃ p ∈ l, againstB f p.1 p.2 = true ∧ clashF f l = ⟨p.1.id, p.2.id, true⟩ ∧ ∀ q ∈ l, againstB f q.1 q.2 = true → lexLe p q := by
  refine snoc_ind (M := fun l => (clashF f l = ⟨0, 0, false⟩ ∧ ∀ p ∈ l, againstB f p.1 p.2 = false) ∨ ∃ p ∈ l, againstB f p.1 p.2 = true ∧ clashF f l = ⟨p.1.id, p.2.id, true⟩ ∧ ∀ q ∈ l, againstB f q.1 q.2 = true → lexLe p q) (.inl ⟨rfl, by simp⟩) (fun l z ih => ?_) l
  rw [clashF_snoc]
  rcases ih with ⟨e, h⟩ | ⟨p, hp, hag, e, h⟩
  · rw [e]
    cases hz : againstB f z.1 z.2 with
    | true =>
      refine .inr ⟨z, by simp, hz, by simp [clStep, hz], fun q hq hq2 => ?_⟩
      rcases List.mem_append.1 hq with hq | hq
      · rw [h q hq] at hq2; cases hq2
      · rw [List.mem_singleton.1 hq]; exact .inr ⟨rfl, Int.le_refl _⟩
    | false =>
      refine .inl ⟨by simp [clStep, hz], fun q hq => ?_⟩
      rcases List.mem_append.1 hq with hq | hq
      · exact h q hq
      · rw [List.mem_singleton.1 hq]; exact hz
  · rw [e]
    by_cases hc : againstB f z.1 z.2 = true ∧ (z.1.id < p.1.id ∨ z.1.id = p.1.id ∧ z.2.id < p.2.id)
    · refine .inr ⟨z, by simp, hc.1, ?_, fun q hq hq2 => ?_⟩
      · unfold clStep; rw [if_pos]; simp only [hc.1, Bool.true_and, Bool.or_eq_true, Bool.and_eq_true, decide_eq_true_eq, beq_iff_eq]; exact .inr hc.2
      · rcases List.mem_append.1 hq with hq | hq
        · have := h q hq hq2; unfold lexLe at *; omega
        · rw [List.mem_singleton.1 hq]; exact .inr ⟨rfl, Int.le_refl _⟩
    · refine .inr ⟨p, by simp [hp], hag, ?_, fun q hq hq2 => ?_⟩
      · unfold clStep; rw [if_neg]; intro h2; simp only [Bool.and_eq_true, Bool.or_eq_true, decide_eq_true_eq, beq_iff_eq, Bool.not_true, Bool.false_eq_true, false_or] at h2; exact hc h2
      · rcases List.mem_append.1 hq with hq | hq
        · exact h q hq hq2
        · rw [List.mem_singleton.1 hq] at hq2 ⊢
          unfold lexLe
          by_cases h3 : z.1.id < p.1.id ∨ z.1.id = p.1.id ∧ z.2.id < p.2.id
          · exact absurd ⟨hq2, h3⟩ hc
          · omega
theorem clash_none {f : Fi} {ls : List Lk} (h : agreeB f ls = true) : clashI f ls = ⟨0, 0, false⟩ := by
  rcases clash_spec f (pairsL ls) with ⟨e, _⟩ | ⟨p, hp, hag, e, h2⟩
  · exact e
  · have := agree_iff.1 h _ (mem_pairs.1 hp).1 _ (mem_pairs.1 hp).2
    simp only [againstB, decide_eq_true_eq] at hag; omega
theorem clash_some {f : Fi} {ls : List Lk} (h : agreeB f ls = false) : ∃ x ∈ ls, ∃ y ∈ ls, againstB f x y = true ∧ clashI f ls = ⟨x.id, y.id, true⟩ ∧ ∀ u ∈ ls, ∀ v ∈ ls, againstB f u v = true → x.id < u.id ∨ x.id = u.id ∧ y.id ≤ v.id := by
  rcases clash_spec f (pairsL ls) with ⟨e, h2⟩ | ⟨p, hp, hag, e, h2⟩
  · rw [agree_iff.2 fun a ha b hb => by have := h2 (a, b) (mem_pairs.2 ⟨ha, hb⟩); simp only [againstB, decide_eq_false_iff_not] at this; omega] at h; cases h
  · exact ⟨p.1, (mem_pairs.1 hp).1, p.2, (mem_pairs.1 hp).2, hag, e, fun u hu v hv hh => h2 (u, v) (mem_pairs.2 ⟨hu, hv⟩) hh⟩
theorem clash_is (f : Fi) (ls : List Lk) : (clashI f ls).is = !agreeB f ls := by
  cases h : agreeB f ls with
  | true => rw [clash_none h]; rfl
  | false => obtain ⟨x, _, y, _, _, e, _⟩ := clash_some h; rw [e]; rfl
theorem clash_perm {f : Fi} {ls l : List Lk} (hp : ls.Perm l) : clashI f ls = clashI f l := by
  cases h : agreeB f ls with
  | true => rw [clash_none h, clash_none (by rw [← agree_perm hp]; exact h)]
  | false =>
    obtain ⟨x, hx, y, hy, h1, e, h2⟩ := clash_some h
    obtain ⟨u, hu, v, hv, h3, e2, h4⟩ := clash_some (f := f) (ls := l) (by rw [← agree_perm hp]; exact h)
    have a := h2 u (hp.mem_iff.2 hu) v (hp.mem_iff.2 hv) h3
    have b := h4 x (hp.mem_iff.1 hx) y (hp.mem_iff.1 hy) h1
    rw [e, e2]
    congr 1 <;> omega
/-- The program's search: the first look that contradicts any, and the first one that it contradicts. -/
def clashS (f : Fi) (S : List Lk) : Cl := match S.find? (fun x => S.any (againstB f x)) with
  | none => ⟨0, 0, false⟩
  | some x => match S.find? (againstB f x) with
    | none => ⟨0, 0, false⟩
    | some y => ⟨x.id, y.id, true⟩
theorem find_least {S : List Lk} {P : Lk → Bool} {x : Lk} (hS : S.Pairwise (fun a b => a.id < b.id)) (h : S.find? P = some x) : x ∈ S ∧ P x = true ∧ ∀ u ∈ S, P u = true → u = x ∨ x.id < u.id := by
  obtain ⟨hp, S1, S2, e, h1⟩ := List.find?_eq_some_iff_append.1 h
  subst e
  refine ⟨by simp, hp, fun u hu hu2 => ?_⟩
  rcases List.mem_append.1 hu with hu | hu
  · have := h1 u hu; rw [hu2] at this; cases this
  · rcases List.mem_cons.1 hu with rfl | hu
    · exact .inl rfl
    · exact .inr (srt_first hS rfl u hu)
theorem clashS_eq {f : Fi} {S ls : List Lk} (hS : Srt S ls) : clashS f S = clashI f ls := by
  rw [← clash_perm hS.perm]
  unfold clashS
  cases hf : S.find? (fun x => S.any (againstB f x)) with
  | none =>
    have := List.find?_eq_none.1 hf
    rw [clash_none (agree_iff.2 fun a ha b hb => ?_)]
    have h2 := this a ha
    simp only [List.any_eq_true, not_exists, not_and] at h2
    have h3 := h2 b hb
    simp only [againstB, decide_eq_true_eq] at h3; omega
  | some x =>
    obtain ⟨hx, hp, hl⟩ := find_least hS.up hf
    obtain ⟨v, hv, hv2⟩ := List.any_eq_true.1 hp
    dsimp only
    cases hg : S.find? (againstB f x) with
    | none => exact absurd hv2 (List.find?_eq_none.1 hg v hv)
    | some y =>
      obtain ⟨hy, hp2, hl2⟩ := find_least hS.up hg
      dsimp only
      have hna : agreeB f S = false := by
        rw [Bool.eq_false_iff]; intro hh
        have := agree_iff.1 hh x hx y hy
        simp only [againstB, decide_eq_true_eq] at hp2; omega
      obtain ⟨u, hu, w, hw, h3, e, h4⟩ := clash_some hna
      rw [e]
      have a := h4 x hx y hy hp2
      have b := hl u hu (List.any_eq_true.2 ⟨w, hw, h3⟩)
      rcases b with rfl | b
      · rcases hl2 w hw h3 with rfl | c
        · rfl
        · omega
      · omega
/-- A number put into a list in increasing order. -/
def putI (l : List Int) (n : Int) : List Int := l.takeWhile (fun x => decide (x < n)) ++ n :: l.dropWhile (fun x => decide (x < n))
theorem put_perm (l : List Int) (n : Int) : (putI l n).Perm (n :: l) := by
  unfold putI
  refine List.perm_middle.trans ?_
  rw [List.takeWhile_append_dropWhile]
theorem put_up : ∀ {l : List Int} (n : Int), l.Pairwise (· ≤ ·) → (putI l n).Pairwise (· ≤ ·)
  | [], n, _ => by simp [putI]
  | x :: l, n, h => by
    obtain ⟨h1, h2⟩ := List.pairwise_cons.1 h
    by_cases hc : x < n
    · have e : putI (x :: l) n = x :: putI l n := by simp [putI, hc]
      rw [e]
      refine List.pairwise_cons.2 ⟨fun y hy => ?_, put_up n h2⟩
      rcases List.mem_cons.1 ((put_perm l n).mem_iff.1 hy) with rfl | hy
      · omega
      · exact h1 y hy
    · have e : putI (x :: l) n = n :: x :: l := by simp [putI, hc]
      rw [e]
      refine List.pairwise_cons.2 ⟨fun y hy => ?_, h⟩
      rcases List.mem_cons.1 hy with rfl | hy
      · omega
      · have := h1 y hy; omega
def putAll (l : List Int) : List Int := l.foldl putI []
theorem putAll_snoc (l : List Int) (n : Int) : putAll (l ++ [n]) = putI (putAll l) n := by
  unfold putAll; rw [List.foldl_append]; rfl
theorem putAll_spec (l : List Int) : (putAll l).Perm l ∧ (putAll l).Pairwise (· ≤ ·) := by
  refine snoc_ind (M := fun l => (putAll l).Perm l ∧ (putAll l).Pairwise (· ≤ ·)) ⟨.nil, .nil⟩ (fun l x ih => ?_) l
  rw [putAll_snoc]
  exact ⟨(put_perm _ _).trans ((List.Perm.cons x ih.1).trans (List.perm_append_comm (l₁ := [x]) (l₂ := l))), put_up _ ih.2⟩
theorem putAll_perm {l m : List Int} (h : l.Perm m) : putAll l = putAll m :=
  List.Perm.eq_of_pairwise (le := (· ≤ ·)) (fun _ _ _ _ => Int.le_antisymm) (putAll_spec l).2 (putAll_spec m).2 ((putAll_spec l).1.trans (h.trans (putAll_spec m).1.symm))
theorem putAll_of_up {l : List Int} (h : l.Pairwise (· ≤ ·)) : putAll l = l :=
  List.Perm.eq_of_pairwise (le := (· ≤ ·)) (fun _ _ _ _ => Int.le_antisymm) (putAll_spec l).2 h (putAll_spec l).1
/-- The IDs of the looks for which something holds, in increasing order. -/
def idsI (P : Lk → Bool) (ls : List Lk) : List Int := putAll ((ls.filter P).map Lk.id)
theorem ids_srt {P : Lk → Bool} {S ls : List Lk} (hS : Srt S ls) : idsI P ls = (S.filter P).map Lk.id := by
  unfold idsI
  rw [putAll_perm ((hS.perm.symm.filter P).map Lk.id)]
  refine putAll_of_up ?_
  rw [List.pairwise_map]
  exact (hS.up.filter P).imp fun h => Int.le_of_lt h
theorem ids_perm {P : Lk → Bool} {l ls : List Lk} (h : l.Perm ls) : idsI P l = idsI P ls := putAll_perm ((h.filter P).map Lk.id)
theorem mem_ids {P : Lk → Bool} {ls : List Lk} {n : Int} : n ∈ idsI P ls ↔ ∃ x ∈ ls, P x = true ∧ x.id = n := by
  unfold idsI
  rw [(putAll_spec _).1.mem_iff]
  simp only [List.mem_map, List.mem_filter]
  constructor
  · rintro ⟨x, ⟨a, b⟩, c⟩; exact ⟨x, a, b, c⟩
  · rintro ⟨x, a, b, c⟩; exact ⟨x, ⟨a, b⟩, c⟩
/-- Looks without some IDs. -/
def butL (ls : List Lk) (ids : List Int) : List Lk := ls.filter fun x => !ids.contains x.id
def but1 (ls : List Lk) (id : Int) : List Lk := ls.filter fun x => x.id != id
theorem but1_eq (ls : List Lk) (id : Int) : butL ls [id] = but1 ls id := by
  unfold butL but1; congr 1; funext x; rw [Bool.eq_iff_iff]; simp
theorem srt_but {S ls : List Lk} (h : Srt S ls) (id : Int) : Srt (but1 S id) (but1 ls id) := ⟨h.perm.filter _, h.up.filter _⟩
/-- The looks without each of which alone all others agree. -/
def suspL (f : Fi) (ls : List Lk) : List Int := if agreeB f ls = true then [] else idsI (fun x => agreeB f (but1 ls x.id)) ls
/-- The looks without each of which the ends of a spot are others. -/
def restB (f : Fi) (ls : List Lk) (p : Spt) (id : Int) : Bool := !(decide (endLo f (but1 ls id) p = endLo f ls p) && decide (endHi f (but1 ls id) p = endHi f ls p))
def restL (f : Fi) (ls : List Lk) (p : Spt) : List Int := idsI (fun x => restB f ls p x.id) ls
/-- The spans of the indices of the heats that are at least a need. -/
def rowStep (o : List Spn) (i : Int) : List Spn := match o.getLast? with
  | some r => if r.hi = i - 1 then o.dropLast ++ [⟨r.lo, i⟩] else o ++ [⟨i, i⟩]
  | none => [⟨i, i⟩]
def rowsF (l : List Int) (need : Int) : Nat → List Spn
  | 0 => []
  | i + 1 => match l[i]? with
    | some h => if h < need then rowsF l need i else rowStep (rowsF l need i) i
    | none => rowsF l need i
def rowsI (l : List Int) (need : Int) : List Spn := rowsF l need l.length
/-- How something burns: the row that is going on, and what is told. -/
structure Bs where
  row : Int
  b : Brn
def burnStep (need : Int) (s : Bs) (h : Int) : Bs := if h < need then ⟨0, s.b⟩ else ⟨s.row + 1, ⟨s.b.hours + 1, max s.b.row (s.row + 1), s.b.sum + h - need⟩⟩
def burnF (need : Int) (l : List Int) : Bs := l.foldl (burnStep need) ⟨0, ⟨0, 0, 0⟩⟩
def burnI (l : List Int) (need : Int) : Brn := (burnF need l).b
theorem burnF_snoc (need : Int) (l : List Int) (h : Int) : burnF need (l ++ [h]) = burnStep need (burnF need l) h := by
  unfold burnF; rw [List.foldl_append]; rfl
theorem rowStep_none (i : Int) : rowStep [] i = [⟨i, i⟩] := rfl
theorem rowStep_on {o : List Spn} {r : Spn} {i : Int} (h : r.hi = i - 1) : rowStep (o ++ [r]) i = o ++ [⟨r.lo, i⟩] := by
  unfold rowStep; simp [h]
theorem rowStep_new {o : List Spn} {r : Spn} {i : Int} (h : r.hi ≠ i - 1) : rowStep (o ++ [r]) i = o ++ [r] ++ [⟨i, i⟩] := by
  unfold rowStep; simp [h]
theorem rows_hot {l : List Int} {need : Int} {i : Nat} {h : Int} (hx : l[i]? = some h) (hh : ¬ h < need) : rowsF l need (i + 1) = rowStep (rowsF l need i) i := by
  conv => lhs; unfold rowsF
  rw [hx]; dsimp only; rw [if_neg hh]
theorem rows_cold {l : List Int} {need : Int} {i : Nat} {h : Int} (hx : l[i]? = some h) (hh : h < need) : rowsF l need (i + 1) = rowsF l need i := by
  conv => lhs; unfold rowsF
  rw [hx]; dsimp only; rw [if_pos hh]
def Spn.len (r : Spn) : Int := r.hi - r.lo + 1
/-- What the rows and the burning have to do with each other, behind the first i heats. -/
structure RowInv (l : List Int) (need : Int) (i : Nat) : Prop where
  off : (burnF need (l.take i)).row = 0 → rowsF l need i = [] ∨ ∃ R r, rowsF l need i = R ++ [r] ∧ r.hi < (i : Int) - 1
  on : (burnF need (l.take i)).row ≠ 0 → ∃ R, rowsF l need i = R ++ [⟨(i : Int) - (burnF need (l.take i)).row, (i : Int) - 1⟩]
  row0 : 0 ≤ (burnF need (l.take i)).row ∧ (burnF need (l.take i)).row ≤ (burnF need (l.take i)).b.row
  rng : ∀ r ∈ rowsF l need i, 0 ≤ r.lo ∧ r.lo ≤ r.hi ∧ r.hi < i ∧ r.len ≤ (burnF need (l.take i)).b.row
  max_ : (rowsF l need i = [] ∧ (burnF need (l.take i)).b.row = 0) ∨ ∃ r ∈ rowsF l need i, r.len = (burnF need (l.take i)).b.row
  mem : ∀ k : Nat, k < i → ((∃ r ∈ rowsF l need i, r.lo ≤ k ∧ (k : Int) ≤ r.hi) ↔ ∃ h, l[k]? = some h ∧ need ≤ h)
  len_ : (rowsF l need i).length ≤ i
theorem rowStep_mem {o : List Spn} {i : Int} {r : Spn} (h : r ∈ rowStep o i) : (r ∈ o ∧ (∀ R s, o = R ++ [s] → s.hi = i - 1 → r ∈ R)) ∨ (r.hi = i ∧ ((r.lo = i) ∨ ∃ R s, o = R ++ [s] ∧ s.hi = i - 1 ∧ r.lo = s.lo)) := by
  rcases List.eq_nil_or_concat o with rfl | ⟨R, s, rfl⟩
  · rw [rowStep_none] at h; rw [List.mem_singleton.1 h]; exact .inr ⟨rfl, .inl rfl⟩
  · rw [List.concat_eq_append] at h ⊢
    by_cases hc : s.hi = i - 1
    · rw [rowStep_on hc] at h
      rcases List.mem_append.1 h with h | h
      · refine .inl ⟨by simp [h], fun R' s' e _ => ?_⟩
        rw [← List.append_inj_left' e rfl]
        exact h
      · rw [List.mem_singleton.1 h]; exact .inr ⟨rfl, .inr ⟨R, s, rfl, hc, rfl⟩⟩
    · rw [rowStep_new hc] at h
      rcases List.mem_append.1 h with h | h
      · refine .inl ⟨h, fun R' s' e hs => ?_⟩
        have e2 : s = s' := by have := List.append_inj_right' e rfl; simpa using this
        rw [← e2] at hs; exact absurd hs hc
      · rw [List.mem_singleton.1 h]; exact .inr ⟨rfl, .inl rfl⟩
theorem take_snocI {l : List Int} {i : Nat} {h : Int} (hx : l[i]? = some h) : l.take (i + 1) = l.take i ++ [h] := by
  obtain ⟨hl, e⟩ := List.getElem?_eq_some_iff.1 hx
  rw [List.take_succ_eq_append_getElem hl, e]
theorem row_inv (l : List Int) (need : Int) : ∀ i, i ≤ l.length → RowInv l need i
  | 0, _ => ⟨fun _ => .inl rfl, fun h => absurd rfl h, ⟨Int.le_refl _, Int.le_refl _⟩, by simp [rowsF], .inl ⟨rfl, rfl⟩, by omega, by simp [rowsF]⟩
  | i + 1, hi => by
    have ih := row_inv l need i (by omega)
    obtain ⟨h, hx⟩ : ∃ h, l[i]? = some h := ⟨l[i], List.getElem?_eq_getElem (by omega)⟩
    have et : burnF need (l.take (i + 1)) = burnStep need (burnF need (l.take i)) h := by rw [take_snocI hx, burnF_snoc]
    obtain ⟨off, on, row0, rng, mx, mem, ln⟩ := ih
    generalize burnF need (l.take i) = s at off on row0 rng mx et
    by_cases hh : h < need
    · have er := rows_cold (need := need) hx hh
      have eb : burnStep need s h = ⟨0, s.b⟩ := by unfold burnStep; rw [if_pos hh]
      rw [eb] at et
      refine ⟨fun _ => ?_, fun h2 => absurd (by rw [et]) h2, by rw [et]; exact ⟨Int.le_refl _, by dsimp only; omega⟩, ?_, ?_, ?_, ?_⟩
      · rw [er]
        by_cases h0 : s.row = 0
        · rcases off h0 with e | ⟨R, r, e, h2⟩
          · exact .inl e
          · exact .inr ⟨R, r, e, by omega⟩
        · obtain ⟨R, e⟩ := on h0
          exact .inr ⟨R, _, e, by simp only; omega⟩
      · intro r hr; rw [er] at hr; rw [et]; have := rng r hr; exact ⟨this.1, this.2.1, by omega, this.2.2.2⟩
      · rw [er, et]; exact mx
      · intro k hk
        rw [er]
        rcases Nat.lt_or_ge k i with h2 | h2
        · exact mem k h2
        · obtain rfl : k = i := by omega
          constructor
          · rintro ⟨r, hr, _, h4⟩; have := rng r hr; omega
          · rintro ⟨g, hg, hg2⟩; rw [hx] at hg; cases hg; omega
      · rw [er]; omega
    · have er := rows_hot (need := need) hx hh
      have eb : burnStep need s h = ⟨s.row + 1, ⟨s.b.hours + 1, max s.b.row (s.row + 1), s.b.sum + h - need⟩⟩ := by unfold burnStep; rw [if_neg hh]
      rw [eb] at et
      obtain ⟨R, e1⟩ : ∃ R, rowStep (rowsF l need i) i = R ++ [⟨((i + 1 : Nat) : Int) - (s.row + 1), ((i + 1 : Nat) : Int) - 1⟩] ∧ (R = rowsF l need i ∧ s.row = 0 ∨ ∃ q, rowsF l need i = R ++ [q] ∧ q.hi = (i : Int) - 1 ∧ q.lo = (i : Int) - s.row) := by
        by_cases h0 : s.row = 0
        · rcases off h0 with e | ⟨R, r, e, h2⟩
          · rw [e, rowStep_none]
            exact ⟨[], by simp; omega, .inl ⟨rfl, h0⟩⟩
          · rw [e, rowStep_new (by omega)]
            exact ⟨R ++ [r], by simp; omega, .inl ⟨rfl, h0⟩⟩
        · obtain ⟨R, e⟩ := on h0
          rw [e, rowStep_on (by simp)]
          exact ⟨R, by simp; omega, .inr ⟨_, rfl, rfl, rfl⟩⟩
      obtain ⟨e1, e2⟩ := e1
      have hsub : ∀ r ∈ R, r ∈ rowsF l need i := by
        rcases e2 with ⟨rfl, _⟩ | ⟨q, e2, _, _⟩
        · exact fun r hr => hr
        · intro r hr; rw [e2]; simp [hr]
      refine ⟨fun h2 => by rw [et] at h2; simp only at h2; omega, fun _ => ⟨R, by rw [er, et]; exact e1⟩, by rw [et]; dsimp only; omega, ?_, ?_, ?_, ?_⟩
      · intro r hr
        rw [er, e1] at hr
        rw [et]
        dsimp only
        have hrow : s.row ≤ i := by
          rcases e2 with ⟨_, h0⟩ | ⟨q, e2, h3, h4⟩
          · omega
          · have := rng q (by rw [e2]; simp); omega
        rcases List.mem_append.1 hr with hr | hr
        · have := rng r (hsub r hr); exact ⟨this.1, this.2.1, by omega, by omega⟩
        · rw [List.mem_singleton.1 hr]; unfold Spn.len; simp only; omega
      · right
        rw [er, e1, et]
        dsimp only
        rcases Int.le_total s.b.row (s.row + 1) with h3 | h3
        · exact ⟨_, List.mem_append.2 (.inr (List.mem_singleton.2 rfl)), by unfold Spn.len; dsimp only; omega⟩
        · rcases mx with ⟨e, e3⟩ | ⟨r, hr, e3⟩
          · omega
          · rcases e2 with ⟨rfl, h0⟩ | ⟨q, e2, h4, h5⟩
            · exact ⟨r, by simp [hr], by omega⟩
            · rw [e2] at hr
              rcases List.mem_append.1 hr with hr | hr
              · exact ⟨r, by simp [hr], by omega⟩
              · rw [List.mem_singleton.1 hr] at e3
                unfold Spn.len at e3; omega
      · intro k hk
        rw [er, e1]
        rcases Nat.lt_or_ge k i with h2 | h2
        · rw [← mem k h2]
          constructor
          · rintro ⟨r, hr, h3, h4⟩
            rcases List.mem_append.1 hr with hr | hr
            · exact ⟨r, hsub r hr, h3, h4⟩
            · rw [List.mem_singleton.1 hr] at h3 h4
              simp only at h3 h4
              rcases e2 with ⟨_, h0⟩ | ⟨q, e2, h5, h6⟩
              · omega
              · exact ⟨q, by rw [e2]; simp, by omega, by omega⟩
          · rintro ⟨r, hr, h3, h4⟩
            rcases e2 with ⟨rfl, h0⟩ | ⟨q, e2, h5, h6⟩
            · exact ⟨r, by simp [hr], h3, h4⟩
            · rw [e2] at hr
              rcases List.mem_append.1 hr with hr | hr
              · exact ⟨r, by simp [hr], h3, h4⟩
              · rw [List.mem_singleton.1 hr] at h3 h4
                exact ⟨_, List.mem_append.2 (.inr (List.mem_singleton.2 rfl)), by simp only; omega, by simp only; omega⟩
        · obtain rfl : k = i := by omega
          refine ⟨fun _ => ⟨h, hx, by omega⟩, fun _ => ⟨_, List.mem_append.2 (.inr (List.mem_singleton.2 rfl)), by simp only; omega, by simp only; omega⟩⟩
      · rw [er, e1]
        rcases e2 with ⟨rfl, _⟩ | ⟨q, e2, _, _⟩
        · simp; omega
        · have := congrArg List.length e2; simp at this ⊢; omega
/-- The first of the longest rows. -/
theorem rows_longest (l : List Int) (need : Int) : (rowsI l need = [] ∧ (burnI l need).row = 0) ∨ ∃ r, firstL (fun a b : Spn => decide (b.len < a.len)) (rowsI l need) = some r ∧ r.len = (burnI l need).row := by
  have h := row_inv l need l.length (Nat.le_refl _)
  have e : burnF need (l.take l.length) = burnF need l := by rw [List.take_length]
  unfold rowsI burnI
  rcases h.max_ with ⟨h1, h2⟩ | ⟨q, hq, h2⟩
  · exact .inl ⟨h1, by rw [← e]; exact h2⟩
  · right
    rcases first_spec Spn.len (rowsF l need l.length) with ⟨h3, _⟩ | ⟨b, l1, l2, h3, h4, h5, h6⟩
    · rw [h3] at hq; cases hq
    · refine ⟨b, h3, ?_⟩
      have hb := (h.rng b (by rw [h4]; simp)).2.2.2
      rw [h4] at hq
      rw [← e]
      rcases List.mem_append.1 hq with hq | hq
      · have := h5 q hq; omega
      · rcases List.mem_cons.1 hq with rfl | hq
        · exact h2
        · have := h6 q hq; omega
def spotE (p : Spt) : Int := if spotB p then 0 else 1
def spot2E (p q : Spt) : Int := if spotB p && spotB q then 0 else 1
def heatE (n : Int) : Int := if heatB n then 0 else 1
def spotsI (l : List Spt) : Int := if 24 < l.length then 2 else if l.all spotB then 0 else 1
def firstE : List Int → Int
  | [] => 0
  | e :: l => if e ≠ 0 then e else firstE l
/-- The first error of a fire, then further ones, then that looks do not agree. -/
def knownE (f : Fi) (l : List Int) : Int := if fireI f ≠ 0 then fireI f else if firstE l ≠ 0 then firstE l else if agreeB f f.ls then 0 else 9
theorem known_fire {f : Fi} {l : List Int} (h : fireI f ≠ 0) : knownE f l = fireI f := by unfold knownE; rw [if_pos h]
theorem known_further {f : Fi} {l : List Int} (h : fireI f = 0) (h2 : firstE l ≠ 0) : knownE f l = firstE l := by unfold knownE; rw [if_neg (by simp [h]), if_pos h2]
theorem known_clash {f : Fi} {l : List Int} (h : fireI f = 0) (h2 : firstE l = 0) (h3 : agreeB f f.ls = false) : knownE f l = 9 := by unfold knownE; rw [if_neg (by simp [h]), if_neg (by simp [h2]), h3]; rfl
theorem known_ok {f : Fi} {l : List Int} (h : fireI f = 0) (h2 : firstE l = 0) (h3 : agreeB f f.ls = true) : knownE f l = 0 := by unfold knownE; rw [if_neg (by simp [h]), if_neg (by simp [h2]), h3]; rfl
theorem known_zero {f : Fi} {l : List Int} (h : knownE f l = 0) : fireI f = 0 ∧ firstE l = 0 ∧ agreeB f f.ls = true := by
  unfold knownE at h
  by_cases h1 : fireI f ≠ 0
  · rw [if_pos h1] at h; exact absurd h h1
  · rw [if_neg h1] at h
    by_cases h2 : firstE l ≠ 0
    · rw [if_pos h2] at h; exact absurd h h2
    · rw [if_neg h2] at h
      cases h3 : agreeB f f.ls with
      | true => exact ⟨by simpa using h1, by simpa using h2, rfl⟩
      | false => rw [h3] at h; cases h
theorem known_nine {f : Fi} {l : List Int} (h : agreeB f f.ls = false) : knownE f l ≠ 0 := fun e => by have := (known_zero e).2.2; rw [h] at this; cases this
theorem first1 (a : Int) : firstE [a] = a := by
  by_cases h : a = 0
  · subst h; rfl
  · simp [firstE, h]
theorem first2 {a b : Int} : firstE [a, b] = 0 ↔ a = 0 ∧ b = 0 := by
  by_cases h : a = 0
  · subst h; simp [firstE]; omega
  · simp [firstE, h]
theorem first3 {a b c : Int} : firstE [a, b, c] = 0 ↔ a = 0 ∧ b = 0 ∧ c = 0 := by
  by_cases h : a = 0
  · subst h
    by_cases h2 : b = 0
    · subst h2; simp [firstE]; omega
    · simp [firstE, h2]
  · simp [firstE, h]
theorem spotE_iff {p : Spt} : spotE p = 0 ↔ spotB p = true := by unfold spotE; cases spotB p <;> simp
theorem spot2E_iff {p q : Spt} : spot2E p q = 0 ↔ spotB p = true ∧ spotB q = true := by unfold spot2E; cases spotB p <;> cases spotB q <;> simp
theorem heatE_iff {n : Int} : heatE n = 0 ↔ heatB n = true := by unfold heatE; cases heatB n <;> simp
theorem spotsI_iff {l : List Spt} : spotsI l = 0 ↔ l.length ≤ 24 ∧ ∀ p ∈ l, spotB p = true := by
  unfold spotsI
  by_cases h : 24 < l.length
  · rw [if_pos h]; exact ⟨fun h => absurd h (by decide), fun h2 => by omega⟩
  · rw [if_neg h]
    by_cases h2 : l.all spotB = true
    · rw [if_pos h2]; exact ⟨fun _ => ⟨by omega, List.all_eq_true.1 h2⟩, fun _ => rfl⟩
    · rw [if_neg h2]; exact ⟨fun h => absurd h (by decide), fun h3 => absurd (List.all_eq_true.2 h3.2) h2⟩
def farE (f : Fi) (p q : Spt) : Int := if fireI f ≠ 0 then fireI f else spot2E p q
def farR (f : Fi) (p q : Spt) : Int := if farE f p q = 0 then farI f p q else 0
def clashR (f : Fi) : Cl := if fireI f = 0 then clashI f f.ls else ⟨0, 0, false⟩
def chkClashI (f : Fi) (a b : Int) : Int := if fireI f ≠ 0 then fireI f else match f.ls.find? (fun x => x.id == a), f.ls.find? (fun x => x.id == b) with
  | some x, some y => if againstB f x y then 0 else 8
  | _, _ => 5
def suspR (f : Fi) : List Int := if fireI f = 0 then suspL f f.ls else []
def withF (f : Fi) (l : List Lk) : Fi := ⟨f.rise, f.fall, f.up, f.down, l⟩
def nilF : Fi := ⟨0, 0, 0, 0, []⟩
def withoutR (f : Fi) (ids : List Int) : Fi := if fireI f = 0 then withF f (butL f.ls ids) else nilF
def endsE (f : Fi) (p : Spt) : Int := knownE f [spotE p]
def endsR (f : Fi) (p : Spt) : Bnd := if endsE f p = 0 then bndI f f.ls p else ⟨0, 0, 0, 0⟩
def showsB (f : Fi) (ls : List Lk) (p : Spt) (id e : Int) (high : Bool) : Bool := match ls.find? (fun x => x.id == id) with
  | none => false
  | some x => if high then highV f p x == e else lowV f p x == e
def proofB (f : Fi) (ls : List Lk) (p : Spt) (b : Bnd) : Bool :=
  (decide (b.lo = endLo f ls p) && decide (b.hi = endHi f ls p)) && (showsB f ls p b.low (endLo f ls p) false || (b.low == 0 && endLo f ls p == 0)) && (showsB f ls p b.high (endHi f ls p) true || (b.high == 0 && endHi f ls p == 1500))
def chkEndsI (f : Fi) (p : Spt) (b : Bnd) : Int := if endsE f p ≠ 0 then endsE f p else if proofB f f.ls p b then 0 else 8
def listE (f : Fi) (l : List Spt) : Int := knownE f [spotsI l]
def coolR (f : Fi) (l : List Spt) : List Int := if listE f l = 0 then l.map (endLo f f.ls) else []
def hotR (f : Fi) (l : List Spt) : List Int := if listE f l = 0 then l.map (endHi f f.ls) else []
def toldE (l : List Spt) (hs : List Int) : Int := if l.length ≠ hs.length then 1 else if hs.all heatB then 0 else 1
def fitsE (f : Fi) (l : List Spt) (hs : List Int) : Int := knownE f [spotsI l, toldE l hs]
def fitsB (f : Fi) (ls : List Lk) (z : List (Spt × Int)) : Bool := z.all fun a => (decide (endLo f ls a.1 ≤ a.2) && decide (a.2 ≤ endHi f ls a.1)) && z.all fun b => decide (b.2 ≤ a.2 + farI f a.1 b.1)
def fitsR (f : Fi) (l : List Spt) (hs : List Int) : Bool := if fitsE f l hs = 0 then fitsB f f.ls (l.zip hs) else false
/-- Each spot but the first comes an hour behind the one before. -/
def chainB : List Spt → Bool
  | [] => true
  | [_] => true
  | p :: q :: l => decide (q.hour = p.hour + 1) && chainB (q :: l)
def pathI (l : List Spt) : Int := if 200 < l.length then 2 else if l = [] then 1 else if l.all spotB && chainB l then 0 else 1
def sunkE (f : Fi) (l : List Spt) (need : Int) : Int := knownE f [pathI l, heatE need]
def lowsI (f : Fi) (l : List Spt) : List Int := l.map (endLo f f.ls)
def highsI (f : Fi) (l : List Spt) : List Int := l.map (endHi f f.ls)
def leastR (f : Fi) (l : List Spt) (need : Int) : Brn := if sunkE f l need = 0 then burnI (lowsI f l) need else ⟨0, 0, 0⟩
def mostR (f : Fi) (l : List Spt) (need : Int) : Brn := if sunkE f l need = 0 then burnI (highsI f l) need else ⟨0, 0, 0⟩
def surelyR (f : Fi) (l : List Spt) (need : Int) : List Spn := if sunkE f l need = 0 then rowsI (lowsI f l) need else []
def possiblyR (f : Fi) (l : List Spt) (need : Int) : List Spn := if sunkE f l need = 0 then rowsI (highsI f l) need else []
def restsR (f : Fi) (p : Spt) : List Int := if endsE f p = 0 then restL f f.ls p else []
def moreF (f : Fi) (x : Lk) : Fi := withF f (f.ls ++ [x])
def wouldE (f : Fi) (x : Lk) (p : Spt) : Int := if fireI f ≠ 0 then fireI f else if spotB p = false then 1 else endsE (moreF f x) p
def wouldR (f : Fi) (x : Lk) (p : Spt) : Bnd := if wouldE f x p = 0 then bndI (moreF f x) (f.ls ++ [x]) p else ⟨0, 0, 0, 0⟩
def needE (f : Fi) (look at_ : Spt) (need : Int) : Int := knownE f [spot2E look at_, heatE need]
/-- The least heat of a spot by which another one is surely hot enough; -1 if there is none. -/
def needI (f : Fi) (ls : List Lk) (look at_ : Spt) (need : Int) : Int :=
  if need ≤ endLo f ls at_ then endLo f ls look else if endHi f ls look < max (endLo f ls look) (need + farI f at_ look) then -1 else max (endLo f ls look) (need + farI f at_ look)
def neededR (f : Fi) (look at_ : Spt) (need : Int) : Int × Bool := if needE f look at_ need = 0 then (if needI f f.ls look at_ need < 0 then (0, false) else (needI f f.ls look at_ need, true)) else (0, false)
def decideE (f : Fi) (l : List Spt) (at_ : Spt) (need : Int) : Int := knownE f [spotsI l, spotE at_, heatE need]
def decideB (f : Fi) (ls : List Lk) (look at_ : Spt) (need : Int) : Bool := decide (endLo f ls look < needI f ls look at_ need) && decide (min (endHi f ls at_) (endLo f ls look + farI f look at_) < need)
/-- The indices of what something holds of. -/
def indsF {α : Type} (P : α → Bool) (l : List α) : Nat → List Int
  | 0 => []
  | i + 1 => match l[i]? with
    | some x => if P x then indsF P l i ++ [(i : Int)] else indsF P l i
    | none => indsF P l i
def decideR (f : Fi) (l : List Spt) (at_ : Spt) (need : Int) : List Int := if decideE f l at_ need = 0 then indsF (fun p => decideB f f.ls p at_ need) l l.length else []

-- consequences
theorem lo_tri {f : Fi} (hf : slopeB f = true) (ls : List Lk) (p q : Spt) : endLo f ls q ≤ endLo f ls p + farI f p q := by
  have h0 := far_nonneg p q hf
  refine lo_le (by have := (lo_ge f ls p).1; omega) fun x hx => ?_
  have h1 := (lo_ge f ls p).2 x hx
  have h2 := far_tri p q x.at_ hf
  unfold lowV at *; omega
theorem hi_tri {f : Fi} (hf : slopeB f = true) (ls : List Lk) (p q : Spt) : endHi f ls q ≤ endHi f ls p + farI f p q := by
  have h0 := far_nonneg p q hf
  have key : endHi f ls q - farI f p q ≤ endHi f ls p := by
    refine le_hi (by have := (hi_le f ls q).1; omega) fun x hx => ?_
    have h1 := (hi_le f ls q).2 x hx
    have h2 := far_tri x.at_ p q hf
    unfold highV at *; omega
  omega
theorem lo_hi {f : Fi} (hf : slopeB f = true) {ls : List Lk} (hl : ∀ x ∈ ls, lookB x = true) (ha : agreeB f ls = true) (p : Spt) : endLo f ls p ≤ endHi f ls p := by
  refine le_hi (lo_le (by omega) fun x hx => ?_) fun x hx => lo_le ?_ fun y hy => ?_
  · have h0 := far_nonneg p x.at_ hf
    have := look_iff.1 (hl x hx)
    unfold lowV; omega
  · have h0 := far_nonneg x.at_ p hf
    have := look_iff.1 (hl x hx)
    unfold highV; omega
  · have h1 := agree_iff.1 ha x hx y hy
    have h2 := far_tri x.at_ p y.at_ hf
    unfold lowV highV; omega
theorem lo_range {f : Fi} (hf : slopeB f = true) {ls : List Lk} (hl : ∀ x ∈ ls, lookB x = true) (p : Spt) : 0 ≤ endLo f ls p ∧ endLo f ls p ≤ 1500 := by
  refine ⟨(lo_ge f ls p).1, lo_le (by omega) fun x hx => ?_⟩
  have h0 := far_nonneg p x.at_ hf
  have := look_iff.1 (hl x hx)
  unfold lowV; omega
theorem hi_range {f : Fi} (hf : slopeB f = true) {ls : List Lk} (hl : ∀ x ∈ ls, lookB x = true) (p : Spt) : 0 ≤ endHi f ls p ∧ endHi f ls p ≤ 1500 := by
  refine ⟨le_hi (by omega) fun x hx => ?_, (hi_le f ls p).1⟩
  have h0 := far_nonneg x.at_ p hf
  have := look_iff.1 (hl x hx)
  unfold highV; omega
theorem fits_iff {f : Fi} {ls : List Lk} {z : List (Spt × Int)} : fitsB f ls z = true ↔ ∀ a ∈ z, (endLo f ls a.1 ≤ a.2 ∧ a.2 ≤ endHi f ls a.1) ∧ ∀ b ∈ z, b.2 ≤ a.2 + farI f a.1 b.1 := by
  simp only [fitsB, List.all_eq_true, Bool.and_eq_true, decide_eq_true_eq]
theorem zip_map_mem {l : List Spt} {g : Spt → Int} {a : Spt × Int} (h : a ∈ l.zip (l.map g)) : a.2 = g a.1 := by
  rw [List.zip_map_right, List.mem_map] at h
  obtain ⟨⟨x, y⟩, hz, e⟩ := h
  have : x = y := by
    obtain ⟨i, hi⟩ := List.getElem?_of_mem hz
    rw [List.getElem?_zip_eq_some] at hi
    have := hi.1.symm.trans hi.2
    simpa using this
  rw [← e, this]; rfl
theorem fits_low {f : Fi} (hf : slopeB f = true) {ls : List Lk} (hl : ∀ x ∈ ls, lookB x = true) (ha : agreeB f ls = true) (l : List Spt) : fitsB f ls (l.zip (l.map (endLo f ls))) = true :=
  fits_iff.2 fun a h1 => ⟨by rw [zip_map_mem h1]; exact ⟨Int.le_refl _, lo_hi hf hl ha _⟩, fun b h2 => by rw [zip_map_mem h1, zip_map_mem h2]; exact lo_tri hf ls _ _⟩
theorem fits_high {f : Fi} (hf : slopeB f = true) {ls : List Lk} (hl : ∀ x ∈ ls, lookB x = true) (ha : agreeB f ls = true) (l : List Spt) : fitsB f ls (l.zip (l.map (endHi f ls))) = true :=
  fits_iff.2 fun a h1 => ⟨by rw [zip_map_mem h1]; exact ⟨lo_hi hf hl ha _, Int.le_refl _⟩, fun b h2 => by rw [zip_map_mem h1, zip_map_mem h2]; exact hi_tri hf ls _ _⟩
theorem need_max {f : Fi} (hf : slopeB f = true) {ls : List Lk} {look at_ : Spt} {need : Int} (h : endLo f ls at_ < need) : max (endLo f ls look) (need + farI f at_ look) = need + farI f at_ look := by
  have := lo_tri hf ls at_ look
  omega
theorem find_id {ls : List Lk} (hd : ls.Pairwise (fun a b => a.id ≠ b.id)) {x : Lk} (hx : x ∈ ls) : ls.find? (fun y => y.id == x.id) = some x := by
  induction ls with
  | nil => cases hx
  | cons y l ih =>
    obtain ⟨h1, h2⟩ := List.pairwise_cons.1 hd
    rcases List.mem_cons.1 hx with rfl | hx
    · simp
    · have : (y.id == x.id) = false := by simpa using h1 x hx
      simp only [List.find?_cons, this]
      exact ih h2 hx
theorem id_inj {ls : List Lk} (hd : ls.Pairwise (fun a b => a.id ≠ b.id)) {x y : Lk} (hx : x ∈ ls) (hy : y ∈ ls) (h : x.id = y.id) : x = y := by
  have a := find_id hd hx
  have b := find_id hd hy
  rw [h] at a
  rw [a] at b
  exact Option.some.inj b
/-- What the program asks of bounds: that it yields just them. -/
theorem holds_low {f : Fi} {S ls : List Lk} (hS : Srt S ls) (hd : ls.Pairwise (fun a b => a.id ≠ b.id)) {p : Spt} {e i : Int} : (lowsL f S p).any (fun a => decide (a = (e, i))) = (showsB f ls p i e false || (i == 0 && e == 0)) := by
  rw [Bool.eq_iff_iff]
  unfold lowsL showsB
  simp only [List.any_append, List.any_map, List.any_cons, List.any_nil, Bool.or_false, Bool.or_eq_true, List.any_eq_true, Function.comp, decide_eq_true_eq, Prod.mk.injEq, Bool.and_eq_true, beq_iff_eq]
  constructor
  · rintro (⟨x, hx, rfl, rfl⟩ | ⟨h1, h2⟩)
    · left; rw [find_id hd (hS.perm.mem_iff.1 hx)]; simp
    · right; omega
  · rintro (h | ⟨h1, h2⟩)
    · left
      cases hq : ls.find? (fun x => x.id == i) with
      | none => rw [hq] at h; cases h
      | some x => rw [hq] at h; have := List.find?_some hq; exact ⟨x, hS.perm.mem_iff.2 (List.mem_of_find?_eq_some hq), by simpa using h, by simpa using this⟩
    · right; omega
theorem holds_high {f : Fi} {S ls : List Lk} (hS : Srt S ls) (hd : ls.Pairwise (fun a b => a.id ≠ b.id)) {p : Spt} {e i : Int} : (highsL f S p).any (fun a => decide (a = (e, i))) = (showsB f ls p i e true || (i == 0 && e == 1500)) := by
  rw [Bool.eq_iff_iff]
  unfold highsL showsB
  simp only [List.any_append, List.any_map, List.any_cons, List.any_nil, Bool.or_false, Bool.or_eq_true, List.any_eq_true, Function.comp, decide_eq_true_eq, Prod.mk.injEq, Bool.and_eq_true, beq_iff_eq]
  constructor
  · rintro (⟨x, hx, rfl, rfl⟩ | ⟨h1, h2⟩)
    · left; rw [find_id hd (hS.perm.mem_iff.1 hx)]; simp
    · right; omega
  · rintro (h | ⟨h1, h2⟩)
    · left
      cases hq : ls.find? (fun x => x.id == i) with
      | none => rw [hq] at h; cases h
      | some x => rw [hq] at h; have := List.find?_some hq; exact ⟨x, hS.perm.mem_iff.2 (List.mem_of_find?_eq_some hq), by simpa using h, by simpa using this⟩
    · right; omega
end Go.Proofs.YtjpoacffnpgjdaaGreat
/- Fires, looks and spots as values. No program is named here. -/
namespace Go.Proofs.YtjpoacffnpgjdaaGreat
open Go.RowKit

def sC (x : Spt) : List Value := [.int .i64 x.foot, .int .i64 x.hour]
def lkC (x : Lk) : List Value := [.int .i64 x.id, .int .i64 x.foot, .int .i64 x.hour, .int .i64 x.lo, .int .i64 x.hi]
def spnC (x : Spn) : List Value := [.int .i64 x.lo, .int .i64 x.hi]
theorem sC_len (x : Spt) : (sC x).length = 2 := rfl
theorem lkC_len (x : Lk) : (lkC x).length = 5 := rfl
theorem spnC_len (x : Spn) : (spnC x).length = 2 := rfl
@[reducible] def sV (x : Spt) : Value := .agg #[.int .i64 x.foot, .int .i64 x.hour]
@[reducible] def lkV (x : Lk) : Value := .agg #[.int .i64 x.id, .int .i64 x.foot, .int .i64 x.hour, .int .i64 x.lo, .int .i64 x.hi]
@[reducible] def spnV (x : Spn) : Value := .agg #[.int .i64 x.lo, .int .i64 x.hi]
@[reducible] def bndV (b : Bnd) : Value := .agg #[.int .i64 b.lo, .int .i64 b.hi, .int .i64 b.low, .int .i64 b.high]
@[reducible] def brnV (b : Brn) : Value := .agg #[.int .i64 b.hours, .int .i64 b.row, .int .i64 b.sum]
@[reducible] def slV (f : Fi) : Value := .agg #[.int .i64 f.rise, .int .i64 f.fall, .int .i64 f.up, .int .i64 f.down]
@[reducible] def fiV (f : Fi) (v : Value) : Value := .agg #[.int .i64 f.rise, .int .i64 f.fall, .int .i64 f.up, .int .i64 f.down, v]
@[reducible] def Spts (w : World) (B : Nat) (v : Value) (l : List Spt) : Prop := Sl sC 2 w B v l
@[reducible] def Lks (w : World) (B : Nat) (v : Value) (l : List Lk) : Prop := Sl lkC 5 w B v l
@[reducible] def Spns (w : World) (B : Nat) (v : Value) (l : List Spn) : Prop := Sl spnC 2 w B v l
instance : Inhabited Spt := ⟨⟨0, 0⟩⟩
instance : Inhabited Lk := ⟨⟨0, 0, 0, 0, 0⟩⟩
instance : Inhabited Spn := ⟨⟨0, 0⟩⟩

theorem Spts.open_ {w : World} {B : Nat} {v : Value} {l : List Spt} (h : Spts w B v l) :
    ∃ (A : Option Addr) (cap : Nat), v = .slice A l.length cap ∧ l.length ≤ cap ∧ l.length ≤ 140737488355328 ∧
      ∀ k, k < l.length → ∃ b off x, A = some ⟨b, off, none⟩ ∧ b < B ∧ l[k]? = some x ∧ w.cell? ⟨b, off + k * 2, none⟩ = some (.int .i64 x.foot) ∧ w.cell? ⟨b, off + k * 2 + 1, none⟩ = some (.int .i64 x.hour) := by
  obtain ⟨A, cap, e, h1, h2, h3⟩ := h
  refine ⟨A, cap, e, h1, h2, fun k hk => ?_⟩
  obtain ⟨b, off, e2, hb, hc⟩ := h3 (by omega)
  have hx := List.getElem?_eq_getElem hk
  exact ⟨b, off, l[k], e2, hb, hx, hc k _ hx 0 _ rfl, hc k _ hx 1 _ rfl⟩
theorem Spns.open_ {w : World} {B : Nat} {v : Value} {l : List Spn} (h : Spns w B v l) :
    ∃ (A : Option Addr) (cap : Nat), v = .slice A l.length cap ∧ l.length ≤ cap ∧ l.length ≤ 140737488355328 ∧
      ∀ k, k < l.length → ∃ b off x, A = some ⟨b, off, none⟩ ∧ b < B ∧ l[k]? = some x ∧ w.cell? ⟨b, off + k * 2, none⟩ = some (.int .i64 x.lo) ∧ w.cell? ⟨b, off + k * 2 + 1, none⟩ = some (.int .i64 x.hi) := by
  obtain ⟨A, cap, e, h1, h2, h3⟩ := h
  refine ⟨A, cap, e, h1, h2, fun k hk => ?_⟩
  obtain ⟨b, off, e2, hb, hc⟩ := h3 (by omega)
  have hx := List.getElem?_eq_getElem hk
  exact ⟨b, off, l[k], e2, hb, hx, hc k _ hx 0 _ rfl, hc k _ hx 1 _ rfl⟩
theorem Lks.open_ {w : World} {B : Nat} {v : Value} {l : List Lk} (h : Lks w B v l) :
    ∃ (A : Option Addr) (cap : Nat), v = .slice A l.length cap ∧ l.length ≤ cap ∧ l.length ≤ 140737488355328 ∧
      ∀ k, k < l.length → ∃ b off x, A = some ⟨b, off, none⟩ ∧ b < B ∧ l[k]? = some x ∧ w.cell? ⟨b, off + k * 5, none⟩ = some (.int .i64 x.id) ∧
        w.cell? ⟨b, off + k * 5 + 1, none⟩ = some (.int .i64 x.foot) ∧ w.cell? ⟨b, off + k * 5 + 2, none⟩ = some (.int .i64 x.hour) ∧ w.cell? ⟨b, off + k * 5 + 3, none⟩ = some (.int .i64 x.lo) ∧ w.cell? ⟨b, off + k * 5 + 4, none⟩ = some (.int .i64 x.hi) := by
  obtain ⟨A, cap, e, h1, h2, h3⟩ := h
  refine ⟨A, cap, e, h1, h2, fun k hk => ?_⟩
  obtain ⟨b, off, e2, hb, hc⟩ := h3 (by omega)
  have hx := List.getElem?_eq_getElem hk
  exact ⟨b, off, l[k], e2, hb, hx, hc k _ hx 0 _ rfl, hc k _ hx 1 _ rfl, hc k _ hx 2 _ rfl, hc k _ hx 3 _ rfl, hc k _ hx 4 _ rfl⟩
/-- The value of a fire reads as f, in blocks below the world's end. -/
def Fire (w : World) (v : Value) (f : Fi) : Prop := ∃ vl, v = fiV f vl ∧ Lks w w.heap.size vl f.ls
theorem Fire.later {w w' : World} {v : Value} {f : Fi} (h : Fire w v f) (hb : Below w.heap.size w w') : Fire w' v f := by
  obtain ⟨a, e, h1⟩ := h
  exact ⟨a, e, h1.later hb⟩
theorem Sl.form {α : Type} {c : α → List Value} {s : Nat} {w : World} {B : Nat} {v : Value} {l : List α} (h : Sl c s w B v l) : ∃ A cap, v = .slice A l.length cap := by
  obtain ⟨A, cap, e, _⟩ := h
  exact ⟨A, cap, e⟩
end Go.Proofs.YtjpoacffnpgjdaaGreat
/- Fires as plain data: what follows for the laws: burning grows with heats, further looks, looks left out, looks turned. No program is named here. -/
namespace Go.Proofs.YtjpoacffnpgjdaaGreat
/-- One burnt no more than another. -/
def underP (a b : Brn) : Prop := (a.hours ≤ b.hours ∧ a.row ≤ b.row) ∧ a.sum ≤ b.sum ∧ a.row ≤ a.hours
theorem burn_state (n m : Int) (hnm : m ≤ n) : ∀ (a b : List Int) (s t : Bs), a.length = b.length → (∀ (i : Nat) x y, a[i]? = some x → b[i]? = some y → x ≤ y) →
    (s.row ≤ t.row ∧ s.b.hours ≤ t.b.hours ∧ s.b.row ≤ t.b.row ∧ s.b.sum ≤ t.b.sum ∧ 0 ≤ s.row ∧ s.row ≤ s.b.hours ∧ s.b.row ≤ s.b.hours) →
    ((a.foldl (burnStep n) s).row ≤ (b.foldl (burnStep m) t).row ∧ (a.foldl (burnStep n) s).b.hours ≤ (b.foldl (burnStep m) t).b.hours ∧ (a.foldl (burnStep n) s).b.row ≤ (b.foldl (burnStep m) t).b.row ∧ (a.foldl (burnStep n) s).b.sum ≤ (b.foldl (burnStep m) t).b.sum ∧ 0 ≤ (a.foldl (burnStep n) s).row ∧ (a.foldl (burnStep n) s).row ≤ (a.foldl (burnStep n) s).b.hours ∧ (a.foldl (burnStep n) s).b.row ≤ (a.foldl (burnStep n) s).b.hours)
  | [], [], s, t, _, _, h => h
  | x :: a, y :: b, s, t, hl, hp, h => by
    simp only [List.foldl_cons]
    refine burn_state n m hnm a b _ _ (by simpa using hl) (fun i u v hu hv => hp (i + 1) u v (by simpa using hu) (by simpa using hv)) ?_
    have hxy := hp 0 x y rfl rfl
    obtain ⟨h1, h2, h3, h4, h5, h6, h7⟩ := h
    unfold burnStep
    by_cases c1 : x < n
    · by_cases c2 : y < m
      · rw [if_pos c1, if_pos c2]; dsimp only; omega
      · rw [if_pos c1, if_neg c2]; dsimp only; omega
    · rw [if_neg c1, if_neg (show ¬ y < m by omega)]; dsimp only; omega
  | [], _ :: _, _, _, hl, _, _ => by simp at hl
  | _ :: _, [], _, _, hl, _, _ => by simp at hl
theorem burn_mono {n m : Int} (hnm : m ≤ n) {a b : List Int} (hl : a.length = b.length) (hp : ∀ (i : Nat) x y, a[i]? = some x → b[i]? = some y → x ≤ y) : underP (burnI a n) (burnI b m) := by
  have h := burn_state n m hnm a b ⟨0, ⟨0, 0, 0⟩⟩ ⟨0, ⟨0, 0, 0⟩⟩ hl hp ⟨by simp, by simp, by simp, by simp, by simp, by simp, by simp⟩
  exact ⟨⟨h.2.1, h.2.2.1⟩, h.2.2.2.1, h.2.2.2.2.2.2⟩
/-- A number lies in one of some spans. -/
def withinB (l : List Spn) (n : Int) : Bool := l.any fun r => decide (r.lo ≤ n) && decide (n ≤ r.hi)
theorem within_rows {l : List Int} {need : Int} {k : Nat} {h : Int} (hk : l[k]? = some h) : withinB (rowsI l need) k = decide (need ≤ h) := by
  have hl := (List.getElem?_eq_some_iff.1 hk).1
  have := (row_inv l need l.length (Nat.le_refl _)).mem k hl
  rw [Bool.eq_iff_iff]
  unfold withinB
  simp only [List.any_eq_true, Bool.and_eq_true, decide_eq_true_eq]
  constructor
  · rintro ⟨r, hr, h1⟩
    obtain ⟨g, hg, hg2⟩ := this.1 ⟨r, hr, h1⟩
    rw [hk] at hg; cases hg; exact hg2
  · intro h1
    obtain ⟨r, hr, h2⟩ := this.2 ⟨h, hk, h1⟩
    exact ⟨r, hr, h2⟩
theorem rows_rng {l : List Int} {need : Int} : ∀ r ∈ rowsI l need, 0 ≤ r.lo ∧ r.lo ≤ r.hi ∧ r.hi < l.length := fun r hr => by
  have := (row_inv l need l.length (Nat.le_refl _)).rng r hr
  exact ⟨this.1, this.2.1, this.2.2.1⟩
theorem fits_at {f : Fi} {ls : List Lk} {l : List Spt} {hs : List Int} (h : fitsB f ls (l.zip hs) = true) {k : Nat} {p : Spt} {x : Int} (hp : l[k]? = some p) (hx : hs[k]? = some x) : endLo f ls p ≤ x ∧ x ≤ endHi f ls p := by
  have hm : (p, x) ∈ l.zip hs := List.mem_of_getElem? (i := k) (by rw [List.getElem?_zip_eq_some]; exact ⟨hp, hx⟩)
  exact (fits_iff.1 h _ hm).1
/-- What the ends are with a further look. -/
theorem lo_more (f : Fi) (ls : List Lk) (x : Lk) (p : Spt) : endLo f (ls ++ [x]) p = max (endLo f ls p) (lowV f p x) := by
  unfold endLo; rw [List.foldl_append]; rfl
theorem hi_more (f : Fi) (ls : List Lk) (x : Lk) (p : Spt) : endHi f (ls ++ [x]) p = min (endHi f ls p) (highV f p x) := by
  unfold endHi; rw [List.foldl_append]; rfl
theorem lookB_of {x : Lk} (h1 : 1 ≤ x.id ∧ x.id ≤ 1099511627776) (h2 : spotB x.at_ = true) (h3 : 0 ≤ x.lo) (h4 : x.hi ≤ 1500) (h5 : x.lo ≤ x.hi) : lookB x = true :=
  look_iff.2 ⟨h1, h2, ⟨h3, by omega⟩, ⟨by omega, h4⟩, h5⟩
/-- A further look that lies between the ends of its spot agrees with all. -/
theorem agree_more {f : Fi} {ls : List Lk} (ha : agreeB f ls = true) {y : Lk} (h1 : y.lo ≤ endHi f ls y.at_) (h2 : endLo f ls y.at_ ≤ y.hi) (h3 : y.lo ≤ y.hi) : agreeB f (ls ++ [y]) = true := by
  refine agree_iff.2 fun a hA b hB => ?_
  rcases List.mem_append.1 hA with hA | hA
  · rcases List.mem_append.1 hB with hB | hB
    · exact agree_iff.1 ha a hA b hB
    · rw [List.mem_singleton.1 hB]
      have := (hi_le f ls y.at_).2 a hA
      unfold highV at this; omega
  · rw [List.mem_singleton.1 hA]
    rcases List.mem_append.1 hB with hB | hB
    · have := (lo_ge f ls y.at_).2 b hB
      unfold lowV at this; omega
    · rw [List.mem_singleton.1 hB, far_self]; omega
/-- The first error of a fire with a further look. -/
theorem looks_snoc : ∀ (l : List Lk) (y : Lk) (S : List Int), looksI l S = 0 → looksI (l ++ [y]) S = if lookB y = false then 1 else if y.id ∈ S ++ l.map Lk.id then 6 else 0
  | [], y, S, _ => by simp [looksI]
  | x :: l, y, S, h => by
    unfold looksI at h
    by_cases h1 : lookB x = false
    · rw [if_pos h1] at h; cases h
    · rw [if_neg h1] at h
      by_cases h2 : x.id ∈ S
      · rw [if_pos h2] at h; cases h
      · rw [if_neg h2] at h
        rw [List.cons_append, looksI, if_neg h1, if_neg h2, looks_snoc l y _ h]
        simp
theorem fire_more {f : Fi} (h : fireI f = 0) (y : Lk) : fireI (moreF f y) = if 24 < f.ls.length + 1 then 2 else if lookB y = false then 1 else if y.id ∈ f.ls.map Lk.id then 6 else 0 := by
  have hok := fire_ok h
  have hl : looksI f.ls [] = 0 := looks_of hok.look hok.ids (by simp)
  have hs : slopeB (moreF f y) = true := hok.slope
  unfold fireI
  rw [if_neg (by rw [hs]; simp)]
  show (if 24 < (f.ls ++ [y]).length then 2 else looksI (f.ls ++ [y]) []) = _
  rw [looks_snoc _ _ _ hl]
  simp
theorem agree_moreF (f : Fi) (y : Lk) (ls : List Lk) : agreeB (moreF f y) ls = agreeB f ls := rfl
theorem bnd_moreF (f : Fi) (y : Lk) (ls : List Lk) (p : Spt) : bndI (moreF f y) ls p = bndI f ls p := rfl
theorem lo_moreF (f : Fi) (y : Lk) (ls : List Lk) (p : Spt) : endLo (moreF f y) ls p = endLo f ls p := rfl
theorem hi_moreF (f : Fi) (y : Lk) (ls : List Lk) (p : Spt) : endHi (moreF f y) ls p = endHi f ls p := rfl
theorem ends_zero {f : Fi} {p : Spt} (h : endsE f p = 0) : FireOk f ∧ spotB p = true ∧ agreeB f f.ls = true := by
  obtain ⟨a, b, c⟩ := known_zero h
  rw [first1] at b
  exact ⟨fire_ok a, spotE_iff.1 b, c⟩
theorem zero_ends {f : Fi} {p : Spt} (h1 : FireOk f) (h2 : spotB p = true) (h3 : agreeB f f.ls = true) : endsE f p = 0 := known_ok (ok_fire h1) (by rw [first1]; exact spotE_iff.2 h2) h3
/-- What is told with a further look that agrees. -/
theorem would_agree {f : Fi} (h : FireOk f) {y : Lk} {p : Spt} (hp : spotB p = true) (ha : agreeB f (f.ls ++ [y]) = true) : wouldE f y p = fireI (moreF f y) := by
  unfold wouldE
  rw [if_neg (by rw [ok_fire h]; simp), if_neg (by rw [hp]; simp)]
  by_cases hz : fireI (moreF f y) = 0
  · rw [hz]; exact known_ok hz (by rw [first1]; exact spotE_iff.2 hp) ha
  · exact known_fire hz
theorem would_zero {f : Fi} {y : Lk} {p : Spt} (h : wouldE f y p = 0) : wouldR f y p = ⟨max (endLo f f.ls p) (lowV f p y), min (endHi f f.ls p) (highV f p y), lowId f (f.ls ++ [y]) p, highId f (f.ls ++ [y]) p⟩ := by
  unfold wouldR
  rw [if_pos h]
  show (⟨endLo f (f.ls ++ [y]) p, endHi f (f.ls ++ [y]) p, _, _⟩ : Bnd) = _
  rw [lo_more, hi_more]; rfl
/-- A look that tells just the ends of its spot changes no end. -/
theorem own_lo {f : Fi} (hf : slopeB f = true) (ls : List Lk) (y : Lk) (p : Spt) (h : y.lo = endLo f ls y.at_) : max (endLo f ls p) (lowV f p y) = endLo f ls p := by
  have := lo_tri hf ls p y.at_
  unfold lowV; omega
theorem own_hi {f : Fi} (hf : slopeB f = true) (ls : List Lk) (y : Lk) (p : Spt) (h : y.hi = endHi f ls y.at_) : min (endHi f ls p) (highV f p y) = endHi f ls p := by
  have := hi_tri hf ls y.at_ p
  unfold highV; omega
theorem but_ok {f : Fi} (h : FireOk f) (ids : List Int) : FireOk (withF f (butL f.ls ids)) :=
  ⟨h.slope, Nat.le_trans (List.length_filter_le _ _) h.len, fun x hx => h.look x (List.mem_filter.1 hx).1, h.ids.filter _⟩
theorem but_agree {f : Fi} (h : agreeB f f.ls = true) (ids : List Int) : agreeB f (butL f.ls ids) = true := agree_sub h fun _ hx => (List.mem_filter.1 hx).1
/-- One is among the rests exactly if the ends are others without it. -/
theorem rests_mem {f : Fi} {ls : List Lk} {p : Spt} {id : Int} : (restL f ls p).contains id = !(decide (endLo f (but1 ls id) p = endLo f ls p) && decide (endHi f (but1 ls id) p = endHi f ls p)) := by
  show _ = restB f ls p id
  rw [Bool.eq_iff_iff, List.contains_iff_mem]
  unfold restL
  rw [mem_ids]
  constructor
  · rintro ⟨x, _, h, rfl⟩; exact h
  · intro h
    by_cases hx : ∃ x ∈ ls, x.id = id
    · obtain ⟨x, hx, rfl⟩ := hx; exact ⟨x, hx, h, rfl⟩
    · have e : but1 ls id = ls := by
        unfold but1
        refine List.filter_eq_self.2 fun x hx2 => ?_
        simp only [bne_iff_ne, ne_eq]
        exact fun e => hx ⟨x, hx2, e⟩
      unfold restB at h
      rw [e] at h
      simp at h
theorem susp_pair {f : Fi} {ls : List Lk} {x y : Lk} (hx : x ∈ ls) (hy : y ∈ ls) (hag : againstB f x y = true) {n : Int} (h : agreeB f (but1 ls n) = true) : n = x.id ∨ n = y.id := by
  by_cases h1 : x.id = n
  · exact .inl h1.symm
  · by_cases h2 : y.id = n
    · exact .inr h2.symm
    · have := agree_iff.1 h x (List.mem_filter.2 ⟨hx, by simpa using h1⟩) y (List.mem_filter.2 ⟨hy, by simpa using h2⟩)
      simp only [againstB, decide_eq_true_eq] at hag
      omega
theorem chk_ok {f : Fi} {a b : Int} (h : chkClashI f a b = 0) : agreeB f f.ls = false := by
  unfold chkClashI at h
  by_cases h0 : fireI f ≠ 0
  · rw [if_pos h0] at h; exact absurd h h0
  · rw [if_neg h0] at h
    cases hx : f.ls.find? (fun x => x.id == a) with
    | none => rw [hx] at h; cases h
    | some x =>
      cases hy : f.ls.find? (fun x => x.id == b) with
      | none => rw [hx, hy] at h; cases h
      | some y =>
        rw [hx, hy] at h
        dsimp only at h
        cases hag : againstB f x y with
        | false => rw [hag] at h; cases h
        | true =>
          rw [Bool.eq_false_iff]; intro hh
          have := agree_iff.1 hh x (List.mem_of_find?_eq_some hx) y (List.mem_of_find?_eq_some hy)
          simp only [againstB, decide_eq_true_eq] at hag; omega
theorem chk_of {f : Fi} (hf : FireOk f) {x y : Lk} (hx : x ∈ f.ls) (hy : y ∈ f.ls) (hag : againstB f x y = true) : chkClashI f x.id y.id = 0 := by
  unfold chkClashI
  rw [if_neg (by rw [ok_fire hf]; simp), find_id hf.ids hx, find_id hf.ids hy]
  dsimp only
  rw [hag]; rfl
/-- The looks turned. -/
def rotF (l : List Lk) (t i : Nat) : List Lk := (List.range i).map fun k => l[(k + t) % l.length]?.getD ⟨0, 0, 0, 0, 0⟩
theorem rot_snoc (l : List Lk) (t i : Nat) {x : Lk} (hx : l[(i + t) % l.length]? = some x) : rotF l t (i + 1) = rotF l t i ++ [x] := by
  unfold rotF; rw [List.range_succ, List.map_append]; simp [hx]
theorem rot_len (l : List Lk) (t i : Nat) : (rotF l t i).length = i := by unfold rotF; simp
theorem rot_perm (l : List Lk) (t : Nat) : (rotF l t l.length).Perm l := by
  rcases l with _ | ⟨x, l⟩
  · exact .nil
  generalize hL : x :: l = L
  have hn : 0 < L.length := by rw [← hL]; simp
  have hm := Nat.mod_lt t hn
  have e : rotF L t L.length = L.drop (t % L.length) ++ L.take (t % L.length) := by
    refine List.ext_getElem? fun i => ?_
    by_cases hi : i < L.length
    · have hj : (i + t) % L.length < L.length := Nat.mod_lt _ hn
      have e1 : (rotF L t L.length)[i]? = L[(i + t) % L.length]? := by
        unfold rotF
        rw [List.getElem?_map, List.getElem?_range hi, List.getElem?_eq_getElem hj]; simp [List.getElem?_eq_getElem hj]
      rw [e1]
      by_cases h1 : i < L.length - t % L.length
      · rw [List.getElem?_append_left (by simp; omega), List.getElem?_drop]
        congr 1
        rw [Nat.add_mod, Nat.mod_eq_of_lt hi, Nat.mod_eq_of_lt (by omega)]; omega
      · rw [List.getElem?_append_right (by simp; omega), List.getElem?_take]
        rw [List.length_drop, if_pos (by omega)]
        congr 1
        rw [Nat.add_mod, Nat.mod_eq_of_lt hi, Nat.mod_eq_sub_mod (by omega), Nat.mod_eq_of_lt (by omega)]; omega
    · rw [List.getElem?_eq_none (by rw [rot_len]; omega), List.getElem?_eq_none (by simp; omega)]
  rw [e]
  exact List.perm_append_comm.trans (by rw [List.take_append_drop])
theorem fire_perm {f : Fi} {l : List Lk} (h : FireOk f) (hp : l.Perm f.ls) : FireOk (withF f l) :=
  ⟨h.slope, by show l.length ≤ 24; rw [hp.length_eq]; exact h.len, fun x hx => h.look x (hp.mem_iff.1 hx), hp.symm.pairwise h.ids (fun h => Ne.symm h)⟩
theorem leastId_perm {P : Lk → Bool} {l m : List Lk} (hp : l.Perm m) (hid : ∀ x ∈ m, 1 ≤ x.id) : leastId P l = leastId P m := by
  rcases least_spec P m hid with ⟨e, h⟩ | ⟨x, hx, hP, e, h⟩
  · rw [e]; exact least_none (fun x hx => hid x (hp.mem_iff.1 hx)) fun x hx => h x (hp.mem_iff.1 hx)
  · rw [e]; exact least_eq (fun x hx => hid x (hp.mem_iff.1 hx)) (hp.mem_iff.2 hx) hP fun y hy => h y (hp.mem_iff.1 hy)
theorem bnd_perm {f : Fi} {l m : List Lk} (hp : l.Perm m) (hid : ∀ x ∈ m, 1 ≤ x.id) (p : Spt) : bndI f l p = bndI f m p := by
  unfold bndI lowId highId
  rw [lo_perm hp, hi_perm hp, leastId_perm hp hid, leastId_perm hp hid]
theorem susp_perm {f : Fi} {l m : List Lk} (hp : l.Perm m) : suspL f l = suspL f m := by
  unfold suspL
  rw [agree_perm hp]
  have e : (fun x : Lk => agreeB f (but1 l x.id)) = fun x => agreeB f (but1 m x.id) := by
    funext x; exact agree_perm (hp.filter _)
  rw [e, ids_perm hp]
/-- With the looks in another order all is told the same. -/
theorem turned {f : Fi} {l : List Lk} (h : FireOk f) (hp : l.Perm f.ls) (p : Spt) : endsE (withF f l) p = endsE f p ∧ endsR (withF f l) p = endsR f p ∧ clashR (withF f l) = clashR f ∧ suspR (withF f l) = suspR f := by
  have h1 := fire_perm h hp
  have hid : ∀ x ∈ f.ls, 1 ≤ x.id := fun x hx => (look_iff.1 (h.look x hx)).1.1
  have e1 : endsE (withF f l) p = endsE f p := by
    unfold endsE knownE
    rw [ok_fire h1, ok_fire h]
    show (if (0 : Int) ≠ 0 then 0 else if firstE [spotE p] ≠ 0 then firstE [spotE p] else if agreeB f l then 0 else 9) = _
    rw [agree_perm hp]
  refine ⟨e1, ?_, ?_, ?_⟩
  · unfold endsR; rw [e1]
    show (if endsE f p = 0 then bndI f l p else _) = _
    rw [bnd_perm hp hid]
  · unfold clashR; rw [ok_fire h1, ok_fire h]
    show (if (0 : Int) = 0 then clashI f l else _) = _
    rw [clash_perm hp]
  · unfold suspR; rw [ok_fire h1, ok_fire h]
    show (if (0 : Int) = 0 then suspL f l else _) = _
    rw [susp_perm hp]
end Go.Proofs.YtjpoacffnpgjdaaGreat
/- Fires as plain data: what Needed and Decides tell. No program is named here. -/
namespace Go.Proofs.YtjpoacffnpgjdaaGreat
theorem need_decide (f : Fi) (q p : Spt) (need : Int) : decideE f [q] p need = needE f q p need := by
  unfold decideE needE knownE
  have e : firstE [spotsI [q], spotE p, heatE need] = firstE [spot2E q p, heatE need] := by
    have e1 : spotsI [q] = spotE q := by unfold spotsI spotE; simp
    rw [e1]
    unfold spot2E spotE
    cases spotB q <;> cases spotB p <;> simp [firstE]
  rw [e]
theorem need_zero {f : Fi} {q p : Spt} {need : Int} (h : needE f q p need = 0) : FireOk f ∧ spotB q = true ∧ spotB p = true ∧ heatB need = true ∧ agreeB f f.ls = true := by
  obtain ⟨a, b, c⟩ := known_zero h
  obtain ⟨b1, b2⟩ := first2.1 b
  obtain ⟨b3, b4⟩ := spot2E_iff.1 b1
  exact ⟨fire_ok a, b3, b4, heatE_iff.1 b2, c⟩
theorem needed_spec {f : Fi} (h : FireOk f) (ha : agreeB f f.ls = true) {q p : Spt} {need : Int} (h0 : ¬ needI f f.ls q p need < 0) :
    endLo f f.ls q ≤ needI f f.ls q p need ∧ needI f f.ls q p need ≤ endHi f f.ls q ∧ need ≤ max (endLo f f.ls p) (needI f f.ls q p need - farI f p q) ∧
      (endLo f f.ls q < needI f f.ls q p need → max (endLo f f.ls p) (needI f f.ls q p need - 1 - farI f p q) < need) := by
  have hlh := lo_hi h.slope h.look ha q
  unfold needI at h0 ⊢
  by_cases h1 : need ≤ endLo f f.ls p
  · rw [if_pos h1] at h0 ⊢
    exact ⟨Int.le_refl _, hlh, by omega, fun h2 => by omega⟩
  · rw [if_neg h1] at h0 ⊢
    have e := need_max h.slope (ls := f.ls) (look := q) (at_ := p) (need := need) (by omega)
    by_cases h2 : endHi f f.ls q < max (endLo f f.ls q) (need + farI f p q)
    · rw [if_pos h2] at h0; omega
    · rw [if_neg h2] at h0 ⊢
      refine ⟨by omega, by omega, by omega, fun h3 => by omega⟩
theorem decide_spec {f : Fi} {ls : List Lk} {q p : Spt} {need : Int} (h : decideB f ls q p need = true) : endLo f ls q < needI f ls q p need ∧ min (endHi f ls p) (endLo f ls q + farI f q p) < need := by
  unfold decideB at h
  simpa using h
theorem decide_one (f : Fi) (q p : Spt) (need : Int) (h : needE f q p need = 0) : decideR f [q] p need = if decideB f f.ls q p need then [0] else [] := by
  unfold decideR
  rw [need_decide, if_pos h]
  simp only [List.length_singleton, indsF]
  cases hd : decideB f f.ls q p need <;> simp [hd]
end Go.Proofs.YtjpoacffnpgjdaaGreat
