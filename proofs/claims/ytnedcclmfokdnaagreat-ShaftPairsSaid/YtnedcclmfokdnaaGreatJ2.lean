/- Texts joined: Base Model Paths Net Small KNet SDst SHgt SOver SCircM. -/
import Derived.WalkKit
import Derived.WalkSpells
import Derived.WalkLawsBesides
import Derived.Maps.AppendAt
import Derived.Deep.AppendLies
import Derived.Deep.Draws
import Derived.Lib.Hide
import Derived.BigQuiet
namespace Go.Proofs.YtnedcclmfokdnaaGreat
open Go.RowKit
def Sl {α : Type} (c : α → List Value) (s : Nat) (w : World) (B : Nat) (v : Value) (l : List α) : Prop :=
  ∃ (A : Option Addr) (cap : Nat), v = .slice A l.length cap ∧ l.length ≤ cap ∧ l.length ≤ 140737488355328 ∧
    (0 < l.length → ∃ b off, A = some ⟨b, off, none⟩ ∧ b < B ∧ ∀ i x, l[i]? = some x → ∀ j u, (c x)[j]? = some u → w.cell? ⟨b, off + i * s + j, none⟩ = some u)
section
variable {α : Type} {c : α → List Value} {s : Nat} {w w' : World} {B B' : Nat} {v : Value} {l : List α}
theorem Sl.keep (h : Sl c s w B v l) (hk : ∀ p : Addr, p.block < B → w'.cell? p = w.cell? p) : Sl c s w' B v l := by
  obtain ⟨A, cap, e, h1, h2, h3⟩ := h
  refine ⟨A, cap, e, h1, h2, fun hn => ?_⟩
  obtain ⟨b, off, e2, hb, hc⟩ := h3 hn
  exact ⟨b, off, e2, hb, fun i x hx j u hu => (hk _ hb).trans (hc i x hx j u hu)⟩
theorem Sl.more (h : Sl c s w B v l) (hB : B ≤ B') : Sl c s w B' v l := by
  obtain ⟨A, cap, e, h1, h2, h3⟩ := h
  refine ⟨A, cap, e, h1, h2, fun hn => ?_⟩
  obtain ⟨b, off, e2, hb, hc⟩ := h3 hn
  exact ⟨b, off, e2, by omega, hc⟩
theorem Sl.below (h : Sl c s w B v l) (hb : Below B w w') : Sl c s w' B v l := h.keep fun _ hp => hb.cell hp
theorem Sl.later (h : Sl c s w w.heap.size v l) (hb : Below w.heap.size w w') : Sl c s w' w'.heap.size v l := (h.below hb).more hb.size
theorem Sl.alloc (h : Sl c s w w.heap.size v l) (o : Obj) : Sl c s (w.alloc o) (w.alloc o).heap.size v l := h.later ((Below.refl _ _).alloc (Nat.le_refl _) o)
theorem Sl.drew (h : Sl c s w B v l) : Sl c s w.drew B v l := h
theorem Sl.drewN (h : Sl c s w B v l) (n : Nat) : Sl c s (w.drewN n) B v l := h
theorem Sl.nil_ : Sl c s w B (.slice none 0 0) ([] : List α) := ⟨none, 0, rfl, by simp, by simp, fun h => absurd h (by simp)⟩
theorem flat_at (hc : ∀ x, (c x).length = s) : ∀ (l : List α) (i : Nat) (x : α) (j : Nat) (u : Value), l[i]? = some x → (c x)[j]? = some u → (l.flatMap c)[i * s + j]? = some u
  | [], i, x, j, u, h, _ => by simp at h
  | y :: l, 0, x, j, u, h, hj => by
    simp only [List.getElem?_cons_zero, Option.some.injEq] at h
    subst h
    have : j < (c y).length := (List.getElem?_eq_some_iff.1 hj).1
    simp only [List.flatMap_cons, Nat.zero_mul, Nat.zero_add]
    rw [List.getElem?_append_left this, hj]
  | y :: l, i + 1, x, j, u, h, hj => by
    have ih := flat_at hc l i x j u (by simpa using h) hj
    simp only [List.flatMap_cons]
    rw [List.getElem?_append_right (by rw [hc, Nat.add_mul]; omega), hc]
    rw [← ih]
    congr 1
    rw [Nat.add_mul]
    omega
theorem flat_length (hc : ∀ x, (c x).length = s) : ∀ l : List α, (l.flatMap c).length = l.length * s
  | [] => by simp
  | y :: l => by
    simp only [List.flatMap_cons, List.length_append, List.length_cons, hc, flat_length hc l, Nat.add_mul]
    omega
theorem Sl.of_own {base : Nat} {e : TypeId} (hc : ∀ x, (c x).length = s) (h : w.ownsRow base e s v l.length (l.flatMap c)) (hl : l.length ≤ 140737488355328) : Sl c s w w.heap.size v l := by
  rcases h.2 with ⟨rfl, h0⟩ | ⟨g, cap, cur, rfl, hg, hh, hcap, hm, hsz, htk⟩
  · exact ⟨none, 0, by rw [h0], by omega, hl, fun hn => absurd hn (by omega)⟩
  · refine ⟨some ⟨g, 0, none⟩, cap, rfl, hcap, hl, fun _ => ⟨g, 0, rfl, ?_, fun i x hx j u hu => ?_⟩⟩
    · rcases Nat.lt_or_ge g w.heap.size with hlt | hge
      · exact hlt
      · rw [Array.getElem?_eq_none hge] at hh; cases hh
    · have := h.cells (g := g) rfl (i * s + j) u (flat_at hc l i x j u hx hu)
      rw [← this]
      unfold Addr.add
      split
      · rename_i h0; rw [show 0 + i * s + j = 0 by omega]
      · simp
end
def nC (n : Int) : List Value := [.int .i64 n]
@[reducible] def Ints (w : World) (B : Nat) (v : Value) (l : List Int) : Prop := Sl nC 1 w B v l
theorem nC_len (n : Int) : (nC n).length = 1 := rfl
theorem flat_nC (l : List Int) : l.flatMap nC = l.map (Value.int .i64) := by
  induction l with
  | nil => rfl
  | cons x l ih => simp [nC, ih]
theorem Ints.of_own {w : World} {base : Nat} {e : TypeId} {v : Value} {l : List Int} (h : w.ownsRow base e 1 v l.length (l.map (Value.int .i64))) (hl : l.length ≤ 140737488355328) : Ints w w.heap.size v l :=
  Sl.of_own nC_len (by rw [flat_nC]; exact h) hl
theorem Ints.open_ {w : World} {B : Nat} {v : Value} {l : List Int} (h : Ints w B v l) :
    ∃ (A : Option Addr) (cap : Nat), v = .slice A l.length cap ∧ l.length ≤ cap ∧ l.length ≤ 140737488355328 ∧
      ∀ k, k < l.length → ∃ b off x, A = some ⟨b, off, none⟩ ∧ b < B ∧ l[k]? = some x ∧ w.cell? ⟨b, off + k, none⟩ = some (.int .i64 x) := by
  obtain ⟨A, cap, e, h1, h2, h3⟩ := h
  refine ⟨A, cap, e, h1, h2, fun k hk => ?_⟩
  obtain ⟨b, off, e2, hb, hc⟩ := h3 (by omega)
  refine ⟨b, off, l[k], e2, hb, List.getElem?_eq_getElem hk, ?_⟩
  have := hc k l[k] (List.getElem?_eq_getElem hk) 0 _ rfl
  simpa using this
theorem bcell {W w1 : World} (hb : Below W.heap.size W w1) : (∀ b o, b < W.heap.size → w1.cell? ⟨b, o, none⟩ = W.cell? ⟨b, o, none⟩) ∧ (∀ b o, b < W.heap.size → w1.frozen? ⟨b, o, none⟩ = W.frozen? ⟨b, o, none⟩) :=
  ⟨fun b o h => hb.cell (p := ⟨b, o, none⟩) h, fun b o h => hb.frozen (p := ⟨b, o, none⟩) h⟩
theorem ret_int {k : IntKind} {a b : Int} (h : a = b) : Ending.returned (.int k a) = .returned (.int k b) := by rw [h]
theorem ret_bool {a b : Bool} (h : a = b) : Ending.returned (.bool a) = .returned (.bool b) := by rw [h]
theorem below_alloc (w : World) (o : Obj) : Below w.heap.size w (w.alloc o) := (Below.refl _ _).alloc (Nat.le_refl _) o
theorem below_drewN {B : Nat} {a w : World} (h : Below B a w) (n : Nat) : Below B a (w.drewN n) := ⟨h.os, h.tape, h.output, h.size, h.block⟩
theorem below_then {a b c : World} (h : Below a.heap.size a b) (k : Below b.heap.size b c) : Below a.heap.size a c := h.trans (k.mono h.size)
structure Gr (w : World) where
  val : World
  b : Below w.heap.size w val
instance (w : World) : Nonempty (Gr w) := ⟨⟨w, Below.refl _ _⟩⟩
theorem wp_region_grown {P : Program} {id : Nat} {Q : Exit → Act → World → Prop} {a : Act} {w : World} {l : List Oper} (hm : P.follows .mixedOrders = true) (hB : Region.lexB .any l.toArray = true)
    (h : (∀ (g : Gr w) b o, b < w.heap.size → g.val.cell? ⟨b, o, none⟩ = w.cell? ⟨b, o, none⟩) →
      wpQuiet P l.toArray (fun w' => ∃ g : Gr w, w' = g.val) (fun a' => ∀ w', (∃ g : Gr w, w' = g.val) → Q .normal a' w') l a) : (Code.region id l.toArray true).wp P Q a w :=
  wp_region_quiet (C := fun w' => ∃ g : Gr w, w' = g.val) hm hB ⟨⟨w.drew, (Below.refl _ _).drew⟩, rfl⟩ (by simpa using h fun g b o h => g.b.cell (p := ⟨b, o, none⟩) h)
theorem Calls.grown {P : Program} {f : FuncId} {args : Array Value} {w : World} {g : Gr w} {v : Value}
    (h : Calls P f args g.val fun e w' => e = .returned v ∧ Below g.val.heap.size g.val w') : Calls P f args g.val fun e w'' => e = .returned v ∧ ∃ g' : Gr w, w'' = g'.val :=
  h.mono fun _ w' ⟨he, hb⟩ => ⟨he, ⟨w', below_then g.b hb⟩, rfl⟩
theorem bcellB {B : Nat} {W w1 : World} (hb : Below B W w1) : (∀ b o, b < B → w1.cell? ⟨b, o, none⟩ = W.cell? ⟨b, o, none⟩) ∧ (∀ b o, b < B → w1.frozen? ⟨b, o, none⟩ = W.frozen? ⟨b, o, none⟩) :=
  ⟨fun b o h => hb.cell (p := ⟨b, o, none⟩) h, fun b o h => hb.frozen (p := ⟨b, o, none⟩) h⟩
theorem take_snoc {α : Type} {l : List α} {j : Nat} {x : α} (h : l[j]? = some x) : l.take (j + 1) = l.take j ++ [x] := by
  obtain ⟨hl, e⟩ := List.getElem?_eq_some_iff.1 h
  rw [List.take_succ_eq_append_getElem hl, e]
theorem take_map_snoc {α β : Type} {l : List α} {j : Nat} {x : α} (f : α → β) (h : l[j]? = some x) : (l.take (j + 1)).map f = (l.take j).map f ++ [f x] := by
  rw [take_snoc h, List.map_append]; rfl
theorem below_append {B n sz : Nat} {W wr w1 : World} {e : TypeId} {o : Obj} {v : Value} {xs : List Value} (hb : Below B W wr) (hB : B ≤ wr.heap.size) (hown : wr.ownsRow B e sz v n xs) (hg : (wr.alloc o).grownBy w1 v.ownBlock) : Below B W w1 :=
  (hb.alloc hB o).grown hg (by simp; omega) fun k hk => (hown.lt k hk).1
theorem cells_new (w : World) (cs : List Value) (t : TypeId) : ∀ j u, cs[j]? = some u → (w.alloc (.cells cs.toArray t)).cell? ((⟨w.heap.size, 0, none⟩ : Addr).add j) = some u :=
  fun j u h => World.news_of_block (heap_alloc_new w _) j u (by simpa using h)
theorem one_oneCell {u : Value} (h : u.oneCell' = true) : ∀ x ∈ [u], x.oneCell' = true := by simpa using h
end Go.Proofs.YtnedcclmfokdnaaGreat
namespace Go.Proofs.YtnedcclmfokdnaaGreat
open Go.RowKit
structure Rec where
  id : Int
  hour : Int
  lo : Int
  hi : Int
structure Wg where
  id : Int
  kind : Int
  frm : Int
  too : Int
  lo : Int
  hi : Int
structure Kl where
  room : Int
  per : Int
  ls : List Rec
  ds : List Rec
  ws : List Wg
def rC (r : Rec) : List Value := [.int .i64 r.id, .int .i64 r.hour, .int .i64 r.lo, .int .i64 r.hi]
def wC (r : Wg) : List Value := [.int .i64 r.id, .int .i64 r.kind, .int .i64 r.frm, .int .i64 r.too, .int .i64 r.lo, .int .i64 r.hi]
theorem rC_len (r : Rec) : (rC r).length = 4 := rfl
theorem wC_len (r : Wg) : (wC r).length = 6 := rfl
@[reducible] def Recs (w : World) (B : Nat) (v : Value) (l : List Rec) : Prop := Sl rC 4 w B v l
@[reducible] def Wgs (w : World) (B : Nat) (v : Value) (l : List Wg) : Prop := Sl wC 6 w B v l
theorem Recs.open_ {w : World} {B : Nat} {v : Value} {l : List Rec} (h : Recs w B v l) :
    ∃ (A : Option Addr) (cap : Nat), v = .slice A l.length cap ∧ l.length ≤ cap ∧ l.length ≤ 140737488355328 ∧
      ∀ k, k < l.length → ∃ b off x, A = some ⟨b, off, none⟩ ∧ b < B ∧ l[k]? = some x ∧ w.cell? ⟨b, off + k * 4, none⟩ = some (.int .i64 x.id) ∧
        w.cell? ⟨b, off + k * 4 + 1, none⟩ = some (.int .i64 x.hour) ∧ w.cell? ⟨b, off + k * 4 + 2, none⟩ = some (.int .i64 x.lo) ∧ w.cell? ⟨b, off + k * 4 + 3, none⟩ = some (.int .i64 x.hi) := by
  obtain ⟨A, cap, e, h1, h2, h3⟩ := h
  refine ⟨A, cap, e, h1, h2, fun k hk => ?_⟩
  obtain ⟨b, off, e2, hb, hc⟩ := h3 (by omega)
  have hx := List.getElem?_eq_getElem hk
  exact ⟨b, off, l[k], e2, hb, hx, hc k _ hx 0 _ rfl, hc k _ hx 1 _ rfl, hc k _ hx 2 _ rfl, hc k _ hx 3 _ rfl⟩
theorem Wgs.open_ {w : World} {B : Nat} {v : Value} {l : List Wg} (h : Wgs w B v l) :
    ∃ (A : Option Addr) (cap : Nat), v = .slice A l.length cap ∧ l.length ≤ cap ∧ l.length ≤ 140737488355328 ∧
      ∀ k, k < l.length → ∃ b off x, A = some ⟨b, off, none⟩ ∧ b < B ∧ l[k]? = some x ∧ w.cell? ⟨b, off + k * 6, none⟩ = some (.int .i64 x.id) ∧
        w.cell? ⟨b, off + k * 6 + 1, none⟩ = some (.int .i64 x.kind) ∧ w.cell? ⟨b, off + k * 6 + 2, none⟩ = some (.int .i64 x.frm) ∧ w.cell? ⟨b, off + k * 6 + 3, none⟩ = some (.int .i64 x.too) ∧
        w.cell? ⟨b, off + k * 6 + 4, none⟩ = some (.int .i64 x.lo) ∧ w.cell? ⟨b, off + k * 6 + 5, none⟩ = some (.int .i64 x.hi) := by
  obtain ⟨A, cap, e, h1, h2, h3⟩ := h
  refine ⟨A, cap, e, h1, h2, fun k hk => ?_⟩
  obtain ⟨b, off, e2, hb, hc⟩ := h3 (by omega)
  have hx := List.getElem?_eq_getElem hk
  exact ⟨b, off, l[k], e2, hb, hx, hc k _ hx 0 _ rfl, hc k _ hx 1 _ rfl, hc k _ hx 2 _ rfl, hc k _ hx 3 _ rfl, hc k _ hx 4 _ rfl, hc k _ hx 5 _ rfl⟩
def Kiln (w : World) (v : Value) (k : Kl) : Prop :=
  ∃ vl vd vw, v = .agg #[.int .i64 k.room, .int .i64 k.per, vl, vd, vw] ∧ Recs w w.heap.size vl k.ls ∧ Recs w w.heap.size vd k.ds ∧ Wgs w w.heap.size vw k.ws
theorem Kiln.later {w w' : World} {v : Value} {k : Kl} (h : Kiln w v k) (hb : Below w.heap.size w w') : Kiln w' v k := by
  obtain ⟨a, b, c, e, h1, h2, h3⟩ := h
  exact ⟨a, b, c, e, h1.later hb, h2.later hb, h3.later hb⟩
def inB (n lo hi : Int) : Bool := decide (lo ≤ n) && decide (n ≤ hi)
def spanB (lo hi most : Int) : Bool := decide (0 ≤ lo) && decide (lo ≤ hi) && decide (hi ≤ most)
def place (l : List Rec) (id : Int) : Int := match l.findIdx? (fun r => r.id == id) with | some i => (i : Int) | none => -1
theorem place_none {l : List Rec} {id : Int} (h : ∀ (j : Nat) (x : Rec), l[j]? = some x → x.id ≠ id) : place l id = -1 := by
  unfold place
  rw [List.findIdx?_eq_none_iff.2 ?_]
  intro x hx
  obtain ⟨j, hj⟩ := List.getElem?_of_mem hx
  simpa using h j x hj
theorem place_some {l : List Rec} {id : Int} {k : Nat} {x : Rec} (h : ∀ (j : Nat) (x : Rec), j < k → l[j]? = some x → x.id ≠ id) (hk : l[k]? = some x) (hx : x.id = id) : place l id = k := by
  unfold place
  have hlt := (List.getElem?_eq_some_iff.1 hk).1
  have : l.findIdx? (fun r => r.id == id) = some k := by
    rw [List.findIdx?_eq_some_iff_getElem]
    refine ⟨hlt, ?_, fun j hj => ?_⟩
    · rw [(List.getElem?_eq_some_iff.1 hk).2]; simpa using hx
    · simpa using h j _ hj (List.getElem?_eq_getElem (by omega))
  rw [this]
theorem not_succ {l : List Rec} {id : Int} {j : Nat} {y : Rec} (h : ∀ (m : Nat) (x : Rec), m < j → l[m]? = some x → x.id ≠ id) (hj : l[j]? = some y) (hy : y.id ≠ id) :
    ∀ (m : Nat) (x : Rec), m < j + 1 → l[m]? = some x → x.id ≠ id := by
  intro m x hm hx
  by_cases e : m = j
  · subst e; rw [hj] at hx; cases hx; exact hy
  · exact h m x (by omega) hx
def recordB (id hour lo hi behind : Int) : Bool := spanB lo hi 1048576 && inB id 1 1099511627776 && inB hour (max 0 behind) 16384
def weighB (k : Kl) (g : Wg) : Bool :=
  spanB g.lo g.hi 16777216 && inB g.id 1 1099511627776 &&
    (if g.kind = 1 then decide (0 ≤ place k.ls g.frm) && decide (place k.ls g.frm ≤ place k.ls g.too)
     else if g.kind = 2 then decide (0 ≤ place k.ds g.frm) && decide (place k.ds g.frm ≤ place k.ds g.too)
     else if g.kind = 3 then inB g.frm 0 16384 && (g.too == 0) else false)
def allIds (k : Kl) : List Int := k.ls.map (·.id) ++ k.ds.map (·.id) ++ k.ws.map (·.id)
theorem place_range (l : List Rec) (id : Int) : -1 ≤ place l id ∧ place l id < l.length := by
  unfold place
  split
  · rename_i i h
    have := (List.findIdx?_eq_some_iff_getElem.1 h).1
    omega
  · omega
def lastLe (l : List Rec) (h : Int) : Nat → Nat
  | 0 => 0
  | j + 1 => match l[j]? with
    | some x => if x.hour ≤ h then j + 1 else lastLe l h j
    | none => lastLe l h j
theorem lastLe_le (l : List Rec) (h : Int) : ∀ j, lastLe l h j ≤ j
  | 0 => by simp [lastLe]
  | j + 1 => by
    have := lastLe_le l h j
    unfold lastLe
    split
    · split <;> omega
    · omega
theorem lastLe_yes {l : List Rec} {h : Int} {j : Nat} {x : Rec} (hx : l[j]? = some x) (hh : x.hour ≤ h) : lastLe l h (j + 1) = j + 1 := by simp [lastLe, hx, hh]
theorem lastLe_no {l : List Rec} {h : Int} {j : Nat} {x : Rec} (hx : l[j]? = some x) (hh : ¬ x.hour ≤ h) : lastLe l h (j + 1) = lastLe l h j := by simp only [lastLe, hx, if_neg hh]
def chargedI (k : Kl) (h : Int) : Int := (lastLe k.ls h k.ls.length : Nat)
def markI (k : Kl) (n : Int) : Int := if n = 0 then 0 else k.ls.length + n
def drawnI (k : Kl) (h : Int) : Int := markI k (lastLe k.ds h k.ds.length : Nat)
def endsI (k : Kl) (g : Wg) : Int × Int :=
  if g.kind = 1 then (place k.ls g.frm, place k.ls g.too + 1)
  else if g.kind = 2 then (markI k (place k.ds g.frm), markI k (place k.ds g.too + 1))
  else (drawnI k g.frm, chargedI k g.frm)
def aheadB (l : List Int) (a : Nat) : Bool := (l.take a).all fun x => !(some x == l[a]?)
theorem firstB_no {l : List Int} {a j : Nat} {x y : Int} (hy : l[a]? = some y) (hx : l[j]? = some x) (hj : j < a) (h : x = y) : aheadB l a = false := by
  unfold aheadB
  rw [List.all_eq_false]
  refine ⟨x, List.mem_of_getElem? (i := j) (by rw [List.getElem?_take, if_pos hj, hx]), by simp [hy, h]⟩
theorem firstB_yes {l : List Int} {a : Nat} {y : Int} (hy : l[a]? = some y) (h : ∀ (m : Nat) (z : Int), m < a → l[m]? = some z → z ≠ y) : aheadB l a = true := by
  unfold aheadB
  rw [List.all_eq_true]
  intro x hx
  obtain ⟨m, hm⟩ := List.getElem?_of_mem hx
  rw [List.getElem?_take] at hm
  split at hm
  · rename_i hlt; simpa [hy] using h m x hlt hm
  · cases hm
def behind (l : List Rec) (i : Nat) : Int := if i = 0 then 0 else match l[i - 1]? with | some x => x.hour | none => 0
def okRec (l : List Rec) (i : Nat) : Bool := match l[i]? with | some x => recordB x.id x.hour x.lo x.hi (behind l i) | none => false
def okWg (k : Kl) (i : Nat) : Bool := match k.ws[i]? with | some x => weighB k x | none => false
def okAt (k : Kl) (i : Nat) : Bool :=
  if i < k.ls.length then okRec k.ls i else if i < k.ls.length + k.ds.length then okRec k.ds (i - k.ls.length) else okWg k (i - k.ls.length - k.ds.length)
def errAt (k : Kl) (i : Nat) : Int := if okAt k i = false then 1 else if aheadB (allIds k) i = false then 6 else 0
def firstErr (k : Kl) : List Nat → Int
  | [] => 0
  | i :: l => if errAt k i = 0 then firstErr k l else errAt k i
def checkI (k : Kl) : Int :=
  if inB k.room 0 16777216 = false ∨ inB k.per 1 65536 = false then 1
  else if 20 < k.ls.length ∨ 20 < k.ds.length ∨ 20 < k.ws.length then 2
  else firstErr k (List.range (allIds k).length)
theorem firstErr_zero (k : Kl) : ∀ l : List Nat, (∀ i ∈ l, errAt k i = 0) → firstErr k l = 0
  | [], _ => rfl
  | i :: l, h => by rw [firstErr, if_pos (h i (by simp)), firstErr_zero k l fun j hj => h j (by simp [hj])]
theorem firstErr_app (k : Kl) (l r : List Nat) (h : ∀ i ∈ l, errAt k i = 0) : firstErr k (l ++ r) = firstErr k r := by
  induction l with
  | nil => rfl
  | cons i l ih => rw [List.cons_append, firstErr, if_pos (h i (by simp)), ih fun j hj => h j (by simp [hj])]
theorem firstErr_range {k : Kl} {n j : Nat} (hj : j < n) (h : ∀ i, i < j → errAt k i = 0) (he : errAt k j ≠ 0) : firstErr k (List.range n) = errAt k j := by
  rw [show List.range n = List.range j ++ (List.range' j (n - j)) by
    rw [List.range_eq_range', List.range_eq_range', show n = j + (n - j) by omega, ← List.range'_append_1]
    simp, firstErr_app k _ _ (by simpa using h), show n - j = (n - j - 1) + 1 by omega, List.range'_succ, firstErr, if_neg he]
theorem okAt_load {k : Kl} {j : Nat} {x : Rec} (hj : j < k.ls.length) (hx : k.ls[j]? = some x) : okAt k j = recordB x.id x.hour x.lo x.hi (behind k.ls j) := by unfold okAt okRec; rw [if_pos hj, hx]
theorem okAt_draw {k : Kl} {j : Nat} {x : Rec} (h0 : ¬ j < k.ls.length) (hj : j < k.ls.length + k.ds.length) (hx : k.ds[j - k.ls.length]? = some x) :
    okAt k j = recordB x.id x.hour x.lo x.hi (behind k.ds (j - k.ls.length)) := by unfold okAt okRec; rw [if_neg h0, if_pos hj, hx]
theorem okAt_weigh {k : Kl} {j : Nat} {x : Wg} (h0 : ¬ j < k.ls.length) (hj : ¬ j < k.ls.length + k.ds.length) (hx : k.ws[j - k.ls.length - k.ds.length]? = some x) : okAt k j = weighB k x := by
  unfold okAt okWg; rw [if_neg h0, if_neg hj, hx]
theorem errAt_no {k : Kl} {j : Nat} {b : Bool} (h : okAt k j = b) (hb : b = false) : errAt k j = 1 := by simp [errAt, h, hb]
theorem errAt_twice {k : Kl} {j : Nat} {b : Bool} (h : okAt k j = b) (hb : b = true) (h2 : aheadB (allIds k) j = false) : errAt k j = 6 := by simp [errAt, h, hb, h2]
theorem errAt_ok {k : Kl} {j : Nat} {b : Bool} (h : okAt k j = b) (hb : b = true) (h2 : aheadB (allIds k) j = true) : errAt k j = 0 := by simp [errAt, h, hb, h2]
theorem check_at {k : Kl} {j : Nat} {e : Int} (h1 : inB k.room 0 16777216 = true) (h2 : inB k.per 1 65536 = true) (h3 : k.ls.length ≤ 20) (h4 : k.ds.length ≤ 20) (h5 : k.ws.length ≤ 20)
    (hj : j < (allIds k).length) (h : ∀ i, i < j → errAt k i = 0) (he : errAt k j = e) (hne : e ≠ 0) : checkI k = e := by
  unfold checkI
  rw [if_neg (by simp [h1, h2]), if_neg (by omega), firstErr_range hj h (by rw [he]; exact hne), he]
theorem check_end {k : Kl} (h1 : inB k.room 0 16777216 = true) (h2 : inB k.per 1 65536 = true) (h3 : k.ls.length ≤ 20) (h4 : k.ds.length ≤ 20) (h5 : k.ws.length ≤ 20)
    (h : ∀ i, i < (allIds k).length → errAt k i = 0) : checkI k = 0 := by
  unfold checkI
  rw [if_neg (by simp [h1, h2]), if_neg (by omega), firstErr_zero k _ (by simpa using h)]
theorem allIds_len (k : Kl) : (allIds k).length = k.ls.length + k.ds.length + k.ws.length := by simp [allIds, Nat.add_assoc]
theorem behind_first {l : List Rec} {i : Nat} (h : i ≤ 0) : behind l i = 0 := by unfold behind; rw [if_pos (by omega)]
theorem behind_next {l : List Rec} {i m : Nat} {y : Rec} (h : i = m + 1) (hy : l[m]? = some y) : behind l i = y.hour := by
  subst h; unfold behind; rw [if_neg (by omega), Nat.add_sub_cancel, hy]
structure Tie where
  frm : Int
  too : Int
  most : Int
  id : Int
def tC (t : Tie) : List Value := [.int .i64 t.frm, .int .i64 t.too, .int .i64 t.most, .int .i64 t.id]
theorem tC_len (t : Tie) : (tC t).length = 4 := rfl
@[reducible] def TiesAt (w : World) (B : Nat) (v : Value) (l : List Tie) : Prop := Sl tC 4 w B v l
theorem TiesAt.open_ {w : World} {B : Nat} {v : Value} {l : List Tie} (h : TiesAt w B v l) :
    ∃ (A : Option Addr) (cap : Nat), v = .slice A l.length cap ∧ l.length ≤ cap ∧ l.length ≤ 140737488355328 ∧
      ∀ k, k < l.length → ∃ b off x, A = some ⟨b, off, none⟩ ∧ b < B ∧ l[k]? = some x ∧ w.cell? ⟨b, off + k * 4, none⟩ = some (.int .i64 x.frm) ∧
        w.cell? ⟨b, off + k * 4 + 1, none⟩ = some (.int .i64 x.too) ∧ w.cell? ⟨b, off + k * 4 + 2, none⟩ = some (.int .i64 x.most) ∧ w.cell? ⟨b, off + k * 4 + 3, none⟩ = some (.int .i64 x.id) := by
  obtain ⟨A, cap, e, h1, h2, h3⟩ := h
  refine ⟨A, cap, e, h1, h2, fun k hk => ?_⟩
  obtain ⟨b, off, e2, hb, hc⟩ := h3 (by omega)
  have hx := List.getElem?_eq_getElem hk
  exact ⟨b, off, l[k], e2, hb, hx, hc k _ hx 0 _ rfl, hc k _ hx 1 _ rfl, hc k _ hx 2 _ rfl, hc k _ hx 3 _ rfl⟩
def OwnTies (w : World) (base : Nat) (e : TypeId) (v : Value) (l : List Tie) : Prop := w.ownsRow base e 4 v l.length (l.flatMap tC)
def bothT (a b lo hi id : Int) : List Tie := [⟨a, b, hi, id⟩, ⟨b, a, -lo, id⟩]
def loadTies (k : Kl) (i : Nat) : List Tie := match k.ls[i]? with | some x => bothT i (i + 1) x.lo x.hi x.id | none => []
def drawTies (k : Kl) (i : Nat) : List Tie := match k.ds[i]? with | some x => bothT (markI k i) (markI k (i + 1)) x.lo x.hi x.id | none => []
def wgTies (k : Kl) (i : Nat) : List Tie := match k.ws[i]? with | some x => bothT (endsI k x).1 (endsI k x).2 x.lo x.hi x.id | none => []
def stockTies (k : Kl) (i : Nat) : List Tie := match k.ds[i]? with | some x => [⟨chargedI k x.hour, markI k (i + 1), 0, 0⟩] | none => []
def roomTies (k : Kl) (i : Nat) : List Tie := match k.ls[i]? with | some x => [⟨drawnI k (x.hour - 1), i + 1, k.room, 0⟩] | none => []
def tiesL (k : Kl) : List Tie :=
  (List.range k.ls.length).flatMap (loadTies k) ++ (List.range k.ds.length).flatMap (drawTies k) ++ (List.range k.ws.length).flatMap (wgTies k) ++
    (List.range k.ds.length).flatMap (stockTies k) ++ (List.range k.ls.length).flatMap (roomTies k)
theorem flat_range_snoc {α : Type} (f : Nat → List α) (j : Nat) : (List.range (j + 1)).flatMap f = (List.range j).flatMap f ++ f j := by
  rw [List.range_succ, List.flatMap_append]; simp
structure Small (k : Kl) : Prop where
  ls : k.ls.length ≤ 20
  ds : k.ds.length ≤ 20
  ws : k.ws.length ≤ 20
  room : 0 ≤ k.room ∧ k.room ≤ 16777216
  lb : ∀ (i : Nat) (x : Rec), k.ls[i]? = some x → 0 ≤ x.lo ∧ x.lo ≤ x.hi ∧ x.hi ≤ 1048576 ∧ 0 ≤ x.hour ∧ x.hour ≤ 16384
  db : ∀ (i : Nat) (x : Rec), k.ds[i]? = some x → 0 ≤ x.lo ∧ x.lo ≤ x.hi ∧ x.hi ≤ 1048576 ∧ 0 ≤ x.hour ∧ x.hour ≤ 16384
  wb : ∀ (i : Nat) (x : Wg), k.ws[i]? = some x → 0 ≤ x.lo ∧ x.lo ≤ x.hi ∧ x.hi ≤ 16777216
end Go.Proofs.YtnedcclmfokdnaaGreat
namespace Go.Proofs.YtnedcclmfokdnaaGreat
open Go.RowKit
def tieAt (l : List Tie) (p : Int) : Option Tie := if 0 ≤ p then l[p.toNat]? else none
def walkI (l : List Tie) : List Int → Int → Int → Option (Int × Int)
  | [], a, s => some (a, s)
  | p :: ps, a, s => match tieAt l p with
    | some t => if t.frm = a then walkI l ps t.too (s + t.most) else none
    | none => none
theorem walkI_app (l : List Tie) : ∀ (ps qs : List Int) (a s a' s' : Int), walkI l ps a s = some (a', s') → walkI l (ps ++ qs) a s = walkI l qs a' s'
  | [], qs, a, s, a', s', h => by simp [walkI] at h; obtain ⟨rfl, rfl⟩ := h; rfl
  | p :: ps, qs, a, s, a', s', h => by
    simp only [List.cons_append, walkI] at h ⊢
    split at h
    · rename_i t ht
      split at h
      · rename_i e; rw [if_pos e]; exact walkI_app l ps qs _ _ _ _ h
      · cases h
    · cases h
theorem walkI_none (l : List Tie) : ∀ (ps qs : List Int) (a s a' s' : Int), walkI l ps a s = some (a', s') → walkI l qs a' s' = none → walkI l (ps ++ qs) a s = none :=
  fun ps qs a s a' s' h h2 => by rw [walkI_app l ps qs a s a' s' h, h2]
def TiesSmall (l : List Tie) : Prop := ∀ (i : Nat) (t : Tie), l[i]? = some t → -16777216 ≤ t.most ∧ t.most ≤ 16777216
theorem walkI_bound {l : List Tie} (hl : TiesSmall l) : ∀ (ps : List Int) (a s a' s' : Int), walkI l ps a s = some (a', s') → s - 16777216 * ps.length ≤ s' ∧ s' ≤ s + 16777216 * ps.length
  | [], a, s, a', s', h => by simp [walkI] at h; obtain ⟨rfl, rfl⟩ := h; simp
  | p :: ps, a, s, a', s', h => by
    simp only [walkI] at h
    split at h
    · rename_i t ht
      unfold tieAt at ht
      split at ht
      · have hb := hl _ _ ht
        split at h
        · have := walkI_bound hl ps _ _ _ _ h
          simp only [List.length_cons]
          omega
        · cases h
      · cases ht
    · cases h
theorem tieAt_nat {l : List Tie} {q : Nat} : tieAt l q = l[q]? := by simp [tieAt]
theorem tieAt_out {l : List Tie} {p : Int} (h : ¬ (0 ≤ p ∧ p < l.length)) : tieAt l p = none := by
  unfold tieAt
  split
  · rw [List.getElem?_eq_none (by omega)]
  · rfl
theorem walk_step {l : List Tie} {p : List Int} {j : Nat} {q : Nat} {t : Tie} {a0 a s : Int} (h : walkI l (p.take j) a0 0 = some (a, s)) (hp : p[j]? = some (q : Int)) (ht : l[q]? = some t) (hf : t.frm = a) :
    walkI l (p.take (j + 1)) a0 0 = some (t.too, s + t.most) := by
  rw [take_snoc hp, walkI_app l _ _ _ _ _ _ h, walkI, tieAt_nat, ht]
  simp only [if_pos hf, walkI]
theorem walk_stop {l : List Tie} {p : List Int} {j : Nat} {x : Int} {a0 a s : Int} (h : walkI l (p.take j) a0 0 = some (a, s)) (hp : p[j]? = some x)
    (hno : ∀ t, tieAt l x = some t → t.frm ≠ a) : walkI l p a0 0 = none := by
  have hd : p = p.take j ++ (x :: p.drop (j + 1)) := by
    obtain ⟨hl, e⟩ := List.getElem?_eq_some_iff.1 hp
    rw [← e, ← List.drop_eq_getElem_cons hl, List.take_append_drop]
  rw [hd]
  refine walkI_none l _ _ _ _ _ _ h ?_
  rw [walkI]
  split
  · rename_i t ht; rw [if_neg (hno t ht)]
  · rfl
end Go.Proofs.YtnedcclmfokdnaaGreat
namespace Go.Proofs.YtnedcclmfokdnaaGreat
def Keeps (l : List Tie) (h : Int → Int) : Prop := ∀ t ∈ l, h t.too - h t.frm ≤ t.most
def chainT : List Tie → Int → Int → Prop
  | [], a, b => a = b
  | t :: p, a, b => t.frm = a ∧ chainT p t.too b
def sumT : List Tie → Int
  | [] => 0
  | t :: p => t.most + sumT p
theorem sumT_app : ∀ p q : List Tie, sumT (p ++ q) = sumT p + sumT q
  | [], q => by simp [sumT]
  | t :: p, q => by simp only [List.cons_append, sumT, sumT_app p q]; omega
theorem chainT_app : ∀ {p q : List Tie} {a b : Int}, chainT (p ++ q) a b ↔ ∃ m, chainT p a m ∧ chainT q m b
  | [], q, a, b => by simp [chainT]
  | t :: p, q, a, b => by
    simp only [List.cons_append, chainT, chainT_app (p := p)]
    constructor
    · rintro ⟨h, m, h1, h2⟩; exact ⟨m, ⟨h, h1⟩, h2⟩
    · rintro ⟨m, ⟨h, h1⟩, h2⟩; exact ⟨h, m, h1, h2⟩
theorem keeps_chain {l : List Tie} {h : Int → Int} (hk : Keeps l h) : ∀ {p : List Tie} {a b : Int}, (∀ t ∈ p, t ∈ l) → chainT p a b → h b - h a ≤ sumT p
  | [], a, b, _, hc => by simp only [chainT] at hc; subst hc; simp [sumT]
  | t :: p, a, b, hs, hc => by
    obtain ⟨rfl, hc⟩ := hc
    have h1 := hk t (hs t (by simp))
    have h2 := keeps_chain hk (fun u hu => hs u (by simp [hu])) hc
    simp only [sumT]
    omega
def Circle (l : List Tie) (c : List Tie) : Prop := c ≠ [] ∧ (∀ t ∈ c, t ∈ l) ∧ (∃ a, chainT c a a) ∧ sumT c < 0
theorem circle_no {l c : List Tie} (hc : Circle l c) (h : Int → Int) : ¬ Keeps l h := by
  intro hk
  obtain ⟨_, hs, ⟨a, ha⟩, hn⟩ := hc
  have := keeps_chain hk hs ha
  omega
theorem chain_at {p q : List Tie} {t : Tie} {a b : Int} (h : chainT (p ++ t :: q) a b) : chainT p a t.frm ∧ chainT (t :: q) t.frm b := by
  obtain ⟨m, h1, h2⟩ := chainT_app.1 h
  obtain rfl := h2.1
  exact ⟨h1, h2⟩
theorem not_nodup {α β : Type} [DecidableEq β] (f : α → β) : ∀ l : List α, ¬ (l.map f).Nodup → ∃ p x q y r, l = p ++ x :: q ++ y :: r ∧ f x = f y
  | [], h => absurd (by simp) h
  | x :: l, h => by
    by_cases hx : f x ∈ l.map f
    · obtain ⟨y, hy, e⟩ := List.mem_map.1 hx
      obtain ⟨q, r, rfl⟩ := List.append_of_mem hy
      exact ⟨[], x, q, y, r, by simp, e.symm⟩
    · have : ¬ (l.map f).Nodup := fun hn => h (by rw [List.map_cons, List.nodup_cons]; exact ⟨hx, hn⟩)
      obtain ⟨p, x', q, y, r, e, h2⟩ := not_nodup f l this
      exact ⟨x :: p, x', q, y, r, by rw [e]; simp, h2⟩
theorem simple_chain {l : List Tie} : ∀ (n : Nat) (p : List Tie) (a b : Int), p.length ≤ n → (∀ t ∈ p, t ∈ l) → chainT p a b →
    (∃ q, (∀ t ∈ q, t ∈ l) ∧ chainT q a b ∧ (q.map (·.frm)).Nodup ∧ sumT q ≤ sumT p) ∨ (∃ c, Circle l c ∧ (c.map (·.frm)).Nodup) := by
  intro n
  induction n with
  | zero =>
    intro p a b hn hs hc
    obtain rfl : p = [] := List.length_eq_zero_iff.1 (by omega)
    exact .inl ⟨[], by simp, hc, by simp, Int.le_refl _⟩
  | succ n ih =>
    intro p a b hn hs hc
    by_cases hd : (p.map (·.frm)).Nodup
    · exact .inl ⟨p, hs, hc, hd, Int.le_refl _⟩
    · obtain ⟨p1, x, q, y, r, e, hxy⟩ := not_nodup _ p hd
      subst e
      have hc2 := hc
      rw [List.append_assoc] at hc2
      obtain ⟨k1, k2⟩ := chain_at (p := p1) (t := x) (q := q ++ y :: r) (by simpa using hc2)
      have k3 := chain_at (p := x :: q) (t := y) (q := r) (by simpa using k2)
      simp only [List.length_append, List.length_cons] at hn
      by_cases hneg : sumT (x :: q) < 0
      · have hcirc : chainT (x :: q) x.frm x.frm := by have := k3.1; rw [← hxy] at this; exact this
        have hsub : ∀ t ∈ x :: q, t ∈ l := fun t ht => hs t (by simp only [List.mem_append, List.mem_cons] at ht ⊢; rcases ht with h | h <;> simp [h])
        rcases ih (x :: q) x.frm x.frm (by simp only [List.length_cons]; omega) hsub hcirc with ⟨q2, h1, h2, h3, h4⟩ | h
        · refine .inr ⟨q2, ⟨?_, h1, ⟨_, h2⟩, by omega⟩, h3⟩
          rintro rfl
          simp only [sumT] at h4
          simp only [sumT] at hneg
          omega
        · exact .inr h
      · have hch : chainT (p1 ++ y :: r) a b := chainT_app.2 ⟨x.frm, k1, by rw [hxy]; exact k3.2⟩
        have hsub : ∀ t ∈ p1 ++ y :: r, t ∈ l := fun t ht => hs t (by simp only [List.mem_append, List.mem_cons] at ht ⊢; rcases ht with h | h | h <;> simp [h])
        rcases ih (p1 ++ y :: r) a b (by simp only [List.length_append, List.length_cons]; omega) hsub hch with ⟨q2, h1, h2, h3, h4⟩ | h
        · refine .inl ⟨q2, h1, h2, h3, Int.le_trans h4 ?_⟩
          simp only [sumT_app, sumT] at hneg ⊢
          omega
        · exact .inr h
structure NetOk (l : List Tie) (n : Int) : Prop where
  pos : 0 < n
  le : n ≤ 41
  rng : ∀ t ∈ l, 0 ≤ t.frm ∧ t.frm < n ∧ 0 ≤ t.too ∧ t.too < n ∧ -16777216 ≤ t.most ∧ t.most ≤ 16777216
theorem filter_two {α : Type} (p : α → Bool) : ∀ l : List α, l.length = (l.filter p).length + (l.filter (fun x => !p x)).length
  | [] => rfl
  | x :: l => by
    have ih := filter_two p l
    rw [List.filter_cons, List.filter_cons]
    cases p x <;> simp <;> omega
theorem nodup_len : ∀ (k : Nat) (l : List Int), l.Nodup → (∀ x ∈ l, 0 ≤ x ∧ x < k) → l.length ≤ k
  | 0, l, _, h => by
    cases l with
    | nil => simp
    | cons x l => have := h x (by simp); omega
  | k + 1, l, hd, h => by
    have h1 : (l.filter (fun x => x != (k : Int))).length ≤ k := nodup_len k _ (hd.filter _) (fun x hx => by
      obtain ⟨h1, h2⟩ := List.mem_filter.1 hx
      have := h x h1
      simp only [bne_iff_ne, ne_eq] at h2
      omega)
    have h2 : l.length ≤ (l.filter (fun x => x != (k : Int))).length + 1 := by
      have e := filter_two (fun x : Int => x != (k : Int)) l
      have hc : (l.filter (fun x => !(x != (k : Int)))).length ≤ 1 := by
        have hn := hd.filter (fun x => !(x != (k : Int)))
        match hq : l.filter (fun x => !(x != (k : Int))) with
        | [] => simp
        | [x] => simp
        | x :: y :: r =>
          rw [hq] at hn
          have a1 : x ∈ l.filter (fun x => !(x != (k : Int))) := by rw [hq]; simp
          have a2 : y ∈ l.filter (fun x => !(x != (k : Int))) := by rw [hq]; simp
          have b1 := (List.mem_filter.1 a1).2
          have b2 := (List.mem_filter.1 a2).2
          simp only [bne, Bool.not_not, beq_iff_eq] at b1 b2
          subst b1
          simp [b2] at hn
      omega
    omega
theorem sum_bounds {l : List Tie} {n : Int} (ok : NetOk l n) : ∀ {p : List Tie}, (∀ t ∈ p, t ∈ l) → -16777216 * (p.length : Int) ≤ sumT p ∧ sumT p ≤ 16777216 * (p.length : Int)
  | [], _ => by simp [sumT]
  | t :: p, hs => by
    have h1 := ok.rng t (hs t (by simp))
    have h2 := sum_bounds ok (p := p) fun u hu => hs u (by simp [hu])
    simp only [sumT, List.length_cons]
    omega
theorem simple_len {l : List Tie} {n : Int} (ok : NetOk l n) {p : List Tie} (hs : ∀ t ∈ p, t ∈ l) (hd : (p.map (·.frm)).Nodup) : p.length ≤ 41 := by
  have h1 := nodup_len 41 (p.map (·.frm)) hd (fun x hx => by
    obtain ⟨t, ht, rfl⟩ := List.mem_map.1 hx
    have h1 := ok.rng t (hs t ht)
    have h2 := ok.le
    show 0 ≤ t.frm ∧ t.frm < ((41 : Nat) : Int)
    omega)
  simpa using h1
theorem simple_sum {l : List Tie} {n : Int} (ok : NetOk l n) {p : List Tie} (hs : ∀ t ∈ p, t ∈ l) (hd : (p.map (·.frm)).Nodup) : -687865856 ≤ sumT p ∧ sumT p ≤ 687865856 := by
  have h1 := simple_len ok hs hd
  have h2 := sum_bounds ok hs
  omega
def farN : Int := 1099511627776
def Up (l : List Tie) (m : Int) (D : Int → Int → Int) (i j : Int) : Prop :=
  ∀ p : List Tie, (∀ t ∈ p, t ∈ l) → chainT p i j → (p.map (·.frm)).Nodup → (∀ x ∈ (p.map (·.frm)).tail, x < m) → D i j ≤ sumT p
def updT (D : Int → Int → Int) (i j v : Int) : Int → Int → Int := fun x y => if x = i ∧ y = j then v else D x y
structure TabR (l : List Tie) (D : Int → Int → Int) : Prop where
  rng : ∀ i j, -farN ≤ D i j ∧ D i j ≤ farN
  low : ∀ h, Keeps l h → ∀ i j, D i j = farN ∨ h j - h i ≤ D i j
structure TabAt (l : List Tie) (n m i j : Int) (D : Int → Int → Int) : Prop extends TabR l D where
  old : ∀ x y, 0 ≤ x → x < n → 0 ≤ y → y < n → Up l m D x y
  new : ∀ x y, 0 ≤ x → x < n → 0 ≤ y → y < n → (x < i ∨ x = i ∧ y < j) → Up l (m + 1) D x y
structure TabOk (l : List Tie) (n : Int) (D : Int → Int → Int) : Prop extends TabR l D where
  up : ∀ x y, 0 ≤ x → x < n → 0 ≤ y → y < n → ∀ p : List Tie, (∀ t ∈ p, t ∈ l) → chainT p x y → (p.map (·.frm)).Nodup → D x y ≤ sumT p
def byT (l : List Tie) (b : Int → Int) (v : Int) : Option Tie := if 0 ≤ b v then l[(b v).toNat]? else none
def back (l : List Tie) (b : Int → Int) : Nat → Int → Int
  | 0, v => v
  | k + 1, v => match byT l b v with | some t => back l b k t.frm | none => v
def backOk (l : List Tie) (b : Int → Int) : Nat → Int → Prop
  | 0, _ => True
  | k + 1, v => ∃ t, byT l b v = some t ∧ backOk l b k t.frm
def backSum (l : List Tie) (b : Int → Int) : Nat → Int → Int
  | 0, _ => 0
  | k + 1, v => match byT l b v with | some t => t.most + backSum l b k t.frm | none => 0
theorem back_add (l : List Tie) (b : Int → Int) : ∀ (k m : Nat) (v : Int), backOk l b k v → back l b (k + m) v = back l b m (back l b k v)
  | 0, m, v, _ => by simp [back]
  | k + 1, m, v, h => by
    obtain ⟨t, ht, h⟩ := h
    rw [show k + 1 + m = (k + m) + 1 by omega]
    simp only [back, ht]
    exact back_add l b k m t.frm h
theorem backOk_add (l : List Tie) (b : Int → Int) : ∀ (k m : Nat) (v : Int), backOk l b (k + m) v ↔ backOk l b k v ∧ backOk l b m (back l b k v)
  | 0, m, v => by simp [back, backOk]
  | k + 1, m, v => by
    rw [show k + 1 + m = (k + m) + 1 by omega]
    simp only [backOk, back]
    constructor
    · rintro ⟨t, ht, h⟩
      rw [ht]
      exact ⟨⟨t, rfl, ((backOk_add l b k m t.frm).1 h).1⟩, ((backOk_add l b k m t.frm).1 h).2⟩
    · rintro ⟨⟨t, ht, h1⟩, h2⟩
      rw [ht] at h2
      exact ⟨t, ht, (backOk_add l b k m t.frm).2 ⟨h1, h2⟩⟩
theorem backSum_add (l : List Tie) (b : Int → Int) : ∀ (k m : Nat) (v : Int), backOk l b k v → backSum l b (k + m) v = backSum l b k v + backSum l b m (back l b k v)
  | 0, m, v, _ => by simp [back, backSum]
  | k + 1, m, v, h => by
    obtain ⟨t, ht, h⟩ := h
    rw [show k + 1 + m = (k + m) + 1 by omega]
    simp only [back, backSum, ht]
    rw [backSum_add l b k m t.frm h]
    omega
structure Spr (l : List Tie) (n frm : Int) (N : Int) (most by_ rd : Int → Int) : Prop where
  fresh : ∀ v, byT l by_ v = none → by_ v = -1 ∧ rd v = -1 ∧ (v = frm ∧ most v = 0 ∨ v ≠ frm ∧ most v = farN)
  put : ∀ v t, byT l by_ v = some t → t.too = v ∧ most t.frm < farN ∧ most v < farN ∧ most t.frm + t.most ≤ most v ∧ 0 ≤ rd v ∧ rd v ≤ rd t.frm + 1
  size : ∀ v, most v = farN ∨ (-(16777216 * N) ≤ most v ∧ most v ≤ 16777216 * N)
  low : ∀ h, Keeps l h → ∀ v, most v = farN ∨ h v - h frm ≤ most v
  circ : ∀ (k : Nat) (v : Int), 0 < k → backOk l by_ k v → back l by_ k v = v → backSum l by_ k v < 0
def Late (l : List Tie) (r : Int) (i : Nat) (most rd : Int → Int) : Prop :=
  ∀ (j : Nat) t, l[j]? = some t → most t.frm < farN → most t.frm + t.most < most t.too → (if j < i then r else r - 1) ≤ rd t.frm
theorem back_falls {l : List Tie} {by_ most : Int → Int} (hs : ∀ v t, byT l by_ v = some t → most t.frm + t.most ≤ most v) : ∀ (k : Nat) (v : Int), backOk l by_ k v → most (back l by_ k v) + backSum l by_ k v ≤ most v
  | 0, v, _ => by simp [back, backSum]
  | k + 1, v, h => by
    obtain ⟨t, ht, h⟩ := h
    have h1 := hs v t ht
    have h2 := back_falls hs k t.frm h
    simp only [back, backSum, ht]
    omega
theorem back_falls_lt {l : List Tie} {by_ most : Int → Int} (hs : ∀ v t, byT l by_ v = some t → most t.frm + t.most ≤ most v) {z : Int} (hz : ∀ t, byT l by_ z = some t → most t.frm + t.most < most z) :
    ∀ (k : Nat) (v : Int), backOk l by_ k v → (∃ i, i < k ∧ back l by_ i v = z) → most (back l by_ k v) + backSum l by_ k v < most v
  | 0, v, _, ⟨i, hi, _⟩ => by omega
  | k + 1, v, h, ⟨i, hi, e⟩ => by
    obtain ⟨t, ht, h⟩ := h
    have h1 := hs v t ht
    simp only [back, backSum, ht]
    cases i with
    | zero =>
      obtain rfl : v = z := e
      have h2 := hz t ht
      have h3 := back_falls hs k t.frm h
      omega
    | succ i =>
      simp only [back, ht] at e
      have h3 := back_falls_lt hs hz k t.frm h ⟨i, by omega, e⟩
      omega
theorem back_same {l : List Tie} {b b' : Int → Int} {z : Int} (hb : ∀ v, v ≠ z → b' v = b v) : ∀ (k : Nat) (v : Int), (∀ i, i < k → back l b' i v ≠ z) → backOk l b' k v →
    backOk l b k v ∧ back l b k v = back l b' k v ∧ backSum l b k v = backSum l b' k v
  | 0, v, _, _ => ⟨trivial, rfl, rfl⟩
  | k + 1, v, hn, h => by
    obtain ⟨t, ht, h⟩ := h
    have h0 : v ≠ z := hn 0 (by omega)
    have e : byT l b v = byT l b' v := by unfold byT; rw [hb v h0]
    obtain ⟨a1, a2, a3⟩ := back_same hb k t.frm (fun i hi => by
      have := hn (i + 1) (by omega)
      simpa only [back, ht] using this) h
    refine ⟨⟨t, by rw [e]; exact ht, a1⟩, ?_, ?_⟩
    · simp only [back, e, ht]; exact a2
    · simp only [backSum, e, ht, a3]
def setF (f : Int → Int) (z v : Int) : Int → Int := fun x => if x = z then v else f x
theorem setF_at (f : Int → Int) (z v : Int) : setF f z v z = v := if_pos rfl
theorem setF_ne (f : Int → Int) {z x : Int} (v : Int) (h : x ≠ z) : setF f z v x = f x := if_neg h
structure SprAt (l : List Tie) (n frm N r : Int) (i : Nat) (most by_ rd : Int → Int) : Prop extends Spr l n frm N most by_ rd where
  late : Late l r i most rd
  max : ∀ v, rd v ≤ r
  begun : byT l by_ frm ≠ none → most frm < 0
theorem spr_start (l : List Tie) (n frm : Int) : SprAt l n frm 0 0 0 (setF (fun _ => farN) frm 0) (fun _ => -1) (fun _ => -1) := by
  have hb : ∀ v, byT l (fun _ => -1) v = none := fun v => by unfold byT; exact if_neg (by show ¬ (0 : Int) ≤ -1; decide)
  refine ⟨⟨fun v _ => ⟨rfl, rfl, ?_⟩, fun v t h => ?_, fun v => ?_, fun h hk v => ?_, fun k v hk h _ => ?_⟩, fun j t _ _ _ => ?_, fun v => by omega, fun h => absurd (hb frm) h⟩
  · by_cases e : v = frm
    · subst e; exact .inl ⟨rfl, setF_at _ _ _⟩
    · exact .inr ⟨e, setF_ne _ _ e⟩
  · rw [hb v] at h; cases h
  · by_cases e : v = frm
    · subst e; rw [setF_at]; exact .inr (by omega)
    · rw [setF_ne _ _ e]; exact .inl rfl
  · by_cases e : v = frm
    · subst e; rw [setF_at]; exact .inr (by omega)
    · rw [setF_ne _ _ e]; exact .inl rfl
  · cases k with
    | zero => omega
    | succ k => obtain ⟨t, ht, _⟩ := h; rw [hb v] at ht; cases ht
  · split <;> omega
theorem spr_pass {l : List Tie} {n frm N r : Int} {i : Nat} {most by_ rd : Int → Int} (h : SprAt l n frm N r i most by_ rd) {t : Tie} (ht : l[i]? = some t) (hk : most t.frm = farN ∨ most t.too ≤ most t.frm + t.most) :
    SprAt l n frm N r (i + 1) most by_ rd := by
  refine ⟨h.toSpr, fun j s hj hf hv => ?_, h.max, h.begun⟩
  by_cases e : j = i
  · subst e; rw [ht] at hj; cases hj; omega
  · have := h.late j s hj hf hv
    split at this
    · rw [if_pos (by omega)]; exact this
    · rw [if_neg (by omega)]; exact this
theorem spr_round {l : List Tie} {n frm N r : Int} {most by_ rd : Int → Int} (h : SprAt l n frm N r l.length most by_ rd) : SprAt l n frm N (r + 1) 0 most by_ rd := by
  refine ⟨h.toSpr, fun j s hj hf hv => ?_, fun v => by have := h.max v; omega, h.begun⟩
  have := h.late j s hj hf hv
  rw [if_pos (List.getElem?_eq_some_iff.1 hj).1] at this
  rw [if_neg (by omega)]
  omega
theorem spr_size {l : List Tie} {n frm N : Int} {most by_ rd : Int → Int} (h : Spr l n frm N most by_ rd) {v : Int} (hv : most v < farN) : -(16777216 * N) ≤ most v ∧ most v ≤ 16777216 * N := by
  rcases h.size v with e | e
  · omega
  · exact e
theorem spr_set {l : List Tie} {n frm N r : Int} {i : Nat} {most by_ rd : Int → Int} (ok : NetOk l n) (hN : 0 ≤ N ∧ N < 65000) (hr : 0 ≤ r) (h : SprAt l n frm N r i most by_ rd) {t : Tie} (ht : l[i]? = some t)
    (hf : most t.frm < farN) (hv : most t.frm + t.most < most t.too) :
    SprAt l n frm (N + 1) r (i + 1) (setF most t.too (most t.frm + t.most)) (setF by_ t.too i) (setF rd t.too r) := by
  have htl := List.mem_of_getElem? ht
  have hb := ok.rng t htl
  have hsz := spr_size h.toSpr hf
  have hlate : r - 1 ≤ rd t.frm := by
    have := h.late i t ht hf hv
    rw [if_neg (by omega)] at this
    exact this
  have bz : byT l (setF by_ t.too i) t.too = some t := by
    unfold byT
    rw [setF_at, if_pos (by omega)]
    simpa using ht
  have bo : ∀ v, v ≠ t.too → byT l (setF by_ t.too i) v = byT l by_ v := fun v e => by unfold byT; rw [setF_ne _ _ e]
  have hle : ∀ v, setF most t.too (most t.frm + t.most) v ≤ most v := fun v => by
    by_cases e : v = t.too
    · subst e; rw [setF_at]; omega
    · rw [setF_ne _ _ e]; exact Int.le_refl _
  have hold : ∀ v s, byT l (setF by_ t.too i) v = some s → most s.frm + s.most ≤ most v := fun v s hs => by
    by_cases e : v = t.too
    · subst e; rw [bz] at hs; cases hs; omega
    · rw [bo v e] at hs; exact (h.put v s hs).2.2.2.1
  refine ⟨⟨fun v hn => ?_, fun v s hs => ?_, fun v => ?_, fun g hg v => ?_, fun k v hk hok hbk => ?_⟩, fun j s hj hsf hsv => ?_, fun v => ?_, fun hbn => ?_⟩
  · have e : v ≠ t.too := by rintro rfl; rw [bz] at hn; cases hn
    rw [bo v e] at hn
    rw [setF_ne _ _ e, setF_ne _ _ e, setF_ne _ _ e]
    exact h.fresh v hn
  · by_cases e : v = t.too
    · subst e
      rw [bz] at hs; cases hs
      rw [setF_at, setF_at]
      refine ⟨rfl, Int.lt_of_le_of_lt (hle _) hf, by unfold farN at *; omega, ?_, hr, ?_⟩
      · have := hle t.frm; omega
      · by_cases e2 : t.frm = t.too
        · rw [e2, setF_at]; omega
        · rw [setF_ne _ _ e2]; omega
    · rw [bo v e] at hs
      obtain ⟨a1, a2, a3, a4, a5, a6⟩ := h.put v s hs
      rw [setF_ne _ _ e, setF_ne _ _ e]
      refine ⟨a1, Int.lt_of_le_of_lt (hle _) a2, a3, ?_, a5, ?_⟩
      · have := hle s.frm; omega
      · by_cases e2 : s.frm = t.too
        · rw [e2, setF_at]; have := h.max v; omega
        · rw [setF_ne _ _ e2]; exact a6
  · by_cases e : v = t.too
    · subst e; rw [setF_at]; exact .inr (by omega)
    · rw [setF_ne _ _ e]
      rcases h.size v with e2 | e2
      · exact .inl e2
      · exact .inr (by omega)
  · by_cases e : v = t.too
    · subst e
      rw [setF_at]
      have h1 := hg t htl
      have h2 := h.low g hg t.frm
      exact .inr (by omega)
    · rw [setF_ne _ _ e]; exact h.low g hg v
  · by_cases hz : ∃ i', i' < k ∧ back l (setF by_ t.too i) i' v = t.too
    · have := back_falls_lt (most := most) hold (z := t.too) (fun s hs => by rw [bz] at hs; cases hs; exact hv) k v hok hz
      rw [hbk] at this
      omega
    · obtain ⟨a1, a2, a3⟩ := back_same (b := by_) (b' := setF by_ t.too i) (z := t.too) (fun v e => setF_ne _ _ e) k v (fun i' hi' e => hz ⟨i', hi', e⟩) hok
      rw [← a3]
      exact h.circ k v hk a1 (a2.trans hbk)
  · by_cases e : s.frm = t.too
    · rw [e, setF_at]; split <;> omega
    · rw [setF_ne _ _ e] at hsf hsv ⊢
      have hv2 : most s.frm + s.most < most s.too := Int.lt_of_lt_of_le hsv (hle _)
      by_cases ej : j = i
      · subst ej
        rw [ht] at hj; cases hj
        rw [setF_at] at hsv
        omega
      · have := h.late j s hj hsf hv2
        split at this
        · rw [if_pos (by omega)]; exact this
        · rw [if_neg (by omega)]; exact this
  · by_cases e : v = t.too
    · subst e; rw [setF_at]; exact Int.le_refl _
    · rw [setF_ne _ _ e]; exact h.max v
  · by_cases e : frm = t.too
    · rw [e, setF_at]
      cases hq : byT l by_ frm with
      | none =>
        obtain ⟨_, _, h3⟩ := h.fresh frm hq
        rw [← e] at hv
        rcases h3 with ⟨_, h3⟩ | ⟨h3, _⟩
        · omega
        · exact absurd rfl h3
      | some s =>
        have := h.begun (by rw [hq]; simp)
        rw [← e] at hv
        omega
    · rw [bo frm e] at hbn
      rw [setF_ne _ _ e]
      exact h.begun hbn
theorem pigeon (n : Nat) (f : Nat → Int) (h : ∀ i, i ≤ n → 0 ≤ f i ∧ f i < n) : ∃ i j, i < j ∧ j ≤ n ∧ f i = f j := by
  apply Classical.byContradiction
  intro hno
  have hd : ((List.range (n + 1)).map f).Nodup := by
    rw [List.Nodup, List.pairwise_map]
    refine List.Pairwise.imp_of_mem (fun {a b} ha hb hab e => hno ⟨a, b, hab, ?_, e⟩) List.pairwise_lt_range
    have := List.mem_range.1 hb
    omega
  have := nodup_len n _ hd (fun x hx => by
    obtain ⟨i, hi, rfl⟩ := List.mem_map.1 hx
    exact h i (by have := List.mem_range.1 hi; omega))
  simp at this
  omega
theorem backOk_le {l : List Tie} {b : Int → Int} {k m : Nat} {v : Int} (h : backOk l b m v) (hk : k ≤ m) : backOk l b k v := by
  rw [show m = k + (m - k) by omega, backOk_add] at h
  exact h.1
theorem backOk_period {l : List Tie} {b : Int → Int} {p : Nat} {v : Int} (hp : 0 < p) (h : backOk l b p v) (e : back l b p v = v) : ∀ m, backOk l b m v := by
  intro m
  induction m using Nat.strongRecOn with
  | _ m ih =>
    by_cases hm : m ≤ p
    · exact backOk_le h hm
    · rw [show m = p + (m - p) by omega, backOk_add, e]
      exact ⟨h, ih (m - p) (by omega)⟩
theorem back_rng {l : List Tie} {n : Int} (ok : NetOk l n) {b : Int → Int} : ∀ (k : Nat) (v : Int), 0 ≤ v ∧ v < n → 0 ≤ back l b k v ∧ back l b k v < n
  | 0, v, h => h
  | k + 1, v, h => by
    unfold back
    split
    · rename_i t ht
      unfold byT at ht
      split at ht
      · have := ok.rng t (List.mem_of_getElem? ht)
        exact back_rng ok k t.frm ⟨this.1, this.2.1⟩
      · cases ht
    · exact h
theorem spr_loose {l : List Tie} {n frm N : Int} {most by_ rd : Int → Int} (ok : NetOk l n) (h : Spr l n frm N most by_ rd) {v : Int} (hv : 0 ≤ v ∧ v < n) (hr : n - 1 ≤ rd v) :
    backOk l by_ n.toNat v ∧ ∃ p, 0 < p ∧ p ≤ n.toNat ∧ backOk l by_ p (back l by_ n.toNat v) ∧ back l by_ p (back l by_ n.toNat v) = back l by_ n.toNat v ∧ backSum l by_ p (back l by_ n.toNat v) < 0 := by
  have key : ∀ (k : Nat) (v : Int), (k : Int) - 1 ≤ rd v → backOk l by_ k v := by
    intro k
    induction k with
    | zero => intro v _; trivial
    | succ k ih =>
      intro v hk
      cases hq : byT l by_ v with
      | none => have := (h.fresh v hq).2.1; omega
      | some t =>
        have := (h.put v t hq).2.2.2.2
        exact ⟨t, hq, ih t.frm (by omega)⟩
  have hok := key n.toNat v (by have := ok.pos; omega)
  refine ⟨hok, ?_⟩
  obtain ⟨i, j, hij, hj, e⟩ := pigeon n.toNat (fun i => back l by_ i v) (fun i _ => by
    have := back_rng ok (b := by_) i v hv
    show 0 ≤ back l by_ i v ∧ back l by_ i v < (n.toNat : Int)
    omega)
  have o1 : backOk l by_ i v := backOk_le hok (by omega)
  have o2 : backOk l by_ (j - i) (back l by_ i v) := by
    have := backOk_le hok hj
    rw [show j = i + (j - i) by omega, backOk_add] at this
    exact this.2
  have e2 : back l by_ (j - i) (back l by_ i v) = back l by_ i v := by
    rw [← back_add l by_ i (j - i) v o1, show i + (j - i) = j by omega]
    exact e.symm
  have all := backOk_period (by omega) o2 e2
  have e3 : back l by_ n.toNat v = back l by_ (n.toNat - i) (back l by_ i v) := by
    rw [← back_add l by_ i _ v o1, show i + (n.toNat - i) = n.toNat by omega]
  have o3 : backOk l by_ (j - i) (back l by_ n.toNat v) := by
    rw [e3]
    have := all (n.toNat - i + (j - i))
    rw [backOk_add] at this
    exact this.2
  have e4 : back l by_ (j - i) (back l by_ n.toNat v) = back l by_ n.toNat v := by
    rw [e3, ← back_add l by_ _ _ _ (all _), Nat.add_comm, back_add l by_ _ _ _ (all _), e2]
  exact ⟨j - i, by omega, by omega, o3, e4, h.circ _ _ (by omega) o3 e4⟩
def Reaches (l : List Tie) (n frm : Int) : Prop := ∀ v, 0 ≤ v → v < n → ∃ p, (∀ t ∈ p, t ∈ l) ∧ chainT p frm v
structure Settled (l : List Tie) (n frm : Int) (most by_ : Int → Int) : Prop where
  zero : most frm = 0
  keeps : Keeps l most
  size : ∀ v, 0 ≤ v → v < n → -687865856 ≤ most v ∧ most v ≤ 687865856
  path : ∀ v, 0 ≤ v → v < n → ∃ k : Nat, (k : Int) < n ∧ backOk l by_ k v ∧ back l by_ k v = frm ∧ backSum l by_ k v = most v ∧ ∀ i, i < k → back l by_ i v ≠ frm
  byAt : ∀ v t, byT l by_ v = some t → t.too = v
theorem spr_settled {l : List Tie} {n frm N : Int} {r : Int} {i : Nat} {most by_ rd : Int → Int} (ok : NetOk l n) (hN : 0 ≤ N ∧ N < 65000) (h : SprAt l n frm N r i most by_ rd) (hfr : 0 ≤ frm ∧ frm < n) (hre : Reaches l n frm)
    (hk : ∀ t ∈ l, most t.frm < farN → most t.too ≤ most t.frm + t.most) : Settled l n frm most by_ := by
  have hr0 : most frm < farN := by
    cases hq : byT l by_ frm with
    | none =>
      rcases (h.fresh frm hq).2.2 with ⟨_, e⟩ | ⟨e, _⟩
      · unfold farN; omega
      · exact absurd rfl e
    | some t => exact (h.put frm t hq).2.2.1
  have hchain : ∀ (p : List Tie) (a b : Int), (∀ t ∈ p, t ∈ l) → chainT p a b → most a < farN → most b < farN := by
    intro p
    induction p with
    | nil => intro a b _ hc ha; obtain rfl : a = b := hc; exact ha
    | cons t p ih =>
      intro a b hs hc ha
      obtain ⟨rfl, hc⟩ := hc
      have h1 := hk t (hs t (by simp)) ha
      have h2 := spr_size h.toSpr ha
      have h3 := ok.rng t (hs t (by simp))
      exact ih t.too b (fun u hu => hs u (by simp [hu])) hc (by unfold farN at *; omega)
  have hall : ∀ v, 0 ≤ v → v < n → most v < farN := fun v h0 h1 => by
    obtain ⟨p, hs, hc⟩ := hre v h0 h1
    exact hchain p frm v hs hc hr0
  have hkeeps : Keeps l most := fun t ht => by
    have h3 := ok.rng t ht
    have := hk t ht (hall t.frm h3.1 h3.2.1)
    omega
  have hnone : byT l by_ frm = none := by
    cases hq : byT l by_ frm with
    | none => rfl
    | some t =>
      have h1 := h.begun (by rw [hq]; simp)
      have h2 := h.low most hkeeps frm
      omega
  have hzero : most frm = 0 := by
    rcases (h.fresh frm hnone).2.2 with ⟨_, e⟩ | ⟨e, _⟩
    · exact e
    · exact absurd rfl e
  have tight : ∀ v t, byT l by_ v = some t → most t.frm + t.most = most v := fun v t ht => by
    obtain ⟨a1, a2, a3, a4, _⟩ := h.put v t ht
    have htl : t ∈ l := by
      unfold byT at ht
      split at ht
      · exact List.mem_of_getElem? ht
      · cases ht
    have := hk t htl a2
    rw [a1] at this
    omega
  have tsum : ∀ (k : Nat) (v : Int), backOk l by_ k v → most (back l by_ k v) + backSum l by_ k v = most v := by
    intro k
    induction k with
    | zero => intro v _; simp [back, backSum]
    | succ k ih =>
      intro v hb
      obtain ⟨t, ht, hb⟩ := hb
      have h1 := tight v t ht
      have h2 := ih t.frm hb
      simp only [back, backSum, ht]
      omega
  have hpath : ∀ v, 0 ≤ v → v < n → ∃ k : Nat, (k : Int) < n ∧ backOk l by_ k v ∧ back l by_ k v = frm := fun v h0 h1 => by
    have hno : ¬ backOk l by_ n.toNat v := by
      intro hb
      obtain ⟨i, j, hij, hj, e⟩ := pigeon n.toNat (fun i => back l by_ i v) (fun i _ => by
        have := back_rng ok (b := by_) i v ⟨h0, h1⟩
        show 0 ≤ back l by_ i v ∧ back l by_ i v < (n.toNat : Int)
        omega)
      have o1 : backOk l by_ i v := backOk_le hb (by omega)
      have o2 : backOk l by_ (j - i) (back l by_ i v) := by
        have := backOk_le hb hj
        rw [show j = i + (j - i) by omega, backOk_add] at this
        exact this.2
      have e2 : back l by_ (j - i) (back l by_ i v) = back l by_ i v := by
        rw [← back_add l by_ i (j - i) v o1, show i + (j - i) = j by omega]
        exact e.symm
      have c1 := h.circ _ _ (by omega) o2 e2
      have c2 := tsum _ _ o2
      rw [e2] at c2
      omega
    have key : ∀ m : Nat, ¬ backOk l by_ m v → ∃ k : Nat, k < m ∧ backOk l by_ k v ∧ byT l by_ (back l by_ k v) = none := by
      intro m
      induction m with
      | zero => intro hb; exact absurd trivial hb
      | succ m ih =>
        intro hb
        by_cases hm : backOk l by_ m v
        · refine ⟨m, by omega, hm, ?_⟩
          cases hq : byT l by_ (back l by_ m v) with
          | none => rfl
          | some t => exact absurd ((backOk_add l by_ m 1 v).2 ⟨hm, ⟨t, hq, trivial⟩⟩) hb
        · obtain ⟨k, hk1, hk2, hk3⟩ := ih hm
          exact ⟨k, by omega, hk2, hk3⟩
    obtain ⟨k, hk1, hk2, hk3⟩ := key n.toNat hno
    refine ⟨k, by have := ok.pos; omega, hk2, ?_⟩
    have hrg := back_rng ok (b := by_) k v ⟨h0, h1⟩
    rcases (h.fresh _ hk3).2.2 with ⟨e, _⟩ | ⟨_, e⟩
    · exact e
    · have := hall _ hrg.1 hrg.2; omega
  refine ⟨hzero, hkeeps, fun v h0 h1 => ?_, fun v h0 h1 => ?_, fun v t ht => (h.put v t ht).1⟩
  · obtain ⟨p, hs, hc⟩ := hre v h0 h1
    obtain ⟨k, hk1, hk2, hk3⟩ := hpath v h0 h1
    have hs2 := tsum k v hk2
    rw [hk3, hzero] at hs2
    have hbs : ∀ (k : Nat) (v : Int), backOk l by_ k v → -(16777216 * (k : Int)) ≤ backSum l by_ k v ∧ backSum l by_ k v ≤ 16777216 * (k : Int) := by
      intro k
      induction k with
      | zero => intro v _; simp [backSum]
      | succ k ih =>
        intro v hb
        obtain ⟨t, ht, hb⟩ := hb
        have h1 := ih t.frm hb
        have htl : t ∈ l := by
          have ht' := ht
          unfold byT at ht'
          split at ht'
          · exact List.mem_of_getElem? ht'
          · cases ht'
        have h2 := ok.rng t htl
        simp only [backSum, ht]
        omega
    have h3 := hbs k v hk2
    have h4 := ok.le
    omega
  · obtain ⟨k, hk1, hk2, hk3⟩ := hpath v h0 h1
    refine ⟨k, hk1, hk2, hk3, by have := tsum k v hk2; rw [hk3, hzero] at this; omega, fun i hi e => ?_⟩
    have o := backOk_le hk2 (show i + 1 ≤ k by omega)
    rw [backOk_add] at o
    obtain ⟨t, ht, _⟩ := o.2
    rw [e, hnone] at ht
    cases ht
def pathT (l : List Tie) (b : Int → Int) : Nat → Int → List Tie
  | 0, _ => []
  | k + 1, v => match byT l b v with | some t => pathT l b k t.frm ++ [t] | none => []
def idxI (l : List Tie) (b : Int → Int) : Nat → Int → List Int
  | 0, _ => []
  | k + 1, v => match byT l b v with | some t => idxI l b k t.frm ++ [b v] | none => []
theorem byT_mem {l : List Tie} {b : Int → Int} {v : Int} {t : Tie} (h : byT l b v = some t) : t ∈ l := by
  unfold byT at h
  split at h
  · exact List.mem_of_getElem? h
  · cases h
theorem pathT_ok {l : List Tie} {b : Int → Int} (hb : ∀ v t, byT l b v = some t → t.too = v) : ∀ (k : Nat) (v : Int), backOk l b k v →
    chainT (pathT l b k v) (back l b k v) v ∧ sumT (pathT l b k v) = backSum l b k v ∧ (∀ t ∈ pathT l b k v, t ∈ l) ∧ (pathT l b k v).length = k
  | 0, v, _ => ⟨rfl, rfl, by simp [pathT], rfl⟩
  | k + 1, v, h => by
    obtain ⟨t, ht, h⟩ := h
    obtain ⟨a1, a2, a3, a4⟩ := pathT_ok hb k t.frm h
    simp only [pathT, back, backSum, ht]
    refine ⟨chainT_app.2 ⟨t.frm, a1, rfl, hb v t ht⟩, ?_, ?_, by simp [a4]⟩
    · rw [sumT_app, a2]; simp only [sumT]; omega
    · intro u hu
      rcases List.mem_append.1 hu with hu | hu
      · exact a3 u hu
      · rw [List.mem_singleton] at hu; subst hu; exact byT_mem ht
theorem idxI_len {l : List Tie} {b : Int → Int} : ∀ (k : Nat) (v : Int), backOk l b k v → (idxI l b k v).length = k
  | 0, _, _ => rfl
  | k + 1, v, h => by
    obtain ⟨t, ht, h⟩ := h
    simp only [idxI, ht, List.length_append, idxI_len k t.frm h, List.length_singleton]
theorem idxI_walk {l : List Tie} {b : Int → Int} (hb : ∀ v t, byT l b v = some t → t.too = v) : ∀ (k : Nat) (v s : Int), backOk l b k v →
    walkI l (idxI l b k v) (back l b k v) s = some (v, s + backSum l b k v)
  | 0, v, s, _ => by simp [idxI, back, backSum, walkI]
  | k + 1, v, s, h => by
    obtain ⟨t, ht, h⟩ := h
    have e := idxI_walk hb k t.frm s h
    simp only [idxI, back, backSum, ht]
    rw [walkI_app l _ _ _ _ _ _ e, walkI]
    have e2 : tieAt l (b v) = some t := by
      unfold tieAt
      exact ht
    rw [e2]
    simp only [if_true, walkI]
    rw [hb v t ht]
    congr 2
    omega
theorem walk_chain {l : List Tie} : ∀ (ps : List Int) (a s a' s' : Int), walkI l ps a s = some (a', s') → ∃ p, (∀ t ∈ p, t ∈ l) ∧ chainT p a a' ∧ s' = s + sumT p ∧ p.length = ps.length
  | [], a, s, a', s', h => by
    simp only [walkI, Option.some.injEq, Prod.mk.injEq] at h
    obtain ⟨rfl, rfl⟩ := h
    exact ⟨[], by simp, rfl, by simp [sumT], rfl⟩
  | q :: ps, a, s, a', s', h => by
    simp only [walkI] at h
    split at h
    · rename_i t ht
      split at h
      · rename_i e
        obtain ⟨p, h1, h2, h3, h4⟩ := walk_chain ps _ _ _ _ h
        refine ⟨t :: p, ?_, ⟨e, h2⟩, by simp only [sumT]; omega, by simp [h4]⟩
        intro u hu
        rcases List.mem_cons.1 hu with rfl | hu
        · unfold tieAt at ht
          split at ht
          · exact List.mem_of_getElem? ht
          · cases ht
        · exact h1 u hu
      · cases h
    · cases h
theorem walk_circle {l : List Tie} {ps : List Int} {a s : Int} (h : walkI l ps a 0 = some (a, s)) (hs : s < 0) : ∃ c, Circle l c := by
  obtain ⟨p, h1, h2, h3, _⟩ := walk_chain ps a 0 a s h
  refine ⟨p, ?_, h1, ⟨a, h2⟩, by omega⟩
  rintro rfl
  simp only [sumT] at h3
  omega
structure Loose (l : List Tie) (n : Int) (by_ : Int → Int) (v : Int) : Prop where
  rng : 0 ≤ v ∧ v < n
  byAt : ∀ v t, byT l by_ v = some t → t.too = v
  ok : backOk l by_ n.toNat v
  turn : ∃ p, 0 < p ∧ p ≤ n.toNat ∧ backOk l by_ p (back l by_ n.toNat v) ∧ back l by_ p (back l by_ n.toNat v) = back l by_ n.toNat v ∧ backSum l by_ p (back l by_ n.toNat v) < 0
theorem loose_of {l : List Tie} {n frm N : Int} {most by_ rd : Int → Int} (ok : NetOk l n) (h : Spr l n frm N most by_ rd) {v : Int} (hv : 0 ≤ v ∧ v < n) (hr : n - 1 ≤ rd v) : Loose l n by_ v :=
  ⟨hv, fun v t ht => (h.put v t ht).1, (spr_loose ok h hv hr).1, (spr_loose ok h hv hr).2⟩
theorem Loose.circle {l : List Tie} {n : Int} {by_ : Int → Int} {v : Int} (h : Loose l n by_ v) : ∃ c, Circle l c := by
  obtain ⟨p, h0, h1, h2, h3, h4⟩ := h.turn
  obtain ⟨a1, a2, a3, a4⟩ := pathT_ok h.byAt p _ h2
  rw [h3] at a1
  refine ⟨_, ?_, a3, ⟨_, a1⟩, by omega⟩
  intro e
  rw [e] at a4
  simp at a4
  omega
end Go.Proofs.YtnedcclmfokdnaaGreat
namespace Go.Proofs.YtnedcclmfokdnaaGreat
open Go.RowKit
theorem inB_iff {n lo hi : Int} : inB n lo hi = true ↔ lo ≤ n ∧ n ≤ hi := by simp [inB]
theorem spanB_iff {lo hi m : Int} : spanB lo hi m = true ↔ 0 ≤ lo ∧ lo ≤ hi ∧ hi ≤ m := by simp [spanB, and_assoc]
theorem firstErr_all {k : Kl} : ∀ {l : List Nat}, firstErr k l = 0 → ∀ i ∈ l, errAt k i = 0
  | [], _, i, hi => by cases hi
  | a :: l, h, i, hi => by
    rw [firstErr] at h
    split at h
    · rename_i h0
      rcases List.mem_cons.1 hi with rfl | hi
      · exact h0
      · exact firstErr_all h i hi
    · rename_i h0; exact absurd h h0
structure Right (k : Kl) : Prop where
  room : inB k.room 0 16777216 = true
  per : inB k.per 1 65536 = true
  ls : k.ls.length ≤ 20
  ds : k.ds.length ≤ 20
  ws : k.ws.length ≤ 20
  ok : ∀ i, i < (allIds k).length → errAt k i = 0
theorem right_of_check {k : Kl} (h : checkI k = 0) : Right k := by
  unfold checkI at h
  split at h
  · omega
  · rename_i h1
    split at h
    · omega
    · rename_i h2
      have hr : inB k.room 0 16777216 = true := by
        rcases Bool.eq_false_or_eq_true (inB k.room 0 16777216) with e | e
        · exact e
        · exact absurd (.inl e) h1
      have hp : inB k.per 1 65536 = true := by
        rcases Bool.eq_false_or_eq_true (inB k.per 1 65536) with e | e
        · exact e
        · exact absurd (.inr e) h1
      exact ⟨hr, hp, by omega, by omega, by omega, fun i hi => firstErr_all h i (by simpa using hi)⟩
theorem Right.okAt {k : Kl} (h : Right k) {i : Nat} (hi : i < k.ls.length + k.ds.length + k.ws.length) : okAt k i = true := by
  have := h.ok i (by rw [allIds_len]; exact hi)
  unfold errAt at this
  split at this
  · omega
  · rename_i e; simpa using e
theorem Right.first {k : Kl} (h : Right k) {i : Nat} (hi : i < k.ls.length + k.ds.length + k.ws.length) : aheadB (allIds k) i = true := by
  have := h.ok i (by rw [allIds_len]; exact hi)
  unfold errAt at this
  split at this
  · omega
  · split at this
    · omega
    · rename_i e; simpa using e
theorem Right.load {k : Kl} (h : Right k) {i : Nat} {x : Rec} (hx : k.ls[i]? = some x) : recordB x.id x.hour x.lo x.hi (behind k.ls i) = true := by
  have hlt := (List.getElem?_eq_some_iff.1 hx).1
  rw [← okAt_load hlt hx]
  exact h.okAt (by omega)
theorem Right.draw {k : Kl} (h : Right k) {i : Nat} {x : Rec} (hx : k.ds[i]? = some x) : recordB x.id x.hour x.lo x.hi (behind k.ds i) = true := by
  have hlt := (List.getElem?_eq_some_iff.1 hx).1
  have e := okAt_draw (k := k) (j := k.ls.length + i) (x := x) (by omega) (by omega) (by rw [Nat.add_sub_cancel_left]; exact hx)
  rw [Nat.add_sub_cancel_left] at e
  rw [← e]
  exact h.okAt (by omega)
theorem Right.weigh {k : Kl} (h : Right k) {i : Nat} {x : Wg} (hx : k.ws[i]? = some x) : weighB k x = true := by
  have hlt := (List.getElem?_eq_some_iff.1 hx).1
  rw [← okAt_weigh (k := k) (j := k.ls.length + k.ds.length + i) (x := x) (by omega) (by omega) (by rw [show k.ls.length + k.ds.length + i - k.ls.length - k.ds.length = i by omega]; exact hx)]
  exact h.okAt (by omega)
theorem recordB_iff {id hour lo hi b : Int} : recordB id hour lo hi b = true ↔ (0 ≤ lo ∧ lo ≤ hi ∧ hi ≤ 1048576) ∧ (1 ≤ id ∧ id ≤ 1099511627776) ∧ max 0 b ≤ hour ∧ hour ≤ 16384 := by
  simp only [recordB, Bool.and_eq_true, spanB_iff, inB_iff, and_assoc]
theorem Right.small {k : Kl} (h : Right k) : Small k := by
  refine ⟨h.ls, h.ds, h.ws, inB_iff.1 h.room, fun i x hx => ?_, fun i x hx => ?_, fun i x hx => ?_⟩
  · have := recordB_iff.1 (h.load hx); omega
  · have := recordB_iff.1 (h.draw hx); omega
  · have := h.weigh hx
    simp only [weighB, Bool.and_eq_true] at this
    exact spanB_iff.1 this.1.1
theorem bothT_small {a b lo hi id : Int} (h : 0 ≤ lo ∧ lo ≤ hi ∧ hi ≤ 16777216) : ∀ t ∈ bothT a b lo hi id, -16777216 ≤ t.most ∧ t.most ≤ 16777216 := by
  intro t ht
  simp only [bothT, List.mem_cons, List.not_mem_nil, or_false] at ht
  rcases ht with rfl | rfl <;> simp only <;> omega
theorem Small.ties {k : Kl} (h : Small k) : TiesSmall (tiesL k) := by
  have key : ∀ t ∈ tiesL k, -16777216 ≤ t.most ∧ t.most ≤ 16777216 := by
    intro t ht
    simp only [tiesL, List.mem_append, List.mem_flatMap] at ht
    rcases ht with (((⟨i, _, ht⟩ | ⟨i, _, ht⟩) | ⟨i, _, ht⟩) | ⟨i, _, ht⟩) | ⟨i, _, ht⟩
    · unfold loadTies at ht
      split at ht
      · rename_i x hx; have := h.lb i x hx; exact bothT_small (by omega) t ht
      · cases ht
    · unfold drawTies at ht
      split at ht
      · rename_i x hx; have := h.db i x hx; exact bothT_small (by omega) t ht
      · cases ht
    · unfold wgTies at ht
      split at ht
      · rename_i x hx; exact bothT_small (h.wb i x hx) t ht
      · cases ht
    · unfold stockTies at ht
      split at ht
      · simp only [List.mem_singleton] at ht; subst ht; simp
      · cases ht
    · unfold roomTies at ht
      split at ht
      · simp only [List.mem_singleton] at ht; subst ht; have := h.room; simp only; omega
      · cases ht
  exact fun i t ht => key t (List.mem_of_getElem? ht)
end Go.Proofs.YtnedcclmfokdnaaGreat
namespace Go.Proofs.YtnedcclmfokdnaaGreat
open Go.RowKit
def marksN (k : Kl) : Int := 1 + k.ls.length + k.ds.length
theorem mem_both {t : Tie} {a b lo hi id : Int} (h : t ∈ bothT a b lo hi id) : (t.frm = a ∧ t.too = b ∧ t.most = hi) ∨ (t.frm = b ∧ t.too = a ∧ t.most = -lo) := by
  unfold bothT at h
  rcases List.mem_cons.1 h with rfl | h
  · exact .inl ⟨rfl, rfl, rfl⟩
  · rw [List.mem_singleton] at h; subst h; exact .inr ⟨rfl, rfl, rfl⟩
theorem mem_ties {k : Kl} {t : Tie} (h : t ∈ tiesL k) :
    (∃ (i : Nat) (x : Rec), k.ls[i]? = some x ∧ t ∈ bothT i (i + 1) x.lo x.hi x.id) ∨ (∃ (i : Nat) (x : Rec), k.ds[i]? = some x ∧ t ∈ bothT (markI k i) (markI k (i + 1)) x.lo x.hi x.id) ∨
    (∃ (i : Nat) (x : Wg), k.ws[i]? = some x ∧ t ∈ bothT (endsI k x).1 (endsI k x).2 x.lo x.hi x.id) ∨ (∃ (i : Nat) (x : Rec), k.ds[i]? = some x ∧ t = ⟨chargedI k x.hour, markI k (i + 1), 0, 0⟩) ∨
    (∃ (i : Nat) (x : Rec), k.ls[i]? = some x ∧ t = ⟨drawnI k (x.hour - 1), i + 1, k.room, 0⟩) := by
  unfold tiesL at h
  simp only [List.mem_append, List.mem_flatMap, List.mem_range] at h
  rcases h with (((⟨i, hi, h⟩ | ⟨i, hi, h⟩) | ⟨i, hi, h⟩) | ⟨i, hi, h⟩) | ⟨i, hi, h⟩
  · refine .inl ⟨i, k.ls[i], List.getElem?_eq_getElem hi, ?_⟩
    unfold loadTies at h; rw [List.getElem?_eq_getElem hi] at h; exact h
  · refine .inr (.inl ⟨i, k.ds[i], List.getElem?_eq_getElem hi, ?_⟩)
    unfold drawTies at h; rw [List.getElem?_eq_getElem hi] at h; exact h
  · refine .inr (.inr (.inl ⟨i, k.ws[i], List.getElem?_eq_getElem hi, ?_⟩))
    unfold wgTies at h; rw [List.getElem?_eq_getElem hi] at h; exact h
  · refine .inr (.inr (.inr (.inl ⟨i, k.ds[i], List.getElem?_eq_getElem hi, ?_⟩)))
    unfold stockTies at h; rw [List.getElem?_eq_getElem hi] at h; simpa using h
  · refine .inr (.inr (.inr (.inr ⟨i, k.ls[i], List.getElem?_eq_getElem hi, ?_⟩)))
    unfold roomTies at h; rw [List.getElem?_eq_getElem hi] at h; simpa using h
theorem mark_rng (k : Kl) {i : Int} (h0 : 0 ≤ i) (h1 : i ≤ k.ds.length) : 0 ≤ markI k i ∧ markI k i < marksN k := by
  unfold markI marksN
  split <;> omega
theorem charged_rng (k : Kl) (h : Int) : 0 ≤ chargedI k h ∧ chargedI k h < marksN k := by
  have := lastLe_le k.ls h k.ls.length
  unfold chargedI marksN
  omega
theorem drawn_rng (k : Kl) (h : Int) : 0 ≤ drawnI k h ∧ drawnI k h < marksN k := by
  have := lastLe_le k.ds h k.ds.length
  unfold drawnI
  exact mark_rng k (by omega) (by omega)
theorem weigh_rng {k : Kl} {x : Wg} (h : weighB k x = true) : (0 ≤ (endsI k x).1 ∧ (endsI k x).1 < marksN k) ∧ 0 ≤ (endsI k x).2 ∧ (endsI k x).2 < marksN k := by
  unfold weighB at h
  rw [Bool.and_eq_true] at h
  obtain ⟨_, h⟩ := h
  unfold endsI
  by_cases h1 : x.kind = 1
  · rw [if_pos h1] at h ⊢
    simp only [Bool.and_eq_true, decide_eq_true_eq] at h
    have a := place_range k.ls x.frm
    have b := place_range k.ls x.too
    unfold marksN
    refine ⟨⟨?_, ?_⟩, ?_, ?_⟩ <;> simp only <;> omega
  · rw [if_neg h1] at h ⊢
    by_cases h2 : x.kind = 2
    · rw [if_pos h2] at h ⊢
      simp only [Bool.and_eq_true, decide_eq_true_eq] at h
      have a := place_range k.ds x.frm
      have b := place_range k.ds x.too
      exact ⟨mark_rng k (by omega) (by omega), mark_rng k (by omega) (by omega)⟩
    · rw [if_neg h2]
      exact ⟨drawn_rng k _, charged_rng k _⟩
theorem net_ok {k : Kl} (h : Right k) : NetOk (tiesL k) (marksN k) := by
  have hs := h.small
  have h1 := hs.ls
  have h2 := hs.ds
  refine ⟨by unfold marksN; omega, by unfold marksN; omega, fun t ht => ?_⟩
  rcases mem_ties ht with ⟨i, x, hx, hm⟩ | ⟨i, x, hx, hm⟩ | ⟨i, x, hx, hm⟩ | ⟨i, x, hx, rfl⟩ | ⟨i, x, hx, rfl⟩
  · have hi := (List.getElem?_eq_some_iff.1 hx).1
    have hb := hs.lb i x hx
    unfold marksN
    rcases mem_both hm with ⟨a, b, c⟩ | ⟨a, b, c⟩ <;> rw [a, b, c] <;> omega
  · have hi := (List.getElem?_eq_some_iff.1 hx).1
    have hb := hs.db i x hx
    have m1 := mark_rng k (i := i) (by omega) (by omega)
    have m2 := mark_rng k (i := (i : Int) + 1) (by omega) (by omega)
    rcases mem_both hm with ⟨a, b, c⟩ | ⟨a, b, c⟩ <;> rw [a, b, c] <;> omega
  · have hb := hs.wb i x hx
    obtain ⟨m1, m2⟩ := weigh_rng (h.weigh hx)
    rcases mem_both hm with ⟨a, b, c⟩ | ⟨a, b, c⟩ <;> rw [a, b, c] <;> omega
  · have hi := (List.getElem?_eq_some_iff.1 hx).1
    have m1 := charged_rng k x.hour
    have m2 := mark_rng k (i := (i : Int) + 1) (by omega) (by omega)
    exact ⟨m1.1, m1.2, m2.1, m2.2, by show (-16777216 : Int) ≤ 0; omega, by show (0 : Int) ≤ 16777216; omega⟩
  · have hi := (List.getElem?_eq_some_iff.1 hx).1
    have m1 := drawn_rng k (x.hour - 1)
    have hr := hs.room
    exact ⟨m1.1, m1.2, by show (0 : Int) ≤ i + 1; omega, by show (i : Int) + 1 < marksN k; unfold marksN; omega, by show -16777216 ≤ k.room; omega, hr.2⟩
theorem tie_load {k : Kl} {i : Nat} {x : Rec} (hx : k.ls[i]? = some x) {t : Tie} (ht : t ∈ bothT i (i + 1) x.lo x.hi x.id) : t ∈ tiesL k := by
  unfold tiesL
  simp only [List.mem_append, List.mem_flatMap, List.mem_range]
  exact .inl (.inl (.inl (.inl ⟨i, (List.getElem?_eq_some_iff.1 hx).1, by unfold loadTies; rw [hx]; exact ht⟩)))
theorem tie_draw {k : Kl} {i : Nat} {x : Rec} (hx : k.ds[i]? = some x) {t : Tie} (ht : t ∈ bothT (markI k i) (markI k (i + 1)) x.lo x.hi x.id) : t ∈ tiesL k := by
  unfold tiesL
  simp only [List.mem_append, List.mem_flatMap, List.mem_range]
  exact .inl (.inl (.inl (.inr ⟨i, (List.getElem?_eq_some_iff.1 hx).1, by unfold drawTies; rw [hx]; exact ht⟩)))
def Joined (l : List Tie) (a b : Int) : Prop := (∃ p, (∀ t ∈ p, t ∈ l) ∧ chainT p a b) ∧ ∃ p, (∀ t ∈ p, t ∈ l) ∧ chainT p b a
theorem joined_self (l : List Tie) (a : Int) : Joined l a a := ⟨⟨[], by simp, rfl⟩, [], by simp, rfl⟩
theorem joined_trans {l : List Tie} {a b c : Int} (h1 : Joined l a b) (h2 : Joined l b c) : Joined l a c := by
  obtain ⟨⟨p, p1, p2⟩, q, q1, q2⟩ := h1
  obtain ⟨⟨r, r1, r2⟩, s, s1, s2⟩ := h2
  refine ⟨⟨p ++ r, fun t ht => ?_, chainT_app.2 ⟨b, p2, r2⟩⟩, s ++ q, fun t ht => ?_, chainT_app.2 ⟨b, s2, q2⟩⟩
  · rcases List.mem_append.1 ht with h | h
    · exact p1 t h
    · exact r1 t h
  · rcases List.mem_append.1 ht with h | h
    · exact s1 t h
    · exact q1 t h
theorem joined_both {l : List Tie} {a b lo hi id : Int} (h : ∀ t ∈ bothT a b lo hi id, t ∈ l) : Joined l a b :=
  ⟨⟨[⟨a, b, hi, id⟩], fun t ht => h t (by rw [List.mem_singleton] at ht; subst ht; simp [bothT]), rfl, rfl⟩, [⟨b, a, -lo, id⟩], fun t ht => h t (by rw [List.mem_singleton] at ht; subst ht; simp [bothT]), rfl, rfl⟩
theorem joined_load (k : Kl) : ∀ i : Nat, i ≤ k.ls.length → Joined (tiesL k) 0 i
  | 0, _ => joined_self _ _
  | i + 1, h => by
    have hx := List.getElem?_eq_getElem (l := k.ls) (i := i) (by omega)
    exact joined_trans (joined_load k i (by omega)) (joined_both fun t ht => tie_load hx (by simpa using ht))
theorem joined_draw (k : Kl) : ∀ i : Nat, i ≤ k.ds.length → Joined (tiesL k) 0 (markI k i)
  | 0, _ => by rw [show markI k ((0 : Nat) : Int) = 0 from if_pos rfl]; exact joined_self _ _
  | i + 1, h => by
    have hx := List.getElem?_eq_getElem (l := k.ds) (i := i) (by omega)
    exact joined_trans (joined_draw k i (by omega)) (joined_both fun t ht => tie_draw hx (by simpa using ht))
theorem joined_mark (k : Kl) {v : Int} (h0 : 0 ≤ v) (h1 : v < marksN k) : Joined (tiesL k) 0 v := by
  unfold marksN at h1
  by_cases h : v ≤ k.ls.length
  · have := joined_load k v.toNat (by omega)
    rwa [show ((v.toNat : Nat) : Int) = v by omega] at this
  · have := joined_draw k (v - k.ls.length).toNat (by omega)
    rwa [show markI k (((v - k.ls.length).toNat : Nat) : Int) = v by unfold markI; rw [if_neg (by omega)]; omega] at this
theorem net_reaches (k : Kl) {frm : Int} (h0 : 0 ≤ frm) (h1 : frm < marksN k) : Reaches (tiesL k) (marksN k) frm := fun v a b => by
  obtain ⟨_, p, p1, p2⟩ := joined_mark k h0 h1
  obtain ⟨⟨q, q1, q2⟩, _⟩ := joined_mark k a b
  refine ⟨p ++ q, fun t ht => ?_, chainT_app.2 ⟨0, p2, q2⟩⟩
  rcases List.mem_append.1 ht with h | h
  · exact p1 t h
  · exact q1 t h
theorem net_more {l m : List Tie} {n : Int} (h : NetOk l n) (hm : ∀ t ∈ m, 0 ≤ t.frm ∧ t.frm < n ∧ 0 ≤ t.too ∧ t.too < n ∧ -16777216 ≤ t.most ∧ t.most ≤ 16777216) : NetOk (l ++ m) n :=
  ⟨h.pos, h.le, fun t ht => by
    rcases List.mem_append.1 ht with h1 | h1
    · exact h.rng t h1
    · exact hm t h1⟩
theorem reaches_more {l m : List Tie} {n frm : Int} (h : Reaches l n frm) : Reaches (l ++ m) n frm := fun v a b => by
  obtain ⟨p, h1, h2⟩ := h v a b
  exact ⟨p, fun t ht => List.mem_append_left _ (h1 t ht), h2⟩
theorem keeps_more {l m : List Tie} {h : Int → Int} : Keeps (l ++ m) h ↔ Keeps l h ∧ Keeps m h := by
  unfold Keeps
  constructor
  · intro hk; exact ⟨fun t ht => hk t (List.mem_append_left _ ht), fun t ht => hk t (List.mem_append_right _ ht)⟩
  · rintro ⟨a, b⟩ t ht
    rcases List.mem_append.1 ht with h1 | h1
    · exact a t h1
    · exact b t h1
theorem keeps_min {l : List Tie} {g h : Int → Int} (hg : Keeps l g) (hh : Keeps l h) : Keeps l fun v => min (g v) (h v) := fun t ht => by
  have a := hg t ht
  have b := hh t ht
  show min (g t.too) (h t.too) - min (g t.frm) (h t.frm) ≤ t.most
  omega
theorem keeps_add {l : List Tie} {g : Int → Int} (hg : Keeps l g) (x : Int) : Keeps l fun v => g v + x := fun t ht => by
  have a := hg t ht
  show g t.too + x - (g t.frm + x) ≤ t.most
  omega
end Go.Proofs.YtnedcclmfokdnaaGreat
namespace Go.Proofs.YtnedcclmfokdnaaGreat
def Can (l : List Tie) : Prop := ∃ h, Keeps l h
open Classical in
noncomputable def canB (l : List Tie) : Bool := decide (Can l)
theorem canB_true {l : List Tie} : canB l = true ↔ Can l := by unfold canB; simp
theorem canB_false {l : List Tie} : canB l = false ↔ ¬ Can l := by unfold canB; simp
theorem can_circle {l c : List Tie} (hc : Circle l c) : ¬ Can l := fun ⟨h, hk⟩ => circle_no hc h hk
def IsDst (l : List Tie) (x y s : Int) : Prop := (∃ p, (∀ t ∈ p, t ∈ l) ∧ chainT p x y ∧ sumT p = s) ∧ ∀ p, (∀ t ∈ p, t ∈ l) → chainT p x y → s ≤ sumT p
theorem isDst_same {l : List Tie} {x y s s' : Int} (h : IsDst l x y s) (h' : IsDst l x y s') : s = s' := by
  obtain ⟨⟨p, p1, p2, p3⟩, hp⟩ := h
  obtain ⟨⟨q, q1, q2, q3⟩, hq⟩ := h'
  have a := hp q q1 q2
  have b := hq p p1 p2
  omega
open Classical in
noncomputable def dst (l : List Tie) (x y : Int) : Int := if h : ∃ s, IsDst l x y s then Classical.choose h else 0
theorem dst_of {l : List Tie} {x y s : Int} (h : IsDst l x y s) : dst l x y = s := by
  have hx : ∃ s, IsDst l x y s := ⟨s, h⟩
  unfold dst
  rw [dif_pos hx]
  exact isDst_same (Classical.choose_spec hx) h
theorem dst_keeps {l : List Tie} {x y : Int} {h : Int → Int} (hk : Keeps l h) {p : List Tie} (hs : ∀ t ∈ p, t ∈ l) (hc : chainT p x y) (e : h y - h x = sumT p) : dst l x y = h y - h x :=
  dst_of ⟨⟨p, hs, hc, e.symm⟩, fun _ q1 q2 => keeps_chain hk q1 q2⟩
theorem dst_settled {l : List Tie} {n frm : Int} {most by_ : Int → Int} (h : Settled l n frm most by_) {v : Int} (h0 : 0 ≤ v) (h1 : v < n) : dst l frm v = most v := by
  obtain ⟨k, hk, o, e, es, _⟩ := h.path v h0 h1
  obtain ⟨a1, a2, a3, _⟩ := pathT_ok h.byAt k v o
  rw [e] at a1
  rw [dst_keeps h.keeps a3 a1 (by rw [a2, es, h.zero]; omega), h.zero]
  omega
theorem least_of {P : Int → Prop} (b : Int) (hb : ∀ s, P s → b ≤ s) (hx : ∃ s, P s) : ∃ s, P s ∧ ∀ s', P s' → s ≤ s' := by
  obtain ⟨s, hs⟩ := hx
  have key : ∀ (n : Nat) (s : Int), s - b ≤ n → P s → ∃ s, P s ∧ ∀ s', P s' → s ≤ s' := by
    intro n
    induction n with
    | zero => intro s hn hs; exact ⟨s, hs, fun s' h' => by have := hb s' h'; have := hb s hs; omega⟩
    | succ n ih =>
      intro s hn hs
      by_cases h : ∃ s', P s' ∧ s' < s
      · obtain ⟨s', h1, h2⟩ := h; exact ih s' (by omega) h1
      · exact ⟨s, hs, fun s' h' => by
          apply Classical.byContradiction
          intro hc
          exact h ⟨s', h', by omega⟩⟩
  have := hb s hs
  exact key (s - b).toNat s (by omega) hs
theorem dst_is {l : List Tie} (hc : Can l) {x y : Int} (hr : ∃ p, (∀ t ∈ p, t ∈ l) ∧ chainT p x y) : IsDst l x y (dst l x y) := by
  obtain ⟨h, hk⟩ := hc
  obtain ⟨p, p1, p2⟩ := hr
  obtain ⟨s, ⟨q, q1, q2, q3⟩, hm⟩ := least_of (P := fun s => ∃ p, (∀ t ∈ p, t ∈ l) ∧ chainT p x y ∧ sumT p = s) (h y - h x)
    (fun s ⟨p, p1, p2, p3⟩ => by have := keeps_chain hk p1 p2; omega) ⟨_, p, p1, p2, rfl⟩
  have hi : IsDst l x y s := ⟨⟨q, q1, q2, q3⟩, fun p p1 p2 => hm _ ⟨p, p1, p2, rfl⟩⟩
  rw [dst_of hi]
  exact hi
theorem dst_ge {l : List Tie} {x y : Int} (hr : ∃ p, (∀ t ∈ p, t ∈ l) ∧ chainT p x y) {h : Int → Int} (hk : Keeps l h) : h y - h x ≤ dst l x y := by
  obtain ⟨⟨p, p1, p2, p3⟩, _⟩ := dst_is ⟨h, hk⟩ hr
  have := keeps_chain hk p1 p2
  omega
theorem dst_le {l : List Tie} (hc : Can l) {x y : Int} {p : List Tie} (hs : ∀ t ∈ p, t ∈ l) (hp : chainT p x y) : dst l x y ≤ sumT p := (dst_is hc ⟨p, hs, hp⟩).2 p hs hp
theorem dst_self {l : List Tie} (hc : Can l) (x : Int) : dst l x x = 0 := by
  obtain ⟨h, hk⟩ := hc
  have := dst_keeps (p := []) (x := x) (y := x) hk (by simp) rfl (by simp [sumT])
  omega
theorem dst_tri {l : List Tie} (hc : Can l) {x y z : Int} (h1 : ∃ p, (∀ t ∈ p, t ∈ l) ∧ chainT p x y) (h2 : ∃ p, (∀ t ∈ p, t ∈ l) ∧ chainT p y z) : dst l x z ≤ dst l x y + dst l y z := by
  obtain ⟨⟨p, p1, p2, p3⟩, _⟩ := dst_is hc h1
  obtain ⟨⟨q, q1, q2, q3⟩, _⟩ := dst_is hc h2
  have := dst_le hc (p := p ++ q) (fun t ht => (List.mem_append.1 ht).elim (p1 t) (q1 t)) (chainT_app.2 ⟨y, p2, q2⟩)
  rw [sumT_app] at this
  omega
theorem dst_heights {l : List Tie} {n : Int} (ok : NetOk l n) (hc : Can l) {x : Int} (hr : Reaches l n x) : Keeps l (dst l x) := fun t ht => by
  have hb := ok.rng t ht
  obtain ⟨⟨p, p1, p2, p3⟩, _⟩ := dst_is hc (hr t.frm hb.1 hb.2.1)
  have := dst_le hc (p := p ++ [t]) (x := x) (y := t.too) (fun u hu => (List.mem_append.1 hu).elim (p1 u) (fun h => by rw [List.mem_singleton] at h; exact h ▸ ht)) (chainT_app.2 ⟨t.frm, p2, rfl, rfl⟩)
  rw [sumT_app] at this
  simp only [sumT] at this
  omega
theorem dst_rng {l : List Tie} {n : Int} (ok : NetOk l n) (hc : Can l) {x y : Int} (hr : ∃ p, (∀ t ∈ p, t ∈ l) ∧ chainT p x y) (hr2 : ∃ p, (∀ t ∈ p, t ∈ l) ∧ chainT p y x) : -687865856 ≤ dst l x y ∧ dst l x y ≤ 687865856 := by
  have up : ∀ {x y : Int}, (∃ p, (∀ t ∈ p, t ∈ l) ∧ chainT p x y) → dst l x y ≤ 687865856 := fun {x y} ⟨p, p1, p2⟩ => by
    rcases simple_chain p.length p x y (Nat.le_refl _) p1 p2 with ⟨q, h1, h2, h3, h4⟩ | ⟨c, h1, _⟩
    · have := dst_le hc h1 h2
      have := simple_sum ok h1 h3
      omega
    · exact absurd hc (can_circle h1)
  have a := up hr
  have b := up hr2
  have c := dst_tri hc hr hr2
  rw [dst_self hc] at c
  omega
theorem keeps_sub {l m : List Tie} (h : ∀ t ∈ l, t ∈ m) {g : Int → Int} (hk : Keeps m g) : Keeps l g := fun t ht => hk t (h t ht)
theorem can_sub {l m : List Tie} (h : ∀ t ∈ l, t ∈ m) (hc : Can m) : Can l := hc.elim fun g hg => ⟨g, keeps_sub h hg⟩
end Go.Proofs.YtnedcclmfokdnaaGreat
namespace Go.Proofs.YtnedcclmfokdnaaGreat
open Go.RowKit
def hgt (n : Nat) (tl td : List Int) (v : Int) : Int := if v ≤ n then (tl.take v.toNat).sum else (td.take (v - n).toNat).sum
theorem hgt_load {n : Nat} {tl td : List Int} {i : Nat} (h : i ≤ n) : hgt n tl td i = (tl.take i).sum := by
  unfold hgt; rw [if_pos (by omega), Int.toNat_natCast]
theorem hgt_zero (n : Nat) (tl td : List Int) : hgt n tl td 0 = 0 := by
  unfold hgt; rw [if_pos (by omega)]; rfl
theorem hgt_draw (k : Kl) (tl td : List Int) (j : Nat) : hgt k.ls.length tl td (markI k j) = (td.take j).sum := by
  unfold markI
  by_cases h : (j : Int) = 0
  · rw [if_pos h, hgt_zero]
    obtain rfl : j = 0 := by omega
    rfl
  · rw [if_neg h]
    unfold hgt
    rw [if_neg (by omega), show ((k.ls.length : Int) + (j : Int) - (k.ls.length : Int)).toNat = j by omega]
theorem sum_take_succ {l : List Int} {i : Nat} {x : Int} (h : l[i]? = some x) : (l.take (i + 1)).sum = (l.take i).sum + x := by
  rw [List.take_add_one, h]
  simp
def wtL (n : Nat) (g : Int → Int) : List Int := (List.range n).map fun i : Nat => g ((i : Int) + 1) - g (i : Int)
def wtD (k : Kl) (g : Int → Int) : List Int := (List.range k.ds.length).map fun j : Nat => g (markI k ((j : Int) + 1)) - g (markI k (j : Int))
theorem wtL_len (n : Nat) (g : Int → Int) : (wtL n g).length = n := by simp [wtL]
theorem wtD_len (k : Kl) (g : Int → Int) : (wtD k g).length = k.ds.length := by simp [wtD]
theorem wtL_at {n : Nat} {g : Int → Int} {i : Nat} (h : i < n) : (wtL n g)[i]? = some (g ((i : Int) + 1) - g (i : Int)) := by
  unfold wtL; rw [List.getElem?_map, List.getElem?_range h]; rfl
theorem wtD_at {k : Kl} {g : Int → Int} {i : Nat} (h : i < k.ds.length) : (wtD k g)[i]? = some (g (markI k ((i : Int) + 1)) - g (markI k (i : Int))) := by
  unfold wtD; rw [List.getElem?_map, List.getElem?_range h]; rfl
theorem wtL_sum {n : Nat} {g : Int → Int} : ∀ i : Nat, i ≤ n → ((wtL n g).take i).sum = g i - g 0
  | 0, _ => by simp
  | i + 1, h => by
    rw [sum_take_succ (wtL_at (by omega : i < n)), wtL_sum i (by omega)]
    push_cast
    omega
theorem wtD_sum {k : Kl} {g : Int → Int} : ∀ i : Nat, i ≤ k.ds.length → ((wtD k g).take i).sum = g (markI k i) - g 0
  | 0, _ => by
    rw [show markI k ((0 : Nat) : Int) = 0 from if_pos rfl]
    simp
  | i + 1, h => by
    rw [sum_take_succ (wtD_at (by omega : i < k.ds.length)), wtD_sum i (by omega)]
    push_cast
    omega
theorem hgt_wt (k : Kl) (g : Int → Int) {v : Int} (h0 : 0 ≤ v) (h1 : v < marksN k) : hgt k.ls.length (wtL k.ls.length g) (wtD k g) v = g v - g 0 := by
  unfold marksN at h1
  by_cases h : v ≤ k.ls.length
  · obtain ⟨i, rfl⟩ : ∃ i : Nat, v = i := ⟨v.toNat, by omega⟩
    rw [hgt_load (by omega), wtL_sum i (by omega)]
  · obtain ⟨j, rfl⟩ : ∃ j : Nat, v = markI k j := ⟨(v - k.ls.length).toNat, by unfold markI; rw [if_neg (by omega)]; omega⟩
    have hj : j ≤ k.ds.length := by
      unfold markI at h1 h
      split at h1 <;> omega
    rw [hgt_draw, wtD_sum j hj]
theorem keeps_wt {k : Kl} (hR : Right k) {g : Int → Int} (hk : Keeps (tiesL k) g) : Keeps (tiesL k) (hgt k.ls.length (wtL k.ls.length g) (wtD k g)) := fun t ht => by
  have hb := (net_ok hR).rng t ht
  have := hk t ht
  rw [hgt_wt k g hb.1 hb.2.1, hgt_wt k g hb.2.2.1 hb.2.2.2.1]
  omega
theorem keeps_load {k : Kl} {g : Int → Int} (hk : Keeps (tiesL k) g) {i : Nat} {x : Rec} (hx : k.ls[i]? = some x) : x.lo ≤ g ((i : Int) + 1) - g i ∧ g ((i : Int) + 1) - g i ≤ x.hi := by
  have a := hk ⟨i, i + 1, x.hi, x.id⟩ (tie_load hx (by simp [bothT]))
  have b := hk ⟨i + 1, i, -x.lo, x.id⟩ (tie_load hx (by simp [bothT]))
  simp only at a b
  omega
theorem keeps_draw {k : Kl} {g : Int → Int} (hk : Keeps (tiesL k) g) {i : Nat} {x : Rec} (hx : k.ds[i]? = some x) :
    x.lo ≤ g (markI k ((i : Int) + 1)) - g (markI k i) ∧ g (markI k ((i : Int) + 1)) - g (markI k i) ≤ x.hi := by
  have a := hk ⟨markI k i, markI k (i + 1), x.hi, x.id⟩ (tie_draw hx (by simp [bothT]))
  have b := hk ⟨markI k (i + 1), markI k i, -x.lo, x.id⟩ (tie_draw hx (by simp [bothT]))
  simp only at a b
  omega
def wtsB (l : List Int) (n : Nat) : Bool := (l.length == n) && l.all fun x => inB x 0 16777216
theorem wtsB_iff {l : List Int} {n : Nat} : wtsB l n = true ↔ l.length = n ∧ ∀ x ∈ l, 0 ≤ x ∧ x ≤ 16777216 := by
  unfold wtsB
  rw [Bool.and_eq_true, List.all_eq_true]
  simp [inB]
theorem wtL_ok {k : Kl} (hR : Right k) {g : Int → Int} (hk : Keeps (tiesL k) g) : wtsB (wtL k.ls.length g) k.ls.length = true := by
  rw [wtsB_iff]
  refine ⟨wtL_len _ _, fun x hx => ?_⟩
  obtain ⟨i, hi⟩ := List.getElem?_of_mem hx
  have hl := (List.getElem?_eq_some_iff.1 hi).1
  rw [wtL_len] at hl
  rw [wtL_at hl, Option.some.injEq] at hi
  have h1 := keeps_load hk (List.getElem?_eq_getElem hl)
  have h2 := hR.small.lb i _ (List.getElem?_eq_getElem hl)
  omega
theorem wtD_ok {k : Kl} (hR : Right k) {g : Int → Int} (hk : Keeps (tiesL k) g) : wtsB (wtD k g) k.ds.length = true := by
  rw [wtsB_iff]
  refine ⟨wtD_len _ _, fun x hx => ?_⟩
  obtain ⟨i, hi⟩ := List.getElem?_of_mem hx
  have hl := (List.getElem?_eq_some_iff.1 hi).1
  rw [wtD_len] at hl
  rw [wtD_at hl, Option.some.injEq] at hi
  have h1 := keeps_draw hk (List.getElem?_eq_getElem hl)
  have h2 := hR.small.db i _ (List.getElem?_eq_getElem hl)
  omega
def badAt (l : List Tie) (h : Int → Int) : Option Nat := l.findIdx? fun t => decide (t.most < h t.too - h t.frm)
theorem badAt_none {l : List Tie} {h : Int → Int} : badAt l h = none ↔ Keeps l h := by
  unfold badAt Keeps
  rw [List.findIdx?_eq_none_iff]
  constructor
  · intro a t ht; have := a t ht; simp only [decide_eq_false_iff_not] at this; omega
  · intro a t ht; have := a t ht; simp only [decide_eq_false_iff_not]; omega
def fitsE (k : Kl) (tl td : List Int) : Int := if checkI k ≠ 0 then checkI k else if wtsB tl k.ls.length = false ∨ wtsB td k.ds.length = false then 1 else 0
def fitsB (k : Kl) (tl td : List Int) : Bool := (fitsE k tl td == 0) && (badAt (tiesL k) (hgt k.ls.length tl td)).isNone
def True_ (k : Kl) (tl td : List Int) : Prop := wtsB tl k.ls.length = true ∧ wtsB td k.ds.length = true ∧ Keeps (tiesL k) (hgt k.ls.length tl td)
theorem fitsE_zero {k : Kl} {tl td : List Int} : fitsE k tl td = 0 ↔ checkI k = 0 ∧ wtsB tl k.ls.length = true ∧ wtsB td k.ds.length = true := by
  unfold fitsE
  by_cases h : checkI k = 0
  · rw [if_neg (by simp [h])]
    by_cases h2 : wtsB tl k.ls.length = false ∨ wtsB td k.ds.length = false
    · rw [if_pos h2]
      constructor
      · intro h; omega
      · rintro ⟨_, a, b⟩; rw [a, b] at h2; simp at h2
    · rw [if_neg h2]
      simp only [not_or, Bool.not_eq_false] at h2
      exact ⟨fun _ => ⟨h, h2⟩, fun _ => rfl⟩
  · rw [if_pos h]
    exact ⟨fun e => absurd e h, fun ⟨e, _⟩ => absurd e h⟩
theorem fitsB_iff {k : Kl} {tl td : List Int} : fitsB k tl td = true ↔ checkI k = 0 ∧ True_ k tl td := by
  unfold fitsB True_
  rw [Bool.and_eq_true, beq_iff_eq, fitsE_zero, Option.isNone_iff_eq_none, badAt_none]
  exact ⟨fun ⟨⟨a, b, c⟩, d⟩ => ⟨a, b, c, d⟩, fun ⟨a, b, c, d⟩ => ⟨⟨a, b, c⟩, d⟩⟩
theorem true_wt {k : Kl} (hR : Right k) {g : Int → Int} (hk : Keeps (tiesL k) g) : True_ k (wtL k.ls.length g) (wtD k g) := ⟨wtL_ok hR hk, wtD_ok hR hk, keeps_wt hR hk⟩
end Go.Proofs.YtnedcclmfokdnaaGreat
namespace Go.Proofs.YtnedcclmfokdnaaGreat
open Go.RowKit
structure Pt where
  ahead : Int
  own : Int
def tk (g : Int → Int) (a b : Pt) : Int := max 0 (min (g a.own) (g b.own) - max (g a.ahead) (g b.ahead))
theorem tk_four (g : Int → Int) (a b : Pt) : tk g a b = max 0 (min (min (g a.own - g a.ahead) (g b.own - g a.ahead)) (min (g a.own - g b.ahead) (g b.own - g b.ahead))) := by
  unfold tk; omega
def sides (a b : Pt) : List Pt := [a, ⟨a.ahead, b.own⟩, ⟨b.ahead, a.own⟩, b]
def moreT (a b : Pt) (z : Int) : List Tie := (sides a b).map fun s => ⟨s.own, s.ahead, -z, 0⟩
theorem keeps_moreT {a b : Pt} {z : Int} {g : Int → Int} : Keeps (moreT a b z) g ↔ z ≤ g a.own - g a.ahead ∧ z ≤ g b.own - g a.ahead ∧ z ≤ g a.own - g b.ahead ∧ z ≤ g b.own - g b.ahead := by
  unfold Keeps moreT sides
  constructor
  · intro h
    have h1 := h ⟨a.own, a.ahead, -z, 0⟩ (by simp)
    have h2 := h ⟨b.own, a.ahead, -z, 0⟩ (by simp)
    have h3 := h ⟨a.own, b.ahead, -z, 0⟩ (by simp)
    have h4 := h ⟨b.own, b.ahead, -z, 0⟩ (by simp)
    simp only at h1 h2 h3 h4
    omega
  · rintro ⟨h1, h2, h3, h4⟩ t ht
    simp only [List.map_cons, List.map_nil, List.mem_cons, List.not_mem_nil, or_false] at ht
    rcases ht with rfl | rfl | rfl | rfl <;> (simp only; omega)
def CanZ (l : List Tie) (a b : Pt) (z : Int) : Prop := Can (l ++ moreT a b z)
theorem canZ_iff {l : List Tie} {a b : Pt} {z : Int} : CanZ l a b z ↔ ∃ g, Keeps l g ∧ z ≤ g a.own - g a.ahead ∧ z ≤ g b.own - g a.ahead ∧ z ≤ g a.own - g b.ahead ∧ z ≤ g b.own - g b.ahead := by
  unfold CanZ Can
  simp only [keeps_more, keeps_moreT]
theorem canZ_less {l : List Tie} {a b : Pt} {z z' : Int} (h : CanZ l a b z) (hz : z' ≤ z) : CanZ l a b z' := by
  rw [canZ_iff] at h ⊢
  obtain ⟨g, h, h1, h2, h3, h4⟩ := h
  exact ⟨g, h, by omega, by omega, by omega, by omega⟩
def MostIs (l : List Tie) (a b : Pt) (m : Int) : Prop := (0 ≤ m ∧ m ≤ 1048576) ∧ (m = 0 ∨ CanZ l a b m) ∧ (m = 1048576 ∨ ¬ CanZ l a b (m + 1))
theorem mostIs_same {l : List Tie} {a b : Pt} {m m' : Int} (h : MostIs l a b m) (h' : MostIs l a b m') : m = m' := by
  have key : ∀ {m m' : Int}, MostIs l a b m → MostIs l a b m' → m ≤ m' := fun {m m'} h h' => by
    apply Classical.byContradiction
    intro hc
    rcases h.2.1 with h1 | h1
    · have := h'.1.1; omega
    · rcases h'.2.2 with h2 | h2
      · have := h.1.2; omega
      · exact h2 (canZ_less h1 (by omega))
  have a := key h h'
  have b := key h' h
  omega
open Classical in
noncomputable def mostZ (l : List Tie) (a b : Pt) : Int := if h : ∃ m, MostIs l a b m then Classical.choose h else 0
theorem mostZ_of {l : List Tie} {a b : Pt} {m : Int} (h : MostIs l a b m) : mostZ l a b = m := by
  have hx : ∃ m, MostIs l a b m := ⟨m, h⟩
  unfold mostZ
  rw [dif_pos hx]
  exact mostIs_same (Classical.choose_spec hx) h
theorem most_has (l : List Tie) (a b : Pt) : ∃ m, MostIs l a b m := by
  have key : ∀ n : Nat, n ≤ 1048576 → (∃ m, MostIs l a b m) ∨ (∀ z : Int, 1 ≤ z → z ≤ n → CanZ l a b z) := by
    intro n
    induction n with
    | zero => intro _; exact .inr fun z h1 h2 => by omega
    | succ n ih =>
      intro hn
      rcases ih (by omega) with h | h
      · exact .inl h
      · by_cases hc : CanZ l a b ((n : Int) + 1)
        · exact .inr fun z h1 h2 => by
            by_cases e : z = (n : Int) + 1
            · subst e; exact hc
            · exact h z h1 (by push_cast at h2; omega)
        · refine .inl ⟨n, ⟨by omega, by omega⟩, ?_, .inr hc⟩
          by_cases e : n = 0
          · exact .inl (by omega)
          · exact .inr (h n (by omega) (by omega))
  rcases key 1048576 (by omega) with h | h
  · exact h
  · exact ⟨1048576, ⟨by omega, by omega⟩, .inr (h 1048576 (by omega) (by omega)), .inl rfl⟩
theorem mostZ_is (l : List Tie) (a b : Pt) : MostIs l a b (mostZ l a b) := by
  obtain ⟨m, hm⟩ := most_has l a b
  rw [mostZ_of hm]; exact hm
theorem mostZ_pos {l : List Tie} {a b : Pt} : 0 < mostZ l a b ↔ CanZ l a b 1 := by
  have h := mostZ_is l a b
  constructor
  · intro h0
    rcases h.2.1 with h1 | h1
    · omega
    · exact canZ_less h1 (by omega)
  · intro h1
    apply Classical.byContradiction
    intro hc
    have e : mostZ l a b = 0 := by have := h.1.1; omega
    rcases h.2.2 with h2 | h2
    · omega
    · rw [e] at h2; exact h2 h1
noncomputable def leastZ (l : List Tie) (a b : Pt) : Int := max 0 (min (min (-(dst l a.own a.ahead)) (-(dst l b.own a.ahead))) (min (-(dst l a.own b.ahead)) (-(dst l b.own b.ahead))))
structure PtsOk (l : List Tie) (n : Int) (a b : Pt) : Prop where
  a1 : 0 ≤ a.ahead ∧ a.ahead < n
  a2 : 0 ≤ a.own ∧ a.own < n
  b1 : 0 ≤ b.ahead ∧ b.ahead < n
  b2 : 0 ≤ b.own ∧ b.own < n
  ra : Reaches l n a.own
  rb : Reaches l n b.own
theorem leastZ_le {l : List Tie} {n : Int} {a b : Pt} (h : PtsOk l n a b) {g : Int → Int} (hk : Keeps l g) : leastZ l a b ≤ tk g a b := by
  have e1 := dst_ge (h.ra _ h.a1.1 h.a1.2) hk
  have e2 := dst_ge (h.rb _ h.a1.1 h.a1.2) hk
  have e3 := dst_ge (h.ra _ h.b1.1 h.b1.2) hk
  have e4 := dst_ge (h.rb _ h.b1.1 h.b1.2) hk
  rw [tk_four]
  unfold leastZ
  omega
theorem leastZ_at {l : List Tie} {n : Int} {a b : Pt} (h : PtsOk l n a b) {s : Pt} (hs : s ∈ sides a b) {g : Int → Int} (hk : Keeps l g) (hg : g s.ahead - g s.own = dst l s.own s.ahead)
    (hm : ∀ t ∈ sides a b, -(dst l s.own s.ahead) ≤ -(dst l t.own t.ahead)) : tk g a b = leastZ l a b := by
  have e0 := leastZ_le h hk
  have m1 := hm a (by simp [sides])
  have m2 := hm ⟨a.ahead, b.own⟩ (by simp [sides])
  have m3 := hm ⟨b.ahead, a.own⟩ (by simp [sides])
  have m4 := hm b (by simp [sides])
  have e1 := tk_four g a b
  unfold leastZ at e0 ⊢
  simp only [sides, List.mem_cons, List.not_mem_nil, or_false] at hs
  rcases hs with rfl | rfl | rfl | rfl <;> (try dsimp only at hg m1 m2 m3 m4) <;> omega
end Go.Proofs.YtnedcclmfokdnaaGreat
namespace Go.Proofs.YtnedcclmfokdnaaGreat
open Go.RowKit
theorem first_turn {l : List Tie} {b : Int → Int} {a : Int} : ∀ (n q : Nat), q ≤ n → 0 < q → backOk l b q a → back l b q a = a → backSum l b q a < 0 →
    ∃ p, 0 < p ∧ p ≤ q ∧ backOk l b p a ∧ back l b p a = a ∧ backSum l b p a < 0 ∧ ∀ j, 0 < j → j < p → back l b j a ≠ a
  | 0, q, h, h0, _, _, _ => by omega
  | n + 1, q, h, h0, ok, e, s => by
    by_cases hx : ∃ r, 0 < r ∧ r < q ∧ back l b r a = a
    · obtain ⟨r, r0, r1, re⟩ := hx
      have ok1 : backOk l b r a := backOk_le ok (by omega)
      have hq : q = r + (q - r) := by omega
      have ok2 : backOk l b (q - r) a := by
        have := (backOk_add l b r (q - r) a).1 (by rw [← hq]; exact ok)
        rw [re] at this; exact this.2
      have e2 : back l b (q - r) a = a := by
        have := back_add l b r (q - r) a ok1
        rw [← hq, re, e] at this
        exact this.symm
      have hs := backSum_add l b r (q - r) a ok1
      rw [← hq, re] at hs
      by_cases hn : backSum l b r a < 0
      · obtain ⟨p, a1, a2, a3⟩ := first_turn n r (by omega) r0 ok1 re hn
        exact ⟨p, a1, by omega, a3⟩
      · obtain ⟨p, a1, a2, a3⟩ := first_turn n (q - r) (by omega) (by omega) ok2 e2 (by omega)
        exact ⟨p, a1, by omega, a3⟩
    · exact ⟨q, h0, Nat.le_refl _, ok, e, s, fun j j0 j1 ej => hx ⟨j, j0, j1, ej⟩⟩
theorem Loose.first {l : List Tie} {n : Int} {b : Int → Int} {v : Int} (h : Loose l n b v) : ∃ p, 0 < p ∧ p ≤ n.toNat ∧ backOk l b p (back l b n.toNat v) ∧ back l b p (back l b n.toNat v) = back l b n.toNat v ∧ backSum l b p (back l b n.toNat v) < 0 ∧
    ∀ j, 0 < j → j < p → back l b j (back l b n.toNat v) ≠ back l b n.toNat v := by
  obtain ⟨p, h0, h1, h2, h3, h4⟩ := h.turn
  obtain ⟨q, a1, a2, a3⟩ := first_turn p p (Nat.le_refl _) h0 h2 h3 h4
  exact ⟨q, a1, by omega, a3⟩
theorem walk_turn {l : List Tie} {b : Int → Int} (hb : ∀ v t, byT l b v = some t → t.too = v) {p : Nat} {a : Int} (h0 : 0 < p) (h1 : backOk l b p a) (h2 : back l b p a = a) :
    ∃ x t, (idxI l b p a)[0]? = some x ∧ tieAt l x = some t ∧ t.frm = a ∧ walkI l (idxI l b p a) a 0 = some (a, backSum l b p a) := by
  have hw := idxI_walk hb p a 0 h1
  rw [h2, Int.zero_add] at hw
  have hl := idxI_len p a h1
  cases hi : idxI l b p a with
  | nil => rw [hi] at hl; simp at hl; omega
  | cons x ps =>
    rw [hi] at hw
    have hw2 := hw
    simp only [walkI] at hw2
    split at hw2
    · rename_i t ht
      split at hw2
      · rename_i e; exact ⟨x, t, rfl, ht, e, hw⟩
      · cases hw2
    · cases hw2
end Go.Proofs.YtnedcclmfokdnaaGreat
