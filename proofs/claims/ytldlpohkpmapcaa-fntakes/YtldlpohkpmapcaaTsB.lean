/-
  PARTS TAKEN IN WHATEVER ORDER: what the law keeps.
-/
import Derived.Test.YtldlpohkpmapcaaTsP
import Derived.Test.YtldlpohkpmapcaaTsW
import Derived.Test.YtldlpohkpmapcaaRgKf
import Derived.Test.YtldlpohkpmapcaaPuIf
import Derived.Test.YtldlpohkpmapcaaBase
namespace Go.Proofs.Ytldlpohkpmapcaa.mk.f
open Go.RowKit
set_option linter.unusedVariables false

/-- the Take at y, what was pulled -/
structure Lt (w1 w : World) (y : Nat) (gv : Value) (got : List ByteArray) (nx : Nat) (xs : List Hd) (o : ByteArray) (rs : List ByteArray) (ho : Option Addr) (hc : Nat) (so : Option Addr) (sc : Nat) : Prop where
  low : Below w1.heap.size w1 w
  lt : w1.heap.size ≤ y
  bx : Bx w y 30 #[.int .i64 (nx : Int), .slice ho xs.length hc, .string o, .slice so rs.length sc]
  held : w.ownsRow w1.heap.size 55 3 (.slice ho xs.length hc) xs.length (hs xs)
  ready : Orw w1.heap.size (.slice so rs.length sc) rs.length (ss rs) w
  got : w.ownsRow w1.heap.size 9 1 gv got.length (ss got)
  ne : (Value.slice so rs.length sc).ownBlock = none ∨ (Value.slice so rs.length sc).ownBlock ≠ gv.ownBlock
theorem Lt.keep {w1 w : World} {y : Nat} {gv : Value} {got : List ByteArray} {nx : Nat} {xs : List Hd} {o : ByteArray} {rs : List ByteArray} {ho : Option Addr} {hc : Nat} {so : Option Addr} {sc : Nat} {w' : World} (h : Lt w1 w y gv got nx xs o rs ho hc so sc) (hb : Below w.heap.size w w') : Lt w1 w' y gv got nx xs o rs ho hc so sc :=
  ⟨kb h.low hb (Nat.le_refl _), h.lt, h.bx.keep hb, owns_keep h.held hb, h.ready.keep hb, owns_keep h.got hb, h.ne⟩
theorem Lt.alloc {w1 w : World} {y : Nat} {gv : Value} {got : List ByteArray} {nx : Nat} {xs : List Hd} {o : ByteArray} {rs : List ByteArray} {ho : Option Addr} {hc : Nat} {so : Option Addr} {sc : Nat} (h : Lt w1 w y gv got nx xs o rs ho hc so sc) (ob : Obj) : Lt w1 (w.alloc ob) y gv got nx xs o rs ho hc so sc := h.keep ((Below.refl _ _).alloc (Nat.le_refl _) _)
theorem Lt.drew {w1 w : World} {y : Nat} {gv : Value} {got : List ByteArray} {nx : Nat} {xs : List Hd} {o : ByteArray} {rs : List ByteArray} {ho : Option Addr} {hc : Nat} {so : Option Addr} {sc : Nat} (h : Lt w1 w y gv got nx xs o rs ho hc so sc) : Lt w1 w.drew y gv got nx xs o rs ho hc so sc := h.keep (Below.refl _ _).drew
theorem Lt.rq {w1 w : World} {y : Nat} {gv : Value} {got : List ByteArray} {nx : Nat} {xs : List Hd} {o : ByteArray} {rs : List ByteArray} {ho : Option Addr} {hc : Nat} {so : Option Addr} {sc : Nat} (h : Lt w1 w y gv got nx xs o rs ho hc so sc) : Rq w ho so xs rs := by
  obtain ⟨a, c, e, _, _, hr⟩ := rs_of_owns h.held
  cases e
  exact ⟨hr, h.ready.rr⟩
theorem Lt.cells {w1 w : World} {y : Nat} {gv : Value} {got : List ByteArray} {nx : Nat} {xs : List Hd} {o : ByteArray} {rs : List ByteArray} {ho : Option Addr} {hc : Nat} {so : Option Addr} {sc : Nat} (h : Lt w1 w y gv got nx xs o rs ho hc so sc) : w.cell? ⟨y, 0, none⟩ = some (.int .i64 (nx : Int)) ∧ w.cell? ⟨y, 1, none⟩ = some (.slice ho xs.length hc) ∧ w.cell? ⟨y, 2, none⟩ = some (.string o) ∧ w.cell? ⟨y, 3, none⟩ = some (.slice so rs.length sc) ∧ w.frozen? ⟨y, 0, none⟩ = false ∧ w.frozen? ⟨y, 1, none⟩ = false ∧ w.frozen? ⟨y, 2, none⟩ = false ∧ w.frozen? ⟨y, 3, none⟩ = false ∧ y < w.heap.size :=
  ⟨h.bx.cell 0, h.bx.cell 1, h.bx.cell 2, h.bx.cell 3, h.bx.frozen 0, h.bx.frozen 1, h.bx.frozen 2, h.bx.frozen 3, h.bx.lt⟩
theorem ne_take {w : World} {y base sz n : Nat} {e : TypeId} {cs : Array Value} {v : Value} {vs : List Value} (hx : Bx w y 30 cs) (he : 30 ≠ e) (h : w.ownsRow base e sz v n vs) : v.ownBlock ≠ some y := fun q => hx.ne he h q.symm
theorem ne_takeO {w : World} {y base n : Nat} {cs : Array Value} {v : Value} {vs : List Value} (hx : Bx w y 30 cs) (h : Orw base v n vs w) : v.ownBlock ≠ some y := by
  rcases h with ⟨rfl, _⟩ | ⟨g, k, cap, pre, tot, h1, h2, rfl, h3⟩
  · simp [Value.ownBlock]
  · have := ne_take hx (by decide) h3
    simpa [Value.ownBlock] using this
/-- another Take is stored at y -/
theorem Lt.store {w1 w : World} {y : Nat} {gv : Value} {got : List ByteArray} {nx : Nat} {xs : List Hd} {o : ByteArray} {rs : List ByteArray} {ho : Option Addr} {hc : Nat} {so : Option Addr} {sc : Nat} (h : Lt w1 w y gv got nx xs o rs ho hc so sc) {w' : World} (hb : Below w.heap.size w w') (m : Nat) (zs : List Hd) (p : ByteArray) (ts : List ByteArray) (a1 : Option Addr) (c1 : Nat) (a2 : Option Addr) (c2 : Nat)
    (h1 : w'.ownsRow w.heap.size 55 3 (.slice a1 zs.length c1) zs.length (hs zs)) (h2 : Orw w.heap.size (.slice a2 ts.length c2) ts.length (ss ts) w') :
    Lt w1 ((((w'.setCell ⟨y, 0, none⟩ (.int .i64 (m : Int))).setCell ⟨y, 1, none⟩ (.slice a1 zs.length c1)).setCell ⟨y, 2, none⟩ (.string p)).setCell ⟨y, 3, none⟩ (.slice a2 ts.length c2)) y gv got m zs p ts a1 c1 a2 c2 := by
  have hx := h.bx.keep hb
  have hl := kb h.low hb (Nat.le_refl _)
  have hg := owns_keep h.got hb
  have hs := h.low.size
  have hx2 := (((hx.put 0 (.int .i64 (m : Int))).put 1 (.slice a1 zs.length c1)).put 2 (.string p)).put 3 (.slice a2 ts.length c2)
  simp only [List.setIfInBounds_toArray, List.set_cons_zero, List.set_cons_succ] at hx2
  have n1 := ne_take hx (by decide) h1
  have n2 := ne_takeO hx h2
  have n3 := ne_take hx (by decide) hg
  refine ⟨(((hl.setCell (p := ⟨y, 0, none⟩) h.lt _).setCell (p := ⟨y, 1, none⟩) h.lt _).setCell (p := ⟨y, 2, none⟩) h.lt _).setCell (p := ⟨y, 3, none⟩) h.lt _, h.lt, hx2, ?_, ?_, ?_, ?_⟩
  · exact owns_mono3 (ownsRow_setCell_other (ownsRow_setCell_other (ownsRow_setCell_other (ownsRow_setCell_other h1 (a := ⟨y, 0, none⟩) n1 _) (a := ⟨y, 1, none⟩) n1 _) (a := ⟨y, 2, none⟩) n1 _) (a := ⟨y, 3, none⟩) n1 _) hs
  · exact ((((h2.other (a := ⟨y, 0, none⟩) n2 _).other (a := ⟨y, 1, none⟩) n2 _).other (a := ⟨y, 2, none⟩) n2 _).other (a := ⟨y, 3, none⟩) n2 _).mono hs
  · exact ownsRow_setCell_other (ownsRow_setCell_other (ownsRow_setCell_other (ownsRow_setCell_other hg (a := ⟨y, 0, none⟩) n3 _) (a := ⟨y, 1, none⟩) n3 _) (a := ⟨y, 2, none⟩) n3 _) (a := ⟨y, 3, none⟩) n3 _
  · cases hq : (Value.slice a2 ts.length c2).ownBlock with
    | none => exact .inl rfl
    | some g =>
      refine .inr (fun e => ?_)
      have q1 := (h2.lt g hq).1
      have q2 := (h.got.lt g e.symm).2
      omega
/-- and what was there can still be read -/
theorem Lt.store_rq {w1 w : World} {y : Nat} {gv : Value} {got : List ByteArray} {nx : Nat} {xs : List Hd} {o : ByteArray} {rs : List ByteArray} {ho : Option Addr} {hc : Nat} {so : Option Addr} {sc : Nat} (h : Lt w1 w y gv got nx xs o rs ho hc so sc) {w' : World} (hb : Below w.heap.size w w') (v0 v1 v2 v3 : Value) : Rq ((((w'.setCell ⟨y, 0, none⟩ v0).setCell ⟨y, 1, none⟩ v1).setCell ⟨y, 2, none⟩ v2).setCell ⟨y, 3, none⟩ v3) ho so xs rs := by
  have hx := h.bx.keep hb
  have h1 := owns_keep h.held hb
  have h2 := h.ready.keep hb
  have n1 := ne_take hx (by decide) h1
  have n2 := ne_takeO hx h2
  have k1 := ownsRow_setCell_other (ownsRow_setCell_other (ownsRow_setCell_other (ownsRow_setCell_other h1 (a := ⟨y, 0, none⟩) n1 v0) (a := ⟨y, 1, none⟩) n1 v1) (a := ⟨y, 2, none⟩) n1 v2) (a := ⟨y, 3, none⟩) n1 v3
  have k2 := (((h2.other (a := ⟨y, 0, none⟩) n2 v0).other (a := ⟨y, 1, none⟩) n2 v1).other (a := ⟨y, 2, none⟩) n2 v2).other (a := ⟨y, 3, none⟩) n2 v3
  obtain ⟨a, c, e, _, _, hr⟩ := rs_of_owns k1
  cases e
  exact ⟨hr, k2.rr⟩
theorem valid_call {nx : Nat} {xs : List Hd} {o : ByteArray} {rs : List ByteArray} (hv : tkOk (nx : Int) xs o rs = true) (ho so : Option Addr) (hc sc : Nat) (u : World) (hu : Rq u ho so xs rs) :
    Calls Try.prog 9 #[.agg #[.int .i64 (nx : Int), .slice ho xs.length hc, .string o, .slice so rs.length sc]] u fun e w' => e = .returned (.bool true) ∧ Below u.heap.size u w' := by
  have h := tkOk_of hv
  have h1 := h.1
  unfold TkHd at h1
  have h8 := h.len
  have := implValidTake_any (nx : Int) ho so hc sc xs o rs u (by omega) (fun i hi => by have := (h.2.2 i hi).2.2.2.1; omega) (by omega) (by omega) (fun i hi => by have := h.2.1 i hi; omega) hu
  rw [hv] at this
  exact this
/-- what was pulled grows -/
theorem Lt.app {w1 w : World} {y : Nat} {gv : Value} {got : List ByteArray} {nx : Nat} {xs : List Hd} {o : ByteArray} {rs : List ByteArray} {ho : Option Addr} {hc : Nat} {so : Option Addr} {sc : Nat} (h : Lt w1 w y gv got nx xs o rs ho hc so sc) {w' : World} {gv' : Value} {s : ByteArray} (hg : w.grownBy w' gv.ownBlock) (how : w'.ownsRow w1.heap.size 9 1 gv' (got.length + 1) (ss got ++ [.string s]))
    (hat : gv'.ownBlock = gv.ownBlock ∨ ∀ g, gv'.ownBlock = some g → w.heap.size ≤ g) : Lt w1 w' y gv' (got ++ [s]) nx xs o rs ho hc so sc := by
  have hy : some y ≠ gv.ownBlock := h.bx.ne (by decide) h.got
  refine ⟨h.low.grown hg h.low.size (fun k hk => (h.got.lt k hk).1), h.lt, h.bx.kept hg hy, h.held.kept hg (rows_ne5 h.held h.got (by decide)), h.ready.kept hg h.ne, ?_, ?_⟩
  · rw [ss_append, List.length_append]
    exact how
  · rcases h.ne with e | e
    · exact .inl e
    · rcases hat with q | q
      · rw [q]; exact .inr e
      · cases hq : (Value.slice so rs.length sc).ownBlock with
        | none => exact .inl rfl
        | some g =>
          refine .inr (fun e2 => ?_)
          have q1 := q g e2.symm
          have q2 := (h.ready.lt g hq).2
          omega
theorem Lt.sizes {w1 w : World} {y : Nat} {gv : Value} {got : List ByteArray} {nx : Nat} {xs : List Hd} {o : ByteArray} {rs : List ByteArray} {ho : Option Addr} {hc : Nat} {so : Option Addr} {sc : Nat} (hv : tkOk (nx : Int) xs o rs = true) : xs.length ≤ 1048576 ∧ (∀ i (h : i < xs.length), xs[i].text.size ≤ 1048576) ∧ o.size ≤ 1048576 ∧ rs.length ≤ 1048576 ∧ ∀ i (h : i < rs.length), rs[i].size ≤ 1048576 := by
  have h := tkOk_of hv
  have h1 := h.1
  unfold TkHd at h1
  have h8 := h.len
  exact ⟨by omega, fun i hi => by have := (h.2.2 i hi).2.2.2.1; omega, by omega, by omega, fun i hi => by have := h.2.1 i hi; omega⟩
/-- impl.TakePart on it -/
theorem part_call {w1 w : World} {y : Nat} {gv : Value} {got : List ByteArray} {nx : Nat} {xs : List Hd} {o : ByteArray} {rs : List ByteArray} {ho : Option Addr} {hc : Nat} {so : Option Addr} {sc : Nat} (h : Lt w1 w y gv got nx xs o rs ho hc so sc) (hv : tkOk (nx : Int) xs o rs = true) (q : Int) (s : ByteArray) (l : Bool) (hsz : s.size ≤ 1048576) {m : Nat} {zs : List Hd} {p : ByteArray} {ts : List ByteArray} (hP : partOf (nx : Int) xs o rs q s l = (m, zs, p, ts)) (u : World) (hu : Rq u ho so xs rs) :
    Calls Try.prog 8 #[.agg #[.int .i64 (nx : Int), .slice ho xs.length hc, .string o, .slice so rs.length sc], .int .i64 q, .agg #[.string s, .bool l]] u fun e w' => (∃ a1 c1 a2 c2, e = .returned (.agg #[.int .i64 (m : Int), .slice a1 zs.length c1, .string p, .slice a2 ts.length c2]) ∧ w'.ownsRow u.heap.size 55 3 (.slice a1 zs.length c1) zs.length (hs zs) ∧ Orw u.heap.size (.slice a2 ts.length c2) ts.length (ss ts) w') ∧ Below u.heap.size u w' := by
  obtain ⟨s1, s2, s3, s4, s5⟩ := Lt.sizes (w1 := w1) (w := w) (y := y) (gv := gv) (got := got) (ho := ho) (hc := hc) (so := so) (sc := sc) hv
  refine (implPart_yes nx ho so hc sc xs o rs q s l u s1 s2 s3 s4 s5 hsz hu hv).mono fun e w' hp => ?_
  unfold TakePost at hp
  rw [hP] at hp
  obtain ⟨⟨hv', v', rfl, h1, h2⟩, hb⟩ := hp
  obtain ⟨a1, c1, rfl, _, _, _⟩ := rs_of_owns h1
  obtain ⟨a2, c2, rfl, _, _, _⟩ := rs_of_owns h2
  exact ⟨⟨a1, c1, a2, c2, rfl, h1, Orw.of_owns h2⟩, hb⟩
/-- impl.TakePull on it -/
theorem pull_call {w1 w : World} {y : Nat} {gv : Value} {got : List ByteArray} {nx : Nat} {xs : List Hd} {o : ByteArray} {rs : List ByteArray} {ho : Option Addr} {hc : Nat} {so : Option Addr} {sc : Nat} (h : Lt w1 w y gv got nx xs o rs ho hc so sc) (hv : tkOk (nx : Int) xs o rs = true) {m : Nat} {zs : List Hd} {p : ByteArray} {ts : List ByteArray} (hP : pullT nx xs o rs = (m, zs, p, ts)) (u : World) (hu : Rq u ho so xs rs) :
    Calls Try.prog 7 #[.agg #[.int .i64 (nx : Int), .slice ho xs.length hc, .string o, .slice so rs.length sc]] u fun e w' => (∃ a1 c1 a2 c2, e = .returned (.tuple #[.agg #[.int .i64 (m : Int), .slice a1 zs.length c1, .string p, .slice a2 ts.length c2], .string (pullS rs), .bool (pullB rs)]) ∧ w'.ownsRow u.heap.size 55 3 (.slice a1 zs.length c1) zs.length (hs zs) ∧ Orw u.heap.size (.slice a2 ts.length c2) ts.length (ss ts) w') ∧ Below u.heap.size u w' := by
  obtain ⟨s1, s2, s3, s4, s5⟩ := Lt.sizes (w1 := w1) (w := w) (y := y) (gv := gv) (got := got) (ho := ho) (hc := hc) (so := so) (sc := sc) hv
  refine (mp.implPullf_yes nx ho so hc sc xs o rs u s1 s2 s3 s4 s5 hu hv).mono fun e w' hp => ?_
  unfold PullPost at hp
  rw [hP] at hp
  obtain ⟨⟨hv', v', rfl, h1, h2⟩, hb⟩ := hp
  obtain ⟨a1, c1, rfl, _, _, _⟩ := rs_of_owns h1
  obtain ⟨a2, c2, rfl, _, _, _⟩ := h2.slice
  exact ⟨⟨a1, c1, a2, c2, rfl, h1, h2⟩, hb⟩
end Go.Proofs.Ytldlpohkpmapcaa.mk.f
