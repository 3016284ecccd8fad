/-
  PARTS TAKEN IN WHATEVER ORDER: what is pulled and ready is a beginning of the messages (plain).
-/
import Derived.Test.YtldlpohkpmapcaaRgJ0
import Derived.Test.YtldlpohkpmapcaaJoinA
namespace Go.Proofs.Ytldlpohkpmapcaa.mk
open Go.RowKit
set_option linter.unusedVariables false

/-- what the first n parts make: messages, and what is open -/
def Pre (ps : List (ByteArray × Bool)) : Nat → List ByteArray × ByteArray
  | 0 => ([], ⟨#[]⟩)
  | n + 1 => match ps[n]? with
    | some x => if x.2 then ((Pre ps n).1 ++ [(Pre ps n).2 ++ x.1], ⟨#[]⟩) else ((Pre ps n).1, (Pre ps n).2 ++ x.1)
    | none => Pre ps n
theorem pre_last {ps : List (ByteArray × Bool)} {n : Nat} (h : n < ps.length) (hl : ps[n].2 = true) : Pre ps (n + 1) = ((Pre ps n).1 ++ [(Pre ps n).2 ++ ps[n].1], ⟨#[]⟩) := by
  rw [Pre, List.getElem?_eq_getElem h]
  simp [hl]
theorem pre_more {ps : List (ByteArray × Bool)} {n : Nat} (h : n < ps.length) (hl : ps[n].2 = false) : Pre ps (n + 1) = ((Pre ps n).1, (Pre ps n).2 ++ ps[n].1) := by
  rw [Pre, List.getElem?_eq_getElem h]
  simp [hl]
theorem pre_step (ps : List (ByteArray × Bool)) (n : Nat) : (Pre ps n).1 <+: (Pre ps (n + 1)).1 := by
  rw [Pre]
  split
  · split
    · exact List.prefix_append _ _
    · exact List.prefix_refl _
  · exact List.prefix_refl _
theorem pre_mono (ps : List (ByteArray × Bool)) {n m : Nat} (h : n ≤ m) : (Pre ps n).1 <+: (Pre ps m).1 := by
  induction m with
  | zero => obtain rfl : n = 0 := by omega
            exact List.prefix_refl _
  | succ m ih =>
    by_cases e : n = m + 1
    · subst e; exact List.prefix_refl _
    · exact (ih (by omega)).trans (pre_step ps m)
/-- parts that make messages: none is too great, no message is -/
structure Fine (ps : List (ByteArray × Bool)) : Prop where
  len : ps.length ≤ 1000000
  small : ∀ n (h : n < ps.length), ps[n].1.size ≤ 20 ∧ (Pre ps n).2.size + ps[n].1.size ≤ 200
theorem jn_pre {ps : List (ByteArray × Bool)} (hok : (jn ps [] ⟨#[]⟩).2.2 = true) : ∀ n, n ≤ ps.length → jn (ps.drop n) (Pre ps n).1 (Pre ps n).2 = jn ps [] ⟨#[]⟩ ∧ ∀ i (h : i < ps.length), i < n → ps[i].1.size ≤ 20 ∧ (Pre ps i).2.size + ps[i].1.size ≤ 200 := by
  intro n
  induction n with
  | zero => intro _; exact ⟨by simp [Pre], fun i _ h => by omega⟩
  | succ n ih =>
    intro hn
    have hlt : n < ps.length := by omega
    obtain ⟨e, hs⟩ := ih (by omega)
    rw [jn_at ps n _ _ hlt] at e
    split at e
    · rw [← e] at hok
      cases hok
    · rename_i hsm
      refine ⟨?_, fun i hi hin => ?_⟩
      · split at e
        · rename_i hl
          rw [pre_last hlt hl]
          exact e
        · rename_i hl
          rw [pre_more hlt (by simpa using hl)]
          exact e
      · by_cases ei : i = n
        · subst ei
          omega
        · exact hs i hi (by omega)
theorem fine_of {ps : List (ByteArray × Bool)} (hok : (join ps).2.2 = true) : Fine ps ∧ (join ps).1 = (Pre ps ps.length).1 := by
  unfold join at hok ⊢
  split at hok
  · cases hok
  · rename_i hl
    rw [if_neg hl]
    obtain ⟨e, hs⟩ := jn_pre hok ps.length (Nat.le_refl _)
    rw [jn_end] at e
    exact ⟨⟨by omega, fun n h => hs n h h⟩, by rw [← e]⟩
/-- the parts that are held are those parts -/
def Own (ps : List (ByteArray × Bool)) (xs : List Hd) : Prop := ∀ x ∈ xs, 0 ≤ x.seq ∧ ps[x.seq.toNat]? = some (x.text, x.last)
/-- what holds between the parts -/
structure Iv (ps : List (ByteArray × Bool)) (got : List ByteArray) (nx : Nat) (xs : List Hd) (o : ByteArray) (rs : List ByteArray) : Prop where
  le : nx ≤ ps.length
  msgs : got ++ rs = (Pre ps nx).1
  op : o = (Pre ps nx).2
  own : Own ps xs
/-- the window, as a list -/
structure Wn (nx : Nat) (xs : List Hd) (o : ByteArray) (rs : List ByteArray) : Prop where
  hd : TkHd (nx : Int) o rs.length
  sz : ∀ r ∈ rs, r.size ≤ 200
  asc : xs.Pairwise (fun a b => a.seq < b.seq)
  near : ∀ x ∈ xs, (nx : Int) ≤ x.seq ∧ x.seq < (nx : Int) + 8 ∧ x.seq < 1000000 ∧ x.text.size ≤ 20
theorem tin_iv {ps : List (ByteArray × Bool)} {got : List ByteArray} (hf : Fine ps) (xs : List Hd) : ∀ (nx : Nat) (o : ByteArray) (rs : List ByteArray), Iv ps got nx xs o rs → Wn nx xs o rs →
    Iv ps got (tin xs nx o rs).1 (tin xs nx o rs).2.1 (tin xs nx o rs).2.2.1 (tin xs nx o rs).2.2.2 ∧ Wn (tin xs nx o rs).1 (tin xs nx o rs).2.1 (tin xs nx o rs).2.2.1 (tin xs nx o rs).2.2.2
      ∧ nx ≤ (tin xs nx o rs).1 ∧ (∀ y, (tin xs nx o rs).2.1.head? = some y → ¬ (y.seq = ((tin xs nx o rs).1 : Int) ∧ CanIn (tin xs nx o rs).2.2.1 (tin xs nx o rs).2.2.2.length y.text y.last)) := by
  induction xs with
  | nil => intro nx o rs h hw; exact ⟨h, hw, Nat.le_refl _, fun y hy => by simp [tin] at hy⟩
  | cons x xs ih =>
    intro nx o rs h hw
    by_cases hc : x.seq = (nx : Int) ∧ CanIn o rs.length x.text x.last
    · have hx := h.own x (by simp)
      have hnx : x.seq.toNat = nx := by omega
      rw [hnx] at hx
      obtain ⟨hlt, he⟩ := List.getElem?_eq_some_iff.1 hx.2
      have hs := hf.small nx hlt
      have hcan := hc.2
      unfold CanIn at hcan
      have asc2 := (List.pairwise_cons.1 hw.asc)
      have near2 : ∀ y ∈ xs, ((nx + 1 : Nat) : Int) ≤ y.seq ∧ y.seq < ((nx + 1 : Nat) : Int) + 8 ∧ y.seq < 1000000 ∧ y.text.size ≤ 20 := fun y hy => by
        have h1 := asc2.1 y hy
        have h2 := hw.near y (by simp [hy])
        omega
      have hlen := hf.len
      have hhd := hw.hd
      unfold TkHd at hhd
      have own2 : Own ps xs := fun y hy => h.own y (by simp [hy])
      cases hl : x.last with
      | true =>
        rw [tin_last hc.1 hc.2 hl]
        have e2 : ps[nx].2 = true := by rw [he]; exact hl
        have hp := pre_last hlt e2
        have e1 : ps[nx].1 = x.text := by rw [he]
        refine (ih (nx + 1) _ _ ⟨by omega, ?_, by rw [hp], own2⟩ ⟨?_, ?_, asc2.2, near2⟩).imp id (fun q => q.imp id (fun q => q.imp (fun q => by omega) id))
        · rw [hp, ← h.msgs, ← h.op, e1, List.append_assoc]
        · unfold TkHd
          have h4 : rs.length < 4 := by rcases hcan.2 with q | q; (rw [hl] at q; cases q); exact q
          refine ⟨by omega, by omega, by decide, by simp; omega⟩
        · intro r hr
          rcases List.mem_append.1 hr with hr | hr
          · exact hw.sz r hr
          · simp at hr
            subst hr
            rw [ByteArray.size_append]
            exact hcan.1
      | false =>
        rw [tin_more hc.1 hc.2 hl]
        have e2 : ps[nx].2 = false := by rw [he]; exact hl
        have hp := pre_more hlt e2
        have e1 : ps[nx].1 = x.text := by rw [he]
        refine (ih (nx + 1) _ _ ⟨by omega, by rw [hp]; exact h.msgs, by rw [hp, ← h.op, e1], own2⟩ ⟨?_, hw.sz, asc2.2, near2⟩).imp id (fun q => q.imp id (fun q => q.imp (fun q => by omega) id))
        unfold TkHd
        refine ⟨by omega, by omega, by rw [ByteArray.size_append]; exact hcan.1, hhd.2.2.2⟩
    · have e : tin (x :: xs) nx o rs = (nx, x :: xs, o, rs) := by rw [tin, if_neg hc]
      rw [e]
      exact ⟨h, hw, Nat.le_refl _, fun y hy => by simp at hy; subst hy; exact hc⟩
/-- the first part that is held can't be taken in -/
def Stop (nx : Nat) (xs : List Hd) (o : ByteArray) (rs : List ByteArray) : Prop := ∀ y, xs.head? = some y → ¬ (y.seq = (nx : Int) ∧ CanIn o rs.length y.text y.last)
theorem wn_of {nx : Nat} {xs : List Hd} {o : ByteArray} {rs : List ByteArray} (h : TkOk (nx : Int) xs o rs) : Wn nx xs o rs ∧ Stop nx xs o rs := by
  obtain ⟨hr, hp⟩ := win_iff.1 (HsOk.win h.2.2)
  refine ⟨⟨h.1, fun r hr => ?_, hp, fun x hx => ?_⟩, fun y hy => ?_⟩
  · obtain ⟨i, hi, rfl⟩ := List.mem_iff_getElem.1 hr
    exact h.2.1 i hi
  · obtain ⟨i, hi, rfl⟩ := List.mem_iff_getElem.1 hx
    have q := h.2.2 i hi
    have q2 := hr _ hx
    unfold HOk at q
    unfold Rng at q2
    refine ⟨by omega, q.2.1, q.2.2.1, q.2.2.2.1⟩
  · cases xs with
    | nil => simp at hy
    | cons x xs =>
      simp at hy
      subst hy
      exact (h.2.2 0 (by simp)).2.2.2.2
theorem tk_of {nx : Nat} {xs : List Hd} {o : ByteArray} {rs : List ByteArray} (h : Wn nx xs o rs) (hs : Stop nx xs o rs) : TkOk (nx : Int) xs o rs := by
  have hp := List.pairwise_iff_getElem.1 h.asc
  refine ⟨h.hd, fun i hi => h.sz _ (List.getElem_mem hi), fun i hi => ?_⟩
  have q := h.near _ (List.getElem_mem hi)
  cases i with
  | zero =>
    refine ⟨q.1, q.2.1, q.2.2.1, q.2.2.2, hs _ ?_⟩
    cases xs with
    | nil => simp at hi
    | cons x xs => rfl
  | succ i =>
    have q2 := hp i (i + 1) (by omega) hi (by omega)
    have q3 := h.near _ (List.getElem_mem (show i < xs.length by omega))
    refine ⟨?_, q.2.1, q.2.2.1, q.2.2.2, fun e => by omega⟩
    rw [lowAt_succ _ _ _ (by omega)]
    omega
/-- part k is taken in, or it is held at the next place and can be once a message is pulled -/
def Need (k nx : Nat) (xs : List Hd) (rs : List ByteArray) : Prop := k < nx ∨ (k = nx ∧ rs.length = 4 ∧ ∃ x ∈ xs, x.seq = (nx : Int))
theorem tin_first {ps : List (ByteArray × Bool)} {got : List ByteArray} (hf : Fine ps) {nx : Nat} {xs : List Hd} {o : ByteArray} {rs : List ByteArray} (h : Iv ps got nx xs o rs) (hw : Wn nx xs o rs) (hx : ∃ x ∈ xs, x.seq = (nx : Int)) : nx < (tin xs nx o rs).1 ∨ (tin xs nx o rs = (nx, xs, o, rs) ∧ rs.length = 4) := by
  obtain ⟨x, hx, he⟩ := hx
  cases xs with
  | nil => simp at hx
  | cons y ys =>
    have hy : y = x := by
      rcases List.mem_cons.1 hx with e | e
      · exact e.symm
      · have := (List.pairwise_cons.1 hw.asc).1 x e
        have := (hw.near y (by simp)).1
        omega
    subst hy
    have ho := h.own y (by simp)
    have hn : y.seq.toNat = nx := by omega
    rw [hn] at ho
    obtain ⟨hlt, hps⟩ := List.getElem?_eq_some_iff.1 ho.2
    have hsm := (hf.small nx hlt).2
    rw [hps] at hsm
    have hsm2 : o.size + y.text.size ≤ 200 := by rw [h.op]; exact hsm
    by_cases hc : CanIn o rs.length y.text y.last
    · left
      have hlen := hf.len
      have hhd := hw.hd
      unfold TkHd at hhd
      have mono : ∀ (zs : List Hd) (m : Nat) (p : ByteArray) (ts : List ByteArray), m ≤ (tin zs m p ts).1 := by
        intro zs
        induction zs with
        | nil => intro m p ts; exact Nat.le_refl _
        | cons z zs ih =>
          intro m p ts
          unfold tin
          split
          · split
            · have := ih (m + 1) ⟨#[]⟩ (ts ++ [p ++ z.text]); omega
            · have := ih (m + 1) (p ++ z.text) ts; omega
          · exact Nat.le_refl _
      cases hl : y.last with
      | true => rw [tin_last he hc hl]; exact mono ys (nx + 1) _ _
      | false => rw [tin_more he hc hl]; exact mono ys (nx + 1) _ _
    · right
      refine ⟨by rw [tin, if_neg (fun q => hc q.2)], ?_⟩
      have h4 := hw.hd
      unfold TkHd at h4
      unfold CanIn at hc
      by_cases q : rs.length < 4
      · exact absurd ⟨hsm2, .inr q⟩ hc
      · omega
theorem part_iv {ps : List (ByteArray × Bool)} {got : List ByteArray} (hf : Fine ps) {nx : Nat} {xs : List Hd} {o : ByteArray} {rs : List ByteArray} (h : Iv ps got nx xs o rs) (hv : tkOk (nx : Int) xs o rs = true) (k : Nat) (hk : k < ps.length) :
    ∃ (nx' : Nat) (xs' : List Hd) (o' : ByteArray) (rs' : List ByteArray), partOf (nx : Int) xs o rs (k : Int) ps[k].1 ps[k].2 = (nx', xs', o', rs') ∧ Iv ps got nx' xs' o' rs' ∧ tkOk (nx' : Int) xs' o' rs' = true ∧ nx ≤ nx' ∧ (k < nx → nx' = nx ∧ xs' = xs ∧ o' = o ∧ rs' = rs) ∧ (k ≤ nx → Need k nx' xs' rs') := by
  obtain ⟨hw, hs⟩ := wn_of (tkOk_of hv)
  rw [partOf_yes hv]
  have hstop : tin xs nx o rs = (nx, xs, o, rs) := tin_stop (fun h0 => hs _ (by cases xs with | nil => simp at h0 | cons x xs => rfl))
  have hown : Own ps (heldBy nx xs (k : Int) ps[k].1 ps[k].2) ∧ Wn nx (heldBy nx xs (k : Int) ps[k].1 ps[k].2) o rs := by
    by_cases hp : Puts nx xs (k : Int) ps[k].1
    · rw [heldBy_yes hp]
      refine ⟨fun x hx => ?_, hw.hd, hw.sz, ins_pair _ _ hw.asc (fun y hy => hp.2.2 y hy), fun x hx => ?_⟩
      · rcases (mem_ins _ _ _).1 hx with rfl | hx
        · exact ⟨(by show (0 : Int) ≤ (k : Int); omega), by simp [hk]⟩
        · exact h.own x hx
      · rcases (mem_ins _ _ _).1 hx with rfl | hx
        · have := hp.1
          unfold NearIn at this
          exact ⟨this.1, this.2.1, this.2.2, hp.2.1⟩
        · exact hw.near x hx
    · rw [heldBy_no hp]
      exact ⟨h.own, hw⟩
  have hi : Iv ps got nx (heldBy nx xs (k : Int) ps[k].1 ps[k].2) o rs := ⟨h.le, h.msgs, h.op, hown.1⟩
  obtain ⟨t1, t2, t3, t4⟩ := tin_iv hf _ nx o rs hi hown.2
  refine ⟨_, _, _, _, rfl, t1, tkOk_yes (tk_of t2 t4), t3, fun hlt => ?_, fun hle => ?_⟩
  · have hp : ¬ Puts nx xs (k : Int) ps[k].1 := fun q => by have := q.1.1; omega
    rw [heldBy_no hp, hstop]
    exact ⟨rfl, rfl, rfl, rfl⟩
  · by_cases hlt : k < nx
    · left; omega
    · obtain rfl : k = nx := by omega
      have hex : ∃ x ∈ heldBy k xs (k : Int) ps[k].1 ps[k].2, x.seq = (k : Int) := by
        by_cases hp : Puts k xs (k : Int) ps[k].1
        · rw [heldBy_yes hp]
          exact ⟨_, (mem_ins _ _ _).2 (.inl rfl), rfl⟩
        · rw [heldBy_no hp]
          have hlen := hf.len
          have hn : NearIn (k : Int) (k : Int) := ⟨by omega, by omega, by omega⟩
          have : ¬ ∀ y ∈ xs, y.seq ≠ (k : Int) := fun q => hp ⟨hn, (hf.small k hk).1, q⟩
          simp at this
          obtain ⟨y, hy, he⟩ := this
          exact ⟨y, hy, he⟩
      rcases tin_first hf hi hown.2 hex with q | ⟨q, q4⟩
      · left; exact q
      · right
        rw [q]
        exact ⟨rfl, q4, hex⟩
theorem pull_iv {ps : List (ByteArray × Bool)} {got : List ByteArray} (hf : Fine ps) {nx : Nat} {xs : List Hd} {o : ByteArray} {rs : List ByteArray} (h : Iv ps got nx xs o rs) (hv : tkOk (nx : Int) xs o rs = true) (hr : 0 < rs.length) :
    ∃ (nx' : Nat) (xs' : List Hd) (o' : ByteArray) (rs' : List ByteArray), tin xs nx o (rs.drop 1) = (nx', xs', o', rs') ∧ Iv ps (got ++ [rs[0]]) nx' xs' o' rs' ∧ tkOk (nx' : Int) xs' o' rs' = true ∧ nx ≤ nx' ∧ (∀ k, Need k nx xs rs → k < nx') ∧ (nx = ps.length → nx' = nx ∧ rs'.length + 1 = rs.length) := by
  obtain ⟨hw, hs⟩ := wn_of (tkOk_of hv)
  cases rs with
  | nil => simp at hr
  | cons r rs =>
    simp only [List.drop_succ_cons, List.drop_zero, List.getElem_cons_zero]
    have hhd := hw.hd
    unfold TkHd at hhd
    simp only [List.length_cons] at hhd
    have hi : Iv ps (got ++ [r]) nx xs o rs := ⟨h.le, by rw [← h.msgs]; simp, h.op, h.own⟩
    have hw2 : Wn nx xs o rs := ⟨⟨hhd.1, hhd.2.1, hhd.2.2.1, by omega⟩, fun q hq => hw.sz q (by simp [hq]), hw.asc, hw.near⟩
    obtain ⟨t1, t2, t3, t4⟩ := tin_iv hf xs nx o rs hi hw2
    refine ⟨_, _, _, _, rfl, t1, tkOk_yes (tk_of t2 t4), t3, fun k hk => ?_, fun he => ?_⟩
    · rcases hk with q | ⟨rfl, q4, hex⟩
      · omega
      · rcases tin_first hf hi hw2 hex with q | ⟨_, q⟩
        · exact q
        · simp at q4; omega
    · have hxe : xs = [] := by
        cases xs with
        | nil => rfl
        | cons x xs =>
          have h1 := h.own x (by simp)
          have h2 := hw.near x (by simp)
          obtain ⟨h3, _⟩ := List.getElem?_eq_some_iff.1 h1.2
          omega
      subst hxe
      exact ⟨rfl, rfl⟩
theorem iv_start (ps : List (ByteArray × Bool)) : Iv ps [] 0 [] ⟨#[]⟩ [] := ⟨Nat.zero_le _, rfl, rfl, fun x hx => by simp at hx⟩
theorem iv_begins {ps : List (ByteArray × Bool)} {got : List ByteArray} {nx : Nat} {xs : List Hd} {o : ByteArray} {rs : List ByteArray} (h : Iv ps got nx xs o rs) : got ++ rs <+: (Pre ps ps.length).1 := by
  rw [h.msgs]
  exact pre_mono ps h.le
theorem iv_end {ps : List (ByteArray × Bool)} {got : List ByteArray} {xs : List Hd} {o : ByteArray} (h : Iv ps got ps.length xs o []) : got = (Pre ps ps.length).1 := by
  rw [← h.msgs]
  simp
end Go.Proofs.Ytldlpohkpmapcaa.mk
