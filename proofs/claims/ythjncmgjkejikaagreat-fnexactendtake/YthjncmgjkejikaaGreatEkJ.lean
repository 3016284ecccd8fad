/-
  A PACKET at an end: spec.EndTake, one contract.
-/
import Derived.Test.YthjncmgjkejikaaGreatEkU
import Derived.Test.YthjncmgjkejikaaGreatEkV
import Derived.Test.YthjncmgjkejikaaGreatEkW
import Derived.Test.YthjncmgjkejikaaGreatEkX
namespace Go.Proofs.YthjncmgjkejikaaGreat.mk
open Go.RowKit
set_option linter.unusedVariables false

set_option maxHeartbeats 2000000 in
theorem specEk_any (e : En) (g : Nat) (ho so : Option Addr) (ci ch cs : Nat) (k f m y nxt msk sq : Int) (l : Bool) (p : ByteArray) (w : World) (hm : Se 1048576 e) (hr : Re w e (some ⟨g, 0, none⟩) ho so) (hn1 : ho = none → e.hs.length = 0 ∧ ch = 0) (hn2 : so = none → e.rs.length = 0 ∧ cs = 0) (hps : p.size ≤ 1048576) :
    Calls Tryz.prog 15 #[.agg #[.int .i64 e.num, .bool e.up, .int .i64 e.life, .int .i64 e.peer, .int .i64 e.since, .bool e.owes, .int .i64 e.b, .slice (some ⟨g, 0, none⟩) e.xs.length ci, .int .i64 e.nx, .slice ho e.hs.length ch, .string e.o, .slice so e.rs.length cs], .agg #[.int .i64 k, .int .i64 f, .int .i64 m, .int .i64 y, .int .i64 nxt, .int .i64 msk, .int .i64 sq, .bool l, .string p]] w fun x w' => ActPost (takeE e k f m y nxt msk sq l p).1 (takeE e k f m y nxt msk sq l p).2 ⟨#[]⟩ w x w' := by
  obtain ⟨num, up, life, peer, since, owes, b, xs, nx, hs', o, rs⟩ := e
  unfold takeE
  cases V : enOk num up life peer since owes b xs nx hs' o rs with
  | false => exact specEk_no num up life peer since owes b xs nx hs' o rs g ho so ci ch cs k f m y nxt msk sq l p w hm hr.send hr.take hn1 hn2 V
  | true =>
    simp only [if_true]
    cases up with
    | false =>
      have hh : heedsP num false peer k f m y nxt msk sq l p = false := by simp [heedsP]
      simp only [hh, Bool.false_eq_true, if_false]
      have := specEk_1 num life peer since owes b xs nx hs' o rs g ho so ci ch cs k f m y nxt msk sq l p w hm hr.send hr.take hn1 hn2 V 
      exact this
    | true =>
      cases hk : tag.pkOk k f m y nxt msk sq l p with
      | false =>
        have hh : heedsP num true peer k f m y nxt msk sq l p = false := by simp [heedsP, hk]
        simp only [hh, Bool.false_eq_true, if_false]
        have := specEk_2 num life peer since owes b xs nx hs' o rs g ho so ci ch cs k f m y nxt msk sq l p w hm hr.send hr.take hn1 hn2 V hk
        exact this
      | true =>
        by_cases hf : f = num
        · subst hf
          have hh : heedsP f true peer k f m y nxt msk sq l p = false := by simp [heedsP]
          simp only [hh, Bool.false_eq_true, if_false]
          have := specEk_3 f life peer since owes b xs nx hs' o rs g ho so ci ch cs k m y nxt msk sq l p w hm hr.send hr.take hn1 hn2 V hk
          exact this
        · by_cases hml : m < peer
          · have hh : heedsP num true peer k f m y nxt msk sq l p = false := by simp [heedsP]; omega
            simp only [hh, Bool.false_eq_true, if_false]
            have := specEk_4 num life peer since owes b xs nx hs' o rs g ho so ci ch cs k f m y nxt msk sq l p w hm hr.send hr.take hn1 hn2 V hk hf hml
            exact this
          · have hh : heedsP num true peer k f m y nxt msk sq l p = true := by simp [heedsP, hk, hf]; omega
            simp only [hh, if_true]
            by_cases hm1 : peer < m
            · simp only [if_pos hm1]
              obtain ⟨E0, hE0⟩ : ∃ E0 : En, E0 = ⟨num, true, life, peer, since, owes, b, xs, nx, hs', o, rs⟩ := ⟨_, rfl⟩
              rw [← hE0]
              by_cases hy : y = life
              · subst hy
                by_cases hk1 : k = 1
                · subst hk1
                  have T : doE (pairE E0 m) 1 y nxt msk sq l p = ⟨num, true, y, m, since, true, (wordOf 0 [] nxt msk).1, (wordOf 0 [] nxt msk).2, 0, [], ⟨#[]⟩, []⟩ := by
                    have hc : y = (pairE E0 m).life := by subst hE0; rfl
                    unfold doE
                    rw [if_pos hc, if_pos rfl]
                    subst hE0
                    rfl
                  rw [T]
                  have := specEk_NW num y peer since owes b xs nx hs' o rs (wordOf 0 [] nxt msk).1 (wordOf 0 [] nxt msk).2 g ho so ci ch cs f m nxt msk sq l p w hm hr.send hr.take hn1 hn2 V hk hf hm1 rfl
                  exact this
                · obtain rfl : k = 2 := by
                    apply Classical.byContradiction
                    intro h2
                    rw [tag.pkOk_other hk1 h2] at hk
                    cases hk
                  have T : doE (pairE E0 m) 2 y nxt msk sq l p = ⟨num, true, y, m, since, true, 0, [], ((partOf 0 [] ⟨#[]⟩ [] sq p l).1 : Int), (partOf 0 [] ⟨#[]⟩ [] sq p l).2.1, (partOf 0 [] ⟨#[]⟩ [] sq p l).2.2.1, (partOf 0 [] ⟨#[]⟩ [] sq p l).2.2.2⟩ := by
                    have hc : y = (pairE E0 m).life := by subst hE0; rfl
                    unfold doE
                    rw [if_pos hc, if_neg (by decide)]
                    subst hE0
                    rfl
                  rw [T]
                  have := specEk_ND num y peer since owes b xs nx hs' o rs (partOf 0 [] ⟨#[]⟩ [] sq p l).1 (partOf 0 [] ⟨#[]⟩ [] sq p l).2.1 (partOf 0 [] ⟨#[]⟩ [] sq p l).2.2.1 (partOf 0 [] ⟨#[]⟩ [] sq p l).2.2.2 g ho so ci ch cs f m nxt msk sq l p w hm hr.send hr.take hn1 hn2 V hk hf hm1 rfl hps
                  exact this
              · skip
                have T : doE (pairE E0 m) k y nxt msk sq l p = ⟨num, true, life, m, since, true, 0, [], 0, [], ⟨#[]⟩, []⟩ := by
                  have hc : ¬ y = (pairE E0 m).life := by subst hE0; exact hy
                  unfold doE
                  rw [if_neg hc]
                  subst hE0
                  rfl
                rw [T]
                have := specEk_NO num life peer since owes b xs nx hs' o rs g ho so ci ch cs k f m y nxt msk sq l p w hm hr.send hr.take hn1 hn2 V hk hf hm1 hy
                exact this
            · simp only [if_neg hm1]
              obtain rfl : m = peer := by omega
              obtain ⟨E0, hE0⟩ : ∃ E0 : En, E0 = ⟨num, true, life, m, since, owes, b, xs, nx, hs', o, rs⟩ := ⟨_, rfl⟩
              rw [← hE0]
              by_cases hy : y = life
              · subst hy
                by_cases hk1 : k = 1
                · subst hk1
                  have T : doE E0 1 y nxt msk sq l p = ⟨num, true, y, m, since, owes, (wordOf b xs nxt msk).1, (wordOf b xs nxt msk).2, nx, hs', o, rs⟩ := by
                    have hc : y = E0.life := by subst hE0; rfl
                    unfold doE
                    rw [if_pos hc, if_pos rfl]
                    subst hE0
                    rfl
                  rw [T]
                  have := specEk_SW num y m since owes b xs nx hs' o rs (wordOf b xs nxt msk).1 (wordOf b xs nxt msk).2 g ho so ci ch cs f nxt msk sq l p w hm hr.send hr.take hn1 hn2 V hk hf rfl
                  exact this
                · obtain rfl : k = 2 := by
                    apply Classical.byContradiction
                    intro h2
                    rw [tag.pkOk_other hk1 h2] at hk
                    cases hk
                  have T : doE E0 2 y nxt msk sq l p = ⟨num, true, y, m, since, true, b, xs, ((partOf nx hs' o rs sq p l).1 : Int), (partOf nx hs' o rs sq p l).2.1, (partOf nx hs' o rs sq p l).2.2.1, (partOf nx hs' o rs sq p l).2.2.2⟩ := by
                    have hc : y = E0.life := by subst hE0; rfl
                    unfold doE
                    rw [if_pos hc, if_neg (by decide)]
                    subst hE0
                    rfl
                  rw [T]
                  have := specEk_SD num y m since owes b xs nx hs' o rs (partOf nx hs' o rs sq p l).1 (partOf nx hs' o rs sq p l).2.1 (partOf nx hs' o rs sq p l).2.2.1 (partOf nx hs' o rs sq p l).2.2.2 g ho so ci ch cs f nxt msk sq l p w hm hr.send hr.take hn1 hn2 V hk hf rfl hps
                  exact this
              · skip
                have T : doE E0 k y nxt msk sq l p = ⟨num, true, life, m, since, true, b, xs, nx, hs', o, rs⟩ := by
                  have hc : ¬ y = E0.life := by subst hE0; exact hy
                  unfold doE
                  rw [if_neg hc]
                  subst hE0
                  rfl
                rw [T]
                have := specEk_SO num life m since owes b xs nx hs' o rs g ho so ci ch cs k f y nxt msk sq l p w hm hr.send hr.take hn1 hn2 V hk hf hy
                exact this
end Go.Proofs.YthjncmgjkejikaaGreat.mk
