/-
  WHILE A LAW ON WORLDS RUNS.
-/
import Derived.Test.YtmliinglojmojabWoA
namespace Go.Proofs.Ytmliinglojmojab.mk
open Go.RowKit
set_option linter.unusedVariables false

theorem Se.mono {m m' : Nat} {e : En} (h : Se m e) (hm : m ≤ m') : Se m' e := ⟨Nat.le_trans h.n hm, fun i hi => Nat.le_trans (h.t i hi) hm, ⟨Nat.le_trans h.tk.n hm, fun i hi => Nat.le_trans (h.tk.t i hi) hm, Nat.le_trans h.tk.o hm, Nat.le_trans h.tk.k hm, fun i hi => Nat.le_trans (h.tk.r i hi) hm⟩⟩
theorem Sw.mono {m m' : Nat} {key : ByteArray} {es : List Ev} {fl : List Pc} {fg : ByteArray} {gv tk : List Rc} (h : Sw m key es fl fg gv tk) (hm : m ≤ m') : Sw m' key es fl fg gv tk :=
  ⟨Nat.le_trans h.key hm, Nat.le_trans h.n hm, fun i hi => (h.ends i hi).mono hm, Nat.le_trans h.f hm, fun i hi => ⟨Nat.le_trans (h.flight i hi).1 hm, Nat.le_trans (h.flight i hi).2 hm⟩, Nat.le_trans h.forged hm, Nat.le_trans h.g hm, fun i hi => Nat.le_trans (h.given i hi) hm, Nat.le_trans h.t hm, fun i hi => Nat.le_trans (h.taken i hi) hm⟩
theorem Sw.same {m : Nat} {key : ByteArray} {es ys : List Ev} {fl : List Pc} {fg : ByteArray} {gv tk : List Rc} (h : Sw m key es fl fg gv tk) (hs : Same es ys) : Sw m key ys fl fg gv tk :=
  ⟨h.key, by rw [hs.len]; exact h.n, fun i hi => by rw [hs.at' i (by rw [← hs.len]; exact hi) hi]; exact h.ends i (by rw [← hs.len]; exact hi), h.f, h.flight, h.forged, h.g, h.given, h.t, h.taken⟩
end Go.Proofs.Ytmliinglojmojab.mk
