/- What a list of listed errors of errors.New's make gives: their pointers, all different, and their texts. -/
import Derived.Test.YtcbjlimpnclipaaDoorEc
import Derived.Stop.LaidErr
import Derived.LaidHandle
namespace Go.Proofs.YtcbjlimpnclipaaDoor
open Go.RowKit Go.ChangeShapes

def sentDatum (nm : String) (text : List UInt8) : DataW Unit := .iface nm (.ptr (.agg [.lit (.string text)]))

theorem laid_list {P : Program} {nm : String} {W : World} {ti tp te ts : TypeId} {ms : Array (String × TypeId)} {f : Field} (gl : String → Nat)
    (hi : P.underlying ti = some (.interface ms)) (hrow : ∀ u, P.typeName? 3 u = some nm → u = tp)
    (hp : P.underlying tp = some (.pointer te)) (he : P.underlying te = some (.struct #[f])) (hft : f.type = ts) (hfo : f.offset = 0) (hs : P.underlying ts = some .string) (hc : P.cellsOf te = 1) (hcs : P.cellsOf ts = 1) :
    ∀ (L : List (String × List UInt8)) (ps : List MemPlace), (∀ x ∈ L, P.globalNamed x.1 = some (gl x.1) ∧ (P.globals[gl x.1]?).map (·.type) = some ti) →
      DataW.LaidVars P W (L.map fun x => (x.1, sentDatum nm x.2)) ps → ps.Nodup →
      (∀ b off, MemPlace.cell b off ∈ ps → (∃ c t, W.heap[b]? = some (.cells c t (0, 0))) ∧ ∀ u v, W.cell? ⟨b, off, none⟩ = some (.iface u v) → Value.okWide P W .any 0 u v) →
      ∃ ads : List Addr, ads.length = L.length ∧ ads.Nodup ∧ (∀ a ∈ ads, MemPlace.cell a.block a.off ∈ ps) ∧
        ∀ i, i < L.length → W.cell? ⟨gl (L.getD i default).1, 0, none⟩ = some (.iface tp (.pointer (some (ads.getD i default)))) ∧
          (∃ s : ByteArray, W.cell? (ads.getD i default) = some (.string s) ∧ s.data.toList = (L.getD i default).2) ∧ ∃ c t, W.heap[(ads.getD i default).block]? = some (.cells c t (0, 0)) := by
  intro L
  induction L with
  | nil => intro ps _ _ _ _; exact ⟨[], rfl, List.nodup_nil, by simp, fun i hi => by simp at hi⟩
  | cons x L ih =>
    intro ps hL hV hnd hrows
    obtain ⟨g0, t0, cs0, f0, p0, q0, hg0, ht0, hv0, hd0, hrest, rfl⟩ := hV
    obtain ⟨hgx, htx⟩ := hL x (by simp)
    obtain rfl := Option.some.inj (hgx.symm.trans hg0)
    obtain rfl := Option.some.inj (htx.symm.trans ht0)
    obtain ⟨l0⟩ := cs0
    have ok0 : ∀ u v, l0 = [.iface u v] → Value.okWide P W .any 0 u v := fun u v e => by
      subst e
      exact (hrows (gl x.1) 0 (by simp [MemPlace.row])).2 u v (by simpa using World.var?_cell hg0 hv0 0)
    obtain ⟨a0, s0, rfl, hc0, hs0, _, rfl⟩ := errorString_of_trod hi hrow hp he hft hfo hs hc hcs hd0 ok0
    obtain ⟨ads, hlen, hnda, hmem, hall⟩ := ih q0 (fun y hy => hL y (by simp [hy])) hrest (List.Nodup.sublist (List.sublist_append_right _ _) hnd) (fun b off hm => hrows b off (List.mem_append_right _ hm))
    refine ⟨a0 :: ads, by simp [hlen], ?_, ?_, ?_⟩
    · refine List.nodup_cons.2 ⟨fun hin => ?_, hnda⟩
      have h1 := hmem a0 hin
      have h2 : MemPlace.cell a0.block a0.off ∈ MemPlace.row a0 1 := by simp [MemPlace.row]
      rw [List.append_assoc, List.nodup_append] at hnd
      have h3 := (List.nodup_append.1 hnd.2.1).2.2 _ h2 _ h1
      exact h3 rfl
    · intro a ha
      rcases List.mem_cons.1 ha with rfl | ha
      · simp [MemPlace.row]
      · exact List.mem_append_right _ (hmem a ha)
    · intro i hi'
      cases i with
      | zero =>
        refine ⟨by simpa using World.var?_cell hg0 hv0 0, ⟨s0, by simpa using hc0, by simpa using hs0⟩, ?_⟩
        simpa using (hrows a0.block a0.off (by simp [MemPlace.row])).1
      | succ i => simpa using hall i (by simpa using hi')

end Go.Proofs.YtcbjlimpnclipaaDoor
