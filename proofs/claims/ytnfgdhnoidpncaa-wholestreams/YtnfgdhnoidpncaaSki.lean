/- The stream package meets what is asked of streams. -/
import Derived.Test.YtnfgdhnoidpncaaSlo
namespace Go.Proofs.Ytnfgdhnoidpncaa
open Go.RowKit

def streamK : SK where
  At := SAt
  lt := fun h => by obtain ⟨A, cA, gr, gi, sv, h⟩ := h; exact ⟨h.lt, h.oB⟩
  keep := fun h hk hs => by obtain ⟨A, cA, gr, gi, sv, h⟩ := h; exact ⟨A, cA, gr, gi, sv, h.keep hk hs⟩
  Sh := ShB
  shKeep := fun {w w' B k} e h => by obtain ⟨off, m, c, h1, h2⟩ := h; exact ⟨off, m, c, by rw [World.cell?_of_block (w := w) e] at h1; exact h1, h2⟩
  new := fun {r r' n v g G sec w} hf hG hS hn => by
    refine (snew_any r r' n v g G sec w hf hG hS hn).mono ?_
    rintro e w' ⟨B, rfl, ⟨A, sv, h1, h2, h3, h4, h5, h6, h7, h8, h9, h10, h11, h12⟩, hb⟩
    exact ⟨B, fun j => w.heap.size ≤ j ∧ j < w'.heap.size, rfl, ⟨A, n, r, r', sv, ⟨h1, hG, hf, h2, h6, h7, h8, h4, h5, ⟨h9, h10⟩, ⟨h11, h12⟩, fun hn b off m c e => h3 hn b off m c e, fun j hj => hj.2, by omega, by omega⟩⟩, fun j hj => hj.1, hb⟩
  push := fun {w O B n G sec g st t c m v X} h hl hoff hn hm ht hc => by
    obtain ⟨A, cA, gr, gi, sv, h⟩ := h
    have hsh := h.sh
    refine (spush_any h hl hoff hn hm ht hc).mono ?_
    rintro e w' ⟨Ab, rfl, h1, h2, h3, h4, h5⟩
    refine ⟨Ab, O, rfl, h1, h2, fun e => by have := h.lt Ab e; omega, h3, ⟨A, cA, gr, gi, sv, h4⟩, fun k hk => .inl hk, h5.mono (fun k hk => ?_)⟩
    rcases hk with rfl | rfl
    · exact ⟨h.oB, hsh.1⟩
    · exact ⟨h.oA, hsh.2⟩
  at_ := fun h => by obtain ⟨A, cA, gr, gi, sv, h⟩ := h; exact sat_any h
  save := fun h hn => by obtain ⟨A, cA, gr, gi, sv, h⟩ := h; exact ssave_any h hn
  load := fun {w A cap n G sec g st t c} hS h hn hA h1 h2 => by
    obtain ⟨w0, O0, B0, A', cA, gr, gi, sv, h⟩ := h
    exact sload_any hS (words_of h) hn hA h1 h2 h.tle h.cle
  fork := fun h hn => by obtain ⟨A, cA, gr, gi, sv, h⟩ := h; exact sfork_any h hn
  SeqIs := SeqAt
  seqKeep := fun h hk => h.keep hk
  seq := fun _ hl hm => sseq_any hl hm
  iter := fun {w gf lb C O B n G sec g st t c m X} hS h hC hn hm ht hc l Zc hZ h0 hr => by
    obtain ⟨A, cA, gr, gi, sv, h⟩ := h
    refine (siter_any hS h hC hn hm ht hc l (fun j W => Zc j W (fun k => O k ∨ C k)) (fun j W W' hz hb => hZ j W W' _ _ hz (hb.mono (fun k hk => ?_)) (fun k hk => .inl hk)) h0 (fun j r i W hj hi hz hA hCl => ?_)).mono ?_
    · rcases hk with rfl | rfl
      · exact .inl h.oB
      · exact .inl h.oA
    · exact hr j r i W O (fun k => O k ∨ C k) hj hi hz ⟨A, cA, gr, gi, sv, hA⟩ (fun k hk => .inl hk) (fun k hk => hk.elim (hA.lt k) (hCl k))
    · rintro e W' ⟨hv, hz, hA⟩
      exact ⟨hv, O, fun k => O k ∨ C k, hz, ⟨A, cA, gr, gi, sv, hA⟩, fun k hk => .inl hk⟩
end Go.Proofs.Ytnfgdhnoidpncaa
