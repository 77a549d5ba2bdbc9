/- Several rings that lie apart from each other, and from what else is to stay: each act on one of them. has; rows written out. -/
import Derived.Test.YtnefamgjlhdffaaRgDrawn
import Derived.Test.YtnefamgjlhdffaaRgText
set_option linter.unusedVariables false
namespace Go.Proofs.Ytnefamgjlhdffaa.Lab
open Go Go.RowKit

/-- A ring: its pointer, its room, its lines, its label. -/
structure Rr where
  p : Nat
  n : Nat
  G : List Cls
  l : Int
/-- Rings that lie apart; each block of theirs is from lo on, below hi, and none of Z. -/
def RsAt (w : World) (lo hi : Nat) (Z : Nat → Prop) (L : List Rr) : Prop :=
  ∃ X : Nat → Nat → Prop, (∀ i r, L[i]? = some r → Rg (X i) w r.p r.n r.G r.l ∧ ∀ b, X i b → lo ≤ b ∧ b < hi ∧ ¬ Z b) ∧ ∀ i j, i < L.length → j < L.length → i ≠ j → ∀ b, X i b → ¬ X j b
theorem RsAt.buts {w w' : World} {lo hi : Nat} {Z T : Nat → Prop} {L : List Rr} (h : RsAt w lo hi Z L) (k : Buts T w w') (d : ∀ j, T j → j < lo ∨ hi ≤ j ∨ Z j) : RsAt w' lo hi Z L := by
  obtain ⟨X, h1, h2⟩ := h
  refine ⟨X, fun i r hr => ⟨(h1 i r hr).1.buts k (fun j hj ht => ?_), (h1 i r hr).2⟩, h2⟩
  have := (h1 i r hr).2 j hj
  rcases d j ht with h | h | h
  · omega
  · omega
  · exact this.2.2 h
theorem RsAt.below {w w' : World} {lo hi : Nat} {Z : Nat → Prop} {L : List Rr} (h : RsAt w lo hi Z L) (k : Below w.heap.size w w') : RsAt w' lo hi Z L := h.buts (T := fun _ => False) (Buts.of k) (fun _ h => h.elim)
theorem RsAt.get {w : World} {lo hi i : Nat} {Z : Nat → Prop} {L : List Rr} {r : Rr} (h : RsAt w lo hi Z L) (hr : L[i]? = some r) : ∃ X, Rg X w r.p r.n r.G r.l ∧ ∀ b, X b → lo ≤ b ∧ b < hi ∧ ¬ Z b := by
  obtain ⟨X, h1, _⟩ := h
  exact ⟨X i, h1 i r hr⟩
theorem RsAt.len {w : World} {lo hi i : Nat} {Z : Nat → Prop} {L : List Rr} {r : Rr} (h : RsAt w lo hi Z L) (hr : L[i]? = some r) : r.G.length ≤ r.n ∧ r.n ≤ 1000 ∧ ∀ R ∈ r.G, R.length ≤ 1000 := by
  obtain ⟨X, h1, _⟩ := h.get hr
  exact h1.len
/-- Other bounds, other things that stay. -/
theorem RsAt.mono {w : World} {lo hi hi' : Nat} {Z Z' : Nat → Prop} {L : List Rr} (h : RsAt w lo hi Z L) (k : hi ≤ hi') (d : ∀ j, j < hi → lo ≤ j → Z' j → Z j) : RsAt w lo hi' Z' L := by
  obtain ⟨X, h1, h2⟩ := h
  refine ⟨X, fun i r hr => ⟨(h1 i r hr).1, fun b hb => ?_⟩, h2⟩
  have := (h1 i r hr).2 b hb
  exact ⟨this.1, by omega, fun hz => this.2.2 (d b this.2.1 this.1 hz)⟩
theorem RsAt.nil (w : World) (lo hi : Nat) (Z : Nat → Prop) : RsAt w lo hi Z [] := ⟨fun _ _ => False, fun i r hr => by simp at hr, fun i j hi => by simp at hi⟩
theorem RsAt.cast {w : World} {lo hi : Nat} {Z : Nat → Prop} {L M : List Rr} (h : RsAt w lo hi Z L) (e : L = M) : RsAt w lo hi Z M := e ▸ h
/-- One ring is acted on. -/
theorem RsAt.act {w : World} {lo hi i : Nat} {Z : Nat → Prop} {L : List Rr} {r : Rr} (h : RsAt w lo hi Z L) (hr : L[i]? = some r) (hlo : lo ≤ w.heap.size) (hZ : ∀ j, Z j → j < w.heap.size) :
    ∃ X, Rg X w r.p r.n r.G r.l ∧ (∀ b, X b → lo ≤ b ∧ b < hi ∧ ¬ Z b) ∧ ∀ w' r', Rg (grew X w w') w' r'.p r'.n r'.G r'.l → Buts X w w' → RsAt w' lo w'.heap.size Z (L.set i r') := by
  obtain ⟨X, h1, h2⟩ := h
  refine ⟨X i, (h1 i r hr).1, (h1 i r hr).2, fun w' r' hg hb => ?_⟩
  have hi : i < L.length := (List.getElem?_eq_some_iff.1 hr).1
  have hlt : ∀ j, j < L.length → ∀ b, X j b → b < w.heap.size := fun j hj b hb' => (h1 j L[j] (List.getElem?_eq_getElem hj)).1.now.2 b hb'
  have hs := hb.size
  refine ⟨fun j => if j = i then grew (X i) w w' else X j, fun j r2 hr2 => ?_, fun j k hj hk hjk b hbj hbk => ?_⟩
  · have hj : j < L.length := by have := (List.getElem?_eq_some_iff.1 hr2).1; rwa [List.length_set] at this
    by_cases e : j = i
    · subst e
      rw [List.getElem?_set_self hi] at hr2
      obtain rfl := Option.some.inj hr2
      simp only [↓reduceIte]
      refine ⟨hg, fun b hb' => ?_⟩
      rcases hb' with hb' | hb'
      · have := (h1 j r hr).2 b hb'
        exact ⟨this.1, by have := hlt j hi b hb'; omega, this.2.2⟩
      · exact ⟨by omega, hb'.2, fun hz => by have := hZ b hz; omega⟩
    · rw [List.getElem?_set_ne (Ne.symm e)] at hr2
      simp only [if_neg e]
      refine ⟨(h1 j r2 hr2).1.buts hb (fun b hb1 hb2 => h2 j i hj hi e b hb1 hb2), fun b hb' => ?_⟩
      have := (h1 j r2 hr2).2 b hb'
      exact ⟨this.1, by have := hlt j hj b hb'; omega, this.2.2⟩
  · rw [List.length_set] at hj hk
    by_cases e1 : j = i
    · subst e1
      simp only [↓reduceIte] at hbj
      simp only [if_neg (Ne.symm hjk)] at hbk
      rcases hbj with hb1 | hb1
      · exact h2 j k hj hk hjk b hb1 hbk
      · have := hlt k hk b hbk
        omega
    · simp only [if_neg e1] at hbj
      by_cases e2 : k = i
      · subst e2
        simp only [↓reduceIte] at hbk
        rcases hbk with hb1 | hb1
        · exact h2 j k hj hk hjk b hbj hb1
        · have := hlt j hj b hbj
          omega
      · simp only [if_neg e2] at hbk
        exact h2 j k hj hk hjk b hbj hbk
/-- A ring that is new comes to them. -/
theorem RsAt.add {w : World} {lo hi s : Nat} {Z X : Nat → Prop} {L : List Rr} {r : Rr} (h : RsAt w lo hi Z L) (hg : Rg X w r.p r.n r.G r.l) (hX : ∀ b, X b → s ≤ b) (hs : hi ≤ s) (hlo : lo ≤ s) (hZ : ∀ j, Z j → j < s) (hh : hi ≤ w.heap.size) : RsAt w lo w.heap.size Z (L ++ [r]) := by
  obtain ⟨Y, h1, h2⟩ := h
  refine ⟨fun j => if j < L.length then Y j else X, fun j r2 hr2 => ?_, fun j k hj hk hjk b hbj hbk => ?_⟩
  · by_cases e : j < L.length
    · rw [List.getElem?_append_left e] at hr2
      simp only [if_pos e]
      exact ⟨(h1 j r2 hr2).1, fun b hb => by have := (h1 j r2 hr2).2 b hb; exact ⟨this.1, by omega, this.2.2⟩⟩
    · have hj : j < L.length + 1 := by have := (List.getElem?_eq_some_iff.1 hr2).1; rwa [List.length_append] at this
      obtain rfl : j = L.length := by omega
      rw [List.getElem?_append_right (Nat.le_refl _), Nat.sub_self] at hr2
      obtain rfl : r = r2 := by simpa using hr2
      simp only [if_neg e]
      exact ⟨hg, fun b hb => ⟨by have := hX b hb; omega, hg.now.2 b hb, fun hz => by have := hZ b hz; have := hX b hb; omega⟩⟩
  · rw [List.length_append, List.length_singleton] at hj hk
    by_cases e1 : j < L.length
    · simp only [if_pos e1] at hbj
      by_cases e2 : k < L.length
      · simp only [if_pos e2] at hbk
        exact h2 j k e1 e2 hjk b hbj hbk
      · simp only [if_neg e2] at hbk
        have := (h1 j L[j] (List.getElem?_eq_getElem e1)).2 b hbj
        have := hX b hbk
        omega
    · simp only [if_neg e1] at hbj
      by_cases e2 : k < L.length
      · simp only [if_pos e2] at hbk
        have := (h1 k L[k] (List.getElem?_eq_getElem e2)).2 b hbk
        have := hX b hbj
        omega
      · omega
/-- What an act on one of them leaves alone. -/
abbrev rsB (lo hi : Nat) (Z : Nat → Prop) : Nat → Prop := fun j => lo ≤ j ∧ j < hi ∧ ¬ Z j
theorem rs_push {w : World} {lo hi i : Nat} {Z S : Nat → Prop} {L : List Rr} {r : Rr} {v : Value} {A : List Ln} (h : RsAt w lo hi Z L) (hr : L[i]? = some r) (hlo : lo ≤ w.heap.size) (hZ : ∀ j, Z j → j < w.heap.size) (hA : LIn S w v A) (d : ∀ j, S j → j < lo ∨ hi ≤ j ∨ Z j) (hR : ∀ x ∈ A, x.R.length ≤ 1000) (hl : A.length ≤ 100000) :
    Calls Try.prog 16 #[pV r.p, v] w fun e w' => e = .returned (.tuple #[]) ∧ RsAt w' lo w'.heap.size Z (L.set i ⟨r.p, r.n, lastN r.n (r.G ++ rws A), r.l⟩) ∧ Buts (rsB lo hi Z) w w' := by
  obtain ⟨X, hg, hX, hn⟩ := h.act hr hlo hZ
  refine (push_any X S w r.p r.n r.G r.l v A hg hA (fun j hs hx => ?_) hR hl).mono ?_
  · have := hX j hx
    rcases d j hs with h | h | h
    · omega
    · omega
    · exact this.2.2 h
  · rintro e w' ⟨rfl, g, b⟩
    exact ⟨rfl, hn w' ⟨r.p, r.n, _, r.l⟩ g b, b.mono (fun j _ hj => hX j hj)⟩
theorem grew_mono {X : Nat → Prop} {w w' : World} {p n : Nat} {G : List Cls} {l : Int} (h : Rg X w' p n G l) : Rg (grew X w w') w' p n G l := h.mono (fun j hj => .inl hj) (fun j hj => hj.elim (fun h' => h.now.2 j h') (fun h' => h'.2))
theorem rs_raise {w : World} {lo hi i : Nat} {Z : Nat → Prop} {L : List Rr} {r : Rr} {x : Int} (h : RsAt w lo hi Z L) (hr : L[i]? = some r) (hlo : lo ≤ w.heap.size) (hZ : ∀ j, Z j → j < w.heap.size) (hl : r.l = 0 ∨ r.l = 1) (hx : x = 0 ∨ x = 1) :
    Calls Try.prog 10 #[pV r.p, .int .u8 x] w fun e w' => e = .returned (.tuple #[]) ∧ RsAt w' lo w'.heap.size Z (L.set i ⟨r.p, r.n, r.G, max r.l x⟩) ∧ Buts (rsB lo hi Z) w w' := by
  obtain ⟨X, hg, hX, hn⟩ := h.act hr hlo hZ
  refine (raise_any X w r.p r.n r.G r.l x hg hl hx).mono ?_
  rintro e w' ⟨rfl, g, b⟩
  exact ⟨rfl, hn w' ⟨r.p, r.n, _, _⟩ (grew_mono g) b, b.mono (fun j _ hj => hX j hj)⟩
theorem rs_lower {w : World} {lo hi i : Nat} {Z : Nat → Prop} {L : List Rr} {r : Rr} (x : Int) (h : RsAt w lo hi Z L) (hr : L[i]? = some r) (hlo : lo ≤ w.heap.size) (hZ : ∀ j, Z j → j < w.heap.size) :
    Calls Try.prog 12 #[pV r.p, .int .u8 x] w fun e w' => e = .returned (.tuple #[]) ∧ RsAt w' lo w'.heap.size Z (L.set i ⟨r.p, r.n, r.G.map (toL x), x⟩) ∧ Buts (rsB lo hi Z) w w' := by
  obtain ⟨X, hg, hX, hn⟩ := h.act hr hlo hZ
  refine (lower_any X w r.p r.n r.G r.l x hg).mono ?_
  rintro e w' ⟨rfl, g, b⟩
  exact ⟨rfl, hn w' ⟨r.p, r.n, _, _⟩ (grew_mono g) b, b.mono (fun j _ hj => hX j hj)⟩
theorem rs_clear {w : World} {lo hi i : Nat} {Z : Nat → Prop} {L : List Rr} {r : Rr} (x : Int) (h : RsAt w lo hi Z L) (hr : L[i]? = some r) (hlo : lo ≤ w.heap.size) (hZ : ∀ j, Z j → j < w.heap.size) :
    Calls Try.prog 14 #[pV r.p, .int .u8 x] w fun e w' => e = .returned (.tuple #[]) ∧ RsAt w' lo w'.heap.size Z (L.set i ⟨r.p, r.n, [], x⟩) ∧ Buts (rsB lo hi Z) w w' := by
  obtain ⟨X, hg, hX, hn⟩ := h.act hr hlo hZ
  refine (clear_any X w r.p r.n r.G r.l x hg).mono ?_
  rintro e w' ⟨rfl, g, b⟩
  exact ⟨rfl, hn w' ⟨r.p, r.n, _, _⟩ (grew_mono g) b, b.mono (fun j _ hj => hX j hj)⟩
theorem rs_new {w : World} {lo hi : Nat} {Z : Nat → Prop} {L : List Rr} (n : Nat) (x : Int) (h : RsAt w lo hi Z L) (hn : n ≤ 1000) (hh : hi ≤ w.heap.size) (hlo : lo ≤ w.heap.size) (hZ : ∀ j, Z j → j < w.heap.size) :
    Calls Try.prog 8 #[.int .i64 (n : Nat), .int .u8 x] w fun e w' => ∃ p, e = .returned (pV p) ∧ RsAt w' lo w'.heap.size Z (L ++ [⟨p, n, [], x⟩]) ∧ Below w.heap.size w w' := by
  refine (new_ok w n x hn).mono ?_
  rintro e w' ⟨p, rfl, hp, g, b⟩
  exact ⟨p, rfl, (h.below b).add (X := fun j => j = p) (r := ⟨p, n, [], x⟩) g (fun b hb => by rw [hb]; exact hp) hh hlo hZ (Nat.le_trans hh b.size), b⟩
theorem rs_copy {w : World} {lo hi i : Nat} {Z : Nat → Prop} {L : List Rr} {r : Rr} (h : RsAt w lo hi Z L) (hr : L[i]? = some r) (hh : hi ≤ w.heap.size) (hlo : lo ≤ w.heap.size) (hZ : ∀ j, Z j → j < w.heap.size) :
    Calls Try.prog 15 #[pV r.p] w fun e w' => ∃ q, e = .returned (pV q) ∧ RsAt w' lo w'.heap.size Z (L ++ [⟨q, r.n, r.G, r.l⟩]) ∧ Below w.heap.size w w' := by
  obtain ⟨X, hg, _⟩ := h.get hr
  refine (copy_any X w r.p r.n r.G r.l hg).mono ?_
  rintro e w' ⟨q, rfl, g, b⟩
  exact ⟨q, rfl, (h.below b).add (r := ⟨q, r.n, r.G, r.l⟩) g (fun b hb => hb.1) hh hlo hZ (Nat.le_trans hh b.size), b⟩
theorem rs_all {w : World} {lo hi i : Nat} {Z : Nat → Prop} {L : List Rr} {r : Rr} (h : RsAt w lo hi Z L) (hr : L[i]? = some r) :
    Calls Try.prog 22 #[pV r.p] w fun e w' => ∃ v K, e = .returned v ∧ rws K = r.G ∧ Rows1 (fun j => w.heap.size ≤ j ∧ j < w'.heap.size) w' v K ∧ Below w.heap.size w w' := by
  obtain ⟨X, hg, _⟩ := h.get hr
  exact all_any X w r.p r.n r.G r.l hg
theorem rs_len {w : World} {lo hi i : Nat} {Z : Nat → Prop} {L : List Rr} {r : Rr} (h : RsAt w lo hi Z L) (hr : L[i]? = some r) :
    Calls Try.prog 23 #[pV r.p] w fun e w' => e = .returned (.int .i64 (r.G.length : Nat)) ∧ w = w' := by
  obtain ⟨X, ⟨v, H, f, h1, hG⟩, _⟩ := h.get hr
  have := len_any X w r.p r.n f v H r.l h1
  rw [← hG, turnL_len, List.length_map]
  exact this
theorem rs_label {w : World} {lo hi i : Nat} {Z : Nat → Prop} {L : List Rr} {r : Rr} (h : RsAt w lo hi Z L) (hr : L[i]? = some r) :
    Calls Try.prog 24 #[pV r.p] w fun e w' => e = .returned (.int .u8 r.l) ∧ w = w' := by
  obtain ⟨X, hg, _⟩ := h.get hr
  exact label_any X w r.p r.n r.G r.l hg
theorem rs_same {w : World} {lo hi i j : Nat} {Z : Nat → Prop} {L : List Rr} {r s : Rr} (h : RsAt w lo hi Z L) (hr : L[i]? = some r) (hs : L[j]? = some s) :
    Calls Try.prog 31 #[pV r.p, pV s.p] w fun e w' => e = .returned (.bool (decide (r.n = s.n ∧ r.l = s.l ∧ r.G = s.G))) ∧ Below w.heap.size w w' := by
  obtain ⟨X, hg, _⟩ := h.get hr
  obtain ⟨Y, hg', _⟩ := h.get hs
  exact same_any X Y w r.p s.p r.n s.n r.G s.G r.l s.l hg hg'
theorem rs_text {w : World} {lo hi i : Nat} {Z : Nat → Prop} {L : List Rr} {r : Rr} (h : RsAt w lo hi Z L) (hr : L[i]? = some r) (ht : ∀ R ∈ r.G, TxtOk R) :
    Calls Try.prog 25 #[pV r.p] w fun e w' => ∃ v, e = .returned v ∧ w'.ownsRow w.heap.size 9 1 v r.G.length (txs r.G) ∧ Below w.heap.size w w' := by
  obtain ⟨X, hg, _⟩ := h.get hr
  exact texts_any X w r.p r.n r.G r.l hg ht
/-! ### has -/
def baT (R : Cls) : ByteArray := ⟨(textM R).toArray⟩
theorem join_any (w : World) (v : Value) (G : List Cls) (lo : Nat) (hown : w.ownsRow lo 9 1 v G.length (txs G)) (h0 : 0 < G.length) (hl : G.length ≤ 1000) (hlen : (Lib.join (G.map textM) [32]).length ≤ 1000000) :
    Calls Try.prog 50 #[v, .string ⟨#[32]⟩] w fun e w' => e = .returned (.string ⟨(Lib.join (G.map textM) [32]).toArray⟩) ∧ Below w.heap.size w w' := by
  rcases hown.2 with ⟨_, e⟩ | ⟨g, cap, cur, rfl, hb, hg, hnc, _⟩
  · omega
  have hx : ((G.map baT).map (·.data.toList)) = G.map textM := by
    rw [List.map_map]
    rfl
  have := Try.strings_Join g 0 cap (G.map baT) ⟨#[32]⟩ w (fun j x hj => by
    have hjl : j < G.length := by
      have := (List.getElem?_eq_some_iff.1 hj).1
      simpa using this
    have hc := hown.cells (g := g) rfl j (.string x) (by
      unfold txs
      rw [List.getElem?_map, List.getElem?_eq_getElem hjl] at hj ⊢
      rw [Option.map_some] at hj ⊢
      injection hj with hj
      rw [← hj]
      rfl)
    rwa [Addr.add_mid] at hc) (Array.getElem?_eq_some_iff.1 hg).1 (by rw [List.length_map]; omega) (by rw [List.length_map]; exact hnc) (by rw [hx]; show (Lib.join _ [32]).length ≤ _; omega)
  rw [hx, List.length_map] at this
  exact this
theorem has_yes {w : World} {lo hi i : Nat} {Z : Nat → Prop} {L : List Rr} {r : Rr} (s : ByteArray) (h : RsAt w lo hi Z L) (hr : L[i]? = some r) (ht : ∀ R ∈ r.G, TxtOk R) (h0 : 0 < r.G.length) (he : Lib.join (r.G.map textM) [32] = s.data.toList) (hs : s.size ≤ 1000) :
    Calls Try.prog 35 #[pV r.p, .string s] w fun e w' => e = .returned (.bool true) ∧ Below w.heap.size w w' := by
  have HT := Lib.hid (rs_text h hr ht)
  have hl := h.len hr
  have HJ := Lib.hid (show ∀ (W : World) (v : Value), W.ownsRow w.heap.size 9 1 v r.G.length (txs r.G) → Calls Try.prog 50 #[v, .string ⟨#[32]⟩] W fun e w' => e = .returned (.string s) ∧ Below W.heap.size W w' from fun W v hv => by
    have := join_any W v r.G _ hv h0 (by omega) (by rw [he, show s.data.toList.length = s.size from (by simp)]; omega)
    rw [he] at this
    exact this)
  clear h hr ht h0 he hl
  go_enter Try.func35, Try.ntmps35
  go_wp2_with fail
  refine HT.out.mono ?_
  rintro e w1 ⟨v, rfl, ow, b1⟩
  have HB1 := Lib.hid b1
  have C2 := Lib.hid (HJ.out w1 v ow)
  obtain ⟨va, vc, hv⟩ := own_shape ow
  subst hv
  clear ow b1 HT
  go_wp2_with fail
  refine C2.out.mono ?_
  rintro e w2 ⟨rfl, b2⟩
  have HB2 := Lib.hid (HB1.out.trans (b2.mono HB1.out.size))
  clear b2 C2 HJ
  go_wp2
  go_ret
  exact ⟨by simp, HB2.out⟩
/-! ### rows written out -/
theorem LIn.lit (w : World) (H : List Ln) (S : Nat → Prop) (q : Nat) (hq : q = w.heap.size) (hS : S q) (hr : ∀ x ∈ H, RowIn w x.v x.R) (hf : Foot H S) (hm : H.length ≤ 1000) :
    LIn S (w.alloc (.cells (vls H).toArray 38)) (.slice (some ⟨q, 0, none⟩) H.length H.length) H := by
  subst hq
  have hb : Below w.heap.size w (w.alloc (.cells (vls H).toArray 38)) := (Below.refl _ _).alloc (Nat.le_refl _) _
  refine ⟨⟨_, _, rfl, Nat.le_refl _, by unfold maxLen; omega, fun _ => ⟨_, 0, rfl, by simp, hS, fun i hi => ?_⟩⟩, fun x hx => (hr x hx).below hb, hf⟩
  rw [cell_of_row _ _ _ _ _ (0, 0) (heap_alloc_new w _), Nat.zero_add]
  have := vls_get hi
  simpa using this
end Go.Proofs.Ytnefamgjlhdffaa.Lab
